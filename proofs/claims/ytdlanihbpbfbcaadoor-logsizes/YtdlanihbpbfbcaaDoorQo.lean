/- Lists that are handed in; arguments read again behind a call that changes nothing. -/
import Derived.Test.YtdlanihbpbfbcaaDoorQn
import Derived.Test.YtdlanihbpbfbcaaDoorOp
import Derived.ReadAgain
import Derived.Deep.Slices
import Derived.Lib.SmallJoins
import Derived.ChangeShapes
namespace Go.Proofs.YtdlanihbpbfbcaaDoor
open Go.RowKit Go.Sort Go.ChangeShapes Go.WideShapes Go.ChangeAt
set_option linter.unusedVariables false
set_option maxRecDepth 100000
theorem pick_list {α : Type} {P : Nat → α → Prop} : ∀ n : Nat, (∀ i, i < n → ∃ x, P i x) → ∃ l : List α, l.length = n ∧ ∀ i x, l[i]? = some x → P i x
  | 0, _ => ⟨[], rfl, fun i x h => by simp at h⟩
  | n + 1, h => by
    obtain ⟨l, h1, h2⟩ := pick_list n fun i hi => h i (by omega)
    obtain ⟨y, hy⟩ := h n (by omega)
    refine ⟨l ++ [y], by simp [h1], fun i x hx => ?_⟩
    rcases Nat.lt_or_ge i n with hi | hi
    · rw [List.getElem?_append_left (by omega)] at hx
      exact h2 i x hx
    · have hlt := (List.getElem?_eq_some_iff.1 hx).1
      rw [List.length_append, List.length_singleton] at hlt
      obtain rfl : i = n := by omega
      rw [List.getElem?_append_right (by omega), h1, Nat.sub_self] at hx
      simp only [List.getElem?_cons_zero, Option.some.injEq] at hx
      subst hx; exact hy
section
variable {H : Type} {enc : TypeId × Value → H} {w : World} {base : Nat} {spare : Nat → Bool} {held : Bool}
theorem c9 : Tryd.prog.cellsOf 9 = 1 := by kernel_rfl
theorem sl_of {α : Type} {t e sz : Nat} (C : Cl α) (hu : Tryd.prog.underlying t = some (.slice e)) (hc : Tryd.prog.cellsOf e = sz) (hs : 0 < sz) (hone : ∀ {fuel : Nat} {cs : List Value} {x : DataW H × List MemPlace}, DataW.trod enc Tryd.prog w base spare held fuel e cs = some x → ∃ y : α, C (· < w.heap.size) w y cs)
    {fuel : Nat} {v : Value} {x : DataW H × List MemPlace} (h : DataW.trod enc Tryd.prog w base spare held fuel t [v] = some x) : ∃ l : List α, SlI sz C (· < w.heap.size) w v l ∧ ∃ ad cap, v = .slice ad l.length cap ∧ l.length ≤ cap ∧ (ad = none → cap = 0) := by
  rcases Go.Deep.open_slice hu h with ⟨h0, _⟩ | ⟨a, len, cap, m, k, D, Pl, h0, hb, hl, hm, hmm, _, hx⟩
  · simp only [List.cons.injEq, and_true] at h0
    subst h0
    exact ⟨[], SlI.nil _ _, none, 0, rfl, Nat.le_refl _, fun _ => rfl⟩
  · simp only [List.cons.injEq, and_true] at h0
    subst h0
    have hle : len ≤ m := by rw [hmm]; split <;> omega
    have hat : ∀ i, i < len → ∃ y : α, ∃ cs, cs.length = sz ∧ (∀ j c, cs[j]? = some c → w.cell? ((a.add (i * sz)).add j) = some c) ∧ C (· < w.heap.size) w y cs := by
      intro i hi
      obtain ⟨cs', h1, h2⟩ := hx i (by omega)
      obtain ⟨y, hy⟩ := hone h2
      rw [hc] at h1
      obtain ⟨_, hlen, hcs⟩ := World.cells?_some h1
      refine ⟨y, cs', hlen, fun j c hj => ?_, hy⟩
      rw [hcs j (by have := (List.getElem?_eq_some_iff.1 hj).1; omega)]; exact hj
    obtain ⟨l, hl1, hl2⟩ := pick_list len hat
    subst hl1
    refine ⟨l, ⟨some a, cap, rfl, fun i x hi => ?_⟩, some a, cap, rfl, hl, fun h => by cases h⟩
    have hspot : a.spot = none ∧ a.block < w.heap.size := by
      obtain ⟨y, cs, h1, h2, _⟩ := hat 0 (by have := (List.getElem?_eq_some_iff.1 hi).1; omega)
      obtain ⟨c, hc0⟩ : ∃ c, cs[0]? = some c := ⟨_, List.getElem?_eq_getElem (by omega)⟩
      have := h2 0 c hc0
      simp only [Nat.zero_mul, Addr.add, if_true] at this
      unfold World.cell? at this
      cases hg : w.heap[a.block]? with
      | none => simp [hg] at this
      | some o =>
        refine ⟨?_, (Array.getElem?_eq_some_iff.1 hg).1⟩
        cases hq : a.spot with
        | none => rfl
        | some q => cases o <;> simp [hg, hq] at this
    obtain ⟨cs, h1, h2, h3⟩ := hl2 i x hi
    have ha : a = ⟨a.block, a.off, none⟩ := by cases a; simp only at hspot; rw [hspot.1]
    refine ⟨a.block, a.off, cs, by rw [← ha], hspot.2, fun j c hj => ?_, h3⟩
    have := h2 j c hj
    rw [ha, add_off, add_off] at this
    exact this
theorem tx_raw {fuel : Nat} {cs : List Value} {x : DataW H × List MemPlace} (h : DataW.trod enc Tryd.prog w base spare held fuel 9 cs = some x) : ∃ y : Tx, C1s (· < w.heap.size) w y cs := by
  obtain ⟨s, e, _, _⟩ := DataW.trod_string Tryd.underlying9 h
  exact ⟨s.data.toList, e⟩
theorem open_txs {r : Reach} {b0 : Nat} {v : Value} {d : DataW H} {p : List MemPlace} (hv : Value.okWide Tryd.prog w r b0 23 v) (h : DataW.Trod enc Tryd.prog w base spare held 23 v d p) : ∃ (l : List Tx) (ad : Option Addr) (cap : Nat), v = .slice ad l.length cap ∧ TxI w (.slice ad l.length cap) l ∧ (ad = none → cap = 0) := by
  obtain ⟨fuel, hf⟩ := h
  have h1 : v.cells.toList = [v] := by
    cases v <;> first | rfl | (simp [Value.okWide, Cell.okWide, Cell.ok, Tryd.underlying23] at hv)
  rw [h1] at hf
  obtain ⟨l, hl, ad, cap, he, _, hc⟩ := sl_of C1s Tryd.underlying23 c9 (by omega) tx_raw hf
  subst he
  exact ⟨l, ad, cap, rfl, hl, hc⟩
end
section
variable {H : Type} {enc : TypeId × Value → H} {w : World}
theorem reread {W' : World} {ts : List TypeId} {vs : List Value} {ds : List (DataW H)} {p : List MemPlace} (hts : (ts.all fun t => decide (t < Tryd.prog.types.size)) = true) (h : DataW.TrodAll enc Tryd.prog w 0 (fun _ => true) true ts vs ds p) (hb : Below w.heap.size w W') : DataW.TrodAll enc Tryd.prog W' 0 (fun b => decide (b < w.heap.size)) true ts vs ds p := by
  have hlt := DataW.TrodAll.lt h
  have h1 : DataW.TrodAll enc Tryd.prog w 0 (fun b => decide (b < w.heap.size)) true ts vs ds p := DataW.TrodAll.respare (kids_rows (by kernel_rfl) (by kernel_rfl)) (slices_full_of _ (by kernel_rfl)) (fun t ht => by simpa using List.all_eq_true.1 hts t ht) h (fun q hq => by simpa using hlt q hq)
  have carry : ∀ {ts : List TypeId} {vs : List Value} {ds : List (DataW H)} {p : List MemPlace}, (∀ q ∈ p, q.block < w.heap.size) → DataW.TrodAll enc Tryd.prog w 0 (fun b => decide (b < w.heap.size)) true ts vs ds p → DataW.TrodAll enc Tryd.prog W' 0 (fun b => decide (b < w.heap.size)) true ts vs ds p := by
    intro ts
    induction ts with
    | nil => intro vs ds p _ h; cases vs <;> cases ds <;> first | exact h | exact h.elim
    | cons t ts ih =>
      intro vs ds p hp h
      cases vs with
      | nil => cases ds <;> exact h.elim
      | cons v vs =>
        cases ds with
        | nil => exact h.elim
        | cons d ds =>
          obtain ⟨p1, q1, ⟨n, hn⟩, h2, rfl⟩ := h
          refine ⟨p1, q1, ⟨n, DataW.trod_carry n t _ _ hn fun q hq => ?_⟩, ih (fun q hq => hp q (List.mem_append_right _ hq)) h2, rfl⟩
          have hql := hp q (List.mem_append_left _ hq)
          cases q with
          | cell b off => simp only [World.sameAt, World.cell?, hb.block b hql]
          | map b => exact hb.block b hql
  exact carry hlt h1
end
end Go.Proofs.YtdlanihbpbfbcaaDoor
