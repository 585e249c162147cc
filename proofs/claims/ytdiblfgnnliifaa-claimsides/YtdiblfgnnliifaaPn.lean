/- Lists that are handed in; arguments read again behind a call that changes nothing. -/
import Derived.Test.YtdiblfgnnliifaaPa
import Derived.Test.YtdiblfgnnliifaaOp
import Derived.ReadAgain
import Derived.Deep.Slices
import Derived.Lib.SmallJoins
import Derived.ChangeShapes
namespace Go.Proofs.Ytdiblfgnnliifaa
open Go.RowKit Go.Sort Go.ChangeShapes Go.WideShapes Go.ChangeAt
set_option linter.unusedVariables false
set_option maxRecDepth 100000
theorem pick_list {α : Type} {P : Nat → α → Prop} : ∀ n : Nat, (∀ i, i < n → ∃ x, P i x) → ∃ l : List α, l.length = n ∧ ∀ i x, l[i]? = some x → P i x
  | 0, _ => ⟨[], rfl, fun i x h => by simp at h⟩
  | n + 1, h => by
    obtain ⟨l, h1, h2⟩ := pick_list n fun i hi => h i (by omega)
    obtain ⟨y, hy⟩ := h n (by omega)
    refine ⟨l ++ [y], by simp [h1], fun i x hx => ?_⟩
    rcases Nat.lt_or_ge i n with hi | hi
    · rw [List.getElem?_append_left (by omega)] at hx
      exact h2 i x hx
    · have hlt := (List.getElem?_eq_some_iff.1 hx).1
      rw [List.length_append, List.length_singleton] at hlt
      obtain rfl : i = n := by omega
      rw [List.getElem?_append_right (by omega), h1, Nat.sub_self] at hx
      simp only [List.getElem?_cons_zero, Option.some.injEq] at hx
      subst hx; exact hy
section
variable {H : Type} {enc : TypeId × Value → H} {w : World} {base : Nat} {spare : Nat → Bool} {held : Bool}
theorem c9 : Try.prog.cellsOf 9 = 1 := by kernel_rfl
theorem c25 : Try.prog.cellsOf 25 = 4 := by kernel_rfl
theorem c39 : Try.prog.cellsOf 39 = 8 := by kernel_rfl
theorem c3 : Try.prog.cellsOf 3 = 1 := by kernel_rfl
theorem sl_of {α : Type} {t e sz : Nat} (C : Cl α) (hu : Try.prog.underlying t = some (.slice e)) (hc : Try.prog.cellsOf e = sz) (hs : 0 < sz) (hone : ∀ {fuel : Nat} {cs : List Value} {x : DataW H × List MemPlace}, DataW.trod enc Try.prog w base spare held fuel e cs = some x → ∃ y : α, C (· < w.heap.size) w y cs)
    {fuel : Nat} {v : Value} {x : DataW H × List MemPlace} (h : DataW.trod enc Try.prog w base spare held fuel t [v] = some x) : ∃ l : List α, SlI sz C (· < w.heap.size) w v l ∧ ∃ ad cap, v = .slice ad l.length cap ∧ l.length ≤ cap := by
  rcases Go.Deep.open_slice hu h with ⟨h0, _⟩ | ⟨a, len, cap, m, k, D, Pl, h0, hb, hl, hm, hmm, _, hx⟩
  · simp only [List.cons.injEq, and_true] at h0
    subst h0
    exact ⟨[], SlI.nil _ _, none, 0, rfl, Nat.le_refl _⟩
  · simp only [List.cons.injEq, and_true] at h0
    subst h0
    have hle : len ≤ m := by rw [hmm]; split <;> omega
    have hat : ∀ i, i < len → ∃ y : α, ∃ cs, cs.length = sz ∧ (∀ j c, cs[j]? = some c → w.cell? ((a.add (i * sz)).add j) = some c) ∧ C (· < w.heap.size) w y cs := by
      intro i hi
      obtain ⟨cs', h1, h2⟩ := hx i (by omega)
      obtain ⟨y, hy⟩ := hone h2
      rw [hc] at h1
      obtain ⟨_, hlen, hcs⟩ := World.cells?_some h1
      refine ⟨y, cs', hlen, fun j c hj => ?_, hy⟩
      rw [hcs j (by have := (List.getElem?_eq_some_iff.1 hj).1; omega)]; exact hj
    obtain ⟨l, hl1, hl2⟩ := pick_list len hat
    subst hl1
    refine ⟨l, ⟨some a, cap, rfl, fun i x hi => ?_⟩, some a, cap, rfl, hl⟩
    have hspot : a.spot = none ∧ a.block < w.heap.size := by
      obtain ⟨y, cs, h1, h2, _⟩ := hat 0 (by have := (List.getElem?_eq_some_iff.1 hi).1; omega)
      obtain ⟨c, hc0⟩ : ∃ c, cs[0]? = some c := ⟨_, List.getElem?_eq_getElem (by omega)⟩
      have := h2 0 c hc0
      simp only [Nat.zero_mul, Addr.add, if_true] at this
      unfold World.cell? at this
      cases hg : w.heap[a.block]? with
      | none => simp [hg] at this
      | some o =>
        refine ⟨?_, (Array.getElem?_eq_some_iff.1 hg).1⟩
        cases hq : a.spot with
        | none => rfl
        | some q => cases o <;> simp [hg, hq] at this
    obtain ⟨cs, h1, h2, h3⟩ := hl2 i x hi
    have ha : a = ⟨a.block, a.off, none⟩ := by cases a; simp only at hspot; rw [hspot.1]
    refine ⟨a.block, a.off, cs, by rw [← ha], hspot.2, fun j c hj => ?_, h3⟩
    have := h2 j c hj
    rw [ha, add_off, add_off] at this
    exact this
theorem num_raw {fuel : Nat} {c0 c1 c2 c3 : Value} {x : DataW H × List MemPlace} (h : DataW.trod enc Try.prog w base spare held fuel 25 [c0, c1, c2, c3] = some x) : ∃ n, n < W ∧ c0 = B (l0 n) ∧ c1 = B (l1 n) ∧ c2 = B (l2 n) ∧ c3 = B (l3 n) := by
  obtain ⟨y0, y1, y2, y3, m, hx, h0, h1, h2, h3⟩ := trod_array4 Try.underlying25 cellsA22 h
  obtain ⟨a0, e0, rfl, w0⟩ := DataW.trod_int Try.underlying23 h0
  obtain ⟨a1, e1, rfl, w1⟩ := DataW.trod_int Try.underlying23 h1
  obtain ⟨a2, e2, rfl, w2⟩ := DataW.trod_int Try.underlying23 h2
  obtain ⟨a3, e3, rfl, w3⟩ := DataW.trod_int Try.underlying23 h3
  simp only [List.cons.injEq, and_true] at e0 e1 e2 e3
  subst e0 e1 e2 e3
  obtain ⟨k0, rfl, g0⟩ := wf_u64 w0
  obtain ⟨k1, rfl, g1⟩ := wf_u64 w1
  obtain ⟨k2, rfl, g2⟩ := wf_u64 w2
  obtain ⟨k3, rfl, g3⟩ := wf_u64 w3
  refine ⟨mk k0 k1 k2 k3, mk_lt _ _ _ _ g0 g1 g2 g3, ?_, ?_, ?_, ?_⟩
  · rw [l0_mk _ _ _ _ g0]
  · rw [l1_mk _ _ _ _ g0 g1]
  · rw [l2_mk _ _ _ _ g0 g1 g2]
  · rw [l3_mk _ _ _ _ g0 g1 g2 g3]
theorem al_raw {fuel : Nat} {cs : List Value} {x : DataW H × List MemPlace} (h : DataW.trod enc Try.prog w base spare held fuel 39 cs = some x) : ∃ y : Al, C8 (· < w.heap.size) w y cs := by
  obtain ⟨xs, n, _, hx, hl, hlen, hf⟩ := DataW.trod_struct Try.underlying39 h
  rw [c39] at hl
  match cs, hl with
  | [a0, a1, a2, a3, a4, a5, a6, a7], _ =>
    match xs, hlen with
    | [y0, y1, y2, y3, y4], _ =>
      have h0 : DataW.trod enc Try.prog w base spare held n 9 (([a0, a1, a2, a3, a4, a5, a6, a7].drop 0).take (Try.prog.cellsOf 9)) = some y0 := hf 0 _ rfl
      have h1 : DataW.trod enc Try.prog w base spare held n 25 (([a0, a1, a2, a3, a4, a5, a6, a7].drop 1).take (Try.prog.cellsOf 25)) = some y1 := hf 1 _ rfl
      have h2 : DataW.trod enc Try.prog w base spare held n 3 (([a0, a1, a2, a3, a4, a5, a6, a7].drop 5).take (Try.prog.cellsOf 3)) = some y2 := hf 2 _ rfl
      have h3 : DataW.trod enc Try.prog w base spare held n 9 (([a0, a1, a2, a3, a4, a5, a6, a7].drop 6).take (Try.prog.cellsOf 9)) = some y3 := hf 3 _ rfl
      have h4 : DataW.trod enc Try.prog w base spare held n 9 (([a0, a1, a2, a3, a4, a5, a6, a7].drop 7).take (Try.prog.cellsOf 9)) = some y4 := hf 4 _ rfl
      rw [c9] at h0 h3 h4
      rw [c25] at h1
      rw [c3] at h2
      obtain ⟨s0, e0, _, _⟩ := DataW.trod_string Try.underlying9 h0
      obtain ⟨u, hu, q1, q2, q3, q4⟩ := num_raw h1
      obtain ⟨k, e2, _, _⟩ := DataW.trod_int Try.underlying3 h2
      obtain ⟨s3, e3, _, _⟩ := DataW.trod_string Try.underlying9 h3
      obtain ⟨s4, e4, _, _⟩ := DataW.trod_string Try.underlying9 h4
      simp only [List.drop_zero, List.take_succ_cons, List.take_zero, List.cons.injEq, and_true] at e0
      simp only [List.drop_succ_cons, List.drop_zero, List.take_succ_cons, List.take_zero, List.cons.injEq, and_true] at e2 e3 e4
      subst e0 e2 e3 e4 q1 q2 q3 q4
      exact ⟨(s0, u, k, s3, s4), rfl, hu⟩
theorem in_raw {fuel : Nat} {cs : List Value} {x : DataW H × List MemPlace} (h : DataW.trod enc Try.prog w base spare held fuel 3 cs = some x) : ∃ y : Int, C1 (· < w.heap.size) w y cs := by
  obtain ⟨k, e, _, _⟩ := DataW.trod_int Try.underlying3 h
  exact ⟨k, e⟩
theorem open_als {r : Reach} {b0 : Nat} {v : Value} {d : DataW H} {p : List MemPlace} (hv : Value.okWide Try.prog w r b0 22 v) (h : DataW.Trod enc Try.prog w base spare held 22 v d p) : ∃ l : List Al, AlI w v l ∧ ∀ ad cap, v = .slice ad l.length cap → l.length ≤ cap := by
  obtain ⟨fuel, hf⟩ := h
  have h1 : v.cells.toList = [v] := by
    cases v <;> first | rfl | (simp [Value.okWide, Cell.okWide, Cell.ok, Try.underlying22] at hv)
  rw [h1] at hf
  obtain ⟨l, hl, ad, cap, he, hc⟩ := sl_of C8 Try.underlying22 c39 (by omega) al_raw hf
  exact ⟨l, hl, fun ad' cap' he' => by rw [he] at he'; cases he'; exact hc⟩
end
section
variable {H : Type} {enc : TypeId × Value → H} {w : World}
theorem reread {W' : World} {ts : List TypeId} {vs : List Value} {ds : List (DataW H)} {p : List MemPlace} (hts : (ts.all fun t => decide (t < Try.prog.types.size)) = true) (h : DataW.TrodAll enc Try.prog w 0 (fun _ => true) true ts vs ds p) (hb : Below w.heap.size w W') : DataW.TrodAll enc Try.prog W' 0 (fun b => decide (b < w.heap.size)) true ts vs ds p := by
  have hlt := DataW.TrodAll.lt h
  have h1 : DataW.TrodAll enc Try.prog w 0 (fun b => decide (b < w.heap.size)) true ts vs ds p := DataW.TrodAll.respare (kids_rows (by kernel_rfl) (by kernel_rfl)) (slices_full_of _ (by kernel_rfl)) (fun t ht => by simpa using List.all_eq_true.1 hts t ht) h (fun q hq => by simpa using hlt q hq)
  have carry : ∀ {ts : List TypeId} {vs : List Value} {ds : List (DataW H)} {p : List MemPlace}, (∀ q ∈ p, q.block < w.heap.size) → DataW.TrodAll enc Try.prog w 0 (fun b => decide (b < w.heap.size)) true ts vs ds p → DataW.TrodAll enc Try.prog W' 0 (fun b => decide (b < w.heap.size)) true ts vs ds p := by
    intro ts
    induction ts with
    | nil => intro vs ds p _ h; cases vs <;> cases ds <;> first | exact h | exact h.elim
    | cons t ts ih =>
      intro vs ds p hp h
      cases vs with
      | nil => cases ds <;> exact h.elim
      | cons v vs =>
        cases ds with
        | nil => exact h.elim
        | cons d ds =>
          obtain ⟨p1, q1, ⟨n, hn⟩, h2, rfl⟩ := h
          refine ⟨p1, q1, ⟨n, DataW.trod_carry n t _ _ hn fun q hq => ?_⟩, ih (fun q hq => hp q (List.mem_append_right _ hq)) h2, rfl⟩
          have hql := hp q (List.mem_append_left _ hq)
          cases q with
          | cell b off => simp only [World.sameAt, World.cell?, hb.block b hql]
          | map b => exact hb.block b hql
  exact carry hlt h1
end
end Go.Proofs.Ytdiblfgnnliifaa
