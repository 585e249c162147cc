/- WordHeads: a row of numbers that is handed in. -/
import Derived.Test.YtjjiendgmnlokaaDoorWr
namespace Go.Proofs.YtjjiendgmnlokaaDoor
open Go.RowKit Go.Sort Go.ChangeShapes Go.WideShapes Go.ChangeAt
set_option linter.unusedVariables false
set_option maxRecDepth 100000
theorem heads_many {w : World} {ad : Option Addr} {len cap : Nat} {b : ByteArray} (h : 60 < len ∨ 1000 < b.size) : Calls Tryd.prog 7 #[.slice ad len cap, .string b] w fun e w' => e = .returned (.bool true) ∧ Below w.heap.size w w' := by
  refine inQ (J := Below w.heap.size w) (F := (· < w.heap.size)) Tryd.func7 (Below.refl _ _) fun a I => ?_
  rcases Nat.lt_or_ge 60 len with h1 | h1
  · refine goQ [lS Tryd.underlying36 (ad := ad) (n := len) (cap := cap) rfl, bO .gtr 3 (run_gtrZ (x := len) (y := 60) (b := true) (by simp; omega)), kC Tryd.func9 awake_any] (nonR w) I fun β a w0 I hb => ?_
    exact outQ (v := .bool true) I ⟨rfl, I.hJ⟩
  · refine goQ [lS Tryd.underlying36 (ad := ad) (n := len) (cap := cap) rfl, bO .gtr 3 (run_gtrZ (x := len) (y := 60) (b := false) (by simp; omega)), lO Tryd.underlying9 (b := b) (n := b.size) rfl, bO .gtr 3 (run_gtrZ (x := b.size) (y := 1000) (b := true) (by simp; omega)), kC Tryd.func9 awake_any] (nonR w) I fun β a w0 I hb => ?_
    exact outQ (v := .bool true) I ⟨rfl, I.hJ⟩
theorem list_of {α : Type} {p : Nat → α → Prop} : ∀ (n : Nat), (∀ i, i < n → ∃ x, p i x) → ∃ l : List α, l.length = n ∧ ∀ i x, l[i]? = some x → p i x
  | 0, _ => ⟨[], rfl, fun i x h => by simp at h⟩
  | n + 1, h => by
    obtain ⟨l, hl, hp⟩ := list_of n fun i hi => h i (by omega)
    obtain ⟨x, hx⟩ := h n (by omega)
    refine ⟨l ++ [x], by simp [hl], fun i y hy => ?_⟩
    rcases Nat.lt_or_ge i l.length with h1 | h1
    · rw [List.getElem?_append_left h1] at hy
      exact hp i y hy
    · rw [List.getElem?_append_right h1] at hy
      have hi0 : i - l.length = 0 := by
        rcases Nat.eq_zero_or_pos (i - l.length) with h2 | h2
        · exact h2
        · rw [List.getElem?_eq_none (by simp; omega)] at hy; cases hy
      rw [hi0] at hy
      simp only [List.getElem?_cons_zero, Option.some.injEq] at hy
      subst hy
      obtain rfl : i = n := by omega
      exact hx
theorem nums_of {H : Type} {enc : TypeId × Value → H} {w : World} {base : Nat} {spare : Nat → Bool} {held : Bool} {fuel : Nat} {v : Value} {x : DataW H × List MemPlace} (h : DataW.trod enc Tryd.prog w base spare held fuel 36 [v] = some x) : ∃ ad us cap, v = .slice ad (List.length (α := Nat) us) cap ∧ NR w ad us := by
  rcases Go.Deep.open_slice Tryd.underlying36 h with ⟨h0, _⟩ | ⟨a, len, cap, m, k, D, Pl, h0, hb, hl, hm, hmm, _, hx⟩
  · simp only [List.cons.injEq, and_true] at h0
    exact ⟨none, [], 0, h0, fun i u hi => by simp at hi⟩
  · simp only [List.cons.injEq, and_true] at h0
    have hle : len ≤ m := by rw [hmm]; split <;> omega
    have at_ : ∀ i, i < len → ∃ u, u < W ∧ ∀ j c, ([B (l0 u), B (l1 u), B (l2 u), B (l3 u)] : List Value)[j]? = some c → w.cell? ((a.add (i * 4)).add j) = some c := by
      intro i hi
      obtain ⟨cs', h1, h2⟩ := hx i (by omega)
      rw [c39] at h1
      obtain ⟨_, hlen, hc⟩ := World.cells?_some h1
      match cs', hlen with
      | [c0, c1, c2, c3], _ =>
        obtain ⟨n, hn, rfl, rfl, rfl, rfl⟩ := num_raw h2
        refine ⟨n, hn, fun j c hj => ?_⟩
        have hj4 : j < 4 := by
          have := (List.getElem?_eq_some_iff.1 hj).1
          exact this
        rw [hc j hj4]; exact hj
    obtain ⟨us, rfl, hus⟩ := list_of len at_
    refine ⟨some a, us, cap, h0, fun i u hi => ?_⟩
    obtain ⟨huW, hc⟩ := hus i u hi
    have hsp : a.spot = none := by
      have hi' : i < us.length := (List.getElem?_eq_some_iff.1 hi).1
      obtain ⟨u0, hu0⟩ : ∃ u0, us[0]? = some u0 := ⟨_, List.getElem?_eq_getElem (by omega)⟩
      have := (hus 0 u0 hu0).2 0 (B (l0 u0)) rfl
      simp only [Nat.zero_mul, Addr.add, if_true] at this
      unfold World.cell? at this
      cases hq : a.spot with
      | none => rfl
      | some q =>
        cases hg : w.heap[a.block]? with
        | none => simp [hg] at this
        | some o => cases o <;> simp [hg, hq] at this
    have ha : a = ⟨a.block, a.off, none⟩ := by cases a; simp only at hsp; rw [hsp]
    refine ⟨a.block, a.off, by rw [← ha], fun j c hj => ?_, huW⟩
    have := hc j c hj
    rw [ha, add_off, add_off] at this
    exact this
theorem heads_any {w : World} {ad : Option Addr} {us : List Nat} {cap : Nat} (hm : NR w ad us) (b : ByteArray) : Calls Tryd.prog 7 #[.slice ad us.length cap, .string b] w fun e w' => e = .returned (.bool true) ∧ Below w.heap.size w w' := by
  by_cases h : 60 < us.length ∨ 1000 < b.size
  · exact heads_many h
  · have hb : b = ⟨b.data.toList.toArray⟩ := by cases b; rfl
    have hs : b.data.toList.length = b.size := rfl
    have := heads_walk (w := w) (ad0 := ad) (cap0 := cap) (us := us) (s := b.data.toList) hm (by omega) (by omega)
    exact this
end Go.Proofs.YtjjiendgmnlokaaDoor
