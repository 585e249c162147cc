/- The program's place, find and Get. -/
import Derived.Test.YtpjplicioidknaaJg
namespace Go.Proofs.Ytpjplicioidknaa
open Go.RowKit Go.Sort
set_option linter.unusedVariables false
set_option maxRecDepth 100000
theorem place_any {w : World} {g : Nat} {k : Kk} {v : Value} {l A B : List Co} {v0 : Nat} (hr : HasRow w g (skR k)) (h : CoI w v l) (hl : l.length < 1000000000) (D : Dec l k A B v0) : Calls Try.prog 39 #[v, clV g] w fun e w' => e = .returned (.tuple #[Z A.length, .bool (decide (v0 ≠ 0))]) ∧ Below w.heap.size w w' := by
  have hAl : A.length ≤ l.length := by rw [D.len]; omega
  have hfin : (decide (A.length < l.length) && decide ((fun i => match l[i]? with | some c => cmK k (ky c) | none => 0) A.length = 0)) = decide (v0 ≠ 0) := by
    rcases Nat.lt_or_ge A.length l.length with hlt | hge
    · obtain ⟨c, hc⟩ : ∃ t, l[A.length]? = some t := ⟨_, List.getElem?_eq_getElem hlt⟩
      rw [decide_eq_true hlt, Bool.true_and]
      simp only [hc]
      exact D.at hc
    · have : v0 = 0 := by
        have := D.len
        by_cases hv : v0 = 0
        · exact hv
        · rw [if_neg hv] at this; omega
      rw [decide_eq_false (by omega : ¬ A.length < l.length), Bool.false_and, decide_eq_false (show ¬ (v0 ≠ 0) by simp [this])]
  have hS := fun (gf gl : Nat) (w' : World) (hC : ∀ i, i < l.length → ∀ w'', Below w'.heap.size w' w'' → Calls Try.prog 45 #[Z i, ptr0 gf, ptr0 gl] w'' fun e w3 => e = .returned (Z ((fun i => match l[i]? with | some c => cmK k (ky c) | none => 0) i)) ∧ Below w''.heap.size w'' w3) => sfind_any (w := w') (gf := gf) (gl := gl) (n := l.length) (p := A.length) (f := fun i => match l[i]? with | some c => cmK k (ky c) | none => 0) hl hAl (fun i hi => by
    obtain ⟨c, hc⟩ : ∃ t, l[i]? = some t := ⟨_, List.getElem?_eq_getElem (by omega)⟩
    simp only [hc]
    exact D.lo_at hi hc) (fun i hi hin => by
    obtain ⟨c, hc⟩ : ∃ t, l[i]? = some t := ⟨_, List.getElem?_eq_getElem hin⟩
    simp only [hc]
    exact D.hi_at hi hc) hC
  rw [hfin] at hS
  have hP : ∀ (gf gl : Nat) (w' : World), Below w.heap.size w w' → HasRow w' gf #[clV g] → HasRow w' gl #[v] → ∀ i, i < l.length → ∀ w'', Below w'.heap.size w' w'' → Calls Try.prog 45 #[Z i, ptr0 gf, ptr0 gl] w'' fun e w3 => e = .returned (Z ((fun i => match l[i]? with | some c => cmK k (ky c) | none => 0) i)) ∧ Below w''.heap.size w'' w3 := fun gf gl w' hb hf hs i hi w'' hb2 => by
    obtain ⟨c, hc⟩ : ∃ t, l[i]? = some t := ⟨_, List.getElem?_eq_getElem hi⟩
    simp only [hc]
    exact pla_any ((hr.below hb).below hb2) (hf.below hb2) (hs.below hb2) ((h.below C6.loc hb).below C6.loc hb2) hc
  obtain ⟨ad, cap, hv⟩ := h.slice
  subst hv
  generalize decide (v0 ≠ 0) = q at *
  generalize A.length = p at *
  refine inQ (J := Below w.heap.size w) (F := (· < w.heap.size)) Try.func39 (Below.refl _ _) fun a I => ?_
  refine goQ [lnC ad l.length cap] (nonR w) I fun β a w1 I1 hb => ?_
  refine mkfX (fn := .func 45) (ss := [Sum.inr (1, 0), Sum.inr (0, 0)]) I1 ?_
  have hr0 := I1.rowAt 0 (r := #[.slice ad l.length cap])
  have hr1 := I1.rowAt 1 (r := #[clV g])
  refine bcallX [Sum.inl (Z l.length), Sum.inl (plV (β 1) (β 0))] Try.func44 (nonR w) (I1.same (plV (β 1) (β 0))) (fun v => v = .tuple #[Z p, .bool q]) ((hS (β 1) (β 0) w1 (hP (β 1) (β 0) w1 I1.hJ hr1 hr0)).mono fun e w' he => ⟨he.2, _, he.1, rfl⟩) fun v w6 hv I => ?_
  subst hv
  refine goQ [] (nonR w) I fun β3 a w3 I hb3 => ?_
  exact outQ (v := .tuple #[Z p, .bool q]) I ⟨rfl, I.hJ⟩
theorem bd41_2 (x y : ByteArray) (w : World) : (Instr.build 41 (([0, 1] : List Nat).zip [.string x, .string y]).toArray).run Try.prog w = .ok (coV (x, y, 0)) w := by kernel_rfl
theorem find_any {w : World} {x y : ByteArray} {v : Value} {l A B : List Co} {v0 : Nat} (h : CoI w v l) (hl : l.length < 1000000000) (D : Dec l (x, y) A B v0) : Calls Try.prog 28 #[v, .string x, .string y] w fun e w' => e = .returned (.tuple #[Z A.length, .bool (decide (v0 ≠ 0))]) ∧ Below w.heap.size w w' := by
  have hP := fun (g : Nat) (w' : World) (hb : Below w.heap.size w w') (hr : HasRow w' g (skR (x, y))) => place_any hr (h.below C6.loc hb) hl D
  generalize decide (v0 ≠ 0) = q at *
  generalize A.length = p at *
  refine inQ (J := Below w.heap.size w) (F := (· < w.heap.size)) Try.func28 (Below.refl _ _) fun a I => ?_
  refine goQ [dO 41 [0, 1] (bd41_2 x y)] (nonR w) I fun β a w1 I1 hb => ?_
  refine mkfX (fn := .func 40) (ss := [Sum.inr (0, 0)]) I1 ?_
  have hr0 := I1.rowAt 0 (r := skR (x, y))
  refine bcallX [Sum.inl v, Sum.inl (clV (β 0))] Try.func39 (nonR w) (I1.same (clV (β 0))) (fun v => v = .tuple #[Z p, .bool q]) ((hP (β 0) w1 I1.hJ hr0).mono fun e w' he => ⟨he.2, _, he.1, rfl⟩) fun v w6 hv I => ?_
  subst hv
  refine goQ [] (nonR w) I fun β3 a w3 I hb3 => ?_
  exact outQ (v := .tuple #[Z p, .bool q]) I ⟨rfl, I.hJ⟩
theorem get_any {w : World} {x y : ByteArray} {v : Value} {l A B : List Co} {v0 : Nat} (h : CoI w v l) (hl : l.length < 1000000000) (D : Dec l (x, y) A B v0) : Calls Try.prog 13 #[v, .string x, .string y] w fun e w' => e = .returned (U v0) ∧ Below w.heap.size w w' := by
  have hP := fun (w' : World) (hb : Below w.heap.size w w') => find_any (h.below C6.loc hb) hl D
  obtain ⟨ad, cap, rfl, hm⟩ := h
  refine inQ (J := Below w.heap.size w) (F := (· < w.heap.size)) Try.func13 (Below.refl _ _) fun a I => ?_
  by_cases hv : v0 = 0
  · subst hv
    rw [decide_eq_false (by simp)] at hP
    generalize A.length = p at *
    refine goT (T := Below w.heap.size w) [cA Try.func28 hP, ntO false, dO 27 [] bd_Uz] (nonR w) (fun _ h => h) I fun β a w1 I hb => ?_
    exact outQ (v := U 0) I ⟨rfl, I.hJ⟩
  · rw [decide_eq_true hv] at hP
    have hc := D.there hv
    have hil := (List.getElem?_eq_some_iff.1 hc).1
    obtain ⟨g, off, cs, rfl, hlt, hca, rfl, ham⟩ := hm _ _ hc
    generalize A.length = p at *
    have hlU : ∀ w', Below w.heap.size w w' → (loadVar 27 ⟨g, off + p * 6 + 2, none⟩).run Try.prog w' = .ok (U v0) w' := fun w' hb => loadU (c := (x, y, v0)) (hca.keep (hb.block g hlt))
    refine goT (T := Below w.heap.size w) [cA Try.func28 hP, ntO true, ixC g off l.length cap p hil, ldA 27 hlU] (nonR w) (fun _ h => h) I fun β a w1 I hb => ?_
    exact outQ (v := U v0) I ⟨rfl, I.hJ⟩
end Go.Proofs.Ytpjplicioidknaa
