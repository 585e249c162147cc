/- CodesLists. -/
import Derived.Test.YtoceebhnhccfdaaDoorMc
import Derived.Test.YtoceebhnhccfdaaDoorMf
import Derived.Test.YtoceebhnhccfdaaDoorMg
namespace Go.Proofs.YtoceebhnhccfdaaDoor
open Go.RowKit Go.Sort Go.Shelf
set_option linter.unusedVariables false
set_option maxRecDepth 100000
set_option maxHeartbeats 4000000 in
theorem lists_walk {w : World} (hT : Tb w) (c t : List UInt8) : Calls Tryd.prog 4 #[str c, str t] w fun e w' => e = .returned (.bool true) ∧ RowKit.Below w.heap.size w w' := by
  have h16 : ∀ w', Tb w' → Calls Tryd.prog 16 #[] w' fun e w'' => e = .returned (.bool true) ∧ RowKit.Below w'.heap.size w' w'' := fun w' h => awake_any h
  have hTT : ∀ w', RowKit.Below w.heap.size w w' → Tb w' := fun _ hb => hT.below hb
  refine inQ (J := RowKit.Below w.heap.size w) (F := (· < w.heap.size)) Tryd.func4 (RowKit.Below.refl _ _) fun a I => ?_
  by_cases hc : 3000 < c.length
  · refine goT (T := Tb) [lnO c, bO .gtr 3 (run_gtrZ (x := c.length) (y := 3000) (b := true) (by simp; omega)), cA Tryd.func16 h16] (nonR w) hTT I fun β a w1 I1 hb => ?_
    exact outQ (v := .bool true) I1 ⟨rfl, I1.hJ⟩
  by_cases ht : 3000 < t.length
  · refine goT (T := Tb) [lnO c, bO .gtr 3 (run_gtrZ (x := c.length) (y := 3000) (b := false) (by simp; omega)), lnO t, bO .gtr 3 (run_gtrZ (x := t.length) (y := 3000) (b := true) (by simp; omega)), cA Tryd.func16 h16] (nonR w) hTT I fun β a w1 I1 hb => ?_
    exact outQ (v := .bool true) I1 ⟨rfl, I1.hJ⟩
  have h17 : ∀ w', Tb w' → Calls Tryd.prog 17 #[str t] w' fun e w'' => e = .returned (.tuple #[str (asV t).1, Z ((asV t).2.1 : Nat), Z ((asV t).2.2 : Nat)]) ∧ RowKit.Below w'.heap.size w' w'' := fun w' h => assemble_any h t (by omega)
  have h18 := rassemble_any t (by omega)
  generalize asV t = av at *
  obtain ⟨al, ap, ac⟩ := av
  simp only [] at h17 h18
  refine goT (T := Tb) [lnO c, bO .gtr 3 (run_gtrZ (x := c.length) (y := 3000) (b := false) (by simp; omega)), lnO t, bO .gtr 3 (run_gtrZ (x := t.length) (y := 3000) (b := false) (by simp; omega)), cA Tryd.func17 h17, kC Tryd.func18 h18] (nonR w) hTT I fun β a w1 I1 hb => ?_
  refine ncall (f := 20) [Sum.inl (str c)] Tryd.func20 I1 (callD c (by omega) w1) fun v w2 hR I2 => ?_
  obtain ⟨gA, rfl, hA1, hA2, hA3⟩ := hR
  have B2 : RowKit.Below w.heap.size w w2 := I1.hJ.trans (hA3.mono I1.hJ.size)
  have lA := (Array.getElem?_eq_some_iff.1 hA2).1
  refine goQ [] (nonR w2) I2 fun β3 a3 w3 I3 hb3 => ?_
  have B3 : RowKit.Below w.heap.size w w3 := B2.trans (I3.hJ.mono B2.size)
  have hA3' := (I3.hJ.block gA lA).trans hA2
  have lA3 := (Array.getElem?_eq_some_iff.1 hA3').1
  refine ncall (f := 21) [Sum.inl (str c)] Tryd.func21 I3 (rdests_any c (by omega) w3) fun v w4 hR I4 => ?_
  obtain ⟨gB, rfl, hB1, hB2, hB3⟩ := hR
  have B4 : RowKit.Below w.heap.size w w4 := B3.trans (hB3.mono B3.size)
  have hA4 := (hB3.block gA lA3).trans hA3'
  have hBA : BR w4 (.slice (some ⟨gA, 0, none⟩) c.length c.length) (dsN c) := BR.of (dsN_len c) hA4
  have hBB : BR w4 (.slice (some ⟨gB, 0, none⟩) c.length c.length) (dsN c) := BR.of (dsN_len c) hB2
  have h19 : ∀ w', RowKit.Below w4.heap.size w4 w' → Calls Tryd.prog 19 #[.slice (some ⟨gA, 0, none⟩) c.length c.length, .slice (some ⟨gB, 0, none⟩) c.length c.length] w' fun e w'' => e = .returned (.bool true) ∧ RowKit.Below w'.heap.size w' w'' := fun w' h => by
    have := bools_any (hBA.below h) (hBB.below h) (by rw [dsN_len]; omega) (by rw [dsN_len]; omega)
    rw [decide_eq_true rfl] at this
    exact this
  have h22 : ∀ w', RowKit.Below w4.heap.size w4 w' → Calls Tryd.prog 22 #[str c] w' fun e w'' => e = .returned (str (lsN c)) ∧ RowKit.Below w'.heap.size w' w'' := fun w' h => listing_any (hT.below (B4.trans (h.mono B4.size))) c (by omega)
  have h23 := rlisting_any c (by omega)
  have h16' : ∀ w', RowKit.Below w4.heap.size w4 w' → Calls Tryd.prog 16 #[] w' fun e w'' => e = .returned (.bool true) ∧ RowKit.Below w'.heap.size w' w'' := fun w' h => awake_any (hT.below (B4.trans (h.mono B4.size)))
  generalize lsN c = ls at *
  refine goT (T := RowKit.Below w4.heap.size w4) [cA Tryd.func19 h19, cA Tryd.func22 h22, kC Tryd.func23 h23, bO .eql 9 (eqS_run (a := ls) (b := ls) (q := true) (by simp)), bO .eql 9 (eqS_run (a := al) (b := al) (q := true) (by simp)), bO .eql 3 (run_eqlZ (x := (ap : Nat)) (y := (ap : Nat)) (b := true) (by simp)), bO .eql 3 (run_eqlZ (x := (ac : Nat)) (y := (ac : Nat)) (b := true) (by simp)), cA Tryd.func16 h16'] (nonR w4) (fun _ h => h) I4 fun β5 a5 w5 I5 hb5 => ?_
  exact outQ (v := .bool true) I5 ⟨rfl, B4.trans (I5.hJ.mono B4.size)⟩
end Go.Proofs.YtoceebhnhccfdaaDoor
