/- Out of Vo. -/
import Derived.Test.YtceedgdbhlpjlaaGreatDoorKfVl
import Derived.Test.YtceedgdbhlpjlaaGreatDoorKfKf
namespace Go.Proofs.YtceedgdbhlpjlaaGreatDoor
open Go.RowKit Go.Sort
set_option linter.unusedVariables false
set_option maxRecDepth 100000
set_option maxHeartbeats 4000000
structure TT (w : World) : Prop where
  tb : Tb w
  ts : Tabs w ki
theorem TT.below {w w' : World} (h : TT w) (hb : Below w.heap.size w w') : TT w' := ⟨h.tb.below hb, h.ts.below hb⟩
theorem runV_short {c i : List UInt8} {g : Int} (n : Nat) (hn : n ≤ 100001) (h : (runN n (beg c i g)).sd ≠ 0) : runV c i g = runN n (beg c i g) := by
  unfold runV
  rw [show (100001 : Nat) = n + (100001 - n) by omega]
  exact runN_more n _ h
abbrev exA : List UInt8 := [96, 2, 96, 3, 1, 95, 82, 96, 32, 95, 243]
theorem exA_run : (runN 20 (beg exA [] 1000)).sd = 1 ∧ (runN 20 (beg exA [] 1000)).out.length = 32 ∧ (runN 20 (beg exA [] 1000)).out[31]? = some 5 := by decide +kernel
theorem exB_run : (runN 20 (beg [1] [] 1000)).sd = 3 ∧ (runN 20 (beg [1] [] 1000)).er = 19 := by decide +kernel
theorem exC_run : (runN 20 (beg [96, 9, 86] [] 1000)).sd = 3 ∧ (runN 20 (beg [96, 9, 86] [] 1000)).er = 20 := by decide +kernel
theorem awake_any (w : World) (h : TT w) : Calls Tryz.prog 9 #[] w fun e w' => e = .returned (.bool true) ∧ Below w.heap.size w w' := by
  have hA := runV_short (c := exA) (i := []) (g := 1000) 20 (by decide) (by rw [exA_run.1]; decide)
  have hB := runV_short (c := [1]) (i := []) (g := 1000) 20 (by decide) (by rw [exB_run.1]; decide)
  have hC := runV_short (c := [96, 9, 86]) (i := []) (g := 1000) 20 (by decide) (by rw [exC_run.1]; decide)
  have a1 : (runV exA [] 1000).sd = 1 := by rw [hA]; exact exA_run.1
  have a2 : (runV exA [] 1000).out.length = 32 := by rw [hA]; exact exA_run.2.1
  have a3 : (runV exA [] 1000).out[31]? = some 5 := by rw [hA]; exact exA_run.2.2
  have b1 : (runV [1] [] 1000).er = 19 := by rw [hB]; exact exB_run.2
  have c1 : (runV [96, 9, 86] [] 1000).er = 20 := by rw [hC]; exact exC_run.2
  have ra := fun w' (h' : TT w') => run_any exA [] (by decide) (by decide) 1000 w' h'.tb h'.ts
  have rb := fun w' (h' : TT w') => run_any [1] [] (by decide) (by decide) 1000 w' h'.tb h'.ts
  have rc := fun w' (h' : TT w') => run_any [96, 9, 86] [] (by decide) (by decide) 1000 w' h'.tb h'.ts
  have hnm := rname_any 1 (by decide)
  have en : nmN 1 = [65, 68, 68] := by decide +kernel
  rw [en] at hnm
  generalize runV exA [] 1000 = fA at *
  generalize runV [1] [] 1000 = fB at *
  generalize runV [96, 9, 86] [] 1000 = fC at *
  refine inQ (J := Below w.heap.size w) (F := (· < w.heap.size)) Tryz.func9 (Below.refl _ _) fun Az I => ?_
  refine goQ [] (nonR w) I fun β1 A1 w1 I1 hb1 => ?_
  refine mcallX [Sum.inl (str exA), Sum.inl (str []), Sum.inl (Z 1000)] Tryz.func14 I1 ((ra w1 (h.below I1.hJ)).mono fun e w2 he => ?_)
  obtain ⟨_, rfl, ad2, cap2, rfl, _, hb2⟩ := he
  have I2 := I1.moved (J' := Below w.heap.size w) (F' := (· < w.heap.size)) (Grow.of_below hb2) (I1.hJ.trans (hb2.mono I1.hJ.size)) (fun _ _ h => h) (frV fA (.slice ad2 fA.st.length cap2))
  refine goQ [] (nonR w) I2 fun β3 A3 w3 I3 hb3 => ?_
  refine mcallX [Sum.inl (str [1]), Sum.inl (str []), Sum.inl (Z 1000)] Tryz.func14 I3 ((rb w3 (h.below I3.hJ)).mono fun e w4 he => ?_)
  obtain ⟨_, rfl, ad4, cap4, rfl, _, hb4⟩ := he
  have I4 := I3.moved (J' := Below w.heap.size w) (F' := (· < w.heap.size)) (Grow.of_below hb4) (I3.hJ.trans (hb4.mono I3.hJ.size)) (fun _ _ h => h) (frV fB (.slice ad4 fB.st.length cap4))
  refine goQ [] (nonR w) I4 fun β5 A5 w5 I5 hb5 => ?_
  refine mcallX [Sum.inl (str [96, 9, 86]), Sum.inl (str []), Sum.inl (Z 1000)] Tryz.func14 I5 ((rc w5 (h.below I5.hJ)).mono fun e w6 he => ?_)
  obtain ⟨_, rfl, ad6, cap6, rfl, _, hb6⟩ := he
  have I6 := I5.moved (J' := Below w.heap.size w) (F' := (· < w.heap.size)) (Grow.of_below hb6) (I5.hJ.trans (hb6.mono I5.hJ.size)) (fun _ _ h => h) (frV fC (.slice ad6 fC.st.length cap6))
  refine goQ [kC Tryz.func17 hnm, bO .eql 9 (eqS_run (a := [65, 68, 68]) (b := [65, 68, 68]) (q := true) rfl), bO .eql 3 (run_eqlZ (x := fA.sd) (y := 1) (b := true) (decide_eq_true a1)), lnO fA.out, bO .eql 3 (run_eqlZ (x := fA.out.length) (y := 32) (b := true) (decide_eq_true (by omega))), iO 9 (p := str fA.out) (i := Z (31 : Nat)) (v := b8 5) (idx_run a3), bO .eql 5 (run_eql8 (x := (5 : Nat)) (y := 5) (b := true) rfl), bO .eql 23 (p := Z fB.er) (q := Z 19) (v := .bool true) (by intros; rw [b1]; simp [go_sem]), bO .eql 23 (p := Z fC.er) (q := Z 20) (v := .bool true) (by intros; rw [c1]; simp [go_sem])] (nonR w) I6 fun β7 A7 w7 I7 hb7 => ?_
  exact outQ (v := .bool true) I7 ⟨rfl, I7.hJ⟩
abbrev h16 (n : Nat) : Value := .int .u16 (n : Int)
theorem cnv16 (n : Nat) (h : n < 65536) (w : World) : (convert 32 3 (h16 n)).run Tryz.prog w = .ok (Z n) w := by
  have : IntKind.i64.wrap (n : Int) = n := wzf (by omega) (by omega)
  simp [go_sem, this]
theorem rem_nat {n m : Nat} (hm : 0 < m) : ((n : Int)).tmod (m : Int) = ((n % m : Nat) : Int) := by rw [Int.tmod_eq_emod_of_nonneg (by omega)]; omega
end Go.Proofs.YtceedgdbhlpjlaaGreatDoor
