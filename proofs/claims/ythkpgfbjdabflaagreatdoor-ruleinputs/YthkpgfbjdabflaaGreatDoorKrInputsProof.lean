/- The law RuleInputs holds: for every channel, all states and every number of 8 bits the call returns true, and the arguments read behind it as before. Condition: the package variables truce/hash.turns, truce/hash.places, truce/hash.marks, truce/codes.stopTable, truce/codes.lessTable, truce/codes.inputTable and truce/codes.popTable read as the program's text lays them (the card ties them). -/
import Derived.Test.YthkpgfbjdabflaaGreatDoorKrEj
import Derived.Test.YthkpgfbjdabflaaGreatDoorKrEs
import Derived.Test.YthkpgfbjdabflaaGreatDoorKrEu
import Derived.Test.YthkpgfbjdabflaaGreatDoorTie
import Derived.Test.YthkpgfbjdabflaaGreatDoorCards
import Derived.SevenTiedAt
namespace Go.Proofs.YthkpgfbjdabflaaGreatDoor
open Go.ChangeShapes Go.WideShapes Go.ChangeAt Go.RowKit
open Go.ChangeMaps (open_string shut_string)
set_option linter.unusedVariables false

set_option maxRecDepth 100000 in
theorem ruleInputs_lifted (os : Os) (started : os.Started) (H : Type) (enc : TypeId × Value → H) :
    ReturnsInHanded {} Tryz.checked os 7 .any (fun w args => (Rows.ruleInputsSpec.pre enc Tryz.prog Tryz.f7 [] false w args ∧ laidMetH Tryz.prog laid7 w) ∧ sizedMet enc Tryz.prog Tryz.f7 (OpenSpec.ofChange Rows.ruleInputsSpec) false w args)
      (Rows.ruleInputsSpec.post enc Tryz.prog Tryz.f7 false true false false) := by
  refine returnsInHanded_of_change_and (C := Tryz.checked) (X := fun w _ => laidMetH Tryz.prog laid7 w) (fun _ _ _ hh h => h.of_heap hh) own started (by kernel_rfl) Tryz.func7
    (ChangeSpec.witness_shaped (enc := enc) (C := Tryz.checked) (os := os) (X := fun w _ => laidMetH Tryz.prog laid7 w) false (World.laidAll Tryz.prog os laid7) #[.agg #[.slice none 0 0, .int .u64 0, .string ByteArray.empty, .int .i64 0], .agg #[.int .u64 0, .bool false, .string ByteArray.empty, .slice none 0 0], .agg #[.int .u64 0, .bool false, .string ByteArray.empty, .slice none 0 0], .int .u8 0] 8 rfl (World.shaped_of_ZipB (by kernel_rfl) (by kernel_rfl)) (by kernel_rfl) (by kernel_rfl) (by kernel_rfl) (door_met os _)) ?_
  intro W base args ds gs before hval0 hW _ _ hL _
  have hval : ∀ (j : Nat) t v, Tryz.f7.params[j]? = some t → args[j]? = some v → Value.okWide Tryz.prog W .any base t v := hval0
  have hW' := hW
  obtain ⟨p, q, hA0, hV, rfl, hfz, hnd⟩ := hW
  have hA : DataW.TrodAll enc Tryz.prog W 0 (fun _ => true) true Tryz.f7.params.toList args.toList ds p := hA0
  rw [Tryz.params7] at hA hval
  have hA' := hA
  have hT := tabs_of_laid hL
  obtain ⟨v0, vs0, d0, ds0, p0, q0, hargs0, rfl, rfl, h0, r0⟩ := trodAll_cons hA
  obtain ⟨v1, vs1, d1, ds1, p1, q1, hargs1, rfl, rfl, h1, r1⟩ := trodAll_cons r0
  obtain rfl : vs0 = v1 :: vs1 := by simp_all
  obtain ⟨v2, vs2, d2, ds2, p2, q2, hargs2, rfl, rfl, h2, r2⟩ := trodAll_cons r1
  obtain rfl : vs1 = v2 :: vs2 := by simp_all
  obtain ⟨v3, vs3, d3, ds3, p3, q3, hargs3, rfl, rfl, h3, r3⟩ := trodAll_cons r2
  obtain rfl : vs2 = v3 :: vs3 := by simp_all
  obtain ⟨rfl, rfl, rfl⟩ := trodAll_nil r3
  obtain rfl : args = #[v0, v1, v2, v3] := by cases args; simp_all
  obtain ⟨rfl, rfl⟩ := trodVars_none hV
  obtain ⟨f0, pv0, rfl, k0, n0⟩ := open_fixed (hval 0 25 v0 rfl rfl) h0
  obtain ⟨x1, ev1, rfl, k1, n1⟩ := open_var (hval 1 28 v1 rfl rfl) h1
  obtain ⟨x2, ev2, rfl, k2, n2⟩ := open_var (hval 2 28 v2 rfl rfl) h2
  obtain ⟨a3, rfl, rfl, rfl, w3⟩ := open_int Tryz.underlying5 (hval 3 5 v3 rfl rfl) h3
  obtain ⟨k3, rfl, g3⟩ := wf_u8n w3
  clear hA0 hval0
  simp only [List.append_nil] at hW' hA'
  refine (inputs_walk (TT := TT) (fun _ _ h hb => h.below hb) run_A run_B hT k0 k1 n1 k2 n2 k3 g3).mono fun e W' ⟨he, bel⟩ => ?_
  subst he
  exact ⟨_, rfl, _, _, _, [], _, [], hW', trodAll_mk1 (shut_bool Tryz.underlying4 _), reread (by kernel_rfl) hA' bel, rfl, bel.frame _, fun h => by cases h⟩
theorem ruleInputs_holds : Rows.RuleInputsSaid :=
  OpenClaim.holds_of_wide 7 Tryz.f7 rfl rfl rfl rfl rfl rfl rfl ⟨rfl, rfl, rfl, rfl, rfl⟩ rfl rfl rfl rfl rfl (by kernel_rfl) Tryz.func7 (by kernel_rfl)
    (of_decide_eq_true (by kernel_rfl)) (by unfold Func.isWrapper; first | (rw [if_pos (by decide +kernel)]; kernel_rfl) | (rw [if_neg (by decide +kernel)]; exact ⟨rfl, rfl⟩))
    (fun os started H enc _ => ruleInputs_lifted os started H enc)
theorem ruleInputs_card : Rows.RuleInputsCardSaid :=
  Claim7.holds_tied_plain_at .later [] [.data, .data, .data, .data, .data, .data, .data] true (true, "637df5d24613b997e7afd9dab57fefb431f831ee6beeef2c9290925bac86615d") true
    ruleInputs_holds (fun _ h => by cases h) (by kernel_rfl) (fun _ h => by cases h) ruleInputs_row_tie rfl ⟨rfl, rfl⟩ (by kernel_rfl) rfl
    (fun f fn hf hfn => by
      obtain rfl : f = 7 := Option.some.inj ((show Tryz.prog.funcNamed "truce/trucelaw14.RuleInputs" = some 7 by kernel_rfl).symm.trans hf) |>.symm
      obtain rfl : fn = Tryz.f7 := (Option.some.inj (Tryz.func7.symm.trans hfn)).symm
      exact ⟨by kernel_rfl, fun j t ht => by
        rw [Tryz.params7] at ht
        have hm : t ∈ [25, 28, 28, 5] := by simpa using Array.mem_of_getElem? ht
        have hall : ([25, 28, 28, 5].all fun u => !Tryz.prog.wantsStandIn u) = true := by kernel_rfl
        exact (show Tryz.prog.wantsStandIn t = false by simpa using List.all_eq_true.1 hall t hm)⟩)
    (by kernel_rfl)
end Go.Proofs.YthkpgfbjdabflaaGreatDoor
