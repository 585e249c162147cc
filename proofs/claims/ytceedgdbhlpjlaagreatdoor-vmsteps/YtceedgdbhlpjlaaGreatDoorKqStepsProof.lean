/- The law VmSteps holds: for all runs the call returns true, and the arguments read behind it as before. Condition: the package variables truce/hash.turns, truce/hash.places, truce/hash.marks, truce/codes.stopTable, truce/codes.lessTable, truce/codes.inputTable and truce/codes.popTable read as the program's text lays them (the card ties them). -/
import Derived.Test.YtceedgdbhlpjlaaGreatDoorKqVy
import Derived.Test.YtceedgdbhlpjlaaGreatDoorKqVx
import Derived.Test.YtceedgdbhlpjlaaGreatDoorKqLd
import Derived.Test.YtceedgdbhlpjlaaGreatDoorTie
import Derived.Test.YtceedgdbhlpjlaaGreatDoorCards
import Derived.SevenTiedAt
namespace Go.Proofs.YtceedgdbhlpjlaaGreatDoor
open Go.RowKit Go.Proofs.Tryz
set_option linter.unusedVariables false
set_option maxRecDepth 100000
set_option maxHeartbeats 4000000
section
open Go.ChangeShapes Go.WideShapes Go.ChangeAt Go.RowKit
open Go.ChangeMaps (open_string shut_string)
theorem vmSteps_lifted(os:Os)(started:os.Started)(H:Type)(enc:TypeId×Value→H) :
  ReturnsInHanded {} Tryz.checked os 3 .any (fun w args=>(Rows.vmStepsSpec.pre enc prog Tryz.f3 [] false w args∧laidMetH prog laid7 w)∧sizedMet enc prog Tryz.f3 (OpenSpec.ofChange Rows.vmStepsSpec) false w args)
   (Rows.vmStepsSpec.post enc prog Tryz.f3 false true false false):=by
 refine returnsInHanded_of_change_and (C:=Tryz.checked) (X:=fun w _=>laidMetH prog laid7 w) (fun _ _ _ hh h=>h.of_heap hh) own started (by kernel_rfl) func3
  (ChangeSpec.witness_shaped (enc:=enc) (C:=Tryz.checked) (os:=os) (X:=fun w _=>laidMetH prog laid7 w) false (World.laidAll prog os laid7) #[.agg #[.string ByteArray.empty,.string ByteArray.empty,.slice none 0 0,.string ByteArray.empty,.int .i64 0,.int .i64 0,.int .i64 0,.int .i64 0,.string ByteArray.empty],.agg #[.string ByteArray.empty,.string ByteArray.empty,.slice none 0 0,.string ByteArray.empty,.int .i64 0,.int .i64 0,.int .i64 0,.int .i64 0,.string ByteArray.empty]] 8 rfl (World.shaped_of_ZipB (by kernel_rfl) (by kernel_rfl)) (by kernel_rfl) (by kernel_rfl) (by kernel_rfl) (door_met os _)) ?_
 intro W base args ds gs before hval0 hW _ _ hL _;have hval:∀(j:Nat) t v,Tryz.f3.params[j]? = some t→args[j]? = some v→Value.okWide prog W .any base t v:=hval0;have hW':=hW;obtain⟨p,q,hA0,hV,rfl,hfz,hnd⟩:=hW;have hA:DataW.TrodAll enc prog W 0 (fun _=>true) true Tryz.f3.params.toList args.toList ds p:=hA0;rw[Tryz.params3]at hA hval;have hA':=hA;have hT:=tabs_of_laid hL;obtain⟨v0,vs0,d0,ds0,p0,q0,hargs0,rfl,rfl,h0,r0⟩:=trodAll_cons hA;obtain⟨v1,vs1,d1,ds1,p1,q1,hargs1,rfl,rfl,h1,r1⟩:=trodAll_cons r0;obtain rfl:vs0=v1::vs1:=by simp_all
 obtain⟨rfl,rfl,rfl⟩:=trodAll_nil r1;obtain rfl:args=#[v0,v1]:=by cases args;simp_all
 obtain⟨rfl,rfl⟩:=trodVars_none hV;obtain⟨f0,ad0,cap0,rfl,c0,n0,k0⟩:=open_frame (hval 0 25 v0 rfl rfl) h0;obtain⟨f1,ad1,cap1,rfl,c1,n1,k1⟩:=open_frame (hval 1 25 v1 rfl rfl) h1;clear hA0 hval0;simp only[List.append_nil]at hW' hA';refine(steps_walk f0 f1 ad0 ad1 cap0 cap1 c0 n0 n1 W hT k0 k1).mono fun e W' ⟨he,bel⟩=>?_;subst he;exact⟨_,rfl,_,_,_,[],_,[],hW',trodAll_mk1 (shut_bool underlying4 _),reread (by kernel_rfl) hA' bel,rfl,bel.frame _,fun h=>by cases h⟩
theorem vmSteps_holds:Rows.VmStepsSaid:=
 OpenClaim.holds_of_wide 3 Tryz.f3 rfl rfl rfl rfl rfl rfl rfl ⟨rfl,rfl,rfl,rfl,rfl⟩ rfl rfl rfl rfl rfl (by kernel_rfl) func3 (by kernel_rfl)
  (of_decide_eq_true (by kernel_rfl)) (by unfold Func.isWrapper;first|(rw[if_pos (by decide +kernel)];kernel_rfl)|(rw[if_neg (by decide +kernel)];exact⟨rfl,rfl⟩))
  (fun os started H enc _=>vmSteps_lifted os started H enc)
theorem vmSteps_card:Rows.VmStepsCardSaid:=
 Claim7.holds_tied_plain_at .later [] [.data, .data, .data, .data, .data, .data, .data] true (true, "f6278f8aae92d3454f3096059c9d45e56ec10d3f32a0111ef5915b508ba788d3") true
  vmSteps_holds (fun _ h=>by cases h) (by kernel_rfl) (fun _ h=>by cases h) vmSteps_row_tie rfl ⟨rfl,rfl⟩ (by kernel_rfl) rfl
  (fun f fn hf hfn=>by
   obtain rfl : f = 3 := Option.some.inj ((show prog.funcNamed "truce/trucelaw13.VmSteps" = some 3 by kernel_rfl).symm.trans hf) |>.symm
   obtain rfl:fn=Tryz.f3:=(Option.some.inj (func3.symm.trans hfn)).symm;exact⟨by kernel_rfl,fun j t ht=>by
    rw[Tryz.params3]at ht;have hm:t∈[25,25]:=by simpa using Array.mem_of_getElem? ht
    have hall:([25,25].all fun u=> !prog.wantsStandIn u)=true:=by kernel_rfl
    exact(show prog.wantsStandIn t=false by simpa using List.all_eq_true.1 hall t hm)⟩)
  (by kernel_rfl)
end
end Go.Proofs.YtceedgdbhlpjlaaGreatDoor
