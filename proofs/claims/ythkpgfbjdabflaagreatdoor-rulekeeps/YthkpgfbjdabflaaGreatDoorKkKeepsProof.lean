/- The law RuleKeeps holds: for every channel and all states the call returns true, and the arguments read behind it as before. Condition: the package variables truce/hash.turns, truce/hash.places, truce/hash.marks, truce/codes.stopTable, truce/codes.lessTable, truce/codes.inputTable and truce/codes.popTable read as the program's text lays them (the card ties them). -/
import Derived.Test.YthkpgfbjdabflaaGreatDoorKkEj
import Derived.Test.YthkpgfbjdabflaaGreatDoorKkEu
import Derived.Test.YthkpgfbjdabflaaGreatDoorTie
import Derived.Test.YthkpgfbjdabflaaGreatDoorCards
import Derived.SevenTiedAt
namespace Go.Proofs.YthkpgfbjdabflaaGreatDoor
open Go.RowKit Go.Proofs.Tryz
set_option linter.unusedVariables false
set_option maxRecDepth 100000
set_option maxHeartbeats 4000000
section
open Go.ChangeShapes Go.WideShapes Go.ChangeAt Go.RowKit
open Go.ChangeMaps (open_string shut_string)
theorem ruleKeeps_lifted(os:Os)(started:os.Started)(H:Type)(enc:TypeId×Value→H) :
  ReturnsInHanded {} Tryz.checked os 5 .any (fun w args=>(Rows.ruleKeepsSpec.pre enc prog Tryz.f5 [] false w args∧laidMetH prog laid7 w)∧sizedMet enc prog Tryz.f5 (OpenSpec.ofChange Rows.ruleKeepsSpec) false w args)
   (Rows.ruleKeepsSpec.post enc prog Tryz.f5 false true false false):=by
 refine returnsInHanded_of_change_and (C:=Tryz.checked) (X:=fun w _=>laidMetH prog laid7 w) (fun _ _ _ hh h=>h.of_heap hh) own started (by kernel_rfl) func5
  (ChangeSpec.witness_shaped (enc:=enc) (C:=Tryz.checked) (os:=os) (X:=fun w _=>laidMetH prog laid7 w) false (World.laidAll prog os laid7) #[.agg #[.slice none 0 0,.int .u64 0,.string ByteArray.empty,.int .i64 0],.agg #[.int .u64 0,.bool false,.string ByteArray.empty,.slice none 0 0],.agg #[.int .u64 0,.bool false,.string ByteArray.empty,.slice none 0 0]] 8 rfl (World.shaped_of_ZipB (by kernel_rfl) (by kernel_rfl)) (by kernel_rfl) (by kernel_rfl) (by kernel_rfl) (door_met os _)) ?_
 intro W base args ds gs before hval0 hW _ _ hL _;have hval:∀(j:Nat) t v,Tryz.f5.params[j]? = some t→args[j]? = some v→Value.okWide prog W .any base t v:=hval0;have hW':=hW;obtain⟨p,q,hA0,hV,rfl,hfz,hnd⟩:=hW;have hA:DataW.TrodAll enc prog W 0 (fun _=>true) true Tryz.f5.params.toList args.toList ds p:=hA0;rw[Tryz.params5]at hA hval;have hA':=hA;have hT:=tabs_of_laid hL;obtain⟨v0,vs0,d0,ds0,p0,q0,hargs0,rfl,rfl,h0,r0⟩:=trodAll_cons hA;obtain⟨v1,vs1,d1,ds1,p1,q1,hargs1,rfl,rfl,h1,r1⟩:=trodAll_cons r0;obtain rfl:vs0=v1::vs1:=by simp_all
 obtain⟨v2,vs2,d2,ds2,p2,q2,hargs2,rfl,rfl,h2,r2⟩:=trodAll_cons r1;obtain rfl:vs1=v2::vs2:=by simp_all
 obtain⟨rfl,rfl,rfl⟩:=trodAll_nil r2;obtain rfl:args=#[v0,v1,v2]:=by cases args;simp_all
 obtain⟨rfl,rfl⟩:=trodVars_none hV;obtain⟨f0,pv0,rfl,k0,n0⟩:=open_fixed (hval 0 25 v0 rfl rfl) h0;obtain⟨x1,ev1,rfl,k1,n1⟩:=open_var (hval 1 28 v1 rfl rfl) h1;obtain⟨x2,ev2,rfl,k2,n2⟩:=open_var (hval 2 28 v2 rfl rfl) h2;clear hA0 hval0;simp only[List.append_nil]at hW' hA';refine(keeps_walk hT k0 k1 n1 k2 n2).mono fun e W' ⟨he,bel⟩=>?_;subst he;exact⟨_,rfl,_,_,_,[],_,[],hW',trodAll_mk1 (shut_bool underlying4 _),reread (by kernel_rfl) hA' bel,rfl,bel.frame _,fun h=>by cases h⟩
theorem ruleKeeps_holds:Rows.RuleKeepsSaid:=
 OpenClaim.holds_of_wide 5 Tryz.f5 rfl rfl rfl rfl rfl rfl rfl ⟨rfl,rfl,rfl,rfl,rfl⟩ rfl rfl rfl rfl rfl (by kernel_rfl) func5 (by kernel_rfl)
  (of_decide_eq_true (by kernel_rfl)) (by unfold Func.isWrapper;first|(rw[if_pos (by decide +kernel)];kernel_rfl)|(rw[if_neg (by decide +kernel)];exact⟨rfl,rfl⟩))
  (fun os started H enc _=>ruleKeeps_lifted os started H enc)
theorem ruleKeeps_card:Rows.RuleKeepsCardSaid:=
 Claim7.holds_tied_plain_at .later [] [.data, .data, .data, .data, .data, .data, .data] true (true, "637df5d24613b997e7afd9dab57fefb431f831ee6beeef2c9290925bac86615d") true
  ruleKeeps_holds (fun _ h=>by cases h) (by kernel_rfl) (fun _ h=>by cases h) ruleKeeps_row_tie rfl ⟨rfl,rfl⟩ (by kernel_rfl) rfl
  (fun f fn hf hfn=>by
   obtain rfl : f = 5 := Option.some.inj ((show prog.funcNamed "truce/trucelaw14.RuleKeeps" = some 5 by kernel_rfl).symm.trans hf) |>.symm
   obtain rfl:fn=Tryz.f5:=(Option.some.inj (func5.symm.trans hfn)).symm;exact⟨by kernel_rfl,fun j t ht=>by
    rw[Tryz.params5]at ht;have hm:t∈[25,28,28]:=by simpa using Array.mem_of_getElem? ht
    have hall:([25,28,28].all fun u=> !prog.wantsStandIn u)=true:=by kernel_rfl
    exact(show prog.wantsStandIn t=false by simpa using List.all_eq_true.1 hall t hm)⟩)
  (by kernel_rfl)
end
end Go.Proofs.YthkpgfbjdabflaaGreatDoor
