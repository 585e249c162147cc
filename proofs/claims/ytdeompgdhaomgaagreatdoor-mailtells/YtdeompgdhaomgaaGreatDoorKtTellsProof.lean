/- The law MailTells holds: for all mails and every text the call returns true, and the arguments read behind it as before. Condition: the package variables unicode/utf8.acceptRanges and unicode/utf8.first read as the program's text lays them (the card ties them; the walk uses neither). -/
import Derived.Test.YtdeompgdhaomgaaGreatDoorKtMm
import Derived.Test.YtdeompgdhaomgaaGreatDoorKtLd
import Derived.Test.YtdeompgdhaomgaaGreatDoorTie
import Derived.Test.YtdeompgdhaomgaaGreatDoorCards
import Derived.SevenTiedAt
namespace Go.Proofs.YtdeompgdhaomgaaGreatDoor
open Go.RowKit Go.Proofs.Tryz
set_option linter.unusedVariables false
set_option maxRecDepth 100000
set_option maxHeartbeats 4000000
section
open Go.ChangeShapes Go.WideShapes Go.ChangeAt Go.RowKit
open Go.ChangeMaps (open_string shut_string)
theorem mailTells_lifted(os:Os)(started:os.Started)(H:Type)(enc:TypeId×Value→H) :
  ReturnsInHanded {} Tryz.checked os 3 .any (fun w args=>(Rows.mailTellsSpec.pre enc prog Tryz.f3 [] false w args∧laidMetH prog laid2 w)∧sizedMet enc prog Tryz.f3 (OpenSpec.ofChange Rows.mailTellsSpec) false w args)
   (Rows.mailTellsSpec.post enc prog Tryz.f3 false true false false):=by
 refine returnsInHanded_of_change_and (C:=Tryz.checked) (X:=fun w _=>laidMetH prog laid2 w) (fun _ _ _ hh h=>h.of_heap hh) own started (by kernel_rfl) func3
  (ChangeSpec.witness_shaped (enc:=enc) (C:=Tryz.checked) (os:=os) (X:=fun w _=>laidMetH prog laid2 w) false (World.laidAll prog os laid2) #[.agg #[.slice none 0 0,.int .u64 0,.string ByteArray.empty,.int .i64 0,.int .u64 0,.bool false,.string ByteArray.empty,.slice none 0 0,.slice none 0 0],.agg #[.slice none 0 0,.int .u64 0,.string ByteArray.empty,.int .i64 0,.int .u64 0,.bool false,.string ByteArray.empty,.slice none 0 0,.slice none 0 0],.string ByteArray.empty] 8 rfl (World.shaped_of_ZipB (by kernel_rfl) (by kernel_rfl)) (by kernel_rfl) (by kernel_rfl) (by kernel_rfl) (door_met os _)) ?_
 intro W base args ds gs before hval0 hW _ _ hL _;have hval:∀(j:Nat) t v,Tryz.f3.params[j]? = some t→args[j]? = some v→Value.okWide prog W .any base t v:=hval0;have hW':=hW;obtain⟨p,q,hA0,hV,rfl,hfz,hnd⟩:=hW;have hA:DataW.TrodAll enc prog W 0 (fun _=>true) true Tryz.f3.params.toList args.toList ds p:=hA0;rw[Tryz.params3]at hA hval;have hA':=hA;obtain⟨v0,vs0,d0,ds0,p0,q0,hargs0,rfl,rfl,h0,r0⟩:=trodAll_cons hA;obtain⟨v1,vs1,d1,ds1,p1,q1,hargs1,rfl,rfl,h1,r1⟩:=trodAll_cons r0;obtain rfl:vs0=v1::vs1:=by simp_all
 obtain⟨v2,vs2,d2,ds2,p2,q2,hargs2,rfl,rfl,h2,r2⟩:=trodAll_cons r1;obtain rfl:vs1=v2::vs2:=by simp_all
 obtain⟨rfl,rfl,rfl⟩:=trodAll_nil r2;obtain rfl:args=#[v0,v1,v2]:=by cases args;simp_all
 obtain⟨rfl,rfl⟩:=trodVars_none hV;obtain⟨f0,u0,l0,pv0,ev0,sv0,rfl,k0⟩:=open_mail (hval 0 33 v0 rfl rfl) h0;obtain⟨f1,u1,l1,pv1,ev1,sv1,rfl,k1⟩:=open_mail (hval 1 33 v1 rfl rfl) h1;obtain⟨s2,rfl,rfl,rfl,hs2⟩:=open_string underlying9 (hval 2 9 v2 rfl rfl) h2;clear hA0 hval0;simp only[List.append_nil]at hW' hA';refine(mtells_walk k0 k1 s2).mono fun e W' ⟨he,bel⟩=>?_;subst he;exact⟨_,rfl,_,_,_,[],_,[],hW',trodAll_mk1 (shut_bool underlying4 _),reread (by kernel_rfl) hA' bel,rfl,bel.frame _,fun h=>by cases h⟩
theorem mailTells_holds:Rows.MailTellsSaid:=
 OpenClaim.holds_of_wide 3 Tryz.f3 rfl rfl rfl rfl rfl rfl rfl ⟨rfl,rfl,rfl,rfl,rfl⟩ rfl rfl rfl rfl rfl (by kernel_rfl) func3 (by kernel_rfl)
  (of_decide_eq_true (by kernel_rfl)) (by unfold Func.isWrapper;first|(rw[if_pos (by decide +kernel)];kernel_rfl)|(rw[if_neg (by decide +kernel)];exact⟨rfl,rfl⟩))
  (fun os started H enc _=>mailTells_lifted os started H enc)
theorem mailTells_card:Rows.MailTellsCardSaid:=
 Claim7.holds_tied_plain_at .later [] [.data, .pinned] true (true, "edc9ff81e72611950481e07e256149cd78c4b4ff000510e743c79a00bfb27e41") true
  mailTells_holds (fun _ h=>by cases h) (by kernel_rfl) (fun _ h=>by cases h) mailTells_row_tie rfl ⟨rfl,rfl⟩ (by kernel_rfl) rfl
  (fun f fn hf hfn=>by
   obtain rfl : f = 3 := Option.some.inj ((show prog.funcNamed "truce/trucelaw28.MailTells" = some 3 by kernel_rfl).symm.trans hf) |>.symm
   obtain rfl:fn=Tryz.f3:=(Option.some.inj (func3.symm.trans hfn)).symm;exact⟨by kernel_rfl,fun j t ht=>by
    rw[Tryz.params3]at ht;have hm:t∈[33,33,9]:=by simpa using Array.mem_of_getElem? ht
    have hall:([33,33,9].all fun u=> !prog.wantsStandIn u)=true:=by kernel_rfl
    exact(show prog.wantsStandIn t=false by simpa using List.all_eq_true.1 hall t hm)⟩)
  (by kernel_rfl)
end
end Go.Proofs.YtdeompgdhaomgaaGreatDoor
