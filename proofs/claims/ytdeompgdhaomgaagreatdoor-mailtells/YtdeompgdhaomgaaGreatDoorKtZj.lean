/- Out of Zj. -/
import Derived.Test.YtdeompgdhaomgaaGreatDoorKtYr
namespace Go.Proofs.YtdeompgdhaomgaaGreatDoor
open Go.RowKit Go.Sort Go.Proofs.Tryz
set_option linter.unusedVariables false
set_option maxRecDepth 100000
set_option maxHeartbeats 4000000
theorem RdFP.get{S:List UInt8}{w:World}{e:Ending}{w':World}(h:RdFP S w e w'):Below w.heap.size w w'∧∃ ad cap K,e=.returned (.tuple #[qm ((rdF S).getD zFi) (.slice ad ((rdF S).getD zFi).1.length cap),Z (if(rdF S).isSome=true then 0 else 2)])∧(∀ k,K k→w.heap.size≤k∧k<w'.heap.size)∧SlI 1 CS K w' (.slice ad ((rdF S).getD zFi).1.length cap) ((rdF S).getD zFi).1:=by
 obtain⟨hb,⟨f,ad,cap,K,h1,rfl,_,hK,hS⟩|⟨h1,rfl⟩⟩:=h
 ·rw[h1];exact⟨hb,ad,cap,K,rfl,hK,hS⟩
 ·rw[h1];exact⟨hb,none,0,noK,rfl,fun k h=>h.elim,SlI.nil _ _⟩
theorem RdVP.get{S:List UInt8}{w:World}{e:Ending}{w':World}(h:RdVP S w e w'):Below w.heap.size w w'∧∃ ad cap K,e=.returned (.tuple #[vaV ((rdV S).getD zVa) (.slice ad ((rdV S).getD zVa).2.2.2.length cap),Z (if(rdV S).isSome=true then 0 else 2)])∧(∀ k,K k→w.heap.size≤k∧k<w'.heap.size)∧SlI 2 CE K w' (.slice ad ((rdV S).getD zVa).2.2.2.length cap) ((rdV S).getD zVa).2.2.2:=by
 obtain⟨hb,⟨f,ad,cap,K,h1,rfl,hK,hS⟩|⟨h1,rfl⟩⟩:=h
 ·rw[h1];exact⟨hb,ad,cap,K,rfl,hK,hS⟩
 ·rw[h1];exact⟨hb,none,0,noK,rfl,fun k h=>h.elim,SlI.nil _ _⟩
theorem rdF_len{S:List UInt8}(hS:S.length<W):((rdF S).getD zFi).1.length<1000000000:=by
 cases h:rdF S with
 | none=>decide
 | some f=>
  show f.1.length<_;unfold rdF at h;cases hd:ku fmF S with
  | none=>rw[hd]at h;cases h
  | some ts=>
   rw[hd]at h;simp only[Option.bind_some]at h;split at h
   ·cases h;obtain⟨ps,hp,hfr,_⟩:=qg hS hd;rw[zdj]at hp;cases hp;rw[sh_fmF]at hfr;obtain⟨⟨k0,u0,s0,x0⟩,t1,t2,t3,rfl,hn0⟩:=okFi_of (n:=7) hfr;have e:(fiOf (n:=7) [(k0,u0,s0,x0),t1,t2,t3]).1=List.map (α:=TT 7) (fun t=>bsL t.2.1 20) x0:=rfl;rw[e];have e2:(List.map (α:=TT 7) (fun t=>bsL t.2.1 20) x0).length=List.length (α:=TT 7) x0:=List.length_map _;rw[e2];have:List.length (α:=TT 7) x0<100000000:=hn0;omega
   ·cases h
theorem rdV_ok{S:List UInt8}(hS:S.length<W):okX ((rdV S).getD zVa).2.2.2:=by
 cases h:rdV S with
 | none=>exact⟨by decide,fun x hx=>by cases hx⟩
 | some v=>
  show okX v.2.2.2;unfold rdV at h;cases hd:ku fmV S with
  | none=>rw[hd]at h;cases h
  | some ts=>
   rw[hd]at h;simp only[Option.bind_some]at h;split at h
   ·cases h;obtain⟨ps,hp,hfr,_⟩:=qg hS hd;rw[zbr]at hp;cases hp;rw[sh_fmV]at hfr;exact(vaOf_ok (okVa_of (n:=4) hfr)).1
   ·cases h
end Go.Proofs.YtdeompgdhaomgaaGreatDoor
