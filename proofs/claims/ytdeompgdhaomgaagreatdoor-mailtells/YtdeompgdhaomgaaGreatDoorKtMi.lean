/- Out of Mi. -/
import Derived.Test.YtdeompgdhaomgaaGreatDoorKtMd
import Derived.Test.YtdeompgdhaomgaaGreatDoorKtMg
namespace Go.Proofs.YtdeompgdhaomgaaGreatDoor
open Go.RowKit Go.Sort Go.Proofs.Tryz
set_option linter.unusedVariables false
set_option maxRecDepth 100000
set_option maxHeartbeats 4000000
theorem rdM_sound{S:List UInt8}(hS:S.length<W){f:Fi}{v:Va}{l:List Se}(h:rdM S=some (f,v,l)):fitM f v l=true∧wrM f v l=S∧f.2.1<M∧v.1<M∧okX v.2.2.2∧l.length<100000000∧f.1.length<1000000000:=by
 have h':=h;unfold rdM at h;simp only[Option.bind_eq_some_iff]at h;obtain⟨ts,hd,m,hm,hc⟩:=h;obtain⟨ps,hp,hfr,henc⟩:=qg hS hd;rw[parts_fmM]at hp;cases hp;rw[sh_fmM]at hfr;obtain⟨s0,s1,bs,rfl,h0,h1,hn,hbz⟩:=okMl_of (n:=7) hfr;rw[rdM_eq hd]at h';simp only[Option.bind_eq_some_iff]at h';obtain⟨m',hm',hc'⟩:=h';split at hc'
 ·next hfit=>
  cases hc';simp only[]at hfit;obtain⟨k1,k2,k3,k4,k5⟩:=mlOf_ok h0 h1 hn hm';obtain⟨q1,q2,q3⟩:=mlOf_some hm';refine⟨hfit,?_,k1,k2,k3,k4,k5⟩;have w1:wrF f=s0.data.toList:=by
   unfold rdF at q1;simp only[Option.bind_eq_some_iff]at q1;obtain⟨t,_,q1⟩:=q1;split at q1
   ·next e=>cases q1;exact e
   ·cases q1
  have w2:wrV v=s1.data.toList:=by
   unfold rdV at q2;simp only[Option.bind_eq_some_iff]at q2;obtain⟨t,_,q2⟩:=q2;split at q2
   ·next e=>cases q2;exact e
   ·cases q2
  obtain⟨hl,hall⟩:=seOf_some q3;have w3:l.map (seT 7)=bs.map (yj 7):=by
   rw[hl,List.map_map];refine List.map_congr_left fun b hb=>?_;have hb2:=List.all_eq_true.1 hall b hb;cases hr:rdS b.data.toList with
   | none=>rw[sOk,hr]at hb2;cases hb2
   | some s=>
    have e:=(wrS_back hr).1;show yj 7 (bA (wrS ((rdS b.data.toList).getD zSe)))=yj 7 b;rw[hr];show yj 7 (bA (wrS s))=yj 7 b;rw[e]
  unfold wrM;rw[if_pos hfit,← henc];unfold mlT;rw[w1,w2,w3]
 ·cases hc'
theorem rdM_nil:rdM []=none:=by
 cases h:rdM []with
 | none=>rfl
 | some m=>
  obtain⟨f,v,l⟩:=m;obtain⟨h1,h2,_⟩:=rdM_sound (S:=[]) (by decide) h;unfold wrM at h2;rw[if_pos h1]at h2;have h3:32*List.length (α:=TT 8) (mlT f v l)≤(enc 9 (mlT f v l)).length:=enc_ge 8 (mlT f v l);rw[h2]at h3;have h4:List.length (α:=TT 8) (mlT f v l)=3:=rfl;rw[h4]at h3;exact absurd h3 (by decide)
end Go.Proofs.YtdeompgdhaomgaaGreatDoor
