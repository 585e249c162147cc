/- Out of Yk. -/
import Derived.Test.YtceedgdbhlpjlaaGreatDoorKqYj
namespace Go.Proofs.YtceedgdbhlpjlaaGreatDoor
open Go.RowKit Go.Sort Tryz
set_option linter.unusedVariables false
set_option maxRecDepth 100000
set_option maxHeartbeats 4000000
theorem sequal_any(s t:List Nat)(v v':Value)(hnf:∀ u∈s,u<W)(hng:∀ u∈t,u<W)(hlf:s.length≤100000)(w:World)(h1:SkR w v s)(h2:SkR w v' t):Calls prog 30 #[v,v'] w fun e w'=>e=.returned (.bool (decide (s=t)))∧Below w.heap.size w w':=by
 obtain⟨ad,cap,rfl,hr⟩:=h1;obtain⟨ad',cap',rfl,hr'⟩:=h2;refine inZ func30 fun Az I=>?_;by_cases ql:s.length=t.length
 case neg=>
  refine goZ [lSk ad s.length cap,lSk ad' t.length cap',knT s.length t.length] I fun β1 A1 w1 I1 hb1=>?_;exact zp (v:=.bool false) I1 ⟨by rw[decide_eq_false fun h=>ql (by rw[h])],I1.hJ⟩
 refine goZ [lSk ad s.length cap,lSk ad' t.length cap',knF s.length t.length,lSk ad s.length cap] I fun β1 A1 w1 I1 hb1=>?_;rw[← ql]at hr'
 let tmS:Nat→Vs:=fun j=>frm 26 [(0,Sum.inl (.slice ad s.length cap)),(1,Sum.inl (.slice ad' t.length cap')),(12,Sum.inl (Z s.length)),(13,Sum.inl (Z (j:Int)))]
 let St:Nat→Act→World→Prop:=fun k a w'=>∃(j:Nat) (β:Nat→Nat) (u:Nat→Value),k=s.length-j∧j≤s.length∧(∀ i,i<j→tp s (s.length-1-i)=tp t (s.length-1-i)) ∧
  SI (Below w.heap.size w) (· < w.heap.size) [] β (cfC (qz Tryz.f30) (kf (scrF 26 [0,1,12,13]) u 0 (tmS j)) [] 0) a w'
 refine lpM (qz Tryz.f30) St s.length ?_ ?_
 ·obtain⟨u,Iu⟩:=I1.scr (qz Tryz.f30) (scrF 26 [0,1,12,13]) (tmS 0) [] 0;exact⟨0,β1,u,by omega,Nat.zero_le _,fun i hi=>absurd hi (Nat.not_lt_zero i),Iu⟩
 rintro k a3 w3 ⟨j,β3,u,rfl,hj,hall,I3⟩;refine zbe (tm:=kf (scrF 26 [0,1,12,13]) u 0 (tmS j)) (rows:=[]) (nx:=0) ?_;rcases Nat.lt_or_ge j s.length with hjl|hjl
 ·obtain⟨b,off,rfl,hc⟩:=hr j hjl;obtain⟨b',off',rfl,hc'⟩:=hr' j hjl;have hx:=hnf _ (tp_mem (s:=s) (k:=s.length-1-j) (by omega));have hy:=hng _ (tp_mem (s:=t) (k:=s.length-1-j) (by omega));have hld:∀ w',Below w.heap.size w w'→(loadVar 38 ⟨b,off+j*4,none⟩).run prog w'=.ok (.agg (uc (tp s (s.length-1-j))).toArray) w':=fun w' hbl=>loadN underlying38 rfl (n:=4) (by kernel_rfl) rfl fun k c hk=>(World.cell?_of_block (a:=⟨b,off+j*4+k,none⟩) (hbl.block b (World.block_lt_of_cell? w ⟨b,off+j*4+k,none⟩ (hc k c hk)))).trans (hc k c hk)
  have hld':∀ w',Below w.heap.size w w'→(loadVar 38 ⟨b',off'+j*4,none⟩).run prog w'=.ok (.agg (uc (tp t (s.length-1-j))).toArray) w':=fun w' hbl=>loadN underlying38 rfl (n:=4) (by kernel_rfl) rfl fun k c hk=>(World.cell?_of_block (a:=⟨b',off'+j*4+k,none⟩) (hbl.block b' (World.block_lt_of_cell? w ⟨b',off'+j*4+k,none⟩ (hc' k c hk)))).trans (hc' k c hk)
  obtain⟨q,hq⟩:∃ q,decide (tp s (s.length-1-j)≠tp t (s.length-1-j))=q:=⟨_,rfl⟩
  have hne:=zei hx hy hq;have hqe:q=true→tp s (s.length-1-j)≠tp t (s.length-1-j):=fun h=>of_decide_eq_true (hq.trans h)
  have hqf:q=false→tp s (s.length-1-j)=tp t (s.length-1-j):=fun h=>Decidable.not_not.1 (of_decide_eq_false (hq.trans h))
  simp only[uc]at hld hld';unfold U at hne;generalize hxx:tp s (s.length-1-j)=x at *;generalize hyy:tp t (s.length-1-j)=y,l0 x=x0,l1 x=x1,l2 x=x2,l3 x=x3 at *;generalize l0 y=y0,l1 y=y1,l2 y=y2,l3 y=y3 at *;refine goZ [klT j s.length] I3 fun β4 A4 w4 I4 hb4=>?_
  refine dwT (T:=Below w.heap.size w) 9 [iA 22 underlying22 (sz:=4) (by kernel_rfl) (g:=b) (off:=off) (n:=s.length) (cap:=cap) (i:=j) hjl,ldA 38 hld,iA 22 underlying22 (sz:=4) (by kernel_rfl) (g:=b') (off:=off') (n:=t.length) (cap:=cap') (i:=j) (by omega),ldA 38 hld',bO .neq 38 hne] (zq w) (fun _ h=>h) (yg.then (yg.qk yg.post)) I4 fun A5 w5 I5=>?_;cases q with
  | true=>
   refine goZ [] I5 fun β6 A6 w6 I6 hb6=>?_;exact endR (retV (v:=.bool false) I6 ⟨by rw[decide_eq_false fun h=>hqe rfl (by rw[← hxx,← hyy,h])],I6.hJ⟩)
  | false=>
   refine goZ [kaZ j 1 (j+1:Nat)] I5 fun β6 A6 w6 I6 hb6=>?_;obtain⟨u',Iu⟩:=I6.scr (qz Tryz.f30) (scrF 26 [0,1,12,13]) (tmS (j+1)) [] 0;exact endL ⟨s.length-(j+1),by omega,j+1,β6,u',rfl,hjl,fun i hi=>by
    rcases Nat.lt_or_ge i j with h|h
    ·exact hall i h
    ·have:i=j:=by omega
     subst this;rw[hxx,hyy];exact hqf rfl,Iu⟩
 ·obtain rfl:j=s.length:=by omega
  refine goZ [klF s.length s.length] I3 fun β4 A4 w4 I4 hb4=>?_;refine endE 0 ?_;refine goZ [] (I4.exit _) fun β5 A5 w5 I5 hb5=>?_;refine zp (v:=.bool true) I5 ⟨?_,I5.hJ⟩;rw[decide_eq_true (tp_ext ql fun k hk=>?_)];have:=hall (s.length-1-k) (by omega)
  rwa [show s.length-1-(s.length-1-k)=k by omega]at this
end Go.Proofs.YtceedgdbhlpjlaaGreatDoor
