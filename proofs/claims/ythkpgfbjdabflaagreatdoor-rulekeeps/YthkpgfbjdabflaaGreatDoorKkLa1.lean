/- Laid one behind the other: La1, Dl, Lg. -/
import Derived.Test.YthkpgfbjdabflaaGreatDoorKkQa
namespace Go.Proofs.YthkpgfbjdabflaaGreatDoor
open Go.RowKit Go.Sort Tryz
set_option linter.unusedVariables false
set_option maxRecDepth 100000
set_option maxHeartbeats 4000000
section
attribute [local go_sem] yy
abbrev A8 (f:Nat→Nat):Value:=.agg (ag .u64 8 f)
abbrev A16 (f:Nat→Nat):Value:=.agg (ag .u64 16 f)
end
theorem guess_end{f g:Nat→Nat}{k n q r:Nat}(hg:∀ i,i<n+2→g i<D)(h1:0<g (n+1))(he:q*g (n+1)+r=f (k+(n+2))*D+f (k+(n+1)))(hq:q<D)(ht:q*g n≤r*D+f (k+n)):q*vl g 0 (n+2)<vl f k (n+3)+vl g 0 (n+2):=by
 have hlow:=vl_lt (f:=g) (k:=0) (n:=n) (fun i hi=>by rw[Nat.zero_add];exact hg i (by omega));have e1:vl g 0 (n+2)=vl g 0 n+(g (n+1)*D+g n)*D^n:=by
  rw[vl,vl,Nat.zero_add,Nat.zero_add,Nat.pow_succ,Nat.add_mul,Nat.mul_assoc,Nat.mul_comm D];omega
 have e2:vl f k (n+3)=vl f k n+((f (k+(n+2))*D+f (k+(n+1)))*D+f (k+n))*D^n:=by
  rw[vl,vl,vl,show D^(n+2)=D^n*D*D by rw[Nat.pow_succ,Nat.pow_succ],show D^(n+1)=D^n*D by rw[Nat.pow_succ]];generalize D^n=P;have a1:((f (k+(n+2))*D+f (k+(n+1)))*D+f (k+n))*P=f (k+(n+2))*(P*D*D)+f (k+(n+1))*(P*D)+f (k+n)*P:=by
   rw[Nat.add_mul,Nat.add_mul,Nat.add_mul];have b1:f (k+(n+2))*D*D*P=f (k+(n+2))*(P*D*D):=by ac_rfl
   have b2:f (k+(n+1))*D*P=f (k+(n+1))*(P*D):=by ac_rfl
   rw[b1,b2]
  rw[a1];omega
 have h3:q*(g (n+1)*D+g n)≤(f (k+(n+2))*D+f (k+(n+1)))*D+f (k+n):=by
  rw[← he,Nat.mul_add,Nat.add_mul,← Nat.mul_assoc];omega
 have h4:=Nat.mul_le_mul_right (D^n) h3;have h5:q*vl g 0 n≤D*D^n:=Nat.mul_le_mul (by omega) (by omega);have h6:D*D^n≤(g (n+1)*D+g n)*D^n:=Nat.mul_le_mul_right _ (by
  have:=Nat.le_mul_of_pos_left D h1;omega)
 have h7:q*vl g 0 (n+2)=q*vl g 0 n+q*(g (n+1)*D+g n)*D^n:=by rw[e1,Nat.mul_add,Nat.mul_assoc]
 have h8:q*vl g 0 n<D*D^n:=by
  have hp:=Dp n;have:q*vl g 0 n≤q*D^n:=Nat.mul_le_mul_left _ (by omega);have:q*D^n<D*D^n:=Nat.mul_lt_mul_of_pos_right hq hp;omega
 rw[h7,e2];omega
structure LV (w w':World) (d m q o:Nat→Nat):Prop where
 dd:zb w' w.heap.size (ag .u64 16 d)
 mm:zb w' (w.heap.size+1) (ag .u64 8 m)
 r4:zb w' (w.heap.size+1+1) (ag .u64 16 (fun _=>0))
 r5:zb w' (w.heap.size+1+1+1) (ag .u64 8 (fun _=>0))
 qq:zb w' (w.heap.size+1+1+1+1) (ag .u64 16 q)
 oo:zb w' (w.heap.size+1+1+1+1+1) (ag .u64 8 o)
 b:Below w.heap.size w w'
theorem LV.putQ{w w':World}{d m q o:Nat→Nat}(h:LV w w' d m q o)(i x:Nat):LV w (w'.setCell ⟨w.heap.size+1+1+1+1,i,none⟩ (.int .u64 (x:Nat))) d m (upd q i x) o:=by
 rw[h.qq.setCell,xr];exact⟨h.dd.set_other _ (by omega),h.mm.set_other _ (by omega),h.r4.set_other _ (by omega),h.r5.set_other _ (by omega),h.qq.set_same _,h.oo.set_other _ (by omega),zf h.b (by omega) _⟩
structure LR (X V:Nat) (q o:Nat→Nat):Prop where
 hq:∀ i,i<16→q i<D
 ho:∀ i,i<8→o i<D
 vq:vl q 0 16=X/V
 vo:vl o 0 8=if V=0 then 0 else X%V
structure L1 (d q:Nat→Nat) (m t r:Nat):Prop where
 hr:r<m
 hq:∀ i,i<16→q i<D
 hv:vl d t (16-t)=vl q t (16-t)*m+r
theorem L1.start{d:Nat→Nat}{m:Nat}(h:0<m):L1 d (fun _=>0) m 16 0:=⟨h,fun _ _=>zat,by simp[vl]⟩
theorem L1.step{d q:Nat→Nat}{m p r:Nat}(h:L1 d q m (p+1) r)(hp:p<16)(hm:m<D)(hd:d p<D):L1 d (upd q p ((r*D+d p)/m)) m p ((r*D+d p)%m) where
 hr:=Nat.mod_lt _ (Nat.lt_of_le_of_lt (Nat.zero_le _) h.hr)
 hq:=upd_lt h.hq (by
  have h1:=h.hr;rw[Nat.div_lt_iff_lt_mul (by omega)];have h2:r*D+D≤m*D:=by rw[← Nat.succ_mul];exact Nat.mul_le_mul_right _ h1
  rw[Nat.mul_comm D m];omega)
 hv:=by
  have hv:=h.hv;have e1:vl d p (16-p)=d p+D*vl d (p+1) (16-(p+1)):=by rw[show 16-p=(16-(p+1))+1 by omega,vl_low]
  have e2:vl (upd q p ((r*D+d p)/m)) p (16-p)=(r*D+d p)/m+D*vl q (p+1) (16-(p+1)):=by
   rw[show 16-p=(16-(p+1))+1 by omega,vl_low,zbh,vl_upd_above q p _ (Nat.lt_succ_self p)]
  have hdm:=Nat.div_add_mod (r*D+d p) m;rw[e1,e2,hv,Nat.add_mul,Nat.mul_add,Nat.mul_assoc D];generalize (r*D+d p)/m=a,(r*D+d p)%m=c at *;rw[Nat.mul_comm a m,Nat.mul_comm D r];omega
end Go.Proofs.YthkpgfbjdabflaaGreatDoor
