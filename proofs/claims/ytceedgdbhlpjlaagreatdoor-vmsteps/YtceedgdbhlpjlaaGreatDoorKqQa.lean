/- Laid one behind the other: Qa, Qb, Qc. -/
import Derived.Test.YtceedgdbhlpjlaaGreatDoorKqDm
import Derived.Shelf.Bits.Mul64
namespace Go.Proofs.YtceedgdbhlpjlaaGreatDoor
open Go.RowKit Go.Sort Tryz
set_option linter.unusedVariables false
set_option maxRecDepth 100000
set_option maxHeartbeats 4000000
theorem M_pos:0<M:=by decide
theorem Mp(n:Nat):0<M^n:=Nat.pow_pos M_pos
theorem W_M:W=M^4:=by decide +kernel
def vm (f:Nat→Nat) (k:Nat):Nat→Nat
 | 0=>0
 | n+1=>vm f k n+f (k+n)*M^n
theorem vm_congr{f g:Nat→Nat}{k:Nat}:∀{n:Nat},(∀ i,i<n→f (k+i)=g (k+i))→vm f k n=vm g k n
 | 0,_=>rfl
 | n+1,h=>by
  rw[vm,vm,vm_congr (n:=n) (fun i hi=>h i (by omega)),h n (by omega)]
theorem vm_lt{f:Nat→Nat}{k:Nat}:∀{n:Nat},(∀ i,i<n→f (k+i)<M)→vm f k n<M^n
 | 0,_=>by simp[vm]
 | n+1,h=>by
  have h1:=vm_lt (n:=n) (fun i hi=>h i (by omega));have h2:=h n (by omega);rw[vm,Nat.pow_succ];have h3:f (k+n)*M^n≤(M-1)*M^n:=Nat.mul_le_mul_right _ (by omega);have h4:(M-1)*M^n+M^n=M^n*M:=by rw[Nat.mul_comm (M^n) M,← Nat.succ_mul];rfl
  omega
theorem vm_add(f:Nat→Nat)(k a:Nat):∀ b,vm f k (a+b)=vm f k a+M^a*vm f (k+a) b
 | 0=>by simp[vm]
 | b+1=>by
  rw[← Nat.add_assoc,vm,vm_add f k a b,vm,Nat.pow_add,Nat.mul_add,Nat.add_assoc,Nat.add_assoc]
  congr 2
  rw[Nat.mul_left_comm]
theorem vm_of_zero{f:Nat→Nat}{k:Nat}:∀{n:Nat},(∀ i,i<n→f (k+i)=0)→vm f k n=0
 | 0,_=>rfl
 | n+1,h=>by rw[vm,vm_of_zero (n:=n) (fun i hi=>h i (by omega)),h n (by omega)];simp
theorem vm_upd_below(f:Nat→Nat)(k x:Nat){j n:Nat}(h:j+n≤k):vm (upd f k x) j n=vm f j n:=
 vm_congr fun i hi=>yd f k x (by omega)
theorem vm_upd_top(f:Nat→Nat)(k i x:Nat):vm (upd f (k+i) x) k (i+1)=vm f k i+x*M^i:=by
 rw[vm,vm_upd_below f (k+i) x (Nat.le_refl _),qo]
theorem vm_div{f:Nat→Nat}{k a b:Nat}(h:∀ i,i<a→f (k+i)<M):vm f k (a+b)/M^a=vm f (k+a) b:=by
 rw[vm_add,Nat.add_mul_div_left _ _ (Mp a),Nat.div_eq_of_lt (vm_lt h),Nat.zero_add]
theorem vm_mod{f:Nat→Nat}{k a b:Nat}(h:∀ i,i<a→f (k+i)<M):vm f k (a+b)%M^a=vm f k a:=by
 rw[vm_add,Nat.add_mul_mod_self_left,Nat.mod_eq_of_lt (vm_lt h)]
theorem updM_lt{f:Nat→Nat}{k x n:Nat}(h:∀ i,i<n→f i<M)(hx:x<M):∀ i,i<n→upd f k x i<M:=by
 intro i hi;unfold upd;split
 ·exact hx
 ·exact h i hi
structure MQ (f0 f' X Y:Nat→Nat) (j l c:Nat):Prop where
 hc:c<M
 hf:∀ i,i<8→f' i<M
 ho:∀ i,i<j∨j+l≤i→f' i=f0 i
 hv:vm f' j l+c*M^l=vm f0 j l+X j*vm Y 0 l
theorem MQ.start{f X Y:Nat→Nat}{j:Nat}(hf:∀ i,i<8→f i<M):MQ f f X Y j 0 0:=⟨M_pos,hf,fun _ _=>rfl,by simp[vm]⟩
theorem MQ.step{f0 f' X Y:Nat→Nat}{j l c t c':Nat}(h:MQ f0 f' X Y j l c)(ht:t<M)(hc':c'<M)(e:t+M*c'=f' (j+l)+c+X j*Y l) :
  MQ f0 (upd f' (j+l) t) X Y j (l+1) c' where
 hc:=hc'
 hf:=updM_lt h.hf ht
 ho i hi:=by rw[yd _ _ _ (by omega)];exact h.ho i (by omega)
 hv:=by
  have e0:=h.ho (j+l) (by omega);have hv:=h.hv;rw[vm_upd_top,vm,vm,Nat.zero_add,Nat.pow_succ,← e0];generalize M^l=Pw at *;have e1:vm f' j l+t*Pw+c'*(Pw*M)=vm f' j l+(t+M*c')*Pw:=by rw[Nat.add_mul,Nat.mul_comm Pw M,← Nat.mul_assoc,Nat.mul_comm c' M,Nat.add_assoc]
  rw[e1,e];have e2:vm f' j l+(f' (j+l)+c+X j*Y l)*Pw=(vm f' j l+c*Pw)+(X j*Y l+f' (j+l))*Pw:=by
   rw[Nat.add_mul,Nat.add_mul,Nat.add_mul];omega
  rw[e2,hv,Nat.add_mul,Nat.mul_add,Nat.mul_assoc];omega
structure OQ (f X Y:Nat→Nat) (j:Nat):Prop where
 hf:∀ i,i<8→f i<M
 hz:∀ i,j+4≤i→f i=0
 hv:vm f 0 (j+4)=vm X 0 j*vm Y 0 4
theorem OQ.start(X Y:Nat→Nat):OQ (fun _=>0) X Y 0:=⟨fun _ _=>M_pos,fun _ _=>rfl,by rw[vm_of_zero (fun _ _=>rfl)];simp[vm]⟩
theorem OQ.step{f f' X Y:Nat→Nat}{j c:Nat}(h:OQ f X Y j)(hj:j<4)(hm:MQ f f' X Y j 4 c):OQ (upd f' (j+4) c) X Y (j+1) where
 hf:=updM_lt hm.hf hm.hc
 hz i hi:=by rw[yd _ _ _ (by omega),hm.ho i (by omega),h.hz i (by omega)]
 hv:=by
  have e1:vm (upd f' (j+4) c) 0 (j+1+4)=vm (upd f' (j+4) c) 0 j+M^j*vm (upd f' (j+4) c) j 5:=by
   rw[show j+1+4=j+5 by omega,vm_add,Nat.zero_add]
  have e2:vm (upd f' (j+4) c) 0 j=vm f 0 j:=vm_congr fun i hi=>by rw[yd _ _ _ (by omega),hm.ho _ (by omega)]
  have e3:vm (upd f' (j+4) c) j 5=vm f' j 4+c*M^4:=vm_upd_top f' j 4 c;have e4:=vm_add f 0 j 4;rw[Nat.zero_add,h.hv]at e4;have eX:vm X 0 (j+1)=vm X 0 j+X j*M^j:=by rw[vm,Nat.zero_add]
  rw[e1,e2,e3,hm.hv,Nat.mul_add,← Nat.add_assoc,← e4,eX,Nat.add_mul];clear e1 e2 e3 e4 eX hm h;generalize vm Y 0 4=Bb;generalize M^j=Pw;generalize X j=x;rw[Nat.mul_comm x Pw,Nat.mul_assoc]
theorem mul64_any(x y:Nat)(hx':x<M)(hy':y<M)(w:World) :
  Calls prog 219 #[.int .u64 x,.int .u64 y] w fun e w'=>e=.returned (.tuple #[B (x*y/M),B (x*y%M)])∧w'=w:=by
 have hx:x<18446744073709551616:=hx';have hy:y<18446744073709551616:=hy';obtain⟨bd,bt,bw,hhi⟩:=Lib.mul64_hi x y hx hy;have ba:=Lib.half_mul_le (a:=x/4294967296) (b:=y/4294967296) (by omega) (by omega);have bb:=Lib.half_mul_le (a:=x/4294967296) (b:=y%4294967296) (by omega) (by omega);have bc:=Lib.half_mul_le (a:=x%4294967296) (b:=y/4294967296) (by omega) (by omega);have ba':x/4294967296*(y/4294967296)<18446744073709551616:=by omega
 have bb':x/4294967296*(y%4294967296)<18446744073709551616:=by omega
 have bc':x%4294967296*(y/4294967296)<18446744073709551616:=by omega
 have bh1:x/4294967296*(y/4294967296)+(x/4294967296*(y%4294967296)+x%4294967296*(y%4294967296)/4294967296)/4294967296<18446744073709551616:=by omega
 have bh:x/4294967296*(y/4294967296)+(x/4294967296*(y%4294967296)+x%4294967296*(y%4294967296)/4294967296)/4294967296+((x/4294967296*(y%4294967296)+x%4294967296*(y%4294967296)/4294967296)%4294967296+x%4294967296*(y/4294967296))/4294967296<18446744073709551616:=by omega
 go_enter func219,ntmps219
 go_wp2
 simp only[Mul64.maskN x hx,Mul64.maskN y hy,Mul64.divN,Mul64.mulN,Mul64.addN,Mul64.wrapN _ bd,Mul64.wrapN _ bb',Mul64.wrapN _ bt,Mul64.maskN _ bt,Mul64.wrapN _ bc',Mul64.wrapN _ bw,Mul64.wrapN _ ba',Mul64.wrapN _ bh1,Mul64.wrapN _ bh,Mul64.wrapM (x*y)];rw[hhi]
 go_ret2
 exact⟨rfl,rfl⟩
section
attribute [local go_sem] xh
abbrev A4 (X:Nat→Nat):Value:=.agg (ag .u64 4 X)
structure CR (w:World) (bo:Nat) (f:Nat→Nat) (zb:Array Bool) (vs:Nat→Value) (w':World):Prop where
 b:Below w.heap.size w w'
 o:za w' bo (ag .u64 8 f)
 c0:zb.getD 0 false=true→vs 0=.pointer (some ⟨bo,4,none⟩)
 c1:zb.getD 1 false=true→vs 1=B (f 4)
 c2:zb.getD 2 false=true→vs 2=.pointer (some ⟨bo,5,none⟩)
 c3:zb.getD 3 false=true→vs 3=B (f 5)
 c4:zb.getD 4 false=true→vs 4=.pointer (some ⟨bo,6,none⟩)
 c5:zb.getD 5 false=true→vs 5=B (f 6)
 c6:zb.getD 6 false=true→vs 6=.pointer (some ⟨bo,7,none⟩)
 c7:zb.getD 7 false=true→vs 7=B (f 7)
 c8:zb.getD 8 false=true→vs 8=.agg #[B (f 4),B (f 5),B (f 6),B (f 7)]
 c9:zb.getD 9 false=true→vs 9=.pointer (some ⟨bo,0,none⟩)
 c10:zb.getD 10 false=true→vs 10=B (f 0)
 c11:zb.getD 11 false=true→vs 11=.pointer (some ⟨bo,1,none⟩)
 c12:zb.getD 12 false=true→vs 12=B (f 1)
 c13:zb.getD 13 false=true→vs 13=.pointer (some ⟨bo,2,none⟩)
 c14:zb.getD 14 false=true→vs 14=B (f 2)
 c15:zb.getD 15 false=true→vs 15=.pointer (some ⟨bo,3,none⟩)
 c16:zb.getD 16 false=true→vs 16=B (f 3)
 c17:zb.getD 17 false=true→vs 17=.agg #[B (f 0),B (f 1),B (f 2),B (f 3)]
 c18:∃ c,za w' (w.heap.size+1+1) c∧c.size=4∧(zb.getD 18 false=true→c=#[B (f 4),B (f 5),B (f 6),B (f 7)])
 c19:∃ c,za w' (w.heap.size+1+1+1) c∧c.size=4∧(zb.getD 19 false=true→c=#[B (f 0),B (f 1),B (f 2),B (f 3)])
theorem num_q{f c x y hi lo:Nat}(hf:f<M)(hc:c<M)(hx:x<M)(hy:y<M)(hlo:lo<M)(hp:M*hi+lo=x*y) :
  IntKind.u64.wrap (IntKind.u64.wrap ((hi:Int)+(cy lo c 0:Nat))+(cy f (sm lo c 0) 0:Nat))=((hi+cy lo c 0+cy f (sm lo c 0) 0:Nat):Int)∧hi+cy lo c 0+cy f (sm lo c 0) 0<M
  ∧ sm f (sm lo c 0) 0+M*(hi+cy lo c 0+cy f (sm lo c 0) 0)=f+c+x*y:=by
 have s1:=sm_cy lo c 0 hlo hc (by omega);have s2:=sm_cy f (sm lo c 0) 0 hf (sm_lt _ _ _) (by omega);have b:x*y≤(M-1)*(M-1):=Nat.mul_le_mul (by omega) (by omega);have e:sm f (sm lo c 0) 0+M*(hi+cy lo c 0+cy f (sm lo c 0) 0)=f+c+x*y:=by
  rw[Nat.mul_add,Nat.mul_add];omega
 have hlt:hi+cy lo c 0+cy f (sm lo c 0) 0<M:=by
  have hM:(M-1)*(M-1)+(M-1)+(M-1)<M*M:=by decide +kernel
  have:M*(hi+cy lo c 0+cy f (sm lo c 0) 0)<M*M:=by omega
  exact Nat.lt_of_mul_lt_mul_left this
 refine⟨?_,hlt,e⟩;simp only[IntKind.wrap_u64];generalize cy lo c 0=c1,cy f (sm lo c 0) 0=c2 at *;clear e s1 s2 b hp;unfold M at hlt;omega
theorem rwide_raw(X Y:Nat→Nat)(hX:∀ i,i<4→X i<M)(hY:∀ i,i<4→Y i<M)(w:World) :
  Calls prog 145 #[A4 X,A4 Y] w fun e w'=>
   (∃ f,OQ f X Y 4∧e=.returned (.tuple #[U4 (f 4) (f 5) (f 6) (f 7),U4 (f 0) (f 1) (f 2) (f 3)]))∧Below w.heap.size w w':=by
 have GX:Hid _:=hX;have GY:Hid _:=hY;clear hX hY
 go_enter func145,ntmps145
 go_wp2
 go_loopw [7] (fun i w'=>∃(j nq:Nat) (f:Nat→Nat),j≤4∧i=.int .i64 (j:Int)∧w'=(((((w.alloc (Obj.cells (ag .u64 4 X) 38)).alloc (Obj.cells (ag .u64 4 Y) 38)).alloc (Obj.cells #[.int .u64 0,.int .u64 0,.int .u64 0,.int .u64 0] 38)).alloc (Obj.cells #[.int .u64 0,.int .u64 0,.int .u64 0,.int .u64 0] 38)).alloc (Obj.cells (ag .u64 8 f) 121)).drewN nq∧OQ f X Y j) (fun i _=>4-(intOf i).toNat)
 case atStart=>exact⟨0,0,fun _=>0,by omega,rfl,rfl,OQ.start X Y⟩
 case round=>
  obtain⟨j,nq,f,hj,rfl,rfl,hO⟩:=hrel;have KO:Hid _:=hO;clear hO;by_cases hlt:j<4
  ·have hx:(ag .u64 4 X)[j]? = some (.int .u64 (X j:Nat)):=by rw[zj,if_pos hlt]
   go_wp2
   go_loopw [8,9] (fun c i w'=>∃(l cn nq:Nat) (f':Nat→Nat),l≤4∧i=.int .i64 (l:Int)∧c=B cn∧w'=(((((w.alloc (Obj.cells (ag .u64 4 X) 38)).alloc (Obj.cells (ag .u64 4 Y) 38)).alloc (Obj.cells #[.int .u64 0,.int .u64 0,.int .u64 0,.int .u64 0] 38)).alloc (Obj.cells #[.int .u64 0,.int .u64 0,.int .u64 0,.int .u64 0] 38)).alloc (Obj.cells (ag .u64 8 f') 121)).drewN nq∧MQ f f' X Y j l cn) (fun _ i _=>4-(intOf i).toNat)
   case atStart=>exact⟨0,0,nq,f,by omega,rfl,rfl,rfl,MQ.start KO.out.hf⟩
   case round=>
    obtain⟨l,cn,nq',f',hl,rfl,rfl,rfl,hM⟩:=hrel;have KM:Hid _:=hM;clear hM;by_cases hlt2:l<4
    ·have hy:(ag .u64 4 Y)[l]? = some (.int .u64 (Y l:Nat)):=by rw[zj,if_pos hlt2]
     have hc1:(ag .u64 8 f')[j+l]? = some (.int .u64 (f' (j+l):Nat)):=by rw[zj,if_pos (by omega)]
     have hM:=KM.out;have e1:=run_add0 (X j*Y l%M) cn (Nat.mod_lt _ M_pos) hM.hc;have e2:=run_add0 (f' (j+l)) (sm (X j*Y l%M) cn 0) (hM.hf _ (by omega)) (sm_lt _ _ _);clear hM;have c21:=mul64_any (X j) (Y l) (GX.out j hlt) (GY.out l hlt2);have hP:Hid (M*(X j*Y l/M)+X j*Y l%M=X j*Y l∧X j*Y l%M<M):=⟨Nat.div_add_mod _ _,Nat.mod_lt _ M_pos⟩
     generalize X j*Y l/M=hi,X j*Y l%M=lo at *
     go_wp2
     go_quiet ((first | exact Calls.quiet_of_same (c21 _) | (go_at_call 219;exact Calls.quiet_of_same (c21 _)) | exact(c21 _).mono (fun _ _ h=>⟨h.1,_,h.2⟩)))
     go_wp2
     go_roundw
     case rel=>
      have hM:=KM.out;obtain⟨n1,n2,n3⟩:=num_q (hM.hf (j+l) (by omega)) hM.hc (GX.out j hlt) (GY.out l hlt2) hP.out.2 hP.out.1;refine⟨l+1,_,nq'+nq,_,by omega,by go_num,?_,?_,hM.step (sm_lt _ _ _) n2 n3⟩
      ·rw[n1]
      ·rw[zw];try rfl
     case measure=>simp[intOf];try omega
    ·have hl8:l=4:=by omega
     subst hl8;have hc1:(ag .u64 8 f')[j+4]? = some (.int .u64 (f' (j+4):Nat)):=by rw[zj,if_pos (by omega)]
     go_wp2
     go_roundw
     case rel=>
      refine⟨j+1,nq',_,by omega,by go_num,?_,KO.out.step hlt KM.out⟩;rw[zw]
     case measure=>simp[intOf];try omega
  ·have hj8:j=4:=by omega
   subst hj8
   go_wp2
   have o1:=za.drewN (za.last (w:=((((w.alloc (Obj.cells (ag .u64 4 X) 38)).alloc (Obj.cells (ag .u64 4 Y) 38)).alloc (Obj.cells #[.int .u64 0,.int .u64 0,.int .u64 0,.int .u64 0] 38)).alloc (Obj.cells #[.int .u64 0,.int .u64 0,.int .u64 0,.int .u64 0] 38))) (c:=ag .u64 8 f) (t:=121) (n:=w.heap.size+1+1+1+1) (by simp)) nq
   have o5:=za.drewN (za.old (o:=Obj.cells (ag .u64 8 f) 121) (za.last (w:=(((w.alloc (Obj.cells (ag .u64 4 X) 38)).alloc (Obj.cells (ag .u64 4 Y) 38)).alloc (Obj.cells #[.int .u64 0,.int .u64 0,.int .u64 0,.int .u64 0] 38))) (c:=#[.int .u64 0,.int .u64 0,.int .u64 0,.int .u64 0]) (t:=38) (n:=w.heap.size+1+1+1) (by simp))) nq
   have o4:=za.drewN (za.old (o:=Obj.cells (ag .u64 8 f) 121) (za.old (o:=Obj.cells #[.int .u64 0,.int .u64 0,.int .u64 0,.int .u64 0] 38) (za.last (w:=((w.alloc (Obj.cells (ag .u64 4 X) 38)).alloc (Obj.cells (ag .u64 4 Y) 38))) (c:=#[.int .u64 0,.int .u64 0,.int .u64 0,.int .u64 0]) (t:=38) (n:=w.heap.size+1+1) (by simp)))) nq
   have ob:Below w.heap.size w ((((((w.alloc (Obj.cells (ag .u64 4 X) 38)).alloc (Obj.cells (ag .u64 4 Y) 38)).alloc (Obj.cells #[.int .u64 0,.int .u64 0,.int .u64 0,.int .u64 0] 38)).alloc (Obj.cells #[.int .u64 0,.int .u64 0,.int .u64 0,.int .u64 0] 38)).alloc (Obj.cells (ag .u64 8 f) 121)).drewN nq):=by(repeat(first|exact Below.refl _ _|apply xk|refine zg ?_ _))
   generalize (((((w.alloc (Obj.cells (ag .u64 4 X) 38)).alloc (Obj.cells (ag .u64 4 Y) 38)).alloc (Obj.cells #[.int .u64 0,.int .u64 0,.int .u64 0,.int .u64 0] 38)).alloc (Obj.cells #[.int .u64 0,.int .u64 0,.int .u64 0,.int .u64 0] 38)).alloc (Obj.cells (ag .u64 8 f) 121)).drewN nq=wr' at *;have hbo:w.heap.size+1+1+1<w.heap.size+1+1+1+1:=by omega
   generalize w.heap.size+1+1+1+1=bo at *;refine zaa (by kernel_rfl) (by kernel_rfl) (by kernel_rfl) (CR w bo f) ?_ ?_ ?_
   ·refine⟨ob.drew,o1,?_,?_,?_,?_,?_,?_,?_,?_,?_,?_,?_,?_,?_,?_,?_,?_,?_,?_,⟨_,o4,rfl,?_⟩,⟨_,o5,rfl,?_⟩⟩<;>(intro h;simp[Array.getD]at h)
   ·intro zb vs a' w' i o hs ho hi hF cc;have hi20:i<20:=by have:=(Array.getElem?_eq_some_iff.1 ho).1;simpa using this
    have hcase:i=0∨i=1∨i=2∨i=3∨i=4∨i=5∨i=6∨i=7∨i=8∨i=9∨i=10∨i=11∨i=12∨i=13∨i=14∨i=15∨i=16∨i=17∨i=18∨i=19:=by omega
    rcases hcase with rfl|rfl|rfl|rfl|rfl|rfl|rfl|rfl|rfl|rfl|rfl|rfl|rfl|rfl|rfl|rfl|rfl|rfl|rfl|rfl
    ·simp at ho;subst ho;have T:=dTz zb 0;have hv:a'.eval (.tmp 6)=.pointer (some ⟨bo,0,none⟩):=(hF.old (by kernel_rfl)).trans rfl;refine zm (v:=.pointer (some ⟨bo,4,none⟩)) (w1:=w') (by simp[execOp,go_sem,ev hv]) ⟨_,rfl,⟨cc.b,cc.o,fun _=>rfl,uz cc.c1,uz cc.c2,uz cc.c3,uz cc.c4,uz cc.c5,uz cc.c6,uz cc.c7,uz cc.c8,uz cc.c9,uz cc.c10,uz cc.c11,uz cc.c12,uz cc.c13,uz cc.c14,uz cc.c15,uz cc.c16,uz cc.c17,by obtain⟨c,h2,h3,h4⟩:=cc.c18;exact⟨c,h2,h3,fun h=>h4 (T 18 (by decide) h)⟩,by obtain⟨c,h2,h3,h4⟩:=cc.c19;exact⟨c,h2,h3,fun h=>h4 (T 19 (by decide) h)⟩⟩⟩
    ·simp at ho;subst ho;have T:=dTz zb 1;have hv:=(nwz hF 64 0 1 hi cc.c0)
     have hce:=cc.o.cell 4;rw[zj,if_pos (by omega)]at hce;refine zm (v:=B (f 4)) (w1:=w') (by simp[execOp,go_sem,ev hv,hce]) ⟨_,rfl,⟨cc.b,cc.o,uz cc.c0,fun _=>rfl,uz cc.c2,uz cc.c3,uz cc.c4,uz cc.c5,uz cc.c6,uz cc.c7,uz cc.c8,uz cc.c9,uz cc.c10,uz cc.c11,uz cc.c12,uz cc.c13,uz cc.c14,uz cc.c15,uz cc.c16,uz cc.c17,by obtain⟨c,h2,h3,h4⟩:=cc.c18;exact⟨c,h2,h3,fun h=>h4 (T 18 (by decide) h)⟩,by obtain⟨c,h2,h3,h4⟩:=cc.c19;exact⟨c,h2,h3,fun h=>h4 (T 19 (by decide) h)⟩⟩⟩
    ·simp at ho;subst ho;have T:=dTz zb 2;have hv:a'.eval (.tmp 6)=.pointer (some ⟨bo,0,none⟩):=(hF.old (by kernel_rfl)).trans rfl;refine zm (v:=.pointer (some ⟨bo,5,none⟩)) (w1:=w') (by simp[execOp,go_sem,ev hv]) ⟨_,rfl,⟨cc.b,cc.o,uz cc.c0,uz cc.c1,fun _=>rfl,uz cc.c3,uz cc.c4,uz cc.c5,uz cc.c6,uz cc.c7,uz cc.c8,uz cc.c9,uz cc.c10,uz cc.c11,uz cc.c12,uz cc.c13,uz cc.c14,uz cc.c15,uz cc.c16,uz cc.c17,by obtain⟨c,h2,h3,h4⟩:=cc.c18;exact⟨c,h2,h3,fun h=>h4 (T 18 (by decide) h)⟩,by obtain⟨c,h2,h3,h4⟩:=cc.c19;exact⟨c,h2,h3,fun h=>h4 (T 19 (by decide) h)⟩⟩⟩
    ·simp at ho;subst ho;have T:=dTz zb 3;have hv:=(nwz hF 66 2 3 hi cc.c2)
     have hce:=cc.o.cell 5;rw[zj,if_pos (by omega)]at hce;refine zm (v:=B (f 5)) (w1:=w') (by simp[execOp,go_sem,ev hv,hce]) ⟨_,rfl,⟨cc.b,cc.o,uz cc.c0,uz cc.c1,uz cc.c2,fun _=>rfl,uz cc.c4,uz cc.c5,uz cc.c6,uz cc.c7,uz cc.c8,uz cc.c9,uz cc.c10,uz cc.c11,uz cc.c12,uz cc.c13,uz cc.c14,uz cc.c15,uz cc.c16,uz cc.c17,by obtain⟨c,h2,h3,h4⟩:=cc.c18;exact⟨c,h2,h3,fun h=>h4 (T 18 (by decide) h)⟩,by obtain⟨c,h2,h3,h4⟩:=cc.c19;exact⟨c,h2,h3,fun h=>h4 (T 19 (by decide) h)⟩⟩⟩
    ·simp at ho;subst ho;have T:=dTz zb 4;have hv:a'.eval (.tmp 6)=.pointer (some ⟨bo,0,none⟩):=(hF.old (by kernel_rfl)).trans rfl;refine zm (v:=.pointer (some ⟨bo,6,none⟩)) (w1:=w') (by simp[execOp,go_sem,ev hv]) ⟨_,rfl,⟨cc.b,cc.o,uz cc.c0,uz cc.c1,uz cc.c2,uz cc.c3,fun _=>rfl,uz cc.c5,uz cc.c6,uz cc.c7,uz cc.c8,uz cc.c9,uz cc.c10,uz cc.c11,uz cc.c12,uz cc.c13,uz cc.c14,uz cc.c15,uz cc.c16,uz cc.c17,by obtain⟨c,h2,h3,h4⟩:=cc.c18;exact⟨c,h2,h3,fun h=>h4 (T 18 (by decide) h)⟩,by obtain⟨c,h2,h3,h4⟩:=cc.c19;exact⟨c,h2,h3,fun h=>h4 (T 19 (by decide) h)⟩⟩⟩
    ·simp at ho;subst ho;have T:=dTz zb 5;have hv:=(nwz hF 68 4 5 hi cc.c4)
     have hce:=cc.o.cell 6;rw[zj,if_pos (by omega)]at hce;refine zm (v:=B (f 6)) (w1:=w') (by simp[execOp,go_sem,ev hv,hce]) ⟨_,rfl,⟨cc.b,cc.o,uz cc.c0,uz cc.c1,uz cc.c2,uz cc.c3,uz cc.c4,fun _=>rfl,uz cc.c6,uz cc.c7,uz cc.c8,uz cc.c9,uz cc.c10,uz cc.c11,uz cc.c12,uz cc.c13,uz cc.c14,uz cc.c15,uz cc.c16,uz cc.c17,by obtain⟨c,h2,h3,h4⟩:=cc.c18;exact⟨c,h2,h3,fun h=>h4 (T 18 (by decide) h)⟩,by obtain⟨c,h2,h3,h4⟩:=cc.c19;exact⟨c,h2,h3,fun h=>h4 (T 19 (by decide) h)⟩⟩⟩
    ·simp at ho;subst ho;have T:=dTz zb 6;have hv:a'.eval (.tmp 6)=.pointer (some ⟨bo,0,none⟩):=(hF.old (by kernel_rfl)).trans rfl;refine zm (v:=.pointer (some ⟨bo,7,none⟩)) (w1:=w') (by simp[execOp,go_sem,ev hv]) ⟨_,rfl,⟨cc.b,cc.o,uz cc.c0,uz cc.c1,uz cc.c2,uz cc.c3,uz cc.c4,uz cc.c5,fun _=>rfl,uz cc.c7,uz cc.c8,uz cc.c9,uz cc.c10,uz cc.c11,uz cc.c12,uz cc.c13,uz cc.c14,uz cc.c15,uz cc.c16,uz cc.c17,by obtain⟨c,h2,h3,h4⟩:=cc.c18;exact⟨c,h2,h3,fun h=>h4 (T 18 (by decide) h)⟩,by obtain⟨c,h2,h3,h4⟩:=cc.c19;exact⟨c,h2,h3,fun h=>h4 (T 19 (by decide) h)⟩⟩⟩
    ·simp at ho;subst ho;have T:=dTz zb 7;have hv:=(nwz hF 70 6 7 hi cc.c6)
     have hce:=cc.o.cell 7;rw[zj,if_pos (by omega)]at hce;refine zm (v:=B (f 7)) (w1:=w') (by simp[execOp,go_sem,ev hv,hce]) ⟨_,rfl,⟨cc.b,cc.o,uz cc.c0,uz cc.c1,uz cc.c2,uz cc.c3,uz cc.c4,uz cc.c5,uz cc.c6,fun _=>rfl,uz cc.c8,uz cc.c9,uz cc.c10,uz cc.c11,uz cc.c12,uz cc.c13,uz cc.c14,uz cc.c15,uz cc.c16,uz cc.c17,by obtain⟨c,h2,h3,h4⟩:=cc.c18;exact⟨c,h2,h3,fun h=>h4 (T 18 (by decide) h)⟩,by obtain⟨c,h2,h3,h4⟩:=cc.c19;exact⟨c,h2,h3,fun h=>h4 (T 19 (by decide) h)⟩⟩⟩
    ·simp at ho;subst ho;have T:=dTz zb 8;have hv1:=(nwz hF 65 1 8 hi cc.c1)
     have hv3:=(nwz hF 67 3 8 hi cc.c3)
     have hv5:=(nwz hF 69 5 8 hi cc.c5)
     have hv7:=(nwz hF 71 7 8 hi cc.c7)
     refine zm (v:=.agg #[B (f 4),B (f 5),B (f 6),B (f 7)]) (w1:=w') (by simp[execOp,go_sem,ev hv1,ev hv3,ev hv5,ev hv7]) ⟨_,rfl,⟨cc.b,cc.o,uz cc.c0,uz cc.c1,uz cc.c2,uz cc.c3,uz cc.c4,uz cc.c5,uz cc.c6,uz cc.c7,fun _=>rfl,uz cc.c9,uz cc.c10,uz cc.c11,uz cc.c12,uz cc.c13,uz cc.c14,uz cc.c15,uz cc.c16,uz cc.c17,by obtain⟨c,h2,h3,h4⟩:=cc.c18;exact⟨c,h2,h3,fun h=>h4 (T 18 (by decide) h)⟩,by obtain⟨c,h2,h3,h4⟩:=cc.c19;exact⟨c,h2,h3,fun h=>h4 (T 19 (by decide) h)⟩⟩⟩
    ·simp at ho;subst ho;have T:=dTz zb 9;have hv:a'.eval (.tmp 6)=.pointer (some ⟨bo,0,none⟩):=(hF.old (by kernel_rfl)).trans rfl;refine zm (v:=.pointer (some ⟨bo,0,none⟩)) (w1:=w') (by simp[execOp,go_sem,ev hv]) ⟨_,rfl,⟨cc.b,cc.o,uz cc.c0,uz cc.c1,uz cc.c2,uz cc.c3,uz cc.c4,uz cc.c5,uz cc.c6,uz cc.c7,uz cc.c8,fun _=>rfl,uz cc.c10,uz cc.c11,uz cc.c12,uz cc.c13,uz cc.c14,uz cc.c15,uz cc.c16,uz cc.c17,by obtain⟨c,h2,h3,h4⟩:=cc.c18;exact⟨c,h2,h3,fun h=>h4 (T 18 (by decide) h)⟩,by obtain⟨c,h2,h3,h4⟩:=cc.c19;exact⟨c,h2,h3,fun h=>h4 (T 19 (by decide) h)⟩⟩⟩
    ·simp at ho;subst ho;have T:=dTz zb 10;have hv:=(nwz hF 73 9 10 hi cc.c9)
     have hce:=cc.o.cell 0;rw[zj,if_pos (by omega)]at hce;refine zm (v:=B (f 0)) (w1:=w') (by simp[execOp,go_sem,ev hv,hce]) ⟨_,rfl,⟨cc.b,cc.o,uz cc.c0,uz cc.c1,uz cc.c2,uz cc.c3,uz cc.c4,uz cc.c5,uz cc.c6,uz cc.c7,uz cc.c8,uz cc.c9,fun _=>rfl,uz cc.c11,uz cc.c12,uz cc.c13,uz cc.c14,uz cc.c15,uz cc.c16,uz cc.c17,by obtain⟨c,h2,h3,h4⟩:=cc.c18;exact⟨c,h2,h3,fun h=>h4 (T 18 (by decide) h)⟩,by obtain⟨c,h2,h3,h4⟩:=cc.c19;exact⟨c,h2,h3,fun h=>h4 (T 19 (by decide) h)⟩⟩⟩
    ·simp at ho;subst ho;have T:=dTz zb 11;have hv:a'.eval (.tmp 6)=.pointer (some ⟨bo,0,none⟩):=(hF.old (by kernel_rfl)).trans rfl;refine zm (v:=.pointer (some ⟨bo,1,none⟩)) (w1:=w') (by simp[execOp,go_sem,ev hv]) ⟨_,rfl,⟨cc.b,cc.o,uz cc.c0,uz cc.c1,uz cc.c2,uz cc.c3,uz cc.c4,uz cc.c5,uz cc.c6,uz cc.c7,uz cc.c8,uz cc.c9,uz cc.c10,fun _=>rfl,uz cc.c12,uz cc.c13,uz cc.c14,uz cc.c15,uz cc.c16,uz cc.c17,by obtain⟨c,h2,h3,h4⟩:=cc.c18;exact⟨c,h2,h3,fun h=>h4 (T 18 (by decide) h)⟩,by obtain⟨c,h2,h3,h4⟩:=cc.c19;exact⟨c,h2,h3,fun h=>h4 (T 19 (by decide) h)⟩⟩⟩
    ·simp at ho;subst ho;have T:=dTz zb 12;have hv:=(nwz hF 75 11 12 hi cc.c11)
     have hce:=cc.o.cell 1;rw[zj,if_pos (by omega)]at hce;refine zm (v:=B (f 1)) (w1:=w') (by simp[execOp,go_sem,ev hv,hce]) ⟨_,rfl,⟨cc.b,cc.o,uz cc.c0,uz cc.c1,uz cc.c2,uz cc.c3,uz cc.c4,uz cc.c5,uz cc.c6,uz cc.c7,uz cc.c8,uz cc.c9,uz cc.c10,uz cc.c11,fun _=>rfl,uz cc.c13,uz cc.c14,uz cc.c15,uz cc.c16,uz cc.c17,by obtain⟨c,h2,h3,h4⟩:=cc.c18;exact⟨c,h2,h3,fun h=>h4 (T 18 (by decide) h)⟩,by obtain⟨c,h2,h3,h4⟩:=cc.c19;exact⟨c,h2,h3,fun h=>h4 (T 19 (by decide) h)⟩⟩⟩
    ·simp at ho;subst ho;have T:=dTz zb 13;have hv:a'.eval (.tmp 6)=.pointer (some ⟨bo,0,none⟩):=(hF.old (by kernel_rfl)).trans rfl;refine zm (v:=.pointer (some ⟨bo,2,none⟩)) (w1:=w') (by simp[execOp,go_sem,ev hv]) ⟨_,rfl,⟨cc.b,cc.o,uz cc.c0,uz cc.c1,uz cc.c2,uz cc.c3,uz cc.c4,uz cc.c5,uz cc.c6,uz cc.c7,uz cc.c8,uz cc.c9,uz cc.c10,uz cc.c11,uz cc.c12,fun _=>rfl,uz cc.c14,uz cc.c15,uz cc.c16,uz cc.c17,by obtain⟨c,h2,h3,h4⟩:=cc.c18;exact⟨c,h2,h3,fun h=>h4 (T 18 (by decide) h)⟩,by obtain⟨c,h2,h3,h4⟩:=cc.c19;exact⟨c,h2,h3,fun h=>h4 (T 19 (by decide) h)⟩⟩⟩
    ·simp at ho;subst ho;have T:=dTz zb 14;have hv:=(nwz hF 77 13 14 hi cc.c13)
     have hce:=cc.o.cell 2;rw[zj,if_pos (by omega)]at hce;refine zm (v:=B (f 2)) (w1:=w') (by simp[execOp,go_sem,ev hv,hce]) ⟨_,rfl,⟨cc.b,cc.o,uz cc.c0,uz cc.c1,uz cc.c2,uz cc.c3,uz cc.c4,uz cc.c5,uz cc.c6,uz cc.c7,uz cc.c8,uz cc.c9,uz cc.c10,uz cc.c11,uz cc.c12,uz cc.c13,fun _=>rfl,uz cc.c15,uz cc.c16,uz cc.c17,by obtain⟨c,h2,h3,h4⟩:=cc.c18;exact⟨c,h2,h3,fun h=>h4 (T 18 (by decide) h)⟩,by obtain⟨c,h2,h3,h4⟩:=cc.c19;exact⟨c,h2,h3,fun h=>h4 (T 19 (by decide) h)⟩⟩⟩
    ·simp at ho;subst ho;have T:=dTz zb 15;have hv:a'.eval (.tmp 6)=.pointer (some ⟨bo,0,none⟩):=(hF.old (by kernel_rfl)).trans rfl;refine zm (v:=.pointer (some ⟨bo,3,none⟩)) (w1:=w') (by simp[execOp,go_sem,ev hv]) ⟨_,rfl,⟨cc.b,cc.o,uz cc.c0,uz cc.c1,uz cc.c2,uz cc.c3,uz cc.c4,uz cc.c5,uz cc.c6,uz cc.c7,uz cc.c8,uz cc.c9,uz cc.c10,uz cc.c11,uz cc.c12,uz cc.c13,uz cc.c14,fun _=>rfl,uz cc.c16,uz cc.c17,by obtain⟨c,h2,h3,h4⟩:=cc.c18;exact⟨c,h2,h3,fun h=>h4 (T 18 (by decide) h)⟩,by obtain⟨c,h2,h3,h4⟩:=cc.c19;exact⟨c,h2,h3,fun h=>h4 (T 19 (by decide) h)⟩⟩⟩
    ·simp at ho;subst ho;have T:=dTz zb 16;have hv:=(nwz hF 79 15 16 hi cc.c15)
     have hce:=cc.o.cell 3;rw[zj,if_pos (by omega)]at hce;refine zm (v:=B (f 3)) (w1:=w') (by simp[execOp,go_sem,ev hv,hce]) ⟨_,rfl,⟨cc.b,cc.o,uz cc.c0,uz cc.c1,uz cc.c2,uz cc.c3,uz cc.c4,uz cc.c5,uz cc.c6,uz cc.c7,uz cc.c8,uz cc.c9,uz cc.c10,uz cc.c11,uz cc.c12,uz cc.c13,uz cc.c14,uz cc.c15,fun _=>rfl,uz cc.c17,by obtain⟨c,h2,h3,h4⟩:=cc.c18;exact⟨c,h2,h3,fun h=>h4 (T 18 (by decide) h)⟩,by obtain⟨c,h2,h3,h4⟩:=cc.c19;exact⟨c,h2,h3,fun h=>h4 (T 19 (by decide) h)⟩⟩⟩
    ·simp at ho;subst ho;have T:=dTz zb 17;have hv10:=(nwz hF 74 10 17 hi cc.c10)
     have hv12:=(nwz hF 76 12 17 hi cc.c12)
     have hv14:=(nwz hF 78 14 17 hi cc.c14)
     have hv16:=(nwz hF 80 16 17 hi cc.c16)
     refine zm (v:=.agg #[B (f 0),B (f 1),B (f 2),B (f 3)]) (w1:=w') (by simp[execOp,go_sem,ev hv10,ev hv12,ev hv14,ev hv16]) ⟨_,rfl,⟨cc.b,cc.o,uz cc.c0,uz cc.c1,uz cc.c2,uz cc.c3,uz cc.c4,uz cc.c5,uz cc.c6,uz cc.c7,uz cc.c8,uz cc.c9,uz cc.c10,uz cc.c11,uz cc.c12,uz cc.c13,uz cc.c14,uz cc.c15,uz cc.c16,fun _=>rfl,by obtain⟨c,h2,h3,h4⟩:=cc.c18;exact⟨c,h2,h3,fun h=>h4 (T 18 (by decide) h)⟩,by obtain⟨c,h2,h3,h4⟩:=cc.c19;exact⟨c,h2,h3,fun h=>h4 (T 19 (by decide) h)⟩⟩⟩
    ·simp at ho;subst ho;have T:=dTz zb 18;have hv:=(nwz hF 72 8 18 hi cc.c8)
     have hx:a'.eval (.tmp 4)=.pointer (some ⟨w.heap.size+1+1,0,none⟩):=(hF.old (by kernel_rfl)).trans rfl;obtain⟨c,h2,h3,h4⟩:=cc.c18;obtain⟨c',k2,k3,k4⟩:=cc.c19
     refine vb 38 (.tmp 4) (.tmp 72) rfl (w.heap.size+1+1) (c':=#[B (f 4),B (f 5),B (f 6),B (f 7)]) hx hv h2 h3 rfl (by simp[Value.oneCell']) (by kernel_rfl) ⟨_,rfl,⟨zd cc.b (by omega) _,cc.o.set_other _ (by omega),uz cc.c0,uz cc.c1,uz cc.c2,uz cc.c3,uz cc.c4,uz cc.c5,uz cc.c6,uz cc.c7,uz cc.c8,uz cc.c9,uz cc.c10,uz cc.c11,uz cc.c12,uz cc.c13,uz cc.c14,uz cc.c15,uz cc.c16,uz cc.c17,⟨_,h2.set_same _,rfl,fun _=>rfl⟩,⟨c',k2.set_other _ (by omega),k3,fun h=>k4 (T 19 (by decide) h)⟩⟩⟩
    ·simp at ho;subst ho;have T:=dTz zb 19;have hv:=(nwz hF 81 17 19 hi cc.c17)
     have hx:a'.eval (.tmp 5)=.pointer (some ⟨w.heap.size+1+1+1,0,none⟩):=(hF.old (by kernel_rfl)).trans rfl;obtain⟨c,h2,h3,h4⟩:=cc.c19;obtain⟨c',k2,k3,k4⟩:=cc.c18
     refine vb 38 (.tmp 5) (.tmp 81) rfl (w.heap.size+1+1+1) (c':=#[B (f 0),B (f 1),B (f 2),B (f 3)]) hx hv h2 h3 rfl (by simp[Value.oneCell']) (by kernel_rfl) ⟨_,rfl,⟨zd cc.b (by omega) _,cc.o.set_other _ (by omega),uz cc.c0,uz cc.c1,uz cc.c2,uz cc.c3,uz cc.c4,uz cc.c5,uz cc.c6,uz cc.c7,uz cc.c8,uz cc.c9,uz cc.c10,uz cc.c11,uz cc.c12,uz cc.c13,uz cc.c14,uz cc.c15,uz cc.c16,uz cc.c17,⟨c',k2.set_other _ (by omega),k3,fun h=>k4 (T 18 (by decide) h)⟩,⟨_,h2.set_same _,rfl,fun _=>rfl⟩⟩⟩
   ·intro zb vs a' w' hd hF cc;obtain⟨c,h2,h3,h4⟩:=cc.c18;obtain⟨c',k2,k3,k4⟩:=cc.c19;have hx4:a'.eval (.tmp 4)=.pointer (some ⟨w.heap.size+1+1,0,none⟩):=(hF.old (by kernel_rfl)).trans rfl;have hx5:a'.eval (.tmp 5)=.pointer (some ⟨w.heap.size+1+1+1,0,none⟩):=(hF.old (by kernel_rfl)).trans rfl;have hr:=xx (P:=prog) (fn:=Tryz.f145) rfl a' w' hx4 hx5 h2 k2 h3 k3 underlying38 (by kernel_rfl) underlying38 (by kernel_rfl);rw[h4 (hd 18 (by simp)),k4 (hd 19 (by simp))]at hr;have HR:Hid _:=hr;have HB:Hid _:=cc.b;have HD:Hid (a'.defers=[]):=hF.1
    clear hr cc hF hx4 hx5 h2 h3 h4 k2 k3 k4
    go_wp2
    exact bodyPost_ret HR.out HD.out ⟨⟨f,KO.out,rfl⟩,HB.out⟩
end
def dm (a i:Nat):Nat:=a/M^i%M
theorem dm_parts(a:Nat):dm a 0=l0 a∧dm a 1=l1 a∧dm a 2=l2 a∧dm a 3=l3 a:=by
 unfold dm l0 l1 l2 l3;rw[Nat.pow_zero,Nat.div_one,Nat.pow_one,show M^2=M*M from by decide +kernel,show M^3=M*M*M from by decide +kernel];exact⟨rfl,rfl,rfl,rfl⟩
theorem U_dm(a:Nat):A4 (dm a)=U a:=by
 obtain⟨e0,e1,e2,e3⟩:=dm_parts a;have:A4 (dm a)=U4 (dm a 0) (dm a 1) (dm a 2) (dm a 3):=rfl;rw[this,e0,e1,e2,e3]
theorem vm_mk(f:Nat→Nat)(k:Nat):vm f k 4=mk (f k) (f (k+1)) (f (k+2)) (f (k+3)):=by
 simp only[vm,mk,Nat.add_zero,Nat.pow_zero,Nat.mul_one,Nat.zero_add,Nat.pow_one];rw[show M^2=M*M from by decide +kernel,show M^3=M*(M*M)from by decide +kernel];generalize M=V
 grind
theorem U_vm(f:Nat→Nat)(k:Nat)(h:∀ i,i<4→f (k+i)<M):U (vm f k 4)=U4 (f k) (f (k+1)) (f (k+2)) (f (k+3)):=by
 have h0:f k<M:=h 0 (by decide);have h1:=h 1 (by decide);have h2:=h 2 (by decide);have h3:=h 3 (by decide);unfold U;rw[vm_mk,l0_mk _ _ _ _ h0,l1_mk _ _ _ _ h0 h1,l2_mk _ _ _ _ h0 h1 h2,l3_mk _ _ _ _ h0 h1 h2 h3]
theorem vm_dm(a:Nat)(ha:a<W):vm (dm a) 0 4=a:=by
 obtain⟨e0,e1,e2,e3⟩:=dm_parts a;rw[vm_mk,e0,show(0:Nat)+1=1 from rfl,show(0:Nat)+2=2 from rfl,show(0:Nat)+3=3 from rfl,e1,e2,e3];exact xe a ha
theorem rwide_any(a b:Nat)(ha:a<W)(hb:b<W)(w:World) :
  Calls prog 145 #[U a,U b] w fun e w'=>e=.returned (.tuple #[U (a*b/W),U (a*b%W)])∧Below w.heap.size w w':=by
 have h:=rwide_raw (dm a) (dm b) (fun i _=>Nat.mod_lt _ M_pos) (fun i _=>Nat.mod_lt _ M_pos) w;rw[U_dm,U_dm]at h;refine h.mono ?_;rintro e w' ⟨⟨f,hO,rfl⟩,hB⟩;refine⟨?_,hB⟩;have hv:=hO.hv;rw[vm_dm a ha,vm_dm b hb]at hv;have e1:vm f 0 (4+4)/M^4=vm f (0+4) 4:=vm_div (fun i hi=>hO.hf _ (by omega));have e2:vm f 0 (4+4)%M^4=vm f 0 4:=vm_mod (fun i hi=>hO.hf _ (by omega));rw[hv,Nat.zero_add]at e1;rw[hv]at e2;rw[W_M,e1,e2,U_vm f 4 (fun i hi=>hO.hf _ (by omega)),U_vm f 0 (fun i hi=>hO.hf _ (by omega))]
theorem rmul_raw(a b q r:Nat)(c:Hid (∀ w,Calls prog 145 #[U a,U b] w fun e w'=>e=.returned (.tuple #[U q,U r])∧Below w.heap.size w w'))(w:World) :
  Calls prog 82 #[U a,U b] w fun e w'=>e=.returned (U r)∧Below w.heap.size w w':=by
 go_enter func82,ntmps82
 go_wp2_with fail
 refine(c.out _).mono ?_;rintro e w1 ⟨rfl,hb1⟩;have R1:za w1 (w.heap.size+1+1) #[.int .u64 0,.int .u64 0,.int .u64 0,.int .u64 0]:=(za.last (by simp)).below hb1;have HB:Hid (Below w.heap.size w w1):=yr (by(repeat(first|exact Below.refl _ _|refine zg ?_ _))) hb1;clear hb1;have H1:Hid (za w1 (w.heap.size+1+1) #[.int .u64 0,.int .u64 0,.int .u64 0,.int .u64 0]):=R1;clear R1
 go_upto_region 2 with fail
 have R1:za w1 (w.heap.size+1+1) #[.int .u64 0,.int .u64 0,.int .u64 0,.int .u64 0]:=H1.out;refine wp_region_lit ?_;refine zd6 rfl 38 (.tmp 6) rfl (w1.heap.size+1) rfl (za.last (by simp)) rfl underlying38 (by kernel_rfl) ?_;refine zej rfl 38 (.tmp 4) (.tmp 13) rfl (w.heap.size+1+1) rfl rfl (za.old (za.old R1)) rfl rfl (by simp[Value.oneCell']) (by kernel_rfl) ?_;have E1:=(za.old (o:=Obj.cells #[B (l0 r),B (l1 r),B (l2 r),B (l3 r)] 38) (za.old (o:=Obj.cells #[B (l0 q),B (l1 q),B (l2 q),B (l3 q)] 38) R1)).set_same #[B (l0 r),B (l1 r),B (l2 r),B (l3 r)]
 have E2:=zd (zg (zg HB.out (Obj.cells #[B (l0 q),B (l1 q),B (l2 q),B (l3 q)] 38)) (Obj.cells #[B (l0 r),B (l1 r),B (l2 r),B (l3 r)] 38)) (g:=w.heap.size+1+1) (by omega) #[B (l0 r),B (l1 r),B (l2 r),B (l3 r)];generalize ((w1.alloc (Obj.cells #[B (l0 q),B (l1 q),B (l2 q),B (l3 q)] 38)).alloc (Obj.cells #[B (l0 r),B (l1 r),B (l2 r),B (l3 r)] 38)).setRow (w.heap.size+1+1) #[B (l0 r),B (l1 r),B (l2 r),B (l3 r)]=w9 at *;have E3:Hid (za w9 (w.heap.size+1+1) #[B (l0 r),B (l1 r),B (l2 r),B (l3 r)]):=E1;have E4:Hid (Below w.heap.size w w9):=E2;clear E1 E2 R1 H1 HB
 go_wp2
 exact bodyPost_ret (v:=U r) (ye (p:=4) (ty:=38) rfl (g:=w.heap.size+1+1) rfl E3.out rfl underlying38 (by kernel_rfl)) rfl ⟨rfl,E4.out⟩
theorem rmul_any(a b:Nat)(ha:a<W)(hb:b<W)(w:World):Calls prog 82 #[U a,U b] w fun e w'=>e=.returned (U (a*b%W))∧Below w.heap.size w w':=
 rmul_raw a b _ _ (rwide_any a b ha hb) w
end Go.Proofs.YtceedgdbhlpjlaaGreatDoor
