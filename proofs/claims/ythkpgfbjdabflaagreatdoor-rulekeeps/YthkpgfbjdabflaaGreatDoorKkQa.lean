/- Laid one behind the other: Qa, Qb, Qc. -/
import Derived.Test.YthkpgfbjdabflaaGreatDoorKkDm
import Derived.Shelf.Bits.Mul64
namespace Go.Proofs.YthkpgfbjdabflaaGreatDoor
open Go.RowKit Go.Sort Tryz
set_option linter.unusedVariables false
set_option maxRecDepth 100000
set_option maxHeartbeats 4000000
theorem M_pos:0<M:=by decide
def vm (f:Nat→Nat) (k:Nat):Nat→Nat
 | 0=>0
 | n+1=>vm f k n+f (k+n)*M^n
theorem vm_congr{f g:Nat→Nat}{k:Nat}:∀{n:Nat},(∀ i,i<n→f (k+i)=g (k+i))→vm f k n=vm g k n
 | 0,_=>rfl
 | n+1,h=>by
  rw[vm,vm,vm_congr (n:=n) (fun i hi=>h i (by omega)),h n (by omega)]
theorem vm_add(f:Nat→Nat)(k a:Nat):∀ b,vm f k (a+b)=vm f k a+M^a*vm f (k+a) b
 | 0=>by simp[vm]
 | b+1=>by
  rw[← Nat.add_assoc,vm,vm_add f k a b,vm,Nat.pow_add,Nat.mul_add,Nat.add_assoc,Nat.add_assoc]
  congr 2
  rw[Nat.mul_left_comm]
theorem vm_of_zero{f:Nat→Nat}{k:Nat}:∀{n:Nat},(∀ i,i<n→f (k+i)=0)→vm f k n=0
 | 0,_=>rfl
 | n+1,h=>by rw[vm,vm_of_zero (n:=n) (fun i hi=>h i (by omega)),h n (by omega)];simp
theorem vm_upd_below(f:Nat→Nat)(k x:Nat){j n:Nat}(h:j+n≤k):vm (upd f k x) j n=vm f j n:=
 vm_congr fun i hi=>yq f k x (by omega)
theorem vm_upd_top(f:Nat→Nat)(k i x:Nat):vm (upd f (k+i) x) k (i+1)=vm f k i+x*M^i:=by
 rw[vm,vm_upd_below f (k+i) x (Nat.le_refl _),zbh]
theorem updM_lt{f:Nat→Nat}{k x n:Nat}(h:∀ i,i<n→f i<M)(hx:x<M):∀ i,i<n→upd f k x i<M:=by
 intro i hi;unfold upd;split
 ·exact hx
 ·exact h i hi
structure MQ (f0 f' X Y:Nat→Nat) (j l c:Nat):Prop where
 hc:c<M
 hf:∀ i,i<8→f' i<M
 ho:∀ i,i<j∨j+l≤i→f' i=f0 i
 hv:vm f' j l+c*M^l=vm f0 j l+X j*vm Y 0 l
theorem MQ.start{f X Y:Nat→Nat}{j:Nat}(hf:∀ i,i<8→f i<M):MQ f f X Y j 0 0:=⟨M_pos,hf,fun _ _=>rfl,by simp[vm]⟩
theorem MQ.step{f0 f' X Y:Nat→Nat}{j l c t c':Nat}(h:MQ f0 f' X Y j l c)(ht:t<M)(hc':c'<M)(e:t+M*c'=f' (j+l)+c+X j*Y l) :
  MQ f0 (upd f' (j+l) t) X Y j (l+1) c' where
 hc:=hc'
 hf:=updM_lt h.hf ht
 ho i hi:=by rw[yq _ _ _ (by omega)];exact h.ho i (by omega)
 hv:=by
  have e0:=h.ho (j+l) (by omega);have hv:=h.hv;rw[vm_upd_top,vm,vm,Nat.zero_add,Nat.pow_succ,← e0];generalize M^l=Pw at *;have e1:vm f' j l+t*Pw+c'*(Pw*M)=vm f' j l+(t+M*c')*Pw:=by rw[Nat.add_mul,Nat.mul_comm Pw M,← Nat.mul_assoc,Nat.mul_comm c' M,Nat.add_assoc]
  rw[e1,e];have e2:vm f' j l+(f' (j+l)+c+X j*Y l)*Pw=(vm f' j l+c*Pw)+(X j*Y l+f' (j+l))*Pw:=by
   rw[Nat.add_mul,Nat.add_mul,Nat.add_mul];omega
  rw[e2,hv,Nat.add_mul,Nat.mul_add,Nat.mul_assoc];omega
structure OQ (f X Y:Nat→Nat) (j:Nat):Prop where
 hf:∀ i,i<8→f i<M
 hz:∀ i,j+4≤i→f i=0
 hv:vm f 0 (j+4)=vm X 0 j*vm Y 0 4
theorem OQ.start(X Y:Nat→Nat):OQ (fun _=>0) X Y 0:=⟨fun _ _=>M_pos,fun _ _=>rfl,by rw[vm_of_zero (fun _ _=>rfl)];simp[vm]⟩
theorem OQ.step{f f' X Y:Nat→Nat}{j c:Nat}(h:OQ f X Y j)(hj:j<4)(hm:MQ f f' X Y j 4 c):OQ (upd f' (j+4) c) X Y (j+1) where
 hf:=updM_lt hm.hf hm.hc
 hz i hi:=by rw[yq _ _ _ (by omega),hm.ho i (by omega),h.hz i (by omega)]
 hv:=by
  have e1:vm (upd f' (j+4) c) 0 (j+1+4)=vm (upd f' (j+4) c) 0 j+M^j*vm (upd f' (j+4) c) j 5:=by
   rw[show j+1+4=j+5 by omega,vm_add,Nat.zero_add]
  have e2:vm (upd f' (j+4) c) 0 j=vm f 0 j:=vm_congr fun i hi=>by rw[yq _ _ _ (by omega),hm.ho _ (by omega)]
  have e3:vm (upd f' (j+4) c) j 5=vm f' j 4+c*M^4:=vm_upd_top f' j 4 c;have e4:=vm_add f 0 j 4;rw[Nat.zero_add,h.hv]at e4;have eX:vm X 0 (j+1)=vm X 0 j+X j*M^j:=by rw[vm,Nat.zero_add]
  rw[e1,e2,e3,hm.hv,Nat.mul_add,← Nat.add_assoc,← e4,eX,Nat.add_mul];clear e1 e2 e3 e4 eX hm h;generalize vm Y 0 4=Bb;generalize M^j=Pw;generalize X j=x;rw[Nat.mul_comm x Pw,Nat.mul_assoc]
section
attribute [local go_sem] yy
abbrev A4 (X:Nat→Nat):Value:=.agg (ag .u64 4 X)
end
def dm (a i:Nat):Nat:=a/M^i%M
theorem dm_parts(a:Nat):dm a 0=l0 a∧dm a 1=l1 a∧dm a 2=l2 a∧dm a 3=l3 a:=by
 unfold dm l0 l1 l2 l3;rw[Nat.pow_zero,Nat.div_one,Nat.pow_one,show M^2=M*M from by decide +kernel,show M^3=M*M*M from by decide +kernel];exact⟨rfl,rfl,rfl,rfl⟩
end Go.Proofs.YthkpgfbjdabflaaGreatDoor
