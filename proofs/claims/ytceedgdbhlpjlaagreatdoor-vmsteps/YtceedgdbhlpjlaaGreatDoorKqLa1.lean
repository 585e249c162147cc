/- Laid one behind the other: La1, Dl, Lg, Dk. -/
import Derived.Test.YtceedgdbhlpjlaaGreatDoorKqQa
namespace Go.Proofs.YtceedgdbhlpjlaaGreatDoor
open Go.RowKit Go.Sort Tryz
set_option linter.unusedVariables false
set_option maxRecDepth 100000
set_option maxHeartbeats 4000000
section
attribute [local go_sem] xh
abbrev A8 (f:Nat→Nat):Value:=.agg (ag .u64 8 f)
abbrev A16 (f:Nat→Nat):Value:=.agg (ag .u64 16 f)
theorem digits_raw(a0 a1 a2 a3:Nat)(w:World) :
  Calls prog 147 #[U4 a0 a1 a2 a3] w fun e w'=>
   e=.returned (.agg #[.int .u64 (bits .and .u64 (a0:Nat) 4294967295),.int .u64 ((a0:Nat)/4294967296:Int),.int .u64 (bits .and .u64 (a1:Nat) 4294967295),.int .u64 ((a1:Nat)/4294967296:Int),.int .u64 (bits .and .u64 (a2:Nat) 4294967295),.int .u64 ((a2:Nat)/4294967296:Int),.int .u64 (bits .and .u64 (a3:Nat) 4294967295),.int .u64 ((a3:Nat)/4294967296:Int)])∧Below w.heap.size w w':=by
 go_enter func147,ntmps147
 go_wp2
 refine wp_loop_rounds 5 ?_
 iterate 4(rw[rounds_succ];go_wp2)
 rw[rounds_succ];go_wp2;refine bodyPost_ret (v:=.agg #[.int .u64 (bits .and .u64 (a0:Nat) 4294967295),.int .u64 ((a0:Nat)/4294967296:Int),.int .u64 (bits .and .u64 (a1:Nat) 4294967295),.int .u64 ((a1:Nat)/4294967296:Int),.int .u64 (bits .and .u64 (a2:Nat) 4294967295),.int .u64 ((a2:Nat)/4294967296:Int),.int .u64 (bits .and .u64 (a3:Nat) 4294967295),.int .u64 ((a3:Nat)/4294967296:Int)]) (by simp[results,results147,go_sem]) rfl ⟨rfl,?_⟩
 (repeat(first|exact Below.refl _ _|apply Below.drew|refine zg ?_ _))
theorem zb1(n:Nat):RT 147 #[U n] (A8 (dg n)):=by
 intro w;have h:=digits_raw (l0 n) (l1 n) (l2 n) (l3 n) w;obtain⟨e0,e1,e2,e3,e4,e5,e6,e7⟩:=dg_parts n;have b:∀ x:Nat,x<M→((x:Nat)/4294967296:Int)=((x:Nat)/4294967296%4294967296:Int):=fun x hx=>by unfold M at hx;omega
 have c:∀ x:Nat,x<M→bits .and .u64 (x:Int) 4294967295=((x:Nat)%4294967296:Int):=fun x hx=>by rw[vx hx];rfl
 rw[b _ (yt n),b _ (zz n),b _ (z7 n),b _ (yq n),c _ (yt n),c _ (zz n),c _ (z7 n),c _ (yq n),e0,e1,e2,e3,e4,e5,e6,e7]at h;exact h
theorem number_raw(f0 f1 f2 f3 f4 f5 f6 f7:Nat)(w:World) :
  Calls prog 150 #[.agg #[B f0,B f1,B f2,B f3,B f4,B f5,B f6,B f7]] w fun e w'=>
   e=.returned (I4 (bits .or .u64 (bits .and .u64 f0 4294967295) (IntKind.u64.wrap ((f1:Int)*4294967296))) (bits .or .u64 (bits .and .u64 f2 4294967295) (IntKind.u64.wrap ((f3:Int)*4294967296))) (bits .or .u64 (bits .and .u64 f4 4294967295) (IntKind.u64.wrap ((f5:Int)*4294967296))) (bits .or .u64 (bits .and .u64 f6 4294967295) (IntKind.u64.wrap ((f7:Int)*4294967296))))∧Below w.heap.size w w':=by
 go_enter func150,ntmps150
 go_wp2
 refine wp_loop_rounds 5 ?_
 iterate 4(rw[rounds_succ];go_wp2;go_region;go_wp2)
 rw[rounds_succ];go_wp2;refine bodyPost_ret (v:=I4 (bits .or .u64 (bits .and .u64 f0 4294967295) (IntKind.u64.wrap ((f1:Int)*4294967296))) (bits .or .u64 (bits .and .u64 f2 4294967295) (IntKind.u64.wrap ((f3:Int)*4294967296))) (bits .or .u64 (bits .and .u64 f4 4294967295) (IntKind.u64.wrap ((f5:Int)*4294967296))) (bits .or .u64 (bits .and .u64 f6 4294967295) (IntKind.u64.wrap ((f7:Int)*4294967296)))) (by simp[results,results150,go_sem]) rfl ⟨rfl,?_⟩
 (repeat(first|exact Below.refl _ _|apply Below.drew|refine zg ?_ _))
theorem zcn{x y:Nat}(hx:x<D)(hy:y<D):bits .or .u64 (bits .and .u64 (x:Int) 4294967295) (IntKind.u64.wrap ((y:Int)*4294967296))=((x+y*D:Nat):Int)∧x+y*D<M:=by
 have hx':x<M:=by unfold D M at *;omega
 obtain⟨j1,j2⟩:=zc7 hx hy;have e1:bits .and .u64 (x:Int) 4294967295=(x:Int):=by rw[vx hx',Nat.mod_eq_of_lt hx]
 have e2:bits .or .u64 0 (IntKind.u64.wrap (IntKind.u64.wrap (x:Int)))=(x:Int):=by
  have e3:=ym 0 x (by decide) hx';rw[Nat.zero_or]at e3;have e4:IntKind.u64.wrap (IntKind.u64.wrap (x:Int))=((x:Nat):Int):=by simp only[IntKind.wrap_u64];unfold D at *;omega
  rw[e4];exact e3
 have e5:IntKind.u64.wrap (y:Int)=(y:Int):=by simp only[IntKind.wrap_u64];unfold D at *;omega
 rw[e2,e5]at j1;rw[e1];exact⟨j1,j2⟩
theorem zdj(f:Nat→Nat)(hf:∀ i,i<8→f i<D):RT 150 #[A8 f] (U (vl f 0 8)):=by
 intro w;have h:=number_raw (f 0) (f 1) (f 2) (f 3) (f 4) (f 5) (f 6) (f 7) w;obtain⟨a0,b0⟩:=zcn (hf 0 (by decide)) (hf 1 (by decide));obtain⟨a1,b1⟩:=zcn (hf 2 (by decide)) (hf 3 (by decide));obtain⟨a2,b2⟩:=zcn (hf 4 (by decide)) (hf 5 (by decide));obtain⟨a3,b3⟩:=zcn (hf 6 (by decide)) (hf 7 (by decide));rw[a0,a1,a2,a3]at h;have e:U (vl f 0 8)=U4 (f 0+f 1*D) (f 2+f 3*D) (f 4+f 5*D) (f 6+f 7*D):=by
  unfold U;rw[vl_mk,l0_mk _ _ _ _ b0,l1_mk _ _ _ _ b0 b1,l2_mk _ _ _ _ b0 b1 b2,l3_mk _ _ _ _ b0 b1 b2 b3]
 rw[e];exact h
theorem top_raw(f:Nat→Nat)(w:World) :
  Calls prog 220 #[A8 f] w fun e w'=>
   (∃ n:Nat,n≤8∧(∀ i,n≤i→i<8→f i=0)∧(0<n→f (n-1)≠0)∧e=.returned (.int .i64 (n:Int)))∧Below w.heap.size w w':=by
 go_enter func220,ntmps220
 go_wp2
 go_loopw [3] (fun i w'=>∃(n:Nat),n≤8∧i=.int .i64 (n:Int)∧w'=(w.alloc (Obj.cells (ag .u64 8 f) 121))∧(∀ i,n≤i→i<8→f i=0)) (fun i _=>(intOf i).toNat)
 case atStart=>exact⟨8,Nat.le_refl _,rfl,rfl,fun i h1 h2=>by omega⟩
 case round=>
  obtain⟨n,hn,rfl,rfl,hZ⟩:=hrel;have KZ:Hid _:=hZ;clear hZ;rcases n with _|m
  ·go_wp2
   go_ret
   exact⟨⟨0,by omega,KZ.out,fun h=>absurd h (by omega),rfl⟩,(by(repeat(first | exact Below.refl _ _ | refine zg ?_ _)))⟩
  ·have hc:(ag .u64 8 f)[m]? = some (.int .u64 (f m:Nat)):=by rw[zj,if_pos (by omega)]
   by_cases h0:f m=0
   ·have h0':((f m:Nat):Int)=0:=by omega
    go_wp2
    go_roundw
    case rel=>exact⟨m,by omega,rfl,by first | trivial | rfl,fun i h1 h2=>by
      rcases Nat.lt_or_ge m i with h|h
      ·exact KZ.out i (by omega) h2
      ·rw[show i=m by omega];exact h0⟩
    case measure=>simp[intOf];try omega
   ·have h0':¬ ((f m:Nat):Int)=0:=by omega
    go_wp2
    go_ret
    exact⟨⟨m+1,hn,KZ.out,fun _=>h0,rfl⟩,(by(repeat(first | exact Below.refl _ _ | refine zg ?_ _)))⟩
end
theorem D_split(s:Nat)(hs:s≤32):D=2^s*2^(32-s):=by
 rw[← Nat.pow_add,show s+(32-s)=32 by omega];decide
theorem dg_zero(x:Nat):dg x 0=x%D:=by unfold dg;rw[Nat.pow_zero,Nat.div_one]
theorem dg_shl0(x s:Nat):dg (x*2^s) 0=dg x 0*2^s%D:=by
 rw[dg_zero,dg_zero,Nat.mod_mul_mod]
theorem div_low(d c s t:Nat)(hc:c<2^s):(d*2^s+c)/(2^s*t)=d*2^s/(2^s*t):=by
 have hp:0<2^s:=Nat.two_pow_pos s;rw[← Nat.div_div_eq_div_mul,← Nat.div_div_eq_div_mul,Nat.mul_comm d,Nat.mul_add_div hp,Nat.div_eq_of_lt hc,Nat.mul_div_cancel_left _ hp,Nat.add_zero]
theorem dg_shl(x s i:Nat)(hs:s≤32):dg (x*2^s) (i+1)=(dg x (i+1)*2^s+dg x i*2^s/D)%D:=by
 have hD:=D_split s hs;have hi:=Dp i;have e1:x*2^s/D^(i+1)=x/D^(i+1)*2^s+dg x i*2^s/D:=by
  have hx:=Nat.div_add_mod x (D^i);have hr:x%D^i<D^i:=Nat.mod_lt _ hi;have hz:x/D^(i+1)=x/D^i/D:=by rw[Nat.pow_succ,Nat.div_div_eq_div_mul]
  have hy:=Nat.div_add_mod (x/D^i) D;rw[hz];unfold dg;have e2:x*2^s/D^(i+1)=x*2^s/D^i/D:=by rw[Nat.pow_succ,Nat.div_div_eq_div_mul]
  rw[e2];have e3:x*2^s/D^i=x/D^i*2^s+x%D^i*2^s/D^i:=by
   conv=>lhs;rw[← hx,Nat.add_mul,Nat.mul_assoc,Nat.mul_add_div hi]
  have hc:x%D^i*2^s/D^i<2^s:=by
   rw[Nat.div_lt_iff_lt_mul hi,Nat.mul_comm];exact Nat.mul_lt_mul_of_pos_left hr (Nat.two_pow_pos s)
  rw[e3];generalize x%D^i*2^s/D^i=c,x/D^i=y at *;have e4:y*2^s=D*(y/D*2^s)+y%D*2^s:=by
   conv=>lhs;rw[← hy,Nat.add_mul,Nat.mul_assoc]
  rw[e4,Nat.add_assoc,Nat.mul_add_div vn]
  congr 1
  rw[hD];exact div_low _ _ _ _ hc
 unfold dg at *;rw[e1,Nat.add_mod,← Nat.mod_mul_mod,← Nat.add_mod]
theorem dg_shr(x s i:Nat)(hs:s≤32):dg (x/2^s) i=(dg x i/2^s+dg x (i+1)*D/2^s)%D:=by
 have hD:=D_split s hs;have hp:0<2^s:=Nat.two_pow_pos s;have e1:x/2^s/D^i=x/D^i/2^s:=by rw[Nat.div_div_eq_div_mul,Nat.mul_comm,← Nat.div_div_eq_div_mul]
 have hz:x/D^(i+1)=x/D^i/D:=by rw[Nat.pow_succ,Nat.div_div_eq_div_mul]
 unfold dg;rw[e1,hz];generalize x/D^i=y;have hy:=Nat.div_add_mod y D;have hz2:=Nat.div_add_mod (y/D) D;have e2:y/2^s=y/D*2^(32-s)+y%D/2^s:=by
  conv=>lhs;rw[← hy]
  conv=>lhs;rw[hD]
  rw[Nat.mul_assoc,Nat.mul_add_div hp,Nat.mul_comm (2^(32-s))];rw[← hD]
 have e3:y/D%D*D/2^s=y/D%D*2^(32-s):=by
  generalize y/D%D=e
  conv=>lhs;rw[hD]
  rw[Nat.mul_left_comm,Nat.mul_div_cancel_left _ hp]
 rw[e2,e3,Nat.add_comm,Nat.add_mod,← Nat.mod_mul_mod (y/D),← Nat.add_mod]
theorem guess_dec{f g:Nat→Nat}{k n q r:Nat}(hf:∀ i,i<n+3→f (k+i)<D)(he:q*g (n+1)+r=f (k+(n+2))*D+f (k+(n+1)))(ht:q*g n>r*D+f (k+n)):vl f k (n+3)/vl g 0 (n+2)<q:=by
 rcases Nat.lt_or_ge (vl f k (n+3)/vl g 0 (n+2)) q with h|h
 ·exact h
 ·exfalso;have h1:q*vl g 0 (n+2)≤vl f k (n+3):=Nat.le_trans (Nat.mul_le_mul_right _ h) (Nat.div_mul_le_self _ _);have hlow:=zb3 (f:=f) (k:=k) (n:=n) (fun i hi=>hf i (by omega));have e1:vl g 0 (n+2)=vl g 0 n+(g (n+1)*D+g n)*D^n:=by
   rw[vl,vl,Nat.zero_add,Nat.zero_add,Nat.pow_succ,Nat.add_mul,Nat.mul_assoc,Nat.mul_comm D];omega
  have e2:vl f k (n+3)=vl f k n+((f (k+(n+2))*D+f (k+(n+1)))*D+f (k+n))*D^n:=by
   rw[vl,vl,vl,show D^(n+2)=D^n*D*D by rw[Nat.pow_succ,Nat.pow_succ],show D^(n+1)=D^n*D by rw[Nat.pow_succ]];generalize D^n=P;have a1:((f (k+(n+2))*D+f (k+(n+1)))*D+f (k+n))*P=f (k+(n+2))*(P*D*D)+f (k+(n+1))*(P*D)+f (k+n)*P:=by
    rw[Nat.add_mul,Nat.add_mul,Nat.add_mul];have b1:f (k+(n+2))*D*D*P=f (k+(n+2))*(P*D*D):=by ac_rfl
    have b2:f (k+(n+1))*D*P=f (k+(n+1))*(P*D):=by ac_rfl
    rw[b1,b2]
   rw[a1];omega
  rw[e1,e2,← he,Nat.mul_add,← Nat.mul_assoc]at h1;have h2:q*(g (n+1)*D+g n)*D^n<((q*g (n+1)+r)*D+f (k+n)+1)*D^n:=by
   rw[Nat.add_mul _ 1,Nat.one_mul];omega
  have h3:=Nat.lt_of_mul_lt_mul_right h2;rw[Nat.mul_add,Nat.add_mul,← Nat.mul_assoc]at h3;omega
theorem guess_end{f g:Nat→Nat}{k n q r:Nat}(hg:∀ i,i<n+2→g i<D)(h1:0<g (n+1))(he:q*g (n+1)+r=f (k+(n+2))*D+f (k+(n+1)))(hq:q<D)(ht:q*g n≤r*D+f (k+n)):q*vl g 0 (n+2)<vl f k (n+3)+vl g 0 (n+2):=by
 have hlow:=zb3 (f:=g) (k:=0) (n:=n) (fun i hi=>by rw[Nat.zero_add];exact hg i (by omega));have e1:vl g 0 (n+2)=vl g 0 n+(g (n+1)*D+g n)*D^n:=by
  rw[vl,vl,Nat.zero_add,Nat.zero_add,Nat.pow_succ,Nat.add_mul,Nat.mul_assoc,Nat.mul_comm D];omega
 have e2:vl f k (n+3)=vl f k n+((f (k+(n+2))*D+f (k+(n+1)))*D+f (k+n))*D^n:=by
  rw[vl,vl,vl,show D^(n+2)=D^n*D*D by rw[Nat.pow_succ,Nat.pow_succ],show D^(n+1)=D^n*D by rw[Nat.pow_succ]];generalize D^n=P;have a1:((f (k+(n+2))*D+f (k+(n+1)))*D+f (k+n))*P=f (k+(n+2))*(P*D*D)+f (k+(n+1))*(P*D)+f (k+n)*P:=by
   rw[Nat.add_mul,Nat.add_mul,Nat.add_mul];have b1:f (k+(n+2))*D*D*P=f (k+(n+2))*(P*D*D):=by ac_rfl
   have b2:f (k+(n+1))*D*P=f (k+(n+1))*(P*D):=by ac_rfl
   rw[b1,b2]
  rw[a1];omega
 have h3:q*(g (n+1)*D+g n)≤(f (k+(n+2))*D+f (k+(n+1)))*D+f (k+n):=by
  rw[← he,Nat.mul_add,Nat.add_mul,← Nat.mul_assoc];omega
 have h4:=Nat.mul_le_mul_right (D^n) h3;have h5:q*vl g 0 n≤D*D^n:=Nat.mul_le_mul (by omega) (by omega);have h6:D*D^n≤(g (n+1)*D+g n)*D^n:=Nat.mul_le_mul_right _ (by
  have:=Nat.le_mul_of_pos_left D h1;omega)
 have h7:q*vl g 0 (n+2)=q*vl g 0 n+q*(g (n+1)*D+g n)*D^n:=by rw[e1,Nat.mul_add,Nat.mul_assoc]
 have h8:q*vl g 0 n<D*D^n:=by
  have hp:=Dp n;have:q*vl g 0 n≤q*D^n:=Nat.mul_le_mul_left _ (by omega);have:q*D^n<D*D^n:=Nat.mul_lt_mul_of_pos_right hq hp;omega
 rw[h7,e2];omega
structure LV (w w':World) (d m q o:Nat→Nat):Prop where
 dd:za w' w.heap.size (ag .u64 16 d)
 mm:za w' (w.heap.size+1) (ag .u64 8 m)
 r4:za w' (w.heap.size+1+1) (ag .u64 16 (fun _=>0))
 r5:za w' (w.heap.size+1+1+1) (ag .u64 8 (fun _=>0))
 qq:za w' (w.heap.size+1+1+1+1) (ag .u64 16 q)
 oo:za w' (w.heap.size+1+1+1+1+1) (ag .u64 8 o)
 b:Below w.heap.size w w'
theorem LV.putQ{w w':World}{d m q o:Nat→Nat}(h:LV w w' d m q o)(i x:Nat):LV w (w'.setCell ⟨w.heap.size+1+1+1+1,i,none⟩ (.int .u64 (x:Nat))) d m (upd q i x) o:=by
 rw[h.qq.setCell,zw];exact⟨h.dd.set_other _ (by omega),h.mm.set_other _ (by omega),h.r4.set_other _ (by omega),h.r5.set_other _ (by omega),h.qq.set_same _,h.oo.set_other _ (by omega),zd h.b (by omega) _⟩
theorem LV.putO{w w':World}{d m q o:Nat→Nat}(h:LV w w' d m q o)(i x:Nat):LV w (w'.setCell ⟨w.heap.size+1+1+1+1+1,i,none⟩ (.int .u64 (x:Nat))) d m q (upd o i x):=by
 rw[h.oo.setCell,zw];exact⟨h.dd.set_other _ (by omega),h.mm.set_other _ (by omega),h.r4.set_other _ (by omega),h.r5.set_other _ (by omega),h.qq.set_other _ (by omega),h.oo.set_same _,zd h.b (by omega) _⟩
structure CL (w:World) (q o:Nat→Nat) (zb:Array Bool) (vs:Nat→Value) (w':World):Prop where
 b:Below w.heap.size w w'
 qq:za w' (w.heap.size+1+1+1+1) (ag .u64 16 q)
 oo:za w' (w.heap.size+1+1+1+1+1) (ag .u64 8 o)
 c0:zb.getD 0 false=true→vs 0=A16 q
 c1:zb.getD 1 false=true→vs 1=A8 o
 c2:∃ c,za w' (w.heap.size+1+1) c∧c.size=16∧(zb.getD 2 false=true→c=ag .u64 16 q)
 c3:∃ c,za w' (w.heap.size+1+1+1) c∧c.size=8∧(zb.getD 3 false=true→c=ag .u64 8 o)
structure LR (X V:Nat) (q o:Nat→Nat):Prop where
 hq:∀ i,i<16→q i<D
 ho:∀ i,i<8→o i<D
 vq:vl q 0 16=X/V
 vo:vl o 0 8=if V=0 then 0 else X%V
theorem or_two{f1 f0:Nat}(h1:f1<D)(h0:f0<D):bits BinOp.or IntKind.u64 (IntKind.u64.wrap ((f1:Int)*4294967296)) (f0:Int)=((f1*D+f0:Nat):Int):=by
 have e1:IntKind.u64.wrap ((f1:Int)*4294967296)=((f1*D:Nat):Int):=by simp only[IntKind.wrap_u64];unfold D at *;omega
 have hM1:f1*D<M:=by unfold D M at *;omega
 have hM0:f0<M:=by unfold D M at *;omega
 rw[e1,ym (f1*D) f0 hM1 hM0];have h0':f0<2^32:=h0;have e2:=Nat.two_pow_add_eq_or_of_lt h0' f1;have eD:D=2^32:=by decide
 have e:f1*D ||| f0=f1*D+f0:=by rw[Nat.mul_comm,eD];exact e2.symm
 rw[e]
theorem num_one{r x m:Nat}(hr:r<D)(hx:x<D)(hm:0<m) :
  r*D+x<M∧(bits BinOp.or IntKind.u64 (IntKind.u64.wrap ((r:Int)*4294967296)) (x:Int)).tmod (m:Int)=(((r*D+x)%m:Nat):Int)
  ∧ IntKind.u64.wrap ((bits BinOp.or IntKind.u64 (IntKind.u64.wrap ((r:Int)*4294967296)) (x:Int)).tdiv (m:Int))=(((r*D+x)/m:Nat):Int):=by
 have hlt:r*D+x<M:=by unfold D M at *;omega
 rw[or_two hr hx];refine⟨hlt,rfl,?_⟩;have e:((r*D+x:Nat):Int).tdiv (m:Int)=(((r*D+x)/m:Nat):Int):=rfl;rw[e];have hq:(r*D+x)/m≤r*D+x:=Nat.div_le_self _ _;generalize (r*D+x)/m=q at *;generalize r*D+x=y at *;simp only[IntKind.wrap_u64];unfold M at hlt;omega
structure L1 (d q:Nat→Nat) (m t r:Nat):Prop where
 hr:r<m
 hq:∀ i,i<16→q i<D
 hv:vl d t (16-t)=vl q t (16-t)*m+r
theorem L1.start{d:Nat→Nat}{m:Nat}(h:0<m):L1 d (fun _=>0) m 16 0:=⟨h,fun _ _=>vn,by simp[vl]⟩
theorem L1.step{d q:Nat→Nat}{m p r:Nat}(h:L1 d q m (p+1) r)(hp:p<16)(hm:m<D)(hd:d p<D):L1 d (upd q p ((r*D+d p)/m)) m p ((r*D+d p)%m) where
 hr:=Nat.mod_lt _ (Nat.lt_of_le_of_lt (Nat.zero_le _) h.hr)
 hq:=upd_lt h.hq (by
  have h1:=h.hr;rw[Nat.div_lt_iff_lt_mul (by omega)];have h2:r*D+D≤m*D:=by rw[← Nat.succ_mul];exact Nat.mul_le_mul_right _ h1
  rw[Nat.mul_comm D m];omega)
 hv:=by
  have hv:=h.hv;have e1:vl d p (16-p)=d p+D*vl d (p+1) (16-(p+1)):=by rw[show 16-p=(16-(p+1))+1 by omega,vl_low]
  have e2:vl (upd q p ((r*D+d p)/m)) p (16-p)=(r*D+d p)/m+D*vl q (p+1) (16-(p+1)):=by
   rw[show 16-p=(16-(p+1))+1 by omega,vl_low,qo,vl_upd_above q p _ (Nat.lt_succ_self p)]
  have hdm:=Nat.div_add_mod (r*D+d p) m;rw[e1,e2,hv,Nat.add_mul,Nat.mul_add,Nat.mul_assoc D];generalize (r*D+d p)/m=a,(r*D+d p)%m=c at *;rw[Nat.mul_comm a m,Nat.mul_comm D r];omega
theorem L1.end{d q:Nat→Nat}{m r:Nat}(h:L1 d q m 0 r)(hm:m<D):LR (vl d 0 16) m q (upd (fun _=>0) 0 r) where
 hq:=h.hq
 ho i hi:=by unfold upd;split;exact Nat.lt_trans h.hr hm;exact vn
 vq:=by
  have hv:vl d 0 16=vl q 0 16*m+r:=h.hv;rw[hv,Nat.mul_comm,Nat.mul_add_div (by have:=h.hr;omega),Nat.div_eq_of_lt h.hr,Nat.add_zero]
 vo:=by
  have hv:vl d 0 16=vl q 0 16*m+r:=h.hv;have hr:=h.hr;rw[if_neg (by omega),hv,Nat.mul_comm,Nat.mul_add_mod,Nat.mod_eq_of_lt h.hr];rw[show(8:Nat)=7+1 from rfl,vl_low,qo,x8 (fun i hi=>yd _ _ _ (by omega)),Nat.mul_zero,Nat.add_zero]
theorem long_zero(d m:Nat→Nat)(X:Nat)(ct:Hid (∀ w,Calls prog 220 #[A8 m] w fun e w'=>e=.returned (.int .i64 0)∧Below w.heap.size w w'))(w:World) :
  Calls prog 148 #[A16 d,A8 m] w fun e w'=>
   (∃ q o,LR X 0 q o∧e=.returned (.tuple #[A16 q,A8 o]))∧Below w.heap.size w w':=by
 go_enter func148,ntmps148
 go_upto_region 3 with fail
 refine wp_region_lit ?_;refine xg rfl 121 (.tmp 3) rfl (w.heap.size+1) rfl .u64 8 m (za.old (za.old (za.old (za.old (za.last (by simp)))))) underlying121 (by kernel_rfl) ?_
 go_wp2_with fail
 refine(ct.out _).mono ?_;rintro e w1 ⟨rfl,hb1⟩;have F1:LV w w1 d m (fun _=>0) (fun _=>0):=⟨(za.old (za.old (za.old (za.old (za.old (za.last rfl)))))).below hb1,(za.old (za.old (za.old (za.old (za.last (by simp)))))).below hb1,(za.old (za.old (za.old (za.last (by simp))))).below hb1,(za.old (za.old (za.last (by simp)))).below hb1,(za.old (za.last (by simp))).below hb1,(za.last (by simp)).below hb1,yr (by(repeat(first | exact Below.refl _ _ | refine zg ?_ _))) hb1⟩
 have K1:Hid _:=F1;clear hb1;clear F1
 go_wp2
 refine zaa (by kernel_rfl) (by kernel_rfl) (by kernel_rfl) (CL w (fun _=>0) (fun _=>0)) ?_ ?_ ?_
 ·refine⟨K1.out.b.drew,K1.out.qq,K1.out.oo,?_,?_,⟨_,K1.out.r4,zo _ _ _,?_⟩,⟨_,K1.out.r5,zo _ _ _,?_⟩⟩<;>(intro h;simp[Array.getD]at h)
 ·intro zb vs a' w' i o' hs ho hi hF cc;have hi4:i<4:=by have:=(Array.getElem?_eq_some_iff.1 ho).1;simpa using this
  have hcase:i=0∨i=1∨i=2∨i=3:=by omega
  rcases hcase with rfl|rfl|rfl|rfl
  ·simp at ho;subst ho;have T:=dTz zb 0;exact kz 120 (.tmp 6) rfl (w.heap.size+1+1+1+1) ((hF.old (by kernel_rfl)).trans rfl) cc.qq (zo _ _ _) underlying120 (by kernel_rfl) ⟨_,rfl,⟨cc.b,cc.qq,cc.oo,fun _=>rfl,uz cc.c1,by obtain⟨c,h2,h3,h4⟩:=cc.c2;exact⟨c,h2,h3,fun h=>h4 (T 2 (by decide) h)⟩,by obtain⟨c,h2,h3,h4⟩:=cc.c3;exact⟨c,h2,h3,fun h=>h4 (T 3 (by decide) h)⟩⟩⟩
  ·simp at ho;subst ho;have T:=dTz zb 1;exact kz 121 (.tmp 7) rfl (w.heap.size+1+1+1+1+1) ((hF.old (by kernel_rfl)).trans rfl) cc.oo (zo _ _ _) underlying121 (by kernel_rfl) ⟨_,rfl,⟨cc.b,cc.qq,cc.oo,uz cc.c0,fun _=>rfl,by obtain⟨c,h2,h3,h4⟩:=cc.c2;exact⟨c,h2,h3,fun h=>h4 (T 2 (by decide) h)⟩,by obtain⟨c,h2,h3,h4⟩:=cc.c3;exact⟨c,h2,h3,fun h=>h4 (T 3 (by decide) h)⟩⟩⟩
  ·simp at ho;subst ho;have T:=dTz zb 2;have hv:=(hF.new (t:=34) (i:=0) (by kernel_rfl) (by simp) (zf (i:=2) (j:=0) (by kernel_rfl) hi)).trans (cc.c0 (zf (i:=2) (j:=0) (by kernel_rfl) hi));obtain⟨c,h2,h3,h4⟩:=cc.c2;obtain⟨c',k2,k3,k4⟩:=cc.c3
   exact vb 120 (.tmp 4) (.tmp 34) rfl (w.heap.size+1+1) (c':=ag .u64 16 (fun _=>0)) ((hF.old (by kernel_rfl)).trans rfl) hv h2 h3 (zo _ _ _) (zdm _ _ _) (by kernel_rfl) ⟨_,rfl,⟨zd cc.b (by omega) _,cc.qq.set_other _ (by omega),cc.oo.set_other _ (by omega),uz cc.c0,uz cc.c1,⟨_,h2.set_same _,zo _ _ _,fun _=>rfl⟩,⟨c',k2.set_other _ (by omega),k3,fun h=>k4 (T 3 (by decide) h)⟩⟩⟩
  ·simp at ho;subst ho;have T:=dTz zb 3;have hv:=(hF.new (t:=35) (i:=1) (by kernel_rfl) (by simp) (zf (i:=3) (j:=1) (by kernel_rfl) hi)).trans (cc.c1 (zf (i:=3) (j:=1) (by kernel_rfl) hi));obtain⟨c,h2,h3,h4⟩:=cc.c3;obtain⟨c',k2,k3,k4⟩:=cc.c2
   exact vb 121 (.tmp 5) (.tmp 35) rfl (w.heap.size+1+1+1) (c':=ag .u64 8 (fun _=>0)) ((hF.old (by kernel_rfl)).trans rfl) hv h2 h3 (zo _ _ _) (zdm _ _ _) (by kernel_rfl) ⟨_,rfl,⟨zd cc.b (by omega) _,cc.qq.set_other _ (by omega),cc.oo.set_other _ (by omega),uz cc.c0,uz cc.c1,⟨c',k2.set_other _ (by omega),k3,fun h=>k4 (T 2 (by decide) h)⟩,⟨_,h2.set_same _,zo _ _ _,fun _=>rfl⟩⟩⟩
 ·intro zb vs a' w' hd hF cc;obtain⟨c,h2,h3,h4⟩:=cc.c2;obtain⟨c',k2,k3,k4⟩:=cc.c3;have hx4:a'.eval (.tmp 4)=.pointer (some ⟨w.heap.size+1+1,0,none⟩):=(hF.old (by kernel_rfl)).trans rfl;have hx5:a'.eval (.tmp 5)=.pointer (some ⟨w.heap.size+1+1+1,0,none⟩):=(hF.old (by kernel_rfl)).trans rfl;have hr:=xx (P:=prog) (fn:=Tryz.f148) rfl a' w' hx4 hx5 h2 k2 h3 k3 underlying120 (by kernel_rfl) underlying121 (by kernel_rfl);rw[h4 (hd 2 (by simp)),k4 (hd 3 (by simp))]at hr;have HR:Hid _:=hr;have HB:Hid _:=cc.b;have HD:Hid (a'.defers=[]):=hF.1
  clear hr cc hF hx4 hx5 h2 h3 h4 k2 k3 k4
  go_wp2
  exact bodyPost_ret HR.out HD.out ⟨⟨(fun _=>0),(fun _=>0),⟨fun _ _=>vn,fun _ _=>vn,by rw[x8 (fun _ _=>rfl),Nat.div_zero],by rw[x8 (fun _ _=>rfl),if_pos rfl]⟩,rfl⟩,HB.out⟩
theorem long_one(d m:Nat→Nat)(hm0:0<m 0)(hm:m 0<D)(hd:∀ i,i<16→d i<D)(ct:Hid (∀ w,Calls prog 220 #[A8 m] w fun e w'=>e=.returned (.int .i64 1)∧Below w.heap.size w w'))(w:World) :
  Calls prog 148 #[A16 d,A8 m] w fun e w'=>
   (∃ q o,LR (vl d 0 16) (m 0) q o∧e=.returned (.tuple #[A16 q,A8 o]))∧Below w.heap.size w w':=by
 have GD:Hid (0<m 0∧m 0<D∧∀ i,i<16→d i<D):=⟨hm0,hm,hd⟩
 have hmz:¬ ((m 0:Nat):Int)=0:=by omega
 clear hm0 hm hd
 go_enter func148,ntmps148
 go_upto_region 3 with fail
 refine wp_region_lit ?_;refine xg rfl 121 (.tmp 3) rfl (w.heap.size+1) rfl .u64 8 m (za.old (za.old (za.old (za.old (za.last (by simp)))))) underlying121 (by kernel_rfl) ?_
 go_wp2_with fail
 refine(ct.out _).mono ?_;rintro e w1 ⟨rfl,hb1⟩;have F1:LV w w1 d m (fun _=>0) (fun _=>0):=⟨(za.old (za.old (za.old (za.old (za.old (za.last rfl)))))).below hb1,(za.old (za.old (za.old (za.old (za.last (by simp)))))).below hb1,(za.old (za.old (za.old (za.last (by simp))))).below hb1,(za.old (za.old (za.last (by simp)))).below hb1,(za.old (za.last (by simp))).below hb1,(za.last (by simp)).below hb1,yr (by(repeat(first | exact Below.refl _ _ | refine zg ?_ _))) hb1⟩
 have K1:Hid _:=F1;clear hb1;clear F1
 go_wp2
 go_loopw [9,10] (fun r i w'=>∃(t rn:Nat) (q:Nat→Nat),t≤16∧i=.int .i64 ((t:Int)-1)∧r=B rn∧LV w w' d m q (fun _=>0)∧L1 d q (m 0) t rn) (fun _ i _=>(intOf i+1).toNat)
 case atStart=>exact⟨16,0,fun _=>0,Nat.le_refl _,rfl,rfl,K1.out,L1.start GD.out.1⟩
 case round=>
  obtain⟨t,rn,q,ht,rfl,rfl,hS,hL⟩:=hrel;clear K1;have KS:Hid _:=hS;have KL:Hid _:=hL;clear hL;rcases t with _|p
  ·rw[show((0:Nat):Int)-1 = -1 by rfl];have hc:=hS.oo.cell 0;rw[zj,if_pos (by omega)]at hc;have hz:=hS.oo.frozen 0;have hl:=hS.oo.lt;clear hS
   go_wp2
   have F2:=KS.out.putO 0 rn;have K2:Hid _:=F2;generalize wr.setCell ⟨w.heap.size+1+1+1+1+1,0,none⟩ (.int .u64 (rn:Nat))=w2 at *;refine zaa (by kernel_rfl) (by kernel_rfl) (by kernel_rfl) (CL w q (upd (fun _=>0) 0 rn)) ?_ ?_ ?_
   ·refine⟨F2.b.drew,F2.qq,F2.oo,?_,?_,⟨_,F2.r4,zo _ _ _,?_⟩,⟨_,F2.r5,zo _ _ _,?_⟩⟩<;>(intro h;simp[Array.getD]at h)
   ·intro zb vs a' w' i o' hs ho hi hF cc;have hi4:i<4:=by have:=(Array.getElem?_eq_some_iff.1 ho).1;simpa using this
    have hcase:i=0∨i=1∨i=2∨i=3:=by omega
    rcases hcase with rfl|rfl|rfl|rfl
    ·simp at ho;subst ho;have T:=dTz zb 0;exact kz 120 (.tmp 6) rfl (w.heap.size+1+1+1+1) ((hF.old (by kernel_rfl)).trans rfl) cc.qq (zo _ _ _) underlying120 (by kernel_rfl) ⟨_,rfl,⟨cc.b,cc.qq,cc.oo,fun _=>rfl,uz cc.c1,by obtain⟨c,h2,h3,h4⟩:=cc.c2;exact⟨c,h2,h3,fun h=>h4 (T 2 (by decide) h)⟩,by obtain⟨c,h2,h3,h4⟩:=cc.c3;exact⟨c,h2,h3,fun h=>h4 (T 3 (by decide) h)⟩⟩⟩
    ·simp at ho;subst ho;have T:=dTz zb 1;exact kz 121 (.tmp 7) rfl (w.heap.size+1+1+1+1+1) ((hF.old (by kernel_rfl)).trans rfl) cc.oo (zo _ _ _) underlying121 (by kernel_rfl) ⟨_,rfl,⟨cc.b,cc.qq,cc.oo,uz cc.c0,fun _=>rfl,by obtain⟨c,h2,h3,h4⟩:=cc.c2;exact⟨c,h2,h3,fun h=>h4 (T 2 (by decide) h)⟩,by obtain⟨c,h2,h3,h4⟩:=cc.c3;exact⟨c,h2,h3,fun h=>h4 (T 3 (by decide) h)⟩⟩⟩
    ·simp at ho;subst ho;have T:=dTz zb 2;have hv:=(hF.new (t:=60) (i:=0) (by kernel_rfl) (by simp) (zf (i:=2) (j:=0) (by kernel_rfl) hi)).trans (cc.c0 (zf (i:=2) (j:=0) (by kernel_rfl) hi));obtain⟨c,h2,h3,h4⟩:=cc.c2;obtain⟨c',k2,k3,k4⟩:=cc.c3
     exact vb 120 (.tmp 4) (.tmp 60) rfl (w.heap.size+1+1) (c':=ag .u64 16 q) ((hF.old (by kernel_rfl)).trans rfl) hv h2 h3 (zo _ _ _) (zdm _ _ _) (by kernel_rfl) ⟨_,rfl,⟨zd cc.b (by omega) _,cc.qq.set_other _ (by omega),cc.oo.set_other _ (by omega),uz cc.c0,uz cc.c1,⟨_,h2.set_same _,zo _ _ _,fun _=>rfl⟩,⟨c',k2.set_other _ (by omega),k3,fun h=>k4 (T 3 (by decide) h)⟩⟩⟩
    ·simp at ho;subst ho;have T:=dTz zb 3;have hv:=(hF.new (t:=61) (i:=1) (by kernel_rfl) (by simp) (zf (i:=3) (j:=1) (by kernel_rfl) hi)).trans (cc.c1 (zf (i:=3) (j:=1) (by kernel_rfl) hi));obtain⟨c,h2,h3,h4⟩:=cc.c3;obtain⟨c',k2,k3,k4⟩:=cc.c2
     exact vb 121 (.tmp 5) (.tmp 61) rfl (w.heap.size+1+1+1) (c':=ag .u64 8 (upd (fun _=>0) 0 rn)) ((hF.old (by kernel_rfl)).trans rfl) hv h2 h3 (zo _ _ _) (zdm _ _ _) (by kernel_rfl) ⟨_,rfl,⟨zd cc.b (by omega) _,cc.qq.set_other _ (by omega),cc.oo.set_other _ (by omega),uz cc.c0,uz cc.c1,⟨c',k2.set_other _ (by omega),k3,fun h=>k4 (T 2 (by decide) h)⟩,⟨_,h2.set_same _,zo _ _ _,fun _=>rfl⟩⟩⟩
   ·intro zb vs a' w' hd hF cc;obtain⟨c,h2,h3,h4⟩:=cc.c2;obtain⟨c',k2,k3,k4⟩:=cc.c3;have hx4:a'.eval (.tmp 4)=.pointer (some ⟨w.heap.size+1+1,0,none⟩):=(hF.old (by kernel_rfl)).trans rfl;have hx5:a'.eval (.tmp 5)=.pointer (some ⟨w.heap.size+1+1+1,0,none⟩):=(hF.old (by kernel_rfl)).trans rfl;have hr:=xx (P:=prog) (fn:=Tryz.f148) rfl a' w' hx4 hx5 h2 k2 h3 k3 underlying120 (by kernel_rfl) underlying121 (by kernel_rfl);rw[h4 (hd 2 (by simp)),k4 (hd 3 (by simp))]at hr;have HR:Hid _:=hr;have HB:Hid _:=cc.b;have HD:Hid (a'.defers=[]):=hF.1
    clear hr cc hF hx4 hx5 h2 h3 h4 k2 k3 k4
    go_wp2
    exact bodyPost_ret HR.out HD.out ⟨⟨q,(upd (fun _=>0) 0 rn),KL.out.end GD.out.2.1,rfl⟩,HB.out⟩
  ·rw[show((p+1:Nat):Int)-1=(p:Int) by omega];have hc1:=hS.dd.cell p;rw[zj,if_pos (by omega)]at hc1;have hc2:=hS.mm.cell 0;rw[zj,if_pos (by omega)]at hc2;have hc3:=hS.qq.cell p;rw[zj,if_pos (by omega)]at hc3;have hz:=hS.qq.frozen p;have hl:=hS.qq.lt;clear hS
   go_wp2
   go_roundw
   case rel=>
    obtain⟨g1,g2,g3⟩:=GD.out;have L:=KL.out;obtain⟨n1,n2,n3⟩:=num_one (Nat.lt_trans L.hr g2) (g3 p (by omega)) g1;refine⟨p,_,_,by omega,rfl,?_,?_,L.step (by omega) g2 (g3 p (by omega))⟩
    ·rw[n2]
    ·rw[n3];exact KS.out.putQ p _
   case measure=>simp[intOf];try omega
theorem vl_cut{f:Nat→Nat}{a b:Nat}(hab:a≤b)(hz:∀ i,a≤i→i<b→f i=0):vl f 0 b=vl f 0 a:=by
 obtain⟨c,rfl⟩:∃ c,b=a+c:=⟨b-a,by omega⟩
 have e:vl f (0+a) c=0:=x8 fun i hi=>hz _ (by omega) (by omega)
 rw[zae,e,Nat.mul_zero,Nat.add_zero]
theorem div_shl{m:Nat→Nat}{k s:Nat}(hm:∀ i,i<8→m i<D)(hk:k≤6)(hz:∀ i,k+2≤i→i<8→m i=0)(hs:s<32)(h1:m (k+1)*2^s<D) :
  vl m 0 8*2^s<D^(k+2):=by
 have hD:=D_split s (by omega);have hp:0<2^s:=Nat.two_pow_pos s;have e:vl m 0 8=vl m 0 (k+2):=vl_cut (by omega) hz;have hlow:vl m 0 (k+1)<D^(k+1):=zb3 fun i hi=>by rw[Nat.zero_add];exact hm i (by omega)
 have h2:m (k+1)<2^(32-s):=by
  rw[hD,Nat.mul_comm]at h1;exact Nat.lt_of_mul_lt_mul_left h1
 have h3:(m (k+1)+1)*2^s≤D:=by
  rw[hD,Nat.mul_comm (2^s)];exact Nat.mul_le_mul_right _ h2
 rw[e,vl,Nat.zero_add];have h4:vl m 0 (k+1)+m (k+1)*D^(k+1)<(m (k+1)+1)*D^(k+1):=by rw[Nat.add_mul,Nat.one_mul];omega
 have h5:(vl m 0 (k+1)+m (k+1)*D^(k+1))*2^s<(m (k+1)+1)*D^(k+1)*2^s:=Nat.mul_lt_mul_of_pos_right h4 hp;have h6:(m (k+1)+1)*D^(k+1)*2^s≤D^(k+2):=by
  have:(m (k+1)+1)*D^(k+1)*2^s=(m (k+1)+1)*2^s*D^(k+1):=by rw[Nat.mul_right_comm]
  rw[this,Nat.pow_succ D (k+1),Nat.mul_comm (D^(k+1)) D];exact Nat.mul_le_mul_right _ h3
 exact Nat.lt_of_lt_of_le h5 h6
theorem main_start{d m v u:Nat→Nat}{k s:Nat}(hd:∀ i,i<16→d i<D)(hm:∀ i,i<8→m i<D)(hk:k≤6)(ht:0<m (k+1))(hz:∀ i,k+2≤i→i<8→m i=0)(hs:s<32)(h1:m (k+1)*2^s<D)(hv:∀ i,i<k+2→v i=dg (vl m 0 8*2^s) i)(hu:∀ i,i<17→u i=dg (vl d 0 16*2^s) i) :
  vl v 0 (k+2)=vl m 0 8*2^s∧(∀ i,i<k+2→v i<D)∧DmI (vl d 0 16*2^s) (vl v 0 (k+2)) u (fun _=>0) (15-k):=by
 have hVlt:=div_shl hm hk hz hs h1;have eV:vl v 0 (k+2)=vl m 0 8*2^s:=by
  rw[kw (g:=dg (vl m 0 8*2^s)) (fun i hi=>by rw[Nat.zero_add];exact hv i hi)];exact zai hVlt
 have hp:0<2^s:=Nat.two_pow_pos s;have hX16:vl d 0 16<D^16:=zb3 fun i hi=>by rw[Nat.zero_add];exact hd i hi
 have h2D:2^s≤D:=by
  have:2^s≤2^32:=Nat.pow_le_pow_right (by decide) (by omega);exact this
 have hX17:vl d 0 16*2^s<D^17:=by
  have a1:vl d 0 16*2^s<D^16*2^s:=Nat.mul_lt_mul_of_pos_right hX16 hp;rw[show(17:Nat)=16+1 from rfl,Nat.pow_succ];exact Nat.lt_of_lt_of_le a1 (Nat.mul_le_mul_left _ h2D)
 have eX:vl u 0 17=vl d 0 16*2^s:=by
  rw[kw (g:=dg (vl d 0 16*2^s)) (fun i hi=>by rw[Nat.zero_add];exact hu i hi)];exact zai hX17
 have hM:D^(k+1)≤vl m 0 8:=by
  rw[vl_cut (f:=m) (a:=k+2) (b:=8) (by omega) hz,vl,Nat.zero_add];have:=Nat.le_mul_of_pos_left (D^(k+1)) ht;omega
 refine⟨eV,fun i hi=>by rw[hv i hi];exact za2 _ _,DmI.start (by omega) (fun i hi=>by rw[hu i hi];exact za2 _ _) eX ?_⟩;rw[eV,Nat.mul_assoc,Nat.mul_comm (2^s),← Nat.mul_assoc];refine Nat.mul_lt_mul_of_pos_right (Nat.lt_of_lt_of_le hX16 ?_) hp;have a2:D^(k+1)*D^(15-k)≤vl m 0 8*D^(15-k):=Nat.mul_le_mul_right _ hM
 rwa [← Nat.pow_add,show k+1+(15-k)=16 by omega]at a2
theorem main_end{X M1 s:Nat}{f q:Nat→Nat}(h0:0<M1)(hI:DmI (X*2^s) (M1*2^s) f q 0):vl q 0 16=X/M1∧vl f 0 17/2^s=X%M1∧vl f 0 17<M1*2^s:=by
 have hv:=hI.hv;have hlt:=hI.hl;simp only[Nat.sub_zero,Nat.pow_zero,Nat.mul_one]at hv hlt;generalize vl f 0 17=L,vl q 0 16=Q at *;have hp:0<2^s:=Nat.two_pow_pos s;rw[← Nat.mul_assoc]at hv;have hle:Q*M1≤X:=by
  have:Q*M1*2^s≤X*2^s:=by omega
  exact Nat.le_of_mul_le_mul_right this hp
 have hr:L=(X-Q*M1)*2^s:=by rw[Nat.sub_mul];omega
 have hlt2:X-Q*M1<M1:=by
  rw[hr]at hlt;exact Nat.lt_of_mul_lt_mul_right hlt
 have hQ:Q=X/M1:=by
  have h1:Q≤X/M1:=(Nat.le_div_iff_mul_le h0).2 hle;have h2:X/M1<Q+1:=(Nat.div_lt_iff_lt_mul h0).2 (by rw[Nat.add_mul];omega);omega
 refine⟨hQ,?_,hlt⟩;rw[hr,Nat.mul_div_cancel _ hp];have:=Nat.div_add_mod X M1;rw[← hQ,Nat.mul_comm]at this;omega
end Go.Proofs.YtceedgdbhlpjlaaGreatDoor
