/- Out of Mx. -/
import Derived.Test.YthkpgfbjdabflaaGreatDoorKkBu
import Derived.Test.YthkpgfbjdabflaaGreatDoorKkLm
import Derived.Lib.ItoaNum
namespace Go.Proofs.YthkpgfbjdabflaaGreatDoor
open Go.RowKit Go.Sort Tryz
set_option linter.unusedVariables false
set_option maxRecDepth 100000
set_option maxHeartbeats 4000000
section
attribute [local go_sem] zc3 kp
theorem U_1:U 1=I4 1 0 0 0:=by kernel_rfl
theorem mulmod_raw(a b m h l x:Nat)(c1:Hid (∀ w,Calls prog 294 #[U a,U b] w fun e w'=>e=.returned (.tuple #[U h,U l])∧Below w.heap.size w w'))(c2:Hid (∀ w,Calls prog 297 #[U h,U l,U m] w fun e w'=>e=.returned (U x)∧Below w.heap.size w w'))(w:World):Calls prog 257 #[U a,U b,U m] w fun e w'=>e=.returned (U x)∧Below w.heap.size w w':=ro [(1,[nO,nO,kC func294 c1.out]),(2,[nO,nO,nO,kC func297 c2.out])] func257
theorem addmod0_raw(a b m s x:Nat)(c1:Hid (∀ w,Calls prog 91 #[U a,U b] w fun e w'=>e=.returned (.tuple #[U s,.bool false])∧Below w.heap.size w w'))(c2:Hid (∀ w,Calls prog 297 #[I4 0 0 0 0,U s,U m] w fun e w'=>e=.returned (U x)∧Below w.heap.size w w'))(w:World):Calls prog 256 #[U a,U b,U m] w fun e w'=>e=.returned (U x)∧Below w.heap.size w w':=ro [(1,[nO,nO,kC func91 c1.out]),(5,[nO,nO,nO,kC func297 c2.out])] func256
theorem addmod1_raw(a b m s x:Nat)(c1:Hid (∀ w,Calls prog 91 #[U a,U b] w fun e w'=>e=.returned (.tuple #[U s,.bool true])∧Below w.heap.size w w'))(c0:Hid (∀ w,Calls prog 48 #[.int .u64 1] w fun e w'=>e=.returned (I4 1 0 0 0)∧Below w.heap.size w w'))(c2:Hid (∀ w,Calls prog 297 #[I4 1 0 0 0,U s,U m] w fun e w'=>e=.returned (U x)∧Below w.heap.size w w'))(w:World):Calls prog 256 #[U a,U b,U m] w fun e w'=>e=.returned (U x)∧Below w.heap.size w w':=ro [(1,[nO,nO,kC func91 c1.out]),(4,[kC func48 c0.out]),(5,[nO,nO,nO,kC func297 c2.out])] func256
theorem mulmod_any(a b m:Nat)(ha:a<W)(hb:b<W)(hm:m<W):RT 257 #[U a,U b,U m] (U (rm (a*b) m)):=by
 intro w;have hh:a*b/W<W:=Nat.div_lt_of_lt_mul (Nat.mul_lt_mul'' ha hb);have hl:a*b%W<W:=Nat.mod_lt _ ku;have e:dr (a*b/W) (a*b%W) m=rm (a*b) m:=by
  have hd:=Nat.div_add_mod (a*b) W;unfold dr rm;rw[Nat.mul_comm (a*b/W),hd]
 refine mulmod_raw a b m _ _ _ (wide_any a b ha hb) (fun w=>?_) w;have h:=rest_any _ _ m hh hl hm w;rw[e]at h;exact h
theorem addmod_any(a b m:Nat)(ha:a<W)(hb:b<W)(hm:m<W):RT 256 #[U a,U b,U m] (U (rm (a+b) m)):=by
 intro w;rcases Nat.lt_or_ge (a+b) W with ho|ho
 ·have e1:qw a b=a+b:=Nat.mod_eq_of_lt ho;have e2:ovW a b=false:=decide_eq_false (by omega);refine addmod0_raw a b m (a+b) _ (fun w=>?_) (fun w=>?_) w
  ·have h:=add_any a b ha hb w;rw[e1,e2]at h;exact h
  ·have h:=rest_any 0 (a+b) m ku ho hm w;rw[U_zero]at h;have e:dr 0 (a+b) m=rm (a+b) m:=by unfold dr rm;rw[Nat.zero_mul,Nat.zero_add]
   rw[e]at h;exact h
 ·have e1:qw a b=a+b-W:=by unfold qw;rw[Nat.mod_eq_sub_mod ho,Nat.mod_eq_of_lt (by omega)]
  have e2:ovW a b=true:=decide_eq_true ho;refine addmod1_raw a b m (a+b-W) _ (fun w=>?_) (fun w=>?_) (fun w=>?_) w
  ·have h:=add_any a b ha hb w;rw[e1,e2]at h;exact h
  ·have h:=zcx 1 (by decide) w;rw[U_1]at h;exact h
  ·have h:=rest_any 1 (a+b-W) m (by decide +kernel) (by omega) hm w;rw[U_1]at h;have e:dr 1 (a+b-W) m=rm (a+b) m:=by unfold dr rm;rw[Nat.one_mul,Nat.add_sub_cancel' ho]
   rw[e]at h;exact h
end
section
attribute [local go_sem] zc3 kp
theorem arr_dm(n q:Nat)(h:q<4):(#[B (l0 n),B (l1 n),B (l2 n),B (l3 n)]:Array Value)[q]? = some (.int .u64 ((dm n q:Nat):Int)):=by
 obtain⟨e0,e1,e2,e3⟩:=dm_parts n;have hc:q=0∨q=1∨q=2∨q=3:=by omega
 rcases hc with rfl|rfl|rfl|rfl
 ·rw[e0];rfl
 ·rw[e1];rfl
 ·rw[e2];rfl
 ·rw[e3];rfl
theorem bit_dm(n p:Nat)(h:p<256):bits BinOp.and IntKind.u64 (((dm n (p/64):Nat):Int)/2^(p%64)) 1=((n/2^p%2:Nat):Int):=by
 obtain⟨e0,e1,e2,e3⟩:=dm_parts n;have hc:p/64=0∨p/64=1∨p/64=2∨p/64=3:=by omega
 rcases hc with h|h|h|h
 ·rw[h,e0];exact bit_int n 0 p _ h (yz n) (c_l0 n)
 ·rw[h,e1];exact bit_int n 1 p _ h (yh n) (c_l1 n)
 ·rw[h,e2];exact bit_int n 2 p _ h (yn n) (c_l2 n)
 ·rw[h,e3];exact bit_int n 3 p _ h (yu n) (c_l3 n)
structure PW (w w':World) (b1 a n x:Nat):Prop where
 ra:zb w' (w.heap.size) #[B (l0 a),B (l1 a),B (l2 a),B (l3 a)]
 rn:zb w' (w.heap.size+1) #[B (l0 n),B (l1 n),B (l2 n),B (l3 n)]
 rr:zb w' (w.heap.size+1+1) #[.int .u64 0,.int .u64 0,.int .u64 0,.int .u64 0]
 oo:zb w' b1 #[B (l0 x),B (l1 x),B (l2 x),B (l3 x)]
 bw:Below w.heap.size w w'
 gg:w.heap.size+1+1<b1
theorem PW.call{w w' w'':World}{b1 a n x:Nat}(h:PW w w' b1 a n x)(hb:Below w'.heap.size w' w''):PW w w'' b1 a n x:=
 ⟨h.ra.below hb,h.rn.below hb,h.rr.below hb,h.oo.below hb,h.bw.trans (hb.mono h.bw.size),h.gg⟩
theorem PW.put{w w':World}{b1 a n x:Nat}(h:PW w w' b1 a n x)(y:Nat):PW w (w'.setRow b1 #[B (l0 y),B (l1 y),B (l2 y),B (l3 y)]) b1 a n y:=by
 have hg:=h.gg;exact⟨h.ra.set_other _ (by omega),h.rn.set_other _ (by omega),h.rr.set_other _ (by omega),h.oo.set_same _,zf h.bw (by omega) _,hg⟩
theorem power_exp_raw(a n nb:Nat)(E Q:Nat→Nat)(hnb:nb≤256)(w:World)(c0:Hid (∀ w,Calls prog 48 #[.int .u64 1] w fun e w'=>e=.returned (U (E nb))∧Below w.heap.size w w'))(cb:Hid (∀ w,Calls prog 214 #[U n] w fun e w'=>e=.returned (.int .i64 (nb:Nat))∧Below w.heap.size w w'))(cs:Hid (∀ p,p<nb→∀ w',Calls prog 244 #[U (E (p+1)),U (E (p+1))] w' fun e w''=>e=.returned (U (Q p))∧Below w'.heap.size w' w''))(cm:Hid (∀ p,p<nb→n/2^p%2=1→∀ w',Calls prog 244 #[U (Q p),U a] w' fun e w''=>e=.returned (U (E p))∧Below w'.heap.size w' w''))(ce:Hid (∀ p,p<nb→n/2^p%2=0→Q p=E p)) :
  Calls prog 298 #[U a,U n,Value.func (Fn.func 244) #[] #[]] w fun e w'=>e=.returned (U (E 0))∧Below w.heap.size w w':=by
 go_enter func298,ntmps298
 go_wp2_with fail
 refine(c0.out _).mono ?_;rintro e w1 ⟨rfl,hb1⟩;have Ra:Hid (zb w1 (w.heap.size) #[B (l0 a),B (l1 a),B (l2 a),B (l3 a)]):=(zb.old (zb.old (zb.last (by simp)))).below hb1;have Rn:Hid (zb w1 (w.heap.size+1) #[B (l0 n),B (l1 n),B (l2 n),B (l3 n)]):=(zb.old (zb.last (by simp))).below hb1;have Rr:Hid (zb w1 (w.heap.size+1+1) #[.int .u64 0,.int .u64 0,.int .u64 0,.int .u64 0]):=(zb.last (by simp)).below hb1;have B1:Hid (Below w.heap.size w w1):=qo (by(repeat(first|exact Below.refl _ _|refine zj ?_ _))) hb1
 have n0:w1.cell? ⟨w.heap.size+1,0,none⟩=some (B (l0 n)):=Rn.out.cell 0;have n1:w1.cell? ⟨w.heap.size+1,1,none⟩=some (B (l1 n)):=Rn.out.cell 1;have n2:w1.cell? ⟨w.heap.size+1,2,none⟩=some (B (l2 n)):=Rn.out.cell 2;have n3:w1.cell? ⟨w.heap.size+1,3,none⟩=some (B (l3 n)):=Rn.out.cell 3;have mz:=Rr.out.lt;have mq0:w.heap.size<w1.heap.size:=by omega
 have mq1:w.heap.size+1<w1.heap.size:=by omega
 have mq2:w.heap.size+1+1<w1.heap.size:=by omega
 clear hb1
 go_wp2_with fail
 refine(cb.out _).mono ?_;rintro e w2 ⟨rfl,hb2⟩;have F0:Hid (PW w w2 w1.heap.size a n (E nb)):=⟨(zb.old Ra.out).below hb2,(zb.old Rn.out).below hb2,(zb.old Rr.out).below hb2,(zb.last rfl).below hb2,qo (zj B1.out _) hb2,mz⟩
 clear hb2 Ra Rn Rr B1 n0 n1 n2 n3 mq0 mq1 mq2 mz;generalize w1.heap.size=b1 at *
 go_wp2
 go_loopw [8] (fun s w'=>∃ t:Nat,t≤nb∧s=.int .i64 ((t:Int)-1)∧PW w w' b1 a n (E t)) (fun s _=>(intOf s+1).toNat)
 case atStart=>exact⟨nb,Nat.le_refl _,rfl,F0.out⟩
 case round=>
  obtain⟨t,ht,rfl,hS⟩:=hrel;clear F0;have KS:Hid _:=hS;clear hS;rcases t with _|p
  ·rw[show((0:Nat):Int)-1 = -1 by rfl];have o0:wr.cell? ⟨b1,0,none⟩=some (B (l0 (E 0))):=KS.out.oo.cell 0;have o1:wr.cell? ⟨b1,1,none⟩=some (B (l1 (E 0))):=KS.out.oo.cell 1;have o2:wr.cell? ⟨b1,2,none⟩=some (B (l2 (E 0))):=KS.out.oo.cell 2;have o3:wr.cell? ⟨b1,3,none⟩=some (B (l3 (E 0))):=KS.out.oo.cell 3;have g0:wr.cell? ⟨w.heap.size+1+1,0,none⟩=some (.int .u64 0):=KS.out.rr.cell 0;have g1:wr.cell? ⟨w.heap.size+1+1,1,none⟩=some (.int .u64 0):=KS.out.rr.cell 1;have g2:wr.cell? ⟨w.heap.size+1+1,2,none⟩=some (.int .u64 0):=KS.out.rr.cell 2
   have g3:wr.cell? ⟨w.heap.size+1+1,3,none⟩=some (.int .u64 0):=KS.out.rr.cell 3;have gz0:=KS.out.rr.frozen 0;have gz1:=KS.out.rr.frozen 1;have gz2:=KS.out.rr.frozen 2;have gz3:=KS.out.rr.frozen 3;have gq:=KS.out.rr.lt;have oq:=KS.out.oo.lt
   go_wp2
   rw[set4 KS.out.rr rfl];exact bodyPost_ret (v:=U (E 0)) (yr (p:=6) (ty:=45) rfl (g:=w.heap.size+1+1) rfl (zb.set_same KS.out.rr _) rfl underlying45 (by kernel_rfl)) rfl ⟨rfl,zf KS.out.bw (by omega) _⟩
  ·rw[show((p+1:Nat):Int)-1=(p:Int) by omega];have hp:p<nb:=ht;have o0:wr.cell? ⟨b1,0,none⟩=some (B (l0 (E (p+1)))):=KS.out.oo.cell 0;have o1:wr.cell? ⟨b1,1,none⟩=some (B (l1 (E (p+1)))):=KS.out.oo.cell 1;have o2:wr.cell? ⟨b1,2,none⟩=some (B (l2 (E (p+1)))):=KS.out.oo.cell 2;have o3:wr.cell? ⟨b1,3,none⟩=some (B (l3 (E (p+1)))):=KS.out.oo.cell 3
   go_wp2_with fail
   refine(cs.out p hp _).mono ?_;rintro e w5 ⟨rfl,hb5⟩;have K5:Hid (PW w w5 b1 a n (E (p+1))):=KS.out.call hb5;clear hb5 KS o0 o1 o2 o3;have g0:w5.cell? ⟨b1,0,none⟩=some (B (l0 (E (p+1)))):=K5.out.oo.cell 0;have g1:w5.cell? ⟨b1,1,none⟩=some (B (l1 (E (p+1)))):=K5.out.oo.cell 1;have g2:w5.cell? ⟨b1,2,none⟩=some (B (l2 (E (p+1)))):=K5.out.oo.cell 2;have g3:w5.cell? ⟨b1,3,none⟩=some (B (l3 (E (p+1)))):=K5.out.oo.cell 3;have gz0:=K5.out.oo.frozen 0;have gz1:=K5.out.oo.frozen 1;have gz2:=K5.out.oo.frozen 2;have gz3:=K5.out.oo.frozen 3;have gq:=K5.out.oo.lt
   go_upto_region 6 with fail
   rw[set4 K5.out.oo rfl];have K6:Hid (PW w (w5.setRow b1 #[B (l0 (Q p)),B (l1 (Q p)),B (l2 (Q p)),B (l3 (Q p))]) b1 a n (Q p)):=K5.out.put (Q p);clear K5 g0 g1 g2 g3 gz0 gz1 gz2 gz3 gq;generalize w5.setRow b1 #[B (l0 (Q p)),B (l1 (Q p)),B (l2 (Q p)),B (l3 (Q p))]=w6 at *;have hx:w6.cell? ⟨w.heap.size+1,p/64,none⟩=some (.int .u64 ((dm n (p/64):Nat):Int)):=by
    rw[zb.cell K6.out.rn];exact arr_dm n (p/64) (by omega)
   have hq:=K6.out.rn.lt;have hbit:=bit_dm n p (by omega);by_cases hb:n/2^p%2=1
   ·rw[hb]at hbit;have hbt:(bits BinOp.and IntKind.u64 (((dm n (p/64):Nat):Int)/2^(p%64)) 1 == 1)=true:=by rw[hbit];rfl
    clear hbit;have o0:w6.cell? ⟨b1,0,none⟩=some (B (l0 (Q p))):=K6.out.oo.cell 0;have o1:w6.cell? ⟨b1,1,none⟩=some (B (l1 (Q p))):=K6.out.oo.cell 1;have o2:w6.cell? ⟨b1,2,none⟩=some (B (l2 (Q p))):=K6.out.oo.cell 2;have o3:w6.cell? ⟨b1,3,none⟩=some (B (l3 (Q p))):=K6.out.oo.cell 3;have a0:w6.cell? ⟨w.heap.size,0,none⟩=some (B (l0 a)):=K6.out.ra.cell 0;have a1:w6.cell? ⟨w.heap.size,1,none⟩=some (B (l1 a)):=K6.out.ra.cell 1;have a2:w6.cell? ⟨w.heap.size,2,none⟩=some (B (l2 a)):=K6.out.ra.cell 2;have a3:w6.cell? ⟨w.heap.size,3,none⟩=some (B (l3 a)):=K6.out.ra.cell 3
    go_wp2_with fail
    refine(cm.out p hp hb _).mono ?_;rintro e w8 ⟨rfl,hb8⟩;have K8:Hid (PW w w8 b1 a n (Q p)):=K6.out.call hb8;clear hb8 K6 o0 o1 o2 o3 a0 a1 a2 a3;have g0:w8.cell? ⟨b1,0,none⟩=some (B (l0 (Q p))):=K8.out.oo.cell 0;have g1:w8.cell? ⟨b1,1,none⟩=some (B (l1 (Q p))):=K8.out.oo.cell 1;have g2:w8.cell? ⟨b1,2,none⟩=some (B (l2 (Q p))):=K8.out.oo.cell 2;have g3:w8.cell? ⟨b1,3,none⟩=some (B (l3 (Q p))):=K8.out.oo.cell 3;have gz0:=K8.out.oo.frozen 0;have gz1:=K8.out.oo.frozen 1;have gz2:=K8.out.oo.frozen 2;have gz3:=K8.out.oo.frozen 3;have gq:=K8.out.oo.lt
    go_upto_region 4 with fail
    rw[set4 K8.out.oo rfl];have K9:Hid (PW w (w8.setRow b1 #[B (l0 (E p)),B (l1 (E p)),B (l2 (E p)),B (l3 (E p))]) b1 a n (E p)):=K8.out.put (E p);clear K8 g0 g1 g2 g3 gz0 gz1 gz2 gz3 gq;generalize w8.setRow b1 #[B (l0 (E p)),B (l1 (E p)),B (l2 (E p)),B (l3 (E p))]=w9 at *
    go_wp2
    go_roundw
    case rel=>exact⟨p,by omega,rfl,K9.out⟩
    case measure=>simp[intOf];try omega
   ·have hb0:n/2^p%2=0:=by omega
    rw[hb0]at hbit;have hbt:(bits BinOp.and IntKind.u64 (((dm n (p/64):Nat):Int)/2^(p%64)) 1 == 1)=false:=by rw[hbit];rfl
    have hE:=ce.out p hp hb0;clear hbit
    go_wp2
    go_roundw
    case rel=>exact⟨p,by omega,rfl,hE ▸ K6.out⟩
    case measure=>simp[intOf];try omega
structure PV (w w':World) (b1 a n m x:Nat):Prop where
 ra:zb w' (w.heap.size) #[B (l0 a),B (l1 a),B (l2 a),B (l3 a)]
 rn:zb w' (w.heap.size+1) #[B (l0 n),B (l1 n),B (l2 n),B (l3 n)]
 rm:zb w' (w.heap.size+1+1) #[B (l0 m),B (l1 m),B (l2 m),B (l3 m)]
 rr:zb w' (w.heap.size+1+1+1) #[.int .u64 0,.int .u64 0,.int .u64 0,.int .u64 0]
 oo:zb w' b1 #[B (l0 x),B (l1 x),B (l2 x),B (l3 x)]
 bw:Below w.heap.size w w'
 gg:w.heap.size+1+1+1<b1
theorem PV.call{w w' w'':World}{b1 a n m x:Nat}(h:PV w w' b1 a n m x)(hb:Below w'.heap.size w' w''):PV w w'' b1 a n m x:=
 ⟨h.ra.below hb,h.rn.below hb,h.rm.below hb,h.rr.below hb,h.oo.below hb,h.bw.trans (hb.mono h.bw.size),h.gg⟩
theorem PV.put{w w':World}{b1 a n m x:Nat}(h:PV w w' b1 a n m x)(y:Nat):PV w (w'.setRow b1 #[B (l0 y),B (l1 y),B (l2 y),B (l3 y)]) b1 a n m y:=by
 have hg:=h.gg;exact⟨h.ra.set_other _ (by omega),h.rn.set_other _ (by omega),h.rm.set_other _ (by omega),h.rr.set_other _ (by omega),h.oo.set_same _,zf h.bw (by omega) _,hg⟩
end
section
attribute [local go_sem] zc3 kp
theorem exp_raw(a n x:Nat)(cp:Hid (∀ w,Calls prog 298 #[U a,U n,Value.func (Fn.func 244) #[] #[]] w fun e w'=>e=.returned (U x)∧Below w.heap.size w w'))(w:World) :
  Calls prog 258 #[U a,U n] w fun e w'=>e=.returned (U x)∧Below w.heap.size w w':=by
 go_enter func258,ntmps258
 go_wp2_with fail
 refine(cp.out _).mono ?_;rintro e w1 ⟨rfl,hb1⟩;have R1:Hid (zb w1 (w.heap.size+1+1) #[.int .u64 0,.int .u64 0,.int .u64 0,.int .u64 0]):=(zb.last (by simp)).below hb1;have B1:Hid (Below w.heap.size w w1):=qo (by(repeat(first|exact Below.refl _ _|refine zj ?_ _))) hb1;clear hb1;have g0:w1.cell? ⟨w.heap.size+1+1,0,none⟩=some (.int .u64 0):=R1.out.cell 0;have g1:w1.cell? ⟨w.heap.size+1+1,1,none⟩=some (.int .u64 0):=R1.out.cell 1;have g2:w1.cell? ⟨w.heap.size+1+1,2,none⟩=some (.int .u64 0):=R1.out.cell 2
 have g3:w1.cell? ⟨w.heap.size+1+1,3,none⟩=some (.int .u64 0):=R1.out.cell 3;have gz0:=R1.out.frozen 0;have gz1:=R1.out.frozen 1;have gz2:=R1.out.frozen 2;have gz3:=R1.out.frozen 3;have gq:=R1.out.lt
 go_wp2
 rw[set4 R1.out rfl];exact bodyPost_ret (v:=U x) (yr (p:=4) (ty:=45) rfl (g:=w.heap.size+1+1) rfl (R1.out.set_same _) rfl underlying45 (by kernel_rfl)) rfl ⟨rfl,zf B1.out (by omega) _⟩
theorem lt_two_bits(n:Nat)(h:n<W):n<2^xm n:=by
 have key:∀ x i:Nat,x=n/2^(64*i)%M→x≠0→n<2^(64*(i+1))→n<2^(64*i+Lib.bitLen x):=by
  intro x i hx h0 hn;have hM:M=2^64:=by decide
  have h1:n/2^(64*i)<M:=by
   rw[hM];refine Nat.div_lt_of_lt_mul ?_;rw[← Nat.pow_add,show 64*i+64=64*(i+1) by omega];exact hn
  rw[Nat.mod_eq_of_lt h1]at hx;have hb:=(Lib.bitLenAux_bounds 64 x (by rw[hx,← hM];exact h1) h0).2.2;have hb':n/2^(64*i)<2^Lib.bitLen x:=by rw[← hx];exact hb
  rw[Nat.pow_add];rw[Nat.div_lt_iff_lt_mul (Nat.two_pow_pos _)]at hb'
  rwa [Nat.mul_comm]
 have down:∀ i:Nat,n/2^(64*i)%M=0→n<2^(64*(i+1))→n<2^(64*i):=by
  intro i h0 hn;have hM:M=2^64:=by decide
  have h1:n/2^(64*i)<M:=by
   rw[hM];refine Nat.div_lt_of_lt_mul ?_;rw[← Nat.pow_add,show 64*i+64=64*(i+1) by omega];exact hn
  rw[Nat.mod_eq_of_lt h1]at h0;rcases Nat.lt_or_ge n (2^(64*i))with h|h
  ·exact h
  ·have:=Nat.div_pos h (Nat.two_pow_pos _);omega
 have hW:n<2^(64*4):=by
  have:W=2^(64*4):=by decide +kernel
  rw[← this];exact h
 unfold xm bits4;by_cases h3:l3 n=0
 ·rw[if_pos h3];have d3:=down 3 (by rw[← c_l3];exact h3) hW;by_cases h2:l2 n=0
  ·rw[if_pos h2];have d2:=down 2 (by rw[← c_l2];exact h2) d3;by_cases h1:l1 n=0
   ·rw[if_pos h1];have d1:=down 1 (by rw[← c_l1];exact h1) d2;by_cases h0:l0 n=0
    ·rw[if_pos h0];exact down 0 (by rw[← c_l0];exact h0) d1
    ·rw[if_neg h0];have:=key (l0 n) 0 (c_l0 n) h0 d1
     rwa [Nat.mul_zero,Nat.zero_add]at this
   ·rw[if_neg h1];exact key (l1 n) 1 (c_l1 n) h1 d2
  ·rw[if_neg h2];exact key (l2 n) 2 (c_l2 n) h2 d3
 ·rw[if_neg h3];exact key (l3 n) 3 (c_l3 n) h3 hW
theorem bits_256(n:Nat)(h:n<W):xm n≤256:=by
 have hW:W=2^256:=by decide +kernel
 exact zbn n 256 (by rw[← hW];exact h)
def PE (a n m t:Nat):Nat:=rm (a^(n/2^t)) m
def PQ (a n m t:Nat):Nat:=rm (a^(2*(n/2^(t+1)))) m
theorem PE_top(a n m:Nat)(h:n<W):PE a n m (xm n)=rm 1 m:=by
 unfold PE;rw[Nat.div_eq_of_lt (lt_two_bits n h),Nat.pow_zero]
theorem PE_zero(a n m:Nat):PE a n m 0=rm (a^n) m:=by unfold PE;rw[Nat.pow_zero,Nat.div_one]
theorem PE_sq(a n m t:Nat):rm (PE a n m (t+1)*PE a n m (t+1)) m=PQ a n m t:=pw_sq _ _ _
theorem PE_odd(a n m t:Nat)(h:n/2^t%2=1):rm (PQ a n m t*a) m=PE a n m t:=by
 unfold PQ PE;rw[pw_odd,half_step n t,h]
theorem PE_even(a n m t:Nat)(h:n/2^t%2=0):PQ a n m t=PE a n m t:=by
 unfold PQ PE;have e:=half_step n t;rw[h,Nat.add_zero]at e;rw[e]
theorem PE_ltW(a n t:Nat):PE a n W t<W:=by unfold PE;rw[rm_W];exact Nat.mod_lt _ ku
theorem PQ_ltW(a n t:Nat):PQ a n W t<W:=by unfold PQ;rw[rm_W];exact Nat.mod_lt _ ku
theorem exp_any(a n:Nat)(ha:a<W)(hn:n<W):RT 258 #[U a,U n] (U (rm (a^n) W)):=by
 intro w;refine exp_raw a n _ (fun w=>?_) w;rw[← PE_zero];refine power_exp_raw a n (xm n) (PE a n W) (PQ a n W) (bits_256 n hn) w (fun w=>?_) (zcg n) (fun p hp w=>?_) (fun p hp hb w=>?_) (fun p hp hb=>PE_even a n W p hb)
 ·have h:=zcx 1 (by decide) w;rw[PE_top a n W hn,rm_W,Nat.mod_eq_of_lt (by decide +kernel)];exact h
 ·have h:=mul_any (PE a n W (p+1)) (PE a n W (p+1)) (PE_ltW _ _ _) (PE_ltW _ _ _) w;rw[← rm_W,PE_sq]at h;exact h
 ·have h:=mul_any (PQ a n W p) a (PQ_ltW _ _ _) ha w;rw[← rm_W,PE_odd _ _ _ _ hb]at h;exact h
end
theorem Frm.olds{ops:Array Oper}{vs:Nat→Value}{a a':Act}{za:Array Bool}(h:Frm ops vs a za a'){t i:Nat}(hw:wr ops t=some i)(hn:¬ za.getD i false=true):a'.eval (.tmp t)=a.eval (.tmp t):=by
 show a'.tmps.getD t undef=a.tmps.getD t undef;rw[Array.getD_eq_getD_getElem?,Array.getD_eq_getD_getElem?];by_cases ht:t<a.tmps.size
 ·rw[h.2.2 t ht,hw];simp only[hn,if_false,Bool.false_eq_true]
 ·rw[Array.getElem?_eq_none (by have:=h.2.1;omega),Array.getElem?_eq_none (by omega)]
section
attribute [local go_sem] zc3 kp
structure EU (w w':World) (g7 g8 dv lf ts nx:Nat):Prop where
 rd:zb w' (w.heap.size+1+1) #[B (l0 dv),B (l1 dv),B (l2 dv),B (l3 dv)]
 rt:zb w' (w.heap.size+1+1+1) #[B (l0 ts),B (l1 ts),B (l2 ts),B (l3 ts)]
 rl:zb w' g7 #[B (l0 lf),B (l1 lf),B (l2 lf),B (l3 lf)]
 rx:zb w' g8 #[B (l0 nx),B (l1 nx),B (l2 nx),B (l3 nx)]
 bw:Below w.heap.size w w'
 h7:w.heap.size+1+1+1<g7
 h8:w.heap.size+1+1+1<g8
 h78:g7≠g8
theorem EU.call{w w' w'':World}{g7 g8 dv lf ts nx:Nat}(h:EU w w' g7 g8 dv lf ts nx)(hb:Below w'.heap.size w' w''):EU w w'' g7 g8 dv lf ts nx:=
 ⟨h.rd.below hb,h.rt.below hb,h.rl.below hb,h.rx.below hb,h.bw.trans (hb.mono h.bw.size),h.h7,h.h8,h.h78⟩
theorem EU.alloc{w w':World}{g7 g8 dv lf ts nx:Nat}(h:EU w w' g7 g8 dv lf ts nx)(o:Obj):EU w (w'.alloc o) g7 g8 dv lf ts nx:=
 ⟨h.rd.old,h.rt.old,h.rl.old,h.rx.old,zj h.bw _,h.h7,h.h8,h.h78⟩
end
end Go.Proofs.YthkpgfbjdabflaaGreatDoor
