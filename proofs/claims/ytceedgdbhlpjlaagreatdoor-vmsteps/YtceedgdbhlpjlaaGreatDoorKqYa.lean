/- Out of Ya. -/
import Derived.Test.YtceedgdbhlpjlaaGreatDoorKqVs
import Derived.Test.YtceedgdbhlpjlaaGreatDoorKqNg
namespace Go.Proofs.YtceedgdbhlpjlaaGreatDoor
open Go.RowKit Go.Sort Tryz
set_option linter.unusedVariables false
set_option maxRecDepth 100000
set_option maxHeartbeats 4000000
theorem bdU(a b c d:Nat)(w:World):(Instr.build 38 (([0,1,2,3]:List Nat).zip [B a,B b,B c,B d]).toArray).run prog w=.ok (U4 a b c d) w:=by kernel_rfl
theorem zax(b:Bool):RT 159 #[.bool b] (U (trB b)):=by
 refine fun w=>inZ func159 fun a I=>?_;cases b
 ·refine goZ [dO 38 [] qw] I fun β a w1 I1 hb=>?_;exact zp (v:=U4 0 0 0 0) I1 ⟨by rw[show trB false=0 from rfl,U0],I1.hJ⟩
 ·refine goZ [dO 38 [0,1,2,3] (bdU 1 0 0 0)] I fun β a w1 I1 hb=>?_;exact zp (v:=U4 1 0 0 0) I1 ⟨by rw[show trB true=1 from rfl,U4_1],I1.hJ⟩
theorem neq36{x y:Nat}{b:Bool}(h:decide (x≠y)=b)(o1 o2:Operand)(w:World):(do eqGuard .neq 36 o1 o2 (B x) (B y);binOp .neq 36 (B x) (B y):Sem Value).run prog w=.ok (.bool b) w:=by
 subst h;by_cases hq:x=y
 ·simp[go_sem,hq]
 ·have:¬ ((x:Int)=(y:Int)):=by omega
  simp[go_sem,hq,this]
theorem shN_big{n:Nat}(hn:n<W):64<xb n↔l1 n≠0∨l2 n≠0∨l3 n≠0:=by
 have hM:M=2^64:=by decide
 have h1:l1 n≠0∨l2 n≠0∨l3 n≠0↔M≤n:=by
  unfold l1 l2 l3 M;unfold W at hn;omega
 rw[h1];constructor
 ·intro h;rcases Nat.lt_or_ge n M with q|q
  ·have:=zan n 64 (by rw[← hM];exact q);omega
  ·exact q
 ·intro h;rcases Nat.lt_or_ge 64 (xb n)with q|q
  ·exact q
  ·have h2:=bitsN_lt n hn;have h3:2^xb n≤2^64:=Nat.pow_le_pow_right (by decide) q;omega
theorem rshift_any(n:Nat)(hn:n<W):RT 166 #[U n] (B (shN n)):=by
 intro w;have hb:=shN_big hn;unfold shN;have hd:∀(p:Prop) [Decidable p],(64<xb n↔p)→(if 64<xb n then 256 else l0 n)=if p then 256 else l0 n:=fun p _ h=>by
  by_cases q:p
  ·rw[if_pos q,if_pos (h.2 q)]
  ·rw[if_neg q,if_neg (fun e=>q (h.1 e))]
 rw[hd _ hb];unfold U;generalize l0 n=n0,l1 n=n1,l2 n=n2,l3 n=n3 at *;refine inZ func166 fun a I=>?_;by_cases h1:n1≠0
 ·refine goZ [bO .neq 36 (neq36 (x:=n1) (y:=0) (b:=true) (decide_eq_true h1))] I fun β a w1 I1 hb=>?_;exact zp (v:=B 256) I1 ⟨by rw[if_pos (.inl h1)],I1.hJ⟩
 by_cases h2:n2≠0
 ·refine goZ [bO .neq 36 (neq36 (x:=n1) (y:=0) (b:=false) (decide_eq_false h1)),bO .neq 36 (neq36 (x:=n2) (y:=0) (b:=true) (decide_eq_true h2))] I fun β a w1 I1 hb=>?_;exact zp (v:=B 256) I1 ⟨by rw[if_pos (.inr (.inl h2))],I1.hJ⟩
 by_cases h3:n3≠0
 ·refine goZ [bO .neq 36 (neq36 (x:=n1) (y:=0) (b:=false) (decide_eq_false h1)),bO .neq 36 (neq36 (x:=n2) (y:=0) (b:=false) (decide_eq_false h2)),bO .neq 36 (neq36 (x:=n3) (y:=0) (b:=true) (decide_eq_true h3))] I fun β a w1 I1 hb=>?_;exact zp (v:=B 256) I1 ⟨by rw[if_pos (.inr (.inr h3))],I1.hJ⟩
 refine goZ [bO .neq 36 (neq36 (x:=n1) (y:=0) (b:=false) (decide_eq_false h1)),bO .neq 36 (neq36 (x:=n2) (y:=0) (b:=false) (decide_eq_false h2)),bO .neq 36 (neq36 (x:=n3) (y:=0) (b:=false) (decide_eq_false h3))] I fun β a w1 I1 hb=>?_;exact zp (v:=B n0) I1 ⟨by rw[if_neg (by omega)],I1.hJ⟩
theorem rcp_16(a b c:Nat)(ha:a<W)(hb:b<W):RT 90 #[b8 16,U a,U b] (U (zk 16 a b c)):=by
 intro w;rw[show zk 16 a b c=trB (decide (ka a b<0)) by simp[zk]];have h0:=zb0 a b ha hb;have h1:=zax (decide (ka a b<0));obtain⟨q,hq⟩:∃ q,decide (ka a b<0)=q:=⟨_,rfl⟩
 rw[hq]at h1 ⊢;generalize ka a b=z,trB q=r at *;unfold U at *;generalize l0 a=a0,l1 a=a1,l2 a=a2,l3 a=a3,l0 b=b0,l1 b=b1,l2 b=b2,l3 b=b3,l0 r=r0,l1 r=r1,l2 r=r2,l3 r=r3 at *;refine inZ func90 fun A I=>?_;refine goZ [qF 16 16,kC func45 h0,bO .lss 3 (vr (x:=z) (y:=0) (b:=q) hq),kC func159 h1] I fun β A1 w1 I1 hb1=>?_;exact zl (v:=U4 r0 r1 r2 r3) I1
theorem rcp_17(a b c:Nat)(ha:a<W)(hb:b<W):RT 90 #[b8 17,U a,U b] (U (zk 17 a b c)):=by
 intro w;rw[show zk 17 a b c=trB (decide (0<ka a b)) by simp[zk]];have h0:=zb0 a b ha hb;have h1:=zax (decide (0<ka a b));obtain⟨q,hq⟩:∃ q,decide (0<ka a b)=q:=⟨_,rfl⟩
 rw[hq]at h1 ⊢;generalize ka a b=z,trB q=r at *;unfold U at *;generalize l0 a=a0,l1 a=a1,l2 a=a2,l3 a=a3,l0 b=b0,l1 b=b1,l2 b=b2,l3 b=b3,l0 r=r0,l1 r=r1,l2 r=r2,l3 r=r3 at *;refine inZ func90 fun A I=>?_;refine goZ [qF 17 16,qF 17 17,kC func45 h0,bO .gtr 3 (za7 (x:=z) (y:=0) (b:=q) hq),kC func159 h1] I fun β A1 w1 I1 hb1=>?_;exact zl (v:=U4 r0 r1 r2 r3) I1
theorem rcp_18(a b c:Nat)(ha:a<W)(hb:b<W):RT 90 #[b8 18,U a,U b] (U (zk 18 a b c)):=by
 intro w;rw[show zk 18 a b c=trB (ls a b) by simp[zk]];have h0:=rless_any a b ha hb;have h1:=zax (ls a b);generalize ls a b=q at *;generalize trB q=r at *;unfold U at *;generalize l0 a=a0,l1 a=a1,l2 a=a2,l3 a=a3,l0 b=b0,l1 b=b1,l2 b=b2,l3 b=b3,l0 r=r0,l1 r=r1,l2 r=r2,l3 r=r3 at *;refine inZ func90 fun A I=>?_;refine goZ [qF 18 16,qF 18 17,qF 18 18,kC func160 h0,kC func159 h1] I fun β A1 w1 I1 hb1=>?_;exact zl (v:=U4 r0 r1 r2 r3) I1
theorem rcp_19(a b c:Nat)(ha:a<W)(hb:b<W):RT 90 #[b8 19,U a,U b] (U (zk 19 a b c)):=by
 intro w;rw[show zk 19 a b c=trB (ls b a) by simp[zk]];have h0:=rless_any b a hb ha;have h1:=zax (ls b a);generalize ls b a=q at *;generalize trB q=r at *;unfold U at *;generalize l0 a=a0,l1 a=a1,l2 a=a2,l3 a=a3,l0 b=b0,l1 b=b1,l2 b=b2,l3 b=b3,l0 r=r0,l1 r=r1,l2 r=r2,l3 r=r3 at *;refine inZ func90 fun A I=>?_;refine goZ [qF 19 16,qF 19 17,qF 19 18,qF 19 19,kC func160 h0,kC func159 h1] I fun β A1 w1 I1 hb1=>?_;exact zl (v:=U4 r0 r1 r2 r3) I1
theorem rcp_20(a b c:Nat)(ha:a<W)(hb:b<W):RT 90 #[b8 20,U a,U b] (U (zk 20 a b c)):=by
 intro w;rw[show zk 20 a b c=trB (decide (a=b)) by simp[zk]];have h0:=zco ha hb (b:=decide (a=b)) rfl;have h1:=zax (decide (a=b));generalize decide (a=b)=q at *;generalize trB q=r at *;unfold U at *;generalize l0 a=a0,l1 a=a1,l2 a=a2,l3 a=a3,l0 b=b0,l1 b=b1,l2 b=b2,l3 b=b3,l0 r=r0,l1 r=r1,l2 r=r2,l3 r=r3 at *;refine inZ func90 fun A I=>?_;refine goZ [qF 20 16,qF 20 17,qF 20 18,qF 20 19,qF 20 20,bO .eql 38 h0,kC func159 h1] I fun β A1 w1 I1 hb1=>?_;exact zl (v:=U4 r0 r1 r2 r3) I1
theorem rcp_21(a b c:Nat)(ha:a<W)(hb:b<W):RT 90 #[b8 21,U a,U b] (U (zk 21 a b c)):=by
 intro w;rw[show zk 21 a b c=trB (decide (a=0)) by simp[zk]];have h0:=zco ha (show 0<W by decide) (b:=decide (a=0)) rfl;have h1:=zax (decide (a=0));generalize decide (a=0)=q at *;generalize trB q=r at *;rw[U0]at h0;unfold U at *;generalize l0 a=a0,l1 a=a1,l2 a=a2,l3 a=a3,l0 b=b0,l1 b=b1,l2 b=b2,l3 b=b3,l0 r=r0,l1 r=r1,l2 r=r2,l3 r=r3 at *;refine inZ func90 fun A I=>?_;refine goZ [qF 21 16,qF 21 17,qF 21 18,qF 21 19,qF 21 20,qF 21 21,dO 38 [] qw,bO .eql 38 h0,kC func159 h1] I fun β A1 w1 I1 hb1=>?_;exact zl (v:=U4 r0 r1 r2 r3) I1
theorem rcp_22(a b c:Nat)(ha:a<W)(hb:b<W):RT 90 #[b8 22,U a,U b] (U (zk 22 a b c)):=by
 intro w;rw[show zk 22 a b c=a &&& b by simp[zk]];have h0:=rand_any a b;generalize a &&& b=r at *;unfold U at *;generalize l0 a=a0,l1 a=a1,l2 a=a2,l3 a=a3,l0 b=b0,l1 b=b1,l2 b=b2,l3 b=b3,l0 r=r0,l1 r=r1,l2 r=r2,l3 r=r3 at *;refine inZ func90 fun A I=>?_;refine goZ [qF 22 16,qF 22 17,qF 22 18,qF 22 19,qF 22 20,qF 22 21,qF 22 22,kC func161 h0] I fun β A1 w1 I1 hb1=>?_;exact zl (v:=U4 r0 r1 r2 r3) I1
theorem rcp_23(a b c:Nat)(ha:a<W)(hb:b<W):RT 90 #[b8 23,U a,U b] (U (zk 23 a b c)):=by
 intro w;rw[show zk 23 a b c=a ||| b by simp[zk]];have h0:=ror_any a b;generalize a ||| b=r at *;unfold U at *;generalize l0 a=a0,l1 a=a1,l2 a=a2,l3 a=a3,l0 b=b0,l1 b=b1,l2 b=b2,l3 b=b3,l0 r=r0,l1 r=r1,l2 r=r2,l3 r=r3 at *;refine inZ func90 fun A I=>?_;refine goZ [qF 23 16,qF 23 17,qF 23 18,qF 23 19,qF 23 20,qF 23 21,qF 23 22,qF 23 23,kC func162 h0] I fun β A1 w1 I1 hb1=>?_;exact zl (v:=U4 r0 r1 r2 r3) I1
theorem rcp_24(a b c:Nat)(ha:a<W)(hb:b<W):RT 90 #[b8 24,U a,U b] (U (zk 24 a b c)):=by
 intro w;rw[show zk 24 a b c=a ^^^ b by simp[zk]];have h0:=rxor_any a b;generalize a ^^^ b=r at *;unfold U at *;generalize l0 a=a0,l1 a=a1,l2 a=a2,l3 a=a3,l0 b=b0,l1 b=b1,l2 b=b2,l3 b=b3,l0 r=r0,l1 r=r1,l2 r=r2,l3 r=r3 at *;refine inZ func90 fun A I=>?_;refine goZ [qF 24 16,qF 24 17,qF 24 18,qF 24 19,qF 24 20,qF 24 21,qF 24 22,qF 24 23,qF 24 24,kC func163 h0] I fun β A1 w1 I1 hb1=>?_;exact zl (v:=U4 r0 r1 r2 r3) I1
theorem rcp_25(a b c:Nat)(ha:a<W)(hb:b<W):RT 90 #[b8 25,U a,U b] (U (zk 25 a b c)):=by
 intro w;rw[show zk 25 a b c=notW a by simp[zk]];have h0:=rnot_any a ha;generalize notW a=r at *;unfold U at *;generalize l0 a=a0,l1 a=a1,l2 a=a2,l3 a=a3,l0 b=b0,l1 b=b1,l2 b=b2,l3 b=b3,l0 r=r0,l1 r=r1,l2 r=r2,l3 r=r3 at *;refine inZ func90 fun A I=>?_;refine goZ [qF 25 16,qF 25 17,qF 25 18,qF 25 19,qF 25 20,qF 25 21,qF 25 22,qF 25 23,qF 25 24,qF 25 25,kC func164 h0] I fun β A1 w1 I1 hb1=>?_;exact zl (v:=U4 r0 r1 r2 r3) I1
theorem rcp_26(a b c:Nat)(ha:a<W)(hb:b<W):RT 90 #[b8 26,U a,U b] (U (zk 26 a b c)):=by
 intro w;rw[show zk 26 a b c=byW a b by simp[zk]];have h0:=rbyte_any a b ha hb;generalize byW a b=r at *;unfold U at *;generalize l0 a=a0,l1 a=a1,l2 a=a2,l3 a=a3,l0 b=b0,l1 b=b1,l2 b=b2,l3 b=b3,l0 r=r0,l1 r=r1,l2 r=r2,l3 r=r3 at *;refine inZ func90 fun A I=>?_;refine goZ [qF 26 16,qF 26 17,qF 26 18,qF 26 19,qF 26 20,qF 26 21,qF 26 22,qF 26 23,qF 26 24,qF 26 25,qF 26 26,kC func165 h0] I fun β A1 w1 I1 hb1=>?_;exact zl (v:=U4 r0 r1 r2 r3) I1
theorem rcp_27(a b c:Nat)(ha:a<W)(hb:b<W):RT 90 #[b8 27,U a,U b] (U (zk 27 a b c)):=by
 intro w;rw[show zk 27 a b c=shlW b (shN a) by simp[zk]];have h0:=rshift_any a ha;have h1:=rshl_any b (shN a) hb;generalize shlW b (shN a)=r at *;generalize shN a=sh at *;unfold U at *;generalize l0 a=a0,l1 a=a1,l2 a=a2,l3 a=a3,l0 b=b0,l1 b=b1,l2 b=b2,l3 b=b3,l0 r=r0,l1 r=r1,l2 r=r2,l3 r=r3 at *;refine inZ func90 fun A I=>?_;refine goZ [qF 27 16,qF 27 17,qF 27 18,qF 27 19,qF 27 20,qF 27 21,qF 27 22,qF 27 23,qF 27 24,qF 27 25,qF 27 26,qF 27 27] I fun β A1 w1 I1 hb1=>?_;refine dwQ 4 [kC func166 h0,kC func158 h1] (zq w) yg.post I1 fun A2 w2 I2=>?_
 refine goZ [] I2 fun β3 A3 w3 I3 hb3=>?_;exact zl (v:=U4 r0 r1 r2 r3) I3
theorem rcp_28(a b c:Nat)(ha:a<W)(hb:b<W):RT 90 #[b8 28,U a,U b] (U (zk 28 a b c)):=by
 intro w;rw[show zk 28 a b c=vu b (shN a) by simp[zk]];have h0:=rshift_any a ha;have h1:=rshr_any b (shN a) hb;generalize vu b (shN a)=r at *;generalize shN a=sh at *;unfold U at *;generalize l0 a=a0,l1 a=a1,l2 a=a2,l3 a=a3,l0 b=b0,l1 b=b1,l2 b=b2,l3 b=b3,l0 r=r0,l1 r=r1,l2 r=r2,l3 r=r3 at *;refine inZ func90 fun A I=>?_;refine goZ [qF 28 16,qF 28 17,qF 28 18,qF 28 19,qF 28 20,qF 28 21,qF 28 22,qF 28 23,qF 28 24,qF 28 25,qF 28 26,qF 28 27,qF 28 28] I fun β A1 w1 I1 hb1=>?_;refine dwQ 4 [kC func166 h0,kC func167 h1] (zq w) yg.post I1 fun A2 w2 I2=>?_
 refine goZ [] I2 fun β3 A3 w3 I3 hb3=>?_;exact zl (v:=U4 r0 r1 r2 r3) I3
theorem rcp_29(a b c:Nat)(ha:a<W)(hb:b<W):RT 90 #[b8 29,U a,U b] (U (zk 29 a b c)):=by
 intro w;rw[show zk 29 a b c=sar b (shN a) by simp[zk]];have h0:=rshift_any a ha;have h1:=rsar_any b (shN a) hb;generalize sar b (shN a)=r at *;generalize shN a=sh at *;unfold U at *;generalize l0 a=a0,l1 a=a1,l2 a=a2,l3 a=a3,l0 b=b0,l1 b=b1,l2 b=b2,l3 b=b3,l0 r=r0,l1 r=r1,l2 r=r2,l3 r=r3 at *;refine inZ func90 fun A I=>?_;refine goZ [qF 29 16,qF 29 17,qF 29 18,qF 29 19,qF 29 20,qF 29 21,qF 29 22,qF 29 23,qF 29 24,qF 29 25,qF 29 26,qF 29 27,qF 29 28] I fun β A1 w1 I1 hb1=>?_;refine dwQ 4 [kC func166 h0,kC func157 h1] (zq w) yg.post I1 fun A2 w2 I2=>?_
 refine goZ [] I2 fun β3 A3 w3 I3 hb3=>?_;exact zl (v:=U4 r0 r1 r2 r3) I3
theorem rrk_1(a b c:Nat)(ha:a<W)(hb:b<W)(hc:c<W):RT 53 #[b8 1,U a,U b,U c] (U (zk 1 a b c)):=by
 intro w;rw[show zk 1 a b c=xq a b by simp[zk]];have h0:=radd_any a b ha hb;generalize ovW a b=q,xq a b=r at *;unfold U at *;generalize l0 a=a0,l1 a=a1,l2 a=a2,l3 a=a3,l0 b=b0,l1 b=b1,l2 b=b2,l3 b=b3,l0 c=c0,l1 c=c1,l2 c=c2,l3 c=c3,l0 r=r0,l1 r=r1,l2 r=r2,l3 r=r3 at *;refine inZ func53 fun A I=>?_;refine goZ [qF 1 1,kC func44 h0] I fun β A1 w1 I1 hb1=>?_;exact zl (v:=U4 r0 r1 r2 r3) I1
theorem rrk_2(a b c:Nat)(ha:a<W)(hb:b<W)(hc:c<W):RT 53 #[b8 2,U a,U b,U c] (U (zk 2 a b c)):=by
 intro w;rw[show zk 2 a b c=a*b%W by simp[zk]];have h0:=rmul_any a b ha hb;generalize a*b%W=r at *;unfold U at *;generalize l0 a=a0,l1 a=a1,l2 a=a2,l3 a=a3,l0 b=b0,l1 b=b1,l2 b=b2,l3 b=b3,l0 c=c0,l1 c=c1,l2 c=c2,l3 c=c3,l0 r=r0,l1 r=r1,l2 r=r2,l3 r=r3 at *;refine inZ func53 fun A I=>?_;refine goZ [qF 2 1,qF 2 2,kC func82 h0] I fun β A1 w1 I1 hb1=>?_;exact zl (v:=U4 r0 r1 r2 r3) I1
theorem rrk_3(a b c:Nat)(ha:a<W)(hb:b<W)(hc:c<W):RT 53 #[b8 3,U a,U b,U c] (U (zk 3 a b c)):=by
 intro w;rw[show zk 3 a b c=subW a b by simp[zk]];have h0:=rsub_any a b ha hb;generalize unW a b=q,subW a b=r at *;unfold U at *;generalize l0 a=a0,l1 a=a1,l2 a=a2,l3 a=a3,l0 b=b0,l1 b=b1,l2 b=b2,l3 b=b3,l0 c=c0,l1 c=c1,l2 c=c2,l3 c=c3,l0 r=r0,l1 r=r1,l2 r=r2,l3 r=r3 at *;refine inZ func53 fun A I=>?_;refine goZ [qF 3 1,qF 3 2,qF 3 3,kC func83 h0] I fun β A1 w1 I1 hb1=>?_;exact zl (v:=U4 r0 r1 r2 r3) I1
theorem rrk_4(a b c:Nat)(ha:a<W)(hb:b<W)(hc:c<W):RT 53 #[b8 4,U a,U b,U c] (U (zk 4 a b c)):=by
 intro w;rw[show zk 4 a b c=a/b by simp[zk]];have h0:=rdiv_any a b ha hb;generalize dr 0 a b=t,a/b=r at *;unfold U at *;generalize l0 a=a0,l1 a=a1,l2 a=a2,l3 a=a3,l0 b=b0,l1 b=b1,l2 b=b2,l3 b=b3,l0 c=c0,l1 c=c1,l2 c=c2,l3 c=c3,l0 r=r0,l1 r=r1,l2 r=r2,l3 r=r3,l0 t=t0,l1 t=t1,l2 t=t2,l3 t=t3 at *;refine inZ func53 fun A I=>?_;refine goZ [qF 4 1,qF 4 2,qF 4 3,qF 4 4,kC func84 h0] I fun β A1 w1 I1 hb1=>?_;exact zl (v:=U4 r0 r1 r2 r3) I1
theorem rrk_5(a b c:Nat)(ha:a<W)(hb:b<W)(hc:c<W):RT 53 #[b8 5,U a,U b,U c] (U (zk 5 a b c)):=by
 intro w;rw[show zk 5 a b c=sq a b by simp[zk]];have h0:=rsdiv_any a b ha hb;generalize sr a b=t,sq a b=r at *;unfold U at *;generalize l0 a=a0,l1 a=a1,l2 a=a2,l3 a=a3,l0 b=b0,l1 b=b1,l2 b=b2,l3 b=b3,l0 c=c0,l1 c=c1,l2 c=c2,l3 c=c3,l0 r=r0,l1 r=r1,l2 r=r2,l3 r=r3,l0 t=t0,l1 t=t1,l2 t=t2,l3 t=t3 at *;refine inZ func53 fun A I=>?_;refine goZ [qF 5 1,qF 5 2,qF 5 3,qF 5 4,qF 5 5,kC func85 h0] I fun β A1 w1 I1 hb1=>?_;exact zl (v:=U4 r0 r1 r2 r3) I1
theorem rrk_6(a b c:Nat)(ha:a<W)(hb:b<W)(hc:c<W):RT 53 #[b8 6,U a,U b,U c] (U (zk 6 a b c)):=by
 intro w;rw[show zk 6 a b c=dr 0 a b by simp[zk]];have h0:=rdiv_any a b ha hb;generalize a/b=t,dr 0 a b=r at *;unfold U at *;generalize l0 a=a0,l1 a=a1,l2 a=a2,l3 a=a3,l0 b=b0,l1 b=b1,l2 b=b2,l3 b=b3,l0 c=c0,l1 c=c1,l2 c=c2,l3 c=c3,l0 r=r0,l1 r=r1,l2 r=r2,l3 r=r3,l0 t=t0,l1 t=t1,l2 t=t2,l3 t=t3 at *;refine inZ func53 fun A I=>?_;refine goZ [qF 6 1,qF 6 2,qF 6 3,qF 6 4,qF 6 5,qF 6 6,kC func84 h0] I fun β A1 w1 I1 hb1=>?_;exact zl (v:=U4 r0 r1 r2 r3) I1
theorem rrk_7(a b c:Nat)(ha:a<W)(hb:b<W)(hc:c<W):RT 53 #[b8 7,U a,U b,U c] (U (zk 7 a b c)):=by
 intro w;rw[show zk 7 a b c=sr a b by simp[zk]];have h0:=rsdiv_any a b ha hb;generalize sq a b=t,sr a b=r at *;unfold U at *;generalize l0 a=a0,l1 a=a1,l2 a=a2,l3 a=a3,l0 b=b0,l1 b=b1,l2 b=b2,l3 b=b3,l0 c=c0,l1 c=c1,l2 c=c2,l3 c=c3,l0 r=r0,l1 r=r1,l2 r=r2,l3 r=r3,l0 t=t0,l1 t=t1,l2 t=t2,l3 t=t3 at *;refine inZ func53 fun A I=>?_;refine goZ [qF 7 1,qF 7 2,qF 7 3,qF 7 4,qF 7 5,qF 7 6,qF 7 7,kC func85 h0] I fun β A1 w1 I1 hb1=>?_;exact zl (v:=U4 r0 r1 r2 r3) I1
theorem rrk_8(a b c:Nat)(ha:a<W)(hb:b<W)(hc:c<W):RT 53 #[b8 8,U a,U b,U c] (U (zk 8 a b c)):=by
 intro w;rw[show zk 8 a b c=rm (a+b) c by simp[zk]];have h0:=raddmod_any a b c ha hb hc;generalize rm (a+b) c=r at *;unfold U at *;generalize l0 a=a0,l1 a=a1,l2 a=a2,l3 a=a3,l0 b=b0,l1 b=b1,l2 b=b2,l3 b=b3,l0 c=c0,l1 c=c1,l2 c=c2,l3 c=c3,l0 r=r0,l1 r=r1,l2 r=r2,l3 r=r3 at *;refine inZ func53 fun A I=>?_;refine goZ [qF 8 1,qF 8 2,qF 8 3,qF 8 4,qF 8 5,qF 8 6,qF 8 7,qF 8 8,kC func86 h0] I fun β A1 w1 I1 hb1=>?_;exact zl (v:=U4 r0 r1 r2 r3) I1
theorem rrk_9(a b c:Nat)(ha:a<W)(hb:b<W)(hc:c<W):RT 53 #[b8 9,U a,U b,U c] (U (zk 9 a b c)):=by
 intro w;rw[show zk 9 a b c=rm (a*b) c by simp[zk]];have h0:=rmulmod_any a b c ha hb hc;generalize rm (a*b) c=r at *;unfold U at *;generalize l0 a=a0,l1 a=a1,l2 a=a2,l3 a=a3,l0 b=b0,l1 b=b1,l2 b=b2,l3 b=b3,l0 c=c0,l1 c=c1,l2 c=c2,l3 c=c3,l0 r=r0,l1 r=r1,l2 r=r2,l3 r=r3 at *;refine inZ func53 fun A I=>?_;refine goZ [qF 9 1,qF 9 2,qF 9 3,qF 9 4,qF 9 5,qF 9 6,qF 9 7,qF 9 8,qF 9 9,kC func87 h0] I fun β A1 w1 I1 hb1=>?_;exact zl (v:=U4 r0 r1 r2 r3) I1
theorem rrk_10(a b c:Nat)(ha:a<W)(hb:b<W)(hc:c<W):RT 53 #[b8 10,U a,U b,U c] (U (zk 10 a b c)):=by
 intro w;rw[show zk 10 a b c=rm (a^b) W by simp[zk]];have h0:=rexp_any a b ha hb;generalize rm (a^b) W=r at *;unfold U at *;generalize l0 a=a0,l1 a=a1,l2 a=a2,l3 a=a3,l0 b=b0,l1 b=b1,l2 b=b2,l3 b=b3,l0 c=c0,l1 c=c1,l2 c=c2,l3 c=c3,l0 r=r0,l1 r=r1,l2 r=r2,l3 r=r3 at *;refine inZ func53 fun A I=>?_;refine goZ [qF 10 1,qF 10 2,qF 10 3,qF 10 4,qF 10 5,qF 10 6,qF 10 7,qF 10 8,qF 10 9,qF 10 10,kC func88 h0] I fun β A1 w1 I1 hb1=>?_;exact zl (v:=U4 r0 r1 r2 r3) I1
theorem rrk_11(a b c:Nat)(ha:a<W)(hb:b<W)(hc:c<W):RT 53 #[b8 11,U a,U b,U c] (U (zk 11 a b c)):=by
 intro w;rw[show zk 11 a b c=exW a b by simp[zk]];have h0:=rext_any a b ha hb;generalize exW a b=r at *;unfold U at *;generalize l0 a=a0,l1 a=a1,l2 a=a2,l3 a=a3,l0 b=b0,l1 b=b1,l2 b=b2,l3 b=b3,l0 c=c0,l1 c=c1,l2 c=c2,l3 c=c3,l0 r=r0,l1 r=r1,l2 r=r2,l3 r=r3 at *;refine inZ func53 fun A I=>?_;refine goZ [qF 11 1,qF 11 2,qF 11 3,qF 11 4,qF 11 5,qF 11 6,qF 11 7,qF 11 8,qF 11 9,qF 11 10,qF 11 11,kC func89 h0] I fun β A1 w1 I1 hb1=>?_;exact zl (v:=U4 r0 r1 r2 r3) I1
theorem rrk_16(a b c:Nat)(ha:a<W)(hb:b<W)(hc:c<W):RT 53 #[b8 16,U a,U b,U c] (U (zk 16 a b c)):=by
 intro w;have h0:=rcp_16 a b c ha hb;generalize zk 16 a b c=r at *;unfold U at *;generalize l0 a=a0,l1 a=a1,l2 a=a2,l3 a=a3,l0 b=b0,l1 b=b1,l2 b=b2,l3 b=b3,l0 c=c0,l1 c=c1,l2 c=c2,l3 c=c3,l0 r=r0,l1 r=r1,l2 r=r2,l3 r=r3 at *;refine inZ func53 fun A I=>?_;refine goZ [qF 16 1,qF 16 2,qF 16 3,qF 16 4,qF 16 5,qF 16 6,qF 16 7,qF 16 8,qF 16 9,qF 16 10,qF 16 11,kC func90 h0] I fun β A1 w1 I1 hb1=>?_;exact zl (v:=U4 r0 r1 r2 r3) I1
theorem rrk_17(a b c:Nat)(ha:a<W)(hb:b<W)(hc:c<W):RT 53 #[b8 17,U a,U b,U c] (U (zk 17 a b c)):=by
 intro w;have h0:=rcp_17 a b c ha hb;generalize zk 17 a b c=r at *;unfold U at *;generalize l0 a=a0,l1 a=a1,l2 a=a2,l3 a=a3,l0 b=b0,l1 b=b1,l2 b=b2,l3 b=b3,l0 c=c0,l1 c=c1,l2 c=c2,l3 c=c3,l0 r=r0,l1 r=r1,l2 r=r2,l3 r=r3 at *;refine inZ func53 fun A I=>?_;refine goZ [qF 17 1,qF 17 2,qF 17 3,qF 17 4,qF 17 5,qF 17 6,qF 17 7,qF 17 8,qF 17 9,qF 17 10,qF 17 11,kC func90 h0] I fun β A1 w1 I1 hb1=>?_;exact zl (v:=U4 r0 r1 r2 r3) I1
theorem rrk_18(a b c:Nat)(ha:a<W)(hb:b<W)(hc:c<W):RT 53 #[b8 18,U a,U b,U c] (U (zk 18 a b c)):=by
 intro w;have h0:=rcp_18 a b c ha hb;generalize zk 18 a b c=r at *;unfold U at *;generalize l0 a=a0,l1 a=a1,l2 a=a2,l3 a=a3,l0 b=b0,l1 b=b1,l2 b=b2,l3 b=b3,l0 c=c0,l1 c=c1,l2 c=c2,l3 c=c3,l0 r=r0,l1 r=r1,l2 r=r2,l3 r=r3 at *;refine inZ func53 fun A I=>?_;refine goZ [qF 18 1,qF 18 2,qF 18 3,qF 18 4,qF 18 5,qF 18 6,qF 18 7,qF 18 8,qF 18 9,qF 18 10,qF 18 11,kC func90 h0] I fun β A1 w1 I1 hb1=>?_;exact zl (v:=U4 r0 r1 r2 r3) I1
theorem rrk_19(a b c:Nat)(ha:a<W)(hb:b<W)(hc:c<W):RT 53 #[b8 19,U a,U b,U c] (U (zk 19 a b c)):=by
 intro w;have h0:=rcp_19 a b c ha hb;generalize zk 19 a b c=r at *;unfold U at *;generalize l0 a=a0,l1 a=a1,l2 a=a2,l3 a=a3,l0 b=b0,l1 b=b1,l2 b=b2,l3 b=b3,l0 c=c0,l1 c=c1,l2 c=c2,l3 c=c3,l0 r=r0,l1 r=r1,l2 r=r2,l3 r=r3 at *;refine inZ func53 fun A I=>?_;refine goZ [qF 19 1,qF 19 2,qF 19 3,qF 19 4,qF 19 5,qF 19 6,qF 19 7,qF 19 8,qF 19 9,qF 19 10,qF 19 11,kC func90 h0] I fun β A1 w1 I1 hb1=>?_;exact zl (v:=U4 r0 r1 r2 r3) I1
theorem rrk_20(a b c:Nat)(ha:a<W)(hb:b<W)(hc:c<W):RT 53 #[b8 20,U a,U b,U c] (U (zk 20 a b c)):=by
 intro w;have h0:=rcp_20 a b c ha hb;generalize zk 20 a b c=r at *;unfold U at *;generalize l0 a=a0,l1 a=a1,l2 a=a2,l3 a=a3,l0 b=b0,l1 b=b1,l2 b=b2,l3 b=b3,l0 c=c0,l1 c=c1,l2 c=c2,l3 c=c3,l0 r=r0,l1 r=r1,l2 r=r2,l3 r=r3 at *;refine inZ func53 fun A I=>?_;refine goZ [qF 20 1,qF 20 2,qF 20 3,qF 20 4,qF 20 5,qF 20 6,qF 20 7,qF 20 8,qF 20 9,qF 20 10,qF 20 11,kC func90 h0] I fun β A1 w1 I1 hb1=>?_;exact zl (v:=U4 r0 r1 r2 r3) I1
theorem rrk_21(a b c:Nat)(ha:a<W)(hb:b<W)(hc:c<W):RT 53 #[b8 21,U a,U b,U c] (U (zk 21 a b c)):=by
 intro w;have h0:=rcp_21 a b c ha hb;generalize zk 21 a b c=r at *;unfold U at *;generalize l0 a=a0,l1 a=a1,l2 a=a2,l3 a=a3,l0 b=b0,l1 b=b1,l2 b=b2,l3 b=b3,l0 c=c0,l1 c=c1,l2 c=c2,l3 c=c3,l0 r=r0,l1 r=r1,l2 r=r2,l3 r=r3 at *;refine inZ func53 fun A I=>?_;refine goZ [qF 21 1,qF 21 2,qF 21 3,qF 21 4,qF 21 5,qF 21 6,qF 21 7,qF 21 8,qF 21 9,qF 21 10,qF 21 11,kC func90 h0] I fun β A1 w1 I1 hb1=>?_;exact zl (v:=U4 r0 r1 r2 r3) I1
theorem rrk_22(a b c:Nat)(ha:a<W)(hb:b<W)(hc:c<W):RT 53 #[b8 22,U a,U b,U c] (U (zk 22 a b c)):=by
 intro w;have h0:=rcp_22 a b c ha hb;generalize zk 22 a b c=r at *;unfold U at *;generalize l0 a=a0,l1 a=a1,l2 a=a2,l3 a=a3,l0 b=b0,l1 b=b1,l2 b=b2,l3 b=b3,l0 c=c0,l1 c=c1,l2 c=c2,l3 c=c3,l0 r=r0,l1 r=r1,l2 r=r2,l3 r=r3 at *;refine inZ func53 fun A I=>?_;refine goZ [qF 22 1,qF 22 2,qF 22 3,qF 22 4,qF 22 5,qF 22 6,qF 22 7,qF 22 8,qF 22 9,qF 22 10,qF 22 11,kC func90 h0] I fun β A1 w1 I1 hb1=>?_;exact zl (v:=U4 r0 r1 r2 r3) I1
theorem rrk_23(a b c:Nat)(ha:a<W)(hb:b<W)(hc:c<W):RT 53 #[b8 23,U a,U b,U c] (U (zk 23 a b c)):=by
 intro w;have h0:=rcp_23 a b c ha hb;generalize zk 23 a b c=r at *;unfold U at *;generalize l0 a=a0,l1 a=a1,l2 a=a2,l3 a=a3,l0 b=b0,l1 b=b1,l2 b=b2,l3 b=b3,l0 c=c0,l1 c=c1,l2 c=c2,l3 c=c3,l0 r=r0,l1 r=r1,l2 r=r2,l3 r=r3 at *;refine inZ func53 fun A I=>?_;refine goZ [qF 23 1,qF 23 2,qF 23 3,qF 23 4,qF 23 5,qF 23 6,qF 23 7,qF 23 8,qF 23 9,qF 23 10,qF 23 11,kC func90 h0] I fun β A1 w1 I1 hb1=>?_;exact zl (v:=U4 r0 r1 r2 r3) I1
theorem rrk_24(a b c:Nat)(ha:a<W)(hb:b<W)(hc:c<W):RT 53 #[b8 24,U a,U b,U c] (U (zk 24 a b c)):=by
 intro w;have h0:=rcp_24 a b c ha hb;generalize zk 24 a b c=r at *;unfold U at *;generalize l0 a=a0,l1 a=a1,l2 a=a2,l3 a=a3,l0 b=b0,l1 b=b1,l2 b=b2,l3 b=b3,l0 c=c0,l1 c=c1,l2 c=c2,l3 c=c3,l0 r=r0,l1 r=r1,l2 r=r2,l3 r=r3 at *;refine inZ func53 fun A I=>?_;refine goZ [qF 24 1,qF 24 2,qF 24 3,qF 24 4,qF 24 5,qF 24 6,qF 24 7,qF 24 8,qF 24 9,qF 24 10,qF 24 11,kC func90 h0] I fun β A1 w1 I1 hb1=>?_;exact zl (v:=U4 r0 r1 r2 r3) I1
theorem rrk_25(a b c:Nat)(ha:a<W)(hb:b<W)(hc:c<W):RT 53 #[b8 25,U a,U b,U c] (U (zk 25 a b c)):=by
 intro w;have h0:=rcp_25 a b c ha hb;generalize zk 25 a b c=r at *;unfold U at *;generalize l0 a=a0,l1 a=a1,l2 a=a2,l3 a=a3,l0 b=b0,l1 b=b1,l2 b=b2,l3 b=b3,l0 c=c0,l1 c=c1,l2 c=c2,l3 c=c3,l0 r=r0,l1 r=r1,l2 r=r2,l3 r=r3 at *;refine inZ func53 fun A I=>?_;refine goZ [qF 25 1,qF 25 2,qF 25 3,qF 25 4,qF 25 5,qF 25 6,qF 25 7,qF 25 8,qF 25 9,qF 25 10,qF 25 11,kC func90 h0] I fun β A1 w1 I1 hb1=>?_;exact zl (v:=U4 r0 r1 r2 r3) I1
theorem rrk_26(a b c:Nat)(ha:a<W)(hb:b<W)(hc:c<W):RT 53 #[b8 26,U a,U b,U c] (U (zk 26 a b c)):=by
 intro w;have h0:=rcp_26 a b c ha hb;generalize zk 26 a b c=r at *;unfold U at *;generalize l0 a=a0,l1 a=a1,l2 a=a2,l3 a=a3,l0 b=b0,l1 b=b1,l2 b=b2,l3 b=b3,l0 c=c0,l1 c=c1,l2 c=c2,l3 c=c3,l0 r=r0,l1 r=r1,l2 r=r2,l3 r=r3 at *;refine inZ func53 fun A I=>?_;refine goZ [qF 26 1,qF 26 2,qF 26 3,qF 26 4,qF 26 5,qF 26 6,qF 26 7,qF 26 8,qF 26 9,qF 26 10,qF 26 11,kC func90 h0] I fun β A1 w1 I1 hb1=>?_;exact zl (v:=U4 r0 r1 r2 r3) I1
theorem rrk_27(a b c:Nat)(ha:a<W)(hb:b<W)(hc:c<W):RT 53 #[b8 27,U a,U b,U c] (U (zk 27 a b c)):=by
 intro w;have h0:=rcp_27 a b c ha hb;generalize zk 27 a b c=r at *;unfold U at *;generalize l0 a=a0,l1 a=a1,l2 a=a2,l3 a=a3,l0 b=b0,l1 b=b1,l2 b=b2,l3 b=b3,l0 c=c0,l1 c=c1,l2 c=c2,l3 c=c3,l0 r=r0,l1 r=r1,l2 r=r2,l3 r=r3 at *;refine inZ func53 fun A I=>?_;refine goZ [qF 27 1,qF 27 2,qF 27 3,qF 27 4,qF 27 5,qF 27 6,qF 27 7,qF 27 8,qF 27 9,qF 27 10,qF 27 11,kC func90 h0] I fun β A1 w1 I1 hb1=>?_;exact zl (v:=U4 r0 r1 r2 r3) I1
theorem rrk_28(a b c:Nat)(ha:a<W)(hb:b<W)(hc:c<W):RT 53 #[b8 28,U a,U b,U c] (U (zk 28 a b c)):=by
 intro w;have h0:=rcp_28 a b c ha hb;generalize zk 28 a b c=r at *;unfold U at *;generalize l0 a=a0,l1 a=a1,l2 a=a2,l3 a=a3,l0 b=b0,l1 b=b1,l2 b=b2,l3 b=b3,l0 c=c0,l1 c=c1,l2 c=c2,l3 c=c3,l0 r=r0,l1 r=r1,l2 r=r2,l3 r=r3 at *;refine inZ func53 fun A I=>?_;refine goZ [qF 28 1,qF 28 2,qF 28 3,qF 28 4,qF 28 5,qF 28 6,qF 28 7,qF 28 8,qF 28 9,qF 28 10,qF 28 11,kC func90 h0] I fun β A1 w1 I1 hb1=>?_;exact zl (v:=U4 r0 r1 r2 r3) I1
theorem rrk_29(a b c:Nat)(ha:a<W)(hb:b<W)(hc:c<W):RT 53 #[b8 29,U a,U b,U c] (U (zk 29 a b c)):=by
 intro w;have h0:=rcp_29 a b c ha hb;generalize zk 29 a b c=r at *;unfold U at *;generalize l0 a=a0,l1 a=a1,l2 a=a2,l3 a=a3,l0 b=b0,l1 b=b1,l2 b=b2,l3 b=b3,l0 c=c0,l1 c=c1,l2 c=c2,l3 c=c3,l0 r=r0,l1 r=r1,l2 r=r2,l3 r=r3 at *;refine inZ func53 fun A I=>?_;refine goZ [qF 29 1,qF 29 2,qF 29 3,qF 29 4,qF 29 5,qF 29 6,qF 29 7,qF 29 8,qF 29 9,qF 29 10,qF 29 11,kC func90 h0] I fun β A1 w1 I1 hb1=>?_;exact zl (v:=U4 r0 r1 r2 r3) I1
theorem rreck_any{op:Nat}(ho:kr op=true)(h0:op≠0)(h1:op<32)(a b c:Nat)(ha:a<W)(hb:b<W)(hc:c<W):RT 53 #[b8 op,U a,U b,U c] (U (zk op a b c)):=by
 intro w;have hcs:op=1∨op=2∨op=3∨op=4∨op=5∨op=6∨op=7∨op=8∨op=9∨op=10∨op=11∨op=16∨op=17∨op=18∨op=19∨op=20∨op=21∨op=22∨op=23∨op=24∨op=25∨op=26∨op=27∨op=28∨op=29:=by have:=zb4 ho;omega
 rcases hcs with rfl|rfl|rfl|rfl|rfl|rfl|rfl|rfl|rfl|rfl|rfl|rfl|rfl|rfl|rfl|rfl|rfl|rfl|rfl|rfl|rfl|rfl|rfl|rfl|rfl
 ·exact rrk_1 a b c ha hb hc w
 ·exact rrk_2 a b c ha hb hc w
 ·exact rrk_3 a b c ha hb hc w
 ·exact rrk_4 a b c ha hb hc w
 ·exact rrk_5 a b c ha hb hc w
 ·exact rrk_6 a b c ha hb hc w
 ·exact rrk_7 a b c ha hb hc w
 ·exact rrk_8 a b c ha hb hc w
 ·exact rrk_9 a b c ha hb hc w
 ·exact rrk_10 a b c ha hb hc w
 ·exact rrk_11 a b c ha hb hc w
 ·exact rrk_16 a b c ha hb hc w
 ·exact rrk_17 a b c ha hb hc w
 ·exact rrk_18 a b c ha hb hc w
 ·exact rrk_19 a b c ha hb hc w
 ·exact rrk_20 a b c ha hb hc w
 ·exact rrk_21 a b c ha hb hc w
 ·exact rrk_22 a b c ha hb hc w
 ·exact rrk_23 a b c ha hb hc w
 ·exact rrk_24 a b c ha hb hc w
 ·exact rrk_25 a b c ha hb hc w
 ·exact rrk_26 a b c ha hb hc w
 ·exact rrk_27 a b c ha hb hc w
 ·exact rrk_28 a b c ha hb hc w
 ·exact rrk_29 a b c ha hb hc w
end Go.Proofs.YtceedgdbhlpjlaaGreatDoor
