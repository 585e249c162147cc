/- Laid one behind the other: Yc, Yd, Ye. -/
import Derived.Test.YtceedgdbhlpjlaaGreatDoorKqYb
import Derived.Test.YtceedgdbhlpjlaaGreatDoorKqHv
import Derived.Maps.AppendAt
namespace Go.Proofs.YtceedgdbhlpjlaaGreatDoor
open Go.RowKit Go.Sort Tryz
set_option linter.unusedVariables false
set_option maxRecDepth 100000
set_option maxHeartbeats 4000000
def rdA (op:Nat) (f:Fr) (a m:Nat):Nat:=
 if op=32 then kecV (slV f.mem a m)else if op=53 then rdB (slV f.inp a 32)else if op=54 then f.inp.length else if op=56 then f.code.length else if op=81 then rdB (slV f.mem a 32)else if op=88 then f.pc.toNat else if op=89 then f.mem.length else f.gas.toNat
structure Bd (f:Fr):Prop where
 code:f.code.length≤100000
 inp:f.inp.length≤100000
 mem:f.mem.length≤100000
 pc0:0≤f.pc
 pc1:f.pc≤1000000
 gas0:0≤f.gas
 gas1:f.gas≤1000000
theorem rrd_any(f:Fr)(ad:Option Addr)(n cap:Nat)(op a m:Nat)(ho:op<256)(ha:a<W)(hm:op=32→m≤65536)(hB:Bd f):RT 54 #[frV f (.slice ad n cap),b8 op,U a,U m] (U (rdA op f a m)):=by
 intro w;obtain⟨b1,b2,b3,b4,b5,b6,b7⟩:=hB;have hM:=zah;refine inZ func54 fun A I=>?_;unfold rdA;by_cases h1:op=32
 ·rw[if_pos h1];have hle:=hm h1;have hl0:l0 m=m:=(xc m (by omega)).1;have hsl:=kb f.mem (by omega) a ha (m:Int);have hln:=vy f.mem a m hle;have hsu:=rsum_any ⟨(slV f.mem a m).toArray⟩ (by rw[y9];omega);have hrd:=zew (told (spg (blks ⟨(slV f.mem a m).toArray⟩))) (by rw[told_len];decide);rw[told_len]at hrd;unfold kecV;have hcv:=zch m (by omega);generalize rdN (told (spg (blks ⟨(slV f.mem a m).toArray⟩))) 32=r at *;generalize told (spg (blks ⟨(slV f.mem a m).toArray⟩))=tb at *;generalize slV f.mem a m=sl at *;unfold U at hsl hrd I ⊢;rw[hl0]at I ⊢;clear hl0
  generalize l0 a=a0,l1 a=a1,l2 a=a2,l3 a=a3,l0 r=r0,l1 r=r1,l2 r=r2,l3 r=r3,l1 m=m1,l2 m=m2,l3 m=m3 at *;refine goZ [eqF op 32 h1,vO 36 3 hcv,kC func50 hsl,kC func91 hsu,kC func78 hrd] I fun β A1 w1 I1 hb1=>?_;exact zl (v:=U4 r0 r1 r2 r3) I1
 rw[if_neg h1];by_cases h2:op=53
 ·rw[if_pos h2];have hsl:=kb f.inp (by omega) a ha 32;have hln:=vy f.inp a 32 (by decide);have hrd:=zew ⟨(slV f.inp a 32).toArray⟩ (by rw[y9];exact Nat.le_of_eq hln);rw[y9]at hrd;unfold rdB;generalize rdN ⟨(slV f.inp a 32).toArray⟩ (slV f.inp a 32).length=r at *;generalize slV f.inp a 32=sl at *;unfold U at hsl hrd I ⊢;generalize l0 a=a0,l1 a=a1,l2 a=a2,l3 a=a3,l0 r=r0,l1 r=r1,l2 r=r2,l3 r=r3,l0 m=m0,l1 m=m1,l2 m=m2,l3 m=m3 at *;refine goZ [neF op 32 (by omega),eqF op 53 h2,kC func50 hsl,kC func78 hrd] I fun β A1 w1 I1 hb1=>?_
  exact zl (v:=U4 r0 r1 r2 r3) I1
 rw[if_neg h2];by_cases h2:op=54
 ·rw[if_pos h2];have hcv:=zcw (f.inp.length) (by omega);rw[U_sml (f.inp.length) (by omega)];have hbd:=bdU (f.inp.length) 0 0 0;unfold U at I ⊢;generalize l0 a=a0,l1 a=a1,l2 a=a2,l3 a=a3,l0 m=m0,l1 m=m1,l2 m=m2,l3 m=m3 at *;refine goZ [neF op 32 (by omega),neF op 53 (by omega),eqF op 54 h2,lnO f.inp,vO 3 36 hcv,dO 38 [0,1,2,3] hbd] I fun β A1 w1 I1 hb1=>?_;exact zl (v:=U4 (f.inp.length) 0 0 0) I1
 rw[if_neg h2];by_cases h2:op=56
 ·rw[if_pos h2];have hcv:=zcw (f.code.length) (by omega);rw[U_sml (f.code.length) (by omega)];have hbd:=bdU (f.code.length) 0 0 0;unfold U at I ⊢;generalize l0 a=a0,l1 a=a1,l2 a=a2,l3 a=a3,l0 m=m0,l1 m=m1,l2 m=m2,l3 m=m3 at *;refine goZ [neF op 32 (by omega),neF op 53 (by omega),neF op 54 (by omega),eqF op 56 h2,lnO f.code,vO 3 36 hcv,dO 38 [0,1,2,3] hbd] I fun β A1 w1 I1 hb1=>?_;exact zl (v:=U4 (f.code.length) 0 0 0) I1
 rw[if_neg h2];by_cases h2:op=81
 ·rw[if_pos h2];have hsl:=kb f.mem (by omega) a ha 32;have hln:=vy f.mem a 32 (by decide);have hrd:=zew ⟨(slV f.mem a 32).toArray⟩ (by rw[y9];exact Nat.le_of_eq hln);rw[y9]at hrd;unfold rdB;generalize rdN ⟨(slV f.mem a 32).toArray⟩ (slV f.mem a 32).length=r at *;generalize slV f.mem a 32=sl at *;unfold U at hsl hrd I ⊢;generalize l0 a=a0,l1 a=a1,l2 a=a2,l3 a=a3,l0 r=r0,l1 r=r1,l2 r=r2,l3 r=r3,l0 m=m0,l1 m=m1,l2 m=m2,l3 m=m3 at *
  refine goZ [neF op 32 (by omega),neF op 53 (by omega),neF op 54 (by omega),neF op 56 (by omega),eqF op 81 h2,kC func50 hsl,kC func78 hrd] I fun β A1 w1 I1 hb1=>?_;exact zl (v:=U4 r0 r1 r2 r3) I1
 rw[if_neg h2];by_cases h2:op=88
 ·rw[if_pos h2];have hcv:=zcw (f.pc.toNat) (by omega);rw[U_sml (f.pc.toNat) (by omega)];have hz:(((f.pc.toNat):Nat):Int)=f.pc:=by omega
  rw[hz]at hcv;have hbd:=bdU (f.pc.toNat) 0 0 0;generalize (f.pc.toNat)=r at *;unfold U at I ⊢;generalize l0 a=a0,l1 a=a1,l2 a=a2,l3 a=a3,l0 m=m0,l1 m=m1,l2 m=m2,l3 m=m3 at *;refine goZ [neF op 32 (by omega),neF op 53 (by omega),neF op 54 (by omega),neF op 56 (by omega),neF op 81 (by omega),eqF op 88 h2,vO 3 36 hcv,dO 38 [0,1,2,3] hbd] I fun β A1 w1 I1 hb1=>?_;exact zl (v:=U4 r 0 0 0) I1
 rw[if_neg h2];by_cases h2:op=89
 ·rw[if_pos h2];have hcv:=zcw (f.mem.length) (by omega);rw[U_sml (f.mem.length) (by omega)];have hbd:=bdU (f.mem.length) 0 0 0;unfold U at I ⊢;generalize l0 a=a0,l1 a=a1,l2 a=a2,l3 a=a3,l0 m=m0,l1 m=m1,l2 m=m2,l3 m=m3 at *;refine goZ [neF op 32 (by omega),neF op 53 (by omega),neF op 54 (by omega),neF op 56 (by omega),neF op 81 (by omega),neF op 88 (by omega),eqF op 89 h2,lnO f.mem,vO 3 36 hcv,dO 38 [0,1,2,3] hbd] I fun β A1 w1 I1 hb1=>?_;exact zl (v:=U4 (f.mem.length) 0 0 0) I1
 rw[if_neg h2];have hcv:=zcw (f.gas.toNat) (by omega);rw[U_sml (f.gas.toNat) (by omega)];have hz:(((f.gas.toNat):Nat):Int)=f.gas:=by omega
 rw[hz]at hcv;have hbd:=bdU (f.gas.toNat) 0 0 0;generalize (f.gas.toNat)=r at *;unfold U at I ⊢;generalize l0 a=a0,l1 a=a1,l2 a=a2,l3 a=a3,l0 m=m0,l1 m=m1,l2 m=m2,l3 m=m3 at *;refine goZ [neF op 32 (by omega),neF op 53 (by omega),neF op 54 (by omega),neF op 56 (by omega),neF op 81 (by omega),neF op 88 (by omega),neF op 89 (by omega),vO 3 36 hcv,dO 38 [0,1,2,3] hbd] I fun β A1 w1 I1 hb1=>?_;exact zl (v:=U4 r 0 0 0) I1
theorem bsN_len(b:Nat):(bsN b).length=32:=by have:=zc0 b;unfold bsN;rw[Array.length_toList];exact this
def txA (op:Nat) (f:Fr) (b c:Nat):List UInt8:=
 if op=55 then slV f.inp b c else if op=57 then slV f.code b c else if op=82 then bsN b else if op=83 then(bsN b).drop 31 else []
theorem rwt_any(f:Fr)(ad:Option Addr)(n cap:Nat)(op a b c:Nat)(ho:op<256)(hb:b<W)(hc:op=55∨op=57→c≤65536)(hx:txA op f b c≠[]→a≤1000000)(hB:Bd f):RT 52 #[frV f (.slice ad n cap),b8 op,U a,U b,U c] (frV { f with mem:=putV f.mem a (txA op f b c) } (.slice ad n cap)):=by
 intro w;obtain⟨b1,b2,b3,b4,b5,b6,b7⟩:=hB;have hM:=zah;have hlx:(txA op f b c).length≤100000:=by
  unfold txA;by_cases h1:op=55
  ·rw[if_pos h1,vy _ _ _ (hc (.inl h1))];have:=hc (.inl h1);omega
  rw[if_neg h1];by_cases h2:op=57
  ·rw[if_pos h2,vy _ _ _ (hc (.inr h2))];have:=hc (.inr h2);omega
  rw[if_neg h2];by_cases h3:op=82
  ·rw[if_pos h3,bsN_len];decide
  rw[if_neg h3];by_cases h4:op=83
  ·rw[if_pos h4,List.length_drop,bsN_len];decide
  rw[if_neg h4];decide
 have hpt:∀ i:Int,i=a→∀ w,Calls prog 81 #[str f.mem,Z i,str (txA op f b c)] w fun e w'=>e=.returned (str (putV f.mem a (txA op f b c)))∧Below w.heap.size w w':=fun i hi=>hi ▸ rput_any f.mem (txA op f b c) (by omega) (by omega) i
 have hnil:txA op f b c=[]→putV f.mem a (txA op f b c)=f.mem:=fun h=>by rw[h,kt]
 have hcv:txA op f b c≠[]→∀ w,(convert 36 3 (B (l0 a))).run prog w=.ok (Z a) w:=fun h=>by
  have:=hx h;have e:l0 a=a:=(xc a (by omega)).1;rw[e];exact zch a (by omega)
 have hpa:=hpt a rfl;clear hpt;generalize putV f.mem a (txA op f b c)=pm at *;refine inZ func52 fun A I=>?_;by_cases h1:op=55
 ·have hle:=hc (by omega);have htx:txA op f b c=slV f.inp b c:=by unfold txA;rw[if_pos h1]
  have hsl:=kb f.inp (by omega) b hb (c:Int);rw[← htx]at hsl;have hl0:l0 c=c:=(xc c (by omega)).1;have hcc:=zch c (by omega);clear htx;unfold U at hsl I ⊢;rw[hl0]at I ⊢;clear hl0;generalize l0 a=a0,l1 a=a1,l2 a=a2,l3 a=a3,l0 b=b0,l1 b=b1,l2 b=b2,l3 b=b3,l1 c=c1,l2 c=c2,l3 c=c3 at *;rcases Classical.em (txA op f b c=[])with hn|hn
  ·have hp:=hnil hn;generalize txA op f b c=tx at *;subst hn;subst hp;refine goZ [eqF op 55 h1,vO 36 3 hcc,kC func50 hsl,bO .neq 9 (qi (a:=[]) (b:=[]) (q:=false) rfl)] I fun β A1 w1 I1 hb1=>?_;exact zl (v:=frV f (.slice ad n cap)) I1
  ·have hcq:=hcv hn;generalize txA op f b c=tx at *;refine goZ [eqF op 55 h1,vO 36 3 hcc,kC func50 hsl,bO .neq 9 (qi (a:=tx) (b:=[]) (q:=true) (decide_eq_true hn)),vO 36 3 hcq,kC func81 hpa] I fun β A1 w1 I1 hb1=>?_;exact zl (v:=frV { f with mem:=pm } (.slice ad n cap)) I1
 by_cases h1:op=57
 ·have hle:=hc (by omega);have htx:txA op f b c=slV f.code b c:=by unfold txA;rw[if_neg (by omega),if_pos h1]
  have hsl:=kb f.code (by omega) b hb (c:Int);rw[← htx]at hsl;have hl0:l0 c=c:=(xc c (by omega)).1;have hcc:=zch c (by omega);clear htx;unfold U at hsl I ⊢;rw[hl0]at I ⊢;clear hl0;generalize l0 a=a0,l1 a=a1,l2 a=a2,l3 a=a3,l0 b=b0,l1 b=b1,l2 b=b2,l3 b=b3,l1 c=c1,l2 c=c2,l3 c=c3 at *;rcases Classical.em (txA op f b c=[])with hn|hn
  ·have hp:=hnil hn;generalize txA op f b c=tx at *;subst hn;subst hp;refine goZ [neF op 55 (by omega),eqF op 57 h1,vO 36 3 hcc,kC func50 hsl,bO .neq 9 (qi (a:=[]) (b:=[]) (q:=false) rfl)] I fun β A1 w1 I1 hb1=>?_;exact zl (v:=frV f (.slice ad n cap)) I1
  ·have hcq:=hcv hn;generalize txA op f b c=tx at *;refine goZ [neF op 55 (by omega),eqF op 57 h1,vO 36 3 hcc,kC func50 hsl,bO .neq 9 (qi (a:=tx) (b:=[]) (q:=true) (decide_eq_true hn)),vO 36 3 hcq,kC func81 hpa] I fun β A1 w1 I1 hb1=>?_;exact zl (v:=frV { f with mem:=pm } (.slice ad n cap)) I1
 by_cases h1:op=82
 ·have htx:txA op f b c=bsN b:=by unfold txA;rw[if_neg (by omega),if_neg (by omega),if_pos h1]
  have hbs:=rbytes_any b;have ebs:(Value.string (strN b))=str (bsN b):=rfl;rw[ebs]at hbs;rw[← htx]at hbs;clear htx ebs;unfold U at hbs I ⊢;generalize l0 a=a0,l1 a=a1,l2 a=a2,l3 a=a3,l0 b=b0,l1 b=b1,l2 b=b2,l3 b=b3,l0 c=c0,l1 c=c1,l2 c=c2,l3 c=c3 at *;rcases Classical.em (txA op f b c=[])with hn|hn
  ·have hp:=hnil hn;generalize txA op f b c=tx at *;subst hn;subst hp;refine goZ [neF op 55 (by omega),neF op 57 (by omega),eqF op 82 h1,kC func80 hbs,bO .neq 9 (qi (a:=[]) (b:=[]) (q:=false) rfl)] I fun β A1 w1 I1 hb1=>?_;exact zl (v:=frV f (.slice ad n cap)) I1
  ·have hcq:=hcv hn;generalize txA op f b c=tx at *;refine goZ [neF op 55 (by omega),neF op 57 (by omega),eqF op 82 h1,kC func80 hbs,bO .neq 9 (qi (a:=tx) (b:=[]) (q:=true) (decide_eq_true hn)),vO 36 3 hcq,kC func81 hpa] I fun β A1 w1 I1 hb1=>?_;exact zl (v:=frV { f with mem:=pm } (.slice ad n cap)) I1
 by_cases h1:op=83
 ·have htx:txA op f b c=(bsN b).drop 31:=by unfold txA;rw[if_neg (by omega),if_neg (by omega),if_neg (by omega),if_pos h1]
  have hbs:=rbytes_any b;have ebs:(Value.string (strN b))=str (bsN b):=rfl;rw[ebs]at hbs;have hdr:∀ w,(Instr.sliceAt 9 (str (bsN b)) (some (Z 31)) none none).run prog w=.ok (str (txA op f b c)) w:=fun w=>by rw[htx];exact from_run (k:=31) (by rw[bsN_len];decide) w
  clear htx ebs;generalize bsN b=bb at *;unfold U at hbs I ⊢;generalize l0 a=a0,l1 a=a1,l2 a=a2,l3 a=a3,l0 b=b0,l1 b=b1,l2 b=b2,l3 b=b3,l0 c=c0,l1 c=c1,l2 c=c2,l3 c=c3 at *;rcases Classical.em (txA op f b c=[])with hn|hn
  ·have hp:=hnil hn;generalize txA op f b c=tx at *;subst hn;subst hp;refine goZ [neF op 55 (by omega),neF op 57 (by omega),neF op 82 (by omega),eqF op 83 h1,kC func80 hbs,sO 9 hdr,bO .neq 9 (qi (a:=[]) (b:=[]) (q:=false) rfl)] I fun β A1 w1 I1 hb1=>?_;exact zl (v:=frV f (.slice ad n cap)) I1
  ·have hcq:=hcv hn;generalize txA op f b c=tx at *;refine goZ [neF op 55 (by omega),neF op 57 (by omega),neF op 82 (by omega),eqF op 83 h1,kC func80 hbs,sO 9 hdr,bO .neq 9 (qi (a:=tx) (b:=[]) (q:=true) (decide_eq_true hn)),vO 36 3 hcq,kC func81 hpa] I fun β A1 w1 I1 hb1=>?_;exact zl (v:=frV { f with mem:=pm } (.slice ad n cap)) I1
 have htx:txA op f b c=[]:=by unfold txA;rw[if_neg (by omega),if_neg (by omega),if_neg (by omega),if_neg (by omega)]
 unfold U at I ⊢;generalize l0 a=a0,l1 a=a1,l2 a=a2,l3 a=a3,l0 b=b0,l1 b=b1,l2 b=b2,l3 b=b3,l0 c=c0,l1 c=c1,l2 c=c2,l3 c=c3 at *;have hp:=hnil htx;subst hp;refine goZ [neF op 55 (by omega),neF op 57 (by omega),neF op 82 (by omega),neF op 83 (by omega),bO .neq 9 (qi (a:=[]) (b:=[]) (q:=false) rfl)] I fun β A1 w1 I1 hb1=>?_;exact zl (v:=frV f (.slice ad n cap)) I1
structure SkJ (w:World) (v:Value) (s:List Nat) (w':World):Prop where
 bw:Below w.heap.size w w'
 o:w'.ownsRow w.heap.size 38 4 v s.length (sC s)
def SkF (w:World) (v:Value) (k:Nat):Prop:=k<w.heap.size∨v.ownBlock=some k
theorem SkJ.rs(w:World)(v:Value)(s:List Nat):qm (SkJ w v s) (SkF w v):=by
 refine⟨fun x y h gr=>⟨⟨gr.os.trans h.bw.os,gr.tape.trans h.bw.tape,gr.output.trans h.bw.output,Nat.le_trans h.bw.size gr.size,fun k hk=>(gr.block k (Nat.lt_of_lt_of_le hk h.bw.size) (.inl hk)).trans (h.bw.block k hk)⟩,xi h.o gr fun k hk=>.inr hk⟩,fun x k h hk=>?_⟩;rcases hk with hk | hk
 ·exact Nat.lt_of_lt_of_le hk h.bw.size
 ·exact(h.o.lt k hk).2
theorem sC_app(t s:List Nat):sC (t++s)=sC s++sC t:=by unfold sC;simp
section
variable {w0 w:World} {v:Value} {s t:List Nat} {ds:List Deferred} {β:Nat→Nat} {c:Cf} {a:Act} {Q:Exit→Act→World→Prop}
theorem SI.sj0(I:SI (Below w0.heap.size w0) (· < w0.heap.size) ds β c a w):SI (SkJ w0 (.slice none 0 0) []) (SkF w0 (.slice none 0 0)) ds β c a w:=⟨I.fr,I.df,⟨I.hJ,World.ownsRow_nil _ _ _ _⟩,I.row,fun q hq h=>I.dis q hq (by
 rcases h with h|h
 ·exact h
 ·cases h),I.lt,I.inj,I.ids⟩
theorem none_run(v:Value)(n b cap:Nat)(xs:List Value)(h:w.ownsRow b 38 4 v n xs):(Builtin.append_ #[22,22] 22 #[v,.slice none 0 cap]).run prog w=.ok v w:=by
 obtain⟨iU,hU1,hU2,hU3,hU4⟩:=hIU;rcases h.2 with⟨rfl,rfl⟩|⟨g,cap',cur,rfl,_,_,hnc,_⟩
 ·simp[Builtin.append_,run_underlying underlying22,sizeOf,typeInfo,hU1,Builtin.lenOf,Builtin.firstCells]
 ·simp[Builtin.append_,run_underlying underlying22,sizeOf,typeInfo,hU1,Builtin.lenOf,Builtin.firstCells,hnc,storeCells]
theorem zbc{v2:Value}{n:Nat}(I:SI (SkJ w0 v s) (SkF w0 v) ds β c a w)(h2:SkR w v2 t)(hn:(t++s).length=n)(hb:n≤100000)(k:∀ ad cap w',SI (SkJ w0 (.slice ad n cap) (t++s)) (SkF w0 (.slice ad n cap)) ds β (qf c (.slice ad n cap)) (a.put (xo c) (.slice ad n cap)) w'→At prog Q (qf c (.slice ad n cap)) (a.put (xo c) (.slice ad n cap)) w')(hc:bltQ c=some (.append,#[22,22],22,[Sum.inl v,Sum.inl v2]):=by kernel_rfl):At prog Q c a w:=by
 obtain⟨ad2,cap2,rfl,hr⟩:=h2;have hl:s.length+t.length=n:=by rw[← hn,List.length_append];omega
 cases ad2 with
 | none=>
  have hz:t=[]:=by
   cases t with
   | nil=>rfl
   | cons x t=>
    obtain⟨b,off,e,_⟩:=hr 0 (by simp);cases e
  subst hz;have hn':s.length=n:=by simpa using hl
  obtain⟨ad,cap,rfl⟩:=qt I.hJ.o;subst hn';exact appQ (ss:=[Sum.inl (.slice ad s.length cap),Sum.inl (.slice none ([]:List Nat).length cap2)]) I (none_run _ _ _ _ _ I.hJ.o) (k ad cap w (I.moved (zu.refl _ _) I.hJ (fun _ _ h=>h) _)) hc
 | some ad=>
  have hw:=I.hJ.bw;obtain⟨iU,hU1,hU2,hU3,hU4⟩:=hIU;have hnews:∀ j u,(sC t)[j]? = some u→w.cell? (ad.add j)=some u:=fun j u hj=>by
   have hjl:j<4*t.length:=by have:=(List.getElem?_eq_some_iff.1 hj).1;rw[zav]at this;omega
   rw[sC_at t j (by omega)]at hj;obtain⟨b,off,e,hcl⟩:=hr (j/4) (by omega);have e:ad=⟨b,off,none⟩:=Option.some.inj e;subst e;have h1:=hcl (j%4) u hj;rw[kh];have e2:off+j=off+j/4*4+j%4:=by omega
   rw[e2];exact h1
  obtain⟨v',w',hr4,ho4,hg4,_,hat⟩:=run_append_own_at (P:=prog) w w0.heap.size 22 22 38 iU _ 4 32 underlying22 hU1 hU2 hU3 hU4 rfl (by decide) _ s.length (sC s) I.hJ.o ad t.length cap2 (sC t) (by rw[zav];omega) hnews (sC_one t) (by simp only[maxLen];omega) (by omega) hw.size;rw[← sC_app,hl]at ho4;obtain⟨ad4,cap4,rfl⟩:=qt ho4;refine appQ (ss:=[Sum.inl v,Sum.inl (.slice (some ad) t.length cap2)]) I hr4 (k ad4 cap4 w' ?_) hc
  refine I.moved ⟨hg4.os,hg4.tape,hg4.output,hg4.size,fun k hk hnn=>hg4.block k hk fun e=>hnn (.inr e.symm)⟩ ⟨⟨hg4.os.trans hw.os,hg4.tape.trans hw.tape,hg4.output.trans hw.output,Nat.le_trans hw.size hg4.size,fun k hk=>(hg4.block k (Nat.lt_of_lt_of_le hk hw.size) (fun e=>by have:=(I.hJ.o.lt k e.symm).1;omega)).trans (hw.block k hk)⟩,hn.symm ▸ ho4⟩ (fun k hk hF=>?_) _;rcases hF with hF | hF
  ·exact .inl hF
  ·rcases hat with h|h
   ·exact .inr (h ▸ hF)
   ·rw[h]at hF;have:=Option.some.inj hF;omega
end
abbrev sl1 (g:Nat):Value:=.slice (some ⟨g,0,none⟩) 1 1
theorem skr1(x:Nat)(w:World):SkR (w.alloc (.cells (Ar x) 38)) (sl1 w.heap.size) [x]:=by
 refine⟨_,1,rfl,fun j hj=>⟨w.heap.size,0,rfl,fun k c hk=>?_⟩⟩;have hj:j=0:=by simpa using hj
 subst hj;have hrow:za (w.alloc (.cells (Ar x) 38)) w.heap.size (Ar x):=za.last rfl;have e:tp [x] ([x].length-1-0)=x:=rfl;rw[e]at hk;rw[show 0+0*4+k=k by omega,hrow.cell,← hk,show Ar x=(uc x).toArray from rfl,List.getElem?_toArray]
section
variable {w0 w:World} {v:Value} {s t:List Nat} {ds:List Deferred} {β:Nat→Nat} {c:Cf} {a:Act} {Q:Exit→Act→World→Prop}
theorem bsl_sk{x n:Nat}{u:Value}(I:SI (SkJ w0 v s) (SkF w0 v) ds β c a w)(hu:u=U x)(hn:(x::s).length=n)(hb:n≤100000)(k:∀ g ad cap a' w',SI (SkJ w0 (.slice ad n cap) (x::s)) (SkF w0 (.slice ad n cap)) ds β (qf (qf c (sl1 g)) (.slice ad n cap)) a' w'→At prog Q (qf (qf c (sl1 g)) (.slice ad n cap)) a' w')(hc:bsQ c=some (22,1,[(0,Sum.inl u)]):=by kernel_rfl)(hc2:∀ g,bltQ (qf c (sl1 g))=some (.append,#[22,22],22,[Sum.inl v,Sum.inl (sl1 g)]):=by intro g;kernel_rfl):At prog Q c a w:=by
 subst hu;refine bslQ (ss:=[(0,Sum.inl (U x))]) I (bsU x w) ?_ hc;have hbl:Below w.heap.size w (w.alloc (.cells (Ar x) 38)):=xz _ _;have I1:SI (SkJ w0 v s) (SkF w0 v) ds β (qf c (sl1 w.heap.size)) _ (w.alloc (.cells (Ar x) 38)):=I.moved (zu.of_below hbl) ((SkJ.rs _ _ _).loc _ _ I.hJ (zu.of_below hbl)) (fun _ _ h=>h) (sl1 w.heap.size);exact zbc (t:=[x]) I1 (skr1 x w) hn hb (fun ad cap w' I2=>k _ ad cap _ w' I2) (hc2 _)
end
theorem own_atB{w:World}{b k n cap:Nat}{s:List Nat}(h:w.ownsRow b 38 4 (.slice (some ⟨k,0,none⟩) n cap) s.length (sC s))(i:Nat)(hi:i<s.length):zcm w k (0+(s.length-1-i)*4) (uc (tp s i)):=by
 intro j c hc;have hj:j<4:=(List.getElem?_eq_some_iff.1 hc).1;rw[← sC_get s i j hi hj]at hc;have:=h.cells (g:=k) rfl _ _ hc;rw[kh]at this;rw[← this]
 congr 2
 omega
theorem own_addrB{w:World}{b:Nat}{v:Value}{s:List Nat}(h:w.ownsRow b 38 4 v s.length (sC s))(hs:0<s.length):∃ k cap,v=.slice (some ⟨k,0,none⟩) s.length cap∧s.length≤cap:=by
 rcases h.2 with⟨_,h2⟩|⟨k,cap,cur,rfl,_,_,h3,_⟩
 ·omega
 ·exact⟨k,cap,rfl,h3⟩
theorem own_setB{w:World}{b k cap:Nat}{s:List Nat}(h:w.ownsRow b 38 4 (.slice (some ⟨k,0,none⟩) s.length cap) s.length (sC s))(i x:Nat)(hi:i<s.length) :
  ∃ w',(storeVar 38 ⟨k,0+(s.length-1-i)*4,none⟩ (U x)).run prog w=.ok () w'∧w'.ownsRow b 38 4 (.slice (some ⟨k,0,none⟩) s.length cap) s.length (sC (s.set i x))∧zu (fun j=>j≠k) w w':=by
 rcases h.2 with⟨h1,_⟩|⟨k',cap',cur,h1,h2,h3,h4,h5,h6,h7⟩
 ·cases h1
 cases h1;have hr:za w k cur:=⟨38,h3⟩
 have hq:(s.length-1-i)*4+4≤cur.size:=by rw[h6];omega
 refine⟨w.setRow k (over cur (0+(s.length-1-i)*4) (U x).cells),zdf 38 hr (by kernel_rfl) (by rw[show(U x).cells.size=4 from rfl];omega) (by kernel_rfl),⟨by rw[zav];simp;omega,.inr ⟨_,_,over cur (0+(s.length-1-i)*4) (U x).cells,rfl,h2,?_,h4,h5,?_,?_⟩⟩,vi _ _ _ (fun h=>h rfl)⟩
 ·rw[setRow_heap w k cur _ 38 (0,0) h3]
 ·unfold over;simp only[List.size_toArray,List.length_append,List.length_take,List.length_drop,Array.length_toList,show(U x).cells.size=4 from rfl];omega
 ·rw[sC_set s i x hi,← h7];have e5:s.length*4=4*s.length:=by omega
  have e7:0+(s.length-1-i)*4=4*(s.length-1-i):=by omega
  rw[e5,e7];exact over_take cur.toList (4*(s.length-1-i)) s.length (uc x) rfl (by omega) (by have:cur.toList.length=cur.size:=Array.length_toList;omega)
def mvA (op:Nat) (f:Fr):Fr:=
 if op=95 then{ f with st:=0::f.st,pc:=f.pc+1 }
 else if op<128 then{ f with st:=rdB (slV f.code (f.pc+1).toNat ((op-95:Nat):Int))::f.st,pc:=f.pc+((op-95:Nat):Int)+1 }
 else if op<144 then{ f with st:=tp f.st (op-128)::f.st,pc:=f.pc+1 }
 else{ f with st:=swV f.st (op-144),pc:=f.pc+1 }
theorem rmv_any(f:Fr)(v:Value)(op:Nat)(h1:95≤op)(h2:op<160)(hd:128≤op→op<144→op-128<f.st.length)(hw:144≤op→op-144+1<f.st.length)(hB:Bd f)(hl:f.st.length≤1000)(w:World)(hs:SkR w v f.st):Calls prog 49 #[frV f v,b8 op] w fun e w'=>∃ x,e=.returned x∧FrO w (mvA op f) x w':=by
 obtain⟨b1,b2,b3,b4,b5,b6,b7⟩:=hB;have hM:=zah;have hW:=M_W;have hs':=hs;obtain⟨ad0,cap0,rfl,_⟩:=hs';refine inZ func49 fun A I=>?_;refine goZ [] I fun β1 A1 w1 I1 hb1=>?_;refine zbc (n:=f.st.length) I1.sj0 (hs.below I1.hJ) (by simp) (by omega) fun ad cap w2 I2=>?_;rw[List.append_nil]at I2;unfold mvA;by_cases k1:op=95
 ·rw[if_pos k1];refine goQ [lSk ad f.st.length cap,eqF op 95 k1,dO 38 [] qw] (SkJ.rs _ _ _) I2 fun β3 A3 w3 I3 hb3=>?_;refine bsl_sk (x:=0) (u:=U4 0 0 0 0) (n:=f.st.length+1) I3 (by kernel_rfl) rfl (by omega) fun g ad5 cap5 A5 w5 I5=>?_;refine goQ [kaZ f.pc 1 (f.pc+1)] (SkJ.rs _ _ _) I5 fun β6 A6 w6 I6 hb6=>?_;exact zp (v:=frV { f with st:=0::f.st,pc:=f.pc+1 } (.slice ad5 (f.st.length+1) cap5)) I6 ⟨_,rfl,ad5,cap5,rfl,I6.hJ.o,I6.hJ.bw⟩
 rw[if_neg k1];by_cases k2:op<128
 ·rw[if_pos k2];obtain⟨k,hk⟩:∃ k,op-95=k:=⟨_,rfl⟩
  obtain⟨p,hp⟩:∃ p,(f.pc+1).toNat=p:=⟨_,rfl⟩
  have hpz:f.pc+1=(p:Int):=by omega
  rw[hk,hp];have hcv:=zcw p (by omega);rw[← hpz]at hcv;have hsl:=kb f.code (by omega) p (by omega) (k:Int);rw[U_sml p (by omega)]at hsl;have hln:=vy f.code p k (by omega);have hrd:=zew ⟨(slV f.code p k).toArray⟩ (by rw[y9,hln];omega);rw[y9]at hrd;have hrB:rdN ⟨(slV f.code p k).toArray⟩ (slV f.code p k).length=rdB (slV f.code p k):=rfl;rw[hrB]at hrd;generalize rdB (slV f.code p k)=r at *;generalize slV f.code p k=sl at *;have hu:U4 (l0 r) (l1 r) (l2 r) (l3 r)=U r:=rfl;rw[← hu]at hrd;generalize l0 r=r0,l1 r=r1,l2 r=r2,l3 r=r3 at *
  refine goQ [lSk ad f.st.length cap,neF op 95 k1,jlT op 128,vO 5 3 (qb op (by omega)),ksZ op 95 (k:Nat),kaZ f.pc 1 (f.pc+1),vO 3 36 hcv,dO 38 [0,1,2,3] (bdU p 0 0 0),kC func50 hsl,kC func78 hrd] (SkJ.rs _ _ _) I2 fun β3 A3 w3 I3 hb3=>?_;refine bsl_sk (x:=r) (u:=U4 r0 r1 r2 r3) (n:=f.st.length+1) I3 hu rfl (by omega) fun g ad5 cap5 A5 w5 I5=>?_;refine goQ [kaZ f.pc k (f.pc+k),kaZ (f.pc+k) 1 (f.pc+k+1)] (SkJ.rs _ _ _) I5 fun β6 A6 w6 I6 hb6=>?_;exact zp (v:=frV { f with st:=r::f.st,pc:=f.pc+k+1 } (.slice ad5 (f.st.length+1) cap5)) I6 ⟨_,rfl,ad5,cap5,rfl,I6.hJ.o,I6.hJ.bw⟩
 rw[if_neg k2];by_cases k3:op<144
 ·rw[if_pos k3];obtain⟨k,hk⟩:∃ k,op-128=k:=⟨_,rfl⟩
  have hkl:=hd (by omega) k3;rw[hk]at hkl ⊢;obtain⟨b,cap',e,hcap⟩:=own_addrB I2.hJ.o (by omega);cases e;have hld:∀ w',SkJ w (.slice (some ⟨b,0,none⟩) f.st.length cap) f.st w'→(loadVar 38 ⟨b,0+(f.st.length-1-k)*4,none⟩).run prog w'=.ok (.agg (uc (tp f.st k)).toArray) w':=fun w' h'=>loadN underlying38 rfl (n:=4) (by kernel_rfl) rfl (own_atB h'.o k hkl)
  generalize tp f.st k=r at *;have hu:U4 (l0 r) (l1 r) (l2 r) (l3 r)=U r:=rfl;simp only[uc]at hld;generalize l0 r=r0,l1 r=r1,l2 r=r2,l3 r=r3 at *;have hsb:=fun o1 o2 w=>sub8 (x:=op) (y:=128) (by omega) (by omega) o1 o2 w
  rw[hk]at hsb;refine goT (T:=SkJ w (.slice (some ⟨b,0,none⟩) f.st.length cap) f.st) [lSk (some ⟨b,0,none⟩) f.st.length cap,neF op 95 k1,jlF op 128,jlT op 144,ksZ f.st.length 1 (f.st.length-1:Nat),bO .sub 5 hsb,vO 5 3 (qb k (by omega)),ksZ (f.st.length-1:Nat) k (f.st.length-1-k:Nat),iA 22 underlying22 (sz:=4) (by kernel_rfl) (g:=b) (off:=0) (n:=f.st.length) (cap:=cap) (i:=f.st.length-1-k) (by omega),ldA 38 hld] (SkJ.rs _ _ _) (fun _ h=>h) I2 fun β3 A3 w3 I3 hb3=>?_;refine bsl_sk (x:=r) (u:=U4 r0 r1 r2 r3) (n:=f.st.length+1) I3 hu rfl (by omega) fun g ad5 cap5 A5 w5 I5=>?_
  refine goQ [kaZ f.pc 1 (f.pc+1)] (SkJ.rs _ _ _) I5 fun β6 A6 w6 I6 hb6=>?_;exact zp (v:=frV { f with st:=r::f.st,pc:=f.pc+1 } (.slice ad5 (f.st.length+1) cap5)) I6 ⟨_,rfl,ad5,cap5,rfl,I6.hJ.o,I6.hJ.bw⟩
 rw[if_neg k3];obtain⟨k,hk⟩:∃ k,op-144=k:=⟨_,rfl⟩
 have hkl:=hw (by omega);rw[hk]at hkl ⊢;obtain⟨b,cap',e,hcap⟩:=own_addrB I2.hJ.o (by omega);cases e;have hld:∀ i,i<f.st.length→∀ w',SkJ w (.slice (some ⟨b,0,none⟩) f.st.length cap) f.st w'→(loadVar 38 ⟨b,0+(f.st.length-1-i)*4,none⟩).run prog w'=.ok (.agg (uc (tp f.st i)).toArray) w':=fun i hi w' h'=>loadN underlying38 rfl (n:=4) (by kernel_rfl) rfl (own_atB h'.o i hi)
 have hA:=hld (k+1) hkl;have hBq:=hld 0 (by omega);have hS1:=fun w' (h':SkJ w (.slice (some ⟨b,0,none⟩) f.st.length cap) f.st w')=>own_setB h'.o 0 (tp f.st (k+1)) (by omega)
 have hsl:(f.st.set 0 (tp f.st (k+1))).length=f.st.length:=List.length_set;have hS2:=fun(w':World) (h':w'.ownsRow w.heap.size 38 4 (.slice (some ⟨b,0,none⟩) (f.st.set 0 (tp f.st (k+1))).length cap) (f.st.set 0 (tp f.st (k+1))).length (sC (f.st.set 0 (tp f.st (k+1)))))=>own_setB h' (k+1) (tp f.st 0) (by omega)
 rw[hsl]at hS2;have e1:f.st.length-1-(k+1)=f.st.length-2-k:=by omega
 rw[e1]at hA hS2;have e2:f.st.length-1-0=f.st.length-1:=by omega
 rw[e2]at hBq hS1;unfold U at hS1 hS2;simp only[uc]at hA hBq;have hx:∀(s:List Nat),s=swV f.st k→s.length=f.st.length:=fun s hs=>by rw[hs];simp[swV]
 obtain⟨sw,hsw⟩:∃ sw,sw=swV f.st k:=⟨_,rfl⟩
 have hswl:=hx sw hsw;have hsw':sw=(f.st.set 0 (tp f.st (k+1))).set (k+1) (tp f.st 0):=hsw;rw[← hsw']at hS2;rw[← hsw];obtain⟨s1,hs1⟩:∃ s1,s1=f.st.set 0 (tp f.st (k+1)):=⟨_,rfl⟩
 rw[← hs1]at hS1 hS2 hsl;generalize l0 (tp f.st (k+1))=x0,l1 (tp f.st (k+1))=x1,l2 (tp f.st (k+1))=x2,l3 (tp f.st (k+1))=x3,l0 (tp f.st 0)=y0,l1 (tp f.st 0)=y1,l2 (tp f.st 0)=y2,l3 (tp f.st 0)=y3 at *;have hsb:=fun o1 o2 w=>sub8 (x:=op) (y:=144) (by omega) (by omega) o1 o2 w
 rw[hk]at hsb;refine goQ [lSk (some ⟨b,0,none⟩) f.st.length cap,neF op 95 k1,jlF op 128,jlF op 144,ksZ f.st.length 2 (f.st.length-2:Nat),bO .sub 5 hsb,vO 5 3 (qb k (by omega)),ksZ (f.st.length-2:Nat) k (f.st.length-2-k:Nat)] (SkJ.rs _ _ _) I2 fun β3 A3 w3 I3 hb3=>?_
 refine dwT (T:=SkJ w (.slice (some ⟨b,0,none⟩) f.st.length cap) f.st) 14 [ksZ f.st.length 1 (f.st.length-1:Nat),iA 22 underlying22 (sz:=4) (by kernel_rfl) (g:=b) (off:=0) (n:=f.st.length) (cap:=cap) (i:=f.st.length-2-k) (by omega),ldA 38 hA,ksZ f.st.length 1 (f.st.length-1:Nat),iA 22 underlying22 (sz:=4) (by kernel_rfl) (g:=b) (off:=0) (n:=f.st.length) (cap:=cap) (i:=f.st.length-1) (by omega),ldA 38 hBq] (SkJ.rs _ _ _) (fun _ h=>h) yg.post I3 fun A4 w4 I4=>?_
 refine goQ [iA 22 underlying22 (sz:=4) (by kernel_rfl) (g:=b) (off:=0) (n:=f.st.length) (cap:=cap) (i:=f.st.length-1) (by omega)] (SkJ.rs _ _ _) I4 fun β5 A5 w5 I5 hb5=>?_;obtain⟨w6,r6,o6,g6⟩:=hS1 w5 I5.hJ;refine stoQ (ad:=⟨b,0+(f.st.length-1)*4,none⟩) (v:=U4 x0 x1 x2 x3) I5 r6 ?_;have hge:w.heap.size≤b:=(I5.hJ.o.lt b rfl).1
 have bel:∀{x y:World},Below w.heap.size w x→zu (fun j=>j≠b) x y→Below w.heap.size w y:=fun{x y} h gr=>⟨gr.os.trans h.os,gr.tape.trans h.tape,gr.output.trans h.output,Nat.le_trans h.size gr.size,fun j hj=>(gr.block j (Nat.lt_of_lt_of_le hj h.size) (by omega)).trans (h.block j hj)⟩
 have I6:SI (SkJ w (.slice (some ⟨b,0,none⟩) f.st.length cap) s1) (SkF w (.slice (some ⟨b,0,none⟩) f.st.length cap)) [] β5 _ _ w6:=I5.sto ⟨g6.os,g6.tape,g6.output,g6.size,fun j hj hn=>g6.block j hj fun e=>hn (.inr (by rw[e];rfl))⟩ ⟨bel I5.hJ.bw g6,by rw[hsl];exact o6⟩ (fun _ _ h=>h);refine goQ [iA 22 underlying22 (sz:=4) (by kernel_rfl) (g:=b) (off:=0) (n:=f.st.length) (cap:=cap) (i:=f.st.length-2-k) (by omega)] (SkJ.rs _ _ _) I6 fun β7 A7 w7 I7 hb7=>?_;have ho7:=I7.hJ.o;rw[hsl]at ho7;obtain⟨w8,r8,o8,g8⟩:=hS2 w7 ho7
 refine stoQ (ad:=⟨b,0+(f.st.length-2-k)*4,none⟩) (v:=U4 y0 y1 y2 y3) I7 r8 ?_;have I8:SI (SkJ w (.slice (some ⟨b,0,none⟩) f.st.length cap) sw) (SkF w (.slice (some ⟨b,0,none⟩) f.st.length cap)) [] β7 _ _ w8:=I7.sto ⟨g8.os,g8.tape,g8.output,g8.size,fun j hj hn=>g8.block j hj fun e=>hn (.inr (by rw[e];rfl))⟩ ⟨bel I7.hJ.bw g8,by rw[hswl];exact o8⟩ (fun _ _ h=>h);refine goQ [kaZ f.pc 1 (f.pc+1)] (SkJ.rs _ _ _) I8 fun β9 A9 w9 I9 hb9=>?_
 exact zp (v:=frV { f with st:=sw,pc:=f.pc+1 } (.slice (some ⟨b,0,none⟩) f.st.length cap)) I9 ⟨_,rfl,some ⟨b,0,none⟩,cap,by rw[hswl],by have:=I9.hJ.o;rw[hswl]at this ⊢;exact this,I9.hJ.bw⟩
end Go.Proofs.YtceedgdbhlpjlaaGreatDoor
