/- Laid one behind the other: Sf, Gu, Sg, Wd, Wa. -/
import Derived.Test.YthkpgfbjdabflaaGreatDoorKkAn
import Derived.Test.YthkpgfbjdabflaaGreatDoorKkLa
import Derived.Deep.DeepCutAuto
import Derived.Deep.Light
import Derived.BigCall
namespace Go.Proofs.YthkpgfbjdabflaaGreatDoor
open Go.RowKit Go.Sort Tryz
set_option linter.unusedVariables false
set_option maxRecDepth 100000
set_option maxHeartbeats 4000000
section
attribute [local go_sem] yy
structure CM (W0:World) (hg lw k ov hv0 lo md:Nat) (za:Array Bool) (vs:Nat→Value) (w':World):Prop where
 b:Below W0.heap.size W0 w'
 c0:za.getD 0 false=true→vs 0=U hg
 c1:za.getD 1 false=true→vs 1=B k
 c2:za.getD 2 false=true→vs 2=U hv0
 c3:za.getD 3 false=true→vs 3=U lw
 c4:za.getD 4 false=true→vs 4=B ov
 c5:za.getD 5 false=true→vs 5=U lo
 c6:za.getD 6 false=true→vs 6=U md
 c7:za.getD 7 false=true→∃ g c,vs 7=.pointer (some ⟨g,0,none⟩)∧W0.heap.size≤g∧zb w' g c∧c.size=4∧(za.getD 8 false=true→c=#[B (l0 md),B (l1 md),B (l2 md),B (l3 md)])
 c87:za.getD 8 false=true→za.getD 7 false=true
theorem zb.frozen{w:World}{g:Nat}{c:Array Value}(h:zb w g c)(j:Nat):w.frozen? ⟨g,j,none⟩=false:=by
 obtain⟨t,h⟩:=h;exact frozen_of_row w g j c t h
theorem run_idx8(X:Nat→Nat)(j:Nat)(hj:j<8)(v:Value)(hv:v=.int .i64 (j:Int))(w:World):(Instr.index 246 (L8 X) v).run prog w=.ok (.int .u32 (X j:Nat)) w:=by
 subst hv;have h1:(ag .u32 8 X)[j]? = some (.int .u32 (X j:Nat)):=by rw[yd,if_pos hj]
 have h2:(ag .u32 8 X).size=8:=yj _ _ _;simp[Instr.index,asIntOf,run_underlying underlying246,h2,hj,part,isAgg,run_underlying underlying244,go_sem];exact(Array.getElem?_eq_some_iff.1 h1).2
structure SF (w w':World) (bo bm hg md:Nat) (f:Nat→Nat):Prop where
 o:zb w' bo (ag .u32 17 f)
 h:zb w' w.heap.size #[B (l0 hg),B (l1 hg),B (l2 hg),B (l3 hg)]
 r:zb w' (w.heap.size+1+1) z17
 m:zb w' bm #[B (l0 md),B (l1 md),B (l2 md),B (l3 md)]
 b:Below w.heap.size w w'
theorem SF.call{w w' w'':World}{bo bm hg md:Nat}{f:Nat→Nat}(h:SF w w' bo bm hg md f)(hb:Below w'.heap.size w' w''):SF w w'' bo bm hg md f:=
 ⟨h.o.below hb,h.h.below hb,h.r.below hb,h.m.below hb,h.b.trans (hb.mono h.b.size)⟩
theorem SF.put{w w':World}{bo bm hg md:Nat}{f:Nat→Nat}(h:SF w w' bo bm hg md f)(hq:w.heap.size+1+1<bo)(hm:bm<bo)(i x:Nat):SF w (w'.setCell ⟨bo,i,none⟩ (.int .u32 (x:Nat))) bo bm hg md (upd f i x):=by
 rw[h.o.setCell,xr];exact⟨h.o.set_same _,h.h.set_other _ (by omega),h.r.set_other _ (by omega),h.m.set_other _ (by omega),zf h.b (by omega) _⟩
theorem yr{P:Program}{fn:Func}{p:Tmp}{ty:TypeId}(h:fn.results=#[.cell p ty]){tmps:Array Value}{w:World}{g:Nat}{c:Array Value}{n:Nat}{e:TypeId}(h1:tmps.getD p undef=.pointer (some ⟨g,0,none⟩))(r1:zb w g c)(n1:c.size=n)(hu:P.underlying ty=some (.array n e))(hi:(P.info? ty).map (·.size)=some n):(results fn tmps).run P w=.ok (.agg c) w:=by
 obtain⟨t,r1⟩:=r1;have h1':tmps[p]?.getD undef=.pointer (some ⟨g,0,none⟩):=by rw[← h1];simp
 have k1:=run_loadVar_row (P:=P) w g t ty c (0,0) _ r1 hu rfl (by rw[n1];exact hi);simp only[results,h];simp[h1',asAddr,k1]
theorem shifted_raw(hg lw k ov hv0 lo md A hh:Nat)(X Y Z:Nat→Nat)(hov:IntKind.u64.wrap (256-(k:Int))=(ov:Int))(s1:Hid (∀ w,Calls prog 274 #[U hg,B k] w fun e w'=>e=.returned (U hv0)∧Below w.heap.size w w'))(s2:Hid (∀ w,Calls prog 275 #[U lw,B ov] w fun e w'=>e=.returned (U lo)∧Below w.heap.size w w'))(s3:Hid (∀ w,Calls prog 269 #[U hv0,U lo] w fun e w'=>e=.returned (U md)∧Below w.heap.size w w'))(s4:Hid (∀ w,Calls prog 274 #[U lw,B k] w fun e w'=>e=.returned (U A)∧Below w.heap.size w w'))(s5:Hid (∀ w,Calls prog 312 #[U A] w fun e w'=>e=.returned (L8 X)∧Below w.heap.size w w'))(s6:Hid (∀ w,Calls prog 312 #[U md] w fun e w'=>e=.returned (L8 Y)∧Below w.heap.size w w'))(s7:Hid (∀ w,Calls prog 275 #[U hg,B ov] w fun e w'=>e=.returned (U hh)∧Below w.heap.size w w'))(s8:Hid (∀ w,Calls prog 312 #[U hh] w fun e w'=>e=.returned (L8 Z)∧Below w.heap.size w w'))(w:World) :
  Calls prog 314 #[U hg,U lw,B k] w fun e w'=>
   (∃ f:Nat→Nat,(∀ i,i<8→f i=X i)∧(∀ i,i<8→f (8+i)=Y i)∧f 16=Z 0∧e=.returned (L17 f))∧Below w.heap.size w w':=by
 go_enter func314,ntmps314
 go_wp2
 go_cut [8] (fun s8 w'=>∃ bm,s8=.pointer (some ⟨bm,0,none⟩)∧zb w' bm #[B (l0 md),B (l1 md),B (l2 md),B (l3 md)]∧Below (((w.alloc (Obj.cells #[B (l0 hg),B (l1 hg),B (l2 hg),B (l3 hg)] 45)).alloc (Obj.cells #[B (l0 lw),B (l1 lw),B (l2 lw),B (l3 lw)] 45)).alloc (Obj.cells z17 253)).heap.size (((w.alloc (Obj.cells #[B (l0 hg),B (l1 hg),B (l2 hg),B (l3 hg)] 45)).alloc (Obj.cells #[B (l0 lw),B (l1 lw),B (l2 lw),B (l3 lw)] 45)).alloc (Obj.cells z17 253)) w')
 case first=>
  have r0:∀ w',Below (((w.alloc (Obj.cells #[B (l0 hg),B (l1 hg),B (l2 hg),B (l3 hg)] 45)).alloc (Obj.cells #[B (l0 lw),B (l1 lw),B (l2 lw),B (l3 lw)] 45)).alloc (Obj.cells z17 253)).heap.size (((w.alloc (Obj.cells #[B (l0 hg),B (l1 hg),B (l2 hg),B (l3 hg)] 45)).alloc (Obj.cells #[B (l0 lw),B (l1 lw),B (l2 lw),B (l3 lw)] 45)).alloc (Obj.cells z17 253)) w'→zb w' w.heap.size #[B (l0 hg),B (l1 hg),B (l2 hg),B (l3 hg)]:=fun w' hb=>(zb.old (zb.old (zb.last rfl))).below hb
  have r1:∀ w',Below (((w.alloc (Obj.cells #[B (l0 hg),B (l1 hg),B (l2 hg),B (l3 hg)] 45)).alloc (Obj.cells #[B (l0 lw),B (l1 lw),B (l2 lw),B (l3 lw)] 45)).alloc (Obj.cells z17 253)).heap.size (((w.alloc (Obj.cells #[B (l0 hg),B (l1 hg),B (l2 hg),B (l3 hg)] 45)).alloc (Obj.cells #[B (l0 lw),B (l1 lw),B (l2 lw),B (l3 lw)] 45)).alloc (Obj.cells z17 253)) w'→zb w' (w.heap.size+1) #[B (l0 lw),B (l1 lw),B (l2 lw),B (l3 lw)]:=fun w' hb=>(zb.old (zb.last (by simp))).below hb
  generalize (((w.alloc (Obj.cells #[B (l0 hg),B (l1 hg),B (l2 hg),B (l3 hg)] 45)).alloc (Obj.cells #[B (l0 lw),B (l1 lw),B (l2 lw),B (l3 lw)] 45)).alloc (Obj.cells z17 253))=W0 at *;refine kr (by kernel_rfl) (by kernel_rfl) (by kernel_rfl) (CM W0 hg lw k ov hv0 lo md) ?_ ?_ ?_
  ·refine⟨(Below.refl _ _).drew,?_,?_,?_,?_,?_,?_,?_,?_,?_⟩<;>(intro h;simp[Array.getD]at h)
  ·intro za vs a' w' i o hs ho hi hF cc;have hi9:i<9:=by have:=(Array.getElem?_eq_some_iff.1 ho).1;simpa using this
   have hcase:i=0∨i=1∨i=2∨i=3∨i=4∨i=5∨i=6∨i=7∨i=8:=by omega
   rcases hcase with rfl|rfl|rfl|rfl|rfl|rfl|rfl|rfl|rfl
   ·simp at ho;subst ho;have T:=dTz za 0;have S:=dSz za 0;refine wp_rowF 45 (.tmp 3) rfl w.heap.size ((hF.old (by kernel_rfl)).trans rfl) (r0 w' cc.b) rfl underlying45 (by kernel_rfl) ⟨_,rfl,⟨cc.b,fun _=>rfl,uz cc.c1,uz cc.c2,uz cc.c3,uz cc.c4,uz cc.c5,uz cc.c6,fun h=>by obtain⟨g,c,e,h1,h2,h3,h4⟩:=cc.c7 (T 7 (by decide) h);exact⟨g,c,e,h1,h2,h3,fun h6=>h4 (T 8 (by decide) h6)⟩,fun h=>S 7 (cc.c87 (T 8 (by decide) h))⟩⟩
   ·simp at ho;subst ho;have T:=dTz za 1;have S:=dSz za 1;have hv:a'.eval (.tmp 2)=B k:=(hF.old (by kernel_rfl)).trans rfl;refine zt (v:=B k) (w1:=w') (by simp[execOp,go_sem,ev hv]) ⟨_,rfl,⟨cc.b,uz cc.c0,fun _=>rfl,uz cc.c2,uz cc.c3,uz cc.c4,uz cc.c5,uz cc.c6,fun h=>by obtain⟨g,c,e,h1,h2,h3,h4⟩:=cc.c7 (T 7 (by decide) h);exact⟨g,c,e,h1,h2,h3,fun h6=>h4 (T 8 (by decide) h6)⟩,fun h=>S 7 (cc.c87 (T 8 (by decide) h))⟩⟩
   ·simp at ho;subst ho;have T:=dTz za 2;have S:=dSz za 2;have hv1:=(nwz hF 16 0 2 hi cc.c0)
    have hv2:=(nwz hF 17 1 2 hi cc.c1)
    refine qm (f:=274) (args:=#[U hg,B k]) (v:=U hv0) (by simp[execOp_call_go,ev hv1,ev hv2,go_sem]) (s1.out w') ?_;intro w'' hb'';exact⟨_,rfl,⟨cc.b.trans (hb''.mono cc.b.size),uz cc.c0,uz cc.c1,fun _=>rfl,uz cc.c3,uz cc.c4,uz cc.c5,uz cc.c6,fun h=>by obtain⟨g,c,e,h1,h2,h3,h4⟩:=cc.c7 (T 7 (by decide) h);exact⟨g,c,e,h1,h2.below hb'',h3,fun h6=>h4 (T 8 (by decide) h6)⟩,fun h=>S 7 (cc.c87 (T 8 (by decide) h))⟩⟩
   ·simp at ho;subst ho;have T:=dTz za 3;have S:=dSz za 3;refine wp_rowF 45 (.tmp 4) rfl (w.heap.size+1) ((hF.old (by kernel_rfl)).trans rfl) (r1 w' cc.b) rfl underlying45 (by kernel_rfl) ⟨_,rfl,⟨cc.b,uz cc.c0,uz cc.c1,uz cc.c2,fun _=>rfl,uz cc.c4,uz cc.c5,uz cc.c6,fun h=>by obtain⟨g,c,e,h1,h2,h3,h4⟩:=cc.c7 (T 7 (by decide) h);exact⟨g,c,e,h1,h2,h3,fun h6=>h4 (T 8 (by decide) h6)⟩,fun h=>S 7 (cc.c87 (T 8 (by decide) h))⟩⟩
   ·simp at ho;subst ho;have T:=dTz za 4;have S:=dSz za 4;have hv:a'.eval (.tmp 7)=B ov:=(hF.old (by kernel_rfl)).trans rfl;refine zt (v:=B ov) (w1:=w') (by simp[execOp,go_sem,ev hv]) ⟨_,rfl,⟨cc.b,uz cc.c0,uz cc.c1,uz cc.c2,uz cc.c3,fun _=>rfl,uz cc.c5,uz cc.c6,fun h=>by obtain⟨g,c,e,h1,h2,h3,h4⟩:=cc.c7 (T 7 (by decide) h);exact⟨g,c,e,h1,h2,h3,fun h6=>h4 (T 8 (by decide) h6)⟩,fun h=>S 7 (cc.c87 (T 8 (by decide) h))⟩⟩
   ·simp at ho;subst ho;have T:=dTz za 5;have S:=dSz za 5;have hv1:=(nwz hF 19 3 5 hi cc.c3)
    have hv2:=(nwz hF 20 4 5 hi cc.c4)
    refine qm (f:=275) (args:=#[U lw,B ov]) (v:=U lo) (by simp[execOp_call_go,ev hv1,ev hv2,go_sem]) (s2.out w') ?_;intro w'' hb'';exact⟨_,rfl,⟨cc.b.trans (hb''.mono cc.b.size),uz cc.c0,uz cc.c1,uz cc.c2,uz cc.c3,uz cc.c4,fun _=>rfl,uz cc.c6,fun h=>by obtain⟨g,c,e,h1,h2,h3,h4⟩:=cc.c7 (T 7 (by decide) h);exact⟨g,c,e,h1,h2.below hb'',h3,fun h6=>h4 (T 8 (by decide) h6)⟩,fun h=>S 7 (cc.c87 (T 8 (by decide) h))⟩⟩
   ·simp at ho;subst ho;have T:=dTz za 6;have S:=dSz za 6;have hv1:=(nwz hF 18 2 6 hi cc.c2)
    have hv2:=(nwz hF 21 5 6 hi cc.c5)
    refine qm (f:=269) (args:=#[U hv0,U lo]) (v:=U md) (by simp[execOp_call_go,ev hv1,ev hv2,go_sem]) (s3.out w') ?_;intro w'' hb'';exact⟨_,rfl,⟨cc.b.trans (hb''.mono cc.b.size),uz cc.c0,uz cc.c1,uz cc.c2,uz cc.c3,uz cc.c4,uz cc.c5,fun _=>rfl,fun h=>by obtain⟨g,c,e,h1,h2,h3,h4⟩:=cc.c7 (T 7 (by decide) h);exact⟨g,c,e,h1,h2.below hb'',h3,fun h6=>h4 (T 8 (by decide) h6)⟩,fun h=>S 7 (cc.c87 (T 8 (by decide) h))⟩⟩
   ·simp at ho;subst ho;have T:=dTz za 7;have S:=dSz za 7;have hun:¬ za.getD 7 false=true:=fun h=>ya hi hs h
    refine zt (v:=.pointer (some ⟨w'.heap.size,0,none⟩)) (w1:=w'.alloc (.cells #[.int .u64 0,.int .u64 0,.int .u64 0,.int .u64 0] 45)) (by simp[execOp,go_sem]) ⟨_,rfl,⟨cc.b.alloc cc.b.size _,uz cc.c0,uz cc.c1,uz cc.c2,uz cc.c3,uz cc.c4,uz cc.c5,uz cc.c6,fun _=>⟨w'.heap.size,#[.int .u64 0,.int .u64 0,.int .u64 0,.int .u64 0],rfl,cc.b.size,zb.last rfl,rfl,fun h6=>absurd (cc.c87 (T 8 (by decide) h6)) hun⟩,fun h=>S 7 (cc.c87 (T 8 (by decide) h))⟩⟩
   ·simp at ho;subst ho;have T:=dTz za 8;have S:=dSz za 8;have d7:=(zg (i:=8) (j:=7) (by kernel_rfl) hi)
    obtain⟨g,c,e,h1,h2,h3,h4⟩:=cc.c7 d7;have hx:=(hF.new (t:=8) (i:=7) (by kernel_rfl) (by simp) d7).trans e;have hv:=(nwz hF 22 6 8 hi cc.c6)
    refine zb5 45 (.tmp 8) (.tmp 22) rfl g (c':=#[B (l0 md),B (l1 md),B (l2 md),B (l3 md)]) hx hv h2 h3 rfl (by simp[Value.oneCell']) (by kernel_rfl) ⟨_,rfl,⟨zf cc.b h1 _,uz cc.c0,uz cc.c1,uz cc.c2,uz cc.c3,uz cc.c4,uz cc.c5,uz cc.c6,fun h=>⟨g,_,e,h1,h2.set_same _,rfl,fun _=>rfl⟩,fun _=>S 7 d7⟩⟩
  ·intro za vs a' w' hd hF cc;have e:a'=({ tmps:=#[U hg,U lw,B k,.pointer (some ⟨w.heap.size,0,none⟩),.pointer (some ⟨w.heap.size+1,0,none⟩),undef,.pointer (some ⟨w.heap.size+1+1,0,none⟩),B ov,vs 7,undef,undef,undef,undef,undef,B k,B ov,vs 0,vs 1,vs 2,vs 3,vs 4,vs 5,vs 6,undef,undef,undef,undef,undef,undef,undef,undef,undef,undef,undef,undef,undef,undef,undef,undef,undef,undef,undef,undef,undef,undef,undef,undef,undef,undef,undef,undef,undef,undef],defers:=[] }:Act):=(hF.all hd).trans (by kernel_rfl);subst e;obtain⟨g,c,e4,h1,h2,h3,h4⟩:=cc.c7 (hd 7 (by simp))
   have HH:Hid (vs 7=.pointer (some ⟨g,0,none⟩)∧zb w' g #[B (l0 md),B (l1 md),B (l2 md),B (l3 md)]∧Below W0.heap.size W0 w'):=⟨e4,h4 (hd 8 (by simp)) ▸ h2,cc.b⟩
   clear e4 h1 h2 h3 h4 cc hd r0 r1 hF
   go_wp2_with fail
   go_meet
   case rel=>
    obtain⟨e4,h2,hb⟩:=HH.out;exact⟨g,e4,h2,hb⟩
 case rest=>
  obtain⟨bm,rfl,hm,hbel⟩:=hcut;have R0:Hid (zb wc w.heap.size #[B (l0 hg),B (l1 hg),B (l2 hg),B (l3 hg)]):=(zb.old (zb.old (zb.last rfl))).below hbel;have R1:Hid (zb wc (w.heap.size+1) #[B (l0 lw),B (l1 lw),B (l2 lw),B (l3 lw)]):=(zb.old (zb.last (by simp))).below hbel;have R2:Hid (zb wc (w.heap.size+1+1) z17):=(zb.last (by simp)).below hbel;have Rm:Hid (zb wc bm #[B (l0 md),B (l1 md),B (l2 md),B (l3 md)]):=hm;have HO:Hid (Below w.heap.size w wc):=qo (by(repeat(first|exact Below.refl _ _|refine zj ?_ _))) hbel
  have q1:w.heap.size+1<wc.heap.size:=R1.out.lt;have g10:wc.cell? ⟨w.heap.size+1,0,none⟩=some (B (l0 lw)):=R1.out.cell 0;have g11:wc.cell? ⟨w.heap.size+1,1,none⟩=some (B (l1 lw)):=R1.out.cell 1;have g12:wc.cell? ⟨w.heap.size+1,2,none⟩=some (B (l2 lw)):=R1.out.cell 2;have g13:wc.cell? ⟨w.heap.size+1,3,none⟩=some (B (l3 lw)):=R1.out.cell 3;clear hbel hm;have hq:w.heap.size+1+1<wc.heap.size:=R2.out.lt;have hq2:bm<wc.heap.size:=Rm.out.lt
  go_wp2_with fail
  refine(s4.out _).mono ?_;rintro e w1 ⟨rfl,hb1⟩;have F1:Hid (SF w w1 wc.heap.size bm hg md (fun _=>0)):=⟨(zb.last rfl).below hb1,(zb.old R0.out).below hb1,(zb.old R2.out).below hb1,(zb.old Rm.out).below hb1,qo (zj HO.out _) hb1⟩
  clear R0 R1 R2 Rm HO g10 g11 g12 g13 hb1 q1;generalize wc.heap.size=bo at *;clear wc
  go_wp2_with fail
  refine(s5.out _).mono ?_;rintro e w2 ⟨rfl,hb2⟩;have F2:Hid _:=F1.out.call hb2;clear F1 hb2
  go_wp2
  go_loopw [27] (fun i w'=>∃(j:Nat) (f:Nat→Nat),j≤8∧i=.int .i64 (j:Int)∧SF w w' bo bm hg md f∧(∀ i,i<j→f i=X i)) (fun i _=>8-(intOf i).toNat)
  case atStart=>exact⟨0,fun _=>0,by omega,rfl,F2.out,fun i hi=>by omega⟩
  case round=>
   obtain⟨j,f,hj,rfl,hS,hP⟩:=hrel;have HS:Hid _:=hS;have HP:Hid _:=hP;clear hP F2;by_cases hlt:j<8
   ·have hi:=run_idx8 X j hlt (.int .i64 (j:Int)) rfl;have hc:=hS.o.cell j;rw[yd,if_pos (by omega)]at hc;have hl:=hS.o.lt;have hz:=hS.o.frozen j;clear hS
    go_wp2
    go_roundw
    case rel=>exact⟨j+1,upd f j (X j),by omega,by go_num,HS.out.put hq hq2 j (X j),fun i hi=>by
      by_cases h:i=j
      ·subst h;rw[zbh]
      ·rw[yq _ _ _ h];exact HP.out i (by omega)⟩
    case measure=>simp[intOf];omega
   ·have hj8:j=8:=by omega
    subst hj8;have g0:=hS.m.cell 0;have g1:=hS.m.cell 1;have g2:=hS.m.cell 2;have g3:=hS.m.cell 3;simp at g0 g1 g2 g3;clear hS
    go_wp2_with fail
    refine(s6.out _).mono ?_;rintro e w3 ⟨rfl,hb3⟩;have F3:Hid _:=HS.out.call hb3;clear HS hb3 g0 g1 g2 g3
    go_wp2
    go_loopw [37] (fun i w'=>∃(j:Nat) (f:Nat→Nat),j≤8∧i=.int .i64 (j:Int)∧SF w w' bo bm hg md f∧(∀ i,i<8→f i=X i)∧(∀ i,i<j→f (8+i)=Y i)) (fun i _=>8-(intOf i).toNat)
    case atStart=>exact⟨0,f,by omega,rfl,F3.out,HP.out,fun i hi=>by omega⟩
    case round=>
     obtain⟨j,f,hj,rfl,hS,hP1,hP2⟩:=hrel;have HS:Hid _:=hS;have HP1:Hid _:=hP1;have HP2:Hid _:=hP2;clear hP1 hP2 F3 HP;by_cases hlt:j<8
     ·have hi:=run_idx8 Y j hlt (.int .i64 (j:Int)) rfl;have hc:=hS.o.cell (8+j);rw[yd,if_pos (by omega)]at hc;have hl:=hS.o.lt;have hz:=hS.o.frozen (8+j);clear hS
      go_wp2
      go_roundw
      case rel=>exact⟨j+1,upd f (8+j) (Y j),by omega,by go_num,HS.out.put hq hq2 (8+j) (Y j),fun i hi=>by rw[yq _ _ _ (by omega)];exact HP1.out i hi,fun i hi=>by
        by_cases h:i=j
        ·subst h;rw[zbh]
        ·rw[yq _ _ _ (by omega)];exact HP2.out i (by omega)⟩
      case measure=>simp[intOf];omega
     ·have hj8:j=8:=by omega
      subst hj8;have g0:=hS.h.cell 0;have g1:=hS.h.cell 1;have g2:=hS.h.cell 2;have g3:=hS.h.cell 3;simp at g0 g1 g2 g3;clear hS
      go_wp2_with fail
      refine(s7.out _).mono ?_;rintro e w4 ⟨rfl,hb4⟩;have F4:Hid _:=HS.out.call hb4;clear HS hb4 g0 g1 g2 g3
      go_wp2_with fail
      refine(s8.out _).mono ?_;rintro e w5 ⟨rfl,hb5⟩;have F5:Hid _:=F4.out.call hb5;clear F4 hb5;have hi:=run_idx8 Z 0 (by omega) (.int .i64 0) rfl;have hc:=F5.out.o.cell 16;rw[yd,if_pos (by omega)]at hc;have hl:=F5.out.o.lt;have hz:=F5.out.o.frozen 16
      go_upto_region 15 with fail
      have E:w5.setCell ⟨bo,16,none⟩ (.int .u32 (Z 0:Nat))=w5.setCell ⟨bo,16,none⟩ (.int .u32 (Z 0:Nat)):=rfl;have F6:=F5.out.put hq hq2 16 (Z 0);generalize w5.setCell ⟨bo,16,none⟩ (.int .u32 (Z 0:Nat))=w6 at *;refine wp_region_lit ?_;refine y6 rfl 253 (.tmp 9) rfl bo rfl .u32 17 _ F6.o underlying253 (by kernel_rfl) ?_;intro v hv;have hsz:=hv.size;have hsc:=zu (P:=prog) hv (g:=w.heap.size+1+1) 253 (by kernel_rfl) (yg.row F6.r rfl);have F7:Hid _:=F6;clear hv F6 F5 hc hi E hz
      go_wp2
      refine bodyPost_ret (v:=L17 (upd f 16 (Z 0))) (yr (p:=6) (ty:=253) rfl (g:=w.heap.size+1+1) rfl (F7.out.r.set_same _) (yj _ _ _) underlying253 (by kernel_rfl)) rfl ⟨⟨upd f 16 (Z 0),fun i hi=>by rw[yq _ _ _ (by omega)];exact HP1.out i hi,fun i hi=>by rw[yq _ _ _ (by omega)];exact HP2.out i hi,zbh _ _ _,rfl⟩,zf F7.out.b (by omega) _⟩
end
section
attribute [local go_sem] yy
theorem two_lt{f1 f0:Nat}(h1:f1<D)(h0:f0<D):f1*D+f0<M:=by unfold D M at *;omega
theorem guess_num{f1 f0 g:Nat}(h1:f1<D)(h0:f0<D)(hg:0<g)(hgD:g<D) :
  min (IntKind.u64.wrap ((bits BinOp.or IntKind.u64 (IntKind.u64.wrap (IntKind.u64.wrap (f1:Int)*4294967296)) (IntKind.u64.wrap (f0:Int))).tdiv (IntKind.u64.wrap (g:Int)))) 4294967295=((min ((f1*D+f0)/g) (D-1):Nat):Int):=by
 have e1:IntKind.u64.wrap (IntKind.u64.wrap (f1:Int)*4294967296)=((f1*D:Nat):Int):=by simp only[IntKind.wrap_u64];unfold D at *;omega
 have e0:IntKind.u64.wrap (f0:Int)=(f0:Int):=by simp only[IntKind.wrap_u64];unfold D at *;omega
 have eg:IntKind.u64.wrap (g:Int)=(g:Int):=by simp only[IntKind.wrap_u64];unfold D at *;omega
 have hM1:f1*D<M:=by unfold D M at *;omega
 have hM0:f0<M:=by unfold D M at *;omega
 have hlt:=two_lt h1 h0;rw[e1,e0,eg,ke (f1*D) f0 hM1 hM0];have h0':f0<2^32:=h0;have e2:=Nat.two_pow_add_eq_or_of_lt h0' f1;have eD:D=2^32:=by decide
 have e:f1*D ||| f0=f1*D+f0:=by rw[Nat.mul_comm,eD];exact e2.symm
 rw[e,Int.tdiv_eq_ediv_of_nonneg (Int.natCast_nonneg _),show((f1*D+f0:Nat):Int)/(g:Int)=(((f1*D+f0)/g:Nat):Int)from rfl];have hq:(f1*D+f0)/g≤f1*D+f0:=Nat.div_le_self _ _;generalize (f1*D+f0)/g=q at *;generalize f1*D+f0=r at *;clear e2 eD h0' e hM1 hM0 e1 e0;have ew:IntKind.u64.wrap (q:Int)=(q:Int):=by simp only[IntKind.wrap_u64];unfold M at *;omega
 rw[ew];unfold D;omega
theorem guess_raw(f g:Nat→Nat)(k m:Nat)(hn:m<8)(hk:k+(m+1)<17)(hf1:f (k+(m+1))<D)(hf0:f (k+m)<D)(hg:0<g m)(hgD:g m<D)(w:World) :
  Calls prog 315 #[L17 f,L8 g,.int .i64 (k:Int),.int .i64 ((m+1:Nat):Int)] w fun e w'=>
   e=.returned (B (min ((f (k+(m+1))*D+f (k+m))/g m) (D-1)))∧Below w.heap.size w w':=by
 have GN:Hid _:=guess_num hf1 hf0 hg hgD;have hgz:¬ IntKind.u64.wrap (g m:Int)=0:=by simp only[IntKind.wrap_u64];unfold D at hgD;omega
 clear hg hgD hf1 hf0;have hc1:(ag .u32 17 f)[k+(m+1)]? = some (.int .u32 (f (k+(m+1)):Nat)):=by rw[yd,if_pos (by omega)]
 have hc2:(ag .u32 17 f)[k+m]? = some (.int .u32 (f (k+m):Nat)):=by rw[yd,if_pos (by omega)]
 have hc3:(ag .u32 8 g)[m]? = some (.int .u32 (g m:Nat)):=by rw[yd,if_pos (by omega)]
 go_enter func315,ntmps315
 go_wp2
 refine xz _ ?_;intro wF hF;have c1:wF.cell? ⟨w.heap.size,k+(m+1),none⟩=some (.int .u32 (f (k+(m+1)):Nat)):=by rw[hF];go_simp
 have c2:wF.cell? ⟨w.heap.size,k+m,none⟩=some (.int .u32 (f (k+m):Nat)):=by rw[hF];go_simp
 have c3:wF.cell? ⟨w.heap.size+1,m,none⟩=some (.int .u32 (g m:Nat)):=by rw[hF];go_simp
 have hBF:Below w.heap.size w wF:=by rw[hF]; (repeat(first|exact Below.refl _ _|apply Below.drew|refine zj ?_ _))
 clear hF hc1 hc2 hc3;replace c1:=cell_regrown c1;replace c2:=cell_regrown c2;replace c3:=cell_regrown c3;refine wp_region_quiet_below (by kernel_rfl) (by kernel_rfl) ?_
 repeat(go_big_quiet_step (fail))
 refine wpQuiet_nil ?_;intro _ hw';obtain⟨⟨dq,osq⟩,hw''⟩:=hw';subst hw''
 go_wp2
 refine bodyPost_ret (v:=B (min ((f (k+(m+1))*D+f (k+m))/g m) (D-1))) ?_ rfl ⟨rfl,qo hBF (below_regrown wF dq osq)⟩;simp only[results,results315];simp[go_sem];exact GN.out
end
theorem W_two:W=2^256:=by decide +kernel
theorem shl_split(x k:Nat)(hk:k≤256):x*2^k/W=x/2^(256-k):=by
 have e:W=2^(256-k)*2^k:=by rw[← Nat.pow_add,show 256-k+k=256 by omega,W_two]
 rw[e,Nat.mul_div_mul_right _ _ (Nat.two_pow_pos k)]
theorem mid_or(high low k:Nat)(hl:low<W)(hk:k≤256):shlW high k ||| vw low (256-k)=high*2^k%W+low/2^(256-k):=by
 unfold shlW vw;have hlt:low/2^(256-k)<2^k:=by
  refine Nat.div_lt_of_lt_mul ?_;rw[← Nat.pow_add,show 256-k+k=256 by omega,← W_two];exact hl
 have e:high*2^k%W=2^k*(high%2^(256-k)):=by
  have e:W=2^(256-k)*2^k:=by rw[← Nat.pow_add,show 256-k+k=256 by omega,W_two]
  rw[e,Nat.mul_mod_mul_right,Nat.mul_comm]
 rw[e,← Nat.two_pow_add_eq_or_of_lt hlt]
theorem shifted_any(high low k:Nat)(hh:high<W)(hl:low<W)(hk:k<32)(w:World) :
  Calls prog 314 #[U high,U low,B k] w fun e w'=>
   (∃ f:Nat→Nat,((∀ i,i<17→f i<D)∧vl f 0 17=(high*W+low)*2^k)∧e=.returned (L17 f))∧Below w.heap.size w w':=by
 have hm:=mid_or high low k hl (by omega);have hmW:shlW high k ||| vw low (256-k)<W:=by
  have h1:=shlW_lt high k;have h2:=shrW_lt low (256-k) hl;rw[W_two]at *;exact Nat.or_lt_two_pow h1 h2
 refine(shifted_raw high low k (256-k) (shlW high k) (vw low (256-k)) (shlW high k ||| vw low (256-k)) (shlW low k) (vw high (256-k)) (dg (shlW low k)) (dg (shlW high k ||| vw low (256-k))) (dg (vw high (256-k)))
  (by simp only[IntKind.wrap_u64];omega) (shl_any high k hh) (shr_any low (256-k) hl) (or_any _ _) (shl_any low k hl) (za5 _) (za5 _) (shr_any high (256-k) hh) (za5 _) w).mono ?_
 rintro e w' ⟨⟨f,h1,h2,h3,rfl⟩,hb⟩;refine⟨⟨f,⟨fun i hi=>?_,?_⟩,rfl⟩,hb⟩
 ·rcases Nat.lt_or_ge i 8 with h|h
  ·rw[h1 i h];exact dg_lt _ _
  ·rcases Nat.lt_or_ge i 16 with h'|h'
   ·have:=h2 (i-8) (by omega);rw[show 8+(i-8)=i by omega]at this;rw[this];exact dg_lt _ _
   ·rw[show i=16 by omega,h3];exact dg_lt _ _
 ·have e1:vl f 0 8=shlW low k:=by
   rw[zci (g:=dg (shlW low k)) (fun i hi=>by rw[Nat.zero_add];exact h1 i hi)];exact zd6 (by rw[← W_D];exact shlW_lt _ _)
  have e2:vl f 8 8=shlW high k ||| vw low (256-k):=by
   rw[← zd6 (x:=shlW high k ||| vw low (256-k)) (n:=8) (by rw[← W_D];exact hmW)];have:∀ n,n≤8→vl f 8 n=vl (dg (shlW high k ||| vw low (256-k))) 0 n:=by
    intro n
    induction n with
    | zero=>intro _;rfl
    | succ n ih=>intro hn;rw[vl,vl,ih (by omega),h2 n (by omega),Nat.zero_add]
   exact this 8 (Nat.le_refl _)
  have hH:vw high (256-k)<2^k:=by
   unfold vw;refine Nat.div_lt_of_lt_mul ?_;rw[← Nat.pow_add,show 256-k+k=256 by omega,← W_two];exact hh
  have hkD:2^k<D:=by
   have:2^k<2^32:=Nat.pow_lt_pow_right (by decide) hk;exact this
  have e3:f 16=vw high (256-k):=by
   rw[h3];unfold dg;rw[Nat.pow_zero,Nat.div_one,Nat.mod_eq_of_lt (by omega)]
  have s1:vl f 0 17=vl f 0 8+D^8*vl f 8 9:=zac f 0 8 9;have s2:vl f 8 9=vl f 8 8+f 16*D^8:=rfl;rw[s1,s2,e1,e2,e3,hm,← W_D];unfold shlW vw;rw[← shl_split high k (by omega),← shl_split low k (by omega)];have d1:=Nat.div_add_mod (low*2^k) W;have d2:=Nat.div_add_mod (high*2^k) W;have goal:(high*W+low)*2^k=W*(high*2^k)+low*2^k:=by rw[Nat.add_mul,Nat.mul_comm high W,Nat.mul_assoc]
  rw[goal];generalize low*2^k=L,high*2^k=H at *;generalize L/W=a,L%W=b,H/W=c,H%W=d at *;clear goal e1 e2 e3 s1 s2 hm hmW h1 h2 h3 hH hkD hb;subst d1;subst d2;generalize W=V;rw[Nat.mul_add,Nat.mul_add,Nat.mul_add,Nat.mul_comm c V];omega
section
attribute [local go_sem] yy
abbrev z16:Array Value:=#[.int .u32 0,.int .u32 0,.int .u32 0,.int .u32 0,.int .u32 0,.int .u32 0,.int .u32 0,.int .u32 0,.int .u32 0,.int .u32 0,.int .u32 0,.int .u32 0,.int .u32 0,.int .u32 0,.int .u32 0,.int .u32 0]
abbrev z8:Array Value:=#[.int .u32 0,.int .u32 0,.int .u32 0,.int .u32 0,.int .u32 0,.int .u32 0,.int .u32 0,.int .u32 0]
theorem num_mac{c x y f:Nat}(hc:c<D)(hx:x<D)(hy:y<D)(hf:f<D) :
  IntKind.u64.wrap ((c:Int)+IntKind.u64.wrap (IntKind.u64.wrap (IntKind.u64.wrap (x:Int)*IntKind.u64.wrap (y:Int))+IntKind.u64.wrap (f:Int)))=((c+(x*y+f):Nat):Int)∧(c+(x*y+f))/D<D:=by
 have h:=digit_mul hx hy;have e1:IntKind.u64.wrap (x:Int)=(x:Int):=by simp only[IntKind.wrap_u64];unfold D at *;omega
 have e2:IntKind.u64.wrap (y:Int)=(y:Int):=by simp only[IntKind.wrap_u64];unfold D at *;omega
 rw[e1,e2,show(x:Int)*(y:Int)=((x*y:Nat):Int) by simp];generalize x*y=p at *;simp only[IntKind.wrap_u64];unfold D at *;refine⟨by omega,by omega⟩
structure MK (f0 f' X Y:Nat→Nat) (j l c:Nat):Prop where
 hc:c<D
 hf:∀ i,i<16→f' i<D
 ho:∀ i,i<j∨j+l≤i→f' i=f0 i
 hv:vl f' j l+c*D^l=vl f0 j l+X j*vl Y 0 l
theorem MK.start{f X Y:Nat→Nat}{j:Nat}(hf:∀ i,i<16→f i<D):MK f f X Y j 0 0:=⟨zat,hf,fun _ _=>rfl,by simp[vl]⟩
theorem MK.step{f0 f' X Y:Nat→Nat}{j l c:Nat}(h:MK f0 f' X Y j l c)(hc':(c+(X j*Y l+f' (j+l)))/D<D) :
  MK f0 (upd f' (j+l) ((c+(X j*Y l+f' (j+l)))%D)) X Y j (l+1) ((c+(X j*Y l+f' (j+l)))/D) where
 hc:=hc'
 hf:=upd_lt h.hf (Nat.mod_lt _ zat)
 ho i hi:=by rw[yq _ _ _ (by omega)];exact h.ho i (by omega)
 hv:=by
  have e0:=h.ho (j+l) (by omega);have hv:=h.hv;rw[zag,vl,vl,Nat.zero_add,Nat.pow_succ,← e0];have hm:=Nat.div_add_mod (c+(X j*Y l+f' (j+l))) D;generalize (c+(X j*Y l+f' (j+l)))/D=c',(c+(X j*Y l+f' (j+l)))%D=r,D^l=Pw at *;have e1:vl f' j l+r*Pw+c'*(Pw*D)=vl f' j l+(D*c'+r)*Pw:=by grind
  rw[e1,hm];have e2:vl f' j l+(c+(X j*Y l+f' (j+l)))*Pw=(vl f' j l+c*Pw)+(X j*Y l+f' (j+l))*Pw:=by grind
  rw[e2,hv];grind
structure OK (f X Y:Nat→Nat) (j:Nat):Prop where
 hf:∀ i,i<16→f i<D
 hz:∀ i,j+8≤i→f i=0
 hv:vl f 0 (j+8)=vl X 0 j*vl Y 0 8
theorem OK.start(X Y:Nat→Nat):OK (fun _=>0) X Y 0:=⟨fun _ _=>zat,fun _ _=>rfl,by rw[zaa (fun _ _=>rfl)];simp[vl]⟩
theorem OK.step{f f' X Y:Nat→Nat}{j c:Nat}(h:OK f X Y j)(hj:j<8)(hm:MK f f' X Y j 8 c):OK (upd f' (j+8) c) X Y (j+1) where
 hf:=upd_lt hm.hf hm.hc
 hz i hi:=by rw[yq _ _ _ (by omega),hm.ho i (by omega),h.hz i (by omega)]
 hv:=by
  have e1:vl (upd f' (j+8) c) 0 (j+1+8)=vl (upd f' (j+8) c) 0 j+D^j*vl (upd f' (j+8) c) j 9:=by
   rw[show j+1+8=j+9 by omega,zac,Nat.zero_add]
  have e2:vl (upd f' (j+8) c) 0 j=vl f 0 j:=zci fun i hi=>by rw[yq _ _ _ (by omega),hm.ho _ (by omega)]
  have e3:vl (upd f' (j+8) c) j 9=vl f' j 8+c*D^8:=zag f' j 8 c;have e4:=zac f 0 j 8;rw[Nat.zero_add,h.hv]at e4;have eX:vl X 0 (j+1)=vl X 0 j+X j*D^j:=by rw[vl,Nat.zero_add]
  rw[e1,e2,e3,hm.hv,Nat.mul_add,← Nat.add_assoc,← e4,eX];clear e1 e2 e3 e4 eX;generalize vl X 0 j=A;generalize vl Y 0 8=Bb;generalize D^j=Pw;generalize X j=x;clear hm h
  grind
structure CX (W0:World) (u0 u1:Value) (X Y:Nat→Nat) (za:Array Bool) (vs:Nat→Value) (w':World):Prop where
 b:Below W0.heap.size W0 w'
 c0:za.getD 0 false=true→vs 0=u0
 c1:za.getD 1 false=true→vs 1=L8 X
 c2:za.getD 2 false=true→vs 2=u1
 c3:za.getD 3 false=true→vs 3=L8 Y
 c4:za.getD 4 false=true→∃ g c,vs 4=.pointer (some ⟨g,0,none⟩)∧W0.heap.size≤g∧zb w' g c∧c.size=8∧(za.getD 6 false=true→c=ag .u32 8 X)
 c5:za.getD 5 false=true→∃ g c,vs 5=.pointer (some ⟨g,0,none⟩)∧W0.heap.size≤g∧zb w' g c∧c.size=8∧(za.getD 7 false=true→c=ag .u32 8 Y)
 c45:za.getD 4 false=true→za.getD 5 false=true→vs 4≠vs 5
 c64:za.getD 6 false=true→za.getD 4 false=true
 c75:za.getD 7 false=true→za.getD 5 false=true
structure CY (w:World) (bo r4 r5:Nat) (f:Nat→Nat) (hi lo:Nat) (za:Array Bool) (vs:Nat→Value) (w':World):Prop where
 b:Below w.heap.size w w'
 o:zb w' bo (ag .u32 16 f)
 c0:za.getD 0 false=true→vs 0=.slice (some ⟨bo,8,none⟩) 8 8
 c1:za.getD 1 false=true→vs 1=U hi
 c2:za.getD 2 false=true→vs 2=.slice (some ⟨bo,0,none⟩) 8 16
 c3:za.getD 3 false=true→vs 3=U lo
 c4:∃ c,zb w' r4 c∧c.size=4∧(za.getD 4 false=true→.agg c=U hi)
 c5:∃ c,zb w' r5 c∧c.size=4∧(za.getD 5 false=true→.agg c=U lo)
theorem wide_raw(a0 a1 a2 a3 b0 b1 b2 b3:Nat)(X Y:Nat→Nat)(hX:∀ i,i<8→X i<D)(hY:∀ i,i<8→Y i<D)(sa:Hid (∀ w,Calls prog 312 #[U4 a0 a1 a2 a3] w fun e w'=>e=.returned (L8 X)∧Below w.heap.size w w'))(sb:Hid (∀ w,Calls prog 312 #[U4 b0 b1 b2 b3] w fun e w'=>e=.returned (L8 Y)∧Below w.heap.size w w'))(w:World) :
  Calls prog 294 #[U4 a0 a1 a2 a3,U4 b0 b1 b2 b3] w fun e w'=>
   (∃ f,OK f X Y 8∧e=.returned (.tuple #[U (vl (fun i=>f (8+i)) 0 8),U (vl f 0 8)]))∧Below w.heap.size w w':=by
 have GX:Hid _:=hX;have GY:Hid _:=hY;clear hX hY
 go_enter func294,ntmps294
 go_wp2
 go_cut [6,7] (fun s6 s7 w'=>∃ bx by',s6=.pointer (some ⟨bx,0,none⟩)∧s7=.pointer (some ⟨by',0,none⟩)∧bx<w'.heap.size∧by'<w'.heap.size∧(∀ i,i<8→w'.cell? ⟨bx,i,none⟩=some (.int .u32 (X i:Nat)))∧(∀ i,i<8→w'.cell? ⟨by',i,none⟩=some (.int .u32 (Y i:Nat)))∧Old ((((w.alloc (Obj.cells #[B a0,B a1,B a2,B a3] 45)).alloc (Obj.cells #[B b0,B b1,B b2,B b3] 45)).alloc (Obj.cells #[.int .u64 0,.int .u64 0,.int .u64 0,.int .u64 0] 45)).alloc (Obj.cells #[.int .u64 0,.int .u64 0,.int .u64 0,.int .u64 0] 45)) w')
 case first=>
  have r0:∀ w',Below ((((w.alloc (Obj.cells #[B a0,B a1,B a2,B a3] 45)).alloc (Obj.cells #[B b0,B b1,B b2,B b3] 45)).alloc (Obj.cells #[.int .u64 0,.int .u64 0,.int .u64 0,.int .u64 0] 45)).alloc (Obj.cells #[.int .u64 0,.int .u64 0,.int .u64 0,.int .u64 0] 45)).heap.size ((((w.alloc (Obj.cells #[B a0,B a1,B a2,B a3] 45)).alloc (Obj.cells #[B b0,B b1,B b2,B b3] 45)).alloc (Obj.cells #[.int .u64 0,.int .u64 0,.int .u64 0,.int .u64 0] 45)).alloc (Obj.cells #[.int .u64 0,.int .u64 0,.int .u64 0,.int .u64 0] 45)) w'→zb w' w.heap.size #[B a0,B a1,B a2,B a3]:=fun w' hb=>(zb.old (zb.old (zb.old (zb.last rfl)))).below hb
  have r1:∀ w',Below ((((w.alloc (Obj.cells #[B a0,B a1,B a2,B a3] 45)).alloc (Obj.cells #[B b0,B b1,B b2,B b3] 45)).alloc (Obj.cells #[.int .u64 0,.int .u64 0,.int .u64 0,.int .u64 0] 45)).alloc (Obj.cells #[.int .u64 0,.int .u64 0,.int .u64 0,.int .u64 0] 45)).heap.size ((((w.alloc (Obj.cells #[B a0,B a1,B a2,B a3] 45)).alloc (Obj.cells #[B b0,B b1,B b2,B b3] 45)).alloc (Obj.cells #[.int .u64 0,.int .u64 0,.int .u64 0,.int .u64 0] 45)).alloc (Obj.cells #[.int .u64 0,.int .u64 0,.int .u64 0,.int .u64 0] 45)) w'→zb w' (w.heap.size+1) #[B b0,B b1,B b2,B b3]:=fun w' hb=>(zb.old (zb.old (zb.last (by simp)))).below hb
  generalize ((((w.alloc (Obj.cells #[B a0,B a1,B a2,B a3] 45)).alloc (Obj.cells #[B b0,B b1,B b2,B b3] 45)).alloc (Obj.cells #[.int .u64 0,.int .u64 0,.int .u64 0,.int .u64 0] 45)).alloc (Obj.cells #[.int .u64 0,.int .u64 0,.int .u64 0,.int .u64 0] 45))=W0 at *;refine kr (by kernel_rfl) (by kernel_rfl) (by kernel_rfl) (CX W0 (U4 a0 a1 a2 a3) (U4 b0 b1 b2 b3) X Y) ?_ ?_ ?_
  ·refine⟨(Below.refl _ _).drew,?_,?_,?_,?_,?_,?_,?_,?_,?_⟩<;>(intro h;simp[Array.getD]at h)
  ·intro za vs a' w' i o hs ho hi hF cc;have hi8:i<8:=by have:=(Array.getElem?_eq_some_iff.1 ho).1;simpa using this
   have hcase:i=0∨i=1∨i=2∨i=3∨i=4∨i=5∨i=6∨i=7:=by omega
   rcases hcase with rfl|rfl|rfl|rfl|rfl|rfl|rfl|rfl
   ·simp at ho;subst ho;have T:=dTz za 0;have S:=dSz za 0
    refine wp_rowF 45 (.tmp 2) rfl w.heap.size ((hF.old (by kernel_rfl)).trans rfl) (r0 w' cc.b) rfl underlying45 (by kernel_rfl) ⟨_,rfl,⟨cc.b,fun _=>rfl,uz cc.c1,uz cc.c2,uz cc.c3,fun h=>by obtain⟨g,c,e,h1,h2,h3,h4⟩:=cc.c4 (T 4 (by decide) h);exact⟨g,c,e,h1,h2,h3,fun h6=>h4 (T 6 (by decide) h6)⟩,fun h=>by obtain⟨g,c,e,h1,h2,h3,h4⟩:=cc.c5 (T 5 (by decide) h);exact⟨g,c,e,h1,h2,h3,fun h6=>h4 (T 7 (by decide) h6)⟩,fun h h'=>cc.c45 (T 4 (by decide) h) (T 5 (by decide) h'),fun h=>S 4 (cc.c64 (T 6 (by decide) h)),fun h=>S 5 (cc.c75 (T 7 (by decide) h))⟩⟩
   ·simp at ho;subst ho;have T:=dTz za 1;have S:=dSz za 1;have hv:=(nwz hF 12 0 1 hi cc.c0)
    refine qm (f:=312) (args:=#[U4 a0 a1 a2 a3]) (v:=L8 X) (by simp[execOp_call_go,ev hv,go_sem]) (sa.out w') ?_;intro w'' hb''
    exact⟨_,rfl,⟨cc.b.trans (hb''.mono cc.b.size),uz cc.c0,fun _=>rfl,uz cc.c2,uz cc.c3,fun h=>by obtain⟨g,c,e,h1,h2,h3,h4⟩:=cc.c4 (T 4 (by decide) h);exact⟨g,c,e,h1,h2.below hb'',h3,fun h6=>h4 (T 6 (by decide) h6)⟩,fun h=>by obtain⟨g,c,e,h1,h2,h3,h4⟩:=cc.c5 (T 5 (by decide) h);exact⟨g,c,e,h1,h2.below hb'',h3,fun h6=>h4 (T 7 (by decide) h6)⟩,fun h h'=>cc.c45 (T 4 (by decide) h) (T 5 (by decide) h'),fun h=>S 4 (cc.c64 (T 6 (by decide) h)),fun h=>S 5 (cc.c75 (T 7 (by decide) h))⟩⟩
   ·simp at ho;subst ho;have T:=dTz za 2;have S:=dSz za 2
    refine wp_rowF 45 (.tmp 3) rfl (w.heap.size+1) ((hF.old (by kernel_rfl)).trans rfl) (r1 w' cc.b) rfl underlying45 (by kernel_rfl) ⟨_,rfl,⟨cc.b,uz cc.c0,uz cc.c1,fun _=>rfl,uz cc.c3,fun h=>by obtain⟨g,c,e,h1,h2,h3,h4⟩:=cc.c4 (T 4 (by decide) h);exact⟨g,c,e,h1,h2,h3,fun h6=>h4 (T 6 (by decide) h6)⟩,fun h=>by obtain⟨g,c,e,h1,h2,h3,h4⟩:=cc.c5 (T 5 (by decide) h);exact⟨g,c,e,h1,h2,h3,fun h6=>h4 (T 7 (by decide) h6)⟩,fun h h'=>cc.c45 (T 4 (by decide) h) (T 5 (by decide) h'),fun h=>S 4 (cc.c64 (T 6 (by decide) h)),fun h=>S 5 (cc.c75 (T 7 (by decide) h))⟩⟩
   ·simp at ho;subst ho;have T:=dTz za 3;have S:=dSz za 3;have hv:=(nwz hF 14 2 3 hi cc.c2)
    refine qm (f:=312) (args:=#[U4 b0 b1 b2 b3]) (v:=L8 Y) (by simp[execOp_call_go,ev hv,go_sem]) (sb.out w') ?_;intro w'' hb''
    exact⟨_,rfl,⟨cc.b.trans (hb''.mono cc.b.size),uz cc.c0,uz cc.c1,uz cc.c2,fun _=>rfl,fun h=>by obtain⟨g,c,e,h1,h2,h3,h4⟩:=cc.c4 (T 4 (by decide) h);exact⟨g,c,e,h1,h2.below hb'',h3,fun h6=>h4 (T 6 (by decide) h6)⟩,fun h=>by obtain⟨g,c,e,h1,h2,h3,h4⟩:=cc.c5 (T 5 (by decide) h);exact⟨g,c,e,h1,h2.below hb'',h3,fun h6=>h4 (T 7 (by decide) h6)⟩,fun h h'=>cc.c45 (T 4 (by decide) h) (T 5 (by decide) h'),fun h=>S 4 (cc.c64 (T 6 (by decide) h)),fun h=>S 5 (cc.c75 (T 7 (by decide) h))⟩⟩
   ·simp at ho;subst ho;have T:=dTz za 4;have S:=dSz za 4;have hun:¬ za.getD 4 false=true:=fun h=>ya hi hs h
    refine zt (v:=.pointer (some ⟨w'.heap.size,0,none⟩)) (w1:=w'.alloc (.cells z8 246)) (by simp[execOp,go_sem]) ⟨_,rfl,⟨cc.b.alloc cc.b.size _,uz cc.c0,uz cc.c1,uz cc.c2,uz cc.c3,fun _=>⟨w'.heap.size,z8,rfl,cc.b.size,zb.last rfl,rfl,fun h6=>absurd (cc.c64 (T 6 (by decide) h6)) hun⟩,fun h=>by obtain⟨g,c,e,h1,h2,h3,h4⟩:=cc.c5 (T 5 (by decide) h);exact⟨g,c,e,h1,h2.old,h3,fun h6=>h4 (T 7 (by decide) h6)⟩,fun _ h=>by obtain⟨g,c,e,h1,h2,h3,h4⟩:=cc.c5 (T 5 (by decide) h);have:=h2.lt;show Value.pointer (some ⟨w'.heap.size,0,none⟩)≠vs 5;rw[e];intro q;simp at q;try omega,fun h=>S 4 (cc.c64 (T 6 (by decide) h)),fun h=>S 5 (cc.c75 (T 7 (by decide) h))⟩⟩
   ·simp at ho;subst ho;have T:=dTz za 5;have S:=dSz za 5;have hun:¬ za.getD 5 false=true:=fun h=>ya hi hs h
    refine zt (v:=.pointer (some ⟨w'.heap.size,0,none⟩)) (w1:=w'.alloc (.cells z8 246)) (by simp[execOp,go_sem]) ⟨_,rfl,⟨cc.b.alloc cc.b.size _,uz cc.c0,uz cc.c1,uz cc.c2,uz cc.c3,fun h=>by obtain⟨g,c,e,h1,h2,h3,h4⟩:=cc.c4 (T 4 (by decide) h);exact⟨g,c,e,h1,h2.old,h3,fun h6=>h4 (T 6 (by decide) h6)⟩,fun _=>⟨w'.heap.size,z8,rfl,cc.b.size,zb.last rfl,rfl,fun h6=>absurd (cc.c75 (T 7 (by decide) h6)) hun⟩,fun h _=>by obtain⟨g,c,e,h1,h2,h3,h4⟩:=cc.c4 (T 4 (by decide) h);have:=h2.lt;show vs 4≠Value.pointer (some ⟨w'.heap.size,0,none⟩);rw[e];intro q;simp at q;try omega,fun h=>S 4 (cc.c64 (T 6 (by decide) h)),fun h=>S 5 (cc.c75 (T 7 (by decide) h))⟩⟩
   ·simp at ho;subst ho;have T:=dTz za 6;have S:=dSz za 6;have d4:=(zg (i:=6) (j:=4) (by kernel_rfl) hi)
    obtain⟨g,c,e,h1,h2,h3,h4⟩:=cc.c4 d4;have hx:=(hF.new (t:=6) (i:=4) (by kernel_rfl) (by simp) d4).trans e;have hv:=(nwz hF 13 1 6 hi cc.c1)
    refine zb5 246 (.tmp 6) (.tmp 13) rfl g (c':=ag .u32 8 X) hx hv h2 h3 (yj _ _ _) (ag_one _ _ _) (by kernel_rfl) ⟨_,rfl,⟨zf cc.b h1 _,uz cc.c0,uz cc.c1,uz cc.c2,uz cc.c3,fun h=>⟨g,_,e,h1,h2.set_same _,yj _ _ _,fun _=>rfl⟩,fun h=>by obtain⟨g',c',e',k1,k2,k3,k4⟩:=cc.c5 (T 5 (by decide) h);exact⟨g',c',e',k1,k2.set_other _ (by rintro rfl;exact cc.c45 d4 (T 5 (by decide) h) (by rw[e,e'])),k3,fun h6=>k4 (T 7 (by decide) h6)⟩,fun h h'=>cc.c45 (T 4 (by decide) h) (T 5 (by decide) h'),fun _=>S 4 d4,fun h=>S 5 (cc.c75 (T 7 (by decide) h))⟩⟩
   ·simp at ho;subst ho;have T:=dTz za 7;have S:=dSz za 7;have d4:=(zg (i:=7) (j:=5) (by kernel_rfl) hi)
    obtain⟨g,c,e,h1,h2,h3,h4⟩:=cc.c5 d4;have hx:=(hF.new (t:=7) (i:=5) (by kernel_rfl) (by simp) d4).trans e;have hv:=(nwz hF 15 3 7 hi cc.c3)
    refine zb5 246 (.tmp 7) (.tmp 15) rfl g (c':=ag .u32 8 Y) hx hv h2 h3 (yj _ _ _) (ag_one _ _ _) (by kernel_rfl) ⟨_,rfl,⟨zf cc.b h1 _,uz cc.c0,uz cc.c1,uz cc.c2,uz cc.c3,fun h=>by obtain⟨g',c',e',k1,k2,k3,k4⟩:=cc.c4 (T 4 (by decide) h);exact⟨g',c',e',k1,k2.set_other _ (by rintro rfl;exact cc.c45 (T 4 (by decide) h) d4 (by rw[e,e'])),k3,fun h6=>k4 (T 6 (by decide) h6)⟩,fun h=>⟨g,_,e,h1,h2.set_same _,yj _ _ _,fun _=>rfl⟩,fun h h'=>cc.c45 (T 4 (by decide) h) (T 5 (by decide) h'),fun h=>S 4 (cc.c64 (T 6 (by decide) h)),fun _=>S 5 d4⟩⟩
  ·intro za vs a' w' hd hF cc
   have e:a'=({ tmps:=#[U4 a0 a1 a2 a3,U4 b0 b1 b2 b3,.pointer (some ⟨w.heap.size,0,none⟩),.pointer (some ⟨w.heap.size+1,0,none⟩),.pointer (some ⟨w.heap.size+1+1,0,none⟩),.pointer (some ⟨w.heap.size+1+1+1,0,none⟩),vs 4,vs 5,undef,undef,undef,undef,vs 0,vs 1,vs 2,vs 3,undef,undef,undef,undef,undef,undef,undef,undef,undef,undef,undef,undef,undef,undef,undef,undef,undef,undef,undef,undef,undef,undef,undef,undef,undef,undef,undef,undef,undef,undef,undef,undef,undef,undef,undef,undef,undef,undef,undef,undef,undef,undef,undef],defers:=[] }:Act):=(hF.all hd).trans (by kernel_rfl);subst e
   obtain⟨g,c,e4,h1,h2,h3,h4⟩:=cc.c4 (hd 4 (by simp));obtain⟨g',c',e5,k1,k2,k3,k4⟩:=cc.c5 (hd 5 (by simp));have HH:Hid (vs 4=.pointer (some ⟨g,0,none⟩)∧vs 5=.pointer (some ⟨g',0,none⟩)∧zb w' g (ag .u32 8 X)∧zb w' g' (ag .u32 8 Y)∧Below W0.heap.size W0 w'):=⟨e4,e5,h4 (hd 6 (by simp)) ▸ h2,k4 (hd 7 (by simp)) ▸ k2,cc.b⟩
   clear e4 e5 h1 h2 h3 h4 k1 k2 k3 k4 cc hd r0 r1 hF
   go_wp2_with fail
   go_meet
   case rel=>
    obtain⟨e4,e5,h2,k2,hb⟩:=HH.out;refine⟨g,g',e4,e5,h2.lt,k2.lt,fun i hi=>?_,fun i hi=>?_,old_of hb⟩
    ·rw[h2.cell,yd,if_pos hi]
    ·rw[k2.cell,yd,if_pos hi]
 case rest=>
  obtain⟨bx,by',rfl,rfl,hbx,hby,hX,hY,ho,hbel⟩:=hcut;clear sa sb;have HX:Hid _:=hX;have HY:Hid _:=hY;have R4:Hid (zb wc (w.heap.size+1+1) #[.int .u64 0,.int .u64 0,.int .u64 0,.int .u64 0]):=(zb.old (zb.last (by simp))).below hbel;have R5:Hid (zb wc (w.heap.size+1+1+1) #[.int .u64 0,.int .u64 0,.int .u64 0,.int .u64 0]):=(zb.last (by simp)).below hbel;have HO:Hid (Below w.heap.size w wc):=qo (by(repeat(first|exact Below.refl _ _|refine zj ?_ _))) hbel;have Hz:Hid (w.heap.size+1+1+1<wc.heap.size):=R5.out.lt;clear hX hY ho hbel
  go_wp2
  go_loopw [16] (fun i w'=>∃(j nq:Nat) (f:Nat→Nat),j≤8∧i=.int .i64 (j:Int)∧w'=(wc.alloc (Obj.cells (ag .u32 16 f) 249)).drewN nq∧OK f X Y j) (fun i _=>8-(intOf i).toNat)
  case atStart=>exact⟨0,0,fun _=>0,by omega,rfl,rfl,OK.start X Y⟩
  case round=>
   obtain⟨j,nq,f,hj,rfl,rfl,hO⟩:=hrel;have KO:Hid _:=hO;clear hO;by_cases hlt:j<8
   ·have hx:=HX.out j hlt
    go_wp2
    go_loopw [10,19] (fun c i w'=>∃(l cn nq:Nat) (f':Nat→Nat),l≤8∧i=.int .i64 (l:Int)∧c=B cn∧w'=(wc.alloc (Obj.cells (ag .u32 16 f') 249)).drewN nq∧MK f f' X Y j l cn) (fun _ i _=>8-(intOf i).toNat)
    case atStart=>exact⟨0,0,nq,f,by omega,rfl,rfl,rfl,MK.start KO.out.hf⟩
    case round=>
     obtain⟨l,cn,nq',f',hl,rfl,rfl,rfl,hM⟩:=hrel;have KM:Hid _:=hM;clear hM;by_cases hlt2:l<8
     ·have hy:=HY.out l hlt2;have hc1:(ag .u32 16 f')[j+l]? = some (.int .u32 (f' (j+l):Nat)):=by rw[yd,if_pos (by omega)]
      go_wp2
      go_region
      go_wp2
      go_roundw
      case rel=>
       have hM:=KM.out;obtain⟨e1,e2⟩:=num_mac hM.hc (GX.out j hlt) (GY.out l hlt2) (hM.hf (j+l) (by omega));refine⟨l+1,_,nq'+1,_,by omega,by go_num,?_,?_,hM.step e2⟩
       ·rw[e1,cast_div]
       ·rw[e1,zba,xr];try rfl
      case measure=>simp[intOf];omega
     ·have hl8:l=8:=by omega
      subst hl8;have hc1:(ag .u32 16 f')[j+8]? = some (.int .u32 (f' (j+8):Nat)):=by rw[yd,if_pos (by omega)]
      go_wp2
      go_roundw
      case rel=>
       refine⟨j+1,nq',_,by omega,by go_num,?_,KO.out.step hlt KM.out⟩;rw[zba,xr,Nat.mod_eq_of_lt KM.out.hc]
      case measure=>simp[intOf];omega
   ·have hj8:j=8:=by omega
    subst hj8
    go_wp2
    have o1:=zb.drewN (zb.last (w:=wc) (c:=ag .u32 16 f) (t:=249) rfl) nq;have o4:=zb.drewN (zb.old (o:=Obj.cells (ag .u32 16 f) 249) R4.out) nq;have o5:=zb.drewN (zb.old (o:=Obj.cells (ag .u32 16 f) 249) R5.out) nq;have ob:=zb7 (zj HO.out (Obj.cells (ag .u32 16 f) 249)) nq;have hbo:w.heap.size+1+1+1<wc.heap.size:=Hz.out;clear R4 R5 HO Hz HX HY;generalize (wc.alloc (Obj.cells (ag .u32 16 f) 249)).drewN nq=wr',wc.heap.size=bo at *
    refine kr (by kernel_rfl) (by kernel_rfl) (by kernel_rfl) (CY w bo (w.heap.size+1+1) (w.heap.size+1+1+1) f (vl (fun i=>f (8+i)) 0 8) (vl f 0 8)) ?_ ?_ ?_
    ·refine⟨ob.drew,o1,?_,?_,?_,?_,⟨_,o4,rfl,?_⟩,⟨_,o5,rfl,?_⟩⟩<;>(intro h;simp[Array.getD]at h)
    ·intro za vs a' w' i o hs ho hi hF cc;have hi8:i<6:=by have:=(Array.getElem?_eq_some_iff.1 ho).1;simpa using this
     have hcase:i=0∨i=1∨i=2∨i=3∨i=4∨i=5:=by omega
     rcases hcase with rfl|rfl|rfl|rfl|rfl|rfl
     ·simp at ho;subst ho;have T:=dTz za 0;have S:=dSz za 0;have hv:a'.eval (.tmp 8)=.pointer (some ⟨bo,0,none⟩):=(hF.old (by kernel_rfl)).trans rfl;refine zt (v:=.slice (some ⟨bo,8,none⟩) 8 8) (w1:=w') (by simp[execOp,go_sem,ev hv]) ⟨_,rfl,⟨cc.b,cc.o,fun _=>rfl,uz cc.c1,uz cc.c2,uz cc.c3,by obtain⟨c,h2,h3,h4⟩:=cc.c4;exact⟨c,h2,h3,fun h=>h4 (T 4 (by decide) h)⟩,by obtain⟨c,h2,h3,h4⟩:=cc.c5;exact⟨c,h2,h3,fun h=>h4 (T 5 (by decide) h)⟩⟩⟩
     ·simp at ho;subst ho;have T:=dTz za 1;have S:=dSz za 1;have hv:=(nwz hF 55 0 1 hi cc.c0)
      refine qm (f:=313) (args:=#[.slice (some ⟨bo,8,none⟩) 8 8]) (v:=U (vl (fun i=>f (8+i)) 0 8)) (by simp[execOp_call_go,ev hv,go_sem]) (join_any bo 8 8 (fun i=>f (8+i)) (fun i h=>KO.out.hf _ (by omega)) w' cc.o.lt (fun i h=>by rw[cc.o.cell,yd,if_pos (by omega)])) ?_;intro w'' hb'';exact⟨_,rfl,⟨cc.b.trans (hb''.mono cc.b.size),cc.o.below hb'',uz cc.c0,fun _=>rfl,uz cc.c2,uz cc.c3,by obtain⟨c,h2,h3,h4⟩:=cc.c4;exact⟨c,h2.below hb'',h3,fun h=>h4 (T 4 (by decide) h)⟩,by obtain⟨c,h2,h3,h4⟩:=cc.c5;exact⟨c,h2.below hb'',h3,fun h=>h4 (T 5 (by decide) h)⟩⟩⟩
     ·simp at ho;subst ho;have T:=dTz za 2;have S:=dSz za 2;have hv:a'.eval (.tmp 8)=.pointer (some ⟨bo,0,none⟩):=(hF.old (by kernel_rfl)).trans rfl;refine zt (v:=.slice (some ⟨bo,0,none⟩) 8 16) (w1:=w') (by simp[execOp,go_sem,ev hv]) ⟨_,rfl,⟨cc.b,cc.o,uz cc.c0,uz cc.c1,fun _=>rfl,uz cc.c3,by obtain⟨c,h2,h3,h4⟩:=cc.c4;exact⟨c,h2,h3,fun h=>h4 (T 4 (by decide) h)⟩,by obtain⟨c,h2,h3,h4⟩:=cc.c5;exact⟨c,h2,h3,fun h=>h4 (T 5 (by decide) h)⟩⟩⟩
     ·simp at ho;subst ho;have T:=dTz za 3;have S:=dSz za 3;have hv:=(nwz hF 57 2 3 hi cc.c2)
      refine qm (f:=313) (args:=#[.slice (some ⟨bo,0,none⟩) 8 16]) (v:=U (vl f 0 8)) (by simp[execOp_call_go,ev hv,go_sem]) (join_any bo 0 16 f (fun i h=>KO.out.hf _ (by omega)) w' cc.o.lt (fun i h=>by rw[cc.o.cell,yd,if_pos (by omega)];rw[Nat.zero_add])) ?_;intro w'' hb'';exact⟨_,rfl,⟨cc.b.trans (hb''.mono cc.b.size),cc.o.below hb'',uz cc.c0,uz cc.c1,uz cc.c2,fun _=>rfl,by obtain⟨c,h2,h3,h4⟩:=cc.c4;exact⟨c,h2.below hb'',h3,fun h=>h4 (T 4 (by decide) h)⟩,by obtain⟨c,h2,h3,h4⟩:=cc.c5;exact⟨c,h2.below hb'',h3,fun h=>h4 (T 5 (by decide) h)⟩⟩⟩
     ·simp at ho;subst ho;have T:=dTz za 4;have S:=dSz za 4;have hv:=(nwz hF 56 1 4 hi cc.c1)
      have hx:a'.eval (.tmp 4)=.pointer (some ⟨(w.heap.size+1+1),0,none⟩):=(hF.old (by kernel_rfl)).trans rfl;obtain⟨c,h2,h3,h4⟩:=cc.c4;obtain⟨c',k2,k3,k4⟩:=cc.c5
      refine zb5 45 (.tmp 4) (.tmp 56) rfl (w.heap.size+1+1) (c':=#[B (l0 (vl (fun i=>f (8+i)) 0 8)),B (l1 (vl (fun i=>f (8+i)) 0 8)),B (l2 (vl (fun i=>f (8+i)) 0 8)),B (l3 (vl (fun i=>f (8+i)) 0 8))]) hx hv h2 h3 rfl (by simp[Value.oneCell']) (by kernel_rfl) ⟨_,rfl,⟨zf cc.b (by omega) _,cc.o.set_other _ (by omega),uz cc.c0,uz cc.c1,uz cc.c2,uz cc.c3,⟨_,h2.set_same _,rfl,fun _=>rfl⟩,⟨c',k2.set_other _ (by omega),k3,fun h=>k4 (T 5 (by decide) h)⟩⟩⟩
     ·simp at ho;subst ho;have T:=dTz za 5;have S:=dSz za 5;have hv:=(nwz hF 58 3 5 hi cc.c3)
      have hx:a'.eval (.tmp 5)=.pointer (some ⟨(w.heap.size+1+1+1),0,none⟩):=(hF.old (by kernel_rfl)).trans rfl;obtain⟨c,h2,h3,h4⟩:=cc.c5;obtain⟨c',k2,k3,k4⟩:=cc.c4;refine zb5 45 (.tmp 5) (.tmp 58) rfl (w.heap.size+1+1+1) (c':=#[B (l0 (vl f 0 8)),B (l1 (vl f 0 8)),B (l2 (vl f 0 8)),B (l3 (vl f 0 8))]) hx hv h2 h3 rfl (by simp[Value.oneCell']) (by kernel_rfl) ⟨_,rfl,⟨zf cc.b (by omega) _,cc.o.set_other _ (by omega),uz cc.c0,uz cc.c1,uz cc.c2,uz cc.c3,⟨c',k2.set_other _ (by omega),k3,fun h=>k4 (T 4 (by decide) h)⟩,⟨_,h2.set_same _,rfl,fun _=>rfl⟩⟩⟩
    ·intro za vs a' w' hd hF cc;obtain⟨c,h2,h3,h4⟩:=cc.c4;obtain⟨c',k2,k3,k4⟩:=cc.c5;have hx4:a'.eval (.tmp 4)=.pointer (some ⟨w.heap.size+1+1,0,none⟩):=(hF.old (by kernel_rfl)).trans rfl;have hx5:a'.eval (.tmp 5)=.pointer (some ⟨w.heap.size+1+1+1,0,none⟩):=(hF.old (by kernel_rfl)).trans rfl;have hr:=zak (P:=prog) (fn:=Tryz.f294) rfl a' w' hx4 hx5 h2 k2 h3 k3 underlying45 (by kernel_rfl) underlying45 (by kernel_rfl);rw[h4 (hd 4 (by simp)),k4 (hd 5 (by simp))]at hr;have HR:Hid _:=hr;have HB:Hid _:=cc.b;have HD:Hid (a'.defers=[]):=hF.1
     clear hr cc hF hx4 hx5 h2 h3 h4 k2 k3 k4
     go_wp2
     exact bodyPost_ret HR.out HD.out ⟨⟨f,KO.out,rfl⟩,HB.out⟩
end
theorem vl_shift(f:Nat→Nat)(k:Nat):∀ n,vl (fun i=>f (k+i)) 0 n=vl f k n
 | 0=>rfl
 | n+1=>by rw[vl,vl,vl_shift f k n,Nat.zero_add]
theorem wide_any(a b:Nat)(ha:a<W)(hb:b<W)(w:World) :
  Calls prog 294 #[U a,U b] w fun e w'=>e=.returned (.tuple #[U (a*b/W),U (a*b%W)])∧Below w.heap.size w w':=by
 have h:=wide_raw (l0 a) (l1 a) (l2 a) (l3 a) (l0 b) (l1 b) (l2 b) (l3 b) (dg a) (dg b) (fun i _=>dg_lt a i) (fun i _=>dg_lt b i) (za5 a) (za5 b) w;refine h.mono ?_;rintro e w' ⟨⟨f,hO,rfl⟩,hB⟩;refine⟨?_,hB⟩;have hv:=hO.hv;rw[W_D]at ha hb;rw[zd6 ha,zd6 hb]at hv;have e1:vl f 0 (8+8)/D^8=vl f (0+8) 8:=vl_div (fun i hi=>hO.hf _ (by omega));have e2:vl f 0 (8+8)%D^8=vl f 0 8:=vl_mod (fun i hi=>hO.hf _ (by omega));rw[hv]at e1 e2;rw[vl_shift,W_D,e1,e2,Nat.zero_add]
end Go.Proofs.YthkpgfbjdabflaaGreatDoor
