import Derived.Test.YtfhppenjbmmadaaGreatDoorXmM05
import Derived.Deep.DeepCutAuto
import Derived.Deep.Light
import Derived.BigCall
namespace Go.Proofs.YtfhppenjbmmadaaGreatDoor
set_option linter.unusedVariables false
set_option maxHeartbeats 8000000
section
open Go.RowKit Go.Sort
attribute [local go_sem] setCell_drewN
theorem two_lt{f1 f0:Nat}(h1:f1<D)(h0:f0<D):f1*D+f0<M:=by unfold D M at *;omega
theorem guess_num{f1 f0 g:Nat}(h1:f1<D)(h0:f0<D)(hg:0<g)(hgD:g<D) :
  min (IntKind.u64.wrap ((bits BinOp.or IntKind.u64 (IntKind.u64.wrap (IntKind.u64.wrap (f1:Int)*4294967296)) (IntKind.u64.wrap (f0:Int))).tdiv (IntKind.u64.wrap (g:Int)))) 4294967295=((min ((f1*D+f0)/g) (D-1):Nat):Int):=by
 have e1:IntKind.u64.wrap (IntKind.u64.wrap (f1:Int)*4294967296)=((f1*D:Nat):Int):=by simp only[IntKind.wrap_u64];unfold D at *;omega
 have e0:IntKind.u64.wrap (f0:Int)=(f0:Int):=by simp only[IntKind.wrap_u64];unfold D at *;omega
 have eg:IntKind.u64.wrap (g:Int)=(g:Int):=by simp only[IntKind.wrap_u64];unfold D at *;omega
 have hM1:f1*D<M:=by unfold D M at *;omega
 have hM0:f0<M:=by unfold D M at *;omega
 have hlt:=two_lt h1 h0
 rw[e1,e0,eg,bits_or (f1*D) f0 hM1 hM0]
 have h0':f0<2^32:=h0
 have e2:=Nat.two_pow_add_eq_or_of_lt h0' f1
 have eD:D=2^32:=by decide
 have e:f1*D ||| f0=f1*D+f0:=by rw[Nat.mul_comm,eD];exact e2.symm
 rw[e,Int.tdiv_eq_ediv_of_nonneg (Int.natCast_nonneg _),show ((f1*D+f0:Nat):Int)/(g:Int)=(((f1*D+f0)/g:Nat):Int) from rfl]
 have hq:(f1*D+f0)/g≤f1*D+f0:=Nat.div_le_self _ _
 generalize (f1*D+f0)/g=q at *
 generalize f1*D+f0=r at *
 clear e2 eD h0' e hM1 hM0 e1 e0
 have ew:IntKind.u64.wrap (q:Int)=(q:Int):=by simp only[IntKind.wrap_u64];unfold M at *;omega
 rw[ew]
 unfold D
 omega
set_option maxRecDepth 100000 in
theorem guess_raw(f g:Nat→Nat)(k m:Nat)(hn:m<8)(hk:k+(m+1)<17)(hf1:f (k+(m+1))<D)(hf0:f (k+m)<D)(hg:0<g m)(hgD:g m<D)(w:World) :
  Calls Tryz.prog 161 #[L17 f,L8 g,.int .i64 (k:Int),.int .i64 ((m+1:Nat):Int)] w fun e w'=>
   e=.returned (B (min ((f (k+(m+1))*D+f (k+m))/g m) (D-1)))∧Below w.heap.size w w':=by
 have GN:Hid _:=guess_num hf1 hf0 hg hgD
 have hgz:¬ IntKind.u64.wrap (g m:Int)=0:=by simp only[IntKind.wrap_u64];unfold D at hgD;omega
 clear hg hgD hf1 hf0
 have hc1:(ag .u32 17 f)[k+(m+1)]? = some (.int .u32 (f (k+(m+1)):Nat)):=by rw[agG,if_pos (by omega)]
 have hc2:(ag .u32 17 f)[k+m]? = some (.int .u32 (f (k+m):Nat)):=by rw[agG,if_pos (by omega)]
 have hc3:(ag .u32 8 g)[m]? = some (.int .u32 (g m:Nat)):=by rw[agG,if_pos (by omega)]
 go_enter Tryz.func161,Tryz.ntmps161
 go_wp2
 refine name_world _ ?_
 intro wF hF
 have c1:wF.cell? ⟨w.heap.size,k+(m+1),none⟩=some (.int .u32 (f (k+(m+1)):Nat)):=by rw[hF];go_simp
 have c2:wF.cell? ⟨w.heap.size,k+m,none⟩=some (.int .u32 (f (k+m):Nat)):=by rw[hF];go_simp
 have c3:wF.cell? ⟨w.heap.size+1,m,none⟩=some (.int .u32 (g m:Nat)):=by rw[hF];go_simp
 have hBF:Below w.heap.size w wF:=by rw[hF]; (repeat (first | exact Below.refl _ _ | apply Below.drew | refine bAl ?_ _))
 clear hF hc1 hc2 hc3
 replace c1:=cell_regrown c1
 replace c2:=cell_regrown c2
 replace c3:=cell_regrown c3
 refine wp_region_quiet_below (by kernel_rfl) (by kernel_rfl) ?_
 repeat (go_big_quiet_step (fail))
 refine wpQuiet_nil ?_
 intro _ hw'
 obtain ⟨⟨dq,osq⟩,hw''⟩:=hw'
 subst hw''
 go_wp2
 refine bodyPost_ret (v:=B (min ((f (k+(m+1))*D+f (k+m))/g m) (D-1))) ?_ rfl ⟨rfl,bCl hBF (below_regrown wF dq osq)⟩
 simp only[results,Tryz.results161]
 simp[go_sem]
 exact GN.out
end
section
open Go.RowKit Go.Sort
attribute [local go_sem] setCell_drewN
structure CM (W0:World) (hg lw k ov hv0 lo md:Nat) (lz:Array Bool) (vs:Nat→Value) (w':World):Prop where
 b:Below W0.heap.size W0 w'
 c0:lz.getD 0 false=true→vs 0=U hg
 c1:lz.getD 1 false=true→vs 1=B k
 c2:lz.getD 2 false=true→vs 2=U hv0
 c3:lz.getD 3 false=true→vs 3=U lw
 c4:lz.getD 4 false=true→vs 4=B ov
 c5:lz.getD 5 false=true→vs 5=U lo
 c6:lz.getD 6 false=true→vs 6=U md
 c7:lz.getD 7 false=true→∃ g c,vs 7=.pointer (some ⟨g,0,none⟩)∧W0.heap.size≤g∧HRw w' g c∧c.size=4∧(lz.getD 8 false=true→c=#[B (l0 md),B (l1 md),B (l2 md),B (l3 md)])
 c87:lz.getD 8 false=true→lz.getD 7 false=true
theorem HRw.frozen{w:World}{g:Nat}{c:Array Value}(h:HRw w g c)(j:Nat):w.frozen? ⟨g,j,none⟩=false:=by
 obtain ⟨t,h⟩:=h
 exact frozen_of_row w g j c t h
theorem run_idx8(X:Nat→Nat)(j:Nat)(hj:j<8)(v:Value)(hv:v=.int .i64 (j:Int))(w:World):(Instr.index 159 (L8 X) v).run Tryz.prog w=.ok (.int .u32 (X j:Nat)) w:=by
 subst hv
 have h1:(ag .u32 8 X)[j]? = some (.int .u32 (X j:Nat)):=by rw[agG,if_pos hj]
 have h2:(ag .u32 8 X).size=8:=agS _ _ _
 simp[Instr.index,asIntOf,run_underlying Tryz.underlying159,h2,hj,part,isAgg,run_underlying Tryz.underlying157,go_sem]
 exact (Array.getElem?_eq_some_iff.1 h1).2
structure SF (w w':World) (bo bm hg md:Nat) (f:Nat→Nat):Prop where
 o:HRw w' bo (ag .u32 17 f)
 h:HRw w' w.heap.size #[B (l0 hg),B (l1 hg),B (l2 hg),B (l3 hg)]
 r:HRw w' (w.heap.size+1+1) z17
 m:HRw w' bm #[B (l0 md),B (l1 md),B (l2 md),B (l3 md)]
 b:Below w.heap.size w w'
theorem SF.call{w w' w'':World}{bo bm hg md:Nat}{f:Nat→Nat}(h:SF w w' bo bm hg md f)(hb:Below w'.heap.size w' w''):SF w w'' bo bm hg md f:=
 ⟨h.o.below hb,h.h.below hb,h.r.below hb,h.m.below hb,h.b.trans (hb.mono h.b.size)⟩
theorem SF.put{w w':World}{bo bm hg md:Nat}{f:Nat→Nat}(h:SF w w' bo bm hg md f)(hq:w.heap.size+1+1<bo)(hm:bm<bo)(i x:Nat):SF w (w'.setCell ⟨bo,i,none⟩ (.int .u32 (x:Nat))) bo bm hg md (upd f i x):=by
 rw[h.o.setCell,ag_set]
 exact ⟨h.o.set_same _,h.h.set_other _ (by omega),h.r.set_other _ (by omega),h.m.set_other _ (by omega),bSR h.b (by omega) _⟩
theorem rC1{P:Program}{fn:Func}{p:Tmp}{ty:TypeId}(h:fn.results=#[.cell p ty]){tmps:Array Value}{w:World}{g:Nat}{c:Array Value}{n:Nat}{e:TypeId}(h1:tmps.getD p undef=.pointer (some ⟨g,0,none⟩))(r1:HRw w g c)(n1:c.size=n)(hu:P.underlying ty=some (.array n e))(hi:(P.info? ty).map (·.size)=some n):(results fn tmps).run P w=.ok (.agg c) w:=by
 obtain ⟨t,r1⟩:=r1
 have h1':tmps[p]?.getD undef=.pointer (some ⟨g,0,none⟩):=by rw[← h1];simp
 have k1:=run_loadVar_row (P:=P) w g t ty c (0,0) _ r1 hu rfl (by rw[n1];exact hi)
 simp only[results,h]
 simp[h1',asAddr,k1]
set_option maxRecDepth 100000 in
theorem shifted_raw(hg lw k ov hv0 lo md A hh:Nat)(X Y Z:Nat→Nat)(hov:IntKind.u64.wrap (256-(k:Int))=(ov:Int))(s1:Hid (∀ w,Calls Tryz.prog 159 #[U hg,B k] w fun e w'=>e=.returned (U hv0)∧Below w.heap.size w w'))(s2:Hid (∀ w,Calls Tryz.prog 122 #[U lw,B ov] w fun e w'=>e=.returned (U lo)∧Below w.heap.size w w'))(s3:Hid (∀ w,Calls Tryz.prog 165 #[U hv0,U lo] w fun e w'=>e=.returned (U md)∧Below w.heap.size w w'))(s4:Hid (∀ w,Calls Tryz.prog 159 #[U lw,B k] w fun e w'=>e=.returned (U A)∧Below w.heap.size w w'))(s5:Hid (∀ w,Calls Tryz.prog 151 #[U A] w fun e w'=>e=.returned (L8 X)∧Below w.heap.size w w'))(s6:Hid (∀ w,Calls Tryz.prog 151 #[U md] w fun e w'=>e=.returned (L8 Y)∧Below w.heap.size w w'))(s7:Hid (∀ w,Calls Tryz.prog 122 #[U hg,B ov] w fun e w'=>e=.returned (U hh)∧Below w.heap.size w w'))(s8:Hid (∀ w,Calls Tryz.prog 151 #[U hh] w fun e w'=>e=.returned (L8 Z)∧Below w.heap.size w w'))(w:World) :
  Calls Tryz.prog 160 #[U hg,U lw,B k] w fun e w'=>
   (∃ f:Nat→Nat,(∀ i,i<8→f i=X i)∧(∀ i,i<8→f (8+i)=Y i)∧f 16=Z 0∧e=.returned (L17 f))∧Below w.heap.size w w':=by
 go_enter Tryz.func160,Tryz.ntmps160
 go_wp2
 go_cut [8] (fun s8 w'=>∃ bm,s8=.pointer (some ⟨bm,0,none⟩)∧HRw w' bm #[B (l0 md),B (l1 md),B (l2 md),B (l3 md)]∧Below (((w.alloc (Obj.cells #[B (l0 hg),B (l1 hg),B (l2 hg),B (l3 hg)] 24)).alloc (Obj.cells #[B (l0 lw),B (l1 lw),B (l2 lw),B (l3 lw)] 24)).alloc (Obj.cells z17 169)).heap.size (((w.alloc (Obj.cells #[B (l0 hg),B (l1 hg),B (l2 hg),B (l3 hg)] 24)).alloc (Obj.cells #[B (l0 lw),B (l1 lw),B (l2 lw),B (l3 lw)] 24)).alloc (Obj.cells z17 169)) w')
 case first=>
  have r0:∀ w',Below (((w.alloc (Obj.cells #[B (l0 hg),B (l1 hg),B (l2 hg),B (l3 hg)] 24)).alloc (Obj.cells #[B (l0 lw),B (l1 lw),B (l2 lw),B (l3 lw)] 24)).alloc (Obj.cells z17 169)).heap.size (((w.alloc (Obj.cells #[B (l0 hg),B (l1 hg),B (l2 hg),B (l3 hg)] 24)).alloc (Obj.cells #[B (l0 lw),B (l1 lw),B (l2 lw),B (l3 lw)] 24)).alloc (Obj.cells z17 169)) w'→HRw w' w.heap.size #[B (l0 hg),B (l1 hg),B (l2 hg),B (l3 hg)]:=fun w' hb=>(HRw.old (HRw.old (HRw.last rfl))).below hb
  have r1:∀ w',Below (((w.alloc (Obj.cells #[B (l0 hg),B (l1 hg),B (l2 hg),B (l3 hg)] 24)).alloc (Obj.cells #[B (l0 lw),B (l1 lw),B (l2 lw),B (l3 lw)] 24)).alloc (Obj.cells z17 169)).heap.size (((w.alloc (Obj.cells #[B (l0 hg),B (l1 hg),B (l2 hg),B (l3 hg)] 24)).alloc (Obj.cells #[B (l0 lw),B (l1 lw),B (l2 lw),B (l3 lw)] 24)).alloc (Obj.cells z17 169)) w'→HRw w' (w.heap.size+1) #[B (l0 lw),B (l1 lw),B (l2 lw),B (l3 lw)]:=fun w' hb=>(HRw.old (HRw.last (by simp))).below hb
  generalize (((w.alloc (Obj.cells #[B (l0 hg),B (l1 hg),B (l2 hg),B (l3 hg)] 24)).alloc (Obj.cells #[B (l0 lw),B (l1 lw),B (l2 lw),B (l3 lw)] 24)).alloc (Obj.cells z17 169))=W0 at *
  refine wp_region_vals (by kernel_rfl) (by kernel_rfl) (by kernel_rfl) (CM W0 hg lw k ov hv0 lo md) ?_ ?_ ?_
  ·refine ⟨(Below.refl _ _).drew,?_,?_,?_,?_,?_,?_,?_,?_,?_⟩<;>(intro h;simp[Array.getD] at h)
  ·intro lz vs a' w' i o hs ho hi hF cc
   have hi9:i<9:=by have:=(Array.getElem?_eq_some_iff.1 ho).1;simpa using this
   have hcase:i=0∨i=1∨i=2∨i=3∨i=4∨i=5∨i=6∨i=7∨i=8:=by omega
   rcases hcase with rfl | rfl | rfl | rfl | rfl | rfl | rfl | rfl | rfl
   ·simp at ho
    subst ho
    have T:=dT lz 0
    have S:=dS lz 0
    refine wp_rowF 24 (.tmp 3) rfl w.heap.size ((hF.old (by kernel_rfl)).trans rfl) (r0 w' cc.b) rfl Tryz.underlying24 (by kernel_rfl) ⟨_,rfl,⟨cc.b,fun _=>rfl,fun h=>cc.c1 (T 1 (by decide) h),fun h=>cc.c2 (T 2 (by decide) h),fun h=>cc.c3 (T 3 (by decide) h),fun h=>cc.c4 (T 4 (by decide) h),fun h=>cc.c5 (T 5 (by decide) h),fun h=>cc.c6 (T 6 (by decide) h),fun h=>by obtain ⟨g,c,e,h1,h2,h3,h4⟩:=cc.c7 (T 7 (by decide) h);exact ⟨g,c,e,h1,h2,h3,fun h6=>h4 (T 8 (by decide) h6)⟩,fun h=>S 7 (cc.c87 (T 8 (by decide) h))⟩⟩
   ·simp at ho
    subst ho
    have T:=dT lz 1
    have S:=dS lz 1
    have hv:a'.eval (.tmp 2)=B k:=(hF.old (by kernel_rfl)).trans rfl
    refine wVF (v:=B k) (w1:=w') (by simp[execOp,go_sem,ev hv]) ⟨_,rfl,⟨cc.b,fun h=>cc.c0 (T 0 (by decide) h),fun _=>rfl,fun h=>cc.c2 (T 2 (by decide) h),fun h=>cc.c3 (T 3 (by decide) h),fun h=>cc.c4 (T 4 (by decide) h),fun h=>cc.c5 (T 5 (by decide) h),fun h=>cc.c6 (T 6 (by decide) h),fun h=>by obtain ⟨g,c,e,h1,h2,h3,h4⟩:=cc.c7 (T 7 (by decide) h);exact ⟨g,c,e,h1,h2,h3,fun h6=>h4 (T 8 (by decide) h6)⟩,fun h=>S 7 (cc.c87 (T 8 (by decide) h))⟩⟩
   ·simp at ho
    subst ho
    have T:=dT lz 2
    have S:=dS lz 2
    have hv1:=((hF.new (t:=16) (i:=0) (by kernel_rfl) (by simp) (wDn (i:=2) (j:=0) (by kernel_rfl) hi)).trans (cc.c0 (wDn (i:=2) (j:=0) (by kernel_rfl) hi)))
    have hv2:=((hF.new (t:=17) (i:=1) (by kernel_rfl) (by simp) (wDn (i:=2) (j:=1) (by kernel_rfl) hi)).trans (cc.c1 (wDn (i:=2) (j:=1) (by kernel_rfl) hi)))
    refine wp_callF (f:=159) (args:=#[U hg,B k]) (v:=U hv0) (by simp[execOp_call_go,ev hv1,ev hv2,go_sem]) (s1.out w') ?_
    intro w'' hb''
    exact ⟨_,rfl,⟨cc.b.trans (hb''.mono cc.b.size),fun h=>cc.c0 (T 0 (by decide) h),fun h=>cc.c1 (T 1 (by decide) h),fun _=>rfl,fun h=>cc.c3 (T 3 (by decide) h),fun h=>cc.c4 (T 4 (by decide) h),fun h=>cc.c5 (T 5 (by decide) h),fun h=>cc.c6 (T 6 (by decide) h),fun h=>by obtain ⟨g,c,e,h1,h2,h3,h4⟩:=cc.c7 (T 7 (by decide) h);exact ⟨g,c,e,h1,h2.below hb'',h3,fun h6=>h4 (T 8 (by decide) h6)⟩,fun h=>S 7 (cc.c87 (T 8 (by decide) h))⟩⟩
   ·simp at ho
    subst ho
    have T:=dT lz 3
    have S:=dS lz 3
    refine wp_rowF 24 (.tmp 4) rfl (w.heap.size+1) ((hF.old (by kernel_rfl)).trans rfl) (r1 w' cc.b) rfl Tryz.underlying24 (by kernel_rfl) ⟨_,rfl,⟨cc.b,fun h=>cc.c0 (T 0 (by decide) h),fun h=>cc.c1 (T 1 (by decide) h),fun h=>cc.c2 (T 2 (by decide) h),fun _=>rfl,fun h=>cc.c4 (T 4 (by decide) h),fun h=>cc.c5 (T 5 (by decide) h),fun h=>cc.c6 (T 6 (by decide) h),fun h=>by obtain ⟨g,c,e,h1,h2,h3,h4⟩:=cc.c7 (T 7 (by decide) h);exact ⟨g,c,e,h1,h2,h3,fun h6=>h4 (T 8 (by decide) h6)⟩,fun h=>S 7 (cc.c87 (T 8 (by decide) h))⟩⟩
   ·simp at ho
    subst ho
    have T:=dT lz 4
    have S:=dS lz 4
    have hv:a'.eval (.tmp 7)=B ov:=(hF.old (by kernel_rfl)).trans rfl
    refine wVF (v:=B ov) (w1:=w') (by simp[execOp,go_sem,ev hv]) ⟨_,rfl,⟨cc.b,fun h=>cc.c0 (T 0 (by decide) h),fun h=>cc.c1 (T 1 (by decide) h),fun h=>cc.c2 (T 2 (by decide) h),fun h=>cc.c3 (T 3 (by decide) h),fun _=>rfl,fun h=>cc.c5 (T 5 (by decide) h),fun h=>cc.c6 (T 6 (by decide) h),fun h=>by obtain ⟨g,c,e,h1,h2,h3,h4⟩:=cc.c7 (T 7 (by decide) h);exact ⟨g,c,e,h1,h2,h3,fun h6=>h4 (T 8 (by decide) h6)⟩,fun h=>S 7 (cc.c87 (T 8 (by decide) h))⟩⟩
   ·simp at ho
    subst ho
    have T:=dT lz 5
    have S:=dS lz 5
    have hv1:=((hF.new (t:=19) (i:=3) (by kernel_rfl) (by simp) (wDn (i:=5) (j:=3) (by kernel_rfl) hi)).trans (cc.c3 (wDn (i:=5) (j:=3) (by kernel_rfl) hi)))
    have hv2:=((hF.new (t:=20) (i:=4) (by kernel_rfl) (by simp) (wDn (i:=5) (j:=4) (by kernel_rfl) hi)).trans (cc.c4 (wDn (i:=5) (j:=4) (by kernel_rfl) hi)))
    refine wp_callF (f:=122) (args:=#[U lw,B ov]) (v:=U lo) (by simp[execOp_call_go,ev hv1,ev hv2,go_sem]) (s2.out w') ?_
    intro w'' hb''
    exact ⟨_,rfl,⟨cc.b.trans (hb''.mono cc.b.size),fun h=>cc.c0 (T 0 (by decide) h),fun h=>cc.c1 (T 1 (by decide) h),fun h=>cc.c2 (T 2 (by decide) h),fun h=>cc.c3 (T 3 (by decide) h),fun h=>cc.c4 (T 4 (by decide) h),fun _=>rfl,fun h=>cc.c6 (T 6 (by decide) h),fun h=>by obtain ⟨g,c,e,h1,h2,h3,h4⟩:=cc.c7 (T 7 (by decide) h);exact ⟨g,c,e,h1,h2.below hb'',h3,fun h6=>h4 (T 8 (by decide) h6)⟩,fun h=>S 7 (cc.c87 (T 8 (by decide) h))⟩⟩
   ·simp at ho
    subst ho
    have T:=dT lz 6
    have S:=dS lz 6
    have hv1:=((hF.new (t:=18) (i:=2) (by kernel_rfl) (by simp) (wDn (i:=6) (j:=2) (by kernel_rfl) hi)).trans (cc.c2 (wDn (i:=6) (j:=2) (by kernel_rfl) hi)))
    have hv2:=((hF.new (t:=21) (i:=5) (by kernel_rfl) (by simp) (wDn (i:=6) (j:=5) (by kernel_rfl) hi)).trans (cc.c5 (wDn (i:=6) (j:=5) (by kernel_rfl) hi)))
    refine wp_callF (f:=165) (args:=#[U hv0,U lo]) (v:=U md) (by simp[execOp_call_go,ev hv1,ev hv2,go_sem]) (s3.out w') ?_
    intro w'' hb''
    exact ⟨_,rfl,⟨cc.b.trans (hb''.mono cc.b.size),fun h=>cc.c0 (T 0 (by decide) h),fun h=>cc.c1 (T 1 (by decide) h),fun h=>cc.c2 (T 2 (by decide) h),fun h=>cc.c3 (T 3 (by decide) h),fun h=>cc.c4 (T 4 (by decide) h),fun h=>cc.c5 (T 5 (by decide) h),fun _=>rfl,fun h=>by obtain ⟨g,c,e,h1,h2,h3,h4⟩:=cc.c7 (T 7 (by decide) h);exact ⟨g,c,e,h1,h2.below hb'',h3,fun h6=>h4 (T 8 (by decide) h6)⟩,fun h=>S 7 (cc.c87 (T 8 (by decide) h))⟩⟩
   ·simp at ho
    subst ho
    have T:=dT lz 7
    have S:=dS lz 7
    have hun:¬ lz.getD 7 false=true:=fun h=>undone hi hs h
    refine wVF (v:=.pointer (some ⟨w'.heap.size,0,none⟩)) (w1:=w'.alloc (.cells #[.int .u64 0,.int .u64 0,.int .u64 0,.int .u64 0] 24)) (by simp[execOp,go_sem]) ⟨_,rfl,⟨cc.b.alloc cc.b.size _,fun h=>cc.c0 (T 0 (by decide) h),fun h=>cc.c1 (T 1 (by decide) h),fun h=>cc.c2 (T 2 (by decide) h),fun h=>cc.c3 (T 3 (by decide) h),fun h=>cc.c4 (T 4 (by decide) h),fun h=>cc.c5 (T 5 (by decide) h),fun h=>cc.c6 (T 6 (by decide) h),fun _=>⟨w'.heap.size,#[.int .u64 0,.int .u64 0,.int .u64 0,.int .u64 0],rfl,cc.b.size,HRw.last rfl,rfl,fun h6=>absurd (cc.c87 (T 8 (by decide) h6)) hun⟩,fun h=>S 7 (cc.c87 (T 8 (by decide) h))⟩⟩
   ·simp at ho
    subst ho
    have T:=dT lz 8
    have S:=dS lz 8
    have d7:=(wDn (i:=8) (j:=7) (by kernel_rfl) hi)
    obtain ⟨g,c,e,h1,h2,h3,h4⟩:=cc.c7 d7
    have hx:=(hF.new (t:=8) (i:=7) (by kernel_rfl) (by simp) d7).trans e
    have hv:=((hF.new (t:=22) (i:=6) (by kernel_rfl) (by simp) (wDn (i:=8) (j:=6) (by kernel_rfl) hi)).trans (cc.c6 (wDn (i:=8) (j:=6) (by kernel_rfl) hi)))
    refine wp_rowS 24 (.tmp 8) (.tmp 22) rfl g (c':=#[B (l0 md),B (l1 md),B (l2 md),B (l3 md)]) hx hv h2 h3 rfl (by simp[Value.oneCell']) (by kernel_rfl) ⟨_,rfl,⟨bSR cc.b h1 _,fun h=>cc.c0 (T 0 (by decide) h),fun h=>cc.c1 (T 1 (by decide) h),fun h=>cc.c2 (T 2 (by decide) h),fun h=>cc.c3 (T 3 (by decide) h),fun h=>cc.c4 (T 4 (by decide) h),fun h=>cc.c5 (T 5 (by decide) h),fun h=>cc.c6 (T 6 (by decide) h),fun h=>⟨g,_,e,h1,h2.set_same _,rfl,fun _=>rfl⟩,fun _=>S 7 d7⟩⟩
  ·intro lz vs a' w' hd hF cc
   have e:a'=({ tmps:=#[U hg,U lw,B k,.pointer (some ⟨w.heap.size,0,none⟩),.pointer (some ⟨w.heap.size+1,0,none⟩),undef,.pointer (some ⟨w.heap.size+1+1,0,none⟩),B ov,vs 7,undef,undef,undef,undef,undef,B k,B ov,vs 0,vs 1,vs 2,vs 3,vs 4,vs 5,vs 6,undef,undef,undef,undef,undef,undef,undef,undef,undef,undef,undef,undef,undef,undef,undef,undef,undef,undef,undef,undef,undef,undef,undef,undef,undef,undef,undef,undef,undef,undef],defers:=[] }:Act):=(hF.all hd).trans (by kernel_rfl)
   subst e
   obtain ⟨g,c,e4,h1,h2,h3,h4⟩:=cc.c7 (hd 7 (by simp))
   have HH:Hid (vs 7=.pointer (some ⟨g,0,none⟩)∧HRw w' g #[B (l0 md),B (l1 md),B (l2 md),B (l3 md)]∧Below W0.heap.size W0 w'):=⟨e4,h4 (hd 8 (by simp)) ▸ h2,cc.b⟩
   clear e4 h1 h2 h3 h4 cc hd r0 r1 hF
   go_wp2_with fail
   go_meet
   case rel=>
    obtain ⟨e4,h2,hb⟩:=HH.out
    exact ⟨g,e4,h2,hb⟩
 case rest=>
  obtain ⟨bm,rfl,hm,hbel⟩:=hcut
  have R0:Hid (HRw wc w.heap.size #[B (l0 hg),B (l1 hg),B (l2 hg),B (l3 hg)]):=(HRw.old (HRw.old (HRw.last rfl))).below hbel
  have R1:Hid (HRw wc (w.heap.size+1) #[B (l0 lw),B (l1 lw),B (l2 lw),B (l3 lw)]):=(HRw.old (HRw.last (by simp))).below hbel
  have R2:Hid (HRw wc (w.heap.size+1+1) z17):=(HRw.last (by simp)).below hbel
  have Rm:Hid (HRw wc bm #[B (l0 md),B (l1 md),B (l2 md),B (l3 md)]):=hm
  have HO:Hid (Below w.heap.size w wc):=bCl (by (repeat (first | exact Below.refl _ _ | refine bAl ?_ _))) hbel
  have q1:w.heap.size+1<wc.heap.size:=R1.out.lt
  have g10:wc.cell? ⟨w.heap.size+1,0,none⟩=some (B (l0 lw)):=R1.out.cell 0
  have g11:wc.cell? ⟨w.heap.size+1,1,none⟩=some (B (l1 lw)):=R1.out.cell 1
  have g12:wc.cell? ⟨w.heap.size+1,2,none⟩=some (B (l2 lw)):=R1.out.cell 2
  have g13:wc.cell? ⟨w.heap.size+1,3,none⟩=some (B (l3 lw)):=R1.out.cell 3
  clear hbel hm
  have hq:w.heap.size+1+1<wc.heap.size:=R2.out.lt
  have hq2:bm<wc.heap.size:=Rm.out.lt
  go_wp2_with fail
  refine (s4.out _).mono ?_
  rintro e w1 ⟨rfl,hb1⟩
  have F1:Hid (SF w w1 wc.heap.size bm hg md (fun _=>0)):=⟨(HRw.last rfl).below hb1,(HRw.old R0.out).below hb1,(HRw.old R2.out).below hb1,(HRw.old Rm.out).below hb1,bCl (bAl HO.out _) hb1⟩
  clear R0 R1 R2 Rm HO g10 g11 g12 g13 hb1 q1
  generalize wc.heap.size=bo at *
  clear wc
  go_wp2_with fail
  refine (s5.out _).mono ?_
  rintro e w2 ⟨rfl,hb2⟩
  have F2:Hid _:=F1.out.call hb2
  clear F1 hb2
  go_wp2
  go_loopw [27] (fun i w'=>∃ (j:Nat) (f:Nat→Nat),j≤8∧i=.int .i64 (j:Int)∧SF w w' bo bm hg md f∧(∀ i,i<j→f i=X i)) (fun i _=>8-(intOf i).toNat)
  case atStart=>exact ⟨0,fun _=>0,by omega,rfl,F2.out,fun i hi=>by omega⟩
  case round=>
   obtain ⟨j,f,hj,rfl,hS,hP⟩:=hrel
   have HS:Hid _:=hS
   have HP:Hid _:=hP
   clear hP F2
   by_cases hlt:j<8
   ·have hi:=run_idx8 X j hlt (.int .i64 (j:Int)) rfl
    have hc:=hS.o.cell j
    rw[agG,if_pos (by omega)] at hc
    have hl:=hS.o.lt
    have hz:=hS.o.frozen j
    clear hS
    go_wp2
    go_roundw
    case rel=>exact ⟨j+1,upd f j (X j),by omega,by go_num,HS.out.put hq hq2 j (X j),fun i hi=>by
      by_cases h:i=j
      ·subst h;rw[upd_same]
      ·rw[uOt _ _ _ h];exact HP.out i (by omega)⟩
    case measure=>simp[intOf];omega
   ·have hj8:j=8:=by omega
    subst hj8
    have g0:=hS.m.cell 0
    have g1:=hS.m.cell 1
    have g2:=hS.m.cell 2
    have g3:=hS.m.cell 3
    simp at g0 g1 g2 g3
    clear hS
    go_wp2_with fail
    refine (s6.out _).mono ?_
    rintro e w3 ⟨rfl,hb3⟩
    have F3:Hid _:=HS.out.call hb3
    clear HS hb3 g0 g1 g2 g3
    go_wp2
    go_loopw [37] (fun i w'=>∃ (j:Nat) (f:Nat→Nat),j≤8∧i=.int .i64 (j:Int)∧SF w w' bo bm hg md f∧(∀ i,i<8→f i=X i)∧(∀ i,i<j→f (8+i)=Y i)) (fun i _=>8-(intOf i).toNat)
    case atStart=>exact ⟨0,f,by omega,rfl,F3.out,HP.out,fun i hi=>by omega⟩
    case round=>
     obtain ⟨j,f,hj,rfl,hS,hP1,hP2⟩:=hrel
     have HS:Hid _:=hS
     have HP1:Hid _:=hP1
     have HP2:Hid _:=hP2
     clear hP1 hP2 F3 HP
     by_cases hlt:j<8
     ·have hi:=run_idx8 Y j hlt (.int .i64 (j:Int)) rfl
      have hc:=hS.o.cell (8+j)
      rw[agG,if_pos (by omega)] at hc
      have hl:=hS.o.lt
      have hz:=hS.o.frozen (8+j)
      clear hS
      go_wp2
      go_roundw
      case rel=>exact ⟨j+1,upd f (8+j) (Y j),by omega,by go_num,HS.out.put hq hq2 (8+j) (Y j),fun i hi=>by rw[uOt _ _ _ (by omega)];exact HP1.out i hi,fun i hi=>by
        by_cases h:i=j
        ·subst h;rw[upd_same]
        ·rw[uOt _ _ _ (by omega)];exact HP2.out i (by omega)⟩
      case measure=>simp[intOf];omega
     ·have hj8:j=8:=by omega
      subst hj8
      have g0:=hS.h.cell 0
      have g1:=hS.h.cell 1
      have g2:=hS.h.cell 2
      have g3:=hS.h.cell 3
      simp at g0 g1 g2 g3
      clear hS
      go_wp2_with fail
      refine (s7.out _).mono ?_
      rintro e w4 ⟨rfl,hb4⟩
      have F4:Hid _:=HS.out.call hb4
      clear HS hb4 g0 g1 g2 g3
      go_wp2_with fail
      refine (s8.out _).mono ?_
      rintro e w5 ⟨rfl,hb5⟩
      have F5:Hid _:=F4.out.call hb5
      clear F4 hb5
      have hi:=run_idx8 Z 0 (by omega) (.int .i64 0) rfl
      have hc:=F5.out.o.cell 16
      rw[agG,if_pos (by omega)] at hc
      have hl:=F5.out.o.lt
      have hz:=F5.out.o.frozen 16
      go_upto_region 15 with fail
      have E:w5.setCell ⟨bo,16,none⟩ (.int .u32 (Z 0:Nat))=w5.setCell ⟨bo,16,none⟩ (.int .u32 (Z 0:Nat)):=rfl
      have F6:=F5.out.put hq hq2 16 (Z 0)
      generalize w5.setCell ⟨bo,16,none⟩ (.int .u32 (Z 0:Nat))=w6 at *
      refine wp_region_lit ?_
      refine wpList_vload rfl 169 (.tmp 9) rfl bo rfl .u32 17 _ F6.o Tryz.underlying169 (by kernel_rfl) ?_
      intro v hv
      have hsz:=hv.size
      have hsc:=rSv (P:=Tryz.prog) hv (g:=w.heap.size+1+1) 169 (by kernel_rfl) (StoreTo.row F6.r rfl)
      have F7:Hid _:=F6
      clear hv F6 F5 hc hi E hz
      go_wp2
      refine bodyPost_ret (v:=L17 (upd f 16 (Z 0))) (rC1 (p:=6) (ty:=169) rfl (g:=w.heap.size+1+1) rfl (F7.out.r.set_same _) (agS _ _ _) Tryz.underlying169 (by kernel_rfl)) rfl ⟨⟨upd f 16 (Z 0),fun i hi=>by rw[uOt _ _ _ (by omega)];exact HP1.out i hi,fun i hi=>by rw[uOt _ _ _ (by omega)];exact HP2.out i hi,upd_same _ _ _,rfl⟩,bSR F7.out.b (by omega) _⟩
end
section
open Go.RowKit Go.Sort
theorem W_two:W=2^256:=by decide +kernel
theorem shl_split(x k:Nat)(hk:k≤256):x*2^k/W=x/2^(256-k):=by
 have e:W=2^(256-k)*2^k:=by rw[← Nat.pow_add,show 256-k+k=256 by omega,W_two]
 rw[e,Nat.mul_div_mul_right _ _ (Nat.two_pow_pos k)]
theorem mid_or(high low k:Nat)(hl:low<W)(hk:k≤256):shlW high k ||| shrW low (256-k)=high*2^k%W+low/2^(256-k):=by
 unfold shlW shrW
 have hlt:low/2^(256-k)<2^k:=by
  refine Nat.div_lt_of_lt_mul ?_
  rw[← Nat.pow_add,show 256-k+k=256 by omega,← W_two];exact hl
 have e:high*2^k%W=2^k*(high%2^(256-k)):=by
  have e:W=2^(256-k)*2^k:=by rw[← Nat.pow_add,show 256-k+k=256 by omega,W_two]
  rw[e,Nat.mul_mod_mul_right,Nat.mul_comm]
 rw[e,← Nat.two_pow_add_eq_or_of_lt hlt]
theorem shifted_any(high low k:Nat)(hh:high<W)(hl:low<W)(hk:k<32)(w:World) :
  Calls Tryz.prog 160 #[U high,U low,B k] w fun e w'=>
   (∃ f:Nat→Nat,((∀ i,i<17→f i<D)∧vl f 0 17=(high*W+low)*2^k)∧e=.returned (L17 f))∧Below w.heap.size w w':=by
 have hm:=mid_or high low k hl (by omega)
 have hmW:shlW high k ||| shrW low (256-k)<W:=by
  have h1:=shlW_lt high k
  have h2:=shrW_lt low (256-k) hl
  rw[W_two] at *
  exact Nat.or_lt_two_pow h1 h2
 refine (shifted_raw high low k (256-k) (shlW high k) (shrW low (256-k)) (shlW high k ||| shrW low (256-k)) (shlW low k) (shrW high (256-k)) (dg (shlW low k)) (dg (shlW high k ||| shrW low (256-k))) (dg (shrW high (256-k)))
  (by simp only[IntKind.wrap_u64];omega) (shl_any high k hh) (shr_any low (256-k) hl) (or_any _ _) (shl_any low k hl) (split_any _) (split_any _) (shr_any high (256-k) hh) (split_any _) w).mono ?_
 rintro e w' ⟨⟨f,h1,h2,h3,rfl⟩,hb⟩
 refine ⟨⟨f,⟨fun i hi=>?_,?_⟩,rfl⟩,hb⟩
 ·rcases Nat.lt_or_ge i 8 with h | h
  ·rw[h1 i h];exact dg_lt _ _
  ·rcases Nat.lt_or_ge i 16 with h' | h'
   ·have:=h2 (i-8) (by omega)
    rw[show 8+(i-8)=i by omega] at this
    rw[this];exact dg_lt _ _
   ·rw[show i=16 by omega,h3];exact dg_lt _ _
 ·have e1:vl f 0 8=shlW low k:=by
   rw[vl_congr (g:=dg (shlW low k)) (fun i hi=>by rw[Nat.zero_add];exact h1 i hi)]
   exact vl_dg_lt (by rw[← W_D];exact shlW_lt _ _)
  have e2:vl f 8 8=shlW high k ||| shrW low (256-k):=by
   rw[← vl_dg_lt (x:=shlW high k ||| shrW low (256-k)) (n:=8) (by rw[← W_D];exact hmW)]
   have:∀ n,n≤8→vl f 8 n=vl (dg (shlW high k ||| shrW low (256-k))) 0 n:=by
    intro n
    induction n with
    | zero=>intro _;rfl
    | succ n ih=>intro hn;rw[vl,vl,ih (by omega),h2 n (by omega),Nat.zero_add]
   exact this 8 (Nat.le_refl _)
  have hH:shrW high (256-k)<2^k:=by
   unfold shrW
   refine Nat.div_lt_of_lt_mul ?_
   rw[← Nat.pow_add,show 256-k+k=256 by omega,← W_two];exact hh
  have hkD:2^k<D:=by
   have:2^k<2^32:=Nat.pow_lt_pow_right (by decide) hk
   exact this
  have e3:f 16=shrW high (256-k):=by
   rw[h3]
   unfold dg
   rw[Nat.pow_zero,Nat.div_one,Nat.mod_eq_of_lt (by omega)]
  have s1:vl f 0 17=vl f 0 8+D^8*vl f 8 9:=vl_add f 0 8 9
  have s2:vl f 8 9=vl f 8 8+f 16*D^8:=rfl
  rw[s1,s2,e1,e2,e3,hm,← W_D]
  unfold shlW shrW
  rw[← shl_split high k (by omega),← shl_split low k (by omega)]
  have d1:=Nat.div_add_mod (low*2^k) W
  have d2:=Nat.div_add_mod (high*2^k) W
  have goal:(high*W+low)*2^k=W*(high*2^k)+low*2^k:=by rw[Nat.add_mul,Nat.mul_comm high W,Nat.mul_assoc]
  rw[goal]
  generalize low*2^k=L at *
  generalize high*2^k=H at *
  generalize L/W=a at *
  generalize L%W=b at *
  generalize H/W=c at *
  generalize H%W=d at *
  clear goal e1 e2 e3 s1 s2 hm hmW h1 h2 h3 hH hkD hb
  subst d1
  subst d2
  generalize W=V
  rw[Nat.mul_add,Nat.mul_add,Nat.mul_add,Nat.mul_comm c V]
  omega
end
end Go.Proofs.YtfhppenjbmmadaaGreatDoor
