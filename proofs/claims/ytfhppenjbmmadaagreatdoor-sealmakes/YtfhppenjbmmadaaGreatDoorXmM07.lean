import Derived.Test.YtfhppenjbmmadaaGreatDoorXmM05
import Derived.Deep.DeepCutAuto
import Derived.Deep.Light
import Derived.BigCall
namespace Go.Proofs.YtfhppenjbmmadaaGreatDoor
set_option linter.unusedVariables false
set_option maxHeartbeats 8000000
section
open Go.RowKit Go.Sort
attribute [local go_sem] setCell_drewN
abbrev z16:Array Value:=#[.int .u32 0,.int .u32 0,.int .u32 0,.int .u32 0,.int .u32 0,.int .u32 0,.int .u32 0,.int .u32 0,.int .u32 0,.int .u32 0,.int .u32 0,.int .u32 0,.int .u32 0,.int .u32 0,.int .u32 0,.int .u32 0]
abbrev z8:Array Value:=#[.int .u32 0,.int .u32 0,.int .u32 0,.int .u32 0,.int .u32 0,.int .u32 0,.int .u32 0,.int .u32 0]
theorem num_mac{c x y f:Nat}(hc:c<D)(hx:x<D)(hy:y<D)(hf:f<D) :
  IntKind.u64.wrap ((c:Int)+IntKind.u64.wrap (IntKind.u64.wrap (IntKind.u64.wrap (x:Int)*IntKind.u64.wrap (y:Int))+IntKind.u64.wrap (f:Int)))=((c+(x*y+f):Nat):Int)∧(c+(x*y+f))/D<D:=by
 have h:=digit_mul hx hy
 have e1:IntKind.u64.wrap (x:Int)=(x:Int):=by simp only[IntKind.wrap_u64];unfold D at *;omega
 have e2:IntKind.u64.wrap (y:Int)=(y:Int):=by simp only[IntKind.wrap_u64];unfold D at *;omega
 rw[e1,e2,show (x:Int)*(y:Int)=((x*y:Nat):Int) by simp]
 generalize x*y=p at *
 simp only[IntKind.wrap_u64]
 unfold D at *
 refine ⟨by omega,by omega⟩
structure MK (f0 f' X Y:Nat→Nat) (j l c:Nat):Prop where
 hc:c<D
 hf:∀ i,i<16→f' i<D
 ho:∀ i,i<j∨j+l≤i→f' i=f0 i
 hv:vl f' j l+c*D^l=vl f0 j l+X j*vl Y 0 l
theorem MK.start{f X Y:Nat→Nat}{j:Nat}(hf:∀ i,i<16→f i<D):MK f f X Y j 0 0:=⟨D_pos,hf,fun _ _=>rfl,by simp[vl]⟩
theorem MK.step{f0 f' X Y:Nat→Nat}{j l c:Nat}(h:MK f0 f' X Y j l c)(hc':(c+(X j*Y l+f' (j+l)))/D<D) :
  MK f0 (upd f' (j+l) ((c+(X j*Y l+f' (j+l)))%D)) X Y j (l+1) ((c+(X j*Y l+f' (j+l)))/D) where
 hc:=hc'
 hf:=upd_lt h.hf (Nat.mod_lt _ D_pos)
 ho i hi:=by rw[uOt _ _ _ (by omega)];exact h.ho i (by omega)
 hv:=by
  have e0:=h.ho (j+l) (by omega)
  have hv:=h.hv
  rw[vl_upd_top,vl,vl,Nat.zero_add,Nat.pow_succ,← e0]
  have hm:=Nat.div_add_mod (c+(X j*Y l+f' (j+l))) D
  generalize (c+(X j*Y l+f' (j+l)))/D=c' at *
  generalize (c+(X j*Y l+f' (j+l)))%D=r at *
  generalize D^l=Pw at *
  have e1:vl f' j l+r*Pw+c'*(Pw*D)=vl f' j l+(D*c'+r)*Pw:=by grind
  rw[e1,hm]
  have e2:vl f' j l+(c+(X j*Y l+f' (j+l)))*Pw=(vl f' j l+c*Pw)+(X j*Y l+f' (j+l))*Pw:=by grind
  rw[e2,hv];grind
structure OK (f X Y:Nat→Nat) (j:Nat):Prop where
 hf:∀ i,i<16→f i<D
 hz:∀ i,j+8≤i→f i=0
 hv:vl f 0 (j+8)=vl X 0 j*vl Y 0 8
theorem OK.start(X Y:Nat→Nat):OK (fun _=>0) X Y 0:=⟨fun _ _=>D_pos,fun _ _=>rfl,by rw[vl_of_zero (fun _ _=>rfl)];simp[vl]⟩
theorem OK.step{f f' X Y:Nat→Nat}{j c:Nat}(h:OK f X Y j)(hj:j<8)(hm:MK f f' X Y j 8 c):OK (upd f' (j+8) c) X Y (j+1) where
 hf:=upd_lt hm.hf hm.hc
 hz i hi:=by rw[uOt _ _ _ (by omega),hm.ho i (by omega),h.hz i (by omega)]
 hv:=by
  have e1:vl (upd f' (j+8) c) 0 (j+1+8)=vl (upd f' (j+8) c) 0 j+D^j*vl (upd f' (j+8) c) j 9:=by
   rw[show j+1+8=j+9 by omega,vl_add,Nat.zero_add]
  have e2:vl (upd f' (j+8) c) 0 j=vl f 0 j:=vl_congr fun i hi=>by rw[uOt _ _ _ (by omega),hm.ho _ (by omega)]
  have e3:vl (upd f' (j+8) c) j 9=vl f' j 8+c*D^8:=vl_upd_top f' j 8 c
  have e4:=vl_add f 0 j 8
  rw[Nat.zero_add,h.hv] at e4
  have eX:vl X 0 (j+1)=vl X 0 j+X j*D^j:=by rw[vl,Nat.zero_add]
  rw[e1,e2,e3,hm.hv,Nat.mul_add,← Nat.add_assoc,← e4,eX]
  clear e1 e2 e3 e4 eX
  generalize vl X 0 j=A
  generalize vl Y 0 8=Bb
  generalize D^j=Pw
  generalize X j=x
  clear hm h
  grind
structure CX (W0:World) (u0 u1:Value) (X Y:Nat→Nat) (lz:Array Bool) (vs:Nat→Value) (w':World):Prop where
 b:Below W0.heap.size W0 w'
 c0:lz.getD 0 false=true→vs 0=u0
 c1:lz.getD 1 false=true→vs 1=L8 X
 c2:lz.getD 2 false=true→vs 2=u1
 c3:lz.getD 3 false=true→vs 3=L8 Y
 c4:lz.getD 4 false=true→∃ g c,vs 4=.pointer (some ⟨g,0,none⟩)∧W0.heap.size≤g∧HRw w' g c∧c.size=8∧(lz.getD 6 false=true→c=ag .u32 8 X)
 c5:lz.getD 5 false=true→∃ g c,vs 5=.pointer (some ⟨g,0,none⟩)∧W0.heap.size≤g∧HRw w' g c∧c.size=8∧(lz.getD 7 false=true→c=ag .u32 8 Y)
 c45:lz.getD 4 false=true→lz.getD 5 false=true→vs 4≠vs 5
 c64:lz.getD 6 false=true→lz.getD 4 false=true
 c75:lz.getD 7 false=true→lz.getD 5 false=true
structure CY (w:World) (bo r4 r5:Nat) (f:Nat→Nat) (hi lo:Nat) (lz:Array Bool) (vs:Nat→Value) (w':World):Prop where
 b:Below w.heap.size w w'
 o:HRw w' bo (ag .u32 16 f)
 c0:lz.getD 0 false=true→vs 0=.slice (some ⟨bo,8,none⟩) 8 8
 c1:lz.getD 1 false=true→vs 1=U hi
 c2:lz.getD 2 false=true→vs 2=.slice (some ⟨bo,0,none⟩) 8 16
 c3:lz.getD 3 false=true→vs 3=U lo
 c4:∃ c,HRw w' r4 c∧c.size=4∧(lz.getD 4 false=true→.agg c=U hi)
 c5:∃ c,HRw w' r5 c∧c.size=4∧(lz.getD 5 false=true→.agg c=U lo)
set_option maxRecDepth 100000 in
theorem wide_raw(a0 a1 a2 a3 b0 b1 b2 b3:Nat)(X Y:Nat→Nat)(hX:∀ i,i<8→X i<D)(hY:∀ i,i<8→Y i<D)(sa:Hid (∀ w,Calls Tryz.prog 151 #[U4 a0 a1 a2 a3] w fun e w'=>e=.returned (L8 X)∧Below w.heap.size w w'))(sb:Hid (∀ w,Calls Tryz.prog 151 #[U4 b0 b1 b2 b3] w fun e w'=>e=.returned (L8 Y)∧Below w.heap.size w w'))(w:World) :
  Calls Tryz.prog 137 #[U4 a0 a1 a2 a3,U4 b0 b1 b2 b3] w fun e w'=>
   (∃ f,OK f X Y 8∧e=.returned (.tuple #[U (vl (fun i=>f (8+i)) 0 8),U (vl f 0 8)]))∧Below w.heap.size w w':=by
 have GX:Hid _:=hX
 have GY:Hid _:=hY
 clear hX hY
 go_enter Tryz.func137,Tryz.ntmps137
 go_wp2
 go_cut [6,7] (fun s6 s7 w'=>∃ bx by',s6=.pointer (some ⟨bx,0,none⟩)∧s7=.pointer (some ⟨by',0,none⟩)∧bx<w'.heap.size∧by'<w'.heap.size∧(∀ i,i<8→w'.cell? ⟨bx,i,none⟩=some (.int .u32 (X i:Nat)))∧(∀ i,i<8→w'.cell? ⟨by',i,none⟩=some (.int .u32 (Y i:Nat)))∧Old ((((w.alloc (Obj.cells #[B a0,B a1,B a2,B a3] 24)).alloc (Obj.cells #[B b0,B b1,B b2,B b3] 24)).alloc (Obj.cells #[.int .u64 0,.int .u64 0,.int .u64 0,.int .u64 0] 24)).alloc (Obj.cells #[.int .u64 0,.int .u64 0,.int .u64 0,.int .u64 0] 24)) w')
 case first=>
  have r0:∀ w',Below ((((w.alloc (Obj.cells #[B a0,B a1,B a2,B a3] 24)).alloc (Obj.cells #[B b0,B b1,B b2,B b3] 24)).alloc (Obj.cells #[.int .u64 0,.int .u64 0,.int .u64 0,.int .u64 0] 24)).alloc (Obj.cells #[.int .u64 0,.int .u64 0,.int .u64 0,.int .u64 0] 24)).heap.size ((((w.alloc (Obj.cells #[B a0,B a1,B a2,B a3] 24)).alloc (Obj.cells #[B b0,B b1,B b2,B b3] 24)).alloc (Obj.cells #[.int .u64 0,.int .u64 0,.int .u64 0,.int .u64 0] 24)).alloc (Obj.cells #[.int .u64 0,.int .u64 0,.int .u64 0,.int .u64 0] 24)) w'→HRw w' w.heap.size #[B a0,B a1,B a2,B a3]:=fun w' hb=>(HRw.old (HRw.old (HRw.old (HRw.last rfl)))).below hb
  have r1:∀ w',Below ((((w.alloc (Obj.cells #[B a0,B a1,B a2,B a3] 24)).alloc (Obj.cells #[B b0,B b1,B b2,B b3] 24)).alloc (Obj.cells #[.int .u64 0,.int .u64 0,.int .u64 0,.int .u64 0] 24)).alloc (Obj.cells #[.int .u64 0,.int .u64 0,.int .u64 0,.int .u64 0] 24)).heap.size ((((w.alloc (Obj.cells #[B a0,B a1,B a2,B a3] 24)).alloc (Obj.cells #[B b0,B b1,B b2,B b3] 24)).alloc (Obj.cells #[.int .u64 0,.int .u64 0,.int .u64 0,.int .u64 0] 24)).alloc (Obj.cells #[.int .u64 0,.int .u64 0,.int .u64 0,.int .u64 0] 24)) w'→HRw w' (w.heap.size+1) #[B b0,B b1,B b2,B b3]:=fun w' hb=>(HRw.old (HRw.old (HRw.last (by simp)))).below hb
  generalize ((((w.alloc (Obj.cells #[B a0,B a1,B a2,B a3] 24)).alloc (Obj.cells #[B b0,B b1,B b2,B b3] 24)).alloc (Obj.cells #[.int .u64 0,.int .u64 0,.int .u64 0,.int .u64 0] 24)).alloc (Obj.cells #[.int .u64 0,.int .u64 0,.int .u64 0,.int .u64 0] 24))=W0 at *
  refine wp_region_vals (by kernel_rfl) (by kernel_rfl) (by kernel_rfl) (CX W0 (U4 a0 a1 a2 a3) (U4 b0 b1 b2 b3) X Y) ?_ ?_ ?_
  ·refine ⟨(Below.refl _ _).drew,?_,?_,?_,?_,?_,?_,?_,?_,?_⟩<;>(intro h;simp[Array.getD] at h)
  ·intro lz vs a' w' i o hs ho hi hF cc
   have hi8:i<8:=by have:=(Array.getElem?_eq_some_iff.1 ho).1;simpa using this
   have hcase:i=0∨i=1∨i=2∨i=3∨i=4∨i=5∨i=6∨i=7:=by omega
   rcases hcase with rfl | rfl | rfl | rfl | rfl | rfl | rfl | rfl
   ·simp at ho
    subst ho
    have T:=dT lz 0
    have S:=dS lz 0
    refine wp_rowF 24 (.tmp 2) rfl w.heap.size ((hF.old (by kernel_rfl)).trans rfl) (r0 w' cc.b) rfl Tryz.underlying24 (by kernel_rfl) ⟨_,rfl,⟨cc.b,fun _=>rfl,fun h=>cc.c1 (T 1 (by decide) h),fun h=>cc.c2 (T 2 (by decide) h),fun h=>cc.c3 (T 3 (by decide) h),fun h=>by obtain ⟨g,c,e,h1,h2,h3,h4⟩:=cc.c4 (T 4 (by decide) h);exact ⟨g,c,e,h1,h2,h3,fun h6=>h4 (T 6 (by decide) h6)⟩,fun h=>by obtain ⟨g,c,e,h1,h2,h3,h4⟩:=cc.c5 (T 5 (by decide) h);exact ⟨g,c,e,h1,h2,h3,fun h6=>h4 (T 7 (by decide) h6)⟩,fun h h'=>cc.c45 (T 4 (by decide) h) (T 5 (by decide) h'),fun h=>S 4 (cc.c64 (T 6 (by decide) h)),fun h=>S 5 (cc.c75 (T 7 (by decide) h))⟩⟩
   ·simp at ho
    subst ho
    have T:=dT lz 1
    have S:=dS lz 1
    have hv:=((hF.new (t:=12) (i:=0) (by kernel_rfl) (by simp) (wDn (i:=1) (j:=0) (by kernel_rfl) hi)).trans (cc.c0 (wDn (i:=1) (j:=0) (by kernel_rfl) hi)))
    refine wp_callF (f:=151) (args:=#[U4 a0 a1 a2 a3]) (v:=L8 X) (by simp[execOp_call_go,ev hv,go_sem]) (sa.out w') ?_
    intro w'' hb''
    exact ⟨_,rfl,⟨cc.b.trans (hb''.mono cc.b.size),fun h=>cc.c0 (T 0 (by decide) h),fun _=>rfl,fun h=>cc.c2 (T 2 (by decide) h),fun h=>cc.c3 (T 3 (by decide) h),fun h=>by obtain ⟨g,c,e,h1,h2,h3,h4⟩:=cc.c4 (T 4 (by decide) h);exact ⟨g,c,e,h1,h2.below hb'',h3,fun h6=>h4 (T 6 (by decide) h6)⟩,fun h=>by obtain ⟨g,c,e,h1,h2,h3,h4⟩:=cc.c5 (T 5 (by decide) h);exact ⟨g,c,e,h1,h2.below hb'',h3,fun h6=>h4 (T 7 (by decide) h6)⟩,fun h h'=>cc.c45 (T 4 (by decide) h) (T 5 (by decide) h'),fun h=>S 4 (cc.c64 (T 6 (by decide) h)),fun h=>S 5 (cc.c75 (T 7 (by decide) h))⟩⟩
   ·simp at ho
    subst ho
    have T:=dT lz 2
    have S:=dS lz 2
    refine wp_rowF 24 (.tmp 3) rfl (w.heap.size+1) ((hF.old (by kernel_rfl)).trans rfl) (r1 w' cc.b) rfl Tryz.underlying24 (by kernel_rfl) ⟨_,rfl,⟨cc.b,fun h=>cc.c0 (T 0 (by decide) h),fun h=>cc.c1 (T 1 (by decide) h),fun _=>rfl,fun h=>cc.c3 (T 3 (by decide) h),fun h=>by obtain ⟨g,c,e,h1,h2,h3,h4⟩:=cc.c4 (T 4 (by decide) h);exact ⟨g,c,e,h1,h2,h3,fun h6=>h4 (T 6 (by decide) h6)⟩,fun h=>by obtain ⟨g,c,e,h1,h2,h3,h4⟩:=cc.c5 (T 5 (by decide) h);exact ⟨g,c,e,h1,h2,h3,fun h6=>h4 (T 7 (by decide) h6)⟩,fun h h'=>cc.c45 (T 4 (by decide) h) (T 5 (by decide) h'),fun h=>S 4 (cc.c64 (T 6 (by decide) h)),fun h=>S 5 (cc.c75 (T 7 (by decide) h))⟩⟩
   ·simp at ho
    subst ho
    have T:=dT lz 3
    have S:=dS lz 3
    have hv:=((hF.new (t:=14) (i:=2) (by kernel_rfl) (by simp) (wDn (i:=3) (j:=2) (by kernel_rfl) hi)).trans (cc.c2 (wDn (i:=3) (j:=2) (by kernel_rfl) hi)))
    refine wp_callF (f:=151) (args:=#[U4 b0 b1 b2 b3]) (v:=L8 Y) (by simp[execOp_call_go,ev hv,go_sem]) (sb.out w') ?_
    intro w'' hb''
    exact ⟨_,rfl,⟨cc.b.trans (hb''.mono cc.b.size),fun h=>cc.c0 (T 0 (by decide) h),fun h=>cc.c1 (T 1 (by decide) h),fun h=>cc.c2 (T 2 (by decide) h),fun _=>rfl,fun h=>by obtain ⟨g,c,e,h1,h2,h3,h4⟩:=cc.c4 (T 4 (by decide) h);exact ⟨g,c,e,h1,h2.below hb'',h3,fun h6=>h4 (T 6 (by decide) h6)⟩,fun h=>by obtain ⟨g,c,e,h1,h2,h3,h4⟩:=cc.c5 (T 5 (by decide) h);exact ⟨g,c,e,h1,h2.below hb'',h3,fun h6=>h4 (T 7 (by decide) h6)⟩,fun h h'=>cc.c45 (T 4 (by decide) h) (T 5 (by decide) h'),fun h=>S 4 (cc.c64 (T 6 (by decide) h)),fun h=>S 5 (cc.c75 (T 7 (by decide) h))⟩⟩
   ·simp at ho
    subst ho
    have T:=dT lz 4
    have S:=dS lz 4
    have hun:¬ lz.getD 4 false=true:=fun h=>undone hi hs h
    refine wVF (v:=.pointer (some ⟨w'.heap.size,0,none⟩)) (w1:=w'.alloc (.cells z8 159)) (by simp[execOp,go_sem]) ⟨_,rfl,⟨cc.b.alloc cc.b.size _,fun h=>cc.c0 (T 0 (by decide) h),fun h=>cc.c1 (T 1 (by decide) h),fun h=>cc.c2 (T 2 (by decide) h),fun h=>cc.c3 (T 3 (by decide) h),fun _=>⟨w'.heap.size,z8,rfl,cc.b.size,HRw.last rfl,rfl,fun h6=>absurd (cc.c64 (T 6 (by decide) h6)) hun⟩,fun h=>by obtain ⟨g,c,e,h1,h2,h3,h4⟩:=cc.c5 (T 5 (by decide) h);exact ⟨g,c,e,h1,h2.old,h3,fun h6=>h4 (T 7 (by decide) h6)⟩,fun _ h=>by obtain ⟨g,c,e,h1,h2,h3,h4⟩:=cc.c5 (T 5 (by decide) h);have:=h2.lt;show Value.pointer (some ⟨w'.heap.size,0,none⟩)≠vs 5;rw[e];intro q;simp at q;try omega,fun h=>S 4 (cc.c64 (T 6 (by decide) h)),fun h=>S 5 (cc.c75 (T 7 (by decide) h))⟩⟩
   ·simp at ho
    subst ho
    have T:=dT lz 5
    have S:=dS lz 5
    have hun:¬ lz.getD 5 false=true:=fun h=>undone hi hs h
    refine wVF (v:=.pointer (some ⟨w'.heap.size,0,none⟩)) (w1:=w'.alloc (.cells z8 159)) (by simp[execOp,go_sem]) ⟨_,rfl,⟨cc.b.alloc cc.b.size _,fun h=>cc.c0 (T 0 (by decide) h),fun h=>cc.c1 (T 1 (by decide) h),fun h=>cc.c2 (T 2 (by decide) h),fun h=>cc.c3 (T 3 (by decide) h),fun h=>by obtain ⟨g,c,e,h1,h2,h3,h4⟩:=cc.c4 (T 4 (by decide) h);exact ⟨g,c,e,h1,h2.old,h3,fun h6=>h4 (T 6 (by decide) h6)⟩,fun _=>⟨w'.heap.size,z8,rfl,cc.b.size,HRw.last rfl,rfl,fun h6=>absurd (cc.c75 (T 7 (by decide) h6)) hun⟩,fun h _=>by obtain ⟨g,c,e,h1,h2,h3,h4⟩:=cc.c4 (T 4 (by decide) h);have:=h2.lt;show vs 4≠Value.pointer (some ⟨w'.heap.size,0,none⟩);rw[e];intro q;simp at q;try omega,fun h=>S 4 (cc.c64 (T 6 (by decide) h)),fun h=>S 5 (cc.c75 (T 7 (by decide) h))⟩⟩
   ·simp at ho
    subst ho
    have T:=dT lz 6
    have S:=dS lz 6
    have d4:=(wDn (i:=6) (j:=4) (by kernel_rfl) hi)
    obtain ⟨g,c,e,h1,h2,h3,h4⟩:=cc.c4 d4
    have hx:=(hF.new (t:=6) (i:=4) (by kernel_rfl) (by simp) d4).trans e
    have hv:=((hF.new (t:=13) (i:=1) (by kernel_rfl) (by simp) (wDn (i:=6) (j:=1) (by kernel_rfl) hi)).trans (cc.c1 (wDn (i:=6) (j:=1) (by kernel_rfl) hi)))
    refine wp_rowS 159 (.tmp 6) (.tmp 13) rfl g (c':=ag .u32 8 X) hx hv h2 h3 (agS _ _ _) (ag_one _ _ _) (by kernel_rfl) ⟨_,rfl,⟨bSR cc.b h1 _,fun h=>cc.c0 (T 0 (by decide) h),fun h=>cc.c1 (T 1 (by decide) h),fun h=>cc.c2 (T 2 (by decide) h),fun h=>cc.c3 (T 3 (by decide) h),fun h=>⟨g,_,e,h1,h2.set_same _,agS _ _ _,fun _=>rfl⟩,fun h=>by obtain ⟨g',c',e',k1,k2,k3,k4⟩:=cc.c5 (T 5 (by decide) h);exact ⟨g',c',e',k1,k2.set_other _ (by rintro rfl;exact cc.c45 d4 (T 5 (by decide) h) (by rw[e,e'])),k3,fun h6=>k4 (T 7 (by decide) h6)⟩,fun h h'=>cc.c45 (T 4 (by decide) h) (T 5 (by decide) h'),fun _=>S 4 d4,fun h=>S 5 (cc.c75 (T 7 (by decide) h))⟩⟩
   ·simp at ho
    subst ho
    have T:=dT lz 7
    have S:=dS lz 7
    have d4:=(wDn (i:=7) (j:=5) (by kernel_rfl) hi)
    obtain ⟨g,c,e,h1,h2,h3,h4⟩:=cc.c5 d4
    have hx:=(hF.new (t:=7) (i:=5) (by kernel_rfl) (by simp) d4).trans e
    have hv:=((hF.new (t:=15) (i:=3) (by kernel_rfl) (by simp) (wDn (i:=7) (j:=3) (by kernel_rfl) hi)).trans (cc.c3 (wDn (i:=7) (j:=3) (by kernel_rfl) hi)))
    refine wp_rowS 159 (.tmp 7) (.tmp 15) rfl g (c':=ag .u32 8 Y) hx hv h2 h3 (agS _ _ _) (ag_one _ _ _) (by kernel_rfl) ⟨_,rfl,⟨bSR cc.b h1 _,fun h=>cc.c0 (T 0 (by decide) h),fun h=>cc.c1 (T 1 (by decide) h),fun h=>cc.c2 (T 2 (by decide) h),fun h=>cc.c3 (T 3 (by decide) h),fun h=>by obtain ⟨g',c',e',k1,k2,k3,k4⟩:=cc.c4 (T 4 (by decide) h);exact ⟨g',c',e',k1,k2.set_other _ (by rintro rfl;exact cc.c45 (T 4 (by decide) h) d4 (by rw[e,e'])),k3,fun h6=>k4 (T 6 (by decide) h6)⟩,fun h=>⟨g,_,e,h1,h2.set_same _,agS _ _ _,fun _=>rfl⟩,fun h h'=>cc.c45 (T 4 (by decide) h) (T 5 (by decide) h'),fun h=>S 4 (cc.c64 (T 6 (by decide) h)),fun _=>S 5 d4⟩⟩
  ·intro lz vs a' w' hd hF cc
   have e:a'=({ tmps:=#[U4 a0 a1 a2 a3,U4 b0 b1 b2 b3,.pointer (some ⟨w.heap.size,0,none⟩),.pointer (some ⟨w.heap.size+1,0,none⟩),.pointer (some ⟨w.heap.size+1+1,0,none⟩),.pointer (some ⟨w.heap.size+1+1+1,0,none⟩),vs 4,vs 5,undef,undef,undef,undef,vs 0,vs 1,vs 2,vs 3,undef,undef,undef,undef,undef,undef,undef,undef,undef,undef,undef,undef,undef,undef,undef,undef,undef,undef,undef,undef,undef,undef,undef,undef,undef,undef,undef,undef,undef,undef,undef,undef,undef,undef,undef,undef,undef,undef,undef,undef,undef,undef,undef],defers:=[] }:Act):=(hF.all hd).trans (by kernel_rfl)
   subst e
   obtain ⟨g,c,e4,h1,h2,h3,h4⟩:=cc.c4 (hd 4 (by simp))
   obtain ⟨g',c',e5,k1,k2,k3,k4⟩:=cc.c5 (hd 5 (by simp))
   have HH:Hid (vs 4=.pointer (some ⟨g,0,none⟩)∧vs 5=.pointer (some ⟨g',0,none⟩)∧HRw w' g (ag .u32 8 X)∧HRw w' g' (ag .u32 8 Y)∧Below W0.heap.size W0 w'):=⟨e4,e5,h4 (hd 6 (by simp)) ▸ h2,k4 (hd 7 (by simp)) ▸ k2,cc.b⟩
   clear e4 e5 h1 h2 h3 h4 k1 k2 k3 k4 cc hd r0 r1 hF
   go_wp2_with fail
   go_meet
   case rel=>
    obtain ⟨e4,e5,h2,k2,hb⟩:=HH.out
    refine ⟨g,g',e4,e5,h2.lt,k2.lt,fun i hi=>?_,fun i hi=>?_,old_of hb⟩
    ·rw[h2.cell,agG,if_pos hi]
    ·rw[k2.cell,agG,if_pos hi]
 case rest=>
  obtain ⟨bx,by',rfl,rfl,hbx,hby,hX,hY,ho,hbel⟩:=hcut
  clear sa sb
  have HX:Hid _:=hX
  have HY:Hid _:=hY
  have R4:Hid (HRw wc (w.heap.size+1+1) #[.int .u64 0,.int .u64 0,.int .u64 0,.int .u64 0]):=(HRw.old (HRw.last (by simp))).below hbel
  have R5:Hid (HRw wc (w.heap.size+1+1+1) #[.int .u64 0,.int .u64 0,.int .u64 0,.int .u64 0]):=(HRw.last (by simp)).below hbel
  have HO:Hid (Below w.heap.size w wc):=bCl (by (repeat (first | exact Below.refl _ _ | refine bAl ?_ _))) hbel
  have Hz:Hid (w.heap.size+1+1+1<wc.heap.size):=R5.out.lt
  clear hX hY ho hbel
  go_wp2
  go_loopw [16] (fun i w'=>∃ (j nq:Nat) (f:Nat→Nat),j≤8∧i=.int .i64 (j:Int)∧w'=(wc.alloc (Obj.cells (ag .u32 16 f) 162)).drewN nq∧OK f X Y j) (fun i _=>8-(intOf i).toNat)
  case atStart=>exact ⟨0,0,fun _=>0,by omega,rfl,rfl,OK.start X Y⟩
  case round=>
   obtain ⟨j,nq,f,hj,rfl,rfl,hO⟩:=hrel
   have KO:Hid _:=hO
   clear hO
   by_cases hlt:j<8
   ·have hx:=HX.out j hlt
    go_wp2
    go_loopw [10,19] (fun c i w'=>∃ (l cn nq:Nat) (f':Nat→Nat),l≤8∧i=.int .i64 (l:Int)∧c=B cn∧w'=(wc.alloc (Obj.cells (ag .u32 16 f') 162)).drewN nq∧MK f f' X Y j l cn) (fun _ i _=>8-(intOf i).toNat)
    case atStart=>exact ⟨0,0,nq,f,by omega,rfl,rfl,rfl,MK.start KO.out.hf⟩
    case round=>
     obtain ⟨l,cn,nq',f',hl,rfl,rfl,rfl,hM⟩:=hrel
     have KM:Hid _:=hM
     clear hM
     by_cases hlt2:l<8
     ·have hy:=HY.out l hlt2
      have hc1:(ag .u32 16 f')[j+l]? = some (.int .u32 (f' (j+l):Nat)):=by rw[agG,if_pos (by omega)]
      go_wp2
      go_region
      go_wp2
      go_roundw
      case rel=>
       have hM:=KM.out
       obtain ⟨e1,e2⟩:=num_mac hM.hc (GX.out j hlt) (GY.out l hlt2) (hM.hf (j+l) (by omega))
       refine ⟨l+1,_,nq'+1,_,by omega,by go_num,?_,?_,hM.step e2⟩
       ·rw[e1,cast_div]
       ·rw[e1,cast_mod,ag_set];try rfl
      case measure=>simp[intOf];omega
     ·have hl8:l=8:=by omega
      subst hl8
      have hc1:(ag .u32 16 f')[j+8]? = some (.int .u32 (f' (j+8):Nat)):=by rw[agG,if_pos (by omega)]
      go_wp2
      go_roundw
      case rel=>
       refine ⟨j+1,nq',_,by omega,by go_num,?_,KO.out.step hlt KM.out⟩
       rw[cast_mod,ag_set,Nat.mod_eq_of_lt KM.out.hc]
      case measure=>simp[intOf];omega
   ·have hj8:j=8:=by omega
    subst hj8
    go_wp2
    have o1:=HRw.drewN (HRw.last (w:=wc) (c:=ag .u32 16 f) (t:=162) rfl) nq
    have o4:=HRw.drewN (HRw.old (o:=Obj.cells (ag .u32 16 f) 162) R4.out) nq
    have o5:=HRw.drewN (HRw.old (o:=Obj.cells (ag .u32 16 f) 162) R5.out) nq
    have ob:=below_drewN (bAl HO.out (Obj.cells (ag .u32 16 f) 162)) nq
    have hbo:w.heap.size+1+1+1<wc.heap.size:=Hz.out
    clear R4 R5 HO Hz HX HY
    generalize (wc.alloc (Obj.cells (ag .u32 16 f) 162)).drewN nq=wr' at *
    generalize wc.heap.size=bo at *
    refine wp_region_vals (by kernel_rfl) (by kernel_rfl) (by kernel_rfl) (CY w bo (w.heap.size+1+1) (w.heap.size+1+1+1) f (vl (fun i=>f (8+i)) 0 8) (vl f 0 8)) ?_ ?_ ?_
    ·refine ⟨ob.drew,o1,?_,?_,?_,?_,⟨_,o4,rfl,?_⟩,⟨_,o5,rfl,?_⟩⟩<;>(intro h;simp[Array.getD] at h)
    ·intro lz vs a' w' i o hs ho hi hF cc
     have hi8:i<6:=by have:=(Array.getElem?_eq_some_iff.1 ho).1;simpa using this
     have hcase:i=0∨i=1∨i=2∨i=3∨i=4∨i=5:=by omega
     rcases hcase with rfl | rfl | rfl | rfl | rfl | rfl
     ·simp at ho
      subst ho
      have T:=dT lz 0
      have S:=dS lz 0
      have hv:a'.eval (.tmp 8)=.pointer (some ⟨bo,0,none⟩):=(hF.old (by kernel_rfl)).trans rfl
      refine wVF (v:=.slice (some ⟨bo,8,none⟩) 8 8) (w1:=w') (by simp[execOp,go_sem,ev hv]) ⟨_,rfl,⟨cc.b,cc.o,fun _=>rfl,fun h=>cc.c1 (T 1 (by decide) h),fun h=>cc.c2 (T 2 (by decide) h),fun h=>cc.c3 (T 3 (by decide) h),by obtain ⟨c,h2,h3,h4⟩:=cc.c4;exact ⟨c,h2,h3,fun h=>h4 (T 4 (by decide) h)⟩,by obtain ⟨c,h2,h3,h4⟩:=cc.c5;exact ⟨c,h2,h3,fun h=>h4 (T 5 (by decide) h)⟩⟩⟩
     ·simp at ho
      subst ho
      have T:=dT lz 1
      have S:=dS lz 1
      have hv:=((hF.new (t:=55) (i:=0) (by kernel_rfl) (by simp) (wDn (i:=1) (j:=0) (by kernel_rfl) hi)).trans (cc.c0 (wDn (i:=1) (j:=0) (by kernel_rfl) hi)))
      refine wp_callF (f:=152) (args:=#[.slice (some ⟨bo,8,none⟩) 8 8]) (v:=U (vl (fun i=>f (8+i)) 0 8)) (by simp[execOp_call_go,ev hv,go_sem]) (join_any bo 8 8 (fun i=>f (8+i)) (fun i h=>KO.out.hf _ (by omega)) w' cc.o.lt (fun i h=>by rw[cc.o.cell,agG,if_pos (by omega)])) ?_
      intro w'' hb''
      exact ⟨_,rfl,⟨cc.b.trans (hb''.mono cc.b.size),cc.o.below hb'',fun h=>cc.c0 (T 0 (by decide) h),fun _=>rfl,fun h=>cc.c2 (T 2 (by decide) h),fun h=>cc.c3 (T 3 (by decide) h),by obtain ⟨c,h2,h3,h4⟩:=cc.c4;exact ⟨c,h2.below hb'',h3,fun h=>h4 (T 4 (by decide) h)⟩,by obtain ⟨c,h2,h3,h4⟩:=cc.c5;exact ⟨c,h2.below hb'',h3,fun h=>h4 (T 5 (by decide) h)⟩⟩⟩
     ·simp at ho
      subst ho
      have T:=dT lz 2
      have S:=dS lz 2
      have hv:a'.eval (.tmp 8)=.pointer (some ⟨bo,0,none⟩):=(hF.old (by kernel_rfl)).trans rfl
      refine wVF (v:=.slice (some ⟨bo,0,none⟩) 8 16) (w1:=w') (by simp[execOp,go_sem,ev hv]) ⟨_,rfl,⟨cc.b,cc.o,fun h=>cc.c0 (T 0 (by decide) h),fun h=>cc.c1 (T 1 (by decide) h),fun _=>rfl,fun h=>cc.c3 (T 3 (by decide) h),by obtain ⟨c,h2,h3,h4⟩:=cc.c4;exact ⟨c,h2,h3,fun h=>h4 (T 4 (by decide) h)⟩,by obtain ⟨c,h2,h3,h4⟩:=cc.c5;exact ⟨c,h2,h3,fun h=>h4 (T 5 (by decide) h)⟩⟩⟩
     ·simp at ho
      subst ho
      have T:=dT lz 3
      have S:=dS lz 3
      have hv:=((hF.new (t:=57) (i:=2) (by kernel_rfl) (by simp) (wDn (i:=3) (j:=2) (by kernel_rfl) hi)).trans (cc.c2 (wDn (i:=3) (j:=2) (by kernel_rfl) hi)))
      refine wp_callF (f:=152) (args:=#[.slice (some ⟨bo,0,none⟩) 8 16]) (v:=U (vl f 0 8)) (by simp[execOp_call_go,ev hv,go_sem]) (join_any bo 0 16 f (fun i h=>KO.out.hf _ (by omega)) w' cc.o.lt (fun i h=>by rw[cc.o.cell,agG,if_pos (by omega)];rw[Nat.zero_add])) ?_
      intro w'' hb''
      exact ⟨_,rfl,⟨cc.b.trans (hb''.mono cc.b.size),cc.o.below hb'',fun h=>cc.c0 (T 0 (by decide) h),fun h=>cc.c1 (T 1 (by decide) h),fun h=>cc.c2 (T 2 (by decide) h),fun _=>rfl,by obtain ⟨c,h2,h3,h4⟩:=cc.c4;exact ⟨c,h2.below hb'',h3,fun h=>h4 (T 4 (by decide) h)⟩,by obtain ⟨c,h2,h3,h4⟩:=cc.c5;exact ⟨c,h2.below hb'',h3,fun h=>h4 (T 5 (by decide) h)⟩⟩⟩
     ·simp at ho
      subst ho
      have T:=dT lz 4
      have S:=dS lz 4
      have hv:=((hF.new (t:=56) (i:=1) (by kernel_rfl) (by simp) (wDn (i:=4) (j:=1) (by kernel_rfl) hi)).trans (cc.c1 (wDn (i:=4) (j:=1) (by kernel_rfl) hi)))
      have hx:a'.eval (.tmp 4)=.pointer (some ⟨(w.heap.size+1+1),0,none⟩):=(hF.old (by kernel_rfl)).trans rfl
      obtain ⟨c,h2,h3,h4⟩:=cc.c4
      obtain ⟨c',k2,k3,k4⟩:=cc.c5
      refine wp_rowS 24 (.tmp 4) (.tmp 56) rfl (w.heap.size+1+1) (c':=#[B (l0 (vl (fun i=>f (8+i)) 0 8)),B (l1 (vl (fun i=>f (8+i)) 0 8)),B (l2 (vl (fun i=>f (8+i)) 0 8)),B (l3 (vl (fun i=>f (8+i)) 0 8))]) hx hv h2 h3 rfl (by simp[Value.oneCell']) (by kernel_rfl) ⟨_,rfl,⟨bSR cc.b (by omega) _,cc.o.set_other _ (by omega),fun h=>cc.c0 (T 0 (by decide) h),fun h=>cc.c1 (T 1 (by decide) h),fun h=>cc.c2 (T 2 (by decide) h),fun h=>cc.c3 (T 3 (by decide) h),⟨_,h2.set_same _,rfl,fun _=>rfl⟩,⟨c',k2.set_other _ (by omega),k3,fun h=>k4 (T 5 (by decide) h)⟩⟩⟩
     ·simp at ho
      subst ho
      have T:=dT lz 5
      have S:=dS lz 5
      have hv:=((hF.new (t:=58) (i:=3) (by kernel_rfl) (by simp) (wDn (i:=5) (j:=3) (by kernel_rfl) hi)).trans (cc.c3 (wDn (i:=5) (j:=3) (by kernel_rfl) hi)))
      have hx:a'.eval (.tmp 5)=.pointer (some ⟨(w.heap.size+1+1+1),0,none⟩):=(hF.old (by kernel_rfl)).trans rfl
      obtain ⟨c,h2,h3,h4⟩:=cc.c5
      obtain ⟨c',k2,k3,k4⟩:=cc.c4
      refine wp_rowS 24 (.tmp 5) (.tmp 58) rfl (w.heap.size+1+1+1) (c':=#[B (l0 (vl f 0 8)),B (l1 (vl f 0 8)),B (l2 (vl f 0 8)),B (l3 (vl f 0 8))]) hx hv h2 h3 rfl (by simp[Value.oneCell']) (by kernel_rfl) ⟨_,rfl,⟨bSR cc.b (by omega) _,cc.o.set_other _ (by omega),fun h=>cc.c0 (T 0 (by decide) h),fun h=>cc.c1 (T 1 (by decide) h),fun h=>cc.c2 (T 2 (by decide) h),fun h=>cc.c3 (T 3 (by decide) h),⟨c',k2.set_other _ (by omega),k3,fun h=>k4 (T 4 (by decide) h)⟩,⟨_,h2.set_same _,rfl,fun _=>rfl⟩⟩⟩
    ·intro lz vs a' w' hd hF cc
     obtain ⟨c,h2,h3,h4⟩:=cc.c4
     obtain ⟨c',k2,k3,k4⟩:=cc.c5
     have hx4:a'.eval (.tmp 4)=.pointer (some ⟨w.heap.size+1+1,0,none⟩):=(hF.old (by kernel_rfl)).trans rfl
     have hx5:a'.eval (.tmp 5)=.pointer (some ⟨w.heap.size+1+1+1,0,none⟩):=(hF.old (by kernel_rfl)).trans rfl
     have hr:=results_cell2 (P:=Tryz.prog) (fn:=Tryz.f137) rfl a' w' hx4 hx5 h2 k2 h3 k3 Tryz.underlying24 (by kernel_rfl) Tryz.underlying24 (by kernel_rfl)
     rw[h4 (hd 4 (by simp)),k4 (hd 5 (by simp))] at hr
     have HR:Hid _:=hr
     have HB:Hid _:=cc.b
     have HD:Hid (a'.defers=[]):=hF.1
     clear hr cc hF hx4 hx5 h2 h3 h4 k2 k3 k4
     go_wp2
     exact bodyPost_ret HR.out HD.out ⟨⟨f,KO.out,rfl⟩,HB.out⟩
end
section
open Go.RowKit Go.Sort
theorem vl_shift(f:Nat→Nat)(k:Nat):∀ n,vl (fun i=>f (k+i)) 0 n=vl f k n
 | 0=>rfl
 | n+1=>by rw[vl,vl,vl_shift f k n,Nat.zero_add]
theorem wide_any(a b:Nat)(ha:a<W)(hb:b<W)(w:World) :
  Calls Tryz.prog 137 #[U a,U b] w fun e w'=>e=.returned (.tuple #[U (a*b/W),U (a*b%W)])∧Below w.heap.size w w':=by
 have h:=wide_raw (l0 a) (l1 a) (l2 a) (l3 a) (l0 b) (l1 b) (l2 b) (l3 b) (dg a) (dg b) (fun i _=>dg_lt a i) (fun i _=>dg_lt b i) (split_any a) (split_any b) w
 refine h.mono ?_
 rintro e w' ⟨⟨f,hO,rfl⟩,hB⟩
 refine ⟨?_,hB⟩
 have hv:=hO.hv
 rw[W_D] at ha hb
 rw[vl_dg_lt ha,vl_dg_lt hb] at hv
 have e1:vl f 0 (8+8)/D^8=vl f (0+8) 8:=vl_div (fun i hi=>hO.hf _ (by omega))
 have e2:vl f 0 (8+8)%D^8=vl f 0 8:=vl_mod (fun i hi=>hO.hf _ (by omega))
 rw[hv] at e1 e2
 rw[vl_shift,W_D,e1,e2,Nat.zero_add]
end
section
structure IN (f f' g:Nat→Nat) (p n d tt:Nat):Prop where
 hf:∀ i,i<17→f' i<D
 ho:∀ i,i<p∨p+n<i→f' i=f i
 hv:vl f' p (n+1)+d*vl g 0 n=vl f p (n+1)+tt*D^(n+1)
 hq:vl f p (n+1)/vl g 0 n≤d
 hd:d<D
theorem IN.ofTO{f f' g:Nat→Nat}{p n d t:Nat}(h:TO f f' g d p n t)(hq:vl f p (n+1)/vl g 0 n≤d)(hd:d<D):IN f f' g p n d t:=⟨h.hf,h.ho,h.hv,hq,hd⟩
theorem IN.gt{f f' g:Nat→Nat}{p n d:Nat}(h:IN f f' g p n d 1)(hV:0<vl g 0 n)(hp:p+n<17):vl f p (n+1)/vl g 0 n<d:=by
 have h1:vl f' p (n+1)<D^(n+1):=vl_lt fun i hi=>h.hf _ (by omega)
 have h2:=h.hv
 rw[Nat.div_lt_iff_lt_mul hV]
 omega
theorem IN.back{f f' f'' g:Nat→Nat}{p n d t2:Nat}(h:IN f f' g p n d 1)(hV:0<vl g 0 n)(hp:p+n<17)(h2:PbO f' f'' g p n t2)(ht:t2≤1):IN f f'' g p n (d-1) (1-t2) where
 hf:=h2.hf
 ho i hi:=by rw[h2.ho i hi,h.ho i hi]
 hv:=by
  have hg:=Nat.lt_of_le_of_lt (Nat.zero_le _) (h.gt hV hp)
  obtain ⟨d',rfl⟩:∃ d',d=d'+1:=⟨d-1,by omega⟩
  have e1:=h.hv
  have e2:=h2.hv
  rw[Nat.add_sub_cancel]
  rw[Nat.add_mul,Nat.one_mul] at e1
  rcases Nat.lt_or_ge t2 1 with h0 | h0
  ·have:t2=0:=by omega
   subst this
   rw[Nat.zero_mul] at e2
   omega
  ·have:t2=1:=by omega
   subst this
   omega
 hq:=Nat.le_sub_one_of_lt (h.gt hV hp)
 hd:=by have:=h.hd;omega
structure DI (X V:Nat) (f q:Nat→Nat) (t:Nat):Prop where
 hf:∀ i,i<17→f i<D
 hqd:∀ i,i<16→q i<D
 hv:X=vl q t (16-t)*D^t*V+vl f 0 17
 hl:vl f t (17-t)<V
theorem DI.start{X V:Nat}{f:Nat→Nat}{t:Nat}(ht:t≤16)(hf:∀ i,i<17→f i<D)(hX:vl f 0 17=X)(hlt:X<V*D^t):DI X V f (fun _=>0) t where
 hf:=hf
 hqd _ _:=D_pos
 hv:=by rw[vl_of_zero (fun _ _=>rfl),Nat.zero_mul,Nat.zero_mul,Nat.zero_add,hX]
 hl:=by
  have h:=vl_div (f:=f) (k:=0) (a:=t) (b:=17-t) (fun i hi=>hf _ (by omega))
  rw[show t+(17-t)=17 by omega,hX,Nat.zero_add] at h
  rw[← h]
  exact Nat.div_lt_of_lt_mul (by rw[Nat.mul_comm];exact hlt)
theorem DI.top{X V:Nat}{f q:Nat→Nat}{p n:Nat}(h:DI X V f q (p+1))(hp:p+n≤16)(hV:V<D^n):∀ i,p+n<i→i<17→f i=0:=by
 have hl:=h.hl
 rw[show 17-(p+1)=n+(16-p-n) by omega,vl_add] at hl
 have h0:vl f (p+1+n) (16-p-n)=0:=by
  rcases Nat.eq_zero_or_pos (vl f (p+1+n) (16-p-n)) with h0 | h0
  ·exact h0
  ·have:=Nat.le_mul_of_pos_right (D^n) h0
   omega
 intro i hi hi2
 have:=vl_zero h0 (i-(p+1+n)) (by omega)
 rwa [show p+1+n+(i-(p+1+n))=i by omega] at this
theorem DI.window{X V:Nat}{f q:Nat→Nat}{p n:Nat}(h:DI X V f q (p+1))(hp:p+n≤16)(hV:V<D^n):vl f p (n+1)<D*V:=by
 have hz:=h.top hp hV
 have hl:=h.hl
 rw[show 17-(p+1)=n+(16-p-n) by omega,vl_add,vl_of_zero (k:=p+1+n) (fun i hi=>hz _ (by omega) (by omega)),Nat.mul_zero,Nat.add_zero] at hl
 rw[vl_low]
 have h1:=h.hf p (by omega)
 have h2:D*vl f (p+1) n+D≤D*V:=by rw[← Nat.mul_succ];exact Nat.mul_le_mul_left _ hl
 omega
theorem step_ring(Q V r A P d:Nat):Q*(P*D)*V+(A+P*(r+d*V))=(d+D*Q)*P*V+(A+P*r):=by
 generalize D=B
 have e1:B*Q*P*V=Q*(P*B)*V:=by rw[Nat.mul_comm B Q,Nat.mul_assoc Q B P,Nat.mul_comm B P]
 have e2:d*P*V=P*(d*V):=by rw[Nat.mul_comm d P,Nat.mul_assoc]
 rw[Nat.add_mul,Nat.add_mul,Nat.mul_add,e1,e2]
 omega
theorem DI.step{X:Nat}{f f' g q:Nat→Nat}{p n d:Nat}(h:DI X (vl g 0 n) f q (p+1))(hp:p+n≤16)(hV:0<vl g 0 n)(hVn:vl g 0 n<D^n)(hi:IN f f' g p n d 0):DI X (vl g 0 n) f' (upd q p d) p:=by
 have hz:=h.top hp hVn
 have hn0:0<n:=by
  rcases Nat.eq_zero_or_pos n with h0 | h0
  ·subst h0;simp[vl] at hV
  ·exact h0
 have e0:vl f' p (n+1)+d*vl g 0 n=vl f p (n+1):=by have:=hi.hv;rw[Nat.zero_mul] at this;exact this
 obtain ⟨hd,hr⟩:=quot_of hV e0 hi.hq
 have t0:vl f (p+(n+1)) (16-p-n)=0:=vl_of_zero fun i hi'=>hz _ (by omega) (by omega)
 have t1:vl f' (p+(n+1)) (16-p-n)=0:=vl_of_zero fun i hi'=>by rw[hi.ho _ (by omega)];exact hz _ (by omega) (by omega)
 have w0:vl f p (17-p)=vl f p (n+1):=by rw[show 17-p=(n+1)+(16-p-n) by omega,vl_add,t0,Nat.mul_zero,Nat.add_zero]
 have w1:vl f' p (17-p)=vl f' p (n+1):=by rw[show 17-p=(n+1)+(16-p-n) by omega,vl_add,t1,Nat.mul_zero,Nat.add_zero]
 refine ⟨hi.hf,upd_lt h.hqd hi.hd,?_,?_⟩
 ·have hX:=h.hv
  have s0:=vl_add f 0 p (17-p)
  have s1:=vl_add f' 0 p (17-p)
  rw[show p+(17-p)=17 by omega,Nat.zero_add] at s0 s1
  have lo:vl f' 0 p=vl f 0 p:=vl_congr fun i hi'=>hi.ho _ (by omega)
  have qe:vl (upd q p d) p (16-p)=d+D*vl q (p+1) (16-(p+1)):=by
   rw[show 16-p=(16-(p+1))+1 by omega,vl_low,upd_same,vl_upd_above q p d (Nat.lt_succ_self p)]
  rw[hX,s0,s1,lo,w0,w1,qe,← e0,Nat.pow_succ]
  exact step_ring _ _ _ _ _ _
 ·rw[w1,hr];exact Nat.mod_lt _ hV
end
end Go.Proofs.YtfhppenjbmmadaaGreatDoor
