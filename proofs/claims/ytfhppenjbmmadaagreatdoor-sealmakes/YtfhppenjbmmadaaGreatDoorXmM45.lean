import Derived.Test.YtfhppenjbmmadaaGreatDoorXmM43
import Derived.Lib.AppendStr
import Derived.Test.YtfhppenjbmmadaaGreatDoorXmNu
namespace Go.Proofs.YtfhppenjbmmadaaGreatDoor
set_option linter.unusedVariables false
set_option maxHeartbeats 8000000
section
open Go.RowKit Go.Sort
abbrev P10 (x y:Nat) (n:Bool) (v:Value):Array Value:=#[B (l0 x),B (l1 x),B (l2 x),B (l3 x),B (l0 y),B (l1 y),B (l2 y),B (l3 y),.bool n,v]
theorem bel_grown{g:Nat}{w w':World}{r:Option Nat}(h:w.grownBy w' r)(hr:∀ k,r=some k→g≤k)(hg:g≤w.heap.size):Below g w w':=⟨h.os,h.tape,h.output,h.size,fun k hk=>h.block k (by omega) (fun e=>by have:=hr k e.symm;omega)⟩
theorem HRw.grownB{g:Nat}{c:Array Value}{w w':World}{r:Option Nat}(hr:HRw w g c)(h:w.grownBy w' r)(hn:some g≠r):HRw w' g c:=by
 obtain ⟨t,hr'⟩:=hr
 exact ⟨t,(h.block g (HRw.lt ⟨t,hr'⟩) hn).trans hr'⟩
theorem owns_below{w w':World}{b e:Nat}{v:Value}{n:Nat}{xs:List Value}(h:w.ownsRow b e 1 v n xs)(hb:Below w.heap.size w w'):w'.ownsRow b e 1 v n xs:=by
 obtain ⟨h1,h2⟩:=h
 refine ⟨h1,?_⟩
 rcases h2 with h2 | ⟨g,cap,cur,a1,a2,a3,a4⟩
 ·exact .inl h2
 ·refine .inr ⟨g,cap,cur,a1,a2,?_,a4⟩
  have hlt:g<w.heap.size:=(Array.getElem?_eq_some_iff.1 a3).1
  exact (hb.block g hlt).trans a3
theorem owns_block{w:World}{g e:Nat}{v:Value}{n:Nat}{xs:List Value}(h:w.ownsRow (g+1) e 1 v n xs):v.ownBlock≠some g:=fun q=>by have:=(h.lt g q).1;omega
theorem owns_le{w:World}{g e:Nat}{v:Value}{n:Nat}{xs:List Value}(h:w.ownsRow (g+1) e 1 v n xs):∀ k,v.ownBlock=some k→g≤k:=fun k q=>by have:=(h.lt k q).1;omega
theorem grown_setRow(w:World)(g:Nat)(c:Array Value):w.grownBy (w.setRow g c) (some g):=⟨rfl,rfl,rfl,by simp,fun k hk hn=>setRow_other w g k _ (fun e=>hn (by rw[e]))⟩
theorem owns_setRow{w:World}{g e:Nat}{v:Value}{n:Nat}{xs:List Value}(h:w.ownsRow (g+1) e 1 v n xs)(c:Array Value):(w.setRow g c).ownsRow (g+1) e 1 v n xs:=h.kept (grown_setRow w g c) (.inr (owns_block h))
theorem owns_one{w:World}{b e:Nat}{v:Value}{n:Nat}{xs:List Value}(h:w.ownsRow b e 1 v n xs):v.cells=#[v]∧v.oneCell'=true:=by
 rcases h.2 with ⟨rfl,_⟩ | ⟨g,cap,cur,rfl,_⟩<;>exact ⟨rfl,rfl⟩
theorem dT3(l:Array Bool)(k:Nat):∀ j,j≠k→(l.setIfInBounds k true).getD j false=true→l.getD j false=true:=fun j hj h=>(done_set h).resolve_left hj
section
variable {P:Program} {Q:Exit→Act→World→Prop} {o:Oper} {a':Act} {w':World}
theorem ob_load1q(ty:TypeId)(x:Operand)(ho:o.op=.load ty x){g off:Nat}(hx:a'.eval x=.pointer (some ⟨g,off,none⟩)){c:Array Value}{v:Value}{d:TypeDesc}(hr:HRw w' g c)(hu:P.underlying ty=some d)(hd:aggB d=false)(hc:c[off]? = some v):o.wp P a' w' (fun a'' w''=>a''=a'.put o.dst v∧w''=w') Q:=by
 have hA:(isAgg ty).run P w'=.ok false w':=by
  unfold isAgg
  simp only[Sem.run_bind,run_underlying hu,Result.andThen_ok]
  cases d<;>first | rfl | simp[aggB] at hd
 have hcell:w'.cell? ⟨g,off,none⟩=some v:=by rw[hr.cell];exact hc
 have hL:(loadVar ty ⟨g,off,none⟩).run P w'=.ok v w':=by
  unfold loadVar
  simp only[Sem.run_bind,hA,Result.andThen_ok,Bool.false_eq_true,if_false]
  rw[run_load,hcell]
 refine wVF (v:=v) (w1:=w') ?_ ⟨rfl,rfl⟩
 unfold execOp
 simp only[ho,hx,Instr.loadAt,Instr.sureAddr,Sem.run_bind,Sem.run_pure,Result.andThen_ok,hL]
end
theorem hI5:∃ i,Tryz.prog.info? 5=some i∧i.zero=some (.int .u8 0)∧i.size=1∧i.bytes=1:=by
 have h:(Tryz.prog.info? 5).map (fun i=>(i.zero,i.size,i.bytes))=some (some (.int .u8 0),1,1):=by kernel_rfl
 cases hq:Tryz.prog.info? 5 with
 | none=>rw[hq] at h;simp at h
 | some i=>rw[hq] at h;simp at h;exact ⟨i,rfl,h.1,h.2.1,h.2.2⟩
structure CNu (W0:World) (g x y m:Nat) (n:Bool) (v:Value) (ys news:List Value) (h a:Nat) (b:ByteArray) (lz:Array Bool) (vs:Nat→Value) (w':World):Prop where
 pre:¬ lz.getD 7 false=true→HRw w' g (P10 x y n v)∧w'.ownsRow (g+1) 5 1 v m ys∧Below g W0 w'∧HRw w' h (Ar a)
 k:lz.getD 7 false=true→lz.getD 4 false=true∧lz.getD 6 false=true
 k6:lz.getD 6 false=true→lz.getD 5 false=true
 k10:lz.getD 10 false=true→lz.getD 7 false=true
 c0:lz.getD 0 false=true→vs 0=PO g 9
 c1:lz.getD 1 false=true→vs 1=PO g 9
 c2:lz.getD 2 false=true→vs 2=PO g 9
 c3:lz.getD 3 false=true→vs 3=PO g 9
 c4:lz.getD 4 false=true→vs 4=v
 c5:lz.getD 5 false=true→vs 5=U a
 c6:lz.getD 6 false=true→vs 6=.string b
 c7:lz.getD 7 false=true→w'.ownsRow (g+1) 5 1 (vs 7) (m+news.length) (ys++news)∧Below g W0 w'∧(¬ lz.getD 10 false=true→HRw w' g (P10 x y n v))
 c8:lz.getD 8 false=true→vs 8=PO g 9
 c9:lz.getD 9 false=true→vs 9=PO g 9
 c10:lz.getD 10 false=true→HRw w' g (P10 x y n (vs 7))
set_option maxRecDepth 100000 in
theorem pg_number(g x y a m:Nat)(n:Bool)(v:Value)(ys:List Value)(b:ByteArray)(hB:Ds 88 #[U a] (.string b))(hm:m+b.size≤1000)(w:World)(hr:HRw w g (P10 x y n v))(ho:w.ownsRow (g+1) 5 1 v m ys) :
  Calls Tryz.prog 45 #[PO g 9,U a] w fun e w'=>(∃ z,e=.returned z)∧(∃ v',HRw w' g (P10 x y n v')∧w'.ownsRow (g+1) 5 1 v' (m+(Lib.strCells b).length) (ys++Lib.strCells b))∧Below g w w':=by
 have HB:Hid _:=hB
 have R0:Hid (HRw w g (P10 x y n v)):=hr
 have R1:Hid (w.ownsRow (g+1) 5 1 v m ys):=ho
 clear hB hr ho
 go_enter Tryz.func45,Tryz.ntmps45
 go_upto_region 1 with fail
 refine name_world _ ?_
 intro W hW
 have hb0:Below w.heap.size w W:=by rw[hW];exact bAl (Below.refl _ _) _
 have A0:HRw W g (P10 x y n v):=R0.out.below hb0
 have A1:W.ownsRow (g+1) 5 1 v m ys:=owns_below R1.out hb0
 have A2:Below g w W:=hb0.mono (Nat.le_of_lt R0.out.lt)
 have A3:HRw W w.heap.size (Ar a):=by rw[hW];exact HRw.last rfl
 clear hW
 refine RegV.wp (by kernel_rfl) (regV_vals3 (by kernel_rfl) (by kernel_rfl) (CNu w g x y m n v ys (Lib.strCells b) w.heap.size a b) ?_ ?_ ?_)
 ·rintro w1 (rfl | rfl)
  ·refine ⟨fun _=>⟨A0,A1,A2,A3⟩,?_,?_,?_,?_,?_,?_,?_,?_,?_,?_,?_,?_,?_,?_⟩<;>(intro h;simp[Array.getD] at h)
  ·refine ⟨fun _=>⟨A0,A1,A2.drew,A3⟩,?_,?_,?_,?_,?_,?_,?_,?_,?_,?_,?_,?_,?_,?_⟩<;>(intro h;simp[Array.getD] at h)
 ·clear A0 A1 A2 A3
  intro lz vs a' w' i o hs ho hi hF cc
  have hi11:i<11:=by have:=(Array.getElem?_eq_some_iff.1 ho).1;simpa using this
  have hcase:i=0∨i=1∨i=2∨i=3∨i=4∨i=5∨i=6∨i=7∨i=8∨i=9∨i=10:=by omega
  rcases hcase with rfl | rfl | rfl | rfl | rfl | rfl | rfl | rfl | rfl | rfl | rfl
  ·simp at ho
   subst ho
   have T:=dT3 lz 0
   have hun:¬ lz.getD 0 false=true:=fun h=>undone hi hs h
   exact wpG_plain rfl (wVF (v:=PO g 9) (w1:=w') (by simp[execOp,ev ((hF.old (t:=0) (by kernel_rfl)).trans rfl),go_sem]) ⟨_,rfl,⟨fun h=>cc.pre (fun q=>h (done_keep q)),fun h=>⟨done_keep (cc.k (T 7 (by decide) h)).1,done_keep (cc.k (T 7 (by decide) h)).2⟩,fun h=>done_keep (cc.k6 (T 6 (by decide) h)),fun h=>done_keep (cc.k10 (T 10 (by decide) h)),fun _=>rfl,fun h=>cc.c1 (T 1 (by decide) h),fun h=>cc.c2 (T 2 (by decide) h),fun h=>cc.c3 (T 3 (by decide) h),fun h=>cc.c4 (T 4 (by decide) h),fun h=>cc.c5 (T 5 (by decide) h),fun h=>cc.c6 (T 6 (by decide) h),fun h=>⟨(cc.c7 (T 7 (by decide) h)).1,(cc.c7 (T 7 (by decide) h)).2.1,fun z=>(cc.c7 (T 7 (by decide) h)).2.2 (fun q=>z (done_keep q))⟩,fun h=>cc.c8 (T 8 (by decide) h),fun h=>cc.c9 (T 9 (by decide) h),fun h=>cc.c10 (T 10 (by decide) h)⟩⟩)
  ·simp at ho
   subst ho
   have T:=dT3 lz 1
   have hun:¬ lz.getD 1 false=true:=fun h=>undone hi hs h
   exact wpG_plain rfl (wVF (v:=PO g 9) (w1:=w') (by simp[execOp,ev ((hF.old (t:=0) (by kernel_rfl)).trans rfl),go_sem]) ⟨_,rfl,⟨fun h=>cc.pre (fun q=>h (done_keep q)),fun h=>⟨done_keep (cc.k (T 7 (by decide) h)).1,done_keep (cc.k (T 7 (by decide) h)).2⟩,fun h=>done_keep (cc.k6 (T 6 (by decide) h)),fun h=>done_keep (cc.k10 (T 10 (by decide) h)),fun h=>cc.c0 (T 0 (by decide) h),fun _=>rfl,fun h=>cc.c2 (T 2 (by decide) h),fun h=>cc.c3 (T 3 (by decide) h),fun h=>cc.c4 (T 4 (by decide) h),fun h=>cc.c5 (T 5 (by decide) h),fun h=>cc.c6 (T 6 (by decide) h),fun h=>⟨(cc.c7 (T 7 (by decide) h)).1,(cc.c7 (T 7 (by decide) h)).2.1,fun z=>(cc.c7 (T 7 (by decide) h)).2.2 (fun q=>z (done_keep q))⟩,fun h=>cc.c8 (T 8 (by decide) h),fun h=>cc.c9 (T 9 (by decide) h),fun h=>cc.c10 (T 10 (by decide) h)⟩⟩)
  ·simp at ho
   subst ho
   have T:=dT3 lz 2
   have hun:¬ lz.getD 2 false=true:=fun h=>undone hi hs h
   have d1:=wDn (i:=2) (j:=1) (by kernel_rfl) hi
   have v1:=(hF.new (t:=5) (i:=1) (by kernel_rfl) (by simp) d1).trans (cc.c1 d1)
   exact wpG_plain rfl (wVF (v:=PO g 9) (w1:=w') (by simp[execOp,ev v1,go_sem]) ⟨_,rfl,⟨fun h=>cc.pre (fun q=>h (done_keep q)),fun h=>⟨done_keep (cc.k (T 7 (by decide) h)).1,done_keep (cc.k (T 7 (by decide) h)).2⟩,fun h=>done_keep (cc.k6 (T 6 (by decide) h)),fun h=>done_keep (cc.k10 (T 10 (by decide) h)),fun h=>cc.c0 (T 0 (by decide) h),fun h=>cc.c1 (T 1 (by decide) h),fun _=>rfl,fun h=>cc.c3 (T 3 (by decide) h),fun h=>cc.c4 (T 4 (by decide) h),fun h=>cc.c5 (T 5 (by decide) h),fun h=>cc.c6 (T 6 (by decide) h),fun h=>⟨(cc.c7 (T 7 (by decide) h)).1,(cc.c7 (T 7 (by decide) h)).2.1,fun z=>(cc.c7 (T 7 (by decide) h)).2.2 (fun q=>z (done_keep q))⟩,fun h=>cc.c8 (T 8 (by decide) h),fun h=>cc.c9 (T 9 (by decide) h),fun h=>cc.c10 (T 10 (by decide) h)⟩⟩)
  ·simp at ho
   subst ho
   have T:=dT3 lz 3
   have hun:¬ lz.getD 3 false=true:=fun h=>undone hi hs h
   have d2:=wDn (i:=3) (j:=2) (by kernel_rfl) hi
   have v2:=(hF.new (t:=6) (i:=2) (by kernel_rfl) (by simp) d2).trans (cc.c2 d2)
   exact wpG_plain rfl (wVF (v:=PO g 9) (w1:=w') (by simp[execOp,ev v2,go_sem]) ⟨_,rfl,⟨fun h=>cc.pre (fun q=>h (done_keep q)),fun h=>⟨done_keep (cc.k (T 7 (by decide) h)).1,done_keep (cc.k (T 7 (by decide) h)).2⟩,fun h=>done_keep (cc.k6 (T 6 (by decide) h)),fun h=>done_keep (cc.k10 (T 10 (by decide) h)),fun h=>cc.c0 (T 0 (by decide) h),fun h=>cc.c1 (T 1 (by decide) h),fun h=>cc.c2 (T 2 (by decide) h),fun _=>rfl,fun h=>cc.c4 (T 4 (by decide) h),fun h=>cc.c5 (T 5 (by decide) h),fun h=>cc.c6 (T 6 (by decide) h),fun h=>⟨(cc.c7 (T 7 (by decide) h)).1,(cc.c7 (T 7 (by decide) h)).2.1,fun z=>(cc.c7 (T 7 (by decide) h)).2.2 (fun q=>z (done_keep q))⟩,fun h=>cc.c8 (T 8 (by decide) h),fun h=>cc.c9 (T 9 (by decide) h),fun h=>cc.c10 (T 10 (by decide) h)⟩⟩)
  ·simp at ho
   subst ho
   have T:=dT3 lz 4
   have hun:¬ lz.getD 4 false=true:=fun h=>undone hi hs h
   have d3:=wDn (i:=4) (j:=3) (by kernel_rfl) hi
   have v3:=(hF.new (t:=7) (i:=3) (by kernel_rfl) (by simp) d3).trans (cc.c3 d3)
   obtain ⟨p1,p2,p3,p4⟩:=cc.pre (fun h=>hun (cc.k h).1)
   refine wpG_plain rfl (Oper.wp_mono ?_ (ob_load1q 61 (.tmp 7) rfl v3 p1 Tryz.underlying61 rfl rfl))
   rintro a2 w2 ⟨rfl,rfl⟩
   exact ⟨_,rfl,⟨fun h=>cc.pre (fun q=>h (done_keep q)),fun h=>⟨done_keep (cc.k (T 7 (by decide) h)).1,done_keep (cc.k (T 7 (by decide) h)).2⟩,fun h=>done_keep (cc.k6 (T 6 (by decide) h)),fun h=>done_keep (cc.k10 (T 10 (by decide) h)),fun h=>cc.c0 (T 0 (by decide) h),fun h=>cc.c1 (T 1 (by decide) h),fun h=>cc.c2 (T 2 (by decide) h),fun h=>cc.c3 (T 3 (by decide) h),fun _=>rfl,fun h=>cc.c5 (T 5 (by decide) h),fun h=>cc.c6 (T 6 (by decide) h),fun h=>⟨(cc.c7 (T 7 (by decide) h)).1,(cc.c7 (T 7 (by decide) h)).2.1,fun z=>(cc.c7 (T 7 (by decide) h)).2.2 (fun q=>z (done_keep q))⟩,fun h=>cc.c8 (T 8 (by decide) h),fun h=>cc.c9 (T 9 (by decide) h),fun h=>cc.c10 (T 10 (by decide) h)⟩⟩
  ·simp at ho
   subst ho
   have T:=dT3 lz 5
   have hun:¬ lz.getD 5 false=true:=fun h=>undone hi hs h
   obtain ⟨p1,p2,p3,p4⟩:=cc.pre (fun h=>hun (cc.k6 (cc.k h).2))
   exact wpG_plain rfl (wp_rowA 24 (.tmp 3) rfl w.heap.size ((hF.old (by kernel_rfl)).trans rfl) p4 Tryz.underlying24 rfl (by kernel_rfl) ⟨_,rfl,⟨fun h=>cc.pre (fun q=>h (done_keep q)),fun h=>⟨done_keep (cc.k (T 7 (by decide) h)).1,done_keep (cc.k (T 7 (by decide) h)).2⟩,fun h=>done_keep (cc.k6 (T 6 (by decide) h)),fun h=>done_keep (cc.k10 (T 10 (by decide) h)),fun h=>cc.c0 (T 0 (by decide) h),fun h=>cc.c1 (T 1 (by decide) h),fun h=>cc.c2 (T 2 (by decide) h),fun h=>cc.c3 (T 3 (by decide) h),fun h=>cc.c4 (T 4 (by decide) h),fun _=>rfl,fun h=>cc.c6 (T 6 (by decide) h),fun h=>⟨(cc.c7 (T 7 (by decide) h)).1,(cc.c7 (T 7 (by decide) h)).2.1,fun z=>(cc.c7 (T 7 (by decide) h)).2.2 (fun q=>z (done_keep q))⟩,fun h=>cc.c8 (T 8 (by decide) h),fun h=>cc.c9 (T 9 (by decide) h),fun h=>cc.c10 (T 10 (by decide) h)⟩⟩)
  ·simp at ho
   subst ho
   have T:=dT3 lz 6
   have hun:¬ lz.getD 6 false=true:=fun h=>undone hi hs h
   have d5:=wDn (i:=6) (j:=5) (by kernel_rfl) hi
   have v5:=(hF.new (t:=9) (i:=5) (by kernel_rfl) (by simp) d5).trans (cc.c5 d5)
   have n7:¬ lz.getD 7 false=true:=fun h=>hun (cc.k h).2
   obtain ⟨p1,p2,p3,p4⟩:=cc.pre n7
   refine wpG_plain rfl (wp_callF (f:=88) (args:=#[U a]) (v:=.string b) (by simp[execOp_call_go,ev v5,go_sem]) (HB.out w') ?_)
   intro w2 hb2
   exact ⟨_,rfl,⟨fun _=>⟨p1.below hb2,owns_below p2 hb2,p3.trans (hb2.mono (Nat.le_of_lt p1.lt)),p4.below hb2⟩,fun h=>absurd (T 7 (by decide) h) n7,fun _=>done_keep d5,fun h=>absurd (cc.k10 (T 10 (by decide) h)) n7,fun h=>cc.c0 (T 0 (by decide) h),fun h=>cc.c1 (T 1 (by decide) h),fun h=>cc.c2 (T 2 (by decide) h),fun h=>cc.c3 (T 3 (by decide) h),fun h=>cc.c4 (T 4 (by decide) h),fun h=>cc.c5 (T 5 (by decide) h),fun _=>rfl,fun h=>absurd (T 7 (by decide) h) n7,fun h=>cc.c8 (T 8 (by decide) h),fun h=>cc.c9 (T 9 (by decide) h),fun h=>absurd (cc.k10 (T 10 (by decide) h)) n7⟩⟩
  ·simp at ho
   subst ho
   have T:=dT3 lz 7
   have hun:¬ lz.getD 7 false=true:=fun h=>undone hi hs h
   have d4:=wDn (i:=7) (j:=4) (by kernel_rfl) hi
   have v4:=(hF.new (t:=8) (i:=4) (by kernel_rfl) (by simp) d4).trans (cc.c4 d4)
   have d6:=wDn (i:=7) (j:=6) (by kernel_rfl) hi
   have v6:=(hF.new (t:=10) (i:=6) (by kernel_rfl) (by simp) d6).trans (cc.c6 d6)
   have l7:(lz.setIfInBounds 7 true).getD 7 false=true:=done_me hs (by decide)
   obtain ⟨p1,p2,p3,p4⟩:=cc.pre hun
   obtain ⟨i5,h5a,h5b,h5c,h5d⟩:=hI5
   obtain ⟨v2,w2,hr2,q1,q2,_⟩:=Lib.run_append_own_string (P:=Tryz.prog) w' (g+1) 61 9 61 5 _ Tryz.underlying61 Tryz.underlying9 h5a h5b h5c h5d v m ys p2 b (by simp only[maxLen];omega) (by omega) p1.lt
   rw[← Lib.strCells_length] at q1
   exact wpG_plain rfl (wVF (v:=v2) (w1:=w2) (by simp[execOp,resolve,invoke,builtin,v4,v6,hr2]) ⟨_,rfl,⟨fun h=>absurd l7 h,fun _=>⟨done_keep d4,done_keep d6⟩,fun h=>done_keep (cc.k6 (T 6 (by decide) h)),fun h=>absurd (cc.k10 (T 10 (by decide) h)) hun,fun h=>cc.c0 (T 0 (by decide) h),fun h=>cc.c1 (T 1 (by decide) h),fun h=>cc.c2 (T 2 (by decide) h),fun h=>cc.c3 (T 3 (by decide) h),fun h=>cc.c4 (T 4 (by decide) h),fun h=>cc.c5 (T 5 (by decide) h),fun h=>cc.c6 (T 6 (by decide) h),fun _=>⟨q1,p3.trans (bel_grown q2 (owns_le p2) (Nat.le_of_lt p1.lt)),fun _=>p1.grownB q2 (fun e=>owns_block p2 e.symm)⟩,fun h=>cc.c8 (T 8 (by decide) h),fun h=>cc.c9 (T 9 (by decide) h),fun h=>absurd (cc.k10 (T 10 (by decide) h)) hun⟩⟩)
  ·simp at ho
   subst ho
   have T:=dT3 lz 8
   have hun:¬ lz.getD 8 false=true:=fun h=>undone hi hs h
   have d0:=wDn (i:=8) (j:=0) (by kernel_rfl) hi
   have v0:=(hF.new (t:=4) (i:=0) (by kernel_rfl) (by simp) d0).trans (cc.c0 d0)
   exact wpG_plain rfl (wVF (v:=PO g 9) (w1:=w') (by simp[execOp,ev v0,go_sem]) ⟨_,rfl,⟨fun h=>cc.pre (fun q=>h (done_keep q)),fun h=>⟨done_keep (cc.k (T 7 (by decide) h)).1,done_keep (cc.k (T 7 (by decide) h)).2⟩,fun h=>done_keep (cc.k6 (T 6 (by decide) h)),fun h=>done_keep (cc.k10 (T 10 (by decide) h)),fun h=>cc.c0 (T 0 (by decide) h),fun h=>cc.c1 (T 1 (by decide) h),fun h=>cc.c2 (T 2 (by decide) h),fun h=>cc.c3 (T 3 (by decide) h),fun h=>cc.c4 (T 4 (by decide) h),fun h=>cc.c5 (T 5 (by decide) h),fun h=>cc.c6 (T 6 (by decide) h),fun h=>⟨(cc.c7 (T 7 (by decide) h)).1,(cc.c7 (T 7 (by decide) h)).2.1,fun z=>(cc.c7 (T 7 (by decide) h)).2.2 (fun q=>z (done_keep q))⟩,fun _=>rfl,fun h=>cc.c9 (T 9 (by decide) h),fun h=>cc.c10 (T 10 (by decide) h)⟩⟩)
  ·simp at ho
   subst ho
   have T:=dT3 lz 9
   have hun:¬ lz.getD 9 false=true:=fun h=>undone hi hs h
   have d8:=wDn (i:=9) (j:=8) (by kernel_rfl) hi
   have v8:=(hF.new (t:=12) (i:=8) (by kernel_rfl) (by simp) d8).trans (cc.c8 d8)
   exact wpG_plain rfl (wVF (v:=PO g 9) (w1:=w') (by simp[execOp,ev v8,go_sem]) ⟨_,rfl,⟨fun h=>cc.pre (fun q=>h (done_keep q)),fun h=>⟨done_keep (cc.k (T 7 (by decide) h)).1,done_keep (cc.k (T 7 (by decide) h)).2⟩,fun h=>done_keep (cc.k6 (T 6 (by decide) h)),fun h=>done_keep (cc.k10 (T 10 (by decide) h)),fun h=>cc.c0 (T 0 (by decide) h),fun h=>cc.c1 (T 1 (by decide) h),fun h=>cc.c2 (T 2 (by decide) h),fun h=>cc.c3 (T 3 (by decide) h),fun h=>cc.c4 (T 4 (by decide) h),fun h=>cc.c5 (T 5 (by decide) h),fun h=>cc.c6 (T 6 (by decide) h),fun h=>⟨(cc.c7 (T 7 (by decide) h)).1,(cc.c7 (T 7 (by decide) h)).2.1,fun z=>(cc.c7 (T 7 (by decide) h)).2.2 (fun q=>z (done_keep q))⟩,fun h=>cc.c8 (T 8 (by decide) h),fun _=>rfl,fun h=>cc.c10 (T 10 (by decide) h)⟩⟩)
  ·simp at ho
   subst ho
   have T:=dT3 lz 10
   have hun:¬ lz.getD 10 false=true:=fun h=>undone hi hs h
   have d9:=wDn (i:=10) (j:=9) (by kernel_rfl) hi
   have v9:=(hF.new (t:=13) (i:=9) (by kernel_rfl) (by simp) d9).trans (cc.c9 d9)
   have d7:=wDn (i:=10) (j:=7) (by kernel_rfl) hi
   have v7:=hF.new (t:=11) (i:=7) (by kernel_rfl) (by simp) d7
   have l10:(lz.setIfInBounds 10 true).getD 10 false=true:=done_me hs (by decide)
   obtain ⟨q1,q2,q3⟩:=cc.c7 d7
   obtain ⟨o1,o2⟩:=owns_one q1
   refine wpG_plain rfl (Oper.wp_mono ?_ (ob_storea 61 (.tmp 13) (.tmp 11) rfl v9 v7 o1 (q3 hun) (by kernel_rfl) (Nat.le_of_ble_eq_true rfl) (by simp[o2]) (e:=P10 x y n (vs 7)) rfl))
   rintro a2 w2 ⟨rfl,rfl⟩
   exact ⟨undef,rfl,⟨fun h=>absurd (done_keep d7) h,fun h=>⟨done_keep (cc.k (T 7 (by decide) h)).1,done_keep (cc.k (T 7 (by decide) h)).2⟩,fun h=>done_keep (cc.k6 (T 6 (by decide) h)),fun _=>done_keep d7,fun h=>cc.c0 (T 0 (by decide) h),fun h=>cc.c1 (T 1 (by decide) h),fun h=>cc.c2 (T 2 (by decide) h),fun h=>cc.c3 (T 3 (by decide) h),fun h=>cc.c4 (T 4 (by decide) h),fun h=>cc.c5 (T 5 (by decide) h),fun h=>cc.c6 (T 6 (by decide) h),fun _=>⟨owns_setRow q1 _,q2.trans (bel_grown (grown_setRow _ _ _) (fun k e=>by cases e;exact Nat.le_refl _) (Nat.le_of_lt (q3 hun).lt)),fun z=>absurd l10 z⟩,fun h=>cc.c8 (T 8 (by decide) h),fun h=>cc.c9 (T 9 (by decide) h),fun _=>HRw.set_same (q3 hun) _⟩⟩
 ·intro lz vs a' w' hd hF cc
  obtain ⟨q1,q2,_⟩:=cc.c7 (hd 7 (by decide))
  have q4:=cc.c10 (hd 10 (by decide))
  have eD:a'.defers=[]:=by rw[hF.all hd];rfl
  exact bodyPost_end (results_none rfl _ _ _) eD ⟨⟨_,rfl⟩,⟨_,q4,q1⟩,q2⟩
structure CMa (W0:World) (g x y m:Nat) (n:Bool) (v:Value) (ys news:List Value) (kk:Int) (lz:Array Bool) (vs:Nat→Value) (w':World):Prop where
 pre:¬ lz.getD 7 false=true→HRw w' g (P10 x y n v)∧w'.ownsRow (g+1) 5 1 v m ys∧Below g W0 w'∧True
 k:lz.getD 7 false=true→lz.getD 4 false=true∧lz.getD 6 false=true
 k6:lz.getD 6 false=true→lz.getD 5 false=true
 k10:lz.getD 10 false=true→lz.getD 7 false=true
 c0:lz.getD 0 false=true→vs 0=PO g 9
 c1:lz.getD 1 false=true→vs 1=PO g 9
 c2:lz.getD 2 false=true→vs 2=PO g 9
 c3:lz.getD 3 false=true→vs 3=PO g 9
 c4:lz.getD 4 false=true→vs 4=v
 c5:lz.getD 5 false=true→vs 5=.int .u8 kk
 c6:lz.getD 6 false=true→∃ q,vs 6=.slice (some ⟨q,0,none⟩) 1 1∧(¬ lz.getD 7 false=true→HRw w' q #[.int .u8 kk])
 c7:lz.getD 7 false=true→w'.ownsRow (g+1) 5 1 (vs 7) (m+news.length) (ys++news)∧Below g W0 w'∧(¬ lz.getD 10 false=true→HRw w' g (P10 x y n v))
 c8:lz.getD 8 false=true→vs 8=PO g 9
 c9:lz.getD 9 false=true→vs 9=PO g 9
 c10:lz.getD 10 false=true→HRw w' g (P10 x y n (vs 7))
set_option maxRecDepth 100000 in
theorem pg_mark(g x y m:Nat)(n od:Bool)(v:Value)(ys:List Value)(kk:Int)(hk:kk=if od then 1 else 0)(hm:m≤1000)(w:World)(hr:HRw w g (P10 x y n v))(ho:w.ownsRow (g+1) 5 1 v m ys) :
  Calls Tryz.prog 46 #[PO g 9,.bool od] w fun e w'=>(∃ z,e=.returned z)∧(∃ v',HRw w' g (P10 x y n v')∧w'.ownsRow (g+1) 5 1 v' (m+[Value.int .u8 kk].length) (ys++[Value.int .u8 kk]))∧Below g w w':=by
 have R0:Hid (HRw w g (P10 x y n v)):=hr
 have R1:Hid (w.ownsRow (g+1) 5 1 v m ys):=ho
 have HK:Hid _:=hk
 clear hr ho hk
 cases od
 all_goals
  go_enter Tryz.func46,Tryz.ntmps46
  go_upto_region 3 with fail
  have hk:=HK.out
  have A0:=R0.out
  have A1:=R1.out
  have A2:Below g w w:=Below.refl g w
  refine RegV.wp (by kernel_rfl) (regV_vals3 (by kernel_rfl) (by kernel_rfl) (CMa w g x y m n v ys [Value.int .u8 kk] kk) ?_ ?_ ?_)
  ·rintro w1 (rfl | rfl)
   ·refine ⟨fun _=>⟨A0,A1,A2,trivial⟩,?_,?_,?_,?_,?_,?_,?_,?_,?_,?_,?_,?_,?_,?_⟩<;>(intro h;simp[Array.getD] at h)
   ·refine ⟨fun _=>⟨A0,A1,A2.drew,trivial⟩,?_,?_,?_,?_,?_,?_,?_,?_,?_,?_,?_,?_,?_,?_⟩<;>(intro h;simp[Array.getD] at h)
  ·clear A0 A1 A2
   intro lz vs a' w' i o hs ho hi hF cc
   have hi11:i<11:=by have:=(Array.getElem?_eq_some_iff.1 ho).1;simpa using this
   have hcase:i=0∨i=1∨i=2∨i=3∨i=4∨i=5∨i=6∨i=7∨i=8∨i=9∨i=10:=by omega
   rcases hcase with rfl | rfl | rfl | rfl | rfl | rfl | rfl | rfl | rfl | rfl | rfl
   ·simp at ho
    subst ho
    have T:=dT3 lz 0
    have hun:¬ lz.getD 0 false=true:=fun h=>undone hi hs h
    exact wpG_plain rfl (wVF (v:=PO g 9) (w1:=w') (by simp[execOp,ev ((hF.old (t:=0) (by kernel_rfl)).trans rfl),go_sem]) ⟨_,rfl,⟨fun h=>cc.pre (fun q=>h (done_keep q)),fun h=>⟨done_keep (cc.k (T 7 (by decide) h)).1,done_keep (cc.k (T 7 (by decide) h)).2⟩,fun h=>done_keep (cc.k6 (T 6 (by decide) h)),fun h=>done_keep (cc.k10 (T 10 (by decide) h)),fun _=>rfl,fun h=>cc.c1 (T 1 (by decide) h),fun h=>cc.c2 (T 2 (by decide) h),fun h=>cc.c3 (T 3 (by decide) h),fun h=>cc.c4 (T 4 (by decide) h),fun h=>cc.c5 (T 5 (by decide) h),fun h=>(cc.c6 (T 6 (by decide) h)).imp fun q z=>⟨z.1,fun z2=>z.2 (fun q=>z2 (done_keep q))⟩,fun h=>⟨(cc.c7 (T 7 (by decide) h)).1,(cc.c7 (T 7 (by decide) h)).2.1,fun z=>(cc.c7 (T 7 (by decide) h)).2.2 (fun q=>z (done_keep q))⟩,fun h=>cc.c8 (T 8 (by decide) h),fun h=>cc.c9 (T 9 (by decide) h),fun h=>cc.c10 (T 10 (by decide) h)⟩⟩)
   ·simp at ho
    subst ho
    have T:=dT3 lz 1
    have hun:¬ lz.getD 1 false=true:=fun h=>undone hi hs h
    exact wpG_plain rfl (wVF (v:=PO g 9) (w1:=w') (by simp[execOp,ev ((hF.old (t:=0) (by kernel_rfl)).trans rfl),go_sem]) ⟨_,rfl,⟨fun h=>cc.pre (fun q=>h (done_keep q)),fun h=>⟨done_keep (cc.k (T 7 (by decide) h)).1,done_keep (cc.k (T 7 (by decide) h)).2⟩,fun h=>done_keep (cc.k6 (T 6 (by decide) h)),fun h=>done_keep (cc.k10 (T 10 (by decide) h)),fun h=>cc.c0 (T 0 (by decide) h),fun _=>rfl,fun h=>cc.c2 (T 2 (by decide) h),fun h=>cc.c3 (T 3 (by decide) h),fun h=>cc.c4 (T 4 (by decide) h),fun h=>cc.c5 (T 5 (by decide) h),fun h=>(cc.c6 (T 6 (by decide) h)).imp fun q z=>⟨z.1,fun z2=>z.2 (fun q=>z2 (done_keep q))⟩,fun h=>⟨(cc.c7 (T 7 (by decide) h)).1,(cc.c7 (T 7 (by decide) h)).2.1,fun z=>(cc.c7 (T 7 (by decide) h)).2.2 (fun q=>z (done_keep q))⟩,fun h=>cc.c8 (T 8 (by decide) h),fun h=>cc.c9 (T 9 (by decide) h),fun h=>cc.c10 (T 10 (by decide) h)⟩⟩)
   ·simp at ho
    subst ho
    have T:=dT3 lz 2
    have hun:¬ lz.getD 2 false=true:=fun h=>undone hi hs h
    have d1:=wDn (i:=2) (j:=1) (by kernel_rfl) hi
    have v1:=(hF.new (t:=7) (i:=1) (by kernel_rfl) (by simp) d1).trans (cc.c1 d1)
    exact wpG_plain rfl (wVF (v:=PO g 9) (w1:=w') (by simp[execOp,ev v1,go_sem]) ⟨_,rfl,⟨fun h=>cc.pre (fun q=>h (done_keep q)),fun h=>⟨done_keep (cc.k (T 7 (by decide) h)).1,done_keep (cc.k (T 7 (by decide) h)).2⟩,fun h=>done_keep (cc.k6 (T 6 (by decide) h)),fun h=>done_keep (cc.k10 (T 10 (by decide) h)),fun h=>cc.c0 (T 0 (by decide) h),fun h=>cc.c1 (T 1 (by decide) h),fun _=>rfl,fun h=>cc.c3 (T 3 (by decide) h),fun h=>cc.c4 (T 4 (by decide) h),fun h=>cc.c5 (T 5 (by decide) h),fun h=>(cc.c6 (T 6 (by decide) h)).imp fun q z=>⟨z.1,fun z2=>z.2 (fun q=>z2 (done_keep q))⟩,fun h=>⟨(cc.c7 (T 7 (by decide) h)).1,(cc.c7 (T 7 (by decide) h)).2.1,fun z=>(cc.c7 (T 7 (by decide) h)).2.2 (fun q=>z (done_keep q))⟩,fun h=>cc.c8 (T 8 (by decide) h),fun h=>cc.c9 (T 9 (by decide) h),fun h=>cc.c10 (T 10 (by decide) h)⟩⟩)
   ·simp at ho
    subst ho
    have T:=dT3 lz 3
    have hun:¬ lz.getD 3 false=true:=fun h=>undone hi hs h
    have d2:=wDn (i:=3) (j:=2) (by kernel_rfl) hi
    have v2:=(hF.new (t:=8) (i:=2) (by kernel_rfl) (by simp) d2).trans (cc.c2 d2)
    exact wpG_plain rfl (wVF (v:=PO g 9) (w1:=w') (by simp[execOp,ev v2,go_sem]) ⟨_,rfl,⟨fun h=>cc.pre (fun q=>h (done_keep q)),fun h=>⟨done_keep (cc.k (T 7 (by decide) h)).1,done_keep (cc.k (T 7 (by decide) h)).2⟩,fun h=>done_keep (cc.k6 (T 6 (by decide) h)),fun h=>done_keep (cc.k10 (T 10 (by decide) h)),fun h=>cc.c0 (T 0 (by decide) h),fun h=>cc.c1 (T 1 (by decide) h),fun h=>cc.c2 (T 2 (by decide) h),fun _=>rfl,fun h=>cc.c4 (T 4 (by decide) h),fun h=>cc.c5 (T 5 (by decide) h),fun h=>(cc.c6 (T 6 (by decide) h)).imp fun q z=>⟨z.1,fun z2=>z.2 (fun q=>z2 (done_keep q))⟩,fun h=>⟨(cc.c7 (T 7 (by decide) h)).1,(cc.c7 (T 7 (by decide) h)).2.1,fun z=>(cc.c7 (T 7 (by decide) h)).2.2 (fun q=>z (done_keep q))⟩,fun h=>cc.c8 (T 8 (by decide) h),fun h=>cc.c9 (T 9 (by decide) h),fun h=>cc.c10 (T 10 (by decide) h)⟩⟩)
   ·simp at ho
    subst ho
    have T:=dT3 lz 4
    have hun:¬ lz.getD 4 false=true:=fun h=>undone hi hs h
    have d3:=wDn (i:=4) (j:=3) (by kernel_rfl) hi
    have v3:=(hF.new (t:=9) (i:=3) (by kernel_rfl) (by simp) d3).trans (cc.c3 d3)
    obtain ⟨p1,p2,p3,p4⟩:=cc.pre (fun h=>hun (cc.k h).1)
    refine wpG_plain rfl (Oper.wp_mono ?_ (ob_load1q 61 (.tmp 9) rfl v3 p1 Tryz.underlying61 rfl rfl))
    rintro a2 w2 ⟨rfl,rfl⟩
    exact ⟨_,rfl,⟨fun h=>cc.pre (fun q=>h (done_keep q)),fun h=>⟨done_keep (cc.k (T 7 (by decide) h)).1,done_keep (cc.k (T 7 (by decide) h)).2⟩,fun h=>done_keep (cc.k6 (T 6 (by decide) h)),fun h=>done_keep (cc.k10 (T 10 (by decide) h)),fun h=>cc.c0 (T 0 (by decide) h),fun h=>cc.c1 (T 1 (by decide) h),fun h=>cc.c2 (T 2 (by decide) h),fun h=>cc.c3 (T 3 (by decide) h),fun _=>rfl,fun h=>cc.c5 (T 5 (by decide) h),fun h=>(cc.c6 (T 6 (by decide) h)).imp fun q z=>⟨z.1,fun z2=>z.2 (fun q=>z2 (done_keep q))⟩,fun h=>⟨(cc.c7 (T 7 (by decide) h)).1,(cc.c7 (T 7 (by decide) h)).2.1,fun z=>(cc.c7 (T 7 (by decide) h)).2.2 (fun q=>z (done_keep q))⟩,fun h=>cc.c8 (T 8 (by decide) h),fun h=>cc.c9 (T 9 (by decide) h),fun h=>cc.c10 (T 10 (by decide) h)⟩⟩
   ·simp at ho
    subst ho
    have T:=dT3 lz 5
    have hun:¬ lz.getD 5 false=true:=fun h=>undone hi hs h
    exact wpG_plain rfl (wVF (v:=.int .u8 kk) (w1:=w') (by simp[execOp,ev ((hF.old (t:=4) (by kernel_rfl)).trans (show _=Value.int .u8 kk by rw[hk];rfl)),go_sem]) ⟨_,rfl,⟨fun h=>cc.pre (fun q=>h (done_keep q)),fun h=>⟨done_keep (cc.k (T 7 (by decide) h)).1,done_keep (cc.k (T 7 (by decide) h)).2⟩,fun h=>done_keep (cc.k6 (T 6 (by decide) h)),fun h=>done_keep (cc.k10 (T 10 (by decide) h)),fun h=>cc.c0 (T 0 (by decide) h),fun h=>cc.c1 (T 1 (by decide) h),fun h=>cc.c2 (T 2 (by decide) h),fun h=>cc.c3 (T 3 (by decide) h),fun h=>cc.c4 (T 4 (by decide) h),fun _=>rfl,fun h=>(cc.c6 (T 6 (by decide) h)).imp fun q z=>⟨z.1,fun z2=>z.2 (fun q=>z2 (done_keep q))⟩,fun h=>⟨(cc.c7 (T 7 (by decide) h)).1,(cc.c7 (T 7 (by decide) h)).2.1,fun z=>(cc.c7 (T 7 (by decide) h)).2.2 (fun q=>z (done_keep q))⟩,fun h=>cc.c8 (T 8 (by decide) h),fun h=>cc.c9 (T 9 (by decide) h),fun h=>cc.c10 (T 10 (by decide) h)⟩⟩)
   ·simp at ho
    subst ho
    have T:=dT3 lz 6
    have hun:¬ lz.getD 6 false=true:=fun h=>undone hi hs h
    have d5:=wDn (i:=6) (j:=5) (by kernel_rfl) hi
    have v5:=(hF.new (t:=11) (i:=5) (by kernel_rfl) (by simp) d5).trans (cc.c5 d5)
    have n7:¬ lz.getD 7 false=true:=fun h=>hun (cc.k h).2
    obtain ⟨p1,p2,p3,p4⟩:=cc.pre n7
    have hb2:Below w'.heap.size w' (w'.alloc (.cells #[.int .u8 kk] 5)):=bAl (Below.refl _ _) _
    exact wpG_plain rfl (wVF (v:=.slice (some ⟨w'.heap.size,0,none⟩) 1 1) (w1:=w'.alloc (.cells #[.int .u8 kk] 5)) (by simp[execOp,ev v5,go_sem]) ⟨_,rfl,⟨fun _=>⟨p1.below hb2,owns_below p2 hb2,p3.trans (hb2.mono (Nat.le_of_lt p1.lt)),trivial⟩,fun h=>absurd (T 7 (by decide) h) n7,fun _=>done_keep d5,fun h=>absurd (cc.k10 (T 10 (by decide) h)) n7,fun h=>cc.c0 (T 0 (by decide) h),fun h=>cc.c1 (T 1 (by decide) h),fun h=>cc.c2 (T 2 (by decide) h),fun h=>cc.c3 (T 3 (by decide) h),fun h=>cc.c4 (T 4 (by decide) h),fun h=>cc.c5 (T 5 (by decide) h),fun _=>⟨_,rfl,fun _=>HRw.last rfl⟩,fun h=>absurd (T 7 (by decide) h) n7,fun h=>cc.c8 (T 8 (by decide) h),fun h=>cc.c9 (T 9 (by decide) h),fun h=>absurd (cc.k10 (T 10 (by decide) h)) n7⟩⟩)
   ·simp at ho
    subst ho
    have T:=dT3 lz 7
    have hun:¬ lz.getD 7 false=true:=fun h=>undone hi hs h
    have d4:=wDn (i:=7) (j:=4) (by kernel_rfl) hi
    have v4:=(hF.new (t:=10) (i:=4) (by kernel_rfl) (by simp) d4).trans (cc.c4 d4)
    have d6:=wDn (i:=7) (j:=6) (by kernel_rfl) hi
    have l7:(lz.setIfInBounds 7 true).getD 7 false=true:=done_me hs (by decide)
    obtain ⟨p1,p2,p3,p4⟩:=cc.pre hun
    obtain ⟨i5,h5a,h5b,h5c,h5d⟩:=hI5
    obtain ⟨bq,e6,hq⟩:=cc.c6 d6
    have v6:=(hF.new (t:=12) (i:=6) (by kernel_rfl) (by simp) d6).trans e6
    obtain ⟨v2,w2,hr2,q1,q2,_⟩:=run_append_own (P:=Tryz.prog) w' (g+1) 61 61 5 _ (.int .u8 0) 1 1 Tryz.underlying61 h5a h5b h5c h5d rfl (by decide) v m ys p2 ⟨bq,0,none⟩ 1 1 [.int .u8 kk] rfl (fun j u hj=>by
     cases j with
     | zero=>simp at hj;subst hj;exact (hq hun).cell 0
     | succ j=>simp at hj) (fun u hu=>by simp at hu;subst hu;rfl) (by simp only[maxLen];omega) (by omega) p1.lt
    exact wpG_plain rfl (wVF (v:=v2) (w1:=w2) (by simp[execOp,resolve,invoke,builtin,v4,v6,hr2]) ⟨_,rfl,⟨fun h=>absurd l7 h,fun _=>⟨done_keep d4,done_keep d6⟩,fun h=>done_keep (cc.k6 (T 6 (by decide) h)),fun h=>absurd (cc.k10 (T 10 (by decide) h)) hun,fun h=>cc.c0 (T 0 (by decide) h),fun h=>cc.c1 (T 1 (by decide) h),fun h=>cc.c2 (T 2 (by decide) h),fun h=>cc.c3 (T 3 (by decide) h),fun h=>cc.c4 (T 4 (by decide) h),fun h=>cc.c5 (T 5 (by decide) h),fun h=>(cc.c6 (T 6 (by decide) h)).imp fun q z=>⟨z.1,fun z2=>absurd l7 z2⟩,fun _=>⟨q1,p3.trans (bel_grown q2 (owns_le p2) (Nat.le_of_lt p1.lt)),fun _=>p1.grownB q2 (fun e=>owns_block p2 e.symm)⟩,fun h=>cc.c8 (T 8 (by decide) h),fun h=>cc.c9 (T 9 (by decide) h),fun h=>absurd (cc.k10 (T 10 (by decide) h)) hun⟩⟩)
   ·simp at ho
    subst ho
    have T:=dT3 lz 8
    have hun:¬ lz.getD 8 false=true:=fun h=>undone hi hs h
    have d0:=wDn (i:=8) (j:=0) (by kernel_rfl) hi
    have v0:=(hF.new (t:=6) (i:=0) (by kernel_rfl) (by simp) d0).trans (cc.c0 d0)
    exact wpG_plain rfl (wVF (v:=PO g 9) (w1:=w') (by simp[execOp,ev v0,go_sem]) ⟨_,rfl,⟨fun h=>cc.pre (fun q=>h (done_keep q)),fun h=>⟨done_keep (cc.k (T 7 (by decide) h)).1,done_keep (cc.k (T 7 (by decide) h)).2⟩,fun h=>done_keep (cc.k6 (T 6 (by decide) h)),fun h=>done_keep (cc.k10 (T 10 (by decide) h)),fun h=>cc.c0 (T 0 (by decide) h),fun h=>cc.c1 (T 1 (by decide) h),fun h=>cc.c2 (T 2 (by decide) h),fun h=>cc.c3 (T 3 (by decide) h),fun h=>cc.c4 (T 4 (by decide) h),fun h=>cc.c5 (T 5 (by decide) h),fun h=>(cc.c6 (T 6 (by decide) h)).imp fun q z=>⟨z.1,fun z2=>z.2 (fun q=>z2 (done_keep q))⟩,fun h=>⟨(cc.c7 (T 7 (by decide) h)).1,(cc.c7 (T 7 (by decide) h)).2.1,fun z=>(cc.c7 (T 7 (by decide) h)).2.2 (fun q=>z (done_keep q))⟩,fun _=>rfl,fun h=>cc.c9 (T 9 (by decide) h),fun h=>cc.c10 (T 10 (by decide) h)⟩⟩)
   ·simp at ho
    subst ho
    have T:=dT3 lz 9
    have hun:¬ lz.getD 9 false=true:=fun h=>undone hi hs h
    have d8:=wDn (i:=9) (j:=8) (by kernel_rfl) hi
    have v8:=(hF.new (t:=14) (i:=8) (by kernel_rfl) (by simp) d8).trans (cc.c8 d8)
    exact wpG_plain rfl (wVF (v:=PO g 9) (w1:=w') (by simp[execOp,ev v8,go_sem]) ⟨_,rfl,⟨fun h=>cc.pre (fun q=>h (done_keep q)),fun h=>⟨done_keep (cc.k (T 7 (by decide) h)).1,done_keep (cc.k (T 7 (by decide) h)).2⟩,fun h=>done_keep (cc.k6 (T 6 (by decide) h)),fun h=>done_keep (cc.k10 (T 10 (by decide) h)),fun h=>cc.c0 (T 0 (by decide) h),fun h=>cc.c1 (T 1 (by decide) h),fun h=>cc.c2 (T 2 (by decide) h),fun h=>cc.c3 (T 3 (by decide) h),fun h=>cc.c4 (T 4 (by decide) h),fun h=>cc.c5 (T 5 (by decide) h),fun h=>(cc.c6 (T 6 (by decide) h)).imp fun q z=>⟨z.1,fun z2=>z.2 (fun q=>z2 (done_keep q))⟩,fun h=>⟨(cc.c7 (T 7 (by decide) h)).1,(cc.c7 (T 7 (by decide) h)).2.1,fun z=>(cc.c7 (T 7 (by decide) h)).2.2 (fun q=>z (done_keep q))⟩,fun h=>cc.c8 (T 8 (by decide) h),fun _=>rfl,fun h=>cc.c10 (T 10 (by decide) h)⟩⟩)
   ·simp at ho
    subst ho
    have T:=dT3 lz 10
    have hun:¬ lz.getD 10 false=true:=fun h=>undone hi hs h
    have d9:=wDn (i:=10) (j:=9) (by kernel_rfl) hi
    have v9:=(hF.new (t:=15) (i:=9) (by kernel_rfl) (by simp) d9).trans (cc.c9 d9)
    have d7:=wDn (i:=10) (j:=7) (by kernel_rfl) hi
    have v7:=hF.new (t:=13) (i:=7) (by kernel_rfl) (by simp) d7
    have l10:(lz.setIfInBounds 10 true).getD 10 false=true:=done_me hs (by decide)
    obtain ⟨q1,q2,q3⟩:=cc.c7 d7
    obtain ⟨o1,o2⟩:=owns_one q1
    refine wpG_plain rfl (Oper.wp_mono ?_ (ob_storea 61 (.tmp 15) (.tmp 13) rfl v9 v7 o1 (q3 hun) (by kernel_rfl) (Nat.le_of_ble_eq_true rfl) (by simp[o2]) (e:=P10 x y n (vs 7)) rfl))
    rintro a2 w2 ⟨rfl,rfl⟩
    exact ⟨undef,rfl,⟨fun h=>absurd (done_keep d7) h,fun h=>⟨done_keep (cc.k (T 7 (by decide) h)).1,done_keep (cc.k (T 7 (by decide) h)).2⟩,fun h=>done_keep (cc.k6 (T 6 (by decide) h)),fun _=>done_keep d7,fun h=>cc.c0 (T 0 (by decide) h),fun h=>cc.c1 (T 1 (by decide) h),fun h=>cc.c2 (T 2 (by decide) h),fun h=>cc.c3 (T 3 (by decide) h),fun h=>cc.c4 (T 4 (by decide) h),fun h=>cc.c5 (T 5 (by decide) h),fun h=>(cc.c6 (T 6 (by decide) h)).imp fun q z=>⟨z.1,fun z2=>absurd (done_keep d7) z2⟩,fun _=>⟨owns_setRow q1 _,q2.trans (bel_grown (grown_setRow _ _ _) (fun k e=>by cases e;exact Nat.le_refl _) (Nat.le_of_lt (q3 hun).lt)),fun z=>absurd l10 z⟩,fun h=>cc.c8 (T 8 (by decide) h),fun h=>cc.c9 (T 9 (by decide) h),fun _=>HRw.set_same (q3 hun) _⟩⟩
  ·intro lz vs a' w' hd hF cc
   obtain ⟨q1,q2,_⟩:=cc.c7 (hd 7 (by decide))
   have q4:=cc.c10 (hd 10 (by decide))
   have eD:a'.defers=[]:=by rw[hF.all hd];rfl
   exact bodyPost_end (results_none rfl _ _ _) eD ⟨⟨_,rfl⟩,⟨_,q4,q1⟩,q2⟩
theorem own_conv{w:World}{b m:Nat}{v:Value}(zs:List Int)(h:w.ownsRow b 5 1 v m (zs.map (Value.int .u8)))(hm:0<m):(convert 61 9 v).run Tryz.prog w=.ok (.string (strOfNums zs)) w:=by
 have hl:zs.length=m:=by have:=h.1;simpa using this
 rcases h.2 with ⟨_,h0⟩ | ⟨g,cap,cur,rfl,_⟩
 ·omega
 ·refine run_convert_bytes_arg _ 61 5 Tryz.underlying61 Tryz.underlying5 _ 0 m cap zs hl (fun i hi=>?_) 9 Tryz.underlying9
  have:=h.cells (g:=g) rfl i (.int .u8 (zs.getD i 0)) (by simp[List.getD_eq_getElem?_getD,List.getElem?_eq_getElem (show i<zs.length by omega)])
  simpa [Addr.add_lit] using this
theorem pg_text(g x y m:Nat)(n:Bool)(v:Value)(zs:List Int)(hm:0<m)(w:World)(hr:HRw w g (P10 x y n v))(ho:w.ownsRow (g+1) 5 1 v m (zs.map (Value.int .u8))) :
  Calls Tryz.prog 47 #[PO g 9] w fun e w'=>e=.returned (.string (strOfNums zs))∧Below w.heap.size w w':=by
 have hc:=own_conv zs ho hm
 have h9:w.cell? ⟨g,9,none⟩=some v:=hr.cell 9
 clear ho hr
 go_enter Tryz.func47,Tryz.ntmps47
 go_wp2
 exact bodyPost_ret (results_tmp rfl _ _ _) rfl ⟨rfl,Below.refl _ _⟩
def bL (x:Nat):List Int:=(List.range 32).map fun j=>(byteFn x j:Int)
theorem byteFn_lt(n j:Nat):byteFn n j<256:=Nat.mod_lt _ (by decide)
theorem cells_strN(x:Nat):Lib.strCells (strN x)=(bL x).map (Value.int .u8):=by
 unfold Lib.strCells strN bL
 rw[strOfNums_data,List.map_map,List.map_map,List.map_map]
 refine List.map_congr_left (fun j _=>?_)
 have:=byteFn_lt x j
 simp[Nat.mod_eq_of_lt this]
end
section
open Go.RowKit Go.Sort
attribute [local go_sem] Oper.semAt_some bd27_
set_option maxRecDepth 100000 in
theorem swrite_raw(x y:Nat)(od:Bool)(s:ByteArray)(hs:s=strOfNums (bL x++bL y++[if od then 1 else 0]))(w:World):Calls Tryz.prog 13 #[A9 x y od] w fun e w'=>e=.returned (.string s)∧Below w.heap.size w w':=by
 have HS:Hid _:=hs
 clear hs
 go_enter Tryz.func13,Tryz.ntmps13
 go_upto_region 2 with fail
 refine name_world _ ?_
 intro W hW
 obtain ⟨g,hg⟩:∃ g,g=w.heap.size+1:=⟨_,rfl⟩
 have hb0:Below w.heap.size w W:=by rw[hW];exact bAl (bAl (Below.refl _ _) _) _
 have R0:Hid (HRw W g (P10 x y od (.slice none 0 0))):=by rw[hW,hg];exact HRw.last (by simp)
 have O0:Hid (W.ownsRow (g+1) 5 1 (.slice none 0 0) 0 []):=World.ownsRow_nil W (g+1) 5 1
 have B0:Hid (Below w.heap.size w W):=hb0
 clear hW hb0
 rw[← hg]
 have HG:Hid (g=w.heap.size+1):=hg
 clear hg
 have q0:W.cell? ⟨g,0,none⟩=some (B (l0 x)):=R0.out.cell 0
 have q1:W.cell? ⟨g,1,none⟩=some (B (l1 x)):=R0.out.cell 1
 have q2:W.cell? ⟨g,2,none⟩=some (B (l2 x)):=R0.out.cell 2
 have q3:W.cell? ⟨g,3,none⟩=some (B (l3 x)):=R0.out.cell 3
 go_wp2_with fail
 refine (pg_number g x y x 0 od (.slice none 0 0) [] (strN x) (bytes_any x) (by rw[strN_size];decide) W R0.out O0.out).mono ?_
 rintro e W1 ⟨⟨z1,rfl⟩,⟨v1,a1,b1⟩,k1⟩
 rw[cells_strN] at b1
 have R1:Hid (HRw W1 g (P10 x y od v1)):=a1
 have o1:W1.ownsRow (g+1) 5 1 v1 32 ((bL x).map (Value.int .u8)):=by simpa [bL] using b1
 have O1:Hid _:=o1
 have K1:Hid (Below g W W1):=k1
 clear q0 q1 q2 q3 a1 b1 k1 o1
 have q4:W1.cell? ⟨g,4,none⟩=some (B (l0 y)):=R1.out.cell 4
 have q5:W1.cell? ⟨g,5,none⟩=some (B (l1 y)):=R1.out.cell 5
 have q6:W1.cell? ⟨g,6,none⟩=some (B (l2 y)):=R1.out.cell 6
 have q7:W1.cell? ⟨g,7,none⟩=some (B (l3 y)):=R1.out.cell 7
 go_wp2_with fail
 refine (pg_number g x y y 32 od v1 _ (strN y) (bytes_any y) (by rw[strN_size];decide) W1 R1.out O1.out).mono ?_
 rintro e W2 ⟨⟨z2,rfl⟩,⟨v2,a2,b2⟩,k2⟩
 rw[cells_strN,← List.map_append] at b2
 have R2:Hid (HRw W2 g (P10 x y od v2)):=a2
 have o2:W2.ownsRow (g+1) 5 1 v2 64 ((bL x++bL y).map (Value.int .u8)):=by simpa [bL] using b2
 have O2:Hid _:=o2
 have K2:Hid (Below g W W2):=K1.out.trans k2
 clear q4 q5 q6 q7 a2 b2 k2 R1 O1 K1 o2
 have q8:W2.cell? ⟨g,8,none⟩=some (.bool od):=R2.out.cell 8
 go_wp2_with fail
 refine (pg_mark g x y 64 od od v2 _ _ rfl (by decide) W2 R2.out O2.out).mono ?_
 rintro e W3 ⟨⟨z3,rfl⟩,⟨v3,a3,b3⟩,k3⟩
 have R3:Hid (HRw W3 g (P10 x y od v3)):=a3
 have O3:Hid (W3.ownsRow (g+1) 5 1 v3 65 ((bL x++bL y++[if od then 1 else 0]).map (Value.int .u8))):=by
  rw[List.map_append (l₂:=[_])]
  exact b3
 have K3:Hid (Below g W W3):=K2.out.trans k3
 clear q8 a3 b3 k3 R2 O2 K2
 go_wp2_with fail
 have ht:=pg_text g x y 65 od v3 _ (by decide) W3 R3.out O3.out
 rw[← HS.out] at ht
 refine ht.mono ?_
 clear ht
 rintro e W4 ⟨rfl,hb4⟩
 have B4:Hid (Below w.heap.size w W4):=by
  exact B0.out.trans ((K3.out.mono (by have:=HG.out;omega)).trans (hb4.mono (by have:=HG.out;have:=R3.out.lt;omega)))
 clear hb4 R3 O3 K3
 go_wp2
 exact bodyPost_ret (results_tmp rfl _ _ _) rfl ⟨rfl,B4.out⟩
end
section
open Go.RowKit Go.Sort
theorem run_eq27(x y:Nat)(n:Bool)(hx:x<W)(hy:y<W)(w:World):(Op.equalIn 10000 27 (A9 x y n) (A9 x y n)).run Tryz.prog w=.ok true w:=by
 have e1:∀ w,(Op.equalIn 9999 24 (U x) (U x)).run Tryz.prog w=.ok true w:=fun w=>by rw[run_eqUd 9997 x x hx hx w];simp
 have e2:∀ w,(Op.equalIn 9999 24 (U y) (U y)).run Tryz.prog w=.ok true w:=fun w=>by rw[run_eqUd 9997 y y hy hy w];simp
 have e3:∀ w,(Op.equalIn 9999 4 (.bool n) (.bool n)).run Tryz.prog w=.ok true w:=fun w=>by rw[run_eqB 9998 n n w];simp
 have hs:∀ w,(sizeOf 24).run Tryz.prog w=.ok 4 w:=fun w=>by rw[run_sizeOf w info24,size24]
 have p1:∀ w,(part 24 (P9 x y n) 0).run Tryz.prog w=.ok (U x) w:=fun w=>by simp[part,isAgg,run_underlying Tryz.underlying24,hs]
 have p2:∀ w,(part 24 (P9 x y n) 4).run Tryz.prog w=.ok (U y) w:=fun w=>by simp[part,isAgg,run_underlying Tryz.underlying24,hs]
 have p5:∀ w,(part 4 (P9 x y n) 8).run Tryz.prog w=.ok (.bool n) w:=fun w=>by simp[part,isAgg,run_underlying Tryz.underlying4]
 rw[show (10000:Nat)=9999+1 from rfl,Op.equalIn]
 simp[run_underlying Tryz.underlying27,e1,e2,e3,p1,p2,p5]
def tS (x y:Nat) (od:Bool):ByteArray:=strOfNums (bL x++bL y++[if od then 1 else 0])
end
section
open Go.RowKit Go.Sort
set_option maxRecDepth 100000
theorem rmake_len(s:ByteArray)(k:Nat)(l:Int)(hl:(s.size:Int)=l)(hn:¬ l=32)(w:World):Calls Tryz.prog 10 #[(.string s),(U k)] w fun e w'=>e=.returned (.tuple #[(A9 0 0 false),(.int .i64 2)])∧Below w.heap.size w w':=
 ro [(1,[nO,lO Tryz.underlying9 hl,bO .neq 3 (p:=(.int .i64 l)) (q:=(.int .i64 32)) (v:=(.bool true)) (by intros;simp[go_sem,hn])]),(2,[dO 27 [] (xs:=[]) (bd27_)])] Tryz.func10
theorem rmake_key(s:ByteArray)(k:Nat)(hl:(s.size:Int)=32)(hF:Ds 22 #[(U k)] (.bool false))(w:World):Calls Tryz.prog 10 #[(.string s),(U k)] w fun e w'=>e=.returned (.tuple #[(A9 0 0 false),(.int .i64 5)])∧Below w.heap.size w w':=
 ro [(1,[nO,lO Tryz.underlying9 hl,bO .neq 3 (p:=(.int .i64 32)) (q:=(.int .i64 32)) (v:=(.bool false)) (by intros;simp[go_sem])]),(3,[nO,kC Tryz.func22 hF.out,uO .not (p:=(.bool false)) (v:=(.bool true)) (by intros;simp[go_sem])]),(4,[dO 27 [] (xs:=[]) (bd27_)])] Tryz.func10
theorem makes_a(s b:ByteArray)(k:Nat)(l:Int)(hl:(s.size:Int)=l)(hn:1000<l)(hW:DoesT 8 #[] (.bool true))(w:World)(ht:Tabs w ki):Calls Tryz.prog 3 #[(.string s),(U k),(.string b)] w fun e w'=>e=.returned (.bool true)∧Below w.heap.size w w':=
 roT (T:=fun w=>Tabs w ki) [(1,[nO,lO Tryz.underlying9 hl,bO .gtr 3 (p:=(.int .i64 l)) (q:=(.int .i64 1000)) (v:=(.bool true)) (by intros;simp[go_sem,hn])]),(2,[cA Tryz.func8 hW.out])] Tryz.func3 (fun _ hb=>ht.below hb)
theorem makes_b(s b:ByteArray)(k:Nat)(l m:Int)(hl:(s.size:Int)=l)(hn:¬ 1000<l)(hm:(b.size:Int)=m)(hk:1000<m)(hW:DoesT 8 #[] (.bool true))(w:World)(ht:Tabs w ki):Calls Tryz.prog 3 #[(.string s),(U k),(.string b)] w fun e w'=>e=.returned (.bool true)∧Below w.heap.size w w':=
 roT (T:=fun w=>Tabs w ki) [(1,[nO,lO Tryz.underlying9 hl,bO .gtr 3 (p:=(.int .i64 l)) (q:=(.int .i64 1000)) (v:=(.bool false)) (by intros;simp[go_sem,hn]),nO,nO,lO Tryz.underlying9 hm,bO .gtr 3 (p:=(.int .i64 m)) (q:=(.int .i64 1000)) (v:=(.bool true)) (by intros;simp[go_sem,hk])]),(2,[cA Tryz.func8 hW.out])] Tryz.func3 (fun _ hb=>ht.below hb)
theorem makes_c(s b:ByteArray)(k:Nat)(l m:Int)(hl:(s.size:Int)=l)(hn:¬ 1000<l)(hm:(b.size:Int)=m)(hk:¬ 1000<m)(rx ry ax ay:Nat)(rb ab:Bool)(ev gv:Int)(t:ByteArray)(h1:DoesT 9 #[(.string s),(U k)] (.tuple #[(A9 rx ry rb),(.int .i64 ev)]))(h2:Ds 10 #[(.string s),(U k)] (.tuple #[(A9 rx ry rb),(.int .i64 ev)]))(h3:Ds 11 #[(.string b)] (.tuple #[(A9 ax ay ab),(.int .i64 gv)]))(h4:Ds 12 #[(.string b)] (.tuple #[(A9 ax ay ab),(.int .i64 gv)]))(h5:Ds 13 #[(A9 rx ry rb)] (.string t))(h6:Ds 14 #[(A9 rx ry rb)] (.string t))(hW:DoesT 8 #[] (.bool true))(hE0:∀ w,(Op.equalIn 10000 27 (A9 rx ry rb) (A9 rx ry rb)).run Tryz.prog w=.ok true w)(hE1:∀ w,(Op.equalIn 10000 27 (A9 ax ay ab) (A9 ax ay ab)).run Tryz.prog w=.ok true w)(w:World)(ht:Tabs w ki):Calls Tryz.prog 3 #[(.string s),(U k),(.string b)] w fun e w'=>e=.returned (.bool true)∧Below w.heap.size w w':=
 roT (T:=fun w=>Tabs w ki) [(1,[nO,lO Tryz.underlying9 hl,bO .gtr 3 (p:=(.int .i64 l)) (q:=(.int .i64 1000)) (v:=(.bool false)) (by intros;simp[go_sem,hn]),nO,nO,lO Tryz.underlying9 hm,bO .gtr 3 (p:=(.int .i64 m)) (q:=(.int .i64 1000)) (v:=(.bool false)) (by intros;simp[go_sem,hk])]),(3,[nO,nO,cA Tryz.func9 h1.out]),(4,[nO,nO,kC Tryz.func10 h2.out]),(5,[nO,kC Tryz.func11 h3.out]),(6,[nO,kC Tryz.func12 h4.out]),(7,[nO,nO,bO .eql 27 (p:=(A9 rx ry rb)) (q:=(A9 rx ry rb)) (v:=(.bool true)) (by intros;simp[go_sem,hE0]),nO,nO,nO,bO .eql 3 (p:=(.int .i64 ev)) (q:=(.int .i64 ev)) (v:=(.bool true)) (by intros;simp[go_sem]),nO,nO,nO,kC Tryz.func13 h5.out,nO,kC Tryz.func14 h6.out,bO .eql 9 (p:=(.string t)) (q:=(.string t)) (v:=(.bool true)) (by intros;simp[go_sem]),nO,nO,nO,nO,bO .eql 27 (p:=(A9 ax ay ab)) (q:=(A9 ax ay ab)) (v:=(.bool true)) (by intros;simp[go_sem,hE1]),nO,nO,nO,nO,bO .eql 3 (p:=(.int .i64 gv)) (q:=(.int .i64 gv)) (v:=(.bool true)) (by intros;simp[go_sem]),nO,nO,cA Tryz.func8 hW.out])] Tryz.func3 (fun _ hb=>ht.below hb)
end
section
open Go.RowKit Go.Sort
set_option linter.unusedSectionVars false
section
variable [NeZero Pp] [NeZero On]
theorem cmp_ge_iff(a b:Nat):0≤cmpN a b↔b≤a:=by unfold cmpN;split;omega;split<;>omega
theorem cmp_gt_iff(a b:Nat):0<cmpN a b↔b<a:=by unfold cmpN;split;omega;split<;>omega
theorem bad_of{s:ByteArray}{d i:Nat}(h:gB s d i=false):kT s d i=0∨pX (pT s d i)=0∨0≤cmpN (pX (pT s d i)) On∨sT s d i=0:=by
 rw[cmp_ge_iff]
 unfold gB fitB at h
 by_cases h1:kT s d i=0
 ·exact .inl h1
 ·by_cases h2:pX (pT s d i)=0
  ·exact .inr (.inl h2)
  ·by_cases h3:On≤pX (pT s d i)
   ·exact .inr (.inr (.inl h3))
   ·refine .inr (.inr (.inr ?_))
    rw[decide_eq_false h1,decide_eq_true (show 0<pX (pT s d i) by omega),decide_eq_true (show pX (pT s d i)<On by omega)] at h
    simpa using h
theorem good_of{s:ByteArray}{d i:Nat}(h:gB s d i=true):¬ kT s d i=0∧¬ pX (pT s d i)=0∧¬ 0≤cmpN (pX (pT s d i)) On∧¬ sT s d i=0:=by
 rw[cmp_ge_iff]
 unfold gB fitB at h
 simp only[Bool.and_eq_true,Bool.not_eq_true',decide_eq_false_iff_not,decide_eq_true_eq] at h
 obtain ⟨⟨h1,h2,h3⟩,h4⟩:=h
 exact ⟨h1,by omega,by omega,h4⟩
theorem sub_On(x:Nat)(h:x<On):subW On x=On-x:=by
 unfold subW
 rw[show On+W-x=(On-x)+W by omega,Nat.add_mod_right]
 exact Nat.mod_eq_of_lt (Nat.lt_of_le_of_lt (Nat.sub_le _ _) On_W)
theorem tB_size(s:ByteArray)(d i:Nat)(hs:s.size=32):(tB s d i).size=65:=by
 unfold tB
 rw[ByteArray.size_append,ByteArray.size_append,strN_size,hs,one_size]
theorem rmake_at(s:ByteArray)(hs:s.size=32)(d:Nat)(hd:d<W)(hF:fitB d=true)(f:Nat)(hf:f≤256)(hl:∀ i,i<f→gB s d i=false)(hg:f<256→gB s d f=true)(rx ry:Nat)(ro:Bool)(re:Int)(hr1:f=256→rx=0∧ry=0∧ro=false∧re=4)(hr2:f<256→rx=pX (pT s d f)∧re=0∧ry=lowS (sT s d f)∧ro=lowO (sT s d f) (oT s d f)):Ds 10 #[.string s,U d] (.tuple #[A9 rx ry ro,.int .i64 re]):=fun w=>by
 have hFit:=rfit_any d hd
 rw[hF] at hFit
 have hM:∀ i,i<256→Ds 38 #[U (kT s d i),A9 Gx Gy false] (A9 (pX (pT s d i)) (pY (pT s d i)) (pN (pT s d i))):=fun i _=>by
  have h:=rmulP_any G_on (kT s d i) (kT_W s d i)
  rw[vG,vP_eq] at h
  exact h
 have he:=nD_W s hs
 have hsW:∀ i,sT s d i<W:=fun i=>Nat.lt_trans (sT_lt s d i) On_W
 refine rmake_raw s (strN d) d On (nD s) hO Gx Gy false f hf (fun i=>told (spg (blks (tB s d i)))) (fun i=>nD (told (spg (blks (tB s d i))))) (kT s d) (fun i=>pX (pT s d i)) (fun i=>pY (pT s d i)) (fun i=>ivN (kT s d i)) (fun i=>pX (pT s d i)*d%On) (fun i=>(nD s+pX (pT s d i)*d%On)%On) (sT s d) (fun i=>subW On (sT s d i)) (fun i=>pN (pT s d i)) (fun i=>decide (¬ On∣kT s d i)) (fun i=>unW On (sT s d i)) (oT s d) (fun i=>cmpN (pX (pT s d i)) On) (fun i=>cmpN (sT s d i) hO) (fun i=>((pY (pT s d i)%2:Nat):Int))
  (by rw[hs];rfl) (by rw[strN_size,hs];decide) hFit rorder_any (fun w=>rbytes_any d w) (rnumber_any s hs) rbase_any rshalf_any
  (fun i _ w=>rsum_any (tB s d i) (by rw[tB_size s d i hs];decide) w) (fun i _=>rnumber_any _ (told_size _)) (fun i _=>?_) hM (fun i _=>rminv_any _ (kT_W s d i)) (fun i _=>rstimes_any _ _ (pX_lt _) hd) (fun i _=>rmadd_any _ _ he (mod_W _)) (fun i _=>rstimes_any _ _ (iv_W _) (mod_W _))
  (fun i _ w=>rcmp_any _ _ (pX_lt _) On_W w) (fun i _ w=>rcmp_any _ _ (hsW i) hO_W w) (fun i _ w=>rsub_any _ _ On_W (hsW i) w)
  (fun i _ w=>by rw[run_eqU _ _ (kT_W s d i) zero_lt_W]) (fun i _ w=>by rw[run_eqU _ _ (pX_lt _) zero_lt_W]) (fun i _ w=>by rw[run_eqU _ _ (hsW i) zero_lt_W])
  (fun i=>odd_mod _) (fun i=>odd_eq _) (fun i hi=>bad_of (hl i hi)) (fun h=>good_of (hg h)) rx ry ro re hr1 (fun h=>?_) w
 ·have h:=rmadd_any (nD (told (spg (blks (tB s d i))))) 0 (nD_W _ (told_size _)) zero_lt_W
  rw[Nat.add_zero,← kT_eq] at h
  exact h
 ·obtain ⟨a1,a2,a3,a4⟩:=hr2 h
  refine ⟨a1,a2,fun h1=>?_,fun h1=>?_⟩
  ·rw[cmp_le_iff] at h1
   rw[a3,a4]
   unfold lowS lowO
   rw[if_pos h1,if_pos h1]
   exact ⟨rfl,rfl⟩
  ·rw[cmp_gt_iff] at h1
   rw[a3,a4,sub_On _ (sT_lt s d f)]
   unfold lowS lowO
   rw[if_neg (by omega),if_neg (by omega)]
   exact ⟨rfl,rfl⟩
theorem rmake_any(s:ByteArray)(d:Nat)(hd:d<W):Ds 10 #[.string s,U d] (.tuple #[A9 (mkR s d) (mkS s d) (mkO s d),.int .i64 (mkE s d)]):=by
 unfold mkR mkS mkO mkE
 have hF:=rfit_any d hd
 by_cases h1:s.size=32
 ·rw[if_pos h1,if_pos h1,if_pos h1,if_pos h1]
  cases h2:fitB d with
  | false=>
   rw[h2] at hF
   exact fun w=>rmake_key s d (by rw[h1];rfl) hF w
  | true=>
   rw[if_pos rfl,if_pos rfl,if_pos rfl,if_pos rfl]
   cases hf:fstI s d with
   | none=>
    have hn:=hf
    unfold fstI at hn
    rw[List.find?_range_eq_none] at hn
    refine rmake_at s h1 d hd h2 256 (Nat.le_refl _) (fun i hi=>by simpa using hn i hi) (fun h=>absurd h (by decide)) _ _ _ _ (fun _=>?_) (fun h=>absurd h (by decide))
    unfold mR mS mO mE
    rw[hf]
    exact ⟨rfl,rfl,rfl,rfl⟩
   | some i=>
    have hn:=hf
    unfold fstI at hn
    rw[List.find?_range_eq_some] at hn
    obtain ⟨g1,g2,g3⟩:=hn
    have hi:i<256:=List.mem_range.1 g2
    refine rmake_at s h1 d hd h2 i (by omega) (fun j hj=>by simpa using g3 j hj) (fun _=>g1) _ _ _ _ (fun h=>absurd h (by omega)) (fun _=>?_)
    unfold mR mS mO mE
    rw[hf]
    exact ⟨rfl,rfl,rfl,rfl⟩
 ·rw[if_neg h1,if_neg h1,if_neg h1,if_neg h1]
  exact fun w=>rmake_len s d _ rfl (fun h=>h1 (by omega)) w
theorem read_both(b:ByteArray):∃ x y o e,x<W∧y<W∧Ds 11 #[.string b] (.tuple #[A9 x y o,.int .i64 e])∧Ds 12 #[.string b] (.tuple #[A9 x y o,.int .i64 e]):=by
 by_cases h1:b.size=65
 ·have hl:(b.size:Int)=65:=by rw[h1];rfl
  have hx:(b.extract 0 32).size=32:=by rw[ByteArray.size_extract,h1];rfl
  have hy:(b.extract 32 64).size=32:=by rw[ByteArray.size_extract,h1];rfl
  have s1:∀ w,(Instr.slice 9 (.string b) none (some (.int .i64 32)) none).run Tryz.prog w=.ok (.string (b.extract 0 32)) w:=fun w=>by simp[Instr.slice,go_sem,h1]
  have s2:∀ w,(Instr.slice 9 (.string b) (some (.int .i64 32)) (some (.int .i64 64)) none).run Tryz.prog w=.ok (.string (b.extract 32 64)) w:=fun w=>by simp[Instr.slice,go_sem,h1]
  have r1:Ds 44 #[.string (b.extract 0 32)] (.tuple #[U (nD (b.extract 0 32)),.int .i64 0]):=fun w=>read_any _ (by omega) w
  have r2:Ds 44 #[.string (b.extract 32 64)] (.tuple #[U (nD (b.extract 32 64)),.int .i64 0]):=fun w=>read_any _ (by omega) w
  have r3:Ds 26 #[.string (b.extract 0 32)] (.tuple #[U (nD (b.extract 0 32)),.int .i64 0]):=fun w=>rread_any _ (by omega) w
  have r4:Ds 26 #[.string (b.extract 32 64)] (.tuple #[U (nD (b.extract 32 64)),.int .i64 0]):=fun w=>rread_any _ (by omega) w
  have hc:=run_idx b 64 64 rfl (by omega)
  generalize (b[64]'(by omega)).toNat=c at hc
  by_cases c0:c=0
  ·subst c0
   exact ⟨_,_,false,0,nD_W _ hx,nD_W _ hy,fun w=>sread_even b hl hc _ _ s1 s2 _ _ r1 r2 w,fun w=>rsread_even b hl hc _ _ s1 s2 _ _ r3 r4 w⟩
  ·by_cases c1:c=1
   ·subst c1
    exact ⟨_,_,true,0,nD_W _ hx,nD_W _ hy,fun w=>sread_odd b hl hc _ _ s1 s2 _ _ r1 r2 w,fun w=>rsread_odd b hl hc _ _ s1 s2 _ _ r3 r4 w⟩
   ·exact ⟨0,0,false,2,zero_lt_W,zero_lt_W,fun w=>sread_bad b c hl hc c0 (by omega) w,fun w=>rsread_bad b c hl hc (by omega) w⟩
 ·exact ⟨0,0,false,2,zero_lt_W,zero_lt_W,fun w=>sread_len b _ rfl (by omega) w,fun w=>rsread_len b _ rfl (by omega) w⟩
theorem nums_append(l m:List Int):strOfNums (l++m)=strOfNums l++strOfNums m:=by
 apply ByteArray.ext
 rw[ByteArray.data_append]
 apply Array.ext'
 simp[strOfNums]
theorem rswrite_any(r q:Nat)(o:Bool):Ds 14 #[A9 r q o] (.string (tS r q o)):=by
 have e:tS r q o=strN r++strN q++strOfNums [if o then 1 else 0]:=by unfold tS;rw[nums_append,nums_append];rfl
 rw[e]
 have h1:(strN r).size+(strN q).size≤9223372036854775807:=by rw[strN_size,strN_size];decide
 have h2:(strN r).size+(strN q).size≤9223372036854775806:=by rw[strN_size,strN_size];decide
 cases o with
 | false=>exact fun w=>rswrite_even r q _ _ h1 h2 (fun w=>rbytes_any r w) (fun w=>rbytes_any q w) w
 | true=>exact fun w=>rswrite_odd r q _ _ h1 h2 (fun w=>rbytes_any r w) (fun w=>rbytes_any q w) w
theorem makes_walk(s:ByteArray)(k:Nat)(b:ByteArray)(hk:k<W):DoesT 3 #[.string s,U k,.string b] (.bool true):=by
 by_cases h1:(1000:Int)<(s.size:Int)
 ·exact fun w ht=>makes_a s b k _ rfl h1 awake_any w ht
 ·by_cases h2:(1000:Int)<(b.size:Int)
  ·exact fun w ht=>makes_b s b k _ _ rfl h1 rfl h2 awake_any w ht
  ·obtain ⟨x,y,o,e,hx,hy,d1,d2⟩:=read_both b
   exact fun w ht=>makes_c s b k _ _ rfl h1 rfl h2 _ _ _ _ _ _ _ _ _ (make_any s k hk) (rmake_any s k hk) d1 d2 (fun w=>swrite_raw _ _ _ _ rfl w) (rswrite_any _ _ _) awake_any (run_eq27 _ _ _ (mkR_W s k) (mkS_W s k)) (run_eq27 _ _ _ hx hy) w ht
end
end
end Go.Proofs.YtfhppenjbmmadaaGreatDoor
