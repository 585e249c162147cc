import Derived.Test.YtfhppenjbmmadaaGreatDoorXmM37
import Derived.Test.YtfhppenjbmmadaaGreatDoorXmM36
import Derived.Test.YtfhppenjbmmadaaGreatDoorXmM30
import Derived.Test.YtfhppenjbmmadaaGreatDoorXmM16
namespace Go.Proofs.YtfhppenjbmmadaaGreatDoor
set_option linter.unusedVariables false
set_option maxHeartbeats 8000000
section
open Go.RowKit Go.Sort
abbrev FA (g:Nat):Value:=.func (.func 112) #[] #[.pointer (some ⟨g,0,none⟩)]
abbrev FB (g:Nat):Value:=.func (.func 113) #[] #[.pointer (some ⟨g,0,none⟩)]
set_option maxRecDepth 100000 in
theorem above_ex(bd:Nat)(w:World):Calls Tryz.prog 65 #[U bd] w fun e w'=>(∃ g,e=.returned (FA g)∧HRw w' g (Ar bd))∧Below w.heap.size w w':=by
 go_enter Tryz.func65,Tryz.ntmps65
 go_wp2
 go_ret
 exact ⟨⟨_,rfl,HRw.last rfl⟩,bAl (Below.refl _ _) _⟩
set_option maxRecDepth 100000 in
theorem below_ex(bd:Nat)(w:World):Calls Tryz.prog 67 #[U bd] w fun e w'=>(∃ g,e=.returned (FB g)∧HRw w' g (Ar bd))∧Below w.heap.size w w':=by
 go_enter Tryz.func67,Tryz.ntmps67
 go_wp2
 go_ret
 exact ⟨⟨_,rfl,HRw.last rfl⟩,bAl (Below.refl _ _) _⟩
abbrev Asks (f k g bd:Nat) (x:Bool):Prop:=∀ w,HRw w g (Ar bd)→Calls Tryz.prog f #[U k,.pointer (some ⟨g,0,none⟩)] w fun e w'=>e=.returned (.bool x)∧Below w.heap.size w w'
set_option maxRecDepth 100000 in
theorem passes_raw(k sb g1 g2 b1 b2:Nat)(x1 x2:Bool)(h1:Asks 112 k g1 b1 x1)(h2:Asks 113 k g2 b2 x2)(w:World)(hs:HRw w sb #[FA g1,FB g2])(hg1:HRw w g1 (Ar b1))(hg2:HRw w g2 (Ar b2)) :
  Calls Tryz.prog 64 #[U k,.slice (some ⟨sb,0,none⟩) 2 2] w fun e w'=>e=.returned (.bool (x1&&x2))∧Below w.heap.size w w':=by
 have H1:Hid _:=h1
 have H2:Hid _:=h2
 have HS:Hid (HRw w sb #[FA g1,FB g2]):=hs
 have G1:Hid (HRw w g1 (Ar b1)):=hg1
 have G2:Hid (HRw w g2 (Ar b2)):=hg2
 clear h1 h2 hs hg1 hg2
 have hlt:=HS.out.lt
 have c0:w.cell? ⟨sb,0,none⟩=some (FA g1):=HRw.cell HS.out 0
 go_enter Tryz.func64,Tryz.ntmps64
 go_wp2
 refine wp_loop_rounds 3 ?_
 rw[rounds_succ]
 go_wp2_with fail
 refine (H1.out _ (HRw.old G1.out)).mono ?_
 rintro e1 w1 ⟨rfl,hb1⟩
 have B1:Hid (Below w.heap.size w w1):=(bAl (Below.refl _ _) _).trans (hb1.mono (by simp))
 have K1:Hid (HRw w1 w.heap.size (Ar k)):=HRw.below (HRw.last rfl) hb1
 clear hb1 c0
 have c1:w1.cell? ⟨sb,1,none⟩=some (FB g2):=HRw.cell (HS.out.below B1.out) 1
 have k0:w1.cell? ⟨w.heap.size,0,none⟩=some (B (l0 k)):=HRw.cell K1.out 0
 have k1:w1.cell? ⟨w.heap.size,1,none⟩=some (B (l1 k)):=HRw.cell K1.out 1
 have k2:w1.cell? ⟨w.heap.size,2,none⟩=some (B (l2 k)):=HRw.cell K1.out 2
 have k3:w1.cell? ⟨w.heap.size,3,none⟩=some (B (l3 k)):=HRw.cell K1.out 3
 cases x1 with
 | false=>
  go_wp2
  go_ret
  exact ⟨rfl,B1.out⟩
 | true=>
  go_wp2
  rw[rounds_succ]
  go_wp2_with fail
  refine (H2.out _ (G2.out.below B1.out)).mono ?_
  rintro e2 w2 ⟨rfl,hb2⟩
  have B2:Hid (Below w.heap.size w w2):=B1.out.trans (hb2.mono B1.out.size)
  clear hb2 c1 k0 k1 k2 k3
  cases x2 with
  | false=>
   go_wp2
   go_ret
   exact ⟨rfl,B2.out⟩
  | true=>
   go_wp2
   rw[rounds_succ]
   go_wp2
   go_ret
   exact ⟨rfl,B2.out⟩
structure CF (w:World) (k on:Nat) (r:Bool) (lz:Array Bool) (vs:Nat→Value) (w':World):Prop where
 b:Below w.heap.size w w'
 m:HRw w' w.heap.size (Ar k)
 c0:lz.getD 0 false=true→vs 0=U k
 c1:lz.getD 1 false=true→vs 1=U 0
 c2:lz.getD 2 false=true→∃ g,vs 2=FA g∧HRw w' g (Ar 0)
 c3:lz.getD 3 false=true→vs 3=U on
 c4:lz.getD 4 false=true→∃ g,vs 4=FB g∧HRw w' g (Ar on)
 c5:lz.getD 5 false=true→∃ g g1 g2,vs 5=.slice (some ⟨g,0,none⟩) 2 2∧HRw w' g #[FA g1,FB g2]∧HRw w' g1 (Ar 0)∧HRw w' g2 (Ar on)
 c6:lz.getD 6 false=true→vs 6=.bool r
 c7:lz.getD 7 false=true→vs 7=.bool r
theorem CF.below{w w' w'':World}{k on:Nat}{r:Bool}{l:Array Bool}{vs:Nat→Value}(h:CF w k on r l vs w')(hb:Below w'.heap.size w' w''):CF w k on r l vs w'':=
 ⟨h.b.trans (hb.mono h.b.size),h.m.below hb,h.c0,h.c1,fun x=>by obtain ⟨g,a,c⟩:=h.c2 x;exact ⟨g,a,c.below hb⟩,h.c3,fun x=>by obtain ⟨g,a,c⟩:=h.c4 x;exact ⟨g,a,c.below hb⟩,
  fun x=>by obtain ⟨g,g1,g2,a,c,d,e⟩:=h.c5 x;exact ⟨g,g1,g2,a,c.below hb,d.below hb,e.below hb⟩,h.c6,h.c7⟩
set_option maxRecDepth 100000 in
theorem fit_raw(k on:Nat)(x1 x2:Bool)(h0:Ds 66 #[.int .u64 0] (U 0))(hO:Ds 68 #[] (U on))(h1:∀ g,Asks 112 k g 0 x1)(h2:∀ g,Asks 113 k g on x2)(w:World) :
  Calls Tryz.prog 31 #[U k] w fun e w'=>e=.returned (.bool (x1&&x2))∧Below w.heap.size w w':=by
 have H0:Hid _:=h0
 have HO:Hid _:=hO
 have H1:Hid _:=h1
 have H2:Hid _:=h2
 clear h0 hO h1 h2
 go_enter Tryz.func31,Tryz.ntmps31
 go_upto_region 1 with fail
 refine name_world _ ?_
 intro w1 hw1
 have K1:Hid (HRw w1 w.heap.size (Ar k)):=by rw[hw1];exact HRw.last rfl
 have B1:Hid (Below w.heap.size w w1):=by rw[hw1];exact bAl (Below.refl _ _) _
 clear hw1
 refine wRv2 (by kernel_rfl) (by kernel_rfl) (by kernel_rfl) (CF w k on (x1&&x2)) ?_ ?_ ?_
 ·refine ⟨B1.out.drew,K1.out,?_,?_,?_,?_,?_,?_,?_,?_⟩<;>(intro h;simp[Array.getD] at h)
 ·intro lz vs a' w' i o' hs ho hi hF cc
  have hi6:i<8:=by have:=(Array.getElem?_eq_some_iff.1 ho).1;simpa using this
  have hcase:i=0∨i=1∨i=2∨i=3∨i=4∨i=5∨i=6∨i=7:=by omega
  rcases hcase with rfl | rfl | rfl | rfl | rfl | rfl | rfl | rfl
  ·simp at ho
   subst ho
   have T:=dT lz 0
   exact wp_rowA 24 (.tmp 1) rfl w.heap.size ((hF.old (by kernel_rfl)).trans rfl) cc.m Tryz.underlying24 rfl (by kernel_rfl) ⟨_,rfl,⟨cc.b,cc.m,fun _=>rfl,fun h=>cc.c1 (T 1 (by decide) h),fun h=>cc.c2 (T 2 (by decide) h),fun h=>cc.c3 (T 3 (by decide) h),fun h=>cc.c4 (T 4 (by decide) h),fun h=>cc.c5 (T 5 (by decide) h),fun h=>cc.c6 (T 6 (by decide) h),fun h=>cc.c7 (T 7 (by decide) h)⟩⟩
  ·simp at ho
   subst ho
   have T:=dT lz 1
   refine wp_callF (f:=66) (args:=#[.int .u64 0]) (v:=U 0) (by simp[execOp_call_go,go_sem]) (H0.out w') ?_
   intro w'' hb''
   have c2:=cc.below hb''
   exact ⟨_,rfl,⟨c2.b,c2.m,fun h=>c2.c0 (T 0 (by decide) h),fun _=>rfl,fun h=>c2.c2 (T 2 (by decide) h),fun h=>c2.c3 (T 3 (by decide) h),fun h=>c2.c4 (T 4 (by decide) h),fun h=>c2.c5 (T 5 (by decide) h),fun h=>c2.c6 (T 6 (by decide) h),fun h=>c2.c7 (T 7 (by decide) h)⟩⟩
  ·simp at ho
   subst ho
   have T:=dT lz 2
   have hv:=((hF.new (t:=4) (i:=1) (by kernel_rfl) (by simp) (wDn (i:=2) (j:=1) (by kernel_rfl) hi)).trans (cc.c1 (wDn (i:=2) (j:=1) (by kernel_rfl) hi)))
   unfold Oper.wp
   rw[show (execOp a'.eval _).run Tryz.prog w'=.ok (.enter 65 #[U 0]) w' from by simp[execOp_call_go,ev hv,go_sem],Oper.upon_enter]
   refine (above_ex 0 w').mono ?_
   rintro e7 w'' ⟨⟨g,rfl,gr⟩,hb''⟩
   have c2:=cc.below hb''
   exact ⟨FA g,rfl,⟨c2.b,c2.m,fun h=>c2.c0 (T 0 (by decide) h),fun h=>c2.c1 (T 1 (by decide) h),fun _=>⟨g,rfl,gr⟩,fun h=>c2.c3 (T 3 (by decide) h),fun h=>c2.c4 (T 4 (by decide) h),fun h=>c2.c5 (T 5 (by decide) h),fun h=>c2.c6 (T 6 (by decide) h),fun h=>c2.c7 (T 7 (by decide) h)⟩⟩
  ·simp at ho
   subst ho
   have T:=dT lz 3
   refine wp_callF (f:=68) (args:=#[]) (v:=U on) (by simp[execOp_call_go,go_sem]) (HO.out w') ?_
   intro w'' hb''
   have c2:=cc.below hb''
   exact ⟨_,rfl,⟨c2.b,c2.m,fun h=>c2.c0 (T 0 (by decide) h),fun h=>c2.c1 (T 1 (by decide) h),fun h=>c2.c2 (T 2 (by decide) h),fun _=>rfl,fun h=>c2.c4 (T 4 (by decide) h),fun h=>c2.c5 (T 5 (by decide) h),fun h=>c2.c6 (T 6 (by decide) h),fun h=>c2.c7 (T 7 (by decide) h)⟩⟩
  ·simp at ho
   subst ho
   have T:=dT lz 4
   have hv:=((hF.new (t:=6) (i:=3) (by kernel_rfl) (by simp) (wDn (i:=4) (j:=3) (by kernel_rfl) hi)).trans (cc.c3 (wDn (i:=4) (j:=3) (by kernel_rfl) hi)))
   unfold Oper.wp
   rw[show (execOp a'.eval _).run Tryz.prog w'=.ok (.enter 67 #[U on]) w' from by simp[execOp_call_go,ev hv,go_sem],Oper.upon_enter]
   refine (below_ex on w').mono ?_
   rintro e7 w'' ⟨⟨g,rfl,gr⟩,hb''⟩
   have c2:=cc.below hb''
   exact ⟨FB g,rfl,⟨c2.b,c2.m,fun h=>c2.c0 (T 0 (by decide) h),fun h=>c2.c1 (T 1 (by decide) h),fun h=>c2.c2 (T 2 (by decide) h),fun h=>c2.c3 (T 3 (by decide) h),fun _=>⟨g,rfl,gr⟩,fun h=>c2.c5 (T 5 (by decide) h),fun h=>c2.c6 (T 6 (by decide) h),fun h=>c2.c7 (T 7 (by decide) h)⟩⟩
  ·simp at ho
   subst ho
   have T:=dT lz 5
   obtain ⟨g1,e1,r1⟩:=cc.c2 (wDn (i:=5) (j:=2) (by kernel_rfl) hi)
   obtain ⟨g2,e2,r2⟩:=cc.c4 (wDn (i:=5) (j:=4) (by kernel_rfl) hi)
   have hv1:=((hF.new (t:=5) (i:=2) (by kernel_rfl) (by simp) (wDn (i:=5) (j:=2) (by kernel_rfl) hi)).trans e1)
   have hv2:=((hF.new (t:=7) (i:=4) (by kernel_rfl) (by simp) (wDn (i:=5) (j:=4) (by kernel_rfl) hi)).trans e2)
   have hb'':Below w'.heap.size w' (w'.alloc (.cells #[FA g1,FB g2] 93)):=bAl (Below.refl _ _) _
   have c2:=cc.below hb''
   refine wVF (v:=.slice (some ⟨w'.heap.size,0,none⟩) 2 2) (w1:=w'.alloc (.cells #[FA g1,FB g2] 93)) (by simp[execOp,ev hv1,ev hv2,go_sem]) ?_
   exact ⟨_,rfl,⟨c2.b,c2.m,fun h=>c2.c0 (T 0 (by decide) h),fun h=>c2.c1 (T 1 (by decide) h),fun h=>c2.c2 (T 2 (by decide) h),fun h=>c2.c3 (T 3 (by decide) h),fun h=>c2.c4 (T 4 (by decide) h),fun _=>⟨_,g1,g2,rfl,HRw.last rfl,r1.below hb'',r2.below hb''⟩,fun h=>c2.c6 (T 6 (by decide) h),fun h=>c2.c7 (T 7 (by decide) h)⟩⟩
  ·simp at ho
   subst ho
   have T:=dT lz 6
   obtain ⟨g,g1,g2,e5,r0,r1,r2⟩:=cc.c5 (wDn (i:=6) (j:=5) (by kernel_rfl) hi)
   have hv0:=((hF.new (t:=3) (i:=0) (by kernel_rfl) (by simp) (wDn (i:=6) (j:=0) (by kernel_rfl) hi)).trans (cc.c0 (wDn (i:=6) (j:=0) (by kernel_rfl) hi)))
   have hv5:=((hF.new (t:=8) (i:=5) (by kernel_rfl) (by simp) (wDn (i:=6) (j:=5) (by kernel_rfl) hi)).trans e5)
   refine wp_callF (f:=64) (args:=#[U k,.slice (some ⟨g,0,none⟩) 2 2]) (v:=.bool (x1&&x2)) (by simp[execOp_call_go,ev hv0,ev hv5,go_sem]) (passes_raw k g g1 g2 0 on x1 x2 (H1.out g1) (H2.out g2) w' r0 r1 r2) ?_
   intro w'' hb''
   have c2:=cc.below hb''
   exact ⟨_,rfl,⟨c2.b,c2.m,fun h=>c2.c0 (T 0 (by decide) h),fun h=>c2.c1 (T 1 (by decide) h),fun h=>c2.c2 (T 2 (by decide) h),fun h=>c2.c3 (T 3 (by decide) h),fun h=>c2.c4 (T 4 (by decide) h),fun h=>c2.c5 (T 5 (by decide) h),fun _=>rfl,fun h=>c2.c7 (T 7 (by decide) h)⟩⟩
  ·simp at ho
   subst ho
   have T:=dT lz 7
   have hv:=((hF.new (t:=9) (i:=6) (by kernel_rfl) (by simp) (wDn (i:=7) (j:=6) (by kernel_rfl) hi)).trans (cc.c6 (wDn (i:=7) (j:=6) (by kernel_rfl) hi)))
   refine wVF (v:=.bool (x1&&x2)) (w1:=w') (by simp[execOp,ev hv,go_sem]) ?_
   exact ⟨_,rfl,⟨cc.b,cc.m,fun h=>cc.c0 (T 0 (by decide) h),fun h=>cc.c1 (T 1 (by decide) h),fun h=>cc.c2 (T 2 (by decide) h),fun h=>cc.c3 (T 3 (by decide) h),fun h=>cc.c4 (T 4 (by decide) h),fun h=>cc.c5 (T 5 (by decide) h),fun h=>cc.c6 (T 6 (by decide) h),fun _=>rfl⟩⟩
 intro lz vs a' w5 hd hF cc
 have B5:Hid (Below w.heap.size w w5):=cc.b
 have e0:=cc.c0 (hd 0 (by decide))
 have e1:=cc.c1 (hd 1 (by decide))
 obtain ⟨g2,e2,_⟩:=cc.c2 (hd 2 (by decide))
 have e3:=cc.c3 (hd 3 (by decide))
 obtain ⟨g4,e4,_⟩:=cc.c4 (hd 4 (by decide))
 obtain ⟨g5,_,_,e5,_⟩:=cc.c5 (hd 5 (by decide))
 have e6:=cc.c6 (hd 6 (by decide))
 have e7:=cc.c7 (hd 7 (by decide))
 have eZ:a'={ tmps:=#[U k,.pointer (some ⟨w.heap.size,0,none⟩),.bool (x1&&x2),U k,U 0,FA g2,U on,FB g4,.slice (some ⟨g5,0,none⟩) 2 2,.bool (x1&&x2)],defers:=[] }:=by
  obtain ⟨vv,hvs⟩:∃ vv:Nat→Value,vs=fun j=>if j=0 then U k else if j=1 then U 0 else if j=2 then FA g2 else if j=3 then U on else if j=4 then FB g4 else if j=5 then (.slice (some ⟨g5,0,none⟩) 2 2) else if j=6 then .bool (x1&&x2) else if j=7 then .bool (x1&&x2) else vv j:=by
   refine ⟨vs,?_⟩
   funext j
   by_cases h0:j=0
   ·rw[if_pos h0,h0,e0]
   by_cases h1:j=1
   ·rw[if_neg h0,if_pos h1,h1,e1]
   by_cases h2:j=2
   ·rw[if_neg h0,if_neg h1,if_pos h2,h2,e2]
   by_cases h3:j=3
   ·rw[if_neg h0,if_neg h1,if_neg h2,if_pos h3,h3,e3]
   by_cases h4:j=4
   ·rw[if_neg h0,if_neg h1,if_neg h2,if_neg h3,if_pos h4,h4,e4]
   by_cases h5:j=5
   ·rw[if_neg h0,if_neg h1,if_neg h2,if_neg h3,if_neg h4,if_pos h5,h5,e5]
   by_cases h6:j=6
   ·rw[if_neg h0,if_neg h1,if_neg h2,if_neg h3,if_neg h4,if_neg h5,if_pos h6,h6,e6]
   by_cases h7:j=7
   ·rw[if_neg h0,if_neg h1,if_neg h2,if_neg h3,if_neg h4,if_neg h5,if_neg h6,if_pos h7,h7,e7]
   rw[if_neg h0,if_neg h1,if_neg h2,if_neg h3,if_neg h4,if_neg h5,if_neg h6,if_neg h7]
  clear e0 e1 e2 e3 e4 e5 e6 e7 cc
  subst hvs
  exact (hF.all hd).trans (by kernel_rfl)
 subst eZ
 clear hF cc hd e0 e1 e2 e3 e4 e5 e6 e7
 go_wp2
 exact bodyPost_ret (v:=.bool (x1&&x2)) (by simp[results,Tryz.results31,go_sem]) rfl ⟨rfl,B5.out⟩
theorem ask_above(k g:Nat)(hk:k<W):Asks 112 k g 0 (decide (0<cmpN k 0)):=fun w h=>above1_raw k g 0 _ (fun w=>cmp_any k 0 hk (by decide +kernel) w) w h
theorem ask_below(k g on:Nat)(hk:k<W)(ho:on<W):Asks 113 k g on (decide (cmpN k on<0)):=fun w h=>below1_raw k g on _ (fun w=>cmp_any k on hk ho w) w h
end
section
open Go.RowKit Go.Sort
theorem cmp_pos(a b:Nat):decide (0<cmpN a b)=decide (b<a):=by
 unfold cmpN
 by_cases h1:a<b
 ·simp[h1];omega
 ·by_cases h2:b<a
  ·simp[h1,h2]
  ·simp[h1,h2]
def fitB (k:Nat):Bool:=decide (0<k)&&decide (k<On)
theorem fit_any(k:Nat)(hk:k<W):Ds 31 #[U k] (.bool (fitB k)):=by
 have h:=fun w=>fit_raw k On _ _ (fun w=>of_any 0 (by decide) w) order_any (fun g=>ask_above k g hk) (fun g=>ask_below k g On hk On_W) w
 rw[cmp_pos,cmp_neg] at h
 exact h
theorem rfit_any(k:Nat)(hk:k<W):Ds 22 #[U k] (.bool (fitB k)):=by
 unfold fitB
 by_cases h0:k=0
 ·subst h0
  exact fun w=>rfit_zero 0 (fun w=>run_eqU_same 0 w) w
 ·have he:∀ w,(Op.equalIn 10000 24 (U k) (U 0)).run Tryz.prog w=.ok false w:=fun w=>by rw[run_eqU _ _ hk zero_lt_W,decide_eq_false h0]
  have cx:Ds 42 #[U k,U On] (.int .i64 (cmpN k On)):=fun w=>rcmp_any k On hk On_W w
  rw[decide_eq_true (show 0<k by omega),Bool.true_and]
  by_cases h:k<On
  ·rw[decide_eq_true h]
   exact fun w=>rfit_ok k On _ ((cmp_neg_iff _ _).2 h) rorder_any cx he w
  ·rw[decide_eq_false h]
   exact fun w=>rfit_big k On _ (fun q=>h ((cmp_neg_iff _ _).1 q)) rorder_any cx he w
theorem U_small(n:Nat)(h:n<M):U n=.agg #[B n,.int .u64 0,.int .u64 0,.int .u64 0]:=by
 have h0:l0 n=n:=by unfold l0;exact Nat.mod_eq_of_lt h
 have h1:l1 n=0:=by unfold l1;rw[Nat.div_eq_of_lt h];rfl
 have h2:l2 n=0:=by unfold l2;rw[Nat.div_eq_of_lt (Nat.lt_of_lt_of_le h (by decide +kernel))];rfl
 have h3:l3 n=0:=by unfold l3;rw[Nat.div_eq_of_lt (Nat.lt_of_lt_of_le h (by decide +kernel))];rfl
 unfold U U4
 rw[h0,h1,h2,h3]
 rfl
set_option maxRecDepth 100000 in
theorem base_raw(w:World):Calls Tryz.prog 57 #[] w fun e w'=>e=.returned GV∧Below w.heap.size w w':=by
 go_enter Tryz.func57,Tryz.ntmps57
 go_wp2
 exact bodyPost_ret (v:=GV) (resA (p:=0) (ty:=38) rfl (g:=w.heap.size) rfl (HRw.last rfl) Tryz.underlying38 rfl (by kernel_rfl)) rfl ⟨rfl,bAl (Below.refl _ _) _⟩
set_option maxRecDepth 100000 in
theorem rbase_raw(w:World):Calls Tryz.prog 39 #[] w fun e w'=>e=.returned GV∧Below w.heap.size w w':=by
 go_enter Tryz.func39,Tryz.ntmps39
 go_wp2
 exact bodyPost_ret (v:=GV) (resA (p:=0) (ty:=38) rfl (g:=w.heap.size) rfl (HRw.last rfl) Tryz.underlying38 rfl (by kernel_rfl)) rfl ⟨rfl,bAl (Below.refl _ _) _⟩
theorem base_any:Ds 57 #[] (A9 Gx Gy false):=by rw[← GV_eq];exact fun w=>base_raw w
theorem rbase_any:Ds 39 #[] (A9 Gx Gy false):=by rw[← GV_eq];exact fun w=>rbase_raw w
def adr (x y:Nat) (n:Bool):ByteArray:=if n=true then { data:=#[] } else (told (spg (blks (strN x++strN y)))).extract 12 32
theorem slice_run(d:ByteArray)(h:d.size=32)(w:World):(Instr.slice 9 (.string d) (some (.int .i64 12)) none none).run Tryz.prog w=.ok (.string (d.extract 12 32)) w:=by
 simp[Instr.slice,go_sem,h]
theorem cat_size(x y:Nat):(strN x++strN y).size=64:=by rw[ByteArray.size_append,strN_size,strN_size]
theorem addr_any(x y:Nat)(n:Bool):DoesT 61 #[A9 x y n] (.string (adr x y n)):=by
 cases n with
 | true=>exact fun w ht=>addr_none x y w ht
 | false=>
  have hs:DoesT 110 #[.string (strN x++strN y)] (.string (told (spg (blks (strN x++strN y))))):=fun w ht=>sum_any _ w ht
  exact fun w ht=>addr_some x y (strN x) (strN y) _ _ (by rw[strN_size,strN_size];decide) rfl (by rw[told_size];rfl) (slice_run _ (told_size _)) (fun w=>bytes_any x w) (fun w=>bytes_any y w) hs w ht
theorem raddr_any(x y:Nat)(n:Bool):Ds 24 #[A9 x y n] (.string (adr x y n)):=by
 cases n with
 | true=>exact fun w=>raddr_none x y w
 | false=>
  have hs:Ds 36 #[.string (strN x++strN y)] (.string (told (spg (blks (strN x++strN y))))):=fun w=>rsum_any _ (by rw[cat_size];decide) w
  exact fun w=>raddr_some x y (strN x) (strN y) _ _ (by rw[strN_size,strN_size];decide) (slice_run _ (told_size _)) (fun w=>rbytes_any x w) (fun w=>rbytes_any y w) hs w
theorem fit_1:fitB 1=true:=by decide +kernel
theorem fit_lt{k:Nat}(h:fitB k=true):0<k∧k<On:=by
 unfold fitB at h
 simpa using h
theorem pN_false{P:Pt}(h:P≠none):pN P=false:=by
 cases P with
 | none=>exact absurd rfl h
 | some p=>rfl
theorem fit_of{k:Nat}(h1:0<k)(h2:k<On):fitB k=true:=by unfold fitB;simp[h1,h2]
section
variable [NeZero Pp]
theorem vG:vP Gp'=A9 Gx Gy false:=by show A9 (cf Gx).val (cf Gy).val false=_;rw[val_cf Gx_lt,val_cf Gy_lt]
def pubX (k:Nat):Nat:=if fitB k=true then pX (mulP k Gp') else 0
def pubY (k:Nat):Nat:=if fitB k=true then pY (mulP k Gp') else 0
def pubN (k:Nat):Bool:=if fitB k=true then pN (mulP k Gp') else false
def pubE (k:Nat):Int:=if fitB k=true then 0 else 5
theorem rpub_any(k:Nat)(hk:k<W):Ds 23 #[U k] (.tuple #[A9 (pubX k) (pubY k) (pubN k),.int .i64 (pubE k)]):=by
 have hf:=rfit_any k hk
 unfold pubX pubY pubN pubE
 cases h:fitB k with
 | false=>
  rw[h] at hf
  exact fun w=>rpublic_no k hf w
 | true=>
  rw[h] at hf
  have hM:=rmulP_any G_on k hk
  rw[vG,vP_eq] at hM
  exact fun w=>rpublic_yes k Gx Gy _ _ false _ hf rbase_any hM w
def whoS (k:Nat):ByteArray:=if fitB k=true then adr (pX (mulP k Gp')) (pY (mulP k Gp')) (pN (mulP k Gp')) else { data:=#[] }
theorem rwho_any(k:Nat)(hk:k<W):Ds 29 #[U k] (.tuple #[.string (whoS k),.int .i64 (pubE k)]):=by
 have hp:=rpub_any k hk
 unfold pubX pubY pubN pubE at hp
 unfold whoS pubE
 cases h:fitB k with
 | false=>
  rw[h] at hp
  exact fun w=>rwho_no k hp w
 | true=>
  rw[h] at hp
  exact fun w=>rwho_yes k _ _ _ _ hp (raddr_any _ _ _) w
theorem mul_nn{k:Nat}(h:fitB k=true):mulP k Gp'≠none:=fun e=>by
 obtain ⟨h1,h2⟩:=fit_lt h
 have:=Nat.le_of_dvd h1 (ord_dvd G_on nG G_nn k e)
 omega
end
end
end Go.Proofs.YtfhppenjbmmadaaGreatDoor
