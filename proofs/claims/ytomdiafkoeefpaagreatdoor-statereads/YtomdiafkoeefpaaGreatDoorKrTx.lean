/- Out of Tx. -/
import Derived.Test.YtomdiafkoeefpaaGreatDoorKrTl
namespace Go.Proofs.YtomdiafkoeefpaaGreatDoor
open Go.RowKit Go.Sort
set_option linter.unusedVariables false
set_option maxRecDepth 100000
theorem bs_st2(s t:ByteArray)(w:World):(Instr.buildSlice 22 2 #[(0,.string s),(1,.string t)]).run Tryz.prog w=.ok (.slice (some ⟨w.heap.size,0,none⟩) 2 2) (w.alloc (.cells [.string s,.string t].toArray 9)):=by kernel_rfl
theorem bd_awF(ad:Option Addr)(n cap:Nat)(w:World):(Instr.build 25 (([0,3]:List Nat).zip [.slice ad n cap,Z 9]).toArray).run Tryz.prog w=.ok (.agg #[.slice ad n cap,B 0,.string eB,Z 9]) w:=by kernel_rfl
theorem ze33:zeV Tryz.prog 33=some (rU 0):=by kernel_rfl
theorem eqErr(x y:Int){q:Bool}(h:decide (x=y)=q)(o1 o2:Operand)(w:World):(do eqGuard .eql 46 o1 o2 (Z x) (Z y);binOp .eql 46 (Z x) (Z y):Sem Value).run Tryz.prog w=.ok (.bool q) w:=by
 by_cases hx:x=y<;>subst h<;>simp[go_sem,hx]
theorem aw_ok:okX [awE]:=⟨by decide,fun x hx=>by rw[List.mem_singleton] at hx;subst hx;decide⟩
theorem awake_any{w:World}(ht:Tabs w ki):Calls Tryz.prog 11 #[] w fun e w'=>e=.returned (.bool true)∧Below w.heap.size w w':=by
 refine inQ (J:=Below w.heap.size w) (F:=(· < w.heap.size)) Tryz.func11 (Below.refl _ _) fun a I=>?_
 refine goQ [] (nonR w) I fun β a w1 I hb=>?_
 have hsz:a.tmps.size=60:=by rw[I.fr];kernel_rfl
 have hbw1:=I.hJ
 have hge1:=hbw1.size
 refine dwM (T:=fun _=>True) 11 [(0,none),(1,some (.string (zs 20))),(2,none),(3,some (.string (zs 32))),(6,none),(7,none),(8,none),(9,none),(10,none)] [dO 33 [0] bd_U5,dO 59 [0,1] bd_awA] (awW w1) (awW_keep w1) (nonR w) (fun _ _=>trivial) I ?_ ?_
 ·intro p hp2 o ho listed vs a' w' hF hrd hbw hV hev
  have hge:=hbw.size
  simp only[List.mem_cons,List.not_mem_nil,or_false] at hp2
  rcases hp2 with rfl | rfl | rfl | rfl | rfl | rfl | rfl | rfl | rfl
  ·obtain ⟨o1,o2,o3⟩:=opD_get (x:=.makeSlice 60 (.const (Z 20)) (.const (Z 20))) (d:=some 7) ho (by kernel_rfl)
   obtain ⟨v,w2,hr,ho2,hb2⟩:=mk_zs (w:=w') (lo:=w1.heap.size) (n:=20) (by decide) hge
   exact makeG o1 o3 hr ⟨v,rfl,fun u hu=>(by cases hu),⟨fun _=>ho2,fun h=>(by cases h),fun h=>(by cases h),fun h=>(by cases h),fun h=>(by cases h),fun h=>(by cases h),fun h=>(by cases h)⟩,hb2⟩
  ·obtain ⟨o1,o2,o3⟩:=opD_get (x:=.convert 60 9 (.tmp 7)) (d:=some 8) ho (by kernel_rfl)
   have hl:=waits_done (ops:=opsD _) (i:=1) (j:=0) (by kernel_rfl) hrd
   have e7:a'.eval (.tmp 7)=vs 0:=hF.new (i:=0) (by kernel_rfl) (by omega) hl
   have ho2:=(hV (0,none) (by simp) hl).1 rfl
   exact convG o1 o3 (by rw[e7];exact txt_zs ho2) ⟨_,rfl,fun u hu=>(by cases hu;rfl),⟨fun h=>(by cases h),fun h=>(by cases h),fun h=>(by cases h),fun h=>(by cases h),fun h=>(by cases h),fun h=>(by cases h),fun h=>(by cases h)⟩,Below.refl _ _⟩
  ·obtain ⟨o1,o2,o3⟩:=opD_get (x:=.makeSlice 60 (.const (Z 32)) (.const (Z 32))) (d:=some 9) ho (by kernel_rfl)
   obtain ⟨v,w2,hr,ho2,hb2⟩:=mk_zs (w:=w') (lo:=w1.heap.size) (n:=32) (by decide) hge
   exact makeG o1 o3 hr ⟨v,rfl,fun u hu=>(by cases hu),⟨fun h=>(by cases h),fun _=>ho2,fun h=>(by cases h),fun h=>(by cases h),fun h=>(by cases h),fun h=>(by cases h),fun h=>(by cases h)⟩,hb2⟩
  ·obtain ⟨o1,o2,o3⟩:=opD_get (x:=.convert 60 9 (.tmp 9)) (d:=some 10) ho (by kernel_rfl)
   have hl:=waits_done (ops:=opsD _) (i:=3) (j:=2) (by kernel_rfl) hrd
   have e7:a'.eval (.tmp 9)=vs 2:=hF.new (i:=2) (by kernel_rfl) (by omega) hl
   have ho2:=(hV (2,none) (by simp) hl).2.1 rfl
   exact convG o1 o3 (by rw[e7];exact txt_zs ho2) ⟨_,rfl,fun u hu=>(by cases hu;rfl),⟨fun h=>(by cases h),fun h=>(by cases h),fun h=>(by cases h),fun h=>(by cases h),fun h=>(by cases h),fun h=>(by cases h),fun h=>(by cases h)⟩,Below.refl _ _⟩
  ·obtain ⟨o1,o2,o3⟩:=opD_get (x:=.buildSlice 36 1 #[(0,.tmp 12)]) (d:=some 13) ho (by kernel_rfl)
   have q1:a'.eval (.tmp 12)=.agg (al8 awA).toArray:=hev (.tmp 12) (Sum.inl (.agg (al8 awA).toArray)) (by kernel_rfl)
   refine bslG o1 o3 (v:=.slice (some ⟨w'.heap.size,0,none⟩) 1 1) (w':=w'.alloc (.cells (al8 awA).toArray 59)) ?_ ?_
   ·rw[map1];simp only[q1];exact bs_al awA w'
   ·exact ⟨_,rfl,fun u hu=>(by cases hu),⟨fun h=>(by cases h),fun h=>(by cases h),fun _=>⟨w'.heap.size,rfl,hge,Array.getElem?_push_size⟩,fun h=>(by cases h),fun h=>(by cases h),fun h=>(by cases h),fun h=>(by cases h)⟩,below_alloc w' _⟩
  ·obtain ⟨o1,o2,o3⟩:=opD_get (x:=.build 38 #[(0,.tmp 8),(1,.tmp 13)]) (d:=some 14) ho (by kernel_rfl)
   have hl6:=waits_done (ops:=opsD _) (i:=7) (j:=6) (by kernel_rfl) hrd
   have q1:a'.eval (.tmp 8)=.string (zs 20):=hev (.tmp 8) (Sum.inl (.string (zs 20))) (by kernel_rfl)
   have q2:a'.eval (.tmp 13)=vs 6:=hF.new (i:=6) (by kernel_rfl) (by omega) hl6
   obtain ⟨b1,e6,h1,h2⟩:=(hV (6,none) (by simp) hl6).2.2.1 rfl
   refine wpG_mono (fun a'' w'' h=>?_) (buildG (v:=.agg #[.string (zs 20),.slice (some ⟨b1,0,none⟩) 1 1]) o1 o3 ?_)
   ·obtain ⟨rfl,rfl⟩:=h
    exact ⟨_,rfl,fun u hu=>(by cases hu),⟨fun h=>(by cases h),fun h=>(by cases h),fun h=>(by cases h),fun _=>⟨b1,rfl,h1,h2⟩,fun h=>(by cases h),fun h=>(by cases h),fun h=>(by cases h)⟩,Below.refl _ _⟩
   ·rw[map2];simp only[q1,q2,e6];exact bd_ex2 (zs 20) _ 1 1 w'
  ·obtain ⟨o1,o2,o3⟩:=opD_get (x:=.buildSlice 26 1 #[(0,.tmp 14)]) (d:=some 15) ho (by kernel_rfl)
   have hl7:=waits_done (ops:=opsD _) (i:=8) (j:=7) (by kernel_rfl) hrd
   have q1:a'.eval (.tmp 14)=vs 7:=hF.new (i:=7) (by kernel_rfl) (by omega) hl7
   obtain ⟨b1,e7,h1,h2⟩:=(hV (7,none) (by simp) hl7).2.2.2.1 rfl
   refine bslG o1 o3 (v:=.slice (some ⟨w'.heap.size,0,none⟩) 1 1) (w':=w'.alloc (.cells [.string (zs 20),.slice (some ⟨b1,0,none⟩) 1 1].toArray 38)) ?_ ?_
   ·rw[map1];simp only[q1,e7];exact bs_ex _ _ w'
   ·refine ⟨_,rfl,fun u hu=>(by cases hu),⟨fun h=>(by cases h),fun h=>(by cases h),fun h=>(by cases h),fun h=>(by cases h),fun _=>⟨b1,w'.heap.size,rfl,h1,hge,?_,Array.getElem?_push_size⟩,fun h=>(by cases h),fun h=>(by cases h)⟩,below_alloc w' _⟩
    rw[(below_alloc w' _).block b1 (Array.getElem?_eq_some_iff.1 h2).1];exact h2
  ·obtain ⟨o1,o2,o3⟩:=opD_get (x:=.build 28 #[(0,.const (B 3)),(3,.tmp 15)]) (d:=some 16) ho (by kernel_rfl)
   have hl8:=waits_done (ops:=opsD _) (i:=9) (j:=8) (by kernel_rfl) hrd
   have q1:a'.eval (.tmp 15)=vs 8:=hF.new (i:=8) (by kernel_rfl) (by omega) hl8
   obtain ⟨b1,b2,e8,h1,h2,h3⟩:=(hV (8,none) (by simp) hl8).2.2.2.2.1 rfl
   refine wpG_mono (fun a'' w'' h=>?_) (buildG (v:=.agg #[B 3,.bool false,.string eB,.slice (some ⟨b2,0,none⟩) 1 1]) o1 o3 ?_)
   ·obtain ⟨rfl,rfl⟩:=h
    exact ⟨_,rfl,fun u hu=>(by cases hu),⟨fun h=>(by cases h),fun h=>(by cases h),fun h=>(by cases h),fun h=>(by cases h),fun h=>(by cases h),fun _=>⟨b1,b2,rfl,h1,h2,h3⟩,fun h=>(by cases h)⟩,Below.refl _ _⟩
   ·rw[map2];simp only[q1,e8];exact bd_awV _ 1 1 w'
  ·obtain ⟨o1,o2,o3⟩:=opD_get (x:=.alloc 28) (d:=some 1) ho (by kernel_rfl)
   refine allocG o1 o3 ze28 (by kernel_rfl) fun w2 hb2 hr=>?_
   exact ⟨_,rfl,fun u hu=>(by cases hu),⟨fun h=>(by cases h),fun h=>(by cases h),fun h=>(by cases h),fun h=>(by cases h),fun h=>(by cases h),fun h=>(by cases h),fun _=>⟨w'.heap.size,rfl,hge,hr⟩⟩,hb2⟩
 intro vs a2 w2 hV I
 obtain ⟨b1,b2,e9,g1,g2,hX⟩:=(hV (9,none) (by simp) (of_decide_eq_true (by kernel_rfl))).2.2.2.2.2.1 rfl
 obtain ⟨b3,e10,g3,hR3⟩:=(hV (10,none) (by simp) (of_decide_eq_true (by kernel_rfl))).2.2.2.2.2.2 rfl
 obtain ⟨vs',rfl⟩:∃ vs',vs=fun j=>if j=9 then .agg #[B 3,.bool false,.string eB,.slice (some ⟨b2,0,none⟩) 1 1] else if j=10 then .pointer (some ⟨b3,0,none⟩) else vs' j:=⟨vs,funext fun j=>by
  by_cases h9:j=9
  ·simp[h9,e9]
  ·by_cases h10:j=10
   ·simp[h10,e10]
   ·simp[h9,h10]⟩
 have hn1:b3≠b1:=fun e=>by
  obtain ⟨t,h⟩:=hR3
  rw[e,hX.al] at h
  cases h
 have hn2:b3≠b2:=fun e=>by
  obtain ⟨t,h⟩:=hR3
  rw[e,hX.ex] at h
  cases h
 have I2:=I.also (J':=XW b1 b2) (F':=fun k=>k=b1∨k=b2) hX (fun p hp h=>by cases hp)
 refine adopt 1 (g:=b3) (r:=z4) I2 (by kernel_rfl) hR3 (fun h=>by
  rcases h with h | h | h
  ·omega
  ·exact hn1 h
  ·exact hn2 h) (fun p hp=>by cases hp) fun β3 hag hb3 I=>?_
 have R:=(nonR w).both (XW.rs b1 b2)
 refine goQ [] R I fun β4 a4 w4 I hb4=>?_
 obtain ⟨v5,w5,hr5,ho5,hb5⟩:=mk_zs (w:=w4) (lo:=w4.heap.size) (n:=20) (by decide) (Nat.le_refl _)
 refine mslX (t:=60) (l:=Z 20) (k:=Z 20) I hr5 ?_
 have I5:SI (fun w'=>Below w.heap.size w w'∧XW b1 b2 w') (fun k=>k<w.heap.size∨(k=b1∨k=b2)) [] β4 _ _ w5:=I.moved (Grow.of_below hb5) (R.loc w4 w5 I.hJ (Grow.of_below hb5)) (fun _ _ h=>h) v5
 refine cnvQ (s:=60) (t:=9) (x:=v5) I5 (txt_zs ho5) ?_
 have I6:=I5.same (.string (zs 20))
 refine bslQ (ss:=[(0,Sum.inl (.string (zs 20))),(1,Sum.inl (.string abc))]) I6 (bs_st2 (zs 20) abc w5) ?_
 have I7:=I6.lay R (.cells [.string (zs 20),.string abc].toArray 9) (.slice (some ⟨w5.heap.size,0,none⟩) 2 2)
 obtain ⟨b4,hb4'⟩:∃ b,w5.heap.size=b:=⟨_,rfl⟩
 rw[hb4'] at I7 ⊢
 have R7:=R.lay b4 (.cells [.string (zs 20),.string abc].toArray 9)
 refine goQ [dO 25 [0,3] (bd_awF (some ⟨b4,0,none⟩) 2 2)] R7 I7 fun β8 a8 w8 I hb8=>?_
 have hsz8:a8.tmps.size=60:=by rw[I.fr];kernel_rfl
 have I8:=I
 have hpa:∀ w',((Below w.heap.size w w'∧XW b1 b2 w')∧w'.heap[b4]? = some (.cells [.string (zs 20),.string abc].toArray 9))→PaI w' (.slice (some ⟨b4,0,none⟩) 2 2) [zs 20,abc]:=by
  intro w' h
  refine ⟨?_,_,2,rfl,Nat.le_refl _⟩
  refine blockSl (sz:=1) (C:=CS) (l:=[zs 20,abc]) (X:=[[.string (zs 20)],[.string abc]]) (t:=9) h.2 (Array.getElem?_eq_some_iff.1 h.2).1 rfl (fun i x t hx ht=>?_) 2
  match i,hx,ht with
  | 0,hx,ht=>cases hx;cases ht;exact ⟨rfl,rfl⟩
  | 1,hx,ht=>cases hx;cases ht;exact ⟨rfl,rfl⟩
 have hTo:∀ w',((Below w.heap.size w w'∧XW b1 b2 w')∧w'.heap[b4]? = some (.cells [.string (zs 20),.string abc].toArray 9))→Calls Tryz.prog 12 #[.slice (some ⟨b2,0,none⟩) 1 1,.string (zs 20)] w' fun e w''=>e=.returned (.tuple #[U 5,.bool true])∧Below w'.heap.size w' w'':=fun w' h=>by
  have:=total_any h.1.2.exi (zs 20) aw_ok.1 aw_ok.2
  unfold totV at this
  rwa [aw_tot,if_pos (by decide)] at this
 have hld:∀ w',((Below w.heap.size w w'∧XW b1 b2 w')∧w'.heap[b4]? = some (.cells [.string (zs 20),.string abc].toArray 9))→(loadVar 9 ⟨b2,0+0*2+0,none⟩).run Tryz.prog w'=.ok (.string (zs 20)) w':=fun w' h=>load1 (cells_block h.1.2.ex) 0 rfl 9 Tryz.underlying9 rfl
 refine dwC (T:=fun w'=>(Below w.heap.size w w'∧XW b1 b2 w')∧w'.heap[b4]? = some (.cells [.string (zs 20),.string abc].toArray 9)) [(11,none),(12,none)] [iA 26 Tryz.underlying26 (sz:=2) (by kernel_rfl) (g:=b2) (off:=0) (n:=1) (cap:=1) (i:=0) (by decide),ldA 9 hld,cA Tryz.func12 hTo]
  (fun listed vs w'=>(listed.getD 12 false=true→listed.getD 11 false=true)∧(listed.getD 11 false=true→∃ b5,vs 11=.pointer (some ⟨b5,0,none⟩)∧w8.heap.size≤b5∧HasRow w' b5 (if listed.getD 12 false=true then rU 5 else rU 0))) (fun w1 hb=>by
   have hf:∀ n j,¬ (Array.replicate n false).getD j false=true:=fun n j h=>by
    rw[Array.getD_eq_getD_getElem?,Array.getElem?_replicate] at h
    split at h<;>simp at h
   exact ⟨fun h=>absurd h (hf _ _),fun h=>absurd h (hf _ _)⟩) (fun listed vs w' w'' i v hs h hb=>by
   have hi1:i≠11:=fun e=>by subst e;cases hs
   have hi2:i≠12:=fun e=>by subst e;cases hs
   refine ⟨fun h12=>done_keep (h.1 ((done_set h12).resolve_left fun e=>hi2 e.symm)),fun h11=>?_⟩
   have h:=h.2
   have e12:(listed.setIfInBounds i true).getD 12 false=listed.getD 12 false:=by
    rw[Array.getD_eq_getD_getElem?,Array.getElem?_setIfInBounds,if_neg hi2,← Array.getD_eq_getD_getElem?]
   obtain ⟨b5,q1,q2,q3⟩:=h ((done_set h11).resolve_left fun e=>hi1 e.symm)
   rw[e12]
   exact ⟨b5,by simp only[if_neg (show ¬ 11=i from fun e=>hi1 e.symm)];exact q1,q2,q3.below hb⟩) R7 (fun _ h=>h) I ?_ ?_
 ·intro p hp2 o ho listed vs a' w' hF hrd hbw hC hev
  simp only[List.mem_cons,List.not_mem_nil,or_false] at hp2
  rcases hp2 with rfl | rfl
  ·obtain ⟨o1,o2,o3⟩:=opD_get (x:=.alloc 33) (d:=some 3) ho (by kernel_rfl)
   obtain ⟨hun,o',ho',_⟩:=mem_ready.1 hrd
   have hlt:11<listed.size:=by
    rcases Nat.lt_or_ge 11 listed.size with h | h
    ·exact h
    ·rw[Array.getD_eq_getD_getElem?,Array.getElem?_eq_none h] at hun;cases hun
   have hn11:¬ listed.getD 11 false=true:=fun h=>by
    simp[Array.getD,hlt] at hun h
    rw[hun] at h;cases h
   have h12:¬ (listed.setIfInBounds 11 true).getD 12 false=true:=fun h=>hn11 (hC.1 ((done_set h).resolve_left (by decide)))
   have hset:(listed.setIfInBounds 11 true).getD 11 false=true:=by
    rw[Array.getD_eq_getD_getElem?,Array.getElem?_setIfInBounds,if_pos rfl,if_pos hlt];rfl
   refine allocG o1 o3 ze33 (by kernel_rfl) fun w2 hb2 hr=>⟨_,rfl,fun u hu=>(by cases hu),⟨fun _=>hset,fun _=>⟨w'.heap.size,rfl,hbw.size,?_⟩⟩,hb2.mono hbw.size⟩
   rw[if_neg h12]
   exact hr
  ·obtain ⟨o1,o2,o3⟩:=opD_get (x:=.store 33 (.tmp 3) (.tmp 30)) (d:=none) ho (by kernel_rfl)
   have hl11:=waits_done (ops:=opsD _) (i:=12) (j:=11) (by kernel_rfl) hrd
   have q1:a'.eval (.tmp 3)=vs 11:=hF.new (i:=11) (by kernel_rfl) (by omega) hl11
   have q2:a'.eval (.tmp 30)=U 5:=hev (.tmp 30) (Sum.inl (U 5)) (by kernel_rfl)
   obtain ⟨b5,e11,g5,hR5⟩:=hC.2 hl11
   obtain ⟨hun,o',ho',_⟩:=mem_ready.1 hrd
   have hlt:12<listed.size:=by
    rcases Nat.lt_or_ge 12 listed.size with h | h
    ·exact h
    ·rw[Array.getD_eq_getD_getElem?,Array.getElem?_eq_none h] at hun;cases hun
   have hset:(listed.setIfInBounds 12 true).getD 12 false=true:=by
    rw[Array.getD_eq_getD_getElem?,Array.getElem?_setIfInBounds,if_pos rfl,if_pos hlt];rfl
   obtain ⟨r5,hr5,hsz5⟩:∃ r5,HasRow w' b5 r5∧r5.size=4:=by
    cases hq:listed.getD 12 false with
    | true=>rw[hq] at hR5;exact ⟨rU 5,hR5,rfl⟩
    | false=>rw[hq] at hR5;exact ⟨rU 0,hR5,rfl⟩
   refine wpG_plain o3 (Oper.wp_mono ?_ (ob_storea 33 (.tmp 3) (.tmp 30) o1 (g:=b5) (off:=0) (by rw[q1,e11]) q2 (cs:=rU 5) rfl hr5 (by kernel_rfl) (by rw[hsz5];decide) (by kernel_rfl) (e:=over r5 0 (rU 5)) rfl))
   rintro a2 w2 ⟨rfl,rfl⟩
   refine ⟨undef,rfl,fun u hu=>(by cases hu),⟨fun _=>done_keep hl11,fun _=>⟨b5,by simp only[if_neg (show ¬ 11=12 by decide)];exact e11,g5,?_⟩⟩,below_setRow (Below.refl _ _) g5 _⟩
   rw[if_pos hset]
   have hov:over r5 0 (rU 5)=rU 5:=by
    obtain ⟨l⟩:=r5
    match l,hsz5 with
    | [x0,x1,x2,x3],_=>rfl
   rw[hov]
   exact hr5.set_same _
 intro listed vs a9 w9 hall hC I
 obtain ⟨b5,e11,g5,hR5⟩:=hC.2 (hall 11 (of_decide_eq_true (by kernel_rfl)))
 rw[if_pos (hall 12 (of_decide_eq_true (by kernel_rfl)))] at hR5
 obtain ⟨vs',rfl⟩:∃ vs',vs=fun j=>if j=11 then .pointer (some ⟨b5,0,none⟩) else vs' j:=⟨vs,funext fun j=>by split<;>rename_i hj<;>simp[hj,e11]⟩
 refine adopt 3 (g:=b5) (r:=rU 5) I (by kernel_rfl) hR5 (fun h=>by
  have:=R7.lt w8 b5 I8.hJ h
  omega) (fun p hp e=>by
  have:=(I8.row p hp).lt
  omega) fun β10 hag hb10 I=>?_
 obtain ⟨S,hS⟩:∃ S,wrV awV=S:=⟨_,rfl⟩
 have hSl:S.length<1000000000:=by
  rw[← hS]
  unfold wrV
  rw[if_pos fit_awV]
  exact Nat.lt_of_le_of_lt (vaT_len fit_awV (by decide) aw_amt) (by decide)
 have hrd:rdV S=some awV:=by rw[← hS];exact rdV_back fit_awV (by decide) aw_amt
 have hWr:∀ w',((Below w.heap.size w w'∧XW b1 b2 w')∧w'.heap[b4]? = some (.cells [.string (zs 20),.string abc].toArray 9))→Calls Tryz.prog 24 #[.agg #[B 3,.bool false,.string eB,.slice (some ⟨b2,0,none⟩) 1 1]] w' fun e w''=>e=.returned (str S)∧Below w'.heap.size w' w'':=fun w' h=>by
  have:=write_any (v:=awV) h.1.2.exi aw_ok (by decide)
  rwa [hS] at this
 refine goT (T:=fun w'=>(Below w.heap.size w w'∧XW b1 b2 w')∧w'.heap[b4]? = some (.cells [.string (zs 20),.string abc].toArray 9)) [cA Tryz.func24 hWr] R7 (fun _ h=>h) I fun β11 a11 w11 I hb11=>?_
 refine mcall (ss:=[Sum.inl (str S)]) Tryz.func32 I ?_
 refine (read_state S hSl w11).mono fun e w12 he=>?_
 obtain ⟨hb12,he⟩:=he
 rcases he with ⟨v,adr,capr,K,h1,rfl,hK,hSl2⟩ | ⟨h1,_⟩
 case inr=>rw[hrd] at h1;cases h1
 rw[hrd] at h1
 cases h1
 have I12:SI (fun w'=>((Below w.heap.size w w'∧XW b1 b2 w')∧w'.heap[b4]? = some (.cells [.string (zs 20),.string abc].toArray 9))∧SK 2 CE K w11.heap.size (.slice adr 1 capr) [awE] w') (fun k=>((k<w.heap.size∨(k=b1∨k=b2))∨k=b4)∨K k) [] β11 _ _ w12:=I.moved (Grow.of_below hb12) ⟨R7.loc w11 w12 I.hJ (Grow.of_below hb12),hK,hSl2⟩ (fun k hk h=>by
  rcases h with h | h
  ·exact h
  ·have:=(hK k h).1;omega) (.tuple #[.agg #[B 3,.bool false,.string eB,.slice adr 1 capr],Z 0])
 have R12:=R7.both (SK.rs CE.loc 2 K w11.heap.size (.slice adr 1 capr) [awE])
 have hSa:∀ w',(((Below w.heap.size w w'∧XW b1 b2 w')∧w'.heap[b4]? = some (.cells [.string (zs 20),.string abc].toArray 9))∧SK 2 CE K w11.heap.size (.slice adr 1 capr) [awE] w')→Calls Tryz.prog 20 #[.agg #[B 3,.bool false,.string eB,.slice (some ⟨b2,0,none⟩) 1 1],.agg #[B 3,.bool false,.string eB,.slice adr 1 capr]] w' fun e w''=>e=.returned (.bool true)∧Below w'.heap.size w' w'':=fun w' h=>by
  have:=same_state (v:=awV) (u:=awV) h.1.1.2.exi (h.2.sl.keep CE.loc fun k hk=>⟨(h.2.kb k hk).2,rfl⟩) aw_ok
  rwa [eqV_iff.2 rfl] at this
 obtain ⟨D,hD⟩:∃ D,digM awF awV=D:=⟨_,rfl⟩
 have hDl:D.length=32:=by
  rw[← hD]
  unfold digM
  rw[fit_awF,fit_awV,if_pos (show (true&&true)=true from rfl),sumL_len]
 have hDi:∀ w',(((Below w.heap.size w w'∧XW b1 b2 w')∧w'.heap[b4]? = some (.cells [.string (zs 20),.string abc].toArray 9))∧SK 2 CE K w11.heap.size (.slice adr 1 capr) [awE] w')→Calls Tryz.prog 28 #[.agg #[.slice (some ⟨b4,0,none⟩) 2 2,B 0,.string eB,Z 9],.agg #[B 3,.bool false,.string eB,.slice (some ⟨b2,0,none⟩) 1 1]] w' fun e w''=>e=.returned (str D)∧Below w'.heap.size w' w'':=fun w' h=>by
  have:=digest_any (f:=awF) (v:=awV) (ht.below h.1.1.1) (hpa w' h.1) (by decide) h.1.1.2.exi aw_ok (by decide)
  rwa [hD] at this
 refine goT (T:=fun w'=>((Below w.heap.size w w'∧XW b1 b2 w')∧w'.heap[b4]? = some (.cells [.string (zs 20),.string abc].toArray 9))∧SK 2 CE K w11.heap.size (.slice adr 1 capr) [awE] w') [dO 33 [0] bd_U5,bO .eql 33 (eqU_run (n:=5) (m:=5) (by decide) (by decide) (q:=true) rfl),bO .eql 46 (eqErr 0 0 (q:=true) rfl),cA Tryz.func20 hSa,cA Tryz.func28 hDi,lO Tryz.underlying9 (b:=⟨D.toArray⟩) (n:=32) (by rw[str_size,hDl];rfl),bO .eql 3 (run_eqlZ (x:=32) (y:=32) (b:=true) rfl)] R12 (fun _ h=>h) I12 fun β13 a13 w13 I hb13=>?_
 exact outQ (v:=.bool true) I ⟨rfl,I.hJ.1.1.1⟩
end Go.Proofs.YtomdiafkoeefpaaGreatDoor
