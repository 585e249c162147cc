/- Out of Yj. -/
import Derived.Test.YtomdiafkoeefpaaGreatDoorKrYi
namespace Go.Proofs.YtomdiafkoeefpaaGreatDoor
open Go.RowKit Go.Sort
set_option linter.unusedVariables false
set_option maxRecDepth 100000
abbrev roK:List Nat:=[0,2,3,4]
abbrev roV (ev ov:Value) (i:Nat):Vs:=frm 68 [(0,Sum.inl ev),(2,Sum.inr (0,0)),(3,Sum.inl ov),(4,Sum.inl (Z i))]
abbrev rzK:List Nat:=[0,2,3,4,5,6]
abbrev rzV (ev ov:Value) (i:Nat) (av:Value) (j:Nat):Vs:=frm 68 [(0,Sum.inl ev),(2,Sum.inr (0,0)),(3,Sum.inl ov),(4,Sum.inl (Z i)),(5,Sum.inl av),(6,Sum.inl (Z j))]
set_option maxHeartbeats 4000000 in
theorem routcome(n:Nat){w:World}{ev:Value}{l:List Ex}(h:ExI w ev l)(hp:putX l):Calls Tryz.prog 89 #[ev] w (OneP (n+4) (lstT (n+4) (l.map (fun x=>lstT (n+3) (exTs n x)))) w):=by
 obtain ⟨ad0,cap0,rfl,hm⟩:=h
 obtain ⟨hl,hpx⟩:=hp
 refine inQ (J:=QJ (CT (n+3)) w 80 7 (.slice none 0 0) [] [] noK) (F:=QF w (.slice none 0 0) noK) Tryz.func89 (QJ.start _ _ _ _) fun a I=>?_
 refine goQ [] (QJ.rs (CT.loc (n+3)) _ _ _ _ _ _ _) I fun β a w1 I hb=>?_
 let St:Nat→Act→World→Prop:=fun k a w'=>∃ (i:Nat) (β:Nat→Nat) (u:Nat→Value) (ad:Option Addr) (cap:Nat) (X:List (List Value)) (K:Nat→Prop),k=l.length-i∧i≤l.length∧X.length=i ∧
  SI (QJ (CT (n+3)) w 80 7 (.slice ad i cap) X ((l.take i).map (fun x=>lstT (n+3) (exTs n x))) K) (QF w (.slice ad i cap) K) [] β (cfC (bodyL Tryz.f89) (fillF (scrF 68 roK) u 0 (roV (.slice ad0 l.length cap0) (.slice ad i cap) i)) [(0,zT7)] 1) a w'
 refine lpM (bodyL Tryz.f89) St l.length ?_ ?_
 ·obtain ⟨u,Iu⟩:=I.scr (bodyL Tryz.f89) (scrF 68 roK) (roV (.slice ad0 l.length cap0) (.slice none 0 0) 0) [(0,zT7)] 1
  exact ⟨0,β,u,none,0,[],noK,by omega,Nat.zero_le _,rfl,Iu⟩
 rintro k a3 w3 ⟨i,β3,u,ad,cap,X,K,rfl,hi,hXi,I3⟩
 refine wp_cfC (tm:=fillF (scrF 68 roK) u 0 (roV (.slice ad0 l.length cap0) (.slice ad i cap) i)) (rows:=[(0,zT7)]) (nx:=1) ?_
 rcases Nat.lt_or_ge i l.length with hil | hil
 ·obtain ⟨⟨sa,al⟩,h1⟩:∃ t,l[i]? = some t:=⟨_,List.getElem?_eq_getElem hil⟩
  obtain ⟨ga,offa,cs,rfl,hlt,hca,av,rfl,ada,capa,rfl,hma⟩:=hm i _ h1
  obtain ⟨hsa,hal,hpa⟩:=hpx _ (List.mem_of_getElem? h1)
  simp only[] at hca hma hsa hal hpa
  obtain ⟨L,hL⟩:∃ L,(l.take i).map (fun x=>lstT (n+3) (exTs n x))=L:=⟨_,rfl⟩
  rw[hL] at I3
  have hld9:∀ w',Below w.heap.size w w'→(loadVar 9 ⟨ga,offa+i*2+0,none⟩).run Tryz.prog w'=.ok (.string sa) w':=fun w' hb=>load1 (hca.keep (hb.block ga hlt)) 0 rfl 9 Tryz.underlying9 rfl
  have hld36:∀ w',Below w.heap.size w w'→(loadVar 36 ⟨ga,offa+i*2+1,none⟩).run Tryz.prog w'=.ok (.slice ada al.length capa) w':=fun w' hb=>load1 (hca.keep (hb.block ga hlt)) 1 rfl 36 Tryz.underlying36 rfl
  refine goQ [lS Tryz.underlying26 (ad:=some ⟨ga,offa,none⟩) (n:=l.length) (cap:=cap0) rfl,bO .lss 3 (run_lssZ (x:=i) (y:=l.length) (b:=true) (by simp;omega))] (QJ.rs (CT.loc (n+3)) _ _ _ _ _ _ _) I3 fun β4 a4 w4 I4 hb4=>?_
  let St2:Nat→Act→World→Prop:=fun k a w'=>∃ (j:Nat) (β:Nat→Nat) (u:Nat→Value) (ad2:Option Addr) (cap2:Nat) (X2:List (List Value)) (K2:Nat→Prop),k=al.length-j∧j≤al.length∧X2.length=j∧(∀ k,QF w (.slice ad i cap) K k→(Value.slice ad2 j cap2).ownBlock≠some k)∧(∀ k,K2 k→(Value.slice ad i cap).ownBlock≠some k) ∧
   SI (fun w'=>QJ (CT (n+1)) w 80 7 (.slice ad2 j cap2) X2 ((al.take j).map (fun a=>lstT (n+1) (alTs n a))) K2 w'∧QJ (CT (n+3)) w 80 7 (.slice ad i cap) X L K w') (fun k=>QF w (.slice ad2 j cap2) K2 k∨QF w (.slice ad i cap) K k) [] β (cfC (bodyL2 Tryz.f89) (fillF (scrF 68 rzK) u 0 (rzV (.slice (some ⟨ga,offa,none⟩) l.length cap0) (.slice ad i cap) i (.slice ad2 j cap2) j)) [(0,zT7)] 1) a w'
  refine lpM (bodyL2 Tryz.f89) St2 al.length ?_ ?_
  ·obtain ⟨u',Iu⟩:=I4.scr (bodyL2 Tryz.f89) (scrF 68 rzK) (rzV (.slice (some ⟨ga,offa,none⟩) l.length cap0) (.slice ad i cap) i (.slice none 0 0) 0) [(0,zT7)] 1
   refine ⟨0,β4,u',none,0,[],noK,by omega,Nat.zero_le _,rfl,fun k _ h=>(by cases h),fun k h=>h.elim,?_⟩
   refine Iu.less ⟨(QJ.rs (CT.loc (n+1)) w 80 7 (.slice none 0 0) [] [] noK).loc w w4 (QJ.start _ _ _ _) (Grow.of_below Iu.hJ.below),Iu.hJ⟩ fun k hk=>?_
   rcases hk with (hk | hk | hk) | hk
   ·exact .inl hk
   ·cases hk
   ·exact hk.elim
   ·exact hk
  rintro k2 a5 w5 ⟨j,β5,u5,ad2,cap2,X2,K2,rfl,hj,hXj,hF2,hKd,I5⟩
  obtain ⟨L2,hL2⟩:∃ L2,(al.take j).map (fun a=>lstT (n+1) (alTs n a))=L2:=⟨_,rfl⟩
  rw[hL2] at I5
  refine wp_cfC (tm:=fillF (scrF 68 rzK) u5 0 (rzV (.slice (some ⟨ga,offa,none⟩) l.length cap0) (.slice ad i cap) i (.slice ad2 j cap2) j)) (rows:=[(0,zT7)]) (nx:=1) ?_
  have hTB:∀ w',QJ (CT (n+1)) w 80 7 (.slice ad2 j cap2) X2 L2 K2 w'∧QJ (CT (n+3)) w 80 7 (.slice ad i cap) X L K w'→Below w.heap.size w w':=fun w' h=>h.2.below
  rcases Nat.lt_or_ge j al.length with hjl | hjl
  ·obtain ⟨⟨de,am,kd,le,ri⟩,h2⟩:∃ t,al[j]? = some t:=⟨_,List.getElem?_eq_getElem hjl⟩
   obtain ⟨p1,⟨m,hkd,pm⟩,p3,p4⟩:=hpa _ (List.mem_of_getElem? h2)
   simp only[] at p1 hkd p3 p4
   subst hkd
   obtain ⟨gb,offb,cs2,rfl,hlt2,hcb,rfl,ham⟩:=hma j _ h2
   have hld59:∀ w',Below w.heap.size w w'→(loadVar 59 ⟨gb,offb+j*8,none⟩).run Tryz.prog w'=.ok (.agg (al8 (de,am,(m:Int),le,ri)).toArray) w':=fun w' hb=>loadAl (hcb.keep (hb.block gb hlt2))
   have htk:(al.take (j+1)).map (fun a=>lstT (n+1) (alTs n a))=L2++[lstT (n+1) (alTs n (de,am,(m:Int),le,ri))]:=by rw[List.take_add_one,h2,List.map_append,hL2];rfl
   refine goT (T:=(fun w'=>QJ (CT (n+1)) w 80 7 (.slice ad2 j cap2) X2 L2 K2 w'∧QJ (CT (n+3)) w 80 7 (.slice ad i cap) X L K w')) [iA 26 Tryz.underlying26 (sz:=2) (by kernel_rfl) (g:=ga) (off:=offa) (n:=l.length) (cap:=cap0) hil,ldA 36 (fun w' h=>hld36 w' (hTB w' h)),lS Tryz.underlying36 (ad:=some ⟨gb,offb,none⟩) (n:=al.length) (cap:=capa) rfl,bO .lss 3 (run_lssZ (x:=j) (y:=al.length) (b:=true) (by simp;omega)),iA 26 Tryz.underlying26 (sz:=2) (by kernel_rfl) (g:=ga) (off:=offa) (n:=l.length) (cap:=cap0) hil,ldA 36 (fun w' h=>hld36 w' (hTB w' h)),iA 36 Tryz.underlying36 (sz:=8) (by kernel_rfl) (g:=gb) (off:=offb) (n:=al.length) (cap:=capa) hjl,ldA 59 (fun w' h=>hld59 w' (hTB w' h))] ((QJ.rs (CT.loc (n+1)) _ _ _ _ _ _ _).both (QJ.rs (CT.loc (n+3)) _ _ _ _ _ _ _)) (fun _ h=>h) I5 fun β6 a6 w6 I6 hb6=>?_
   have hx1:=rbytesT de p1
   have hx3:=rbytesT le p3
   have hx4:=rbytesT ri p4
   have hals:alTs n (de,am,(m:Int),le,ri)=[numT n (rdB de),numT n am,numT n m,numT n (rdB le),numT n (rdB ri)]:=rfl
   rw[hals] at htk
   generalize rdB de=r1 at hx1 htk
   generalize rdB le=r3 at hx3 htk
   generalize rdB ri=r4 at hx4 htk
   refine dwT (T:=(fun w'=>QJ (CT (n+1)) w 80 7 (.slice ad2 j cap2) X2 L2 K2 w'∧QJ (CT (n+3)) w 80 7 (.slice ad i cap) X L K w')) 17 [kC Tryz.func79 hx1,dO 80 [1] (bd_n1 am),vO 3 23 (p:=Z m) (v:=B m) (cnvB m (by omega)),kC Tryz.func81 (rnumT m (Nat.lt_trans pm (by decide))),kC Tryz.func79 hx3,kC Tryz.func79 hx4] ((QJ.rs (CT.loc (n+1)) _ _ _ _ _ _ _).both (QJ.rs (CT.loc (n+3)) _ _ _ _ _ _ _)) (fun _ h=>h) (PanOk.then (PanOk.qk (PanOk.then (PanOk.qk PanOk.post)))) I6 fun a7 w7 I7=>?_
   refine bslQ (ss:=[(0,Sum.inl (nTm r1)),(1,Sum.inl (nTm am)),(2,Sum.inl (nTm m)),(3,Sum.inl (nTm r3)),(4,Sum.inl (nTm r4))]) I7 (bs_t5 (nX r1) (nX am) (nX m) (nX r3) (nX r4) w7) ?_
   have I8:=I7.lay ((QJ.rs (CT.loc (n+1)) _ _ _ _ _ _ _).both (QJ.rs (CT.loc (n+3)) _ _ _ _ _ _ _)) (.cells ([tx (nX r1),tx (nX am),tx (nX m),tx (nX r3),tx (nX r4)].flatten).toArray 80) (.slice (some ⟨w7.heap.size,0,none⟩) 5 5)
   have hbw:=I7.hJ.2.below.size
   have hown:∀ k,(Value.slice ad2 j cap2).ownBlock=some k→k<w7.heap.size:=fun k e=>(I7.hJ.1.ro.own.lt k e).2
   have hown2:∀ k,(Value.slice ad i cap).ownBlock=some k→k<w7.heap.size:=fun k e=>(I7.hJ.2.ro.own.lt k e).2
   obtain ⟨b,hb2⟩:∃ b,w7.heap.size=b:=⟨_,rfl⟩
   rw[hb2] at I8 hown hown2 hbw ⊢
   refine goQ [kC Tryz.func80 (rlistT (some ⟨b,0,none⟩) 5 5)] (((QJ.rs (CT.loc (n+1)) _ _ _ _ _ _ _).both (QJ.rs (CT.loc (n+3)) _ _ _ _ _ _ _)).lay _ _) I8 fun β9 a9 w9 I9 hb9=>?_
   have hLA:LAf (· = b) w9 (n+1) (.slice (some ⟨b,0,none⟩) 5 5) [numT n r1,numT n am,numT n m,numT n r3,numT n r4]:=by
    refine blockT (K:=(· = b)) (xs:=[nX r1,nX am,nX m,nX r3,nX r4]) (l:=[numT n r1,numT n am,numT n m,numT n r3,numT n r4]) I9.hJ.2 rfl rfl (fun i x t hx ht=>?_) 5
    match i,hx,ht with
    | 0,hx,ht=>cases hx;cases ht;exact ⟨rfl,rfl,rfl,LAf.nil _ _ n⟩
    | 1,hx,ht=>cases hx;cases ht;exact ⟨rfl,rfl,rfl,LAf.nil _ _ n⟩
    | 2,hx,ht=>cases hx;cases ht;exact ⟨rfl,rfl,rfl,LAf.nil _ _ n⟩
    | 3,hx,ht=>cases hx;cases ht;exact ⟨rfl,rfl,rfl,LAf.nil _ _ n⟩
    | 4,hx,ht=>cases hx;cases ht;exact ⟨rfl,rfl,rfl,LAf.nil _ _ n⟩
   have I10:=I9.less (J':=fun w'=>(QJ (CT (n+1)) w 80 7 (.slice ad2 j cap2) X2 L2 K2 w'∧MK (CT (n+1)) (· = b) (lstT (n+1) [numT n r1,numT n am,numT n m,numT n r3,numT n r4]) (tx (2,0,eB,.slice (some ⟨b,0,none⟩) 5 5)) w')∧QJ (CT (n+3)) w 80 7 (.slice ad i cap) X L K w') (F':=fun k=>(QF w (.slice ad2 j cap2) K2 k∨k=b)∨QF w (.slice ad i cap) K k) ⟨⟨I9.hJ.1.1,⟨fun k hk=>by subst hk;exact (Array.getElem?_eq_some_iff.1 I9.hJ.2).1,_,rfl,hLA⟩⟩,I9.hJ.1.2⟩ (fun k hk=>by
    rcases hk with (hk | hk) | hk
    ·exact .inl (.inl hk)
    ·exact .inr hk
    ·exact .inl (.inr hk))
   refine app_gen2 (CT.loc (n+1)) Tryz.underlying69 hI41 rfl (by decide) (by decide) (QJ.rs (CT.loc (n+3)) _ _ _ _ _ _ _) (ev:=lTm (.slice (some ⟨b,0,none⟩) 5 5)) (bs_term _ _ _ _ _ _ _ w9) rfl (one7 _ _ _ _ _ _) I10 hF2 hXj (by omega) (fun k hk=>by
    subst hk
    exact ⟨by omega,fun e=>by have:=hown _ e;omega⟩) fun ad8 cap8 a11 w11 hF8 I11=>?_
   refine goQ [bO .add 3 (run_addZ (x:=j) (y:=1) (z:=(j+1:Nat)) (by rw[wz (by omega) (by omega)];omega))] ((QJ.rs (CT.loc (n+1)) _ _ _ _ _ _ _).both (QJ.rs (CT.loc (n+3)) _ _ _ _ _ _ _)) I11 fun β12 a12 w12 I12 hb12=>?_
   obtain ⟨u',Iu⟩:=I12.scr (bodyL2 Tryz.f89) (scrF 68 rzK) (rzV (.slice (some ⟨ga,offa,none⟩) l.length cap0) (.slice ad i cap) i (.slice ad8 (j+1) cap8) (j+1)) [(0,zT7)] 1
   refine endL ⟨al.length-(j+1),by omega,j+1,β12,u',ad8,cap8,X2++[tx (2,0,eB,.slice (some ⟨b,0,none⟩) 5 5)],(fun k=>K2 k∨k=b),rfl,hjl,by rw[List.length_append,hXj];rfl,hF8,fun k hk=>?_,?_⟩
   ·rcases hk with hk | hk
    ·exact hKd k hk
    ·subst hk;exact fun e=>by have:=hown2 _ e;omega
   ·rw[htk]
    exact Iu
  ·obtain rfl:j=al.length:=by omega
   refine goT (T:=(fun w'=>QJ (CT (n+1)) w 80 7 (.slice ad2 al.length cap2) X2 L2 K2 w'∧QJ (CT (n+3)) w 80 7 (.slice ad i cap) X L K w')) [iA 26 Tryz.underlying26 (sz:=2) (by kernel_rfl) (g:=ga) (off:=offa) (n:=l.length) (cap:=cap0) hil,ldA 36 (fun w' h=>hld36 w' (hTB w' h)),lS Tryz.underlying36 (ad:=ada) (n:=al.length) (cap:=capa) rfl,bO .lss 3 (run_lssZ (x:=al.length) (y:=al.length) (b:=false) (by simp))] ((QJ.rs (CT.loc (n+1)) _ _ _ _ _ _ _).both (QJ.rs (CT.loc (n+3)) _ _ _ _ _ _ _)) (fun _ h=>h) I5 fun β6 a6 w6 I6 hb6=>?_
   refine endE 2 ?_
   have hx1:=rbytesT sa hsa
   have hexs:exTs n (sa,al)=[numT (n+2) (rdB sa),lstT (n+2) (al.map (fun a=>lstT (n+1) (alTs n a)))]:=rfl
   rw[List.take_length] at hL2
   have htk:(l.take (i+1)).map (fun x=>lstT (n+3) (exTs n x))=L++[lstT (n+3) [numT (n+2) (rdB sa),lstT (n+2) L2]]:=by rw[List.take_add_one,h1,List.map_append,hL,← hL2];rfl
   generalize rdB sa=r1 at hx1 htk
   refine goT (T:=(fun w'=>QJ (CT (n+1)) w 80 7 (.slice ad2 al.length cap2) X2 L2 K2 w'∧QJ (CT (n+3)) w 80 7 (.slice ad i cap) X L K w')) [iA 26 Tryz.underlying26 (sz:=2) (by kernel_rfl) (g:=ga) (off:=offa) (n:=l.length) (cap:=cap0) hil,ldA 9 (fun w' h=>hld9 w' (hTB w' h)),cA Tryz.func79 (fun w' _=>hx1 w'),cA Tryz.func80 (fun w' _=>rlistT ad2 al.length cap2 w')] ((QJ.rs (CT.loc (n+1)) _ _ _ _ _ _ _).both (QJ.rs (CT.loc (n+3)) _ _ _ _ _ _ _)) (fun _ h=>h) (I6.exit _) fun β7 a7 w7 I7 hb7=>?_
   refine bslQ (ss:=[(0,Sum.inl (nTm r1)),(1,Sum.inl (lTm (.slice ad2 al.length cap2)))]) I7 (bs_t2 (nX r1) (2,0,eB,.slice ad2 al.length cap2) w7) ?_
   have I8:=I7.lay ((QJ.rs (CT.loc (n+1)) _ _ _ _ _ _ _).both (QJ.rs (CT.loc (n+3)) _ _ _ _ _ _ _)) (.cells ([tx (nX r1),tx (2,0,eB,.slice ad2 al.length cap2)].flatten).toArray 80) (.slice (some ⟨w7.heap.size,0,none⟩) 2 2)
   have hbw:=I7.hJ.2.below.size
   have hown2:∀ k,(Value.slice ad i cap).ownBlock=some k→k<w7.heap.size:=fun k e=>(I7.hJ.2.ro.own.lt k e).2
   obtain ⟨b,hb2⟩:∃ b,w7.heap.size=b:=⟨_,rfl⟩
   rw[hb2] at I8 hown2 hbw ⊢
   refine goQ [kC Tryz.func80 (rlistT (some ⟨b,0,none⟩) 2 2)] (((QJ.rs (CT.loc (n+1)) _ _ _ _ _ _ _).both (QJ.rs (CT.loc (n+3)) _ _ _ _ _ _ _)).lay _ _) I8 fun β9 a9 w9 I9 hb9=>?_
   have hdn:=(I9.hJ.1.1.done (CT.loc (n+1))).terms
   have hkb:=I9.hJ.1.1.kb2
   have hLA:LAf (fun k=>(K2 k∨(Value.slice ad2 al.length cap2).ownBlock=some k)∨k=b) w9 (n+3) (.slice (some ⟨b,0,none⟩) 2 2) [numT (n+2) r1,lstT (n+2) L2]:=by
    refine blockT (K:=fun k=>(K2 k∨(Value.slice ad2 al.length cap2).ownBlock=some k)∨k=b) (xs:=[nX r1,(2,0,eB,.slice ad2 al.length cap2)]) (l:=[numT (n+2) r1,lstT (n+2) L2]) I9.hJ.2 (.inr rfl) rfl (fun i x t hx ht=>?_) 2
    match i,hx,ht with
    | 0,hx,ht=>cases hx;cases ht;exact ⟨rfl,rfl,rfl,LAf.nil _ _ _⟩
    | 1,hx,ht=>cases hx;cases ht;exact ⟨rfl,rfl,rfl,hdn.mono fun k hk=>.inl hk⟩
   have I10:=I9.less (J':=fun w'=>QJ (CT (n+3)) w 80 7 (.slice ad i cap) X L K w'∧MK (CT (n+3)) (fun k=>(K2 k∨(Value.slice ad2 al.length cap2).ownBlock=some k)∨k=b) (lstT (n+3) [numT (n+2) r1,lstT (n+2) L2]) (tx (2,0,eB,.slice (some ⟨b,0,none⟩) 2 2)) w') (F':=fun k=>QF w (.slice ad i cap) K k∨((K2 k∨(Value.slice ad2 al.length cap2).ownBlock=some k)∨k=b)) ⟨I9.hJ.1.2,⟨fun k hk=>by
     rcases hk with hk | hk
     ·exact (hkb k hk).2
     ·subst hk;exact (Array.getElem?_eq_some_iff.1 I9.hJ.2).1,_,rfl,hLA⟩⟩ (fun k hk=>by
    rcases hk with hk | (hk | hk) | hk
    ·exact .inl (.inr hk)
    ·exact .inl (.inl (.inr (.inr hk)))
    ·exact .inl (.inl (.inr (.inl hk)))
    ·exact .inr hk)
   refine app_gen (CT.loc (n+3)) Tryz.underlying69 hI41 rfl (by decide) (by decide) (ev:=lTm (.slice (some ⟨b,0,none⟩) 2 2)) (bs_term _ _ _ _ _ _ _ w9) rfl (one7 _ _ _ _ _ _) I10 hXi (by omega) (fun k hk=>by
    rcases hk with hk | hk
    ·refine ⟨(hkb k hk).1,?_⟩
     rcases hk with hk | hk
     ·exact hKd k hk
     ·exact fun e=>hF2 k (.inr (.inl e)) hk
    ·subst hk
     exact ⟨by omega,fun e=>by have:=hown2 _ e;omega⟩) fun ad8 cap8 a11 w11 I11=>?_
   refine goQ [bO .add 3 (run_addZ (x:=i) (y:=1) (z:=(i+1:Nat)) (by rw[wz (by omega) (by omega)];omega))] (QJ.rs (CT.loc (n+3)) _ _ _ _ _ _ _) I11 fun β12 a12 w12 I12 hb12=>?_
   obtain ⟨u',Iu⟩:=I12.scr (bodyL Tryz.f89) (scrF 68 roK) (roV (.slice (some ⟨ga,offa,none⟩) l.length cap0) (.slice ad8 (i+1) cap8) (i+1)) [(0,zT7)] 1
   refine endL ⟨l.length-(i+1),by omega,i+1,β12,u',ad8,cap8,X++[tx (2,0,eB,.slice (some ⟨b,0,none⟩) 2 2)],(fun k=>K k∨((K2 k∨(Value.slice ad2 al.length cap2).ownBlock=some k)∨k=b)),rfl,hil,by rw[List.length_append,hXi];rfl,?_⟩
   rw[htk]
   exact Iu
 ·obtain rfl:i=l.length:=by omega
  refine goQ [lS Tryz.underlying26 (ad:=ad0) (n:=l.length) (cap:=cap0) rfl,bO .lss 3 (run_lssZ (x:=l.length) (y:=l.length) (b:=false) (by simp))] (QJ.rs (CT.loc (n+3)) _ _ _ _ _ _ _) I3 fun β4 a4 w4 I4 hb4=>?_
  refine endE 0 ?_
  refine goQ [kC Tryz.func80 (rlistT ad l.length cap)] (QJ.rs (CT.loc (n+3)) _ _ _ _ _ _ _) (I4.exit _) fun β5 a5 w5 I5 hb5=>?_
  rw[List.take_length] at I5
  exact outQ (v:=lTm (.slice ad l.length cap)) I5 ⟨I5.hJ.below,ad,l.length,cap,_,rfl,I5.hJ.kb2,(I5.hJ.done (CT.loc (n+3))).terms⟩
end Go.Proofs.YtomdiafkoeefpaaGreatDoor
