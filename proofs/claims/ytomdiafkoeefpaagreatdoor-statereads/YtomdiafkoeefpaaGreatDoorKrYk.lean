/- Out of Yk. -/
import Derived.Test.YtomdiafkoeefpaaGreatDoorKrYj
import Derived.Test.YtomdiafkoeefpaaGreatDoorKrYa
import Derived.Test.YtomdiafkoeefpaaGreatDoorKrTl
import Derived.Test.YtomdiafkoeefpaaGreatDoorKrHv
import Derived.Test.YtomdiafkoeefpaaGreatDoorKrUa
namespace Go.Proofs.YtomdiafkoeefpaaGreatDoor
open Go.RowKit Go.Sort
set_option linter.unusedVariables false
set_option maxRecDepth 100000
theorem sfitVar_any{w:World}{ev:Value}{v:Va}(h:ExI w ev v.2.2.2)(hx:okX v.2.2.2):Calls Tryz.prog 17 #[vaV v ev] w fun e w'=>e=.returned (.bool (fitV v))∧Below w.heap.size w w':=by
 obtain ⟨tu,fi,da,xs⟩:=v
 obtain ⟨ad,cap,rfl⟩:=h.slice
 refine inQ (J:=Below w.heap.size w) (F:=(· < w.heap.size)) Tryz.func17 (Below.refl _ _) fun a I=>?_
 have hfit:fitV (tu,fi,da,xs)=(decide (tu≤1099511627776)&&decide (da.size≤256)&&fitXs xs):=rfl
 rw[hfit]
 by_cases q1:¬ tu≤1099511627776
 ·refine goQ [bO .leq 23 (run_leqU (x:=tu) (y:=1099511627776) (b:=false) (decide_eq_false q1))] (nonR w) I fun β a w1 I hb=>?_
  exact outQ (v:=.bool false) I ⟨by rw[decide_eq_false q1];rfl,I.hJ⟩
 have q1:=Classical.not_not.1 q1
 by_cases q2:¬ da.size≤256
 ·refine goQ [bO .leq 23 (run_leqU (x:=tu) (y:=1099511627776) (b:=true) (decide_eq_true q1)),lO Tryz.underlying9 (b:=da) (n:=da.size) rfl,bO .leq 3 (run_leqZ (x:=da.size) (y:=256) (b:=false) (by simp;omega))] (nonR w) I fun β a w1 I hb=>?_
  exact outQ (v:=.bool false) I ⟨by rw[decide_eq_false q2,Bool.and_false];rfl,I.hJ⟩
 have q2:=Classical.not_not.1 q2
 have hF:∀ w',Below w.heap.size w w'→Calls Tryz.prog 40 #[.slice ad xs.length cap] w' fun e w''=>e=.returned (.bool (fitXs xs))∧Below w'.heap.size w' w'':=fun w' hb=>rfitExits_any (h.below CE.loc hb) hx.2 hx.1
 refine goT (T:=Below w.heap.size w) [bO .leq 23 (run_leqU (x:=tu) (y:=1099511627776) (b:=true) (decide_eq_true q1)),lO Tryz.underlying9 (b:=da) (n:=da.size) rfl,bO .leq 3 (run_leqZ (x:=da.size) (y:=256) (b:=true) (by simp;omega)),cA Tryz.func40 hF] (nonR w) (fun _ h=>h) I fun β a w1 I hb=>?_
 exact outQ (v:=.bool (fitXs xs)) I ⟨by rw[decide_eq_true q1,decide_eq_true q2];rfl,I.hJ⟩
theorem rsum_txt(l:List UInt8)(hl:l.length≤100000)(w:World):Calls Tryz.prog 35 #[str l] w fun e w'=>e=.returned (str (sumL l))∧Below w.heap.size w w':=rsum_any ⟨l.toArray⟩ (by rw[str_size];exact hl) w
theorem rvarTerms(n:Nat){w:World}{v:Va}{ev:Value}(h:ExI w ev v.2.2.2)(hp:putX v.2.2.2)(ht:v.1<M):Calls Tryz.prog 50 #[vaV v ev] w (TermsP (n+5) (vaT n v) w):=by
 obtain ⟨tu,fi,da,xs⟩:=v
 obtain ⟨ad0,cap0,rfl⟩:=h.slice
 refine inQ (J:=Below w.heap.size w) (F:=(· < w.heap.size)) Tryz.func50 (Below.refl _ _) fun a I=>?_
 cases fi
 ·refine goQ [] (nonR w) I fun β a w1 I hb=>?_
  refine dwT (T:=Below w.heap.size w) 10 [kC Tryz.func81 (rnumT tu ht),kC Tryz.func81 (rnumT 0 (by decide)),kC Tryz.func82 (rtextT da)] (nonR w) (fun _ h=>h) PanOk.post I fun a1 w1 I=>?_
  have hbw1:=I.hJ
  have hsz1:=hbw1.size
  refine mcall (ss:=[Sum.inl (.slice ad0 xs.length cap0)]) Tryz.func89 I ?_
  refine (routcome n (h.below CE.loc hbw1) hp).mono fun e w2 he=>?_
  obtain ⟨hb2,ad,m,cap,K,rfl,hK,hLA⟩:=he
  obtain ⟨L,hL⟩:∃ L:TL (n+4),(xs.map fun x=>lstT (n+3) (exTs n x))=L:=⟨_,rfl⟩
  simp only[hL] at hLA
  have I2:SI (fun w'=>Below w.heap.size w w'∧LK K w1.heap.size (n+4) (.slice ad m cap) L w') (fun k=>k<w.heap.size∨K k) [] β _ _ w2:=I.moved (Grow.of_below hb2) ⟨hbw1.trans (hb2.mono hsz1),hK,hLA⟩ (fun k hk h=>by
   rcases h with h | h
   ·exact h
   ·have:=(hK k h).1;omega) (lTm (.slice ad m cap))
  refine bslQ (ss:=[(0,Sum.inl (nTm tu)),(1,Sum.inl (nTm 0)),(2,Sum.inl (tTm da)),(3,Sum.inl (lTm (.slice ad m cap)))]) I2 (bs_t4 (nX tu) (nX 0) (1,0,da,.slice none 0 0) (2,0,eB,.slice ad m cap) w2) ?_
  have hsz4:=I2.hJ.1.size
  have I5:=I2.lay ((nonR w).both (LK.rs _ _ _ _ _)) (.cells ([tx (nX tu),tx (nX 0),tx (1,0,da,.slice none 0 0),tx (2,0,eB,.slice ad m cap)].flatten).toArray 80) (.slice (some ⟨w2.heap.size,0,none⟩) 4 4)
  obtain ⟨b,hb4⟩:∃ b,w2.heap.size=b:=⟨_,rfl⟩
  rw[hb4] at I5 ⊢
  refine goQ [] (((nonR w).both (LK.rs _ _ _ _ _)).lay _ _) I5 fun β6 a6 w6 I hb6=>?_
  have hJ:=I.hJ
  refine outQ (v:=.slice (some ⟨b,0,none⟩) 4 4) I ⟨hJ.1.1,some ⟨b,0,none⟩,4,4,(fun k=>K k∨k=b),rfl,fun k hk=>?_,?_⟩
  ·rcases hk with hk | rfl
   ·exact ⟨by have:=(hJ.1.2.kb k hk).1;omega,(hJ.1.2.kb k hk).2⟩
   ·exact ⟨by omega,(Array.getElem?_eq_some_iff.1 hJ.2).1⟩
  ·refine blockT (K:=fun k=>K k∨k=b) (xs:=[nX tu,nX 0,(1,0,da,.slice none 0 0),(2,0,eB,.slice ad m cap)]) (l:=vaT n (tu,false,da,xs)) hJ.2 (.inr rfl) rfl (fun i x t hx ht=>?_) 4
   match i,hx,ht with
   | 0,hx,ht=>cases hx;cases ht;exact ⟨rfl,rfl,rfl,LAf.nil _ _ _⟩
   | 1,hx,ht=>cases hx;cases ht;exact ⟨rfl,rfl,rfl,LAf.nil _ _ _⟩
   | 2,hx,ht=>cases hx;cases ht;exact ⟨rfl,rfl,rfl,LAf.nil _ _ _⟩
   | 3,hx,ht=>
    cases hx;cases ht
    refine ⟨rfl,rfl,rfl,?_⟩
    show LAf _ _ (n+4) (.slice ad m cap) (xs.map fun x=>lstT (n+3) (exTs n x))
    rw[hL]
    exact hJ.1.2.la.mono fun k hk=>.inl hk
 ·refine goQ [] (nonR w) I fun β a w1 I hb=>?_
  refine dwT (T:=Below w.heap.size w) 10 [kC Tryz.func81 (rnumT tu ht),kC Tryz.func81 (rnumT 1 (by decide)),kC Tryz.func82 (rtextT da)] (nonR w) (fun _ h=>h) PanOk.post I fun a1 w1 I=>?_
  have hbw1:=I.hJ
  have hsz1:=hbw1.size
  refine mcall (ss:=[Sum.inl (.slice ad0 xs.length cap0)]) Tryz.func89 I ?_
  refine (routcome n (h.below CE.loc hbw1) hp).mono fun e w2 he=>?_
  obtain ⟨hb2,ad,m,cap,K,rfl,hK,hLA⟩:=he
  obtain ⟨L,hL⟩:∃ L:TL (n+4),(xs.map fun x=>lstT (n+3) (exTs n x))=L:=⟨_,rfl⟩
  simp only[hL] at hLA
  have I2:SI (fun w'=>Below w.heap.size w w'∧LK K w1.heap.size (n+4) (.slice ad m cap) L w') (fun k=>k<w.heap.size∨K k) [] β _ _ w2:=I.moved (Grow.of_below hb2) ⟨hbw1.trans (hb2.mono hsz1),hK,hLA⟩ (fun k hk h=>by
   rcases h with h | h
   ·exact h
   ·have:=(hK k h).1;omega) (lTm (.slice ad m cap))
  refine bslQ (ss:=[(0,Sum.inl (nTm tu)),(1,Sum.inl (nTm 1)),(2,Sum.inl (tTm da)),(3,Sum.inl (lTm (.slice ad m cap)))]) I2 (bs_t4 (nX tu) (nX 1) (1,0,da,.slice none 0 0) (2,0,eB,.slice ad m cap) w2) ?_
  have hsz4:=I2.hJ.1.size
  have I5:=I2.lay ((nonR w).both (LK.rs _ _ _ _ _)) (.cells ([tx (nX tu),tx (nX 1),tx (1,0,da,.slice none 0 0),tx (2,0,eB,.slice ad m cap)].flatten).toArray 80) (.slice (some ⟨w2.heap.size,0,none⟩) 4 4)
  obtain ⟨b,hb4⟩:∃ b,w2.heap.size=b:=⟨_,rfl⟩
  rw[hb4] at I5 ⊢
  refine goQ [] (((nonR w).both (LK.rs _ _ _ _ _)).lay _ _) I5 fun β6 a6 w6 I hb6=>?_
  have hJ:=I.hJ
  refine outQ (v:=.slice (some ⟨b,0,none⟩) 4 4) I ⟨hJ.1.1,some ⟨b,0,none⟩,4,4,(fun k=>K k∨k=b),rfl,fun k hk=>?_,?_⟩
  ·rcases hk with hk | rfl
   ·exact ⟨by have:=(hJ.1.2.kb k hk).1;omega,(hJ.1.2.kb k hk).2⟩
   ·exact ⟨by omega,(Array.getElem?_eq_some_iff.1 hJ.2).1⟩
  ·refine blockT (K:=fun k=>K k∨k=b) (xs:=[nX tu,nX 1,(1,0,da,.slice none 0 0),(2,0,eB,.slice ad m cap)]) (l:=vaT n (tu,true,da,xs)) hJ.2 (.inr rfl) rfl (fun i x t hx ht=>?_) 4
   match i,hx,ht with
   | 0,hx,ht=>cases hx;cases ht;exact ⟨rfl,rfl,rfl,LAf.nil _ _ _⟩
   | 1,hx,ht=>cases hx;cases ht;exact ⟨rfl,rfl,rfl,LAf.nil _ _ _⟩
   | 2,hx,ht=>cases hx;cases ht;exact ⟨rfl,rfl,rfl,LAf.nil _ _ _⟩
   | 3,hx,ht=>
    cases hx;cases ht
    refine ⟨rfl,rfl,rfl,?_⟩
    show LAf _ _ (n+4) (.slice ad m cap) (xs.map fun x=>lstT (n+3) (exTs n x))
    rw[hL]
    exact hJ.1.2.la.mono fun k hk=>.inl hk
theorem rwrite{w:World}{v:Va}{ev:Value}(h:ExI w ev v.2.2.2)(hx:okX v.2.2.2)(ht:v.1<M):Calls Tryz.prog 25 #[vaV v ev] w fun e w'=>e=.returned (str (wrV v))∧Below w.heap.size w w':=by
 have ha:=h.amt
 obtain ⟨ad,cap,hs⟩:=h.slice
 subst hs
 refine inQ (J:=Below w.heap.size w) (F:=(· < w.heap.size)) Tryz.func25 (Below.refl _ _) fun a I=>?_
 have hF:∀ w',Below w.heap.size w w'→Calls Tryz.prog 17 #[vaV v (.slice ad v.2.2.2.length cap)] w' fun e w''=>e=.returned (.bool (fitV v))∧Below w'.heap.size w' w'':=fun w' hb=>sfitVar_any (h.below CE.loc hb) hx
 unfold wrV
 cases hf:fitV v with
 | false=>
  rw[hf] at hF
  refine goT (T:=Below w.heap.size w) [cA Tryz.func17 hF,uO .not (p:=.bool false) (v:=.bool true) (by intros;rfl)] (nonR w) (fun _ h=>h) I fun β a w1 I hb=>?_
  exact outQ (v:=.string eB) I ⟨rfl,I.hJ⟩
 | true=>
  rw[hf] at hF
  refine goT (T:=Below w.heap.size w) [cA Tryz.func17 hF,uO .not (p:=.bool true) (v:=.bool false) (by intros;rfl)] (nonR w) (fun _ h=>h) I fun β a w1 I hb=>?_
  refine mcall (ss:=[Sum.inl (vaV v (.slice ad v.2.2.2.length cap))]) Tryz.func50 I ?_
  have hsz1:=I.hJ.size
  refine (rvarTerms 4 (h.below CE.loc I.hJ) (fitXs_putX (fitV_put hf).2.2) ht).mono fun e w2 he=>?_
  obtain ⟨hb2,ad2,m2,cap2,K,rfl,hK,hLA⟩:=he
  have hlen:=vaT_len hf ht ha
  generalize vaT 4 v=ts at hLA hlen
  have I2:SI (fun w'=>Below w.heap.size w w'∧LK K w1.heap.size 9 (.slice ad2 m2 cap2) ts w') (fun k=>k<w.heap.size∨K k) [] β _ _ w2:=I.moved (Grow.of_below hb2) ⟨I.hJ.trans (hb2.mono hsz1),hK,hLA⟩ (fun k hk h=>by
   rcases h with h | h
   ·exact h
   ·have:=(hK k h).1;omega) (.slice ad2 m2 cap2)
  have hE:∀ w',(Below w.heap.size w w'∧LK K w1.heap.size 9 (.slice ad2 m2 cap2) ts w')→Calls Tryz.prog 47 #[.slice ad2 m2 cap2] w' fun e w''=>e=.returned (str (enc 9 ts))∧Below w'.heap.size w' w'':=fun w' hw=>renc_any 9 hw.2.la.la (by omega) w' (Below.refl _ _)
  refine goT (T:=fun w'=>Below w.heap.size w w'∧LK K w1.heap.size 9 (.slice ad2 m2 cap2) ts w') [cA Tryz.func47 hE] ((nonR w).both (LK.rs _ _ _ _ _)) (fun _ h=>h) I2 fun β3 a3 w3 I hb3=>?_
  exact outQ (v:=str (enc 9 ts)) I ⟨rfl,I.hJ.1⟩
theorem rwriteFixed{w:World}{f:Fi}{pv:Value}(h:PaI w pv f.1)(hn:f.2.1<M):Calls Tryz.prog 23 #[fxdV f pv] w fun e w'=>e=.returned (str (wrF f))∧Below w.heap.size w w':=by
 obtain ⟨ad,cap,hs⟩:=h.1.slice
 subst hs
 refine inQ (J:=Below w.heap.size w) (F:=(· < w.heap.size)) Tryz.func23 (Below.refl _ _) fun a I=>?_
 have hF:∀ w',Below w.heap.size w w'→Calls Tryz.prog 15 #[fxdV f (.slice ad f.1.length cap)] w' fun e w''=>e=.returned (.bool (fitF f))∧Below w'.heap.size w' w'':=fun w' hb=>rfitFixed_any (h.below hb)
 unfold wrF
 cases hf:fitF f with
 | false=>
  rw[hf] at hF
  refine goT (T:=Below w.heap.size w) [cA Tryz.func15 hF,uO .not (p:=.bool false) (v:=.bool true) (by intros;rfl)] (nonR w) (fun _ h=>h) I fun β a w1 I hb=>?_
  exact outQ (v:=.string eB) I ⟨rfl,I.hJ⟩
 | true=>
  rw[hf] at hF
  obtain ⟨p1,p2,p3,p4,m,p5,p6,p7⟩:=fitF_put hf
  refine goT (T:=Below w.heap.size w) [cA Tryz.func15 hF,uO .not (p:=.bool true) (v:=.bool false) (by intros;rfl)] (nonR w) (fun _ h=>h) I fun β a w1 I hb=>?_
  refine mcall (ss:=[Sum.inl (fxdV f (.slice ad f.1.length cap))]) Tryz.func48 I ?_
  have hsz1:=I.hJ.size
  refine (rfixedTerms 7 (h.1.below CS.loc I.hJ) (by omega) (fun s hs=>by rw[p3 s hs];decide) hn ⟨m,p5,by omega⟩).mono fun e w2 he=>?_
  obtain ⟨hb2,ad2,m2,cap2,K,rfl,hK,hLA⟩:=he
  have hlen:=fiT_len hf hn
  generalize fiT 7 f=ts at hLA hlen
  have I2:SI (fun w'=>Below w.heap.size w w'∧LK K w1.heap.size 9 (.slice ad2 m2 cap2) ts w') (fun k=>k<w.heap.size∨K k) [] β _ _ w2:=I.moved (Grow.of_below hb2) ⟨I.hJ.trans (hb2.mono hsz1),hK,hLA⟩ (fun k hk h=>by
   rcases h with h | h
   ·exact h
   ·have:=(hK k h).1;omega) (.slice ad2 m2 cap2)
  have hE:∀ w',(Below w.heap.size w w'∧LK K w1.heap.size 9 (.slice ad2 m2 cap2) ts w')→Calls Tryz.prog 47 #[.slice ad2 m2 cap2] w' fun e w''=>e=.returned (str (enc 9 ts))∧Below w'.heap.size w' w'':=fun w' hw=>renc_any 9 hw.2.la.la (by omega) w' (Below.refl _ _)
  refine goT (T:=fun w'=>Below w.heap.size w w'∧LK K w1.heap.size 9 (.slice ad2 m2 cap2) ts w') [cA Tryz.func47 hE] ((nonR w).both (LK.rs _ _ _ _ _)) (fun _ h=>h) I2 fun β3 a3 w3 I hb3=>?_
  exact outQ (v:=str (enc 9 ts)) I ⟨rfl,I.hJ.1⟩
theorem rid{w:World}{f:Fi}{pv:Value}(h:PaI w pv f.1)(hn:f.2.1<M):Calls Tryz.prog 27 #[fxdV f pv] w fun e w'=>e=.returned (str (idF f))∧Below w.heap.size w w':=by
 obtain ⟨ad,cap,hs⟩:=h.1.slice
 subst hs
 refine inQ (J:=Below w.heap.size w) (F:=(· < w.heap.size)) Tryz.func27 (Below.refl _ _) fun a I=>?_
 have hF:∀ w',Below w.heap.size w w'→Calls Tryz.prog 15 #[fxdV f (.slice ad f.1.length cap)] w' fun e w''=>e=.returned (.bool (fitF f))∧Below w'.heap.size w' w'':=fun w' hb=>rfitFixed_any (h.below hb)
 have hW:∀ w',Below w.heap.size w w'→Calls Tryz.prog 23 #[fxdV f (.slice ad f.1.length cap)] w' fun e w''=>e=.returned (str (wrF f))∧Below w'.heap.size w' w'':=fun w' hb=>rwriteFixed (h.below hb) hn
 have hS:∀ w',Below w.heap.size w w'→Calls Tryz.prog 35 #[str (wrF f)] w' fun e w''=>e=.returned (str (sumL (wrF f)))∧Below w'.heap.size w' w'':=fun w' hb=>rsum_txt _ (by have:=wrF_w f;omega) w'
 unfold idF
 generalize wrF f=wf at hW hS ⊢
 generalize hsm:sumL wf=sm at hS ⊢
 cases hf:fitF f with
 | false=>
  rw[hf] at hF
  refine goT (T:=Below w.heap.size w) [cA Tryz.func15 hF,uO .not (p:=.bool false) (v:=.bool true) (by intros;rfl)] (nonR w) (fun _ h=>h) I fun β a w1 I hb=>?_
  exact outQ (v:=.string eB) I ⟨rfl,I.hJ⟩
 | true=>
  rw[hf] at hF
  refine goT (T:=Below w.heap.size w) [cA Tryz.func15 hF,uO .not (p:=.bool true) (v:=.bool false) (by intros;rfl),cA Tryz.func23 hW,cA Tryz.func35 hS] (nonR w) (fun _ h=>h) I fun β a w1 I hb=>?_
  exact outQ (v:=str sm) I ⟨rfl,I.hJ⟩
end Go.Proofs.YtomdiafkoeefpaaGreatDoor
