/- Laid one behind the other: Tl, Tw. -/
import Derived.Test.YtomdiafkoeefpaaGreatDoorKrTh
import Derived.Test.YtomdiafkoeefpaaGreatDoorKrHk
import Derived.Test.YtomdiafkoeefpaaGreatDoorKrTv
namespace Go.Proofs.YtomdiafkoeefpaaGreatDoor
open Go.RowKit Go.Sort
set_option linter.unusedVariables false
set_option maxRecDepth 100000
def sumL (l:List UInt8):List UInt8:=(told (spg (blks ⟨l.toArray⟩))).data.toList
theorem sumL_len(l:List UInt8):(sumL l).length=32:=by
 have h:(told (spg (blks ⟨l.toArray⟩))).size=32:=by unfold told;rw[strOfNums_size];simp
 exact h
theorem sum_str(l:List UInt8){w:World}(ht:Tabs w ki):Calls Tryz.prog 51 #[str l] w fun e w'=>e=.returned (str (sumL l))∧Below w.heap.size w w':=sum_any ⟨l.toArray⟩ w ht
def idF (f:Fi):List UInt8:=if fitF f=true then sumL (wrF f) else []
def digM (f:Fi) (v:Va):List UInt8:=if (fitF f&&fitV v)=true then sumL (idF f++sumL (wrV v)) else []
theorem id_any{w:World}{f:Fi}{pv:Value}(ht:Tabs w ki)(h:PaI w pv f.1)(hn:f.2.1<M):Calls Tryz.prog 26 #[fxdV f pv] w fun e w'=>e=.returned (str (idF f))∧Below w.heap.size w w':=by
 obtain ⟨ad,cap,hs⟩:=h.1.slice
 subst hs
 refine inQ (J:=Below w.heap.size w) (F:=(· < w.heap.size)) Tryz.func26 (Below.refl _ _) fun a I=>?_
 have hF:∀ w',Below w.heap.size w w'→Calls Tryz.prog 14 #[fxdV f (.slice ad f.1.length cap)] w' fun e w''=>e=.returned (.bool (fitF f))∧Below w'.heap.size w' w'':=fun w' hb=>fitFixed_any (h.below hb)
 have hW:∀ w',Below w.heap.size w w'→Calls Tryz.prog 22 #[fxdV f (.slice ad f.1.length cap)] w' fun e w''=>e=.returned (str (wrF f))∧Below w'.heap.size w' w'':=fun w' hb=>writeFixed_any (h.below hb) hn
 have hS:∀ w',Below w.heap.size w w'→Calls Tryz.prog 51 #[str (wrF f)] w' fun e w''=>e=.returned (str (sumL (wrF f)))∧Below w'.heap.size w' w'':=fun w' hb=>sum_str _ (ht.below hb)
 unfold idF
 generalize wrF f=wf at hW hS ⊢
 generalize hsm:sumL wf=sm at hS ⊢
 cases hf:fitF f with
 | false=>
  rw[hf] at hF
  refine goT (T:=Below w.heap.size w) [cA Tryz.func14 hF,uO .not (p:=.bool false) (v:=.bool true) (by intros;rfl)] (nonR w) (fun _ h=>h) I fun β a w1 I hb=>?_
  exact outQ (v:=.string eB) I ⟨rfl,I.hJ⟩
 | true=>
  rw[hf] at hF
  refine goT (T:=Below w.heap.size w) [cA Tryz.func14 hF,uO .not (p:=.bool true) (v:=.bool false) (by intros;rfl),cA Tryz.func22 hW,cA Tryz.func51 hS] (nonR w) (fun _ h=>h) I fun β a w1 I hb=>?_
  exact outQ (v:=str sm) I ⟨rfl,I.hJ⟩
theorem digest_any{w:World}{f:Fi}{pv:Value}{v:Va}{ev:Value}(ht:Tabs w ki)(h:PaI w pv f.1)(hn:f.2.1<M)(hx:ExI w ev v.2.2.2)(hok:okX v.2.2.2)(htu:v.1<M):Calls Tryz.prog 28 #[fxdV f pv,vaV v ev] w fun e w'=>e=.returned (str (digM f v))∧Below w.heap.size w w':=by
 obtain ⟨ad,cap,hs⟩:=h.1.slice
 subst hs
 obtain ⟨ad2,cap2,hs⟩:=hx.slice
 subst hs
 refine inQ (J:=Below w.heap.size w) (F:=(· < w.heap.size)) Tryz.func28 (Below.refl _ _) fun a I=>?_
 have hF:∀ w',Below w.heap.size w w'→Calls Tryz.prog 14 #[fxdV f (.slice ad f.1.length cap)] w' fun e w''=>e=.returned (.bool (fitF f))∧Below w'.heap.size w' w'':=fun w' hb=>fitFixed_any (h.below hb)
 have hG:∀ w',Below w.heap.size w w'→Calls Tryz.prog 16 #[vaV v (.slice ad2 v.2.2.2.length cap2)] w' fun e w''=>e=.returned (.bool (fitV v))∧Below w'.heap.size w' w'':=fun w' hb=>fitVar_any (hx.below CE.loc hb) hok
 have hI:∀ w',Below w.heap.size w w'→Calls Tryz.prog 26 #[fxdV f (.slice ad f.1.length cap)] w' fun e w''=>e=.returned (str (idF f))∧Below w'.heap.size w' w'':=fun w' hb=>id_any (ht.below hb) (h.below hb) hn
 have hW:∀ w',Below w.heap.size w w'→Calls Tryz.prog 24 #[vaV v (.slice ad2 v.2.2.2.length cap2)] w' fun e w''=>e=.returned (str (wrV v))∧Below w'.heap.size w' w'':=fun w' hb=>write_any (hx.below CE.loc hb) hok htu
 have hS:∀ w',Below w.heap.size w w'→Calls Tryz.prog 51 #[str (wrV v)] w' fun e w''=>e=.returned (str (sumL (wrV v)))∧Below w'.heap.size w' w'':=fun w' hb=>sum_str _ (ht.below hb)
 have hS2:∀ w',Below w.heap.size w w'→Calls Tryz.prog 51 #[str (idF f++sumL (wrV v))] w' fun e w''=>e=.returned (str (sumL (idF f++sumL (wrV v))))∧Below w'.heap.size w' w'':=fun w' hb=>sum_str _ (ht.below hb)
 have hl1:(idF f).length≤32:=by
  unfold idF
  split
  ·rw[sumL_len];exact Nat.le_refl _
  ·simp
 have hl2:=sumL_len (wrV v)
 unfold digM
 generalize idF f=i1 at hI hS2 hl1 ⊢
 generalize hs1:sumL (wrV v)=s1 at hS hS2 hl2 ⊢
 generalize wrV v=wv at hW hS
 generalize sumL (i1++s1)=s2 at hS2 ⊢
 cases hf:fitF f with
 | false=>
  rw[hf] at hF
  refine goT (T:=Below w.heap.size w) [cA Tryz.func14 hF,uO .not (p:=.bool false) (v:=.bool true) (by intros;rfl)] (nonR w) (fun _ h=>h) I fun β a w1 I hb=>?_
  exact outQ (v:=.string eB) I ⟨rfl,I.hJ⟩
 | true=>
  rw[hf] at hF
  cases hv:fitV v with
  | false=>
   rw[hv] at hG
   refine goT (T:=Below w.heap.size w) [cA Tryz.func14 hF,uO .not (p:=.bool true) (v:=.bool false) (by intros;rfl),cA Tryz.func16 hG,uO .not (p:=.bool false) (v:=.bool true) (by intros;rfl)] (nonR w) (fun _ h=>h) I fun β a w1 I hb=>?_
   exact outQ (v:=.string eB) I ⟨rfl,I.hJ⟩
  | true=>
   rw[hv] at hG
   refine goT (T:=Below w.heap.size w) [cA Tryz.func14 hF,uO .not (p:=.bool true) (v:=.bool false) (by intros;rfl),cA Tryz.func16 hG,uO .not (p:=.bool true) (v:=.bool false) (by intros;rfl)] (nonR w) (fun _ h=>h) I fun β a w1 I hb=>?_
   refine dwT (T:=Below w.heap.size w) 8 [cA Tryz.func26 hI,cA Tryz.func24 hW,cA Tryz.func51 hS,bO .add 9 (addS_run i1 s1 (by omega)),cA Tryz.func51 hS2] (nonR w) (fun _ h=>h) PanOk.post I fun a2 w2 I=>?_
   refine goQ [] (nonR w) I fun β3 a3 w3 I hb3=>?_
   exact outQ (v:=str s2) I ⟨rfl,I.hJ⟩
end Go.Proofs.YtomdiafkoeefpaaGreatDoor
namespace Go.Proofs.YtomdiafkoeefpaaGreatDoor
open Go.RowKit Go.Sort
set_option linter.unusedVariables false
set_option maxRecDepth 100000
abbrev zs (n:Nat):ByteArray:=⟨(List.replicate n (0:UInt8)).toArray⟩
abbrev abc:ByteArray:=⟨#[97,98,99,100,101,102,103,104,105,106,107,108,109,110,111,112,113,114,115,116]⟩
abbrev awA:Al:=(zs 32,5,0,eB,eB)
abbrev awE:Ex:=(zs 20,[awA])
abbrev awV:Va:=(3,false,eB,[awE])
abbrev awF:Fi:=([zs 20,abc],0,eB,9)
theorem fit_awV:fitV awV=true:=by kernel_rfl
theorem fit_awF:fitF awF=true:=by kernel_rfl
theorem aw_amt:amtX awV.2.2.2:=by
 intro x hx a ha
 rw[List.mem_singleton] at hx
 subst hx
 rw[List.mem_singleton] at ha
 subst ha
 decide
theorem aw_tot:totS [awE] (zs 20)=5:=by kernel_rfl
section
variable {P:Program} {J:World→Prop} {F:Nat→Prop} {ds:List Deferred} {β:Nat→Nat} {c:Cf} {a:Act} {w:World} {Q:Exit→Act→World→Prop}
def msX (c:Cf):Option (TypeId×SV×SV):=match opAtQ c with
 | some o=>match o.op with
  | .makeSlice t x y=>(evQ c.tm x).bind fun s=>(evQ c.tm y).map fun r=>(t,s,r)
  | _=>none
 | none=>none
theorem mslX{t:TypeId}{l k v:Value}{w':World}(I:SI J F ds β c a w)(hr:(Instr.makeSlice t l k).run P w=.ok v w')(kk:At P Q (nxtQ c v) (a.put (dstQ c) v) w')(hc:msX c=some (t,Sum.inl l,Sum.inl k):=by kernel_rfl):At P Q c a w:=by
 unfold msX at hc
 split at hc
 ·next o ho=>
  split at hc
  ·next t' x y hop=>
   simp only[Option.bind_eq_some_iff,Option.map_eq_some_iff,Prod.mk.injEq] at hc
   obtain ⟨s,hs,r,hr2,rfl,rfl,rfl⟩:=hc
   refine vstep ho I (v:=v) (w':=w') ?_ kk
   unfold execOp
   simp only[hop,evQ_ok I.fr hs,evQ_ok I.fr hr2,up]
   rw[Sem.run_bind,hr,Result.andThen_ok,Sem.run_pure]
  ·cases hc
 ·cases hc
theorem allocG{ops:Array Oper}{K:Act→World→Prop}{o:Oper}{t:TypeId}{r:Array Value}(hop:o.op=.alloc t)(hg:o.guard=none)(hz:zeV P t=some r)(hm:P.follows .mixedOrders=true)(hK:∀ w',Below w.heap.size w w'→HasRow w' w.heap.size r→K (a.put o.dst (.pointer (some ⟨w.heap.size,0,none⟩))) w'):wpG ops o P a w K Q:=by
 refine wpG_plain hg ?_
 obtain ⟨t',h1⟩:=(ty_ok hm).hze t r hz a.eval o w hop
 exact wp_of_run h1 (hK _ (below_alloc w _) ⟨t',Array.getElem?_push_size⟩)
end
structure XW (b1 b2:Nat) (w:World):Prop where
 al:w.heap[b1]? = some (.cells (al8 awA).toArray 59)
 ex:w.heap[b2]? = some (.cells [.string (zs 20),.slice (some ⟨b1,0,none⟩) 1 1].toArray 38)
theorem XW.rs(b1 b2:Nat):Rsrc (XW b1 b2) (fun k=>k=b1∨k=b2):=by
 refine ⟨fun w w' h gr=>⟨?_,?_⟩,fun w k h hk=>?_⟩
 ·rw[gr.block b1 (Array.getElem?_eq_some_iff.1 h.al).1 (.inl rfl)];exact h.al
 ·rw[gr.block b2 (Array.getElem?_eq_some_iff.1 h.ex).1 (.inr rfl)];exact h.ex
 ·rcases hk with rfl | rfl
  ·exact (Array.getElem?_eq_some_iff.1 h.al).1
  ·exact (Array.getElem?_eq_some_iff.1 h.ex).1
theorem XW.below{b1 b2:Nat}{w w':World}(h:XW b1 b2 w)(hb:Below w.heap.size w w'):XW b1 b2 w':=(XW.rs b1 b2).loc w w' h (Grow.of_below hb)
theorem XW.exi{b1 b2:Nat}{w:World}(h:XW b1 b2 w):ExI w (.slice (some ⟨b2,0,none⟩) 1 1) [awE]:=by
 have h1:AlI w (.slice (some ⟨b1,0,none⟩) 1 1) [awA]:=by
  refine ⟨_,1,rfl,fun j x hj=>?_⟩
  have hj0:j=0:=by
   have:=(List.getElem?_eq_some_iff.1 hj).1
   simpa using this
  subst hj0
  simp only[List.getElem?_cons_zero,Option.some.injEq] at hj
  subst hj
  exact ⟨b1,0,_,rfl,(Array.getElem?_eq_some_iff.1 h.al).1,cells_block h.al,rfl,by decide⟩
 refine ⟨_,1,rfl,fun j x hj=>?_⟩
 have hj0:j=0:=by
  have:=(List.getElem?_eq_some_iff.1 hj).1
  simpa using this
 subst hj0
 simp only[List.getElem?_cons_zero,Option.some.injEq] at hj
 subst hj
 exact ⟨b2,0,_,rfl,(Array.getElem?_eq_some_iff.1 h.ex).1,cells_block h.ex,_,rfl,h1⟩
theorem bd_U5(w:World):(Instr.build 33 (([0]:List Nat).zip [B 5]).toArray).run Tryz.prog w=.ok (U 5) w:=by kernel_rfl
theorem bd_awA(w:World):(Instr.build 59 (([0,1]:List Nat).zip [.string (zs 32),U 5]).toArray).run Tryz.prog w=.ok (.agg (al8 awA).toArray) w:=by kernel_rfl
theorem bd_ex2(s:ByteArray)(ad:Option Addr)(n cap:Nat)(w:World):(Instr.build 38 #[(0,.string s),(1,.slice ad n cap)]).run Tryz.prog w=.ok (.agg #[.string s,.slice ad n cap]) w:=by kernel_rfl
theorem bd_awV(ad:Option Addr)(n cap:Nat)(w:World):(Instr.build 28 #[(0,B 3),(3,.slice ad n cap)]).run Tryz.prog w=.ok (.agg #[B 3,.bool false,.string eB,.slice ad n cap]) w:=by kernel_rfl
theorem map1{α β:Type}(f:α→β)(x:α):(#[x]:Array α).map f=#[f x]:=by simp
abbrev z4:Array Value:=#[B 0,.bool false,.string eB,.slice none 0 0]
theorem ze28:zeV Tryz.prog 28=some z4:=by kernel_rfl
theorem mk_zs{w:World}{lo n:Nat}(hn:n≤32)(hlo:lo≤w.heap.size):∃ v w2,(Instr.makeSlice 60 (Z n) (Z n)).run Tryz.prog w=.ok v w2∧w2.ownsRow lo 5 1 v n (bc (List.replicate n 0))∧Below w.heap.size w w2:=by
 obtain ⟨i,hi,hz,hi1,hi2⟩:=hI5
 obtain ⟨w2,hr2,ho2,hg2⟩:=run_make_full (P:=Tryz.prog) w lo 60 5 i _ 1 Tryz.underlying60 hi hz hi1 .i64 .i64 n (by rw[hi2];omega) (by simp only[maxLen];omega) hlo
 rw[made_zeros] at ho2
 exact ⟨_,w2,hr2,ho2,hg2.os,hg2.tape,hg2.output,hg2.size,fun k hk=>hg2.block k hk (by simp)⟩
theorem txt_zs{w:World}{lo n:Nat}{v:Value}(h:w.ownsRow lo 5 1 v n (bc (List.replicate n 0))):(convert 60 9 v).run Tryz.prog w=.ok (.string (zs n)) w:=text_own (l:=List.replicate n 0) (by rw[List.length_replicate];exact h)
def awW (w1:World) (j:Nat) (v:Value) (w':World):Prop:=(j=0→w'.ownsRow w1.heap.size 5 1 v 20 (bc (List.replicate 20 0)))∧(j=2→w'.ownsRow w1.heap.size 5 1 v 32 (bc (List.replicate 32 0))) ∧
 (j=6→∃ b1,v=.slice (some ⟨b1,0,none⟩) 1 1∧w1.heap.size≤b1∧w'.heap[b1]? = some (.cells (al8 awA).toArray 59))∧(j=7→∃ b1,v=.agg #[.string (zs 20),.slice (some ⟨b1,0,none⟩) 1 1]∧w1.heap.size≤b1∧w'.heap[b1]? = some (.cells (al8 awA).toArray 59)) ∧
 (j=8→∃ b1 b2,v=.slice (some ⟨b2,0,none⟩) 1 1∧w1.heap.size≤b1∧w1.heap.size≤b2∧XW b1 b2 w')∧(j=9→∃ b1 b2,v=.agg #[B 3,.bool false,.string eB,.slice (some ⟨b2,0,none⟩) 1 1]∧w1.heap.size≤b1∧w1.heap.size≤b2∧XW b1 b2 w')∧(j=10→∃ b3,v=.pointer (some ⟨b3,0,none⟩)∧w1.heap.size≤b3∧HasRow w' b3 z4)
theorem awW_keep(w1:World)(j:Nat)(v:Value)(w' w'':World)(h:awW w1 j v w')(hb:Below w'.heap.size w' w''):awW w1 j v w'':=by
 obtain ⟨h0,h2,h6,h7,h8,h9,h10⟩:=h
 have hg:∀ {v:Value} {n:Nat} {xs:List Value},w'.ownsRow w1.heap.size 5 1 v n xs→w''.ownsRow w1.heap.size 5 1 v n xs:=fun h=>owns_grow (F:=fun _=>True) h ⟨hb.os,hb.tape,hb.output,hb.size,fun k hk _=>hb.block k hk⟩ fun _ _=>trivial
 refine ⟨fun hj=>hg (h0 hj),fun hj=>hg (h2 hj),fun hj=>?_,fun hj=>?_,fun hj=>?_,fun hj=>?_,fun hj=>?_⟩
 ·obtain ⟨b1,q1,q2,q3⟩:=h6 hj
  exact ⟨b1,q1,q2,by rw[hb.block b1 (Array.getElem?_eq_some_iff.1 q3).1];exact q3⟩
 ·obtain ⟨b1,q1,q2,q3⟩:=h7 hj
  exact ⟨b1,q1,q2,by rw[hb.block b1 (Array.getElem?_eq_some_iff.1 q3).1];exact q3⟩
 ·obtain ⟨b1,b2,q1,q2,q3,q4⟩:=h8 hj
  exact ⟨b1,b2,q1,q2,q3,q4.below hb⟩
 ·obtain ⟨b1,b2,q1,q2,q3,q4⟩:=h9 hj
  exact ⟨b1,b2,q1,q2,q3,q4.below hb⟩
 ·obtain ⟨b3,q1,q2,q3⟩:=h10 hj
  exact ⟨b3,q1,q2,q3.below hb⟩
end Go.Proofs.YtomdiafkoeefpaaGreatDoor
