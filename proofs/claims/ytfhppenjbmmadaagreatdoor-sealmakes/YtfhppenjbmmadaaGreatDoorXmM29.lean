import Derived.RangeFuncNested
import Derived.RangeFuncBound
import Derived.RangeFuncCalls
import Derived.RangeFuncLeaves
import Derived.Shelf.Abstract
import Derived.Shelf.RegionOpen
import Derived.OwnWalkIn
import Derived.TacticsInMore
import Derived.LoopNIn
import Derived.LoopIn
import Derived.Test.YtfhppenjbmmadaaGreatDoorXmM18
import Derived.Sort.CutIn
import Derived.BigQuiet
import Derived.Deep.QuietTactic
namespace Go.Proofs.YtfhppenjbmmadaaGreatDoor
set_option linter.unusedVariables false
set_option maxHeartbeats 8000000
section
open Go.RowKit Go.Shelf
theorem below_putObj{B:Nat}(W:World){l:Nat}(o:Obj)(h:B≤l):RowKit.Below B W (W.putObj l o):=
 ⟨rfl,rfl,rfl,by simp[World.putObj],fun k hk=>World.putObj_heap_other (by omega)⟩
def SeqOwn {α:Type} (F:Fence) (n:Nat) (P:Program) (g:Nat) (lb:Array Value) (encs:α→Array Value) (Kp:World→World→Prop) (xs:List α) (N:Nat) (w:World):Prop:=
 ∀ (l:Nat) (J:List α→World→Prop) (W:World),RowKit.Below w.heap.size w W→(∀ s A B,J s A→RowKit.Below W.heap.size A B→J s B) →
  (∀ pre x W1,J pre W1→pre.length<N→YieldAt F (n-1) P l (encs x) W1 fun e W'=>e=.returned (.bool true)∧J (pre++[x]) W'∧Kp W1 W') →
  J [] W→CallsIn F n P g (#[.func (.yield l) #[] #[]]++lb) W fun e W'=>(∃ v,e=.returned v)∧J xs W'
variable {F:Fence} {n:Nat} {P:Program}
theorem range_own{α:Type}{g:Operand}{ps:Array Tmp}{assign body:Code}{Q:Exit→Act→World→Prop}{a:Act}{w:World}(hro:F.round=none)(h1:1≤n){gf:Nat}{lb:Array Value}(hg:a.eval g=.func (.func gf) #[] lb)(hFg:F.fn gf)(eg:∀ args w,(callFunc gf args).run P w=.ok (.enter gf args) w){encs:α→Array Value}{Kp:World→World→Prop}{xs:List α}{N:Nat}(hseq:SeqOwn F (n-1) P gf lb encs Kp xs N w)(hKt:∀ {A B C:World},Kp A B→Kp B C→Kp A C)(hKb:∀ (W:World) (l:Nat) (o o':Obj),w.heap.size≤l→W.heap[l]? = some o→o.isCells=false→o.isWalk=false→Kp W (W.putObj l o'))(hps:∀ x,(encs x).size=ps.size)(I:List α→World→Prop)(hI:∀ s A B,I s A→RowKit.Below w.heap.size A B→I s B)(h0:I [] w)(Ax:α→Act→World→Prop)(hAx:∀ x a',OwnFrom w.heap.size (fun (_:Unit) W=>Ax x a' W))(hassign:∀ (l:Nat) (pre:List α) (x:α) (W:World) (K:Act→World→Prop),I pre W→(∀ a' W',KeepsFrom w.heap.size W W'→Kp W W'→I pre W'→Ax x a' W'→K a' W') →
   assign.wpIn (F.inRound l) (n-1-1) P (Exit.then K (fun _ _ _=>False)) { tmps:=(ps.zip (encs x)).foldl (fun t (p,v)=>t.setIfInBounds p v) a.tmps,defers:=[] } W)(hbody:∀ (l:Nat) (pre:List α) (x:α) (a':Act) (W:World),w.heap.size≤l→(∃ r,W.heap[l]? = some (.loop r))→I pre W→Ax x a' W→pre.length<N→body.wpIn (F.inRound l) (n-1-1) P (ownPostG w.heap.size Kp I (fun _ _ _=>False) (pre++[x]) W) a' W)(hdone:∀ (D:Nat) (W:World),w.heap.size≤D→I xs W→W.heap[D]? = some (.deferred (some []))→Q .normal { a with defers:={ target:=.collected D,args:=#[] }::a.defers } W) :
  (Code.rangeFunc g ps assign body).wpIn F n P Q a w:=by
 refine wpIn_rangeFunc ?_
 intro fn hfn
 rw[hro]
 obtain ⟨rec,hrec⟩:∃ rec:LoopState→Option Code→Loop,rec=fun st pe=>{ state:=st,pending:=pe,fn,tmps:=a.tmps,params:=ps,assign,body,defers:=w.heap.size }:=⟨_,rfl⟩
 obtain ⟨W1,hW1⟩:∃ W1,(w.alloc (.deferred (some []))).alloc (.loop (rec .ready none))=W1:=⟨_,rfl⟩
 have hs1:W1.heap.size=w.heap.size+1+1:=by rw[← hW1];simp
 have hL1:W1.heap[w.heap.size+1]? = some (.loop (rec .ready none)):=by
  rw[← hW1];have:=World.alloc_heap_new (w.alloc (.deferred (some []))) (.loop (rec .ready none));rwa [World.size_alloc] at this
 have hK1:W1.heap[w.heap.size]? = some (.deferred (some [])):=by
  rw[← hW1];exact (Below.heap_alloc _ _ _ (by simp)).trans (World.alloc_heap_new w _)
 have hb1:RowKit.Below w.heap.size w W1:=by
  rw[← hW1];exact ((RowKit.Below.refl _ w).alloc (Nat.le_refl _) _).alloc (by simp) _
 have hI1:I [] W1:=hI _ _ _ h0 hb1
 refine ⟨w.heap.size+1,[{ target:=.collected w.heap.size,args:=#[] }],W1,{ target:=.fn (.func gf) lb,args:=#[.func (.yield (w.heap.size+1)) #[] #[]] },W1,gf,
  #[.func (.yield (w.heap.size+1)) #[] #[]]++lb,W1,?_,?_,?_,?_,fun _=>h1,?_⟩
 ·rw[← hW1,hrec];exact run_enterLoop_outer _ _ _ _ _
 ·simp only[resolve,hg]
  simp[go_sem]
 ·intro f' hf';simp[Target.leads] at hf';subst hf';exact hFg
 ·simp[invoke,go_sem,eg]
 ·refine (hseq (w.heap.size+1)
   (fun pre W=>I pre W∧W.heap[w.heap.size+1]? = some (.loop (rec .ready none))∧W.heap[w.heap.size]? = some (.deferred (some [])))
   W1 hb1 (fun s A B hs hb=>⟨hI s A B hs.1 (hb.mono (by omega)),(hb.block _ (by omega)).trans hs.2.1,(hb.block _ (by omega)).trans hs.2.2⟩) ?_ ⟨hI1,hL1,hK1⟩).mono ?_
  ·rintro pre x W ⟨hi,hl,hk⟩ hlen
   have hy:=run_yield (P:=P) (args:=encs x) hl (by rw[hrec];exact hps x)
   rw[hrec] at hy
   refine ⟨fn,_,assign,body,hy,roundIn_of_wpIn hfn (hassign _ pre x W _ hi ?_)⟩
   clear hy
   intro a' Wa hkfa hkpa hia hax
   replace hl:=hkfa.same _ _ (by omega) hl rfl
   replace hk:=hkfa.same _ _ (Nat.le_refl _) hk rfl
   have hlt:w.heap.size+1<Wa.heap.size:=(Array.getElem?_eq_some_iff.1 hl).1
   refine ⟨_,run_beginRound hl (by rw[hrec]),?_⟩
   have hl2:(Wa.putObj (w.heap.size+1) (.loop { rec .ready none with state:=.busy })).heap[w.heap.size+1]? = some (.loop { rec .ready none with state:=.busy }):=World.putObj_heap_same hlt
   have hk2:(Wa.putObj (w.heap.size+1) (.loop { rec .ready none with state:=.busy })).heap[w.heap.size]? = some (.deferred (some [])):=(World.putObj_heap_other (by omega)).trans hk
   have hw2:Kp Wa (Wa.putObj (w.heap.size+1) (.loop { rec .ready none with state:=.busy })):=hKb _ _ _ _ (by omega) hl rfl rfl
   refine wpIn_mono (hbody _ pre x a' _ (by omega) ⟨_,hl2⟩ (hI _ _ _ hia (below_putObj _ _ (by omega))) ((hAx x a').putObj (s:=()) _ hax (by omega) hl rfl) hlen) ?_
   rintro e a3 W3 hp
   cases e with
   | normal=>
    obtain ⟨hk3,hkp3,hi3⟩:=hp
    have hl3:=hk3.same _ _ (by omega) hl2 rfl
    have hr:=run_endRound (P:=P) none hl3
    refine ⟨_,_,hr,rfl,⟨hI _ _ _ hi3 (below_putObj _ _ (by omega)),?_,(World.putObj_heap_other (by omega)).trans (hk3.same _ _ (Nat.le_refl _) hk2 rfl)⟩,hKt hkpa (hKt (hKt hw2 hkp3) (hKb _ _ _ _ (by omega) hl3 rfl rfl))⟩
    rw[World.putObj_heap_same (Array.getElem?_eq_some_iff.1 hl3).1,hrec]
    rfl
   | ret=>exact hp.2.elim
   | exit id=>exact hp.2.elim
   | goto t=>exact hp.2.elim
   | panic ch=>exact hp.elim
   | outgrown=>exact hp.elim
  ·rintro e W2 ⟨⟨v,rfl⟩,hi,hl,hk⟩
   exact ⟨none,_,by have:=run_endLoop (P:=P) hl (by rw[hrec];simp);rw[hrec] at this;exact this,hdone _ _ (Nat.le_refl _) (hI _ _ _ hi (below_putObj _ _ (by omega))) ((World.putObj_heap_other (by omega)).trans hk)⟩
end
section
open Go.RowKit Go.Shelf
attribute [local go_sem] Oper.semAt_some
theorem opIn_loada{F:Fence}{n:Nat}{P:Program}{o:Oper}{a:Act}{w:World}{K:Act→World→Prop}{Q:Exit→Act→World→Prop}(ty:TypeId)(x:Operand)(ho:o.op=.load ty x)(g:Nat)(hx:a.eval x=.pointer (some ⟨g,0,none⟩)){c:Array Value}{d:TypeDesc}(hr:HRw w g c)(hu:P.underlying ty=some d)(hd:aggB d=true)(hi:(P.info? ty).map (·.size)=some c.size)(h:K (a.put o.dst (.agg c)) w):o.wpIn F n P a w K Q:=by
 unfold Oper.wpIn
 refine ⟨by simp[Oper.about,ho],?_⟩
 rw[Oper.semAt_plain F _ _ (by rw[ho];intro c hc';cases hc')]
 obtain ⟨t,hr⟩:=hr
 have hl:=run_loadVar_row (P:=P) w g t ty c (0,0) d hr hu (by cases d<;>simp_all [aggB]) hi
 unfold execOp
 simp only[ho,hx,Instr.loadAt,Instr.sureAddr,Sem.run_bind,Sem.run_pure,Result.andThen_ok,hl]
 exact h
theorem opIn_storea{F:Fence}{n:Nat}{P:Program}{o:Oper}{a:Act}{w:World}{K:Act→World→Prop}{Q:Exit→Act→World→Prop}(ty:TypeId)(x y:Operand)(ho:o.op=.store ty x y)(g:Nat)(hx:a.eval x=.pointer (some ⟨g,0,none⟩)){c c':Array Value}(hy:a.eval y=.agg c')(hr:HRw w g c)(hn:c.size=c'.size)(h1:c'.all (·.oneCell')=true)(hi:(P.info? ty).map (·.size)=some c'.size)(h:K (a.put o.dst undef) (w.setRow g c')):o.wpIn F n P a w K Q:=by
 unfold Oper.wpIn
 refine ⟨by simp[Oper.about,ho],?_⟩
 rw[Oper.semAt_plain F _ _ (by rw[ho];intro c hc';cases hc')]
 obtain ⟨t,hr⟩:=hr
 have hl:=run_storeVar_row (P:=P) w g t ty c c' hr hi hn h1
 unfold execOp
 simp only[ho,hx,hy,Instr.storeAt,Instr.sureAddr,Sem.run_bind,Sem.run_pure,Result.andThen_ok,hl]
 exact h
def KpB (B:Nat) (W W':World):Prop:=W.heap.size≤W'.heap.size∧∀ k c,B≤k→HRw W k c→HRw W' k c
theorem KpB.trans{B:Nat}{A C D:World}(h:KpB B A C)(k:KpB B C D):KpB B A D:=⟨Nat.le_trans h.1 k.1,fun i c hi hr=>k.2 i c hi (h.2 i c hi hr)⟩
theorem KpB.put{B:Nat}(W:World)(l:Nat)(o o':Obj)(h:W.heap[l]? = some o)(hc:o.isCells=false):KpB B W (W.putObj l o'):=
 ⟨by simp[World.putObj],fun k c _ ⟨t,hr⟩=>⟨t,by
  rw[World.putObj_heap_other]
  ·exact hr
  ·rintro rfl;rw[hr] at h;cases h;cases hc⟩⟩
theorem hsc{w:World}{g:Nat}{c:Array Value}(h:HRw w g c)(i:Nat)(v:Value):HRw (w.setCell ⟨g,i,none⟩ v) g (c.setIfInBounds i v):=by rw[h.setCell];exact h.set_same _
theorem bsc{w a:World}{g B:Nat}{c:Array Value}(h:HRw w g c)(hb:RowKit.Below B a w)(hg:B≤g)(i:Nat)(v:Value):RowKit.Below B a (w.setCell ⟨g,i,none⟩ v):=by rw[h.setCell];exact bSR hb hg _
def RwB (B:Nat) (a w:World) (g:Nat) (c:Array Value):Prop:=HRw w g c∧RowKit.Below B a w
theorem rwb{B:Nat}{a w:World}{g:Nat}{c:Array Value}(h:RwB B a w g c)(hg:B≤g)(i:Nat)(v:Value):RwB B a (w.setCell ⟨g,i,none⟩ v) g (c.setIfInBounds i v):=⟨hsc h.1 i v,bsc h.1 h.2 hg i v⟩
theorem rwb_to{B:Nat}{a w:World}{g:Nat}{c c':Array Value}(h:RwB B a w g c)(e:c=c'):RwB B a w g c':=e ▸ h
abbrev dv (X Y Z:Nat→Nat) (i:Nat):Array Value:=T3 (X i) (Y i) (Z i)
set_option maxRecDepth 100000 in
theorem doubles1_in(n:Nat)(hn:1≤n)(l Bt Bc:Nat)(X Y Z:Nat→Nat)(c:Nat)(hc:c≤256)(Bn:Nat)(J:List Nat→World→Prop)(W:World)(hB:Bn≤W.heap.size)(hJ:∀ s A C,J s A→RowKit.Below W.heap.size A C→J s C)(hjo:∀ i,Ds 102 #[.agg (dv X Y Z i),.agg (dv X Y Z i)] (.agg (dv X Y Z (i+1))))(hY:∀ (pre:List Nat) (x:Nat) (W1:World),J pre W1→x<c→pre.length<c→YieldAt Fence.wide (n-1) Tryz.prog l #[.int .i64 (x:Int),.agg (dv X Y Z x)] W1 fun e W'=>e=.returned (.bool true)∧J (pre++[x]) W'∧KpB Bn W1 W')(hBt:HRw W Bt (dv X Y Z 0))(hBc:W.cell? ⟨Bc,0,none⟩=some (.int .i64 (c:Int)))(hlt:Bc<W.heap.size)(h0:J [] W) :
  CallsIn Fence.wide n Tryz.prog 150 #[.func (.yield l) #[] #[],.pointer (some ⟨Bt,0,none⟩),.pointer (some ⟨Bc,0,none⟩)] W fun e W'=>(∃ v,e=.returned v)∧J (List.range c) W':=by
 have HY:Hid _:=hY
 have HJ:Hid _:=hJ
 have HD:Hid _:=hjo
 clear hY hJ hjo
 refine callsIn_of_wp Tryz.func150 rfl trivial ?_ rfl
 simp only[Tryz.ntmps150,List.size_toArray,List.length_cons,List.length_nil,Nat.reduceAdd,Nat.reduceSub,Array.replicate_succ,Array.replicate_zero,List.push_toArray,List.append_toArray,List.nil_append,List.cons_append]
 refine wpIn_seq ?_
 refine wpIn_region_lit ?_
 refine wpListIn_plain rfl fun K hK=>opIn_loada 117 (.tmp 1) rfl Bt rfl hBt Tryz.underlying117 rfl (by kernel_rfl) (hK _ _ ?_)
 clear hK K
 simp only[Act.put,List.setIfInBounds_toArray,List.set_cons_succ,List.set_cons_zero]
 gi_wp2
 have R0:Hid (HRw (W.alloc (.cells (dv X Y Z 0) 117)) W.heap.size (dv X Y Z 0)):=HRw.last rfl
 have J0:Hid (J [] (W.alloc (.cells (dv X Y Z 0) 117))):=HJ.out _ _ _ h0 (bAl (RowKit.Below.refl _ _) _)
 gi_loopw [8] (fun p wr=>∃ k:Nat,k≤c∧p=.int .i64 (k:Int)∧J (List.range k) wr∧HRw wr W.heap.size (dv X Y Z k)) (fun p _=>c-(intOf p).toNat)
 case atStart=>exact ⟨0,Nat.zero_le _,rfl,J0.out,R0.out⟩
 case round=>
  clear R0 J0
  obtain ⟨k,hk,rfl,hj,hr⟩:=hrel
  have RJ:Hid (J (List.range k) wr):=hj
  have RR:Hid (HRw wr W.heap.size (dv X Y Z k)):=hr
  clear hj hr
  by_cases hkc:k<c
  ·have hd:(k:Int)<(c:Int):=by omega
   have hd2:(k:Int)<256:=by omega
   obtain ⟨fn,tmps,assign,body,hy,hR⟩:=HY.out (List.range k) k wr RJ.out hkc (by simpa using hkc)
   have q0:wr.cell? ⟨W.heap.size,0,none⟩=some (B (l0 (X k))):=HRw.cell RR.out 0
   have q1:wr.cell? ⟨W.heap.size,1,none⟩=some (B (l1 (X k))):=HRw.cell RR.out 1
   have q2:wr.cell? ⟨W.heap.size,2,none⟩=some (B (l2 (X k))):=HRw.cell RR.out 2
   have q3:wr.cell? ⟨W.heap.size,3,none⟩=some (B (l3 (X k))):=HRw.cell RR.out 3
   have q4:wr.cell? ⟨W.heap.size,4,none⟩=some (B (l0 (Y k))):=HRw.cell RR.out 4
   have q5:wr.cell? ⟨W.heap.size,5,none⟩=some (B (l1 (Y k))):=HRw.cell RR.out 5
   have q6:wr.cell? ⟨W.heap.size,6,none⟩=some (B (l2 (Y k))):=HRw.cell RR.out 6
   have q7:wr.cell? ⟨W.heap.size,7,none⟩=some (B (l3 (Y k))):=HRw.cell RR.out 7
   have q8:wr.cell? ⟨W.heap.size,8,none⟩=some (B (l0 (Z k))):=HRw.cell RR.out 8
   have q9:wr.cell? ⟨W.heap.size,9,none⟩=some (B (l1 (Z k))):=HRw.cell RR.out 9
   have q10:wr.cell? ⟨W.heap.size,10,none⟩=some (B (l2 (Z k))):=HRw.cell RR.out 10
   have q11:wr.cell? ⟨W.heap.size,11,none⟩=some (B (l3 (Z k))):=HRw.cell RR.out 11
   gi_wp2
   refine hR.mono ?_
   rintro e W3 ⟨rfl,hJ3,hk3⟩
   have RJ3:Hid (J (List.range k++[k]) W3):=hJ3
   have RR3:Hid (HRw W3 W.heap.size (dv X Y Z k)):=hk3.2 _ _ hB RR.out
   clear hJ3 hk3 hy hR q0 q1 q2 q3 q4 q5 q6 q7 q8 q9 q10 q11
   have q0:W3.cell? ⟨W.heap.size,0,none⟩=some (B (l0 (X k))):=HRw.cell RR3.out 0
   have q1:W3.cell? ⟨W.heap.size,1,none⟩=some (B (l1 (X k))):=HRw.cell RR3.out 1
   have q2:W3.cell? ⟨W.heap.size,2,none⟩=some (B (l2 (X k))):=HRw.cell RR3.out 2
   have q3:W3.cell? ⟨W.heap.size,3,none⟩=some (B (l3 (X k))):=HRw.cell RR3.out 3
   have q4:W3.cell? ⟨W.heap.size,4,none⟩=some (B (l0 (Y k))):=HRw.cell RR3.out 4
   have q5:W3.cell? ⟨W.heap.size,5,none⟩=some (B (l1 (Y k))):=HRw.cell RR3.out 5
   have q6:W3.cell? ⟨W.heap.size,6,none⟩=some (B (l2 (Y k))):=HRw.cell RR3.out 6
   have q7:W3.cell? ⟨W.heap.size,7,none⟩=some (B (l3 (Y k))):=HRw.cell RR3.out 7
   have q8:W3.cell? ⟨W.heap.size,8,none⟩=some (B (l0 (Z k))):=HRw.cell RR3.out 8
   have q9:W3.cell? ⟨W.heap.size,9,none⟩=some (B (l1 (Z k))):=HRw.cell RR3.out 9
   have q10:W3.cell? ⟨W.heap.size,10,none⟩=some (B (l2 (Z k))):=HRw.cell RR3.out 10
   have q11:W3.cell? ⟨W.heap.size,11,none⟩=some (B (l3 (Z k))):=HRw.cell RR3.out 11
   gi_wp2_with fail
   refine ⟨trivial,(callsIn_wide.2 (HD.out k _)).mono ?_⟩
   rintro e W4 ⟨rfl,hb4⟩
   have RR4:Hid (HRw W4 W.heap.size (dv X Y Z k)):=RR3.out.below hb4
   have RJ4:Hid (J (List.range k++[k]) W4):=HJ.out _ _ _ RJ3.out (hb4.mono (by have:=RR3.out.lt;omega))
   clear hb4 q0 q1 q2 q3 q4 q5 q6 q7 q8 q9 q10 q11
   have q0:W4.cell? ⟨W.heap.size,0,none⟩=some (B (l0 (X k))):=HRw.cell RR4.out 0
   have q1:W4.cell? ⟨W.heap.size,1,none⟩=some (B (l1 (X k))):=HRw.cell RR4.out 1
   have q2:W4.cell? ⟨W.heap.size,2,none⟩=some (B (l2 (X k))):=HRw.cell RR4.out 2
   have q3:W4.cell? ⟨W.heap.size,3,none⟩=some (B (l3 (X k))):=HRw.cell RR4.out 3
   have q4:W4.cell? ⟨W.heap.size,4,none⟩=some (B (l0 (Y k))):=HRw.cell RR4.out 4
   have q5:W4.cell? ⟨W.heap.size,5,none⟩=some (B (l1 (Y k))):=HRw.cell RR4.out 5
   have q6:W4.cell? ⟨W.heap.size,6,none⟩=some (B (l2 (Y k))):=HRw.cell RR4.out 6
   have q7:W4.cell? ⟨W.heap.size,7,none⟩=some (B (l3 (Y k))):=HRw.cell RR4.out 7
   have q8:W4.cell? ⟨W.heap.size,8,none⟩=some (B (l0 (Z k))):=HRw.cell RR4.out 8
   have q9:W4.cell? ⟨W.heap.size,9,none⟩=some (B (l1 (Z k))):=HRw.cell RR4.out 9
   have q10:W4.cell? ⟨W.heap.size,10,none⟩=some (B (l2 (Z k))):=HRw.cell RR4.out 10
   have q11:W4.cell? ⟨W.heap.size,11,none⟩=some (B (l3 (Z k))):=HRw.cell RR4.out 11
   have z0:W4.frozen? ⟨W.heap.size,0,none⟩=false:=HRw.fz RR4.out 0
   have z1:W4.frozen? ⟨W.heap.size,1,none⟩=false:=HRw.fz RR4.out 1
   have z2:W4.frozen? ⟨W.heap.size,2,none⟩=false:=HRw.fz RR4.out 2
   have z3:W4.frozen? ⟨W.heap.size,3,none⟩=false:=HRw.fz RR4.out 3
   have z4:W4.frozen? ⟨W.heap.size,4,none⟩=false:=HRw.fz RR4.out 4
   have z5:W4.frozen? ⟨W.heap.size,5,none⟩=false:=HRw.fz RR4.out 5
   have z6:W4.frozen? ⟨W.heap.size,6,none⟩=false:=HRw.fz RR4.out 6
   have z7:W4.frozen? ⟨W.heap.size,7,none⟩=false:=HRw.fz RR4.out 7
   have z8:W4.frozen? ⟨W.heap.size,8,none⟩=false:=HRw.fz RR4.out 8
   have z9:W4.frozen? ⟨W.heap.size,9,none⟩=false:=HRw.fz RR4.out 9
   have z10:W4.frozen? ⟨W.heap.size,10,none⟩=false:=HRw.fz RR4.out 10
   have z11:W4.frozen? ⟨W.heap.size,11,none⟩=false:=HRw.fz RR4.out 11
   gi_wp2
   have RW:=rwb_to (rwb (rwb (rwb (rwb (rwb (rwb (rwb (rwb (rwb (rwb (rwb (rwb (⟨RR4.out,RowKit.Below.refl _ _⟩:RwB W.heap.size W4 W4 W.heap.size (dv X Y Z k)) (Nat.le_refl _) 0 (B (l0 (X (k+1))))) (Nat.le_refl _) 1 (B (l1 (X (k+1))))) (Nat.le_refl _) 2 (B (l2 (X (k+1))))) (Nat.le_refl _) 3 (B (l3 (X (k+1))))) (Nat.le_refl _) 4 (B (l0 (Y (k+1))))) (Nat.le_refl _) 5 (B (l1 (Y (k+1))))) (Nat.le_refl _) 6 (B (l2 (Y (k+1))))) (Nat.le_refl _) 7 (B (l3 (Y (k+1))))) (Nat.le_refl _) 8 (B (l0 (Z (k+1))))) (Nat.le_refl _) 9 (B (l1 (Z (k+1))))) (Nat.le_refl _) 10 (B (l2 (Z (k+1))))) (Nat.le_refl _) 11 (B (l3 (Z (k+1))))) (c':=dv X Y Z (k+1)) (by kernel_rfl)
   refine ⟨⟨k+1,hkc,by go_num,?_,RW.1⟩,?_⟩
   ·rw[List.range_succ]
    exact HJ.out _ _ _ RJ4.out RW.2
   ·simp[intOf];omega
  ·have hkn:c=k:=by omega
   subst hkn
   gi_wp2
   go_end0
   exact ⟨⟨_,rfl⟩,RJ.out⟩
end
section
open Go.RowKit Go.Shelf
attribute [local go_sem] Oper.semAt_some
theorem doubles_any(X Y Z:Nat→Nat)(c:Nat)(w:World):Calls Tryz.prog 134 #[.agg (dv X Y Z 0),.int .i64 (c:Int)] w fun e w'=>e=.returned (.func (.func 150) #[] #[.pointer (some ⟨w.heap.size,0,none⟩),.pointer (some ⟨w.heap.size+1,0,none⟩)])∧w'=(w.alloc (.cells (dv X Y Z 0) 117)).alloc (.cells #[.int .i64 (c:Int)] 3):=by
 go_enter Tryz.func134,Tryz.ntmps134
 go_wp2
 go_ret
 exact ⟨rfl,rfl⟩
theorem HRw.grown{X Y:World}{g:Nat}{c:Array Value}{row:Option Nat}(h:HRw X g c)(hg:X.grownBy Y row)(hne:some g≠row):HRw Y g c:=by
 have hlt:=h.lt
 obtain ⟨t,h⟩:=h
 exact ⟨t,(hg.block g hlt hne).trans h⟩
abbrev Bd (c:Nat):Type:={x:Nat // x<c}
def allB (c:Nat):List (Bd c):=(List.range c).attach.map fun x=>⟨x.1,List.mem_range.1 x.2⟩
theorem allB_map(c:Nat):(allB c).map (·.1)=List.range c:=by simp[allB]
theorem map_val_inj{c:Nat}:∀ {l m:List (Bd c)},l.map (·.1)=m.map (·.1)→l=m
 | [],[],_=>rfl
 | [],_::_,h=>by simp at h
 | _::_,[],h=>by simp at h
 | a::l,b::m,h=>by
  simp only[List.map_cons,List.cons.injEq] at h
  rw[map_val_inj h.2,Subtype.ext h.1]
theorem doubles_own(n:Nat)(hn:1≤n)(Bt Bc:Nat)(X Y Z:Nat→Nat)(c:Nat)(hc:c≤256)(w:World)(hjo:∀ i,Ds 102 #[.agg (dv X Y Z i),.agg (dv X Y Z i)] (.agg (dv X Y Z (i+1))))(hBt:HRw w Bt (dv X Y Z 0))(hBc:HRw w Bc #[.int .i64 (c:Int)]) :
  SeqOwn Fence.wide n Tryz.prog 150 #[.pointer (some ⟨Bt,0,none⟩),.pointer (some ⟨Bc,0,none⟩)] (fun x:Bd c=>#[.int .i64 (x.1:Int),.agg (dv X Y Z x.1)]) (KpB w.heap.size) (allB c) c w:=by
 intro l J W hW hJ hY h0
 have hlt:=hBc.lt
 refine (doubles1_in n hn l Bt Bc X Y Z c hc w.heap.size (fun s V=>∃ s':List (Bd c),s'.map (·.1)=s∧J s' V) W hW.size ?_ hjo ?_ (hBt.below hW) ?_ (Nat.lt_of_lt_of_le hlt hW.size) ⟨[],rfl,h0⟩).mono ?_
 ·rintro s A C ⟨s',hs,hj⟩ hb
  exact ⟨s',hs,hJ _ _ _ hj hb⟩
 ·rintro pre x W1 ⟨s',hs,hj⟩ hx hl
  obtain ⟨fn,tmps,assign,body,hy,hR⟩:=hY s' ⟨x,hx⟩ W1 hj (by rw[← hs] at hl;simpa using hl)
  refine ⟨fn,tmps,assign,body,hy,hR.mono ?_⟩
  rintro e W' ⟨he,hj',hk⟩
  exact ⟨he,⟨s'++[⟨x,hx⟩],by rw[List.map_append,hs];rfl,hj'⟩,hk⟩
 ·exact HRw.cell (hBc.below hW) 0
 ·rintro e W' ⟨hv,s',hs,hj⟩
  rw[map_val_inj (hs.trans (allB_map c).symm)] at hj
  exact ⟨hv,hj⟩
theorem keeps_below{W W':World}(h:RowKit.Below W.heap.size W W'):KeepsOthers W W':=
 ⟨h.size,fun k o hk _=>by rw[h.block k (Array.getElem?_eq_some_iff.1 hk).1];exact hk⟩
theorem keeps_setRow{W:World}{g:Nat}{c:Array Value}(h:HRw W g c)(c':Array Value):KeepsOthers W (W.setRow g c'):=by
 obtain ⟨t,h⟩:=h
 refine ⟨by rw[sSR];exact Nat.le_refl _,fun k o hk ho=>?_⟩
 have hne:¬ g=k:=fun e=>by subst e;rw[h] at hk;cases hk;cases ho
 simp only[World.setRow,Array.getElem?_modify,hne,if_false]
 exact hk
theorem KpB.below{B:Nat}{W W':World}(h:RowKit.Below W.heap.size W W'):KpB B W W':=⟨h.size,fun k c _ hr=>hr.below h⟩
theorem KpB.setRow{B:Nat}{W:World}{g:Nat}(c':Array Value)(hg:g<B):KpB B W (W.setRow g c'):=
 ⟨by rw[sSR];exact Nat.le_refl _,fun k c hk hr=>hr.set_other _ (by omega)⟩
theorem HRw.below'{w w':World}{g n:Nat}{c:Array Value}(h:HRw w g c)(hb:RowKit.Below n w w')(hn:g<n):HRw w' g c:=by
 obtain ⟨t,h⟩:=h
 exact ⟨t,(hb.block g hn).trans h⟩
structure TM (w W:World) (e:Nat) (O:Array Value) (Bo:Nat):Prop where
 k:HRw W w.heap.size (Ar e)
 r:HRw W (w.heap.size+1+1) Z12
 o:HRw W Bo O
 b:RowKit.Below w.heap.size w W
theorem TM.below{w W W':World}{e:Nat}{O:Array Value}{Bo:Nat}(h:TM w W e O Bo){n:Nat}(hb:RowKit.Below n W W')(hn:w.heap.size+1+1<n)(ho:Bo<n)(hw:w.heap.size≤n):TM w W' e O Bo:=
 ⟨h.k.below' hb (by omega),h.r.below' hb hn,h.o.below' hb ho,h.b.trans (hb.mono hw)⟩
theorem TM.alloc{w W:World}{e:Nat}{O:Array Value}{Bo:Nat}(h:TM w W e O Bo)(ob:Obj):TM w (W.alloc ob) e O Bo:=⟨h.k.old,h.r.old,h.o.old,bAl h.b _⟩
theorem wp_rowA{Q:Exit→Act→World→Prop}{o:Oper}{a:Act}{w:World}{K:Act→World→Prop}(ty:TypeId)(x:Operand)(ho:o.op=.load ty x)(g:Nat)(hx:a.eval x=.pointer (some ⟨g,0,none⟩)){c:Array Value}{d:TypeDesc}(hr:HRw w g c)(hu:Tryz.prog.underlying ty=some d)(hd:aggB d=true)(hi:(Tryz.prog.info? ty).map (·.size)=some c.size)(h:K (a.put o.dst (.agg c)) w):o.wp Tryz.prog a w K Q:=by
 obtain ⟨t,hr⟩:=hr
 have hl:=run_loadVar_row (P:=Tryz.prog) w g t ty c (0,0) d hr hu (by cases d<;>simp_all [aggB]) hi
 refine wVF (v:=.agg c) (w1:=w) ?_ h
 unfold execOp
 simp only[ho,hx,Instr.loadAt,Instr.sureAddr,Sem.run_bind,Sem.run_pure,Result.andThen_ok,hl]
abbrev FV (b:Nat):Value:=.func (.func 150) #[] #[.pointer (some ⟨b,0,none⟩),.pointer (some ⟨b+1,0,none⟩)]
theorem doubles_ex(X Y Z:Nat→Nat)(c:Nat)(w:World):Calls Tryz.prog 134 #[.agg (dv X Y Z 0),.int .i64 (c:Int)] w fun e w'=>(∃ b,e=.returned (FV b)∧HRw w' b (dv X Y Z 0)∧HRw w' (b+1) #[.int .i64 (c:Int)])∧RowKit.Below w.heap.size w w':=
 (doubles_any X Y Z c w).mono fun e w' ⟨he,hw⟩=>by
  subst hw
  exact ⟨⟨w.heap.size,he,HRw.old (HRw.last rfl),HRw.last (by simp)⟩,bAl (bAl (RowKit.Below.refl _ _) _) _⟩
structure CT (w:World) (e bo n:Nat) (X Y Z:Nat→Nat) (O:Array Value) (lz:Array Bool) (vs:Nat→Value) (w':World):Prop where
 m:TM w w' e O bo
 t:HRw w' (w.heap.size+1) (dv X Y Z 0)
 c0:lz.getD 0 false=true→vs 0=.agg (dv X Y Z 0)
 c1:lz.getD 1 false=true→vs 1=U e
 c2:lz.getD 2 false=true→vs 2=.int .i64 (n:Int)
 c3:lz.getD 3 false=true→∃ b,vs 3=FV b∧HRw w' b (dv X Y Z 0)∧HRw w' (b+1) #[.int .i64 (n:Int)]
theorem CT.below{w w' w'':World}{e bo n:Nat}{X Y Z:Nat→Nat}{O:Array Value}{l:Array Bool}{vs:Nat→Value}(h:CT w e bo n X Y Z O l vs w')(hb:RowKit.Below w'.heap.size w' w''):CT w e bo n X Y Z O l vs w'':=
 ⟨⟨h.m.k.below hb,h.m.r.below hb,h.m.o.below hb,h.m.b.trans (hb.mono h.m.b.size)⟩,h.t.below hb,h.c0,h.c1,h.c2,fun x=>by obtain ⟨b,h1,h2,h3⟩:=h.c3 x;exact ⟨b,h1,h2.below hb,h3.below hb⟩⟩
set_option maxRecDepth 100000 in
theorem times_raw(X Y Z:Nat→Nat)(n e:Nat)(hN:n≤256)(O1 O2 O3:List (Bd n)→Nat)(bt:Nat→Bool)(h0:Ds 133 #[] (A3 (O1 []) (O2 []) (O3 [])))(hn:Ds 135 #[U e] (.int .i64 (n:Int)))(hb:∀ i,i<n→Ds 136 #[U e,.int .i64 (i:Int)] (.bool (bt i)))(hD:∀ i,Ds 102 #[.agg (dv X Y Z i),.agg (dv X Y Z i)] (.agg (dv X Y Z (i+1))))(hO:∀ pre (x:Bd n),bt x.1=true→Ds 102 #[A3 (O1 pre) (O2 pre) (O3 pre),.agg (dv X Y Z x.1)] (A3 (O1 (pre++[x])) (O2 (pre++[x])) (O3 (pre++[x]))))(hK:∀ pre (x:Bd n),bt x.1=false→O1 (pre++[x])=O1 pre∧O2 (pre++[x])=O2 pre∧O3 (pre++[x])=O3 pre)(w:World) :
  Calls Tryz.prog 103 #[U e,.agg (dv X Y Z 0)] w fun r w'=>r=.returned (A3 (O1 (allB n)) (O2 (allB n)) (O3 (allB n)))∧RowKit.Below w.heap.size w w':=by
 have H0:Hid _:=h0
 have HN:Hid _:=hn
 have HB:Hid _:=hb
 have HD:Hid _:=hD
 have HO:Hid _:=hO
 have HK:Hid _:=hK
 clear h0 hn hb hD hO hK
 refine (callsIn_wide (n:=6)).1 ?_
 refine callsIn_of_wp_marks Tryz.func103 rfl trivial ?_ rfl
 simp only[Tryz.ntmps103,List.size_toArray,List.length_cons,List.length_nil,Nat.reduceAdd,Nat.reduceSub,Array.replicate_succ,Array.replicate_zero,List.push_toArray,List.append_toArray,List.nil_append,List.cons_append]
 gi_wp2_with fail
 refine ⟨trivial,(callsIn_wide.2 (H0.out _)).mono ?_⟩
 rintro e1 w1 ⟨rfl,hb1⟩
 have B1:Hid (RowKit.Below w.heap.size w w1):=RowKit.Below.trans (by repeat (first | exact RowKit.Below.refl _ _ | refine bAl ?_ _)) (hb1.mono (by simp;omega))
 have K1:Hid (HRw w1 w.heap.size (Ar e)):=HRw.below (HRw.old (HRw.old (HRw.last rfl))) hb1
 have T1:Hid (HRw w1 (w.heap.size+1) (dv X Y Z 0)):=HRw.below (HRw.old (HRw.last (by simp))) hb1
 have R1:Hid (HRw w1 (w.heap.size+1+1) Z12):=HRw.below (HRw.last (by simp)) hb1
 clear hb1
 gi_upto_region 2 with fail
 refine wpIn_wide.2 ?_
 refine name_world _ ?_
 intro w2 hw2
 have M2:Hid (TM w w2 e (T3 (O1 []) (O2 []) (O3 [])) w1.heap.size):=by rw[hw2];exact ⟨HRw.old K1.out,HRw.old R1.out,HRw.last rfl,bAl B1.out _⟩
 have T2:Hid (HRw w2 (w.heap.size+1) (dv X Y Z 0)):=by rw[hw2];exact HRw.old T1.out
 have hlo:w.heap.size+1+1<w1.heap.size:=R1.out.lt
 clear hw2 K1 R1 T1 B1
 generalize w1.heap.size=bo at *
 clear w1
 refine wRv2 (by kernel_rfl) (by kernel_rfl) (by kernel_rfl) (CT w e bo n X Y Z (T3 (O1 []) (O2 []) (O3 []))) ?_ ?_ ?_
 ·refine ⟨⟨M2.out.k,M2.out.r,M2.out.o,M2.out.b.drew⟩,T2.out,?_,?_,?_,?_⟩<;>(intro h;simp[Array.getD] at h)
 ·intro lz vs a' w' i o' hs ho hi hF cc
  have hi6:i<4:=by have:=(Array.getElem?_eq_some_iff.1 ho).1;simpa using this
  have hcase:i=0∨i=1∨i=2∨i=3:=by omega
  rcases hcase with rfl | rfl | rfl | rfl
  ·simp at ho
   subst ho
   have T:=dT lz 0
   exact wp_rowA 117 (.tmp 3) rfl (w.heap.size+1) ((hF.old (by kernel_rfl)).trans rfl) cc.t Tryz.underlying117 rfl (by kernel_rfl) ⟨_,rfl,⟨cc.m,cc.t,fun _=>rfl,fun h=>cc.c1 (T 1 (by decide) h),fun h=>cc.c2 (T 2 (by decide) h),fun h=>cc.c3 (T 3 (by decide) h)⟩⟩
  ·simp at ho
   subst ho
   have T:=dT lz 1
   exact wp_rowA 24 (.tmp 2) rfl w.heap.size ((hF.old (by kernel_rfl)).trans rfl) cc.m.k Tryz.underlying24 rfl (by kernel_rfl) ⟨_,rfl,⟨cc.m,cc.t,fun h=>cc.c0 (T 0 (by decide) h),fun _=>rfl,fun h=>cc.c2 (T 2 (by decide) h),fun h=>cc.c3 (T 3 (by decide) h)⟩⟩
  ·simp at ho
   subst ho
   have T:=dT lz 2
   have hv:=((hF.new (t:=10) (i:=1) (by kernel_rfl) (by simp) (wDn (i:=2) (j:=1) (by kernel_rfl) hi)).trans (cc.c1 (wDn (i:=2) (j:=1) (by kernel_rfl) hi)))
   refine wp_callF (f:=135) (args:=#[U e]) (v:=.int .i64 (n:Int)) (by simp[execOp_call_go,ev hv,go_sem]) (HN.out w') ?_
   intro w'' hb''
   have c2:=cc.below hb''
   exact ⟨_,rfl,⟨c2.m,c2.t,fun h=>cc.c0 (T 0 (by decide) h),fun h=>cc.c1 (T 1 (by decide) h),fun _=>rfl,fun h=>c2.c3 (T 3 (by decide) h)⟩⟩
  ·simp at ho
   subst ho
   have T:=dT lz 3
   have hv0:=((hF.new (t:=9) (i:=0) (by kernel_rfl) (by simp) (wDn (i:=3) (j:=0) (by kernel_rfl) hi)).trans (cc.c0 (wDn (i:=3) (j:=0) (by kernel_rfl) hi)))
   have hv2:=((hF.new (t:=11) (i:=2) (by kernel_rfl) (by simp) (wDn (i:=3) (j:=2) (by kernel_rfl) hi)).trans (cc.c2 (wDn (i:=3) (j:=2) (by kernel_rfl) hi)))
   have hrun : (execOp a'.eval { dst := some 12, op := .call { callee := .value (.func 134), args := #[.tmp 9, .tmp 11], argTypes := #[117, 3] }, type := 143, pos := "triple.go:61", after := #[{ on := 0, ground := .data }, { on := 2, ground := .data }, { on := 2, ground := .chain }], guard := none }).run Tryz.prog w' = .ok (.enter 134 #[.agg (dv X Y Z 0), .int .i64 (n : Int)]) w' := by simp [execOp_call_go, ev hv0, ev hv2, go_sem]
   unfold Oper.wp
   rw[hrun,Oper.upon_enter]
   refine (doubles_ex X Y Z n w').mono ?_
   rintro e7 w'' ⟨⟨b,rfl,g1,g2⟩,hb''⟩
   have c2:=cc.below hb''
   exact ⟨FV b,rfl,⟨c2.m,c2.t,fun h=>cc.c0 (T 0 (by decide) h),fun h=>cc.c1 (T 1 (by decide) h),fun h=>cc.c2 (T 2 (by decide) h),fun _=>⟨b,rfl,g1,g2⟩⟩⟩
 intro lz vs a' w5 hd hF cc
 have e0:=cc.c0 (hd 0 (by decide))
 have e1:=cc.c1 (hd 1 (by decide))
 have e2:=cc.c2 (hd 2 (by decide))
 obtain ⟨bf,e3,g1,g2⟩:=cc.c3 (hd 3 (by decide))
 have M5:Hid (TM w w5 e (T3 (O1 []) (O2 []) (O3 [])) bo):=cc.m
 have G1:Hid (HRw w5 bf (dv X Y Z 0)):=g1
 have G2:Hid (HRw w5 (bf+1) #[.int .i64 (n:Int)]):=g2
 have eZ:a'={ tmps:=#[U e,.agg (dv X Y Z 0),.pointer (some ⟨w.heap.size,0,none⟩),.pointer (some ⟨w.heap.size+1,0,none⟩),.pointer (some ⟨w.heap.size+1+1,0,none⟩),.pointer (some ⟨bo,0,none⟩),undef,undef,A3 (O1 []) (O2 []) (O3 []),.agg (dv X Y Z 0),U e,.int .i64 (n:Int),FV bf,undef,undef,undef,undef,undef,undef,undef,undef,undef],defers:=[] }:=by
  obtain ⟨vv,hvs⟩:∃ vv:Nat→Value,vs=fun j=>if j=0 then .agg (dv X Y Z 0) else if j=1 then U e else if j=2 then .int .i64 (n:Int) else if j=3 then FV bf else vv j:=by
   refine ⟨vs,?_⟩
   funext j
   by_cases h0:j=0
   ·rw[if_pos h0,h0,e0]
   ·by_cases h1:j=1
    ·rw[if_neg h0,if_pos h1,h1,e1]
    ·by_cases h2:j=2
     ·rw[if_neg h0,if_neg h1,if_pos h2,h2,e2]
     ·by_cases h3:j=3
      ·rw[if_neg h0,if_neg h1,if_neg h2,if_pos h3,h3,e3]
      ·rw[if_neg h0,if_neg h1,if_neg h2,if_neg h3]
  clear e0 e1 e2 e3 cc
  subst hvs
  exact (hF.all hd).trans (by kernel_rfl)
 subst eZ
 clear hF cc e0 e1 e2 e3 hd g1 g2 M2 T2
 have hlo5:=M5.out.o.lt
 gi_wp2_with fail
 have I0:∀ (s:List (Bd n)) (A B:World),TM w A e (T3 (O1 s) (O2 s) (O3 s)) bo→RowKit.Below w5.heap.size A B→TM w B e (T3 (O1 s) (O2 s) (O3 s)) bo:=fun s A B h hb=>h.below hb (by omega) hlo5 (by omega)
 have HI:Hid _:=I0
 clear I0
 refine range_own rfl (by decide) (gf:=150) (lb:=#[.pointer (some ⟨bf,0,none⟩),.pointer (some ⟨bf+1,0,none⟩)]) rfl trivial (enters_of Tryz.func150 (by kernel_rfl) rfl)
  (doubles_own 5 (by decide) bf (bf+1) X Y Z n hN w5 HD.out G1.out G2.out) KpB.trans (fun W l o o' _ h hc _=>KpB.put W l o o' h hc) (fun _=>rfl)
  (fun pre W=>TM w W e (T3 (O1 pre) (O2 pre) (O3 pre)) bo) HI.out M5.out
  (fun x a' W=>∃ Bx,HRw W Bx (dv X Y Z x.1)∧a'={ tmps:=#[U e,.agg (dv X Y Z 0),.pointer (some ⟨w.heap.size,0,none⟩),.pointer (some ⟨w.heap.size+1,0,none⟩),.pointer (some ⟨w.heap.size+1+1,0,none⟩),.pointer (some ⟨bo,0,none⟩),.int .i64 (x.1:Int),.pointer (some ⟨Bx,0,none⟩),A3 (O1 []) (O2 []) (O3 []),.agg (dv X Y Z 0),U e,.int .i64 (n:Int),FV bf,.int .i64 (x.1:Int),.agg (dv X Y Z x.1),undef,undef,undef,undef,undef,undef,undef],defers:=[] })
  (fun x a' _ X' Y' row hs hg hr=>by
   obtain ⟨Bx,h2,h3⟩:=hs
   refine ⟨Bx,HRw.grown h2 hg (fun e=>?_),h3⟩
   obtain ⟨_,o,ho,hc⟩:=hr _ e.symm
   obtain ⟨t,h2⟩:=h2
   rw[h2] at ho;cases ho;cases hc)
  ?assign ?body ?done
 case assign=>
  rintro l pre x W K hm hK
  have HM:Hid _:=hm
  clear hm
  gi_wp2
  exact hK _ _ ((KeepsOthers.alloc _ _).from _) (KpB.below (bAl (RowKit.Below.refl _ _) _)) (HM.out.alloc _) ⟨W.heap.size,HRw.last rfl,rfl⟩
 case body=>
  rintro l pre x a' W hl ⟨r,hr⟩ hm ⟨Bx,r2,rfl⟩ hlt
  have HM:Hid (TM w W e (T3 (O1 pre) (O2 pre) (O3 pre)) bo):=hm
  have R2:Hid (HRw W Bx (dv X Y Z x.1)):=r2
  clear hm r2 hr hlt hl
  refine wpIn_block ?_
  refine wpIn_seq ?_
  refine wpIn_region_lit ?_
  refine wpListIn_plain rfl fun K hK=>opIn_loada 24 (.tmp 2) rfl w.heap.size rfl HM.out.k Tryz.underlying24 rfl (by kernel_rfl) (hK _ _ ?_)
  clear hK K
  simp only[Act.put,List.setIfInBounds_toArray,List.set_cons_succ,List.set_cons_zero]
  gi_wp2_with fail
  refine ⟨trivial,(CallsIn.inRound l (callsIn_wide.2 (HB.out x.1 x.2 _))).mono ?_⟩
  rintro e3 W3 ⟨rfl,hb3⟩
  have M3:Hid (TM w W3 e (T3 (O1 pre) (O2 pre) (O3 pre)) bo):=⟨HM.out.k.below hb3,HM.out.r.below hb3,HM.out.o.below hb3,HM.out.b.trans (hb3.mono HM.out.b.size)⟩
  have R3:Hid (HRw W3 Bx (dv X Y Z x.1)):=R2.out.below hb3
  have B3:Hid (RowKit.Below W.heap.size W W3):=hb3
  clear hb3 HM R2
  cases hbt:bt x.1 with
  | false=>
   gi_wp2
   refine ⟨(keeps_below B3.out).from _,KpB.below B3.out,?_⟩
   obtain ⟨k1,k2,k3⟩:=HK.out pre x hbt
   rw[k1,k2,k3]
   exact M3.out
  | true=>
   gi_upto_region 6 with fail
   refine wpIn_region_lit ?_
   refine wpListIn_plain rfl fun K hK=>opIn_loada 117 (.tmp 5) rfl bo rfl M3.out.o Tryz.underlying117 rfl (by kernel_rfl) (hK _ _ ?_)
   clear hK K
   refine wpListIn_plain rfl fun K hK=>opIn_loada 117 (.tmp 7) rfl Bx rfl R3.out Tryz.underlying117 rfl (by kernel_rfl) (hK _ _ ?_)
   clear hK K
   simp only[Act.put,List.setIfInBounds_toArray,List.set_cons_succ,List.set_cons_zero]
   gi_wp2_with fail
   refine ⟨trivial,(CallsIn.inRound l (callsIn_wide.2 (HO.out pre x hbt _))).mono ?_⟩
   rintro e4 W4 ⟨rfl,hb4⟩
   have M4:Hid (TM w W4 e (T3 (O1 pre) (O2 pre) (O3 pre)) bo):=⟨M3.out.k.below hb4,M3.out.r.below hb4,M3.out.o.below hb4,M3.out.b.trans (hb4.mono M3.out.b.size)⟩
   have B4:Hid (RowKit.Below W.heap.size W W4):=B3.out.trans (hb4.mono B3.out.size)
   clear hb4 M3 R3 B3
   rename_i Kc hKc
   refine hKc _ _ ?_
   refine wpListIn_plain rfl fun K hK=>opIn_storea 117 (.tmp 5) (.tmp 20) rfl bo rfl rfl M4.out.o rfl (by simp[Value.oneCell']) (by kernel_rfl) (hK _ _ ?_)
   clear hK K
   simp only[Act.put]
   gi_wp2
   have mo:=M4.out
   refine ⟨((keeps_below B4.out).trans (keeps_setRow mo.o _)).from _,(KpB.below B4.out).trans (KpB.setRow _ hlo5),?_⟩
   exact ⟨mo.k.set_other _ (by omega),mo.r.set_other _ (by omega),mo.o.set_same _,bSR mo.b (by omega) _⟩
 case done=>
  rintro D W hD hm hK
  have HM:Hid (TM w W e (T3 (O1 (allB n)) (O2 (allB n)) (O3 (allB n))) bo):=hm
  have HK2:Hid (W.heap[D]? = some (.deferred (some []))):=hK
  clear hm hK
  gi_upto_region 7 with fail
  refine wpIn_region_lit ?_
  refine wpListIn_plain rfl fun K hK=>opIn_loada 117 (.tmp 5) rfl bo rfl HM.out.o Tryz.underlying117 rfl (by kernel_rfl) (hK _ _ ?_)
  clear hK K
  simp only[Act.put,List.setIfInBounds_toArray,List.set_cons_succ,List.set_cons_zero]
  refine wpListIn_plain rfl fun K hK=>opIn_storea 117 (.tmp 4) (.tmp 21) rfl (w.heap.size+1+1) rfl rfl HM.out.r rfl (by simp[Value.oneCell']) (by kernel_rfl) (hK _ _ ?_)
  clear hK K
  simp only[Act.put]
  gi_wp2
  have mo:=HM.out
  have hK:=HK2.out
  have hDlt:D<W.heap.size:=(Array.getElem?_eq_some_iff.1 hK).1
  have hne:¬ w.heap.size+1+1=D:=by omega
  have hK1:(W.setRow (w.heap.size+1+1) (T3 (O1 (allB n)) (O2 (allB n)) (O3 (allB n)))).heap[D]? = some (.deferred (some [])):=by
   simp only[World.setRow,Array.getElem?_modify,hne,if_false]
   exact hK
  have hr:=mo.r.set_same (T3 (O1 (allB n)) (O2 (allB n)) (O3 (allB n)))
  have hb2:=bSR mo.b (g:=w.heap.size+1+1) (by omega) (T3 (O1 (allB n)) (O2 (allB n)) (O3 (allB n)))
  generalize W.setRow (w.heap.size+1+1) (T3 (O1 (allB n)) (O2 (allB n)) (O3 (allB n)))=V at *
  refine ⟨by simp,.inl ⟨_,_,rfl,run_takeDeferred hK1,?_⟩⟩
  have hr2:HRw (V.putObj D (.deferred none)) (w.heap.size+1+1) (T3 (O1 (allB n)) (O2 (allB n)) (O3 (allB n))):=by
   obtain ⟨t,h⟩:=hr
   exact ⟨t,(World.putObj_heap_other (by omega)).trans h⟩
  exact ⟨_,resA (p:=4) (ty:=117) rfl (g:=w.heap.size+1+1) rfl hr2 Tryz.underlying117 rfl (by kernel_rfl),rfl,hb2.trans (below_putObj _ _ (by omega))⟩
end
end Go.Proofs.YtfhppenjbmmadaaGreatDoor
