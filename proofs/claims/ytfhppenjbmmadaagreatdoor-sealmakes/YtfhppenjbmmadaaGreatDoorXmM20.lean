import Derived.Test.YtfhppenjbmmadaaGreatDoorXmM19
import Derived.RangeFuncNested
import Derived.RangeFuncBound
import Derived.RangeFuncCalls
import Derived.RangeFuncLeaves
import Derived.Shelf.Abstract
import Derived.Shelf.RegionOpen
import Derived.OwnWalkIn
import Derived.TacticsInMore
import Derived.LoopNIn
import Derived.LoopIn
import Derived.Scope
namespace Go.Proofs.YtfhppenjbmmadaaGreatDoor
set_option linter.unusedVariables false
set_option maxHeartbeats 8000000
section
open Go.RowKit Go.Sort Go.Shelf
section
variable {P:Program} {ops:Array Oper} {Q:Exit→Act→World→Prop} {l n:Nat}
theorem rowsIn_round{row:String}{args:Array Value}{w:World}{R:Value→World→Prop}(h:Go.Rows P row args w R):RowsIn (Fence.wide.inRound l) n P row args w R:=by
 intro c cs _
 obtain ⟨v,w',r,s⟩:=h c cs
 exact ⟨v,w',r,stepsIn_wide.2 s⟩
theorem wp_round{o:Oper}{a:Act}{w:World}{K:Act→World→Prop}(hd:∀ c,o.op≠.defer c)(h:o.wp P a w K Q):o.wpIn (Fence.wide.inRound l) n P a w K Q:=by
 unfold Oper.wpIn
 refine ⟨fun _ _=>trivial,?_⟩
 rw[Oper.semAt_eq _ _ _ hd]
 unfold Oper.wp at h
 generalize (execOp a.eval o).run P w=r at h
 cases r with
 | ok x w'=>
  cases x with
  | enter f args=>exact ⟨fun h=>by simp[Fence.wide] at h,CallsIn.inRound l (callsIn_wide.2 h)⟩
  | row r args=>exact ⟨fun h=>by simp[Fence.wide] at h,rowsIn_round h⟩
  | value v=>exact h
  | skip=>exact h
  | defer d=>exact h
  | _=>exact h.elim
 | halt x w'=>cases x<;>first | exact h | exact h.elim
theorem noDef_at(h:noDefB ops=true){i:Nat}{o:Oper}(ho:ops[i]? = some o):∀ c,o.op≠.defer c:=by
 intro c hc
 have h1:=(Array.all_eq_true_iff_forall_mem.1 h) o (Array.mem_of_getElem? ho)
 rw[hc] at h1
 cases h1
theorem anyIn_inv(hn:noDefB ops=true)(I:Array Bool→Act→World→Prop)(hstep:∀ (lz:Array Bool) (a':Act) (w':World) (i:Nat) (o:Oper),lz.size=ops.size→ops[i]? = some o→I lz a' w'→i∈Region.ready .any ops lz→wpG ops o P a' w' (fun a'' w''=>I (lz.setIfInBounds i true) a'' w'') Q)(hend:∀ lz a w,lz.size=ops.size→I lz a w→Region.ready .any ops lz=[]→Q .normal a w) :
  ∀ (fuel:Nat) (lz:Array Bool) (a:Act) (w:World),lz.size=ops.size→lz.toList.count false≤fuel→I lz a w→wpAnyIn (Fence.wide.inRound l) n P .any ops Q fuel lz a w
 | 0,lz,a,w,hs,hc,hI=>by
  have hr:Region.ready .any ops lz=[]:=by
   rw[List.eq_nil_iff_forall_not_mem]
   intro j hj
   obtain ⟨hun,o,ho,_⟩:=mem_ready.1 hj
   have hjs:j<lz.size:=by have:=(Array.getElem?_eq_some_iff.1 ho).1;omega
   have h1:lz[j]? = some false:=by
    rw[Array.getElem?_eq_getElem hjs]
    simp[Array.getD,hjs] at hun
    rw[hun]
   have h2:=count_set lz.toList j (by simpa using h1)
   omega
  exact ⟨hr,hend lz a w hs hI hr⟩
 | fuel+1,lz,a,w,hs,hc,hI=>by
  refine ⟨fun hr=>hend lz a w hs hI hr,fun i hi=>?_⟩
  obtain ⟨hun,o,ho,_⟩:=mem_ready.1 hi
  have hjs:i<lz.size:=by have:=(Array.getElem?_eq_some_iff.1 ho).1;omega
  have h1:lz[i]? = some false:=by
   rw[Array.getElem?_eq_getElem hjs]
   simp[Array.getD,hjs] at hun
   rw[hun]
  have h2:=count_set lz.toList i (by simpa using h1)
  have h:=wpG_mono (fun a' w' h'=>anyIn_inv hn I hstep hend fuel _ a' w' (by simpa using hs) (by rw[Array.toList_setIfInBounds];omega) h') (hstep lz a w i o hs ho hI hi)
  unfold wpOpIn
  rw[ho]
  unfold wpG at h
  simp only[]
  split
  ·next hw=>rw[if_pos hw] at h;exact wp_round (noDef_at hn ho) h
  ·next hw=>rw[if_neg hw] at h;exact ⟨fun _ _=>trivial,h⟩
theorem listIn_inv(hn:noDefB ops=true)(hb:backB2 ops=true)(I:Array Bool→Act→World→Prop)(hstep:∀ (lz:Array Bool) (a':Act) (w':World) (i:Nat) (o:Oper),lz.size=ops.size→ops[i]? = some o→I lz a' w'→i∈Region.ready .any ops lz→wpG ops o P a' w' (fun a'' w''=>I (lz.setIfInBounds i true) a'' w'') Q)(hend:∀ (lz:Array Bool) (a:Act) (w:World),lz.size=ops.size→(∀ i,i<ops.size→lz.getD i false=true)→I lz a w→Q .normal a w) :
  ∀ (l':List Oper) (k:Nat) (lz:Array Bool) (a:Act) (w:World),l'=ops.toList.drop k→lz.size=ops.size→(∀ i,i<ops.size→lz.getD i false=decide (i<k))→I lz a w→wpListIn (Fence.wide.inRound l) n P ops Q l' a w
 | [],k,lz,a,w,hl,hs,hd,hI=>by
  refine wpListIn_nil (hend lz a w hs (fun i hi=>?_) hI)
  have hk:ops.size≤k:=by
   have:=congrArg List.length hl
   simp at this
   omega
  rw[hd i hi]
  exact decide_eq_true (by omega)
 | o::rest,k,lz,a,w,hl,hs,hd,hI=>by
  have hk:k<ops.size:=by
   have:=congrArg List.length hl
   simp at this
   omega
  have hcons:=List.drop_eq_getElem_cons (l:=ops.toList) (i:=k) (by simpa using hk)
  rw[hcons] at hl
  obtain ⟨h1,h2⟩:=List.cons.inj hl
  have ho:ops[k]? = some o:=by rw[h1];simp[hk]
  have hr:k∈Region.ready .any ops lz:=by
   refine mem_ready.2 ⟨?_,o,ho,fun e he hbd=>?_⟩
   ·have h3:=hd k hk
    have hk':k<lz.size:=by omega
    simp[Array.getD,hk'] at h3 ⊢
    exact h3
   ·have h3:=(List.all_eq_true.1 hb) k (by simpa using hk)
    simp only[ho] at h3
    have h4:=(Array.all_eq_true_iff_forall_mem.1 h3) e he
    have h5:e.on<k:=by simpa [hbd] using h4
    rw[hd _ (by omega)]
    exact decide_eq_true h5
  have h:=wpG_mono (fun a' w' h=>listIn_inv hn hb I hstep hend rest (k+1) _ a' w' h2 (by simpa using hs) (fun i hi=>by
   have hi':i<lz.size:=by omega
   by_cases e:i=k
   ·subst e
    simp[Array.getD,hi']
   ·have:=hd i hi
    simp[Array.getD,hi'] at this ⊢
    rw[Array.getElem_setIfInBounds_ne hi' (fun h=>e h.symm),this]
    exact decide_eq_decide.2 ⟨fun h=>by omega,fun h=>by omega⟩) h) (hstep lz a w k o hs ho hI hr)
  refine wpListIn_step fun K hK=>?_
  unfold wpG at h
  split
  ·next hw=>rw[if_pos hw] at h;exact wp_round (noDef_at hn ho) (Oper.wp_mono hK h)
  ·next hw=>rw[if_neg hw] at h;exact ⟨fun _ _=>trivial,hK _ _ h⟩
theorem RegV.round{id:Nat}{d:Bool}{a:Act}{w:World}(hm:P.follows .mixedOrders=true)(h:RegV P ops Q a w)(hn:noDefB ops=true):(Code.region id ops d).wpIn (Fence.wide.inRound l) n P Q a w:=by
 obtain ⟨hb,I,h0,step,hend⟩:=h
 cases d with
 | true=>exact wpIn_region_any hm (anyIn_inv hn I step (fun lz a' w' hs hI hr=>hend lz a' w' hs (all_done2 hb hs hr) hI) _ _ _ _ (by simp) (by simp) (h0 _ (.inr rfl)))
 | false=>
  exact wpIn_region_list (listIn_inv hn hb I step hend ops.toList 0 (Array.replicate ops.size false) a w rfl (by simp) (fun i hi=>by simp[Array.getD,hi]) (h0 _ (.inl rfl)))
end
theorem rnd_round{P:Program}{l n:Nat}{c:Code}{Q:Exit→Act→World→Prop}:∀ m,rndW (fun c Q a w=>c.wpIn (Fence.wide.inRound l) n P Q a w) c Q m=Code.roundsIn (Fence.wide.inRound l) n P c Q m
 | 0=>rfl
 | m+1=>by
  funext a w
  show c.wpIn _ n P (Exit.then (rndW (fun c Q a w=>c.wpIn (Fence.wide.inRound l) n P Q a w) c Q m) Q) a w=c.wpIn _ n P (Exit.then (Code.roundsIn (Fence.wide.inRound l) n P c Q m) Q) a w
  rw[rnd_round m]
def Lg.round {P:Program} (hm:P.follows .mixedOrders=true) (l n:Nat):Lg P where
 wp c Q a w:=c.wpIn (Fence.wide.inRound l) n P Q a w
 skip:=wpIn_skip
 ret:=wpIn_ret
 exit:=wpIn_exit
 region h:=h.1.round hm h.2
 seq:=wpIn_seq
 condT:=wpIn_cond_true
 condF:=wpIn_cond_false
 block:=wpIn_block
 loop m h:=wpIn_loop_rounds m (by rw[← rnd_round m];exact h)
def numR:Nat→List (Nat×Array Value)→Rows
 | _,[]=>[]
 | n,p::rs=>(n,p.2)::numR (n+1) rs
def bOf (rs:List (Nat×Array Value)) (i:Nat):Nat:=match rs[i]? with
 | some p=>p.1
 | none=>0
theorem numR_mem:∀ {rs:List (Nat×Array Value)} {n:Nat} {q:Nat×Array Value},q∈numR n rs→∃ i g,rs[i]? = some (g,q.2)∧q.1=n+i
 | [],n,q,h=>by simp[numR] at h
 | p::rs,n,q,h=>by
  simp only[numR,List.mem_cons] at h
  rcases h with rfl | h
  ·exact ⟨0,p.1,rfl,rfl⟩
  ·obtain ⟨i,g,h1,h2⟩:=numR_mem h
   exact ⟨i+1,g,by simpa using h1,by omega⟩
theorem inv_of{w0 w:World}{a:Act}{tm:Vs}(rs:List (Nat×Array Value))(hfr:a.tmps=(tm.map (upO (bOf rs))).toArray)(bw:RowKit.Below w0.heap.size w0 w)(hrows:RA w rs)(hlo:∀ p∈rs,w0.heap.size≤p.1)(hne:(rs.map (·.1)).Nodup):Inv (w,rs.length,bOf rs,a.defers) w0 (bOf rs) tm (numR 0 rs) rs.length a w:=by
 have hb:∀ {i g c},rs[i]? = some (g,c)→bOf rs i=g:=fun h=>by unfold bOf;rw[h]
 refine ⟨hfr,rfl,bw,?_,?_,?_,?_,⟨Nat.le_refl _,fun k o h _=>h⟩,Nat.le_refl _,fun _ _=>rfl⟩
 ·intro p hp
  obtain ⟨i,g,h1,h2⟩:=numR_mem hp
  rw[h2,Nat.zero_add,hb h1]
  exact hrows.get i g p.2 h1
 ·intro p hp
  obtain ⟨i,g,h1,h2⟩:=numR_mem hp
  rw[h2,Nat.zero_add,hb h1]
  exact hlo _ (List.mem_of_getElem? h1)
 ·intro p hp
  obtain ⟨i,g,h1,h2⟩:=numR_mem hp
  rw[h2,Nat.zero_add]
  exact (List.getElem?_eq_some_iff.1 h1).1
 ·intro p hp q hq hpq
  obtain ⟨i,g,h1,h2⟩:=numR_mem hp
  obtain ⟨j,g',h3,h4⟩:=numR_mem hq
  rw[h2,h4,Nat.zero_add,Nat.zero_add,hb h1,hb h3]
  intro e
  subst e
  have hij:i≠j:=fun e=>hpq (by rw[h2,h4,e])
  have k1:(rs.map (·.1))[i]? = some g:=by rw[List.getElem?_map,h1];rfl
  have k2:(rs.map (·.1))[j]? = some g:=by rw[List.getElem?_map,h3];rfl
  obtain ⟨m1,m2⟩:=List.getElem?_eq_some_iff.1 k1
  obtain ⟨m3,m4⟩:=List.getElem?_eq_some_iff.1 k2
  exact hij ((List.getElem_inj hne).1 (m2.trans m4.symm))
theorem rows_map{w:World}{f:Nat→Nat}:∀ {ids:List (Nat×Array Value)},(∀ p∈ids,HRw w (f p.1) p.2)→RA w (ids.map fun p=>(f p.1,p.2))
 | [],_=>trivial
 | p::ids,h=>⟨h p List.mem_cons_self,rows_map fun q hq=>h q (List.mem_cons_of_mem _ hq)⟩
theorem roB{P:Program}{T:World→Prop}(L:Lg P)(fs:Fq P T){c:Code}{Q:Exit→Act→World→Prop}{w0 w:World}{a:Act}{κ:World×Nat×(Nat→Nat)×List Deferred}{tm:Vs}{rows:Rows}{nx:Nat}{β:Nat→Nat}(I:Inv κ w0 β tm rows nx a w)(hT:∀ w',RowKit.Below w0.heap.size w0 w'→T w')(ex:Exit)(ids:List (Nat×Array Value))(ts:List (Nat×SV))(hi:∀ p∈ids,p.1<κ.2.1)(hK:∀ a' w',a'.defers=κ.2.2.2→(∀ p∈ts,a'.tmps.getD p.1 undef=up κ.2.2.1 p.2)→RowKit.Below w0.heap.size w0 w'→KO κ.1 w'→RA w' (ids.map fun p=>(κ.2.2.1 p.1,p.2))→Q ex a' w')(hm:P.follows .mixedOrders=true:=by kernel_rfl)(ht:idsB (ts.map fun p=>some p.2) κ.2.1=true:=by kernel_rfl)(hs:(runC P T (foV P) (ioV P) (zeV P) c fs (tm,rows,nx)).isSome=true:=by kernel_rfl)(h:(runC P T (foV P) (ioV P) (zeV P) c fs (tm,rows,nx)).map (fun r=>(r.1,ids.map (fun p=>rowOf r.2.1.2.1 p.1),ts.map (fun p=>(r.2.1.1[p.1]?).join),r.2.2.2.1.map (·.1),r.2.2.2.2.isEmpty))=(runC P T (foV P) (ioV P) (zeV P) c fs (tm,rows,nx)).map (fun r=>(ex,ids.map (fun p=>some p.2),ts.map (fun p=>some p.2),r.2.2.2.1.map (·.2),true)):=by kernel_rfl) :
  L.wp c Q a w:=by
 cases hr:runC P T (foV P) (ioV P) (zeV P) c fs (tm,rows,nx) with
 | none=>rw[hr] at hs;cases hs
 | some r=>
  obtain ⟨ex',st',q',e⟩:=r
  rw[hr] at h
  simp only[Option.map_some,Option.some.injEq,Prod.mk.injEq,List.isEmpty_iff] at h
  obtain ⟨rfl,h1,h0,h2,h3⟩:=h
  refine runC_ok L (ty_ok hm) hT hr ⟨eqs_of h2,fun p hp=>by rw[h3] at hp;cases hp⟩ I fun β' a' w' I'=>hK a' w' I'.df (fun p hp=>?_) I'.bw I'.kx.1 ?_
  ·obtain ⟨i,hi⟩:=List.mem_iff_getElem?.1 hp
   have:=congrArg (·[i]?) h0
   simp only[List.getElem?_map,hi,Option.map_some,Option.some.injEq] at this
   exact (tm_get I'.fr this).trans (upO_agree ht (fun j hj=>I'.kx.2.2 j hj) (t:=i) (s:=some p.2) (by rw[List.getElem?_map,hi];rfl))
  have hrow:∀ p∈ids,HRw w' (κ.2.2.1 p.1) p.2:=by
   intro p hp
   have h4:rowOf st'.2.1 p.1=some p.2:=by
    obtain ⟨i,hi⟩:=List.mem_iff_getElem?.1 hp
    have:=congrArg (·[i]?) h1
    simp only[List.getElem?_map,hi,Option.map_some,Option.some.injEq] at this
    exact this
   rw[← I'.kx.2.2 p.1 (hi p hp)]
   exact I'.row _ (rowOf_mem h4)
  exact rows_map hrow
theorem KO.from{w w':World}(h:KO w w')(B:Nat):KeepsFrom B w w':=⟨h.1,fun k o _ hk ho=>h.2 k o hk fun c t e=>by subst e;cases ho⟩
theorem belowPut{B:Nat}(W:World){l:Nat}(o:Obj)(h:B≤l):RowKit.Below B W (W.putObj l o):=
 ⟨rfl,rfl,rfl,by simp[World.putObj],fun k hk=>World.putObj_heap_other (by omega)⟩
theorem HRw.putObj{w:World}{g l:Nat}{c:Array Value}{o o':Obj}(h:HRw w g c)(hl:w.heap[l]? = some o)(ho:o.isCells=false):HRw (w.putObj l o') g c:=by
 obtain ⟨t,h⟩:=h
 refine ⟨t,(World.putObj_heap_other ?_).trans h⟩
 rintro rfl
 rw[h] at hl;cases hl;cases ho
def KpN (N:Nat) (W W':World):Prop:=W.heap.size≤W'.heap.size∧∀ k,k<N→W'.heap[k]? = W.heap[k]?
theorem KpN.trans{N:Nat}{A B C:World}(h:KpN N A B)(k:KpN N B C):KpN N A C:=⟨Nat.le_trans h.1 k.1,fun i hi=>(k.2 i hi).trans (h.2 i hi)⟩
theorem KpN.put{N:Nat}(W:World){l:Nat}(o:Obj)(h:N≤l):KpN N W (W.putObj l o):=⟨by simp[World.putObj],fun k hk=>World.putObj_heap_other (by omega)⟩
theorem KpN.of{w A B:World}(h:RowKit.Below w.heap.size w A)(k:RowKit.Below w.heap.size w B)(hs:A.heap.size≤B.heap.size):KpN w.heap.size A B:=⟨hs,fun i hi=>(k.block i hi).trans (h.block i hi).symm⟩
def SeqN (n:Nat) (P:Program) (g:Nat) (lb:Array Value) (encs:Nat→Array Value) (Kp:World→World→Prop) (N:Nat) (w:World):Prop:=
 ∀ (l:Nat) (J:Nat→World→Prop) (Jx:World→Prop) (W:World),RowKit.Below w.heap.size w W→(∀ i A B,J i A→RowKit.Below W.heap.size A B→J i B)→(∀ A B,Jx A→RowKit.Below W.heap.size A B→Jx B) →
  (∀ i W1,i<N→J i W1→YieldAt Fence.wide (n-1) P l (encs i) W1 fun e W'=>(e=.returned (.bool true)∧J (i+1) W'∧Kp W1 W')∨(e=.returned (.bool false)∧Jx W')) →
  J 0 W→CallsIn Fence.wide n P g (#[.func (.yield l) #[] #[]]++lb) W fun e W'=>(∃ v,e=.returned v)∧(J N W'∨Jx W')
def postN (B:Nat) (Kp:World→World→Prop) (I:Nat→World→Prop) (Ix:Code→World→Prop) (i:Nat) (W:World):Exit→Act→World→Prop
 | .normal,_,W'=>KeepsFrom B W W'∧Kp W W'∧I (i+1) W'
 | .ret,_,W'=>KeepsFrom B W W'∧Ix .ret W'
 | .exit id,_,W'=>KeepsFrom B W W'∧Ix (.exit id) W'
 | .goto t,_,W'=>KeepsFrom B W W'∧Ix (.goto t) W'
 | .panic _,_,_=>False
 | .outgrown,_,_=>False
theorem range_seq{P:Program}{n:Nat}{g:Operand}{ps:Array Tmp}{assign body:Code}{Q:Exit→Act→World→Prop}{a:Act}{w:World}(h1:1≤n){gf:Nat}{lb:Array Value}(hg:a.eval g=.func (.func gf) #[] lb)(eg:∀ args w,(callFunc gf args).run P w=.ok (.enter gf args) w){encs:Nat→Array Value}{Kp:World→World→Prop}{N:Nat}(hseq:SeqN (n-1) P gf lb encs Kp N w)(hKt:∀ {A B C:World},Kp A B→Kp B C→Kp A C)(hKb:∀ (W:World) (l:Nat) (o:Obj),w.heap.size≤l→Kp W (W.putObj l o))(hps:∀ i,(encs i).size=ps.size)(I:Nat→World→Prop)(Ix:Code→World→Prop)(hI:∀ i A B,I i A→RowKit.Below w.heap.size A B→I i B)(hIx:∀ c A B,Ix c A→RowKit.Below w.heap.size A B→Ix c B)(h0:I 0 w)(Ax:Nat→Act→World→Prop)(hAx:∀ i a' W l o o',W.heap[l]? = some o→o.isCells=false→Ax i a' W→Ax i a' (W.putObj l o'))(hassign:∀ (l i:Nat) (W:World) (K:Act→World→Prop),i<N→I i W→(∀ a' W',KeepsFrom w.heap.size W W'→Kp W W'→I i W'→Ax i a' W'→K a' W') →
   assign.wpIn (Fence.wide.inRound l) (n-1-1) P (Exit.then K (fun _ _ _=>False)) { tmps:=(ps.zip (encs i)).foldl (fun t (p,v)=>t.setIfInBounds p v) a.tmps,defers:=[] } W)(hbody:∀ (l i:Nat) (a':Act) (W:World),i<N→I i W→Ax i a' W→body.wpIn (Fence.wide.inRound l) (n-1-1) P (postN w.heap.size Kp I Ix i W) a' W)(hdone:∀ (D:Nat) (W:World),w.heap.size≤D→I N W→W.heap[D]? = some (.deferred (some []))→Q .normal { a with defers:={ target:=.collected D,args:=#[] }::a.defers } W)(hstop:∀ (D:Nat) (c:Code) (W:World),w.heap.size≤D→Ix c W→W.heap[D]? = some (.deferred (some []))→c.wpIn Fence.wide n P Q { a with defers:={ target:=.collected D,args:=#[] }::a.defers } W) :
  (Code.rangeFunc g ps assign body).wpIn Fence.wide n P Q a w:=by
 refine wpIn_rangeFunc ?_
 intro fn hfn
 rw[Fence.wide_round]
 obtain ⟨rec,hrec⟩:∃ rec:LoopState→Option Code→Loop,rec=fun st pe=>{ state:=st,pending:=pe,fn,tmps:=a.tmps,params:=ps,assign,body,defers:=w.heap.size }:=⟨_,rfl⟩
 obtain ⟨W1,hW1⟩:∃ W1,(w.alloc (.deferred (some []))).alloc (.loop (rec .ready none))=W1:=⟨_,rfl⟩
 have hs1:W1.heap.size=w.heap.size+1+1:=by rw[← hW1];simp
 have hL1:W1.heap[w.heap.size+1]? = some (.loop (rec .ready none)):=by
  rw[← hW1];have:=World.alloc_heap_new (w.alloc (.deferred (some []))) (.loop (rec .ready none));rwa [World.size_alloc] at this
 have hK1:W1.heap[w.heap.size]? = some (.deferred (some [])):=by
  rw[← hW1];exact (Below.heap_alloc _ _ _ (by simp)).trans (World.alloc_heap_new w _)
 have hb1:RowKit.Below w.heap.size w W1:=by
  rw[← hW1];exact ((RowKit.Below.refl _ w).alloc (Nat.le_refl _) _).alloc (by simp) _
 refine ⟨w.heap.size+1,[{ target:=.collected w.heap.size,args:=#[] }],W1,{ target:=.fn (.func gf) lb,args:=#[.func (.yield (w.heap.size+1)) #[] #[]] },W1,gf,
  #[.func (.yield (w.heap.size+1)) #[] #[]]++lb,W1,?_,?_,?_,?_,fun _=>h1,?_⟩
 ·rw[← hW1,hrec];exact run_enterLoop_outer _ _ _ _ _
 ·simp only[resolve,hg]
  simp[go_sem]
 ·intro f' _;exact trivial
 ·simp[invoke,go_sem,eg]
 ·refine (hseq (w.heap.size+1)
   (fun i W=>I i W∧W.heap[w.heap.size+1]? = some (.loop (rec .ready none))∧W.heap[w.heap.size]? = some (.deferred (some [])))
   (fun W=>∃ c,Ix c W∧W.heap[w.heap.size+1]? = some (.loop (rec .done (some c)))∧W.heap[w.heap.size]? = some (.deferred (some [])))
   W1 hb1 (fun i A B hs hb=>⟨hI i A B hs.1 (hb.mono (by omega)),(hb.block _ (by omega)).trans hs.2.1,(hb.block _ (by omega)).trans hs.2.2⟩)
   (fun A B hs hb=>by obtain ⟨c,h1,h2,h3⟩:=hs;exact ⟨c,hIx c A B h1 (hb.mono (by omega)),(hb.block _ (by omega)).trans h2,(hb.block _ (by omega)).trans h3⟩) ?_ ⟨hI _ _ _ h0 hb1,hL1,hK1⟩).mono ?_
  ·rintro i W hiN ⟨hi,hl,hk⟩
   have hy:=run_yield (P:=P) (args:=encs i) hl (by rw[hrec];exact hps i)
   rw[hrec] at hy
   refine ⟨fn,_,assign,body,hy,roundIn_of_wpIn hfn (hassign _ i W _ hiN hi ?_)⟩
   clear hy
   intro a' Wa hkfa hkpa hia hax
   replace hl:=hkfa.same _ _ (by omega) hl rfl
   replace hk:=hkfa.same _ _ (Nat.le_refl _) hk rfl
   have hlt:w.heap.size+1<Wa.heap.size:=(Array.getElem?_eq_some_iff.1 hl).1
   refine ⟨_,run_beginRound hl (by rw[hrec]),?_⟩
   have hl2:(Wa.putObj (w.heap.size+1) (.loop { rec .ready none with state:=.busy })).heap[w.heap.size+1]? = some (.loop { rec .ready none with state:=.busy }):=World.putObj_heap_same hlt
   have hk2:(Wa.putObj (w.heap.size+1) (.loop { rec .ready none with state:=.busy })).heap[w.heap.size]? = some (.deferred (some [])):=(World.putObj_heap_other (by omega)).trans hk
   refine wpIn_mono (hbody _ i a' _ hiN (hI _ _ _ hia (belowPut _ _ (by omega))) (hAx i a' _ _ _ _ hl rfl hax)) ?_
   have fin:∀ (jump:Option Code) (W3:World),KeepsFrom w.heap.size (Wa.putObj (w.heap.size+1) (.loop { rec .ready none with state:=.busy })) W3 →
     (Instr.endRound (w.heap.size+1) jump).run P W3=.ok (.bool jump.isNone) (W3.putObj (w.heap.size+1) (.loop (rec (if jump.isNone then .ready else .done) jump))) ∧
     (W3.putObj (w.heap.size+1) (.loop (rec (if jump.isNone then .ready else .done) jump))).heap[w.heap.size+1]? = some (.loop (rec (if jump.isNone then .ready else .done) jump)) ∧
     (W3.putObj (w.heap.size+1) (.loop (rec (if jump.isNone then .ready else .done) jump))).heap[w.heap.size]? = some (.deferred (some [])):=fun jump W3 hk3=>by
    have hl3:=hk3.same _ _ (by omega) hl2 rfl
    have:=run_endRound (P:=P) jump hl3
    rw[hrec] at this ⊢
    exact ⟨this,World.putObj_heap_same (Array.getElem?_eq_some_iff.1 hl3).1,(World.putObj_heap_other (by omega)).trans (hk3.same _ _ (Nat.le_refl _) hk2 rfl)⟩
   rintro e a3 W3 hp
   cases e with
   | normal=>
    obtain ⟨hk3,hkp3,hi3⟩:=hp
    obtain ⟨hr,hl4,hk4⟩:=fin none W3 hk3
    exact ⟨_,_,hr,.inl ⟨rfl,⟨hI _ _ _ hi3 (belowPut _ _ (by omega)),hl4,hk4⟩,hKt hkpa (hKt (hKt (hKb _ _ _ (by omega)) hkp3) (hKb _ _ _ (by omega)))⟩⟩
   | ret=>
    obtain ⟨hk3,hi3⟩:=hp
    obtain ⟨hr,hl4,hk4⟩:=fin (some .ret) W3 hk3
    exact ⟨_,_,hr,.inr ⟨rfl,.ret,hIx _ _ _ hi3 (belowPut _ _ (by omega)),hl4,hk4⟩⟩
   | exit id=>
    obtain ⟨hk3,hi3⟩:=hp
    obtain ⟨hr,hl4,hk4⟩:=fin (some (.exit id)) W3 hk3
    exact ⟨_,_,hr,.inr ⟨rfl,.exit id,hIx _ _ _ hi3 (belowPut _ _ (by omega)),hl4,hk4⟩⟩
   | goto t=>
    obtain ⟨hk3,hi3⟩:=hp
    obtain ⟨hr,hl4,hk4⟩:=fin (some (.goto t)) W3 hk3
    exact ⟨_,_,hr,.inr ⟨rfl,.goto t,hIx _ _ _ hi3 (belowPut _ _ (by omega)),hl4,hk4⟩⟩
   | panic ch=>exact hp.elim
   | outgrown=>exact hp.elim
  ·rintro e W2 ⟨⟨v,rfl⟩,(⟨hi,hl,hk⟩ | ⟨c,hi,hl,hk⟩)⟩
   ·exact ⟨none,_,by have:=run_endLoop (P:=P) hl (by rw[hrec];simp);rw[hrec] at this;exact this,hdone _ _ (Nat.le_refl _) (hI _ _ _ hi (belowPut _ _ (by omega))) ((World.putObj_heap_other (by omega)).trans hk)⟩
   ·exact ⟨some c,_,by have:=run_endLoop (P:=P) hl (by rw[hrec];simp);rw[hrec] at this;exact this,hstop _ c _ (Nat.le_refl _) (hIx _ _ _ hi (belowPut _ _ (by omega))) ((World.putObj_heap_other (by omega)).trans hk)⟩
end
section
open Go.RowKit Go.Sort Go.Shelf
theorem wpIn_scope{n:Nat}{P:Program}{c:Code}{Q:Exit→Act→World→Prop}{a:Act}{w:World}(h:c.wpIn Fence.wide n P (Exit.noGoto Q) a w):(Code.scope c).wpIn Fence.wide n P Q a w:=wpIn_wide.2 (wp_scope_straight (wpIn_wide.1 h))
theorem name_worldIn{F:Fence}{n:Nat}{P:Program}{c:Code}{Q:Exit→Act→World→Prop}{a:Act}(w:World)(h:∀ w',w'=w→c.wpIn F n P Q a w'):c.wpIn F n P Q a w:=h w rfl
section
variable {P:Program} {ops:Array Oper} {Q:Exit→Act→World→Prop} {n:Nat}
def wpGI (n:Nat) (ops:Array Oper) (o:Oper) (P:Program) (a:Act) (w:World) (K:Act→World→Prop) (Q:Exit→Act→World→Prop):Prop:=
 if Region.wanted o (yielded ops a.tmps)=true then o.wpIn Fence.wide n P a w K Q else K (a.put o.dst undef) w
theorem wpGI_mono{o:Oper}{a:Act}{w:World}{K K':Act→World→Prop}(h:∀ a w,K a w→K' a w)(hh:wpGI n ops o P a w K Q):wpGI n ops o P a w K' Q:=by
 unfold wpGI at *
 split
 ·next hw=>rw[if_pos hw] at hh;exact Oper.wpIn_mono h hh
 ·next hw=>rw[if_neg hw] at hh;exact h _ _ hh
theorem anyI_inv(I:Array Bool→Act→World→Prop)(hstep:∀ (lz:Array Bool) (a':Act) (w':World) (i:Nat) (o:Oper),lz.size=ops.size→ops[i]? = some o→I lz a' w'→i∈Region.ready .any ops lz→wpGI n ops o P a' w' (fun a'' w''=>I (lz.setIfInBounds i true) a'' w'') Q)(hend:∀ lz a w,lz.size=ops.size→I lz a w→Region.ready .any ops lz=[]→Q .normal a w) :
  ∀ (fuel:Nat) (lz:Array Bool) (a:Act) (w:World),lz.size=ops.size→lz.toList.count false≤fuel→I lz a w→wpAnyIn Fence.wide n P .any ops Q fuel lz a w
 | 0,lz,a,w,hs,hc,hI=>by
  have hr:Region.ready .any ops lz=[]:=by
   rw[List.eq_nil_iff_forall_not_mem]
   intro j hj
   obtain ⟨hun,o,ho,_⟩:=mem_ready.1 hj
   have hjs:j<lz.size:=by have:=(Array.getElem?_eq_some_iff.1 ho).1;omega
   have h1:lz[j]? = some false:=by
    rw[Array.getElem?_eq_getElem hjs]
    simp[Array.getD,hjs] at hun
    rw[hun]
   have h2:=count_set lz.toList j (by simpa using h1)
   omega
  exact ⟨hr,hend lz a w hs hI hr⟩
 | fuel+1,lz,a,w,hs,hc,hI=>by
  refine ⟨fun hr=>hend lz a w hs hI hr,fun i hi=>?_⟩
  obtain ⟨hun,o,ho,_⟩:=mem_ready.1 hi
  have hjs:i<lz.size:=by have:=(Array.getElem?_eq_some_iff.1 ho).1;omega
  have h1:lz[i]? = some false:=by
   rw[Array.getElem?_eq_getElem hjs]
   simp[Array.getD,hjs] at hun
   rw[hun]
  have h2:=count_set lz.toList i (by simpa using h1)
  have h:=wpGI_mono (fun a' w' h'=>anyI_inv I hstep hend fuel _ a' w' (by simpa using hs) (by rw[Array.toList_setIfInBounds];omega) h') (hstep lz a w i o hs ho hI hi)
  unfold wpOpIn
  rw[ho]
  unfold wpGI at h
  simp only[]
  split
  ·next hw=>rw[if_pos hw] at h;exact h
  ·next hw=>rw[if_neg hw] at h;exact ⟨fun _ _=>trivial,h⟩
theorem regI_vals{id:Nat}{a:Act}{w:World}(hm:P.follows .mixedOrders=true)(hb:backB2 ops=true)(hB:onceB ops=true)(C:Array Bool→(Nat→Value)→World→Prop)(h0:C (Array.replicate ops.size false) (fun _=>undef) { w with drawn:=w.drawn+1 })(hop:∀ lz vs a' w' i o,lz.size=ops.size→ops[i]? = some o→i∈Region.ready .any ops lz→(∀ j k,waitsB ops k j=true→lz.getD k false=true→lz.getD j false=true)→Frm ops vs a lz a'→C lz vs w' →
   o.wpIn Fence.wide n P a' w' (fun a'' w''=>∃ v,a''=a'.put o.dst v∧C (lz.setIfInBounds i true) (fun j=>if j=i then v else vs j) w'') Q)(hend:∀ lz vs a' w',(∀ i,i<ops.size→lz.getD i false=true)→Frm ops vs a lz a'→C lz vs w'→Q .normal a' w'):(Code.region id ops true).wpIn Fence.wide n P Q a w:=by
 refine wpIn_region_any hm (anyI_inv (fun lz a' w'=>∃ vs,Frm ops vs a lz a'∧(∀ j k,waitsB ops k j=true→lz.getD k false=true→lz.getD j false=true)∧C lz vs w') ?_ ?_ _ _ _ _ (by simp) (by simp) ⟨_,Frm.start _ a,fun j k _ h=>by simp[Array.getD] at h,h0⟩)
 ·rintro lz a' w' i o hs ho ⟨vs,hF,hW,hC⟩ hi
  have hun:=undone hi hs
  unfold wpGI
  rw[if_pos (by simp[Region.wanted,(once_spec hB ho).1])]
  refine Oper.wpIn_mono (fun a'' w'' h=>?_) (hop lz vs a' w' i o hs ho hi hW hF hC)
  obtain ⟨v,rfl,hC'⟩:=h
  refine ⟨_,hF.step hs ho (once_spec hB ho).2 (fun h=>hun h) v,fun j k hjk hk=>?_,hC'⟩
  rcases done_set hk with rfl | hk
  ·exact done_keep (wDn hjk hi)
  ·exact done_keep (hW j k hjk hk)
 ·rintro lz a' w' hs ⟨vs,hF,_,hC⟩ hr
  exact hend lz vs a' w' (all_done2 hb hs hr) hF hC
theorem wp_wide{o:Oper}{a:Act}{w:World}{K:Act→World→Prop}(h:o.wp P a w K Q):o.wpIn Fence.wide n P a w K Q:=by
 unfold Oper.wpIn
 refine ⟨fun _ _=>trivial,?_⟩
 rw[Fence.wide_round,Oper.semAt_none]
 unfold Oper.wp at h
 generalize (execOp a.eval o).run P w=r at h
 cases r with
 | ok x w'=>
  cases x with
  | enter f args=>exact ⟨fun h=>by simp[Fence.wide] at h,callsIn_wide.2 h⟩
  | row r args=>exact ⟨fun h=>by simp[Fence.wide] at h,by
    intro c cs _
    obtain ⟨v,w',r,s⟩:=(show Go.Rows _ _ _ _ _ from h) c cs
    exact ⟨v,w',r,stepsIn_wide.2 s⟩⟩
  | value v=>exact h
  | skip=>exact h
  | defer d=>exact h
  | _=>exact h.elim
 | halt x w'=>cases x<;>first | exact h | exact h.elim
end
theorem roS{P:Program}{T:World→Prop}(L:Lg P)(fs:Fq P T){c:Code}{Q:Exit→Act→World→Prop}{w0 w:World}{a:Act}{κ:World×Nat×(Nat→Nat)×List Deferred}{tm:Vs}{rows:Rows}{nx:Nat}{β:Nat→Nat}(I:Inv κ w0 β tm rows nx a w)(hT:∀ w',RowKit.Below w0.heap.size w0 w'→T w')(ex:Exit)(st:St)(hK:∀ β' a' w',Inv κ w0 β' st.1 st.2.1 st.2.2 a' w'→Q ex a' w')(hm:P.follows .mixedOrders=true:=by kernel_rfl)(hs:(runC P T (foV P) (ioV P) (zeV P) c fs (tm,rows,nx)).isSome=true:=by kernel_rfl)(h:(runC P T (foV P) (ioV P) (zeV P) c fs (tm,rows,nx)).map (fun r=>(r.1,r.2.1,r.2.2.2.1.map (·.1),r.2.2.2.2.isEmpty))=(runC P T (foV P) (ioV P) (zeV P) c fs (tm,rows,nx)).map (fun r=>(ex,st,r.2.2.2.1.map (·.2),true)):=by kernel_rfl) :
  L.wp c Q a w:=by
 cases hr:runC P T (foV P) (ioV P) (zeV P) c fs (tm,rows,nx) with
 | none=>rw[hr] at hs;cases hs
 | some r=>
  obtain ⟨ex',st',q',e⟩:=r
  rw[hr] at h
  simp only[Option.map_some,Option.some.injEq,Prod.mk.injEq,List.isEmpty_iff] at h
  obtain ⟨rfl,rfl,h2,h3⟩:=h
  exact runC_ok L (ty_ok hm) hT hr ⟨eqs_of h2,fun p hp=>by rw[h3] at hp;cases hp⟩ I hK
theorem roE{P:Program}{T:World→Prop}(fs:Fq P T){c:Code}{w0 w:World}{a:Act}{κ:World×Nat×(Nat→Nat)×List Deferred}{tm:Vs}{rows:Rows}{nx:Nat}{β:Nat→Nat}(I:Inv κ w0 β tm rows nx a w)(hT:∀ w',RowKit.Below w0.heap.size w0 w'→T w'){fn:Func}{v:Value}(hd:κ.2.2.2=[])(hm:P.follows .mixedOrders=true:=by kernel_rfl)(hs:(runC P T (foV P) (ioV P) (zeV P) c fs (tm,rows,nx)).isSome=true:=by kernel_rfl)(h:(runC P T (foV P) (ioV P) (zeV P) c fs (tm,rows,nx)).map (fun r=>(r.1,resX P fn r.2.1,r.2.2.2.1.map (·.1),r.2.2.2.2.isEmpty))=(runC P T (foV P) (ioV P) (zeV P) c fs (tm,rows,nx)).map (fun r=>(.ret,some v,r.2.2.2.1.map (·.2),true)):=by kernel_rfl) :
  c.wp P (bodyPost P fn fun e w'=>e=.returned v∧RowKit.Below w0.heap.size w0 w') a w:=by
 cases hr:runC P T (foV P) (ioV P) (zeV P) c fs (tm,rows,nx) with
 | none=>rw[hr] at hs;cases hs
 | some r=>
  obtain ⟨ex',st',q',e⟩:=r
  rw[hr] at h
  simp only[Option.map_some,Option.some.injEq,Prod.mk.injEq,List.isEmpty_iff] at h
  obtain ⟨rfl,h1,h2,h3⟩:=h
  exact runC_ok (Lg.plain hm) (ty_ok hm) hT hr ⟨eqs_of h2,fun p hp=>by rw[h3] at hp;cases hp⟩ I fun β' a' w' I'=>bodyPost_ret (resX_ok I' h1) (I'.df.trans hd) ⟨rfl,I'.bw⟩
end
section
open Go.RowKit Go.Sort
def fillF (scr:List Nat) (u:Nat→Value):Nat→Vs→Vs
 | _,[]=>[]
 | n,s::tm=>(if scr.contains n then some (Sum.inl (u n)) else s)::fillF scr u (n+1) tm
def dropF (scr:List Nat):Nat→Vs→Vs
 | _,[]=>[]
 | n,s::tm=>(if scr.contains n then none else s)::dropF scr (n+1) tm
theorem loop_dn{P:Program}{c:Code}{Q:Exit→Act→World→Prop}(St:Nat→Act→World→Prop)(step:∀ i a w,St i a w→c.wp P (Exit.then (fun a' w'=>∃ j,j<i∧St j a' w') Q) a w){i:Nat}{a:Act}{w:World}(h:St i a w):(Code.loop c).wp P Q a w:=by
 have key:∀ (k i:Nat) (a:Act) (w:World),i≤k→St i a w→Code.rounds P c Q (k+1) a w:=by
  intro k
  induction k with
  | zero=>
   intro i a w hi hs
   rw[rounds_succ]
   refine Code.wp_mono (fun e a' w' h=>?_) (step i a w hs)
   cases e<;>first | (obtain ⟨j,hj,_⟩:=h;omega) | exact h
  | succ k ih=>
   intro i a w hi hs
   rw[rounds_succ]
   refine Code.wp_mono (fun e a' w' h=>?_) (step i a w hs)
   cases e<;>first | (obtain ⟨j,hj,h⟩:=h;exact ih j a' w' (by omega) h) | exact h
 exact wp_loop_rounds (i+1) (key i i a w (Nat.le_refl _) h)
def numC:Nat→List (Array Value)→Rows
 | _,[]=>[]
 | n,c::cs=>(n,c)::numC (n+1) cs
theorem numC_mem:∀ {cs:List (Array Value)} {n:Nat} {q:Nat×Array Value},q∈numC n cs→∃ i,cs[i]? = some q.2∧q.1=n+i
 | [],n,q,h=>by simp[numC] at h
 | c::cs,n,q,h=>by
  simp only[numC,List.mem_cons] at h
  rcases h with rfl | h
  ·exact ⟨0,rfl,rfl⟩
  ·obtain ⟨i,h1,h2⟩:=numC_mem h
   exact ⟨i+1,by simpa using h1,by omega⟩
def bN (bs:List Nat) (i:Nat):Nat:=bs.getD i 0
structure HeadI (w0:World) (scr:List Nat) (tm:Vs) (bs:List Nat) (cs:List (Array Value)) (a:Act) (w:World):Prop where
 fr:∃ u,a.tmps=((fillF scr u 0 tm).map (upO (bN bs))).toArray
 df:a.defers=[]
 bw:RowKit.Below w0.heap.size w0 w
 row:∀ (i:Nat) (c:Array Value),cs[i]? = some c→HRw w (bN bs i) c
 ln:bs.length=cs.length
 nd:bs.Nodup
 lo:∀ i,i<bs.length→w0.heap.size≤bN bs i
theorem bN_inj{bs:List Nat}(h:bs.Nodup){i j:Nat}(hi:i<bs.length)(hj:j<bs.length)(e:bN bs i=bN bs j):i=j:=by
 have h1:bN bs i=bs[i]:=by simp[bN,List.getD,List.getElem?_eq_getElem hi]
 have h2:bN bs j=bs[j]:=by simp[bN,List.getD,List.getElem?_eq_getElem hj]
 rw[h1,h2] at e
 exact (List.getElem_inj h).1 e
theorem HeadI.inv{w0 w:World}{scr:List Nat}{tm:Vs}{bs:List Nat}{cs:List (Array Value)}{a:Act}(h:HeadI w0 scr tm bs cs a w):∃ u,Inv (w,cs.length,bN bs,[]) w0 (bN bs) (fillF scr u 0 tm) (numC 0 cs) cs.length a w:=by
 obtain ⟨u,hf⟩:=h.fr
 refine ⟨u,hf,h.df,h.bw,?_,?_,?_,?_,⟨Nat.le_refl _,fun k o h _=>h⟩,Nat.le_refl _,fun _ _=>rfl⟩
 ·intro p hp
  obtain ⟨i,h1,h2⟩:=numC_mem hp
  rw[h2,Nat.zero_add]
  exact h.row i p.2 h1
 ·intro p hp
  obtain ⟨i,h1,h2⟩:=numC_mem hp
  rw[h2,Nat.zero_add]
  exact h.lo i (by rw[h.ln];exact (List.getElem?_eq_some_iff.1 h1).1)
 ·intro p hp
  obtain ⟨i,h1,h2⟩:=numC_mem hp
  rw[h2,Nat.zero_add]
  exact (List.getElem?_eq_some_iff.1 h1).1
 ·intro p hp q hq hpq
  obtain ⟨i,h1,h2⟩:=numC_mem hp
  obtain ⟨j,h3,h4⟩:=numC_mem hq
  rw[h2,h4,Nat.zero_add,Nat.zero_add]
  intro e
  refine hpq ?_
  rw[h2,h4,bN_inj h.nd (by rw[h.ln];exact (List.getElem?_eq_some_iff.1 h1).1) (by rw[h.ln];exact (List.getElem?_eq_some_iff.1 h3).1) e]
theorem fill_ext{scr:List Nat}{u u':Nat→Value}:∀ (k:Nat) (l:Vs),(∀ t,k≤t→u t=u' t)→fillF scr u k l=fillF scr u' k l
 | k,[],_=>rfl
 | k,x::l,hu=>by simp only[fillF];rw[hu k (Nat.le_refl _),fill_ext (k+1) l (fun t ht=>hu t (by omega))]
def rnS (rn:Nat→Nat):Option SV→Option SV
 | some (Sum.inr (i,o))=>some (Sum.inr (rn i,o))
 | s=>s
theorem fill_of{scr:List Nat}{β β':Nat→Nat}{rn:Nat→Nat}{ids:List Nat}(hb:∀ i,i∈ids→β i=β' (rn i)):∀ (n:Nat) {tm tm':Vs},(dropF scr n tm).map (rnS rn)=dropF scr n tm'→((dropF scr n tm).all fun s=>match s with | some (Sum.inr (i,_))=>ids.contains i | _=>true)=true →
  tm.map (upO β)=(fillF scr (fun t=>match tm[t-n]? with | some s=>upO β s | none=>undef) n tm').map (upO β')
 | n,[],[],_,_=>rfl
 | n,[],s::l,h,_=>by simp[dropF] at h
 | n,s::l,[],h,_=>by simp[dropF] at h
 | n,s::l,s'::l',h,hi=>by
  simp only[dropF,List.map_cons,List.cons.injEq] at h
  obtain ⟨h1,h2⟩:=h
  simp only[dropF,List.all_cons,Bool.and_eq_true] at hi
  have ih:=fill_of (scr:=scr) (β:=β) (β':=β') hb (n+1) h2 hi.2
  simp only[fillF,List.map_cons]
  congr 1
  ·by_cases hc:scr.contains n=true
   ·rw[if_pos hc]
    simp[upO,up]
   ·rw[if_neg hc] at h1 ⊢
    rw[if_neg hc] at h1
    subst h1
    have hi1:=hi.1
    rw[if_neg hc] at hi1
    rcases s with _ | v | ⟨i,o⟩
    ·rfl
    ·rfl
    ·simp only[List.contains_eq_mem,decide_eq_true_eq] at hi1
     simp only[rnS,upO,up,hb i hi1]
  ·rw[ih]
   congr 1
   refine fill_ext _ _ fun t ht=>?_
   have:t-n=(t-(n+1))+1:=by omega
   rw[this]
   rfl
def pos (ids:List Nat) (i:Nat):Nat:=ids.idxOf i
def inF (scr:List Nat) (ids:List Nat) (tm:Vs):Bool:=(dropF scr 0 tm).all fun s=>match s with | some (Sum.inr (i,_))=>ids.contains i | _=>true
theorem Inv.head{κ:World×Nat×(Nat→Nat)×List Deferred}{w0 w:World}{β:Nat→Nat}{tm:Vs}{rows:Rows}{nx:Nat}{a:Act}(I:Inv κ w0 β tm rows nx a w)(hd:κ.2.2.2=[]){scr ids:List Nat}{tm':Vs}{cs:List (Array Value)}(h1:(dropF scr 0 tm).map (rnS (pos ids))=dropF scr 0 tm')(h2:inF scr ids tm=true)(h3:ids.map (rowOf rows)=cs.map some)(h4:nodupB ids=true) :
  HeadI w0 scr tm' (ids.map β) cs a w:=by
 have hn:=nodupB_ok h4
 have hl:ids.length=cs.length:=by simpa using congrArg List.length h3
 have hrow:∀ (i:Nat) (c:Array Value),cs[i]? = some c→∃ id,ids[i]? = some id∧(id,c)∈rows:=by
  intro i c hc
  have hi:i<ids.length:=by rw[hl];exact (List.getElem?_eq_some_iff.1 hc).1
  have e1:ids[i]? = some ids[i]:=List.getElem?_eq_getElem hi
  have h5:=congrArg (·[i]?) h3
  simp only[List.getElem?_map,e1,hc,Option.map_some,Option.some.injEq] at h5
  exact ⟨_,e1,rowOf_mem h5⟩
 have hb:∀ i id,ids[i]? = some id→bN (ids.map β) i=β id:=fun i id h=>by simp[bN,List.getD,h]
 refine ⟨⟨fun t=>match tm[t-0]? with | some s=>upO β s | none=>undef,?_⟩,I.df.trans hd,I.bw,?_,by simpa using hl,?_,?_⟩
 ·rw[I.fr]
  refine congrArg List.toArray (fill_of (ids:=ids) (fun i hi=>?_) 0 h1 h2)
  exact (hb _ i (by unfold pos;rw[List.getElem?_eq_getElem (List.idxOf_lt_length_of_mem hi),List.getElem_idxOf])).symm
 ·intro i c hc
  obtain ⟨id,k1,k2⟩:=hrow i c hc
  rw[hb i id k1]
  exact I.row _ k2
 ·rw[List.nodup_iff_pairwise_ne,List.pairwise_map]
  rw[List.nodup_iff_pairwise_ne] at hn
  refine List.Pairwise.imp_of_mem ?_ hn
  intro x y hx hy hxy e
  obtain ⟨i,hi⟩:=List.mem_iff_getElem?.1 hx
  obtain ⟨j,hj⟩:=List.mem_iff_getElem?.1 hy
  obtain ⟨ci,hci⟩:∃ c,cs[i]? = some c:=⟨_,List.getElem?_eq_getElem (by rw[← hl];exact (List.getElem?_eq_some_iff.1 hi).1)⟩
  obtain ⟨cj,hcj⟩:∃ c,cs[j]? = some c:=⟨_,List.getElem?_eq_getElem (by rw[← hl];exact (List.getElem?_eq_some_iff.1 hj).1)⟩
  obtain ⟨x',k1,k2⟩:=hrow i _ hci
  obtain ⟨y',k3,k4⟩:=hrow j _ hcj
  rw[hi] at k1;cases k1
  rw[hj] at k3;cases k3
  exact I.inj _ k2 _ k4 hxy e
 ·intro i hi
  have hi2:i<cs.length:=by simpa [hl] using hi
  obtain ⟨id,k1,k2⟩:=hrow i _ (List.getElem?_eq_getElem hi2)
  rw[hb i id k1]
  exact I.lo _ k2
section
variable {P:Program} {T:World→Prop}
def runK (P:Program) (T:World→Prop) (fo:Nat→Nat→Option Nat) (io:Nat→Int→Option Nat) (ze:Nat→Option (Array Value)):Nat→Code→Fq P T→St→Option (St×Eqs)
 | 0,_,_,st=>some (st,[],[])
 | k+1,.seq x y,q,st=>match runC P T fo io ze x q st with
  | some (.normal,st',q',e)=>(runK P T fo io ze k y q' st').map fun r=>(r.1,addE e r.2)
  | _=>none
 | _,_,_,_=>none
def restC:Nat→Code→Code
 | 0,c=>c
 | k+1,.seq _ y=>restC k y
 | _,c=>c
theorem runK_ok{fo:Nat→Nat→Option Nat}{io:Nat→Int→Option Nat}{ze:Nat→Option (Array Value)}{κ:World×Nat×(Nat→Nat)×List Deferred}{w0:World}(Y:Ty P fo io ze)(hT:∀ w',RowKit.Below w0.heap.size w0 w'→T w') :
  ∀ (k:Nat) {c:Code} {q:Fq P T} {st st':St} {e:Eqs} {Q:Exit→Act→World→Prop} {β:Nat→Nat} {a:Act} {w:World},runK P T fo io ze k c q st=some (st',e)→EqOk e→Inv κ w0 β st.1 st.2.1 st.2.2 a w →
   (∀ β' a' w',Inv κ w0 β' st'.1 st'.2.1 st'.2.2 a' w'→(restC k c).wp P Q a' w')→c.wp P Q a w
 | 0,c,q,st,st',e,Q,β,a,w,h,he,I,hK=>by
  simp only[runK,Option.some.injEq,Prod.mk.injEq] at h
  obtain ⟨rfl,_⟩:=h
  exact hK _ _ _ I
 | k+1,.seq x y,q,st,st',e,Q,β,a,w,h,he,I,hK=>by
  simp only[runK] at h
  split at h
  ·next st1 q1 e1 hx=>
   cases hy:runK P T fo io ze k y q1 st1 with
   | none=>rw[hy] at h;cases h
   | some r=>
    obtain ⟨st2,e2⟩:=r
    rw[hy] at h
    simp only[Option.map_some,Option.some.injEq,Prod.mk.injEq] at h
    obtain ⟨rfl,rfl⟩:=h
    exact wp_seq (runC_ok (Lg.plain Y.hm) Y hT hx he.left I fun β' a' w' I'=>runK_ok Y hT k hy he.right I' hK)
  ·cases h
 | k+1,.skip,q,st,st',e,Q,β,a,w,h,he,I,hK=>by simp[runK] at h
 | k+1,.ret,q,st,st',e,Q,β,a,w,h,he,I,hK=>by simp[runK] at h
 | k+1,.exit _,q,st,st',e,Q,β,a,w,h,he,I,hK=>by simp[runK] at h
 | k+1,.region _ _ _,q,st,st',e,Q,β,a,w,h,he,I,hK=>by simp[runK] at h
 | k+1,.cond _ _ _,q,st,st',e,Q,β,a,w,h,he,I,hK=>by simp[runK] at h
 | k+1,.block _ _,q,st,st',e,Q,β,a,w,h,he,I,hK=>by simp[runK] at h
 | k+1,.loop _,q,st,st',e,Q,β,a,w,h,he,I,hK=>by simp[runK] at h
 | k+1,.rangeFunc _ _ _ _,q,st,st',e,Q,β,a,w,h,he,I,hK=>by simp[runK] at h
 | k+1,.scope _,q,st,st',e,Q,β,a,w,h,he,I,hK=>by simp[runK] at h
 | k+1,.label _,q,st,st',e,Q,β,a,w,h,he,I,hK=>by simp[runK] at h
 | k+1,.goto _,q,st,st',e,Q,β,a,w,h,he,I,hK=>by simp[runK] at h
 | k+1,.refuse _,q,st,st',e,Q,β,a,w,h,he,I,hK=>by simp[runK] at h
abbrev Chk (scr ids:List Nat) (st:St):Vs×List (Option (Array Value))×Bool:=((dropF scr 0 st.1).map (rnS (pos ids)),ids.map (rowOf st.2.1),inF scr ids st.1)
theorem roH(k:Nat)(fs:Fq P T){f:Nat}{fn:Func}(hf:P.funcs[f]? = some fn){c:Code}(hc:fn.body=some c){args:Array Value}{w:World}{R:Ending→World→Prop}(hT:∀ w',RowKit.Below w.heap.size w w'→T w')(scr ids:List Nat)(tm:Vs)(cs:List (Array Value))(hK:∀ bs a' w',HeadI w scr tm bs cs a' w'→(restC k c).wp P (bodyPost P fn R) a' w')(hm:P.follows .mixedOrders=true:=by kernel_rfl)(hn:nodupB ids=true:=by kernel_rfl)(hs:(runK P T (foV P) (ioV P) (zeV P) k c fs (begX fn args)).isSome=true:=by kernel_rfl)(h:(runK P T (foV P) (ioV P) (zeV P) k c fs (begX fn args)).map (fun r=>(Chk scr ids r.1,r.2.1.map (·.1),r.2.2.isEmpty))=(runK P T (foV P) (ioV P) (zeV P) k c fs (begX fn args)).map (fun r=>((dropF scr 0 tm,cs.map some,true),r.2.1.map (·.2),true)):=by kernel_rfl):Calls P f args w R:=by
 have I:Inv (w,0,(fun _=>0),[]) w (fun _=>0) (begX fn args).1 (begX fn args).2.1 (begX fn args).2.2 { tmps:=args++Array.replicate (fn.ntmps-args.size) undef,defers:=[] } w:=by
  refine ⟨?_,rfl,RowKit.Below.refl _ _,?_,?_,?_,?_,⟨Nat.le_refl _,fun k o h _=>h⟩,Nat.zero_le _,fun i h=>absurd h (Nat.not_lt_zero i)⟩
  ·apply Array.ext'
   simp[begX,upO]
   exact (List.map_id _).symm
  ·intro p hp;simp[begX] at hp
  ·intro p hp;simp[begX] at hp
  ·intro p hp;simp[begX] at hp
  ·intro p hp;simp[begX] at hp
 refine calls_of_wp hf hc ?_
 cases hr:runK P T (foV P) (ioV P) (zeV P) k c fs (begX fn args) with
 | none=>rw[hr] at hs;cases hs
 | some r=>
  obtain ⟨st',e⟩:=r
  rw[hr] at h
  simp only[Option.map_some,Option.some.injEq,Prod.mk.injEq,List.isEmpty_iff] at h
  obtain ⟨⟨h1,h2,h3⟩,h4,h5⟩:=h
  exact runK_ok (ty_ok hm) hT k hr ⟨eqs_of h4,fun p hp=>by rw[h5] at hp;cases hp⟩ I fun β' a' w' I'=>hK _ _ _ (I'.head rfl h1 h3 h2 hn)
theorem roR(fs:Fq P T){c:Code}{Q:Exit→Act→World→Prop}{w0 w:World}{a:Act}{scr:List Nat}{tm:Vs}{bs:List Nat}{cs:List (Array Value)}(h0:HeadI w0 scr tm bs cs a w)(hT:∀ w',RowKit.Below w0.heap.size w0 w'→T w')(ex:Exit)(tm':Vs)(cs':List (Array Value))(hK:∀ a' w',HeadI w0 scr tm' bs cs' a' w'→Q ex a' w')(hl:cs'.length=cs.length:=by rfl)(hm:P.follows .mixedOrders=true:=by kernel_rfl)(hs:∀ u,(runC P T (foV P) (ioV P) (zeV P) c fs (fillF scr u 0 tm,numC 0 cs,cs.length)).isSome=true:=by intro u;kernel_rfl)(h:∀ u,(runC P T (foV P) (ioV P) (zeV P) c fs (fillF scr u 0 tm,numC 0 cs,cs.length)).map (fun r=>(r.1,dropF scr 0 r.2.1.1,(List.range cs.length).map (rowOf r.2.1.2.1),inF scr (List.range cs.length) r.2.1.1,r.2.2.2.1.map (·.1),r.2.2.2.2.isEmpty))=(runC P T (foV P) (ioV P) (zeV P) c fs (fillF scr u 0 tm,numC 0 cs,cs.length)).map (fun r=>(ex,dropF scr 0 tm',cs'.map some,true,r.2.2.2.1.map (·.2),true)):=by intro u;kernel_rfl) :
  c.wp P Q a w:=by
 obtain ⟨u,I⟩:=h0.inv
 have hs:=hs u
 have h:=h u
 cases hr:runC P T (foV P) (ioV P) (zeV P) c fs (fillF scr u 0 tm,numC 0 cs,cs.length) with
 | none=>rw[hr] at hs;cases hs
 | some r=>
  obtain ⟨ex',st',q',e⟩:=r
  rw[hr] at h
  simp only[Option.map_some,Option.some.injEq,Prod.mk.injEq,List.isEmpty_iff] at h
  obtain ⟨rfl,h1,h2,h3,h4,h5⟩:=h
  refine runC_ok (Lg.plain hm) (ty_ok hm) hT hr ⟨eqs_of h4,fun p hp=>by rw[h5] at hp;cases hp⟩ I fun β' a' w' I'=>hK a' w' ?_
  have hbz:∀ i,i<cs.length→β' i=bN bs i:=fun i hi=>I'.kx.2.2 i hi
  refine ⟨⟨fun t=>match st'.1[t-0]? with | some s=>upO β' s | none=>undef,?_⟩,I'.df,I'.bw,?_,h0.ln.trans hl.symm,h0.nd,h0.lo⟩
  ·rw[I'.fr]
   refine congrArg List.toArray (fill_of (ids:=List.range cs.length) (rn:=fun i=>i) (fun i hi=>hbz i (List.mem_range.1 hi)) 0 ?_ h3)
   rw[← h1]
   have:rnS (fun i=>i)=id:=by
    funext s
    rcases s with _ | v | ⟨i,o⟩<;>rfl
   rw[this,List.map_id]
  ·intro i c' hc
   have hi:i<cs.length:=by rw[← hl];exact (List.getElem?_eq_some_iff.1 hc).1
   have h6:=congrArg (·[i]?) h2
   simp only[List.getElem?_map,List.getElem?_range hi,Option.map_some,hc,Option.some.injEq] at h6
   have h7:=I'.row _ (rowOf_mem h6)
   rw[hbz i hi] at h7
   exact h7
theorem roX(fs:Fq P T){c:Code}{w0 w:World}{a:Act}{scr:List Nat}{tm:Vs}{bs:List Nat}{cs:List (Array Value)}(h0:HeadI w0 scr tm bs cs a w)(hT:∀ w',RowKit.Below w0.heap.size w0 w'→T w'){fn:Func}{v:Value}(hm:P.follows .mixedOrders=true:=by kernel_rfl)(hs:∀ u,(runC P T (foV P) (ioV P) (zeV P) c fs (fillF scr u 0 tm,numC 0 cs,cs.length)).isSome=true:=by intro u;kernel_rfl)(h:∀ u,(runC P T (foV P) (ioV P) (zeV P) c fs (fillF scr u 0 tm,numC 0 cs,cs.length)).map (fun r=>(r.1,resX P fn r.2.1,r.2.2.2.1.map (·.1),r.2.2.2.2.isEmpty))=(runC P T (foV P) (ioV P) (zeV P) c fs (fillF scr u 0 tm,numC 0 cs,cs.length)).map (fun r=>(.ret,some v,r.2.2.2.1.map (·.2),true)):=by intro u;kernel_rfl) :
  c.wp P (bodyPost P fn fun e w'=>e=.returned v∧RowKit.Below w0.heap.size w0 w') a w:=by
 obtain ⟨u,I⟩:=h0.inv
 exact roE fs I hT rfl hm (hs u) (h u)
end
end
end Go.Proofs.YtfhppenjbmmadaaGreatDoor
