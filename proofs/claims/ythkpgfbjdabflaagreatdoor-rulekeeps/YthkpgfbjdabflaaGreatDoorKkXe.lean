/- Out of Xe. -/
import Derived.Test.YthkpgfbjdabflaaGreatDoorKkAu
import Derived.RangeFuncNested
import Derived.RangeFuncBound
import Derived.RangeFuncCalls
import Derived.RangeFuncLeaves
import Derived.Shelf.Abstract
import Derived.Shelf.RegionOpen
import Derived.OwnWalkIn
import Derived.TacticsInMore
import Derived.LoopNIn
import Derived.LoopIn
namespace Go.Proofs.YthkpgfbjdabflaaGreatDoor
open Go.RowKit Go.Sort Tryz
set_option linter.unusedVariables false
set_option maxRecDepth 100000
set_option maxHeartbeats 4000000
section
open Go.RowKit Go.Sort Go.Shelf
section
variable {P:Program} {ops:Array Oper} {Q:Exit→Act→World→Prop} {l n:Nat}
theorem rowsIn_round{row:String}{args:Array Value}{w:World}{R:Value→World→Prop}(h:Go.Rows P row args w R):RowsIn (Fence.wide.inRound l) n P row args w R:=by
 intro c cs _;obtain⟨v,w',r,s⟩:=h c cs;exact⟨v,w',r,stepsIn_wide.2 s⟩
theorem wp_round{o:Oper}{a:Act}{w:World}{K:Act→World→Prop}(hd:∀ c,o.op≠.defer c)(h:o.wp P a w K Q):o.wpIn (Fence.wide.inRound l) n P a w K Q:=by
 unfold Oper.wpIn;refine⟨fun _ _=>trivial,?_⟩;rw[Oper.semAt_eq _ _ _ hd];unfold Oper.wp at h;generalize (execOp a.eval o).run P w=r at h;cases r with
 | ok x w'=>
  cases x with
  | enter f args=>exact⟨fun h=>by simp[Fence.wide]at h,CallsIn.inRound l (callsIn_wide.2 h)⟩
  | row r args=>exact⟨fun h=>by simp[Fence.wide]at h,rowsIn_round h⟩
  | value v=>exact h
  | skip=>exact h
  | defer d=>exact h
  | _=>exact h.elim
 | halt x w'=>cases x<;>first | exact h | exact h.elim
theorem noDef_at(h:zbo ops=true){i:Nat}{o:Oper}(ho:ops[i]? = some o):∀ c,o.op≠.defer c:=by
 intro c hc;have h1:=(Array.all_eq_true_iff_forall_mem.1 h) o (Array.mem_of_getElem? ho);rw[hc]at h1;cases h1
theorem anyIn_inv(hn:zbo ops=true)(I:Array Bool→Act→World→Prop)(hstep:∀(za:Array Bool) (a':Act) (w':World) (i:Nat) (o:Oper),za.size=ops.size→ops[i]? = some o→I za a' w'→i∈Region.ready .any ops za→wpG ops o P a' w' (fun a'' w''=>I (za.setIfInBounds i true) a'' w'') Q)(hend:∀ za a w,za.size=ops.size→I za a w→Region.ready .any ops za=[]→Q .normal a w) :
  ∀(fuel:Nat) (za:Array Bool) (a:Act) (w:World),za.size=ops.size→za.toList.count false≤fuel→I za a w→wpAnyIn (Fence.wide.inRound l) n P .any ops Q fuel za a w
 | 0,za,a,w,hs,hc,hI=>by
  have hr:Region.ready .any ops za=[]:=by
   rw[List.eq_nil_iff_forall_not_mem];intro j hj;obtain⟨hun,o,ho,_⟩:=mem_ready.1 hj;have hjs:j<za.size:=by have:=(Array.getElem?_eq_some_iff.1 ho).1;omega
   have h1:za[j]? = some false:=by
    rw[Array.getElem?_eq_getElem hjs];simp[Array.getD,hjs]at hun;rw[hun]
   have h2:=zcn za.toList j (by simpa using h1);omega
  exact⟨hr,hend za a w hs hI hr⟩
 | fuel+1,za,a,w,hs,hc,hI=>by
  refine⟨fun hr=>hend za a w hs hI hr,fun i hi=>?_⟩;obtain⟨hun,o,ho,_⟩:=mem_ready.1 hi;have hjs:i<za.size:=by have:=(Array.getElem?_eq_some_iff.1 ho).1;omega
  have h1:za[i]? = some false:=by
   rw[Array.getElem?_eq_getElem hjs];simp[Array.getD,hjs]at hun;rw[hun]
  have h2:=zcn za.toList i (by simpa using h1);have h:=vp (fun a' w' h'=>anyIn_inv hn I hstep hend fuel _ a' w' (by simpa using hs) (by rw[Array.toList_setIfInBounds];omega) h') (hstep za a w i o hs ho hI hi);unfold wpOpIn;rw[ho];unfold wpG at h;simp only[];split
  ·next hw=>rw[if_pos hw]at h;exact wp_round (noDef_at hn ho) h
  ·next hw=>rw[if_neg hw]at h;exact⟨fun _ _=>trivial,h⟩
theorem listIn_inv(hn:zbo ops=true)(hb:ka ops=true)(I:Array Bool→Act→World→Prop)(hstep:∀(za:Array Bool) (a':Act) (w':World) (i:Nat) (o:Oper),za.size=ops.size→ops[i]? = some o→I za a' w'→i∈Region.ready .any ops za→wpG ops o P a' w' (fun a'' w''=>I (za.setIfInBounds i true) a'' w'') Q)(hend:∀(za:Array Bool) (a:Act) (w:World),za.size=ops.size→(∀ i,i<ops.size→za.getD i false=true)→I za a w→Q .normal a w) :
  ∀(l':List Oper) (k:Nat) (za:Array Bool) (a:Act) (w:World),l'=ops.toList.drop k→za.size=ops.size→(∀ i,i<ops.size→za.getD i false=decide (i<k))→I za a w→wpListIn (Fence.wide.inRound l) n P ops Q l' a w
 | [],k,za,a,w,hl,hs,hd,hI=>by
  refine wpListIn_nil (hend za a w hs (fun i hi=>?_) hI);have hk:ops.size≤k:=by
   have:=congrArg List.length hl;simp at this;omega
  rw[hd i hi];exact decide_eq_true (by omega)
 | o::rest,k,za,a,w,hl,hs,hd,hI=>by
  have hk:k<ops.size:=by
   have:=congrArg List.length hl;simp at this;omega
  have hcons:=List.drop_eq_getElem_cons (l:=ops.toList) (i:=k) (by simpa using hk);rw[hcons]at hl;obtain⟨h1,h2⟩:=List.cons.inj hl;have ho:ops[k]? = some o:=by rw[h1];simp[hk]
  have hr:k∈Region.ready .any ops za:=by
   refine mem_ready.2 ⟨?_,o,ho,fun e he hbd=>?_⟩
   ·have h3:=hd k hk;have hk':k<za.size:=by omega
    simp[Array.getD,hk']at h3 ⊢;exact h3
   ·have h3:=(List.all_eq_true.1 hb) k (by simpa using hk);simp only[ho]at h3;have h4:=(Array.all_eq_true_iff_forall_mem.1 h3) e he;have h5:e.on<k:=by simpa [hbd]using h4
    rw[hd _ (by omega)];exact decide_eq_true h5
  have h:=vp (fun a' w' h=>listIn_inv hn hb I hstep hend rest (k+1) _ a' w' h2 (by simpa using hs) (fun i hi=>by
   have hi':i<za.size:=by omega
   by_cases e:i=k
   ·subst e;simp[Array.getD,hi']
   ·have:=hd i hi;simp[Array.getD,hi']at this ⊢;rw[Array.getElem_setIfInBounds_ne hi' (fun h=>e h.symm),this];exact decide_eq_decide.2 ⟨fun h=>by omega,fun h=>by omega⟩) h) (hstep za a w k o hs ho hI hr)
  refine wpListIn_step fun K hK=>?_;unfold wpG at h;split
  ·next hw=>rw[if_pos hw]at h;exact wp_round (noDef_at hn ho) (Oper.wp_mono hK h)
  ·next hw=>rw[if_neg hw]at h;exact⟨fun _ _=>trivial,hK _ _ h⟩
theorem RegV.round{id:Nat}{d:Bool}{a:Act}{w:World}(hm:P.follows .mixedOrders=true)(h:RegV P ops Q a w)(hn:zbo ops=true):(Code.region id ops d).wpIn (Fence.wide.inRound l) n P Q a w:=by
 obtain⟨hb,I,h0,step,hend⟩:=h;cases d with
 | true=>exact wpIn_region_any hm (anyIn_inv hn I step (fun za a' w' hs hI hr=>hend za a' w' hs (all_done2 hb hs hr) hI) _ _ _ _ (by simp) (by simp) (h0 _ (.inr rfl)))
 | false=>
  exact wpIn_region_list (listIn_inv hn hb I step hend ops.toList 0 (Array.replicate ops.size false) a w rfl (by simp) (fun i hi=>by simp[Array.getD,hi]) (h0 _ (.inl rfl)))
end
theorem rnd_round{P:Program}{l n:Nat}{c:Code}{Q:Exit→Act→World→Prop}:∀ m,rndW (fun c Q a w=>c.wpIn (Fence.wide.inRound l) n P Q a w) c Q m=Code.roundsIn (Fence.wide.inRound l) n P c Q m
 | 0=>rfl
 | m+1=>by
  funext a w;show c.wpIn _ n P (Exit.then (rndW (fun c Q a w=>c.wpIn (Fence.wide.inRound l) n P Q a w) c Q m) Q) a w=c.wpIn _ n P (Exit.then (Code.roundsIn (Fence.wide.inRound l) n P c Q m) Q) a w;rw[rnd_round m]
def Lg.round {P:Program} (hm:P.follows .mixedOrders=true) (l n:Nat):Lg P where
 wp c Q a w:=c.wpIn (Fence.wide.inRound l) n P Q a w
 skip:=wpIn_skip
 ret:=wpIn_ret
 exit:=wpIn_exit
 region h:=h.1.round hm h.2
 seq:=wpIn_seq
 condT:=wpIn_cond_true
 condF:=wpIn_cond_false
 block:=wpIn_block
 loop m h:=wpIn_loop_rounds m (by rw[← rnd_round m];exact h)
theorem KO.from{w w':World}(h:KO w w')(B:Nat):KeepsFrom B w w':=⟨h.1,fun k o _ hk ho=>h.2 k o hk fun c t e=>by subst e;cases ho⟩
theorem belowPut{B:Nat}(W:World){l:Nat}(o:Obj)(h:B≤l):RowKit.Below B W (W.putObj l o):=
 ⟨rfl,rfl,rfl,by simp[World.putObj],fun k hk=>World.putObj_heap_other (by omega)⟩
theorem zb.putObj{w:World}{g l:Nat}{c:Array Value}{o o':Obj}(h:zb w g c)(hl:w.heap[l]? = some o)(ho:o.isCells=false):zb (w.putObj l o') g c:=by
 obtain⟨t,h⟩:=h;refine⟨t,(World.putObj_heap_other ?_).trans h⟩;rintro rfl;rw[h]at hl;cases hl;cases ho
def KpN (N:Nat) (W W':World):Prop:=W.heap.size≤W'.heap.size∧∀ k,k<N→W'.heap[k]? = W.heap[k]?
theorem KpN.trans{N:Nat}{A B C:World}(h:KpN N A B)(k:KpN N B C):KpN N A C:=⟨Nat.le_trans h.1 k.1,fun i hi=>(k.2 i hi).trans (h.2 i hi)⟩
theorem KpN.put{N:Nat}(W:World){l:Nat}(o:Obj)(h:N≤l):KpN N W (W.putObj l o):=⟨by simp[World.putObj],fun k hk=>World.putObj_heap_other (by omega)⟩
theorem KpN.of{w A B:World}(h:RowKit.Below w.heap.size w A)(k:RowKit.Below w.heap.size w B)(hs:A.heap.size≤B.heap.size):KpN w.heap.size A B:=⟨hs,fun i hi=>(k.block i hi).trans (h.block i hi).symm⟩
end
end Go.Proofs.YthkpgfbjdabflaaGreatDoor
