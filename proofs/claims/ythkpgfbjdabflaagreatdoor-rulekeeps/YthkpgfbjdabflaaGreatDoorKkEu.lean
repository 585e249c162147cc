/- Laid one behind the other: Eu, Ld. -/
import Derived.Test.YthkpgfbjdabflaaGreatDoorKkEs
import Derived.Test.YthkpgfbjdabflaaGreatDoorRows
import Derived.LaidMore
import Derived.Lay
import Derived.Stop.Joined
namespace Go.Proofs.YthkpgfbjdabflaaGreatDoor
open Go.RowKit Go.Proofs.Tryz
set_option linter.unusedVariables false
set_option maxRecDepth 100000
set_option maxHeartbeats 4000000
section
open Go.ChangeShapes Go.WideShapes Go.ChangeAt Go.RowKit
section
variable {H : Type} {enc : TypeId × Value → H} {w : World}
theorem reread {W' : World} {ts : List TypeId} {vs : List Value} {ds : List (DataW H)} {p : List MemPlace} (hts : (ts.all fun t => decide (t < Tryz.prog.types.size)) = true) (h : DataW.TrodAll enc Tryz.prog w 0 (fun _ => true) true ts vs ds p) (hb : Below w.heap.size w W') : DataW.TrodAll enc Tryz.prog W' 0 (fun b => decide (b < w.heap.size)) true ts vs ds p := by
  have hlt := DataW.TrodAll.lt h
  have h1 : DataW.TrodAll enc Tryz.prog w 0 (fun b => decide (b < w.heap.size)) true ts vs ds p := DataW.TrodAll.respare (kids_rows (by kernel_rfl) (by kernel_rfl)) (slices_full_of _ (by kernel_rfl)) (fun t ht => by simpa using List.all_eq_true.1 hts t ht) h (fun q hq => by simpa using hlt q hq)
  have carry : ∀ {ts : List TypeId} {vs : List Value} {ds : List (DataW H)} {p : List MemPlace}, (∀ q ∈ p, q.block < w.heap.size) → DataW.TrodAll enc Tryz.prog w 0 (fun b => decide (b < w.heap.size)) true ts vs ds p → DataW.TrodAll enc Tryz.prog W' 0 (fun b => decide (b < w.heap.size)) true ts vs ds p := by
    intro ts
    induction ts with
    | nil => intro vs ds p _ h; cases vs <;> cases ds <;> first | exact h | exact h.elim
    | cons t ts ih =>
      intro vs ds p hp h
      cases vs with
      | nil => cases ds <;> exact h.elim
      | cons v vs =>
        cases ds with
        | nil => exact h.elim
        | cons d ds =>
          obtain ⟨p1, q1, ⟨n, hn⟩, h2, rfl⟩ := h
          refine ⟨p1, q1, ⟨n, DataW.trod_carry n t _ _ hn fun q hq => ?_⟩, ih (fun q hq => hp q (List.mem_append_right _ hq)) h2, rfl⟩
          have hql := hp q (List.mem_append_left _ hq)
          cases q with
          | cell b off => simp only [World.sameAt, World.cell?, hb.block b hql]
          | map b => exact hb.block b hql
  exact carry hlt h1
end
end
section
open Go.ChangeShapes Go.WideShapes Go.ChangeAt Go.RowKit
abbrev laid7 : List (String × DataW Unit) := [("truce/hash.turns", Rows.laid_truce_hash_turns), ("truce/hash.places", Rows.laid_truce_hash_places), ("truce/hash.marks", Rows.laid_truce_hash_marks), ("truce/codes.stopTable", Rows.laid_truce_codes_stopTable), ("truce/codes.lessTable", Rows.laid_truce_codes_lessTable), ("truce/codes.inputTable", Rows.laid_truce_codes_inputTable), ("truce/codes.popTable", Rows.laid_truce_codes_popTable)]
theorem gTurns : prog.globalNamed "truce/hash.turns" = some 5 := by kernel_rfl
theorem tTurns:(prog.globals[5]?).map (·.type)=some 218:=by kernel_rfl
theorem gPlaces : prog.globalNamed "truce/hash.places" = some 6 := by kernel_rfl
theorem tPlaces:(prog.globals[6]?).map (·.type)=some 218:=by kernel_rfl
theorem gMarks : prog.globalNamed "truce/hash.marks" = some 4 := by kernel_rfl
theorem tMarks:(prog.globals[4]?).map (·.type)=some 220:=by kernel_rfl
theorem gStop : prog.globalNamed "truce/codes.stopTable" = some 0 := by kernel_rfl
theorem tStop:(prog.globals[0]?).map (·.type)=some 182:=by kernel_rfl
theorem gLess : prog.globalNamed "truce/codes.lessTable" = some 1 := by kernel_rfl
theorem tLess:(prog.globals[1]?).map (·.type)=some 183:=by kernel_rfl
theorem gInput : prog.globalNamed "truce/codes.inputTable" = some 2 := by kernel_rfl
theorem tInput:(prog.globals[2]?).map (·.type)=some 184:=by kernel_rfl
theorem gPop : prog.globalNamed "truce/codes.popTable" = some 3 := by kernel_rfl
theorem tPop:(prog.globals[3]?).map (·.type)=some 185:=by kernel_rfl
theorem zdx{H:Type}{enc:TypeId×Value→H}{P:Program}{w:World}{base:Nat}{spare:Nat→Bool}{held:Bool}{fuel:Nat}{t e:TypeId}{cs:List Value}{ds:List (DataW H)}{p:List MemPlace}{n:Nat}{k:IntKind}(hu:P.underlying t=some (.array n e))(he:P.underlying e=some (.int k))(hc:P.cellsOf e=1)(hct:P.cellsOf t=n)(h:DataW.trod enc P w base spare held fuel t cs=some (.agg ds,p))(f:Nat→Nat)(hds:ds=(List.range n).map fun i=>DataW.lit (.int k ((f i:Nat):Int))):cs=(ag k n f).toList:=by
 obtain⟨xs,m,_,hx,hlen,hxn,hel⟩:=DataW.trod_array hu h;simp only[Prod.mk.injEq,DataW.agg.injEq]at hx;rw[hct]at hlen;apply List.ext_getElem?;intro i;rw[show(ag k n f).toList[i]? = (ag k n f)[i]? from Array.getElem?_toList,yd];by_cases hi:i<n
 ·rw[if_pos hi];have h1:=hel i hi;rw[hc,Nat.mul_one,List.getElem?_eq_getElem (by omega)]at h1;obtain⟨q,e1,e2,_⟩:=DataW.trod_int he h1;have h2:ds[i]? = some (.lit (.int k ((f i:Nat):Int))):=by rw[hds,List.getElem?_map,List.getElem?_range hi];rfl
  rw[hx.1,List.getElem?_map,List.getElem?_eq_getElem (by omega)]at h2;simp only[Option.map_some,e2,Option.some.injEq,DataW.lit.injEq,Lit.int.injEq]at h2;have h3:(cs.drop i)[0]? = some (.int k q):=by
   have:(List.take 1 (cs.drop i))[0]? = some (.int k q):=by rw[e1];rfl
   simpa [List.getElem?_take]using this
  rw[List.getElem?_drop,Nat.add_zero]at h3;rw[h3,h2.2]
 ·rw[if_neg hi,List.getElem?_eq_none (by omega)]
def rwD {H:Type} (r:OpR):DataW H:=.agg [.lit (.string r.1),.lit (.int .i64 (r.2.1:Nat)),.lit (.int .i64 (r.2.2.1:Nat)),.lit (.int .i64 (r.2.2.2:Nat))]
theorem u91:∃ f0 f1 f2 f3:Field,prog.underlying 166=some (.struct #[f0,f1,f2,f3])∧(f0.type,f0.offset,f1.type,f1.offset,f2.type,f2.offset,f3.type,f3.offset)=(9,0,3,1,3,2,3,3):=by
 have h:(prog.underlying 166).map (fun d=>match d with | .struct fs=>fs.toList.map fun f=>(f.type,f.offset) | _=>[])=some [(9,0),(3,1),(3,2),(3,3)]:=by kernel_rfl
 cases hq:prog.underlying 166 with
 | none=>rw[hq]at h;cases h
 | some d=>
  rw[hq]at h;cases d with
  | struct fs=>
   simp only[Option.map_some,Option.some.injEq]at h;obtain⟨l⟩:=fs
   match l,h with
   | [f0,f1,f2,f3],h=>
    simp only[List.map_cons,List.map_nil,List.cons.injEq,Prod.mk.injEq,and_true]at h;exact⟨f0,f1,f2,f3,rfl,by simp[h]⟩
  | _=>simp at h
theorem cells_of_trod{H:Type}{enc:TypeId×Value→H}{w:World}{base:Nat}{spare:Nat→Bool}{held:Bool}{fuel:Nat}{cs:List Value}{p:List MemPlace}{r:OpR}(h:DataW.trod enc prog w base spare held fuel 166 cs=some (rwD r,p)):cs=rwV r:=by
 obtain⟨f0,f1,f2,f3,hu,hf⟩:=u91;simp only[Prod.mk.injEq]at hf;obtain⟨y0,y1,y2,y3,n,hx,hl,h0,h1,h2,h3⟩:=Go.Joins.trod_struct4 hu h;have c91:prog.cellsOf 166=4:=by kernel_rfl
 have c9:prog.cellsOf 9=1:=by kernel_rfl
 have c3:prog.cellsOf 3=1:=by kernel_rfl
 rw[c91]at hl;obtain⟨a0,a1,a2,a3,rfl⟩:∃ a0 a1 a2 a3,cs=[a0,a1,a2,a3]:=by
  match cs,hl with
  | [a0,a1,a2,a3],_=>exact⟨a0,a1,a2,a3,rfl⟩
 rw[hf.1,hf.2.1,c9]at h0;rw[hf.2.2.1,hf.2.2.2.1,c3]at h1;rw[hf.2.2.2.2.1,hf.2.2.2.2.2.1,c3]at h2;rw[hf.2.2.2.2.2.2.1,hf.2.2.2.2.2.2.2,c3]at h3;obtain⟨s0,e0,x0,_⟩:=DataW.trod_string underlying9 h0;obtain⟨n1,e1,x1,_⟩:=DataW.trod_int underlying3 h1;obtain⟨n2,e2,x2,_⟩:=DataW.trod_int underlying3 h2;obtain⟨n3,e3,x3,_⟩:=DataW.trod_int underlying3 h3;subst x0 x1 x2 x3;simp only[rwD,Prod.mk.injEq,DataW.agg.injEq,List.cons.injEq,DataW.lit.injEq,Lit.string.injEq,Lit.int.injEq,true_and,and_true]at hx;obtain⟨⟨q0,q1,q2,q3⟩,_⟩:=hx;simp at e0 e1 e2 e3;subst e0 e1 e2 e3
 unfold rwV str Z;rw[q0,q1,q2,q3]
theorem zbw{H:Type}{enc:TypeId×Value→H}{w:World}{base:Nat}{spare:Nat→Bool}{held:Bool}{fuel:Nat}{t:TypeId}{cs:List Value}{ds:List (DataW H)}{p:List MemPlace}{n:Nat}{l:List OpR}(hu:prog.underlying t=some (.array n 166))(hct:prog.cellsOf t=n*4)(h:DataW.trod enc prog w base spare held fuel t cs=some (.agg ds,p))(hl:l.length=n)(hds:ds=l.map rwD):cs=l.flatMap rwV:=by
 obtain⟨xs,m,_,hx,hlen,hxn,hel⟩:=DataW.trod_array hu h;simp only[Prod.mk.injEq,DataW.agg.injEq]at hx;have c91:prog.cellsOf 166=4:=by kernel_rfl
 rw[hct]at hlen;rw[c91]at hel;have key:∀ i,i<n→(cs.drop (i*4)).take 4=rwV (l.getD i opD):=fun i hi=>by
  have h1:=hel i hi;rw[List.getElem?_eq_getElem (by omega)]at h1;have h2:(xs[i]'(by omega)).1=rwD (l.getD i opD):=by
   have h3:ds[i]? = some (rwD (l.getD i opD)):=by rw[hds,List.getElem?_map,List.getD_eq_getElem?_getD,List.getElem?_eq_getElem (by omega)];rfl
   rw[hx.1,List.getElem?_map,List.getElem?_eq_getElem (by omega)]at h3;simpa using h3
  generalize xs[i]'(by omega)=y at h1 h2;obtain⟨d,q⟩:=y;simp only[]at h2;subst h2;exact cells_of_trod h1
 apply List.ext_getElem?;intro k;rcases Nat.lt_or_ge k (n*4)with hk|hk
 ·have h1:=key (k/4) (by omega);have h2:=tab_get l (k/4) (k%4) (by omega) (Nat.mod_lt _ (by decide));rw[show 4*(k/4)+k%4=k by omega]at h2;rw[h2,← h1,List.getElem?_take,if_pos (Nat.mod_lt _ (by decide)),List.getElem?_drop,show k/4*4+k%4=k by omega]
 ·rw[List.getElem?_eq_none (by omega),List.getElem?_eq_none (by rw[tab_len];omega)]
theorem zad{P:Program}{w:World}{name:String}{g:Nat}{cs:Array Value}(hg:P.globalNamed name=some g)(hv:World.var? P w name=some cs):∃ t fr,w.heap[g]? = some (.cells cs t fr):=by
 unfold World.var? at hv;rw[hg,Option.bind_some]at hv;split at hv
 ·rename_i c t fr e;obtain rfl:=Option.some.inj hv;exact⟨_,_,e⟩
 ·cases hv
theorem tabs_of_laid{W:World}(h:laidMetH prog laid7 W):TT W:=by
 rw[MakeChecks.laidMetH_plain _ _ _ (by kernel_rfl)]at h;obtain⟨ps,⟨g0,t0,cs0,f0,p0,q0,hg0,ht0,hv0,hd0,⟨g1,t1,cs1,f1,p1,q1,hg1,ht1,hv1,hd1,⟨g2,t2,cs2,f2,p2,q2,hg2,ht2,hv2,hd2,⟨g3,t3,cs3,f3,p3,q3,hg3,ht3,hv3,hd3,⟨g4,t4,cs4,f4,p4,q4,hg4,ht4,hv4,hd4,⟨g5,t5,cs5,f5,p5,q5,hg5,ht5,hv5,hd5,⟨g6,t6,cs6,f6,p6,q6,hg6,ht6,hv6,hd6,_,_⟩,_⟩,_⟩,_⟩,_⟩,_⟩,_⟩,_,_⟩:=h;obtain rfl:=Option.some.inj (gTurns.symm.trans hg0);obtain rfl:=Option.some.inj (gPlaces.symm.trans hg1);obtain rfl:=Option.some.inj (gMarks.symm.trans hg2);obtain rfl:=Option.some.inj (gStop.symm.trans hg3)
 obtain rfl:=Option.some.inj (gLess.symm.trans hg4);obtain rfl:=Option.some.inj (gInput.symm.trans hg5);obtain rfl:=Option.some.inj (gPop.symm.trans hg6);obtain rfl:=Option.some.inj (tTurns.symm.trans ht0);obtain rfl:=Option.some.inj (tPlaces.symm.trans ht1);obtain rfl:=Option.some.inj (tMarks.symm.trans ht2);obtain rfl:=Option.some.inj (tStop.symm.trans ht3);obtain rfl:=Option.some.inj (tLess.symm.trans ht4);obtain rfl:=Option.some.inj (tInput.symm.trans ht5);obtain rfl:=Option.some.inj (tPop.symm.trans ht6);have c3:prog.cellsOf 3=1:=by kernel_rfl
 have c36:prog.cellsOf 23=1:=by kernel_rfl
 have c152:prog.cellsOf 218=25:=by kernel_rfl
 have c154:prog.cellsOf 220=24:=by kernel_rfl
 have e0:=zdx underlying218 underlying3 c3 c152 hd0 htn (by kernel_rfl);have e1:=zdx underlying218 underlying3 c3 c152 hd1 pl (by kernel_rfl);have e2:=zdx underlying220 underlying23 c36 c154 hd2 ki (by kernel_rfl);have e3:=zbw (l:=stopL) underlying182 (by kernel_rfl) hd3 rfl (by kernel_rfl);have e4:=zbw (l:=lessL) underlying183 (by kernel_rfl) hd4 rfl (by kernel_rfl);have e5:=zbw (l:=inputL) underlying184 (by kernel_rfl) hd5 rfl (by kernel_rfl)
 have e6:=zbw (l:=popL) underlying185 (by kernel_rfl) hd6 rfl (by kernel_rfl);obtain⟨x0,fr0,b0⟩:=zad hg0 hv0;obtain⟨x1,fr1,b1⟩:=zad hg1 hv1;obtain⟨x2,fr2,b2⟩:=zad hg2 hv2;obtain⟨x3,fr3,b3⟩:=zad hg3 hv3;obtain⟨x4,fr4,b4⟩:=zad hg4 hv4;obtain⟨x5,fr5,b5⟩:=zad hg5 hv5;obtain⟨x6,fr6,b6⟩:=zad hg6 hv6;have a0:=Array.toList_inj.1 e0;have a1:=Array.toList_inj.1 e1;have a2:=Array.toList_inj.1 e2;have a3:cs3=tabC stopL:=Array.toList_inj.1 e3;have a4:cs4=tabC lessL:=Array.toList_inj.1 e4;have a5:cs5=tabC inputL:=Array.toList_inj.1 e5
 have a6:cs6=tabC popL:=Array.toList_inj.1 e6;exact⟨⟨⟨x3,fr3,by rw[b3,a3]⟩,⟨x4,fr4,by rw[b4,a4]⟩,⟨x5,fr5,by rw[b5,a5]⟩,⟨x6,fr6,by rw[b6,a6]⟩⟩,⟨⟨x2,fr2,by rw[b2,a2]⟩,⟨x0,fr0,by rw[b0,a0]⟩,⟨x1,fr1,by rw[b1,a1]⟩⟩⟩
theorem door_met(os:Os)(args:Array Value):laidMetH prog laid7 ((World.laidAll prog os laid7).forCall (fun _ _=>0) ⟨#[],args,[]⟩).memory:=by
 rw[MakeChecks.laidMetH_plain _ _ _ (by kernel_rfl)];exact laidMet_laidAll _ (by kernel_rfl) (by kernel_rfl)
end
end Go.Proofs.YthkpgfbjdabflaaGreatDoor
