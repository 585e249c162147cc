/- Out of Tz. -/
import Derived.Test.YtdeompgdhaomgaaGreatDoorKtTe
namespace Go.Proofs.YtdeompgdhaomgaaGreatDoor
open Go.RowKit Go.Sort Go.Proofs.Tryz
set_option linter.unusedVariables false
set_option maxRecDepth 100000
set_option maxHeartbeats 4000000
section
open Go.RowKit Go.Sort Go.ChangeShapes Go.WideShapes Go.ChangeAt
theorem pick_list{α:Type}{P:Nat→α→Prop}:∀ n:Nat,(∀ i,i<n→∃ x,P i x)→∃ l:List α,l.length=n∧∀ i x,l[i]? = some x→P i x
 | 0,_=>⟨[],rfl,fun i x h=>by simp at h⟩
 | n+1,h=>by
  obtain⟨l,h1,h2⟩:=pick_list n fun i hi=>h i (by omega)
  obtain⟨y,hy⟩:=h n (by omega);refine⟨l++[y],by simp[h1],fun i x hx=>?_⟩;rcases Nat.lt_or_ge i n with hi | hi
  ·rw[List.getElem?_append_left (by omega)]at hx;exact h2 i x hx
  ·have hlt:=(List.getElem?_eq_some_iff.1 hx).1;rw[List.length_append,List.length_singleton]at hlt;obtain rfl:i=n:=by omega
   rw[List.getElem?_append_right (by omega),h1,Nat.sub_self]at hx;simp only[List.getElem?_cons_zero,Option.some.injEq]at hx;subst hx;exact hy
section
variable {H:Type} {enc:TypeId×Value→H} {w:World} {base:Nat} {spare:Nat→Bool} {held:Bool}
theorem sl_of{α:Type}{t e sz:Nat}(C:Cl α)(hu:prog.underlying t=some (.slice e))(hc:prog.cellsOf e=sz)(hs:0<sz)(hone:∀{fuel:Nat} {cs:List Value} {x:DataW H×List MemPlace},DataW.trod enc prog w base spare held fuel e cs=some x→∃ y:α,C (· < w.heap.size) w y cs){fuel:Nat}{v:Value}{x:DataW H×List MemPlace}(h:DataW.trod enc prog w base spare held fuel t [v]=some x):∃ l:List α,SlI sz C (· < w.heap.size) w v l∧∃ ad cap,v=.slice ad l.length cap∧l.length≤cap:=by
 rcases Go.Deep.open_slice hu h with⟨h0,_⟩|⟨a,len,cap,m,k,D,Pl,h0,hb,hl,hm,hmm,_,hx⟩
 ·simp only[List.cons.injEq,and_true]at h0;subst h0;exact⟨[],SlI.nil _ _,none,0,rfl,Nat.le_refl _⟩
 ·simp only[List.cons.injEq,and_true]at h0;subst h0;have hle:len≤m:=by rw[hmm];split<;>omega
  have hat:∀ i,i<len→∃ y:α,∃ cs,cs.length=sz∧(∀ j c,cs[j]? = some c→w.cell? ((a.add (i*sz)).add j)=some c)∧C (· < w.heap.size) w y cs:=by
   intro i hi;obtain⟨cs',h1,h2⟩:=hx i (by omega);obtain⟨y,hy⟩:=hone h2;rw[hc]at h1;obtain⟨_,hlen,hcs⟩:=World.cells?_some h1;refine⟨y,cs',hlen,fun j c hj=>?_,hy⟩;rw[hcs j (by have:=(List.getElem?_eq_some_iff.1 hj).1;omega)];exact hj
  obtain⟨l,hl1,hl2⟩:=pick_list len hat;subst hl1;refine⟨l,⟨some a,cap,rfl,fun i x hi=>?_⟩,some a,cap,rfl,hl⟩;have hspot:a.spot=none∧a.block<w.heap.size:=by
   obtain⟨y,cs,h1,h2,_⟩:=hat 0 (by have:=(List.getElem?_eq_some_iff.1 hi).1;omega);obtain⟨c,hc0⟩:∃ c,cs[0]? = some c:=⟨_,List.getElem?_eq_getElem (by omega)⟩
   have:=h2 0 c hc0;simp only[Nat.zero_mul,Addr.add,if_true]at this;unfold World.cell? at this;cases hg:w.heap[a.block]? with
   | none=>simp[hg]at this
   | some o=>
    refine⟨?_,(Array.getElem?_eq_some_iff.1 hg).1⟩;cases hq:a.spot with
    | none=>rfl
    | some q=>cases o<;>simp[hg,hq]at this
  obtain⟨cs,h1,h2,h3⟩:=hl2 i x hi;have ha:a=⟨a.block,a.off,none⟩:=by cases a;simp only at hspot;rw[hspot.1]
  refine⟨a.block,a.off,cs,by rw[← ha],hspot.2,fun j c hj=>?_,h3⟩;have:=h2 j c hj;rw[ha,xz,xz]at this;exact this
theorem k36:prog.cellsOf 45=1:=by kernel_rfl
theorem k38:prog.cellsOf 47=2:=by kernel_rfl
theorem k59:prog.cellsOf 133=8:=by kernel_rfl
theorem k33:prog.cellsOf 57=4:=by kernel_rfl
theorem text_raw{fuel:Nat}{cs:List Value}{x:DataW H×List MemPlace}(h:DataW.trod enc prog w base spare held fuel 9 cs=some x):∃ y:ByteArray,CS (· < w.heap.size) w y cs:=by
 obtain⟨s,e,_,_⟩:=DataW.trod_string underlying9 h;exact⟨s,e⟩
theorem al_raw{fuel:Nat}{cs:List Value}{x:DataW H×List MemPlace}(h:DataW.trod enc prog w base spare held fuel 133 cs=some x):∃ y:Al,CA (· < w.heap.size) w y cs:=by
 obtain⟨xs,n,_,hx,hl,hlen,hf⟩:=DataW.trod_struct underlying133 h;rw[k59]at hl
 match cs,hl with
 | [a0,a1,a2,a3,a4,a5,a6,a7],_=>
  match xs,hlen with
  | [y0,y1,y2,y3,y4],_=>
   have h0:DataW.trod enc prog w base spare held n 9 (([a0,a1,a2,a3,a4,a5,a6,a7].drop 0).take (prog.cellsOf 9))=some y0:=hf 0 _ rfl;have h1:DataW.trod enc prog w base spare held n 57 (([a0,a1,a2,a3,a4,a5,a6,a7].drop 1).take (prog.cellsOf 57))=some y1:=hf 1 _ rfl;have h2:DataW.trod enc prog w base spare held n 3 (([a0,a1,a2,a3,a4,a5,a6,a7].drop 5).take (prog.cellsOf 3))=some y2:=hf 2 _ rfl;have h3:DataW.trod enc prog w base spare held n 9 (([a0,a1,a2,a3,a4,a5,a6,a7].drop 6).take (prog.cellsOf 9))=some y3:=hf 3 _ rfl
   have h4:DataW.trod enc prog w base spare held n 9 (([a0,a1,a2,a3,a4,a5,a6,a7].drop 7).take (prog.cellsOf 9))=some y4:=hf 4 _ rfl;rw[c9]at h0 h3 h4;rw[k33]at h1;rw[c3]at h2;obtain⟨s0,e0,_,_⟩:=DataW.trod_string underlying9 h0;obtain⟨u,hu,q1,q2,q3,q4⟩:=num_raw h1;obtain⟨k,e2,_,_⟩:=DataW.trod_int underlying3 h2;obtain⟨s3,e3,_,_⟩:=DataW.trod_string underlying9 h3;obtain⟨s4,e4,_,_⟩:=DataW.trod_string underlying9 h4;simp only[List.drop_zero,List.take_succ_cons,List.take_zero,List.cons.injEq,and_true]at e0
   simp only[List.drop_succ_cons,List.drop_zero,List.take_succ_cons,List.take_zero,List.cons.injEq,and_true]at e2 e3 e4;subst e0 q1 q2 q3 q4 e2 e3 e4;exact⟨(s0,u,k,s3,s4),rfl,hu⟩
theorem ex_raw{fuel:Nat}{cs:List Value}{x:DataW H×List MemPlace}(h:DataW.trod enc prog w base spare held fuel 47 cs=some x):∃ y:Ex,CE (· < w.heap.size) w y cs:=by
 obtain⟨xs,n,_,hx,hl,hlen,hf⟩:=DataW.trod_struct underlying47 h;rw[k38]at hl
 match cs,hl with
 | [a0,a1],_=>
  match xs,hlen with
  | [y0,y1],_=>
   have h0:DataW.trod enc prog w base spare held n 9 (([a0,a1].drop 0).take (prog.cellsOf 9))=some y0:=hf 0 _ rfl;have h1:DataW.trod enc prog w base spare held n 45 (([a0,a1].drop 1).take (prog.cellsOf 45))=some y1:=hf 1 _ rfl;rw[c9]at h0;rw[k36]at h1;obtain⟨s0,e0,_,_⟩:=DataW.trod_string underlying9 h0;simp only[List.drop_zero,List.take_succ_cons,List.take_zero,List.cons.injEq,and_true]at e0;subst e0;obtain⟨l,hl,_⟩:=sl_of CA underlying45 k59 (by omega) al_raw h1;exact⟨(s0,l),a1,rfl,hl⟩
end
end
end Go.Proofs.YtdeompgdhaomgaaGreatDoor
