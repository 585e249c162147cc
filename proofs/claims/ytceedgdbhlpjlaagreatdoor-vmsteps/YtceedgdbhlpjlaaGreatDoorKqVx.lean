/- Out of Vx. -/
import Derived.Test.YtceedgdbhlpjlaaGreatDoorKqVo
import Derived.Test.YtceedgdbhlpjlaaGreatDoorKqOp
import Derived.ReadAgain
import Derived.Deep.Slices
import Derived.Lib.SmallJoins
import Derived.ChangeShapes
namespace Go.Proofs.YtceedgdbhlpjlaaGreatDoor
open Go.RowKit Go.Sort Go.Proofs.Tryz
set_option linter.unusedVariables false
set_option maxRecDepth 100000
set_option maxHeartbeats 4000000
section
open Go.RowKit Go.Sort Go.ChangeShapes Go.WideShapes Go.ChangeAt
theorem pick_list{α:Type}{P:Nat→α→Prop}:∀ n:Nat,(∀ i,i<n→∃ x,P i x)→∃ l:List α,l.length=n∧∀ i x,l[i]? = some x→P i x
 | 0,_=>⟨[],rfl,fun i x h=>by simp at h⟩
 | n+1,h=>by
  obtain⟨l,h1,h2⟩:=pick_list n fun i hi=>h i (by omega)
  obtain⟨y,hy⟩:=h n (by omega);refine⟨l++[y],by simp[h1],fun i x hx=>?_⟩;rcases Nat.lt_or_ge i n with hi | hi
  ·rw[List.getElem?_append_left (by omega)]at hx;exact h2 i x hx
  ·have hlt:=(List.getElem?_eq_some_iff.1 hx).1;rw[List.length_append,List.length_singleton]at hlt;obtain rfl:i=n:=by omega
   rw[List.getElem?_append_right (by omega),h1,Nat.sub_self]at hx;simp only[List.getElem?_cons_zero,Option.some.injEq]at hx;subst hx;exact hy
section
variable {H:Type} {enc:TypeId×Value→H} {w:World} {base:Nat} {spare:Nat→Bool} {held:Bool}
theorem num_cs{fuel:Nat}{cs:List Value}{x:DataW H×List MemPlace}(hl:cs.length=4)(h:DataW.trod enc prog w base spare held fuel 38 cs=some x):∃ n,n<W∧cs=uc n:=by
 match cs,hl with
 | [c0,c1,c2,c3],_=>
  obtain⟨y0,y1,y2,y3,m,hx,h0,h1,h2,h3⟩:=trod_array4 underlying38 cellsA22 h;obtain⟨a0,e0,rfl,w0⟩:=DataW.trod_int underlying36 h0;obtain⟨a1,e1,rfl,w1⟩:=DataW.trod_int underlying36 h1;obtain⟨a2,e2,rfl,w2⟩:=DataW.trod_int underlying36 h2;obtain⟨a3,e3,rfl,w3⟩:=DataW.trod_int underlying36 h3;simp only[List.cons.injEq,and_true]at e0 e1 e2 e3;subst e0 e1 e2 e3;obtain⟨k0,rfl,g0⟩:=wf_u64 w0;obtain⟨k1,rfl,g1⟩:=wf_u64 w1;obtain⟨k2,rfl,g2⟩:=wf_u64 w2;obtain⟨k3,rfl,g3⟩:=wf_u64 w3
  exact⟨mk k0 k1 k2 k3,mk_lt _ _ _ _ g0 g1 g2 g3,by rw[uc,l0_mk _ _ _ _ g0,l1_mk _ _ _ _ g0 g1,l2_mk _ _ _ _ g0 g1 g2,l3_mk _ _ _ _ g0 g1 g2 g3]⟩
theorem stack_of{fuel:Nat}{v:Value}{x:DataW H×List MemPlace}(h:DataW.trod enc prog w base spare held fuel 22 [v]=some x):∃(s:List Nat) (ad:Option Addr) (cap:Nat),v=.slice ad s.length cap∧s.length≤cap∧(∀ u∈s,u<W)∧SkR w (.slice ad s.length cap) s:=by
 rcases Go.Deep.open_slice underlying22 h with⟨h0,_⟩|⟨a,len,cap,m,k,D,Pl,h0,hb,hl,hm,hmm,_,hx⟩
 ·simp only[List.cons.injEq,and_true]at h0;subst h0;exact⟨[],none,0,rfl,Nat.le_refl _,fun u hu=>by simp at hu,none,0,rfl,fun j hj=>absurd hj (Nat.not_lt_zero j)⟩
 ·simp only[List.cons.injEq,and_true]at h0;subst h0;have hle:len≤m:=by rw[hmm];split<;>omega
  have hat:∀ i,i<len→∃ u:Nat,u<W∧∀ j c,(uc u)[j]? = some c→w.cell? ((a.add (i*4)).add j)=some c:=by
   intro i hi;obtain⟨cs',h1,h2⟩:=hx i (by omega);rw[cellsA24]at h1;obtain⟨_,hlen,hcs⟩:=World.cells?_some h1;obtain⟨u,hu,rfl⟩:=num_cs hlen h2;refine⟨u,hu,fun j c hj=>?_⟩;rw[hcs j (by have:=(List.getElem?_eq_some_iff.1 hj).1;omega)];exact hj
  obtain⟨l,hl1,hl2⟩:=pick_list len hat;subst hl1;refine⟨l.reverse,some a,cap,by rw[List.length_reverse],by rw[List.length_reverse];exact hl,fun u hu=>?_,some a,cap,rfl,fun j hj=>?_⟩
  ·rw[List.mem_reverse]at hu;obtain⟨i,hi⟩:=List.getElem?_of_mem hu;exact(hl2 i u hi).1
  ·rw[List.length_reverse]at hj;have hj':l[j]? = some l[j]:=List.getElem?_eq_getElem hj;have e:tp l.reverse (l.reverse.length-1-j)=l[j]:=by
    unfold tp;rw[List.length_reverse,List.getD_eq_getElem?_getD,List.getElem?_reverse (by omega),show l.length-1-(l.length-1-j)=j by omega,hj'];rfl
   rw[e];obtain⟨hu,hc⟩:=hl2 j _ hj';have hspot:a.spot=none:=by
    have:=(hl2 0 _ (List.getElem?_eq_getElem (by omega))).2 0 _ rfl;simp only[Nat.zero_mul,Addr.add,if_true]at this;unfold World.cell? at this;cases hg:w.heap[a.block]? with
    | none=>simp[hg]at this
    | some o=>
     cases hq:a.spot with
     | none=>rfl
     | some q=>cases o<;>simp[hg,hq]at this
   have ha:a=⟨a.block,a.off,none⟩:=by cases a;simp only at hspot;rw[hspot]
   refine⟨a.block,a.off,by rw[← ha],fun i c hi=>?_⟩;have:=hc i c hi;rw[ha,kh,kh]at this;exact this
theorem open_frame{r:Reach}{b0:Nat}{v:Value}{d:DataW H}{p:List MemPlace}(hv:Value.okWide prog w r b0 25 v)(h:DataW.Trod enc prog w base spare held 25 v d p):∃(f:Fr) (ad:Option Addr) (cap:Nat),v=frV f (.slice ad f.st.length cap)∧f.st.length≤cap∧(∀ u∈f.st,u<W)∧SkR w (.slice ad f.st.length cap) f.st:=by
 obtain⟨cs,rfl,hsz⟩:=okWide_struct underlying25 hv;obtain⟨fuel,hf⟩:=h;obtain⟨xs,n,_,hx,hl,hlen,hfl⟩:=DataW.trod_struct underlying25 hf;have h9:prog.cellsOf 25=9:=by kernel_rfl
 have k9:prog.cellsOf 9=1:=by kernel_rfl
 have k22:prog.cellsOf 22=1:=by kernel_rfl
 have k3:prog.cellsOf 3=1:=by kernel_rfl
 have k23:prog.cellsOf 23=1:=by kernel_rfl
 rw[h9]at hsz;obtain⟨cs⟩:=cs
 match cs,hsz with
 | [a0,a1,a2,a3,a4,a5,a6,a7,a8],_=>
  match xs,hlen with
  | [y0,y1,y2,y3,y4,y5,y6,y7,y8],_=>
   have f0:DataW.trod enc prog w base spare held n 9 [a0]=some y0:=by have q:DataW.trod enc prog w base spare held n 9 (([a0,a1,a2,a3,a4,a5,a6,a7,a8].drop 0).take (prog.cellsOf 9))=some y0:=hfl 0 _ rfl;rw[k9]at q;exact q
   have f1:DataW.trod enc prog w base spare held n 9 [a1]=some y1:=by have q:DataW.trod enc prog w base spare held n 9 (([a0,a1,a2,a3,a4,a5,a6,a7,a8].drop 1).take (prog.cellsOf 9))=some y1:=hfl 1 _ rfl;rw[k9]at q;exact q
   have f2:DataW.trod enc prog w base spare held n 22 [a2]=some y2:=by have q:DataW.trod enc prog w base spare held n 22 (([a0,a1,a2,a3,a4,a5,a6,a7,a8].drop 2).take (prog.cellsOf 22))=some y2:=hfl 2 _ rfl;rw[k22]at q;exact q
   have f3:DataW.trod enc prog w base spare held n 9 [a3]=some y3:=by have q:DataW.trod enc prog w base spare held n 9 (([a0,a1,a2,a3,a4,a5,a6,a7,a8].drop 3).take (prog.cellsOf 9))=some y3:=hfl 3 _ rfl;rw[k9]at q;exact q
   have f4:DataW.trod enc prog w base spare held n 3 [a4]=some y4:=by have q:DataW.trod enc prog w base spare held n 3 (([a0,a1,a2,a3,a4,a5,a6,a7,a8].drop 4).take (prog.cellsOf 3))=some y4:=hfl 4 _ rfl;rw[k3]at q;exact q
   have f5:DataW.trod enc prog w base spare held n 3 [a5]=some y5:=by have q:DataW.trod enc prog w base spare held n 3 (([a0,a1,a2,a3,a4,a5,a6,a7,a8].drop 5).take (prog.cellsOf 3))=some y5:=hfl 5 _ rfl;rw[k3]at q;exact q
   have f6:DataW.trod enc prog w base spare held n 3 [a6]=some y6:=by have q:DataW.trod enc prog w base spare held n 3 (([a0,a1,a2,a3,a4,a5,a6,a7,a8].drop 6).take (prog.cellsOf 3))=some y6:=hfl 6 _ rfl;rw[k3]at q;exact q
   have f7:DataW.trod enc prog w base spare held n 23 [a7]=some y7:=by have q:DataW.trod enc prog w base spare held n 23 (([a0,a1,a2,a3,a4,a5,a6,a7,a8].drop 7).take (prog.cellsOf 23))=some y7:=hfl 7 _ rfl;rw[k23]at q;exact q
   have f8:DataW.trod enc prog w base spare held n 9 [a8]=some y8:=by have q:DataW.trod enc prog w base spare held n 9 (([a0,a1,a2,a3,a4,a5,a6,a7,a8].drop 8).take (prog.cellsOf 9))=some y8:=hfl 8 _ rfl;rw[k9]at q;exact q
   obtain⟨s0,e0,_,_⟩:=DataW.trod_string underlying9 f0;obtain⟨s1,e1,_,_⟩:=DataW.trod_string underlying9 f1;obtain⟨s,ad,cap,rfl,hc,hn,hk⟩:=stack_of f2;obtain⟨s3,e3,_,_⟩:=DataW.trod_string underlying9 f3;obtain⟨i4,e4,_,_⟩:=DataW.trod_int underlying3 f4;obtain⟨i5,e5,_,_⟩:=DataW.trod_int underlying3 f5;obtain⟨i6,e6,_,_⟩:=DataW.trod_int underlying3 f6;obtain⟨i7,e7,_,_⟩:=DataW.trod_int underlying23 f7;obtain⟨s8,e8,_,_⟩:=DataW.trod_string underlying9 f8;simp only[List.cons.injEq,and_true]at e0 e1 e3 e4 e5 e6 e7 e8;subst e0 e1 e3 e4 e5 e6 e7 e8
   exact⟨⟨s0.data.toList,s1.data.toList,s,s3.data.toList,i4,i5,i6,i7,s8.data.toList⟩,ad,cap,rfl,hc,hn,hk⟩
theorem reread{W':World}{ts:List TypeId}{vs:List Value}{ds:List (DataW H)}{p:List MemPlace}(hts:(ts.all fun t=>decide (t<prog.types.size))=true)(h:DataW.TrodAll enc prog w 0 (fun _=>true) true ts vs ds p)(hb:Below w.heap.size w W'):DataW.TrodAll enc prog W' 0 (fun b=>decide (b<w.heap.size)) true ts vs ds p:=by
 have hlt:=DataW.TrodAll.lt h;have h1:DataW.TrodAll enc prog w 0 (fun b=>decide (b<w.heap.size)) true ts vs ds p:=DataW.TrodAll.respare (kids_rows (by kernel_rfl) (by kernel_rfl)) (slices_full_of _ (by kernel_rfl)) (fun t ht=>by simpa using List.all_eq_true.1 hts t ht) h (fun q hq=>by simpa using hlt q hq);have carry:∀{ts:List TypeId} {vs:List Value} {ds:List (DataW H)} {p:List MemPlace},(∀ q∈p,q.block<w.heap.size)→DataW.TrodAll enc prog w 0 (fun b=>decide (b<w.heap.size)) true ts vs ds p→DataW.TrodAll enc prog W' 0 (fun b=>decide (b<w.heap.size)) true ts vs ds p:=by
  intro ts
  induction ts with
  | nil=>intro vs ds p _ h;cases vs<;>cases ds<;>first | exact h | exact h.elim
  | cons t ts ih=>
   intro vs ds p hp h;cases vs with
   | nil=>cases ds<;>exact h.elim
   | cons v vs=>
    cases ds with
    | nil=>exact h.elim
    | cons d ds=>
     obtain⟨p1,q1,⟨n,hn⟩,h2,rfl⟩:=h;refine⟨p1,q1,⟨n,DataW.trod_carry n t _ _ hn fun q hq=>?_⟩,ih (fun q hq=>hp q (List.mem_append_right _ hq)) h2,rfl⟩;have hql:=hp q (List.mem_append_left _ hq);cases q with
     | cell b off=>simp only[World.sameAt,World.cell?,hb.block b hql]
     | map b=>exact hb.block b hql
 exact carry hlt h1
end
end
end Go.Proofs.YtceedgdbhlpjlaaGreatDoor
