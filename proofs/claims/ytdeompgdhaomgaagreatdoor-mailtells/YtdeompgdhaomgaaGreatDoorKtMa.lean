/- Out of Ma. -/
import Derived.Test.YtdeompgdhaomgaaGreatDoorKtTa
namespace Go.Proofs.YtdeompgdhaomgaaGreatDoor
open Go.RowKit Go.Sort Go.Proofs.Tryz
set_option linter.unusedVariables false
set_option maxRecDepth 100000
set_option maxHeartbeats 4000000
abbrev Se:Type:=Nat×Nat×Bool
def sl9 (s:Se):List Value:=[B (l0 s.1),B (l1 s.1),B (l2 s.1),B (l3 s.1),B (l0 s.2.1),B (l1 s.2.1),B (l2 s.2.1),B (l3 s.2.1),.bool s.2.2]
abbrev slV (s:Se):Value:=.agg (sl9 s).toArray
abbrev mkB (o:Bool):UInt8:=if o then 1 else 0
def wrS (s:Se):List UInt8:=wb s.1++wb s.2.1++[mkB s.2.2]
def zSe:Se:=(0,0,false)
def rdS (S:List UInt8):Option Se:=if S.length=65∧(S[64]?.getD 2).toNat≤1 then some (nm (S.take 32),nm ((S.take 64).drop 32),decide (S[64]?.getD 2=1))else none
theorem wrS_len(s:Se):(wrS s).length=65:=by
 unfold wrS;rw[List.length_append,List.length_append,zx,zx];rfl
theorem wrS_back{S:List UInt8}{s:Se}(h:rdS S=some s):wrS s=S∧s.1<W∧s.2.1<W:=by
 unfold rdS at h;split at h
 ·next hc=>
  obtain⟨hl,hb⟩:=hc;cases h;have l1:(S.take 32).length=32:=by rw[List.length_take];omega
  have l2:((S.take 64).drop 32).length=32:=by rw[List.length_drop,List.length_take];omega
  refine⟨?_,nm_lt _ (by omega),nm_lt _ (by omega)⟩;unfold wrS;simp only[];rw[wb_nm _ l1,wb_nm _ l2];obtain⟨b,hb64⟩:∃ b,S[64]? = some b:=⟨_,List.getElem?_eq_getElem (by omega)⟩
  rw[hb64]at hb ⊢;simp only[Option.getD_some]at hb ⊢;have hm:mkB (decide (b=1))=b:=by
   by_cases h1:b=1
   ·rw[h1];rfl
   ·rw[decide_eq_false h1];have h0:b.toNat=0:=by
     have:b.toNat≠1:=fun e=>h1 (UInt8.toNat_inj.1 e)
     omega
    exact(UInt8.toNat_inj.1 h0).symm
  rw[hm];have e3:S.drop 64=[b]:=by
   have hlt:64<S.length:=by omega
   rw[List.drop_eq_getElem_cons hlt,List.drop_of_length_le (by omega)];rw[List.getElem?_eq_getElem hlt]at hb64;cases hb64;rfl
  have e1:S.take 32++(S.take 64).drop 32=S.take 64:=by
   have:=List.take_append_drop 32 (S.take 64)
   rwa [List.take_take]at this
  rw[e1,← e3,List.take_append_drop]
 ·cases h
abbrev P10 (s:Se) (v:Value):Array Value:=#[B (l0 s.1),B (l1 s.1),B (l2 s.1),B (l3 s.1),B (l0 s.2.1),B (l1 s.2.1),B (l2 s.2.1),B (l3 s.2.1),.bool s.2.2,v]
abbrev ptr9 (g:Nat):Value:=.pointer (some ⟨g,9,none⟩)
structure Pg (W0:World) (g:Nat) (s:Se) (v:Value) (l:List UInt8) (w:World):Prop where
 bw:Below W0.heap.size W0 w
 hg:W0.heap.size≤g
 row:zb w g (P10 s v)
 own:w.ownsRow (g+1) 5 1 v l.length (bc l)
structure PgP (W0:World) (g:Nat) (s:Se) (v:Value) (w:World) (v':Value) (l':List UInt8) (w':World):Prop where
 pg:Pg W0 g s v' l' w'
 gr:zi (fun k=>¬ WF W0.heap.size g v k) w w'
 nb:∀ k,v'.ownBlock=some k→v.ownBlock=some k∨w.heap.size≤k
theorem Pg.start{W0:World}{g:Nat}{s:Se}{v:Value}{l:List UInt8}{w:World}(h:Pg W0 g s v l w):WS W0 w g v v l w:=⟨h.bw,h.hg,h.row.lt,h.own,zi.refl _ _,fun k hk=>.inl hk⟩
theorem WS.doneP{W0 wE:World}{g:Nat}{s:Se}{v0 v:Value}{l:List UInt8}{w:World}(h:WS W0 wE g v0 v l w)(hr:zb w g (P10 s v)):PgP W0 g s v0 wE v l w:=⟨⟨h.bw,h.hg,hr,h.own⟩,h.gr,h.nb⟩
section
variable {P:Program} {J:World→Prop} {F:Nat→Prop} {w:World}
theorem inP{f:Nat}{fn:Func}{g:Nat}{r:Array Value}(vs:List Value){Rt:Ending→World→Prop}(hf:P.funcs[f]? = some fn)(hJ:J w)(hr:zb w g r)(hd:¬ F g)(k:∀ a,SI J F [] (fun _=>g) (cfR fn (Sum.inr (0,9)::vs.map Sum.inl) [(0,r)] 1) a w→At P (bodyPost P fn Rt) (cfR fn (Sum.inr (0,9)::vs.map Sum.inl) [(0,r)] 1) a w)(hb:fn.body.isSome=true:=by kernel_rfl)(hids:xo ((Sum.inr (0,9)::vs.map Sum.inl).map some) 1=true:=by kernel_rfl):Calls P f (ptr9 g::vs).toArray w Rt:=by
 have h:=inR (P:=P) (J:=J) (F:=F) (β:=fun _=>g) (f:=f) (fn:=fn) (Sum.inr (0,9)::vs.map Sum.inl) (rows:=[(0,r)]) (nx:=1) (Rt:=Rt) hf hJ (by intro p hp;simp only[List.mem_singleton]at hp;subst hp;exact hr) (by intro p hp;exact hd)
  (by intro p hp q hq hpq;simp only[List.mem_singleton]at hp hq;subst hp;subst hq;exact absurd rfl hpq) k (by intro p hp;simp only[List.mem_singleton]at hp;subst hp;exact Nat.one_pos) hb hids
 have e:((Sum.inr (0,9)::vs.map Sum.inl).map (up fun _=>g))=ptr9 g::vs:=by
  simp only[List.map_cons,List.map_map,up,List.cons.injEq];exact⟨trivial,List.map_id _⟩
 rw[e]at h;exact h
end
theorem pnumber_any{W0:World}{g:Nat}{s:Se}{v:Value}{l:List UInt8}{w:World}(h:Pg W0 g s v l w)(n:Nat)(hl:l.length≤1000) :
  Calls prog 87 #[ptr9 g,U n] w fun e w'=>e=.returned T0∧∃ v',PgP W0 g s v w v' (l++wb n) w':=by
 refine inP (J:=WS W0 w g v v l) (F:=WSF w g v) [U n] func87 h.start h.row h.start.not fun a I=>?_;refine goQ [] (WS.rs _ _ _ _ _ _) I fun β a w0 I hb=>?_;have hb0:β 0=g:=agr hb 0 rfl;refine dwQ 7 [kC func120 (zdh n)] (WS.rs _ _ _ _ _ _) zd.post I fun a w1 I=>?_;have hz:(vd n).size=32:=vy n;obtain⟨v',w',hr,ho,hg⟩:=app_str I.hJ.own (by have:=I.hJ.lt;have:=I.hJ.gr.size;omega) (vd n) (by omega);rw[hz]at ho;obtain⟨ad,cap,rfl⟩:=z4 ho;refine appQ (ss:=[Sum.inl v,Sum.inl (.string (vd n))]) I hr ?_
 refine goQ [] (WS.rs _ _ _ _ _ _) (I.grown (l':=l++wb n) (by have:=zx n;simpa [strC,this]using ho) hg _) fun β2 a2 w2 I2 hb2=>?_;have hb20:β2 0=g:=agr hb2 0 hb0;exact out0 I2 ⟨rfl,_,I2.hJ.doneP (I2.rowG 0 hb20 (r:=P10 s (.slice ad (l.length+32) cap)))⟩
theorem bs_u8(k:Int)(w:World):(Instr.buildSlice 104 1 #[(0,.int .u8 k)]).run prog w=.ok (.slice (some ⟨w.heap.size,0,none⟩) 1 1) (w.alloc (.cells [Value.int .u8 k].toArray 5)):=by simp[go_sem]
theorem pmark_any{W0:World}{g:Nat}{s:Se}{v:Value}{l:List UInt8}{w:World}(h:Pg W0 g s v l w)(o:Bool)(hl:l.length≤1000) :
  Calls prog 88 #[ptr9 g,.bool o] w fun e w'=>e=.returned T0∧∃ v',PgP W0 g s v w v' (l++[mkB o]) w':=by
 refine inP (J:=WS W0 w g v v l) (F:=WSF w g v) [.bool o] func88 h.start h.row h.start.not fun a I=>?_;cases o with
 | false=>
  refine goQ [] (WS.rs _ _ _ _ _ _) I fun β a w1 I hb=>?_;have hb0:β 0=g:=agr hb 0 rfl;refine bslQ (ss:=[(0,Sum.inl (.int .u8 0))]) I (bs_u8 0 w1) ?_;have I:=I.alloc (WS.rs _ _ _ _ _ _) (.cells [Value.int .u8 0].toArray 5) (.slice (some ⟨w1.heap.size,0,none⟩) 1 1);obtain⟨inf,hi1,hi2,hi3,hi4⟩:=hI5;obtain⟨v',w',hr,ho,hg⟩:=km underlying104 hi1 hi2 hi3 hi4 rfl (by decide) (by decide) I.hJ.own (by have:=I.hJ.lt;have:=I.hJ.gr.size;omega) ⟨w1.heap.size,0,none⟩ [.int .u8 0] rfl (xu w1 _ 5) (by intro u hu;simp only[List.mem_singleton]at hu;subst hu;rfl) (by omega)
  obtain⟨ad,cap,rfl⟩:=z4 ho;refine appQ (ss:=[Sum.inl v,Sum.inl (.slice (some ⟨w1.heap.size,0,none⟩) 1 1)]) I hr ?_;refine goQ [] (WS.rs _ _ _ _ _ _) (I.grown (l':=l++[mkB false]) (by simpa [bc,mkB]using ho) hg _) fun β2 a2 w2 I2 hb2=>?_;have hb20:β2 0=g:=agr hb2 0 hb0;exact out0 I2 ⟨rfl,_,I2.hJ.doneP (I2.rowG 0 hb20 (r:=P10 s (.slice ad (l.length+1) cap)))⟩
 | true=>
  refine goQ [] (WS.rs _ _ _ _ _ _) I fun β a w1 I hb=>?_;have hb0:β 0=g:=agr hb 0 rfl;refine bslQ (ss:=[(0,Sum.inl (.int .u8 1))]) I (bs_u8 1 w1) ?_;have I:=I.alloc (WS.rs _ _ _ _ _ _) (.cells [Value.int .u8 1].toArray 5) (.slice (some ⟨w1.heap.size,0,none⟩) 1 1);obtain⟨inf,hi1,hi2,hi3,hi4⟩:=hI5;obtain⟨v',w',hr,ho,hg⟩:=km underlying104 hi1 hi2 hi3 hi4 rfl (by decide) (by decide) I.hJ.own (by have:=I.hJ.lt;have:=I.hJ.gr.size;omega) ⟨w1.heap.size,0,none⟩ [.int .u8 1] rfl (xu w1 _ 5) (by intro u hu;simp only[List.mem_singleton]at hu;subst hu;rfl) (by omega)
  obtain⟨ad,cap,rfl⟩:=z4 ho;refine appQ (ss:=[Sum.inl v,Sum.inl (.slice (some ⟨w1.heap.size,0,none⟩) 1 1)]) I hr ?_;refine goQ [] (WS.rs _ _ _ _ _ _) (I.grown (l':=l++[mkB true]) (by simpa [bc,mkB]using ho) hg _) fun β2 a2 w2 I2 hb2=>?_;have hb20:β2 0=g:=agr hb2 0 hb0;exact out0 I2 ⟨rfl,_,I2.hJ.doneP (I2.rowG 0 hb20 (r:=P10 s (.slice ad (l.length+1) cap)))⟩
theorem ptext_any{g:Nat}{s:Se}{v:Value}{l:List UInt8}{w:World}(hr:zb w g (P10 s v))(ho:w.ownsRow (g+1) 5 1 v l.length (bc l)) :
  Calls prog 89 #[ptr9 g] w fun e w'=>e=.returned (str l)∧Below w.heap.size w w':=by
 refine inZ func89 fun a I=>?_;have hld:∀ w',Below w.heap.size w w'→(loadVar 104 ⟨g,9,none⟩).run prog w'=.ok v w':=fun w' hb=>by
  have hc:zo w g 0 (P10 s v).toList:=fun j c hc=>by
   have:=hr.cell j;rw[Nat.zero_add,this];simpa using hc
  exact xk (hc.keep (hb.block g hr.lt)) 9 rfl 104 underlying104 rfl
 refine goT (T:=Below w.heap.size w) [ldA 104 hld] (zj w) (fun _ h=>h) I fun β a w1 I hb=>?_;have ho1:w1.ownsRow (g+1) 5 1 v l.length (bc l):=x9 (F:=fun k=>k<w.heap.size) ho (zi.of_below I.hJ) fun k hk=>(ho.lt k hk).2
 refine cnvQ I (text_own ho1) ?_;refine goZ [] (I.same _) fun β4 a4 w4 I4 hb4=>?_;exact zh I4 ⟨rfl,I4.hJ⟩
theorem pcall{W0 : World}{g : Nat}{s : Se}{v : Value}{l l' : List UInt8}{w : World}{ds : List Deferred}{β : Nat → Nat}{c : Cf}{a : Act}{Q : Exit → Act → World → Prop}{f : Nat}{fn : Func}(args : List Value)(hf : prog.funcs[f]? = some fn)(I : SI (EJ W0 g v l) (EF W0 v) ds β c a w)(hb : β 1 = g)(hW : W0.heap.size ≤ g)(hcall : Pg W0 g s v l w → Calls prog f (ptr9 g :: args).toArray w fun e w' => e = .returned T0 ∧ ∃ v', PgP W0 g s v w v' l' w')(k : ∀ ad cap w', SI (EJ W0 g (.slice ad l'.length cap) l') (EF W0 (.slice ad l'.length cap)) ds β (rowQ (xa c T0) 1 (P10 s (.slice ad l'.length cap))) (a.put (yu c) T0) w' → At prog Q (rowQ (xa c T0) 1 (P10 s (.slice ad l'.length cap))) (a.put (yu c) T0) w')(hc : callQ c = some (f, Sum.inr (1, 9) :: args.map Sum.inl) := by kernel_rfl)(hid : y9 c.rows 1 = some (P10 s v) := by kernel_rfl)(hbd : fn.body.isNone = false := by kernel_rfl)(hn : (fn.name == "runtime.NumGoroutine") = false := by kernel_rfl) : At prog Q c a w := by
 refine yp hf I ?_ hc hbd hn;have e:((Sum.inr (1,9)::args.map Sum.inl).map (up β))=ptr9 g::args:=by
  simp only[List.map_cons,List.map_map,up,List.cons.injEq,hb];exact⟨trivial,List.map_id _⟩
 rw[e];refine(hcall ⟨I.hJ.bw,hW,I.rowG 1 hb hid,I.hJ.own⟩).mono fun e w1 he=>?_;obtain⟨rfl,v1,hp⟩:=he;obtain⟨ad,cap,rfl⟩:=z4 hp.pg.own;refine(vp (id:=1) (r:=P10 s (.slice ad l'.length cap))).1 (k ad cap w1 ?_);exact I.rowed (id:=1) hid ⟨hp.gr.os,hp.gr.tape,hp.gr.output,hp.gr.size,fun k hk hn=>hp.gr.block k hk (by
   rintro(h1|h1|h1)
   ·exact hn.1 (.inl h1)
   ·exact hn.2 (by rw[hb];exact h1)
   ·exact hn.1 (.inr h1))⟩ (by rw[hb];exact hp.pg.row) ⟨hp.pg.bw,hp.pg.own⟩ (fun k hk h1=>by
   rcases h1 with h1|h1
   ·exact .inl h1
   ·rcases hp.nb k h1 with h2|h2
    ·exact .inr h2
    ·omega) T0
theorem bd_rec(s:Se)(w:World):(Instr.build 148 (([0]:List Nat).zip [slV s]).toArray).run prog w=.ok (.agg (P10 s (.slice none 0 0))) w:=by kernel_rfl
theorem swrite_any(s:Se):RT 57 #[slV s] (str (wrS s)):=by
 intro w;obtain⟨r,q,o⟩:=s;refine inZ func57 fun a I=>?_;refine goZ [dO 148 [0] (bd_rec (r,q,o))] I fun β a w1 I hb=>?_;have hd:¬ (β 1<w.heap.size):=I.dis _ (zy (show y9 _ 1=some (P10 (r,q,o) (.slice none 0 0)) by kernel_rfl));have hW:=Nat.le_of_not_lt hd;obtain⟨g,hg⟩:∃ g,β 1=g:=⟨_,rfl⟩
 rw[hg]at hW;have I:SI (EJ w g (.slice none 0 0) []) (EF w (.slice none 0 0)) [] β _ a w1:=I.less ⟨I.hJ,World.ownsRow_nil _ _ _ _⟩ fun k h=>by
  rcases h with h|h
  ·exact h
  ·cases h
 refine pcall (s:=(r,q,o)) (l':=[]++wb r) [U r] func87 I hg hW (fun h=>pnumber_any h r (by simp)) fun ad2 cap2 w2 I=>?_;refine goQ [] (EJ.rs _ _ _ _) I fun β3 a3 w3 I hb3=>?_;have hg3:=agr hb3 1 hg;have hl1:=zx r;have hl2:=zx q;refine pcall (s:=(r,q,o)) (l':=([]++wb r)++wb q) [U q] func87 I hg3 hW (fun h=>pnumber_any h q (by rw[List.nil_append,hl1];decide)) fun ad4 cap4 w4 I=>?_;refine goQ [] (EJ.rs _ _ _ _) I fun β5 a5 w5 I hb5=>?_;have hg5:=agr hb5 1 hg3
 refine pcall (s:=(r,q,o)) (l':=([]++wb r)++wb q++[mkB o]) [.bool o] func88 I hg5 hW (fun h=>pmark_any h o (by rw[List.nil_append,List.length_append,hl1,hl2];decide)) fun ad6 cap6 w6 I=>?_;refine goQ [] (EJ.rs _ _ _ _) I fun β7 a7 w7 I hb7=>?_;have hg7:=agr hb7 1 hg5;refine bcall [Sum.inr (1,9)] func89 (EJ.rs _ _ _ _) I (fun v=>v=str (wrS (r,q,o))) ?_ fun v w8 hv I=>?_
 ·have e:(([Sum.inr (1,9)]:List SV).map (up β7)).toArray=#[ptr9 g]:=by simp only[List.map_cons,List.map_nil,up,hg7]
  rw[e];refine(ptext_any (s:=(r,q,o)) (I.rowG 1 hg7 (r:=P10 (r,q,o) (.slice ad6 (([]++wb r)++wb q++[mkB o]).length cap6))) I.hJ.own).mono fun e w' he=>⟨he.2,_,he.1,rfl⟩
 subst hv;refine goQ [] (EJ.rs _ _ _ _) I fun β9 a9 w9 I hb9=>?_;exact zh (v:=str (wrS (r,q,o))) I ⟨rfl,I.hJ.bw⟩
theorem rswrite_any(s:Se):RT 29 #[slV s] (str (wrS s)):=by
 intro w;obtain⟨r,q,o⟩:=s;have hl1:=zx r;have hl2:=zx q;refine inZ func29 fun a I=>?_;cases o with
 | false=>
  refine goZ [] I fun β a w1 I hb=>?_;refine dwQ 10 [kC func60 (vr r),kC func60 (vr q),bO .add 9 (xq (wb r) (wb q) (by omega)),bO .add 9 (xq (wb r++wb q) [0] (by simp[hl1,hl2]))] (zj w) zd.post I fun a2 w2 I=>?_;refine goZ [] I fun β3 a3 w3 I hb3=>?_;exact xj (v:=str (wrS (r,q,false))) I
 | true=>
  refine goZ [] I fun β a w1 I hb=>?_;refine dwQ 10 [kC func60 (vr r),kC func60 (vr q),bO .add 9 (xq (wb r) (wb q) (by omega)),bO .add 9 (xq (wb r++wb q) [1] (by simp[hl1,hl2]))] (zj w) zd.post I fun a2 w2 I=>?_;refine goZ [] I fun β3 a3 w3 I hb3=>?_;exact xj (v:=str (wrS (r,q,true))) I
theorem gtrB_run{x y:UInt8}{q:Bool}(h:decide (y.toNat<x.toNat)=q)(o1 o2:Operand)(w:World):(do eqGuard .gtr 5 o1 o2 (.int .u8 x.toNat) (.int .u8 y.toNat);binOp .gtr 5 (.int .u8 x.toNat) (.int .u8 y.toNat):Sem Value).run prog w=.ok (.bool q) w:=by
 subst h;simp[go_sem]
theorem bd_sz(w:World):(Instr.build 63 (([]:List Nat).zip []).toArray).run prog w=.ok (slV zSe) w:=by kernel_rfl
theorem bd_se(r q:Nat)(o:Bool)(w:World):(Instr.build 63 (([0,1,2]:List Nat).zip [U r,U q,.bool o]).toArray).run prog w=.ok (slV (r,q,o)) w:=by kernel_rfl
theorem readL(x:List UInt8)(hx:x.length≤32):RT 75 #[str x] (.tuple #[U (nm x),Z 0]):=by
 intro w;have h:=read_any ⟨x.toArray⟩ (by rw[zn];exact hx) w;rw[zn]at h;exact h
abbrev rslV (S:List UInt8):Value:=.tuple #[slV ((rdS S).getD zSe),Z (if(rdS S).isSome=true then 0 else 2)]
theorem sread_any(S:List UInt8)(hS:S.length<1000000000):RT 45 #[str S] (rslV S):=by
 intro w;have hsz:=zn S;refine inZ func45 fun a I=>?_;by_cases q1:¬ S.length=65
 ·have hr:rdS S=none:=by unfold rdS;rw[if_neg fun h=>q1 h.1]
  refine goZ [lO underlying9 (b:=⟨S.toArray⟩) (n:=S.length) (by rw[hsz]),knT S.length 65,dO 63 [] bd_sz] I fun β a w1 I hb=>?_;exact zh (v:=.tuple #[slV zSe,Z 2]) I ⟨by rw[rslV,hr];rfl,I.hJ⟩
 have q1:=Classical.not_not.1 q1;obtain⟨b,hb64⟩:∃ b,S[64]? = some b:=⟨_,List.getElem?_eq_getElem (by omega)⟩
 have hi:=zr (l:=S) (k:=64) hb64;have hr:rdS S=if b.toNat≤1 then some (nm (S.take 32),nm ((S.take 64).drop 32),decide (b=1))else none:=by
  unfold rdS;rw[hb64];simp only[Option.getD_some,q1,true_and]
 by_cases q0:b=0
 case neg=>
  by_cases q2:b=1
  case neg=>
   have hr0:rdS S=none:=by
    rw[hr,if_neg];intro h;have h0:b.toNat≠0:=fun e=>q0 (UInt8.toNat_inj.1 e)
    have h1:b.toNat≠1:=fun e=>q2 (UInt8.toNat_inj.1 e)
    omega
   refine goZ [lO underlying9 (b:=⟨S.toArray⟩) (n:=S.length) (by rw[hsz]),knF S.length 65,iO 9 (p:=str S) (i:=Z (64:Nat)) (v:=.int .u8 b.toNat) hi,bO .neq 5 (yz (x:=b) (y:=0) (q:=true) (decide_eq_true q0)),iO 9 (p:=str S) (i:=Z (64:Nat)) (v:=.int .u8 b.toNat) hi,bO .neq 5 (yz (x:=b) (y:=1) (q:=true) (decide_eq_true q2)),dO 63 [] bd_sz] I fun β a w1 I hb=>?_;exact zh (v:=.tuple #[slV zSe,Z 2]) I ⟨by rw[rslV,hr0];rfl,I.hJ⟩
  subst q2;have hr1:rdS S=some (nm (S.take 32),nm ((S.take 64).drop 32),true):=by rw[hr,if_pos (by decide)];rfl
  refine goQ [lO underlying9 (b:=⟨S.toArray⟩) (n:=S.length) (by rw[hsz]),knF S.length 65,iO 9 (p:=str S) (i:=Z (64:Nat)) (v:=.int .u8 (1:UInt8).toNat) hi,bO .neq 5 (yz (x:=1) (y:=0) (q:=true) (by decide)),iO 9 (p:=str S) (i:=Z (64:Nat)) (v:=.int .u8 (1:UInt8).toNat) hi,bO .neq 5 (yz (x:=1) (y:=1) (q:=false) (by decide)),
   sT 9 (p:=str S) (l:=Z (32:Nat)) (v:=str (S.take 32)) (to_run (by omega)),kC func75 (readL (S.take 32) (by rw[List.length_take];omega)),sLH 9 (p:=str S) (l:=Z (32:Nat)) (m:=Z (64:Nat)) (v:=str ((S.take 64).drop 32)) (vc (by omega) (by omega)),kC func75 (readL ((S.take 64).drop 32) (by rw[List.length_drop,List.length_take];omega))] (zj w) I fun β a w1 I hb=>?_
  refine dwQ 6 [iO 9 (p:=str S) (i:=Z (64:Nat)) (v:=.int .u8 (1:UInt8).toNat) hi,bO .eql 5 (zq (x:=1) (y:=1) (q:=true) (by decide)),dO 63 [0,1,2] (bd_se (nm (S.take 32)) (nm ((S.take 64).drop 32)) true)] (zj w) zd.post I fun a2 w2 I=>?_;refine goZ [] I fun β3 a3 w3 I hb3=>?_;exact zh (v:=.tuple #[slV (nm (S.take 32),nm ((S.take 64).drop 32),true),Z 0]) I ⟨by rw[rslV,hr1];rfl,I.hJ⟩
 subst q0;have hr1:rdS S=some (nm (S.take 32),nm ((S.take 64).drop 32),false):=by rw[hr,if_pos (by decide)];rfl
 refine goQ [lO underlying9 (b:=⟨S.toArray⟩) (n:=S.length) (by rw[hsz]),knF S.length 65,iO 9 (p:=str S) (i:=Z (64:Nat)) (v:=.int .u8 (0:UInt8).toNat) hi,bO .neq 5 (yz (x:=0) (y:=0) (q:=false) (by decide)),
  sT 9 (p:=str S) (l:=Z (32:Nat)) (v:=str (S.take 32)) (to_run (by omega)),kC func75 (readL (S.take 32) (by rw[List.length_take];omega)),sLH 9 (p:=str S) (l:=Z (32:Nat)) (m:=Z (64:Nat)) (v:=str ((S.take 64).drop 32)) (vc (by omega) (by omega)),kC func75 (readL ((S.take 64).drop 32) (by rw[List.length_drop,List.length_take];omega))] (zj w) I fun β a w1 I hb=>?_
 refine dwQ 6 [iO 9 (p:=str S) (i:=Z (64:Nat)) (v:=.int .u8 (0:UInt8).toNat) hi,bO .eql 5 (zq (x:=0) (y:=1) (q:=false) (by decide)),dO 63 [0,1,2] (bd_se (nm (S.take 32)) (nm ((S.take 64).drop 32)) false)] (zj w) zd.post I fun a2 w2 I=>?_;refine goZ [] I fun β3 a3 w3 I hb3=>?_;exact zh (v:=.tuple #[slV (nm (S.take 32),nm ((S.take 64).drop 32),false),Z 0]) I ⟨by rw[rslV,hr1];rfl,I.hJ⟩
theorem rsread_any(S:List UInt8)(hS:S.length<1000000000):RT 21 #[str S] (rslV S):=by
 intro w;have hsz:=zn S;refine inZ func21 fun a I=>?_;by_cases q1:¬ S.length=65
 ·have hr:rdS S=none:=by unfold rdS;rw[if_neg fun h=>q1 h.1]
  refine goZ [lO underlying9 (b:=⟨S.toArray⟩) (n:=S.length) (by rw[hsz]),knT S.length 65,dO 63 [] bd_sz] I fun β a w1 I hb=>?_;exact zh (v:=.tuple #[slV zSe,Z 2]) I ⟨by rw[rslV,hr];rfl,I.hJ⟩
 have q1:=Classical.not_not.1 q1;obtain⟨b,hb64⟩:∃ b,S[64]? = some b:=⟨_,List.getElem?_eq_getElem (by omega)⟩
 have hi:=zr (l:=S) (k:=64) hb64;have hr:rdS S=if b.toNat≤1 then some (nm (S.take 32),nm ((S.take 64).drop 32),decide (b=1))else none:=by
  unfold rdS;rw[hb64];simp only[Option.getD_some,q1,true_and]
 by_cases q2:1<b.toNat
 ·have hr0:rdS S=none:=by rw[hr,if_neg (by omega)]
  refine goZ [lO underlying9 (b:=⟨S.toArray⟩) (n:=S.length) (by rw[hsz]),knF S.length 65,iO 9 (p:=str S) (i:=Z (64:Nat)) (v:=.int .u8 b.toNat) hi,bO .gtr 5 (gtrB_run (x:=b) (y:=1) (q:=true) (decide_eq_true q2)),dO 63 [] bd_sz] I fun β a w1 I hb=>?_;exact zh (v:=.tuple #[slV zSe,Z 2]) I ⟨by rw[rslV,hr0];rfl,I.hJ⟩
 obtain⟨o,ho⟩:∃ o,decide (b=1)=o:=⟨_,rfl⟩
 have hr1:rdS S=some (nm (S.take 32),nm ((S.take 64).drop 32),o):=by rw[hr,if_pos (by omega),ho]
 refine goQ [lO underlying9 (b:=⟨S.toArray⟩) (n:=S.length) (by rw[hsz]),knF S.length 65,iO 9 (p:=str S) (i:=Z (64:Nat)) (v:=.int .u8 b.toNat) hi,bO .gtr 5 (gtrB_run (x:=b) (y:=1) (q:=false) (decide_eq_false q2)),
  sT 9 (p:=str S) (l:=Z (32:Nat)) (v:=str (S.take 32)) (to_run (by omega)),kC func51 (rreadL (S.take 32) (by rw[List.length_take];omega)),sLH 9 (p:=str S) (l:=Z (32:Nat)) (m:=Z (64:Nat)) (v:=str ((S.take 64).drop 32)) (vc (by omega) (by omega)),kC func51 (rreadL ((S.take 64).drop 32) (by rw[List.length_drop,List.length_take];omega))] (zj w) I fun β a w1 I hb=>?_
 refine dwQ 6 [iO 9 (p:=str S) (i:=Z (64:Nat)) (v:=.int .u8 b.toNat) hi,bO .eql 5 (zq (x:=b) (y:=1) (q:=o) ho),dO 63 [0,1,2] (bd_se (nm (S.take 32)) (nm ((S.take 64).drop 32)) o)] (zj w) zd.post I fun a2 w2 I=>?_;refine goZ [] I fun β3 a3 w3 I hb3=>?_;exact zh (v:=.tuple #[slV (nm (S.take 32),nm ((S.take 64).drop 32),o),Z 0]) I ⟨by rw[rslV,hr1];rfl,I.hJ⟩
end Go.Proofs.YtdeompgdhaomgaaGreatDoor
