/- Laid one behind the other: Vo, Vp, Vq, Vr. -/
import Derived.Test.YtceedgdbhlpjlaaGreatDoorKuVl
import Derived.Test.YtceedgdbhlpjlaaGreatDoorKuKe
namespace Go.Proofs.YtceedgdbhlpjlaaGreatDoor
open Go.RowKit Go.Sort Tryz
set_option linter.unusedVariables false
set_option maxRecDepth 100000
set_option maxHeartbeats 4000000
structure TT (w:World):Prop where
 tb:Tb w
 ts:Tabs w ki
theorem TT.below{w w':World}(h:TT w)(hb:Below w.heap.size w w'):TT w':=⟨h.tb.below hb,h.ts.below hb⟩
theorem runV_short{c i:List UInt8}{g:Int}(n:Nat)(hn:n≤100001)(h:(runN n (beg c i g)).sd≠0):runV c i g=runN n (beg c i g):=by
 unfold runV;rw[show(100001:Nat)=n+(100001-n) by omega];exact runN_more n _ h
abbrev exA:List UInt8:=[96,2,96,3,1,95,82,96,32,95,243]
theorem exA_run:(runN 20 (beg exA [] 1000)).sd=1∧(runN 20 (beg exA [] 1000)).out.length=32∧(runN 20 (beg exA [] 1000)).out[31]? = some 5:=by decide +kernel
theorem exB_run:(runN 20 (beg [1] [] 1000)).sd=3∧(runN 20 (beg [1] [] 1000)).er=19:=by decide +kernel
theorem exC_run:(runN 20 (beg [96,9,86] [] 1000)).sd=3∧(runN 20 (beg [96,9,86] [] 1000)).er=20:=by decide +kernel
theorem awake_any(w:World)(h:TT w):Calls prog 9 #[] w fun e w'=>e=.returned (.bool true)∧Below w.heap.size w w':=by
 have hA:=runV_short (c:=exA) (i:=[]) (g:=1000) 20 (by decide) (by rw[exA_run.1];decide);have hB:=runV_short (c:=[1]) (i:=[]) (g:=1000) 20 (by decide) (by rw[exB_run.1];decide);have hC:=runV_short (c:=[96,9,86]) (i:=[]) (g:=1000) 20 (by decide) (by rw[exC_run.1];decide);have a1:(runV exA [] 1000).sd=1:=by rw[hA];exact exA_run.1
 have a2:(runV exA [] 1000).out.length=32:=by rw[hA];exact exA_run.2.1
 have a3:(runV exA [] 1000).out[31]? = some 5:=by rw[hA];exact exA_run.2.2
 have b1:(runV [1] [] 1000).er=19:=by rw[hB];exact exB_run.2
 have c1:(runV [96,9,86] [] 1000).er=20:=by rw[hC];exact exC_run.2
 have ra:=fun w' (h':TT w')=>run_any exA [] (by decide) (by decide) 1000 w' h'.tb h'.ts
 have rb:=fun w' (h':TT w')=>run_any [1] [] (by decide) (by decide) 1000 w' h'.tb h'.ts
 have rc:=fun w' (h':TT w')=>run_any [96,9,86] [] (by decide) (by decide) 1000 w' h'.tb h'.ts
 have hnm:=rname_any 1 (by decide);have en:nmN 1=[65,68,68]:=by decide +kernel
 rw[en]at hnm;generalize runV exA [] 1000=fA,runV [1] [] 1000=fB,runV [96,9,86] [] 1000=fC at *;refine inZ func9 fun Az I=>?_;refine goZ [] I fun β1 A1 w1 I1 hb1=>?_;refine mcallX [Sum.inl (str exA),Sum.inl (str []),Sum.inl (Z 1000)] func14 I1 ((ra w1 (h.below I1.hJ)).mono fun e w2 he=>?_);obtain⟨_,rfl,ad2,cap2,rfl,_,hb2⟩:=he;have I2:=I1.moved (J':=Below w.heap.size w) (F':=(· < w.heap.size)) (Grow.of_below hb2) (I1.hJ.trans (hb2.mono I1.hJ.size)) (fun _ _ h=>h) (frV fA (.slice ad2 fA.st.length cap2));refine goZ [] I2 fun β3 A3 w3 I3 hb3=>?_
 refine mcallX [Sum.inl (str [1]),Sum.inl (str []),Sum.inl (Z 1000)] func14 I3 ((rb w3 (h.below I3.hJ)).mono fun e w4 he=>?_);obtain⟨_,rfl,ad4,cap4,rfl,_,hb4⟩:=he;have I4:=I3.moved (J':=Below w.heap.size w) (F':=(· < w.heap.size)) (Grow.of_below hb4) (I3.hJ.trans (hb4.mono I3.hJ.size)) (fun _ _ h=>h) (frV fB (.slice ad4 fB.st.length cap4));refine goZ [] I4 fun β5 A5 w5 I5 hb5=>?_;refine mcallX [Sum.inl (str [96,9,86]),Sum.inl (str []),Sum.inl (Z 1000)] func14 I5 ((rc w5 (h.below I5.hJ)).mono fun e w6 he=>?_);obtain⟨_,rfl,ad6,cap6,rfl,_,hb6⟩:=he
 have I6:=I5.moved (J':=Below w.heap.size w) (F':=(· < w.heap.size)) (Grow.of_below hb6) (I5.hJ.trans (hb6.mono I5.hJ.size)) (fun _ _ h=>h) (frV fC (.slice ad6 fC.st.length cap6))
 refine goZ [kC func17 hnm,bO .eql 9 (eqS_run (a:=[65,68,68]) (b:=[65,68,68]) (q:=true) rfl),bO .eql 3 (run_eqlZ (x:=fA.sd) (y:=1) (b:=true) (decide_eq_true a1)),lnO fA.out,bO .eql 3 (run_eqlZ (x:=fA.out.length) (y:=32) (b:=true) (decide_eq_true (by omega))),iO 9 (p:=str fA.out) (i:=Z (31:Nat)) (v:=b8 5) (idx_run a3),bO .eql 5 (run_eql8 (x:=(5:Nat)) (y:=5) (b:=true) rfl),bO .eql 23 (p:=Z fB.er) (q:=Z 19) (v:=.bool true) (by intros;rw[b1];simp[go_sem]),bO .eql 23 (p:=Z fC.er) (q:=Z 20) (v:=.bool true) (by intros;rw[c1];simp[go_sem])] I6 fun β7 A7 w7 I7 hb7=>?_;exact outZ (v:=.bool true) I7
def SkR (w:World) (v:Value) (s:List Nat):Prop:=∃ ad cap,v=.slice ad s.length cap∧∀ j,j<s.length→∃ b off,ad=some ⟨b,off,none⟩∧CellsAt w b (off+j*4) (uc (tp s (s.length-1-j)))
theorem SkR.below{w w':World}{v:Value}{s:List Nat}(h:SkR w v s)(hb:Below w.heap.size w w'):SkR w' v s:=by
 obtain⟨ad,cap,rfl,h⟩:=h;refine⟨ad,cap,rfl,fun j hj=>?_⟩;obtain⟨b,off,e,hc⟩:=h j hj;refine⟨b,off,e,fun k c hk=>?_⟩;have h1:=hc k c hk;have hlt:b<w.heap.size:=World.block_lt_of_cell? w ⟨b,off+j*4+k,none⟩ h1;exact(World.cell?_of_block (a:=⟨b,off+j*4+k,none⟩) (hb.block b hlt)).trans h1
theorem own_skr{w:World}{b0:Nat}{v:Value}{s:List Nat}(h:w.ownsRow b0 38 4 v s.length (sC s)):SkR w v s:=by
 rcases h.2 with⟨rfl,h2⟩|⟨k,cap,cur,rfl,h3⟩
 ·have:s=[]:=List.eq_nil_of_length_eq_zero h2;subst this;exact⟨none,0,rfl,fun j hj=>by simp at hj⟩
 ·refine⟨some ⟨k,0,none⟩,cap,rfl,fun j hj=>⟨k,0,rfl,fun i c hc=>?_⟩⟩;have hi:i<4:=(List.getElem?_eq_some_iff.1 hc).1;rw[← sC_get s (s.length-1-j) i (by omega) hi]at hc;have:=h.cells (g:=k) rfl _ _ hc;rw[add_off]at this;rw[← this]
  congr 2
  omega
def samB (f g:Fr):Bool:=decide (f.code=g.code∧f.inp=g.inp∧f.mem=g.mem∧f.pc=g.pc∧f.gas=g.gas∧f.sd=g.sd∧f.er=g.er∧f.out=g.out∧f.st=g.st)
theorem samB_eq{f g:Fr}(h:f=g):samB f g=true:=by subst h;simp[samB]
theorem neq23{x y:Int}{b:Bool}(h:decide (x≠y)=b)(o1 o2:Operand)(w:World):(do eqGuard .neq 23 o1 o2 (Z x) (Z y);binOp .neq 23 (Z x) (Z y):Sem Value).run prog w=.ok (.bool b) w:=by
 subst h;by_cases hq:x=y<;>simp[go_sem,hq]
theorem tp_ext{s t:List Nat}(hl:s.length=t.length)(h:∀ k,k<s.length→tp s k=tp t k):s=t:=by
 apply List.ext_getElem hl;intro k h1 h2;have:=h k h1;unfold tp at this;rw[List.getD_eq_getElem?_getD,List.getD_eq_getElem?_getD,List.getElem?_eq_getElem h1,List.getElem?_eq_getElem h2]at this;simpa using this
theorem rsame_any(f g:Fr)(v v':Value)(hnf:∀ u∈f.st,u<W)(hng:∀ u∈g.st,u<W)(hlf:f.st.length≤100000)(w:World)(h1:SkR w v f.st)(h2:SkR w v' g.st):Calls prog 10 #[frV f v,frV g v'] w fun e w'=>e=.returned (.bool (samB f g))∧Below w.heap.size w w':=by
 obtain⟨ad,cap,rfl,hr⟩:=h1;obtain⟨ad',cap',rfl,hr'⟩:=h2;refine inZ func10 fun Az I=>?_;by_cases q_code:f.code≠g.code
 ·refine goZ [bO .neq 9 (neS_run (a:=f.code) (b:=g.code) (q:=true) (decide_eq_true q_code))] I fun β1 A1 w1 I1 hb1=>?_;exact outQ (v:=.bool false) I1 ⟨by rw[show samB f g=false from decide_eq_false fun h=>q_code (by simp[h])],I1.hJ⟩
 replace q_code:f.code=g.code:=Decidable.not_not.1 q_code;by_cases q_inp:f.inp≠g.inp
 ·refine goZ [bO .neq 9 (neS_run (a:=f.code) (b:=g.code) (q:=false) (decide_eq_false (Decidable.not_not.2 q_code))),bO .neq 9 (neS_run (a:=f.inp) (b:=g.inp) (q:=true) (decide_eq_true q_inp))] I fun β1 A1 w1 I1 hb1=>?_;exact outQ (v:=.bool false) I1 ⟨by rw[show samB f g=false from decide_eq_false fun h=>q_inp (by simp[h])],I1.hJ⟩
 replace q_inp:f.inp=g.inp:=Decidable.not_not.1 q_inp;by_cases q_mem:f.mem≠g.mem
 ·refine goZ [bO .neq 9 (neS_run (a:=f.code) (b:=g.code) (q:=false) (decide_eq_false (Decidable.not_not.2 q_code))),bO .neq 9 (neS_run (a:=f.inp) (b:=g.inp) (q:=false) (decide_eq_false (Decidable.not_not.2 q_inp))),bO .neq 9 (neS_run (a:=f.mem) (b:=g.mem) (q:=true) (decide_eq_true q_mem))] I fun β1 A1 w1 I1 hb1=>?_;exact outQ (v:=.bool false) I1 ⟨by rw[show samB f g=false from decide_eq_false fun h=>q_mem (by simp[h])],I1.hJ⟩
 replace q_mem:f.mem=g.mem:=Decidable.not_not.1 q_mem;by_cases q_pc:f.pc≠g.pc
 ·refine goZ [bO .neq 9 (neS_run (a:=f.code) (b:=g.code) (q:=false) (decide_eq_false (Decidable.not_not.2 q_code))),bO .neq 9 (neS_run (a:=f.inp) (b:=g.inp) (q:=false) (decide_eq_false (Decidable.not_not.2 q_inp))),bO .neq 9 (neS_run (a:=f.mem) (b:=g.mem) (q:=false) (decide_eq_false (Decidable.not_not.2 q_mem))),bO .neq 3 (run_neqZ (x:=f.pc) (y:=g.pc) (b:=true) (decide_eq_true q_pc))] I fun β1 A1 w1 I1 hb1=>?_;exact outQ (v:=.bool false) I1 ⟨by rw[show samB f g=false from decide_eq_false fun h=>q_pc (by simp[h])],I1.hJ⟩
 replace q_pc:f.pc=g.pc:=Decidable.not_not.1 q_pc;by_cases q_gas:f.gas≠g.gas
 ·refine goZ [bO .neq 9 (neS_run (a:=f.code) (b:=g.code) (q:=false) (decide_eq_false (Decidable.not_not.2 q_code))),bO .neq 9 (neS_run (a:=f.inp) (b:=g.inp) (q:=false) (decide_eq_false (Decidable.not_not.2 q_inp))),bO .neq 9 (neS_run (a:=f.mem) (b:=g.mem) (q:=false) (decide_eq_false (Decidable.not_not.2 q_mem))),bO .neq 3 (run_neqZ (x:=f.pc) (y:=g.pc) (b:=false) (decide_eq_false (Decidable.not_not.2 q_pc))),bO .neq 3 (run_neqZ (x:=f.gas) (y:=g.gas) (b:=true) (decide_eq_true q_gas))] I fun β1 A1 w1 I1 hb1=>?_
  exact outQ (v:=.bool false) I1 ⟨by rw[show samB f g=false from decide_eq_false fun h=>q_gas (by simp[h])],I1.hJ⟩
 replace q_gas:f.gas=g.gas:=Decidable.not_not.1 q_gas;by_cases q_sd:f.sd≠g.sd
 ·refine goZ [bO .neq 9 (neS_run (a:=f.code) (b:=g.code) (q:=false) (decide_eq_false (Decidable.not_not.2 q_code))),bO .neq 9 (neS_run (a:=f.inp) (b:=g.inp) (q:=false) (decide_eq_false (Decidable.not_not.2 q_inp))),bO .neq 9 (neS_run (a:=f.mem) (b:=g.mem) (q:=false) (decide_eq_false (Decidable.not_not.2 q_mem))),bO .neq 3 (run_neqZ (x:=f.pc) (y:=g.pc) (b:=false) (decide_eq_false (Decidable.not_not.2 q_pc))),bO .neq 3 (run_neqZ (x:=f.gas) (y:=g.gas) (b:=false) (decide_eq_false (Decidable.not_not.2 q_gas))),bO .neq 3 (run_neqZ (x:=f.sd) (y:=g.sd) (b:=true) (decide_eq_true q_sd))] I fun β1 A1 w1 I1 hb1=>?_
  exact outQ (v:=.bool false) I1 ⟨by rw[show samB f g=false from decide_eq_false fun h=>q_sd (by simp[h])],I1.hJ⟩
 replace q_sd:f.sd=g.sd:=Decidable.not_not.1 q_sd;by_cases q_er:f.er≠g.er
 ·refine goZ [bO .neq 9 (neS_run (a:=f.code) (b:=g.code) (q:=false) (decide_eq_false (Decidable.not_not.2 q_code))),bO .neq 9 (neS_run (a:=f.inp) (b:=g.inp) (q:=false) (decide_eq_false (Decidable.not_not.2 q_inp))),bO .neq 9 (neS_run (a:=f.mem) (b:=g.mem) (q:=false) (decide_eq_false (Decidable.not_not.2 q_mem))),bO .neq 3 (run_neqZ (x:=f.pc) (y:=g.pc) (b:=false) (decide_eq_false (Decidable.not_not.2 q_pc))),bO .neq 3 (run_neqZ (x:=f.gas) (y:=g.gas) (b:=false) (decide_eq_false (Decidable.not_not.2 q_gas))),bO .neq 3 (run_neqZ (x:=f.sd) (y:=g.sd) (b:=false) (decide_eq_false (Decidable.not_not.2 q_sd))),bO .neq 23 (neq23 (x:=f.er) (y:=g.er) (b:=true) (decide_eq_true q_er))] I fun β1 A1 w1 I1 hb1=>?_
  exact outQ (v:=.bool false) I1 ⟨by rw[show samB f g=false from decide_eq_false fun h=>q_er (by simp[h])],I1.hJ⟩
 replace q_er:f.er=g.er:=Decidable.not_not.1 q_er;by_cases q_out:f.out≠g.out
 ·refine goZ [bO .neq 9 (neS_run (a:=f.code) (b:=g.code) (q:=false) (decide_eq_false (Decidable.not_not.2 q_code))),bO .neq 9 (neS_run (a:=f.inp) (b:=g.inp) (q:=false) (decide_eq_false (Decidable.not_not.2 q_inp))),bO .neq 9 (neS_run (a:=f.mem) (b:=g.mem) (q:=false) (decide_eq_false (Decidable.not_not.2 q_mem))),bO .neq 3 (run_neqZ (x:=f.pc) (y:=g.pc) (b:=false) (decide_eq_false (Decidable.not_not.2 q_pc))),bO .neq 3 (run_neqZ (x:=f.gas) (y:=g.gas) (b:=false) (decide_eq_false (Decidable.not_not.2 q_gas))),bO .neq 3 (run_neqZ (x:=f.sd) (y:=g.sd) (b:=false) (decide_eq_false (Decidable.not_not.2 q_sd))),bO .neq 23 (neq23 (x:=f.er) (y:=g.er) (b:=false) (decide_eq_false (Decidable.not_not.2 q_er))),bO .neq 9 (neS_run (a:=f.out) (b:=g.out) (q:=true) (decide_eq_true q_out))] I fun β1 A1 w1 I1 hb1=>?_
  exact outQ (v:=.bool false) I1 ⟨by rw[show samB f g=false from decide_eq_false fun h=>q_out (by simp[h])],I1.hJ⟩
 replace q_out:f.out=g.out:=Decidable.not_not.1 q_out;by_cases ql:f.st.length≠g.st.length
 ·refine goZ [bO .neq 9 (neS_run (a:=f.code) (b:=g.code) (q:=false) (decide_eq_false (Decidable.not_not.2 q_code))),bO .neq 9 (neS_run (a:=f.inp) (b:=g.inp) (q:=false) (decide_eq_false (Decidable.not_not.2 q_inp))),bO .neq 9 (neS_run (a:=f.mem) (b:=g.mem) (q:=false) (decide_eq_false (Decidable.not_not.2 q_mem))),bO .neq 3 (run_neqZ (x:=f.pc) (y:=g.pc) (b:=false) (decide_eq_false (Decidable.not_not.2 q_pc))),bO .neq 3 (run_neqZ (x:=f.gas) (y:=g.gas) (b:=false) (decide_eq_false (Decidable.not_not.2 q_gas))),bO .neq 3 (run_neqZ (x:=f.sd) (y:=g.sd) (b:=false) (decide_eq_false (Decidable.not_not.2 q_sd))),bO .neq 23 (neq23 (x:=f.er) (y:=g.er) (b:=false) (decide_eq_false (Decidable.not_not.2 q_er))),bO .neq 9 (neS_run (a:=f.out) (b:=g.out) (q:=false) (decide_eq_false (Decidable.not_not.2 q_out))),lS underlying22 (ad:=ad) (n:=f.st.length) (cap:=cap) (z:=f.st.length) rfl,lS underlying22 (ad:=ad') (n:=g.st.length) (cap:=cap') (z:=g.st.length) rfl,bO .neq 3 (run_neqZ (x:=f.st.length) (y:=g.st.length) (b:=true) (decide_eq_true (by omega)))] I fun β1 A1 w1 I1 hb1=>?_
  exact outQ (v:=.bool false) I1 ⟨by rw[show samB f g=false from decide_eq_false fun h=>ql (by simp[h])],I1.hJ⟩
 replace ql:f.st.length=g.st.length:=Decidable.not_not.1 ql;have hsam:samB f g=decide (f.st=g.st):=by unfold samB;simp[q_code,q_inp,q_mem,q_pc,q_gas,q_sd,q_er,q_out]
 rw[hsam]
 refine goZ [bO .neq 9 (neS_run (a:=f.code) (b:=g.code) (q:=false) (decide_eq_false (Decidable.not_not.2 q_code))),bO .neq 9 (neS_run (a:=f.inp) (b:=g.inp) (q:=false) (decide_eq_false (Decidable.not_not.2 q_inp))),bO .neq 9 (neS_run (a:=f.mem) (b:=g.mem) (q:=false) (decide_eq_false (Decidable.not_not.2 q_mem))),bO .neq 3 (run_neqZ (x:=f.pc) (y:=g.pc) (b:=false) (decide_eq_false (Decidable.not_not.2 q_pc))),bO .neq 3 (run_neqZ (x:=f.gas) (y:=g.gas) (b:=false) (decide_eq_false (Decidable.not_not.2 q_gas))),bO .neq 3 (run_neqZ (x:=f.sd) (y:=g.sd) (b:=false) (decide_eq_false (Decidable.not_not.2 q_sd))),bO .neq 23 (neq23 (x:=f.er) (y:=g.er) (b:=false) (decide_eq_false (Decidable.not_not.2 q_er))),bO .neq 9 (neS_run (a:=f.out) (b:=g.out) (q:=false) (decide_eq_false (Decidable.not_not.2 q_out))),lS underlying22 (ad:=ad) (n:=f.st.length) (cap:=cap) (z:=f.st.length) rfl,lS underlying22 (ad:=ad') (n:=g.st.length) (cap:=cap') (z:=g.st.length) rfl,bO .neq 3 (run_neqZ (x:=f.st.length) (y:=g.st.length) (b:=false) (decide_eq_false (by omega)))] I fun β1 A1 w1 I1 hb1=>?_
 rw[← ql]at hr'
 let tmS:Nat→Vs:=fun j=>frm 87 [(2,Sum.inr (0,0)),(3,Sum.inr (1,0)),(5,Sum.inl (Z (j:Int)))]
 let rwS:Rows:=[(0,#[str f.code,str f.inp,.slice ad f.st.length cap,str f.mem,Z f.pc,Z f.gas,Z f.sd,Z f.er,str f.out]),(1,#[str g.code,str g.inp,.slice ad' g.st.length cap',str g.mem,Z g.pc,Z g.gas,Z g.sd,Z g.er,str g.out])]
 let St:Nat→Act→World→Prop:=fun k a w'=>∃(j:Nat) (β:Nat→Nat) (u:Nat→Value),k=f.st.length-j∧j≤f.st.length∧(∀ i,i<j→tp f.st (f.st.length-1-i)=tp g.st (f.st.length-1-i)) ∧
  SI (Below w.heap.size w) (· < w.heap.size) [] β (cfC (bodyL Tryz.f10) (fillF (scrF 87 [2,3,5]) u 0 (tmS j)) rwS 2) a w'
 refine lpM (bodyL Tryz.f10) St f.st.length ?_ ?_
 ·obtain⟨u,Iu⟩:=I1.scr (bodyL Tryz.f10) (scrF 87 [2,3,5]) (tmS 0) rwS 2;exact⟨0,β1,u,by omega,Nat.zero_le _,fun i hi=>absurd hi (Nat.not_lt_zero i),Iu⟩
 rintro k a3 w3 ⟨j,β3,u,rfl,hj,hall,I3⟩;refine wp_cfC (tm:=fillF (scrF 87 [2,3,5]) u 0 (tmS j)) (rows:=rwS) (nx:=2) ?_;rcases Nat.lt_or_ge j f.st.length with hjl|hjl
 ·obtain⟨b,off,rfl,hc⟩:=hr j hjl;obtain⟨b',off',rfl,hc'⟩:=hr' j hjl;have hx:=hnf _ (tp_mem (s:=f.st) (k:=f.st.length-1-j) (by omega));have hy:=hng _ (tp_mem (s:=g.st) (k:=f.st.length-1-j) (by omega));have hld:∀ w',Below w.heap.size w w'→(loadVar 38 ⟨b,off+j*4,none⟩).run prog w'=.ok (.agg (uc (tp f.st (f.st.length-1-j))).toArray) w':=fun w' hbl=>loadN underlying38 rfl (n:=4) (by kernel_rfl) rfl fun k c hk=>(World.cell?_of_block (a:=⟨b,off+j*4+k,none⟩) (hbl.block b (World.block_lt_of_cell? w ⟨b,off+j*4+k,none⟩ (hc k c hk)))).trans (hc k c hk)
  have hld':∀ w',Below w.heap.size w w'→(loadVar 38 ⟨b',off'+j*4,none⟩).run prog w'=.ok (.agg (uc (tp g.st (f.st.length-1-j))).toArray) w':=fun w' hbl=>loadN underlying38 rfl (n:=4) (by kernel_rfl) rfl fun k c hk=>(World.cell?_of_block (a:=⟨b',off'+j*4+k,none⟩) (hbl.block b' (World.block_lt_of_cell? w ⟨b',off'+j*4+k,none⟩ (hc' k c hk)))).trans (hc' k c hk)
  obtain⟨q,hq⟩:∃ q,decide (tp f.st (f.st.length-1-j)≠tp g.st (f.st.length-1-j))=q:=⟨_,rfl⟩
  have hne:=neqU_run hx hy hq;have hqe:q=true→tp f.st (f.st.length-1-j)≠tp g.st (f.st.length-1-j):=fun h=>of_decide_eq_true (hq.trans h)
  have hqf:q=false→tp f.st (f.st.length-1-j)=tp g.st (f.st.length-1-j):=fun h=>Decidable.not_not.1 (of_decide_eq_false (hq.trans h))
  simp only[uc]at hld hld';unfold U at hne;generalize hxx:tp f.st (f.st.length-1-j)=x at *;generalize hyy:tp g.st (f.st.length-1-j)=y,l0 x=x0,l1 x=x1,l2 x=x2,l3 x=x3 at *;generalize l0 y=y0,l1 y=y1,l2 y=y2,l3 y=y3 at *;refine goZ [lS underlying22 (ad:=some ⟨b,off,none⟩) (n:=f.st.length) (cap:=cap) (z:=f.st.length) rfl,bO .lss 3 (run_lssZ (x:=j) (y:=f.st.length) (b:=true) (decide_eq_true (by omega)))] I3 fun β4 A4 w4 I4 hb4=>?_
  refine dwT (T:=Below w.heap.size w) 11 [iA 22 underlying22 (sz:=4) (by kernel_rfl) (g:=b) (off:=off) (n:=f.st.length) (cap:=cap) (i:=j) hjl,ldA 38 hld,iA 22 underlying22 (sz:=4) (by kernel_rfl) (g:=b') (off:=off') (n:=g.st.length) (cap:=cap') (i:=j) (by omega),ldA 38 hld',bO .neq 38 hne] (nonR w) (fun _ h=>h) (PanOk.then (PanOk.qk PanOk.post)) I4 fun A5 w5 I5=>?_;cases q with
  | true=>
   refine goZ [] I5 fun β6 A6 w6 I6 hb6=>?_;exact endR (retV (v:=.bool false) I6 ⟨by rw[decide_eq_false fun h=>hqe rfl (by rw[← hxx,← hyy,h])],I6.hJ⟩)
  | false=>
   refine goZ [bO .add 3 (run_addZ (x:=j) (y:=1) (z:=(j+1:Nat)) (by rw[wzf (by omega) (by omega)];omega))] I5 fun β6 A6 w6 I6 hb6=>?_;obtain⟨u',Iu⟩:=I6.scr (bodyL Tryz.f10) (scrF 87 [2,3,5]) (tmS (j+1)) rwS 2;exact endL ⟨f.st.length-(j+1),by omega,j+1,β6,u',rfl,hjl,fun i hi=>by
    rcases Nat.lt_or_ge i j with h|h
    ·exact hall i h
    ·have:i=j:=by omega
     subst this;rw[hxx,hyy];exact hqf rfl,Iu⟩
 ·obtain rfl:j=f.st.length:=by omega
  refine goZ [lS underlying22 (ad:=ad) (n:=f.st.length) (cap:=cap) (z:=f.st.length) rfl,bO .lss 3 (run_lssZ (x:=f.st.length) (y:=f.st.length) (b:=false) (decide_eq_false (by omega)))] I3 fun β4 A4 w4 I4 hb4=>?_;refine endE 0 ?_;refine goZ [] (I4.exit _) fun β5 A5 w5 I5 hb5=>?_;refine outQ (v:=.bool true) I5 ⟨?_,I5.hJ⟩;rw[decide_eq_true (tp_ext ql fun k hk=>?_)];have:=hall (f.st.length-1-k) (by omega)
  rwa [show f.st.length-1-(f.st.length-1-k)=k by omega]at this
structure OJ (w:World) (v v':Value) (s s':List Nat) (w':World):Prop where
 bw:Below w.heap.size w w'
 o1:w'.ownsRow w.heap.size 38 4 v s.length (sC s)
 o2:w'.ownsRow w.heap.size 38 4 v' s'.length (sC s')
def OF (w:World) (v v':Value) (k:Nat):Prop:=k<w.heap.size∨v.ownBlock=some k∨v'.ownBlock=some k
theorem OJ.rs(w:World)(v v':Value)(s s':List Nat):Rsrc (OJ w v v' s s') (OF w v v'):=by
 refine⟨fun x y h gr=>⟨⟨gr.os.trans h.bw.os,gr.tape.trans h.bw.tape,gr.output.trans h.bw.output,Nat.le_trans h.bw.size gr.size,fun k hk=>(gr.block k (Nat.lt_of_lt_of_le hk h.bw.size) (.inl hk)).trans (h.bw.block k hk)⟩,owns_grow h.o1 gr fun k hk=>.inr (.inl hk),owns_grow h.o2 gr fun k hk=>.inr (.inr hk)⟩,fun x k h hk=>?_⟩;rcases hk with hk | hk | hk
 ·exact Nat.lt_of_lt_of_le hk h.bw.size
 ·exact(h.o1.lt k hk).2
 ·exact(h.o2.lt k hk).2
section
variable {w0 w w':World} {v v' v2:Value} {s s' t:List Nat} {ds:List Deferred} {β:Nat→Nat} {c:Cf} {a:Act}
theorem OJ.of_below(h:OJ w0 v v' s s' w)(hb:Below w.heap.size w w'):OJ w0 v v' s s' w':=(OJ.rs _ _ _ _ _).loc _ _ h (Grow.of_below hb)
theorem SI.oj1(I:SI (OJ w0 v v' s s') (OF w0 v v') ds β c a w)(ho:w'.ownsRow w.heap.size 38 4 v2 t.length (sC t))(hb:Below w.heap.size w w')(x:Value):SI (OJ w0 v2 v' t s') (OF w0 v2 v') ds β (nxtQ c x) (a.put (dstQ c) x) w':=by
 have h2:=I.hJ.of_below hb;refine I.moved (Grow.of_below hb) ⟨h2.bw,own_base ho I.hJ.bw.size,h2.o2⟩ (fun k hk hF=>?_) x;rcases hF with hF | hF | hF
 ·exact .inl hF
 ·have:=(ho.lt k hF).1;omega
 ·exact .inr (.inr hF)
theorem SI.oj2(I:SI (OJ w0 v v' s s') (OF w0 v v') ds β c a w)(ho:w'.ownsRow w.heap.size 38 4 v2 t.length (sC t))(hb:Below w.heap.size w w')(x:Value):SI (OJ w0 v v2 s t) (OF w0 v v2) ds β (nxtQ c x) (a.put (dstQ c) x) w':=by
 have h2:=I.hJ.of_below hb;refine I.moved (Grow.of_below hb) ⟨h2.bw,h2.o1,own_base ho I.hJ.bw.size⟩ (fun k hk hF=>?_) x;rcases hF with hF | hF | hF
 ·exact .inl hF
 ·exact .inr (.inl hF)
 ·have:=(ho.lt k hF).1;omega
end
theorem sC_at(s:List Nat)(q:Nat)(hq:q<4*s.length):(sC s)[q]? = (uc (tp s (s.length-1-q/4)))[q%4]? :=by
 have:=sC_get s (s.length-1-q/4) (q%4) (by omega) (by omega);rw[show 4*(s.length-1-(s.length-1-q/4))+q%4=q by omega]at this;exact this
theorem sC_one(s:List Nat):∀ u∈sC s,u.oneCell'=true:=by
 intro u hu;unfold sC at hu;obtain⟨n,_,hn⟩:=List.mem_flatMap.1 hu;simp only[uc,List.mem_cons,List.not_mem_nil,or_false]at hn;rcases hn with rfl|rfl|rfl|rfl<;>rfl
end Go.Proofs.YtceedgdbhlpjlaaGreatDoor
