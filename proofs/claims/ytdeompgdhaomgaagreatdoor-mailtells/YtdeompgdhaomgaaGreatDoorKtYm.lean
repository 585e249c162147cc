/- Out of Ym. -/
import Derived.Test.YtdeompgdhaomgaaGreatDoorKtYl
namespace Go.Proofs.YtdeompgdhaomgaaGreatDoor
open Go.RowKit Go.Sort Go.Proofs.Tryz
set_option linter.unusedVariables false
set_option maxRecDepth 100000
set_option maxHeartbeats 4000000
structure KP (K:Nat→Prop) (lo:Nat) (w2 w:World):Prop where
 kb:∀ k,K k→lo≤k∧k<w.heap.size
 eq:∀ k,K k→w.heap[k]? = w2.heap[k]?
theorem KP.rs(K:Nat→Prop)(lo:Nat)(w2:World):yw (KP K lo w2) K:=
 ⟨fun w w' h gr=>⟨fun k hk=>⟨(h.kb k hk).1,Nat.lt_of_lt_of_le (h.kb k hk).2 gr.size⟩,fun k hk=>(gr.block k (h.kb k hk).2 hk).trans (h.eq k hk)⟩,fun w k h hk=>(h.kb k hk).2⟩
theorem over4{x0 x1 x2 x3:Value}(c:Array Value)(h:c.size=4):over c 0 #[x0,x1,x2,x3]=#[x0,x1,x2,x3]:=by
 obtain⟨l⟩:=c
 match l,h with
 | [a,b,d,e],_=>rfl
theorem smB_small{n:Nat}(h:n<1000000000):smB n=true:=by
 have hM:n<M:=Nat.lt_trans h (by decide);have e0:l0 n=n:=Nat.mod_eq_of_lt hM;have e1:l1 n=0:=by unfold l1;rw[Nat.div_eq_of_lt hM];rfl
 have e2:l2 n=0:=by unfold l2;rw[Nat.div_eq_of_lt (Nat.lt_of_lt_of_le hM (by decide))];rfl
 have e3:l3 n=0:=by unfold l3;rw[Nat.div_eq_of_lt (Nat.lt_of_lt_of_le hM (by decide))];rfl
 unfold smB;rw[e0,e1,e2,e3,decide_eq_true (show n<4611686018427387904 by omega)];rfl
theorem fi_doc{S:List UInt8}{ts:List (TT 8)}(hW:S.length<W)(hd:ku fmF S=some ts)(hne:0<S.length)(hw:wrF (fiOf (n:=7) ts)=S):kw (fiOf (n:=7) ts)=true∧smB (uAt (n:=8) ts 3)=true:=by
 have hno:(fiOf (n:=7) ts).2.1<M:=kr _;obtain⟨f,hf⟩:∃ f,fiOf (n:=7) ts=f:=⟨_,rfl⟩
 rw[hf]at hw hno ⊢;have hfit:kw f=true:=by
  cases h:kw f with
  | true=>rfl
  | false=>
   unfold wrF at hw;rw[h]at hw;rw[← hw]at hne;cases hne
 refine⟨hfit,?_⟩;have e:wrF f=enc 9 (fiT 7 f):=by unfold wrF;rw[if_pos hfit]
 have hd2:ku fmF (wrF f)=some (fiT 7 f):=by
  refine zc8 zdj (by rw[hw];exact hW) ?_ e.symm;rw[sh_fmF];exact fi_fitS 7 hfit hno
 rw[hw,hd]at hd2;cases hd2;obtain⟨_,_,_,_,m,h5,_,h6⟩:=zbw hfit;show smB f.2.2.2.toNat=true;rw[h5];exact smB_small (by have:(m:Int).toNat=m:=rfl;rw[this];omega)
theorem bd_f3(no:Nat)(ap:ByteArray)(ti:Int)(w:World):(Instr.build 25 (([1,2,3]:List Nat).zip [B no,.string ap,Z ti]).toArray).run prog w=.ok (.agg #[.slice none 0 0,B no,.string ap,Z ti]) w:=by kernel_rfl
abbrev z25F:Array Value:=#[.slice none 0 0,B 0,.string eB,Z 0]
theorem ze25F:zeV prog 25=some z25F:=by kernel_rfl
abbrev rmK:List Nat:=[0,2,3,4,8,9]
abbrev rmV (s lv:Value) (i:Nat):Vs:=frm 73 [(0,Sum.inl s),(2,Sum.inr (0,0)),(3,Sum.inl (Z 0)),(4,Sum.inl lv),(8,Sum.inr (1,0)),(9,Sum.inl (Z i))]
theorem rread_fixed(S:List UInt8)(hS:S.length≤20000)(w:World):Calls prog 19 #[str S] w (RdFP S w):=by
 refine inZ func19 fun a I=>?_;refine goZ [] I fun β a w1 I hb=>?_;refine yp (ss:=[Sum.inl (str fmF),Sum.inl (str S)]) func18 I ?_;have hW:S.length<W:=Nat.lt_of_le_of_lt hS (by decide);refine(zcy (f:=fmF) (by decide) hS w1).mono fun e w2 he=>?_;obtain⟨hb2,he⟩:=he;rw[rdec_eq hW]at he;have hsz1:=I.hJ.size;have hbw2:=I.hJ.trans (hb2.mono hsz1);rcases he with⟨ts,v,K,hd,rfl,hK,hL⟩ | ⟨hd,rfl⟩
 case inr=>
  have I2:=I.moved (J':=Below w.heap.size w) (F':=(· < w.heap.size)) (zi.of_below hb2) hbw2 (fun _ _ h=>h) (.tuple #[.slice none 0 0,Z 2]);refine goZ [bO .neq 3 (yk (x:=2) (y:=0) (b:=true) (by decide)),dO 25 [] bd_fz] I2 fun β3 a3 w3 I hb3=>?_;refine zh (v:=.tuple #[qm zFi (.slice none 0 0),Z 2]) I ⟨I.hJ,.inr ⟨?_,rfl⟩⟩;unfold rdF;rw[hd];rfl
 obtain⟨ps,hp,hfr,henc⟩:=qg hW hd;rw[zdj]at hp;cases hp;rw[sh_fmF]at hfr;obtain⟨⟨k0,u0,s0,x0⟩,⟨k1,u1,s1,x1⟩,⟨k2,u2,s2,x2⟩,⟨k3,u3,s3,x3⟩,rfl,hn0⟩:=okFi_of (n:=7) hfr;simp only[]at hn0;have hne:0<S.length:=by
  have h1:32*List.length (α:=TT 8) [(k0,u0,s0,x0),(k1,u1,s1,x1),(k2,u2,s2,x2),(k3,u3,s3,x3)]≤(enc 9 [(k0,u0,s0,x0),(k1,u1,s1,x1),(k2,u2,s2,x2),(k3,u3,s3,x3)]).length:=enc_ge 8 [(k0,u0,s0,x0),(k1,u1,s1,x1),(k2,u2,s2,x2),(k3,u3,s3,x3)];rw[henc]at h1;have h2:List.length (α:=TT 8) [(k0,u0,s0,x0),(k1,u1,s1,x1),(k2,u2,s2,x2),(k3,u3,s3,x3)]=4:=rfl;rw[h2]at h1;omega
 have hdoc:=fi_doc hW hd hne;have hrd:rdF S=if wrF (fiOf (n:=7) [(k0,u0,s0,x0),(k1,u1,s1,x1),(k2,u2,s2,x2),(k3,u3,s3,x3)])=S then some (fiOf (n:=7) [(k0,u0,s0,x0),(k1,u1,s1,x1),(k2,u2,s2,x2),(k3,u3,s3,x3)])else none:=by unfold rdF;rw[hd];rfl
 have hfi:fiOf (n:=7) [(k0,u0,s0,x0),(k1,u1,s1,x1),(k2,u2,s2,x2),(k3,u3,s3,x3)]=(List.map (α:=TT 7) (fun t=>bsL t.2.1 20) x0,l0 u1,s2,kdOf u3):=rfl;have hu3:uAt (n:=8) [(k0,u0,s0,x0),(k1,u1,s1,x1),(k2,u2,s2,x2),(k3,u3,s3,x3)] 3=u3:=rfl;rw[hfi]at hdoc hrd;rw[hu3]at hdoc;have hno:l0 u1<M:=kr _;obtain⟨adl,capl,hvl,hh⟩:=hL;subst hvl;obtain⟨ga,offa,v0,rfl,hga,hc0,hL0⟩:=hh 0 (k0,u0,s0,x0) rfl;obtain⟨g1,o1,v1,e1,_,hc1,hL1⟩:=hh 1 (k1,u1,s1,x1) rfl;obtain⟨g2,o2,v2,e2,_,hc2,hL2⟩:=hh 2 (k2,u2,s2,x2) rfl;obtain⟨g3,o3,v3,e3,_,hc3,hL3⟩:=hh 3 (k3,u3,s3,x3) rfl;cases e1;cases e2;cases e3
 obtain⟨ad3,m3,cap3,rfl⟩:=hL3.slice;simp only[]at hc0 hc1 hc2 hc3 hL0;obtain⟨y0,hy0⟩:∃ y:List (TT 7),y=x0:=⟨x0,rfl⟩
 subst hy0;obtain⟨ad0,cap0,hv0,hh0⟩:=hL0;subst hv0;obtain⟨n0,hn0e⟩:∃ n0,y0.length=n0:=⟨_,rfl⟩
 have I2:SI (fun w'=>Below w.heap.size w w'∧KP K w1.heap.size w2 w') (fun k=>k<w.heap.size∨K k) [] β _ _ w2:=I.moved (zi.of_below hb2) ⟨hbw2,hK,fun k _=>rfl⟩ (fun k hk h=>by
  rcases h with h|h
  ·exact h
  ·have:=(hK k h).1;omega) (.tuple #[(.slice (some ⟨ga,offa,none⟩) 4 capl),Z 0])
 have ld3:∀ w',KP K w1.heap.size w2 w'→(loadVar 59 ⟨ga,offa+3*7,none⟩).run prog w'=.ok (.agg (tx (k3,u3,s3,.slice ad3 m3 cap3)).toArray) w':=fun w' h=>qe (hc3.keep (h.eq ga hga))
 have ld1:∀ w',KP K w1.heap.size w2 w'→(loadVar 23 ⟨ga,offa+1*7+1+0,none⟩).run prog w'=.ok (B (l0 u1)) w':=fun w' h=>xk (hc1.keep (h.eq ga hga)) 1 rfl 23 underlying23 rfl
 have ld2:∀ w',KP K w1.heap.size w2 w'→(loadVar 9 ⟨ga,offa+2*7+5,none⟩).run prog w'=.ok (.string s2) w':=fun w' h=>xk (hc2.keep (h.eq ga hga)) 5 rfl 9 underlying9 rfl
 have ld0:∀ w',KP K w1.heap.size w2 w'→(loadVar 48 ⟨ga,offa+0*7+6,none⟩).run prog w'=.ok (.slice ad0 n0 cap0) w':=fun w' h=>by
  rw[← hn0e];exact xk (hc0.keep (h.eq ga hga)) 6 rfl 48 underlying48 rfl
 obtain⟨ti,hti⟩:∃ ti,kdOf u3=ti:=⟨_,rfl⟩
 have hcz:=cnvZ u3;rw[hti]at hcz hdoc hrd;have R2:=(zj w).both (KP.rs K w1.heap.size w2);have hsm:∀ w',Calls prog 48 #[.agg (tx (k3,u3,s3,.slice ad3 m3 cap3)).toArray] w' fun e w''=>e=.returned (.tuple #[B (l0 u3),.bool (smB u3)])∧Below w'.heap.size w' w'':=rsmall k3 u3 s3 ad3 m3 cap3
 by_cases hb3:¬ smB u3=true
 ·have hb3':smB u3=false:=by cases h:smB u3<;>simp_all
  rw[hb3']at hsm;refine goT (T:=fun w'=>Below w.heap.size w w'∧KP K w1.heap.size w2 w') [bO .neq 3 (yk (x:=0) (y:=0) (b:=false) (by decide)),iA 48 underlying48 (sz:=7) (by kernel_rfl) (g:=ga) (off:=offa) (n:=4) (cap:=capl) (i:=3) (by decide),ldA 59 (fun w' h=>ld3 w' h.2),cA func48 (fun w' _=>hsm w'),uO .not (p:=.bool false) (v:=.bool true) (by intros;rfl),dO 25 [] bd_fz] R2 (fun _ h=>h) I2 fun β3 a3 w3 I hbz=>?_;refine zh (v:=.tuple #[qm zFi (.slice none 0 0),Z 2]) I ⟨I.hJ.1,.inr ⟨?_,rfl⟩⟩;rw[hrd,if_neg fun h=>hb3 (hdoc h).2]
 have hb3:=Classical.not_not.1 hb3;rw[hb3]at hsm;refine goT (T:=fun w'=>Below w.heap.size w w'∧KP K w1.heap.size w2 w') [bO .neq 3 (yk (x:=0) (y:=0) (b:=false) (by decide)),iA 48 underlying48 (sz:=7) (by kernel_rfl) (g:=ga) (off:=offa) (n:=4) (cap:=capl) (i:=3) (by decide),ldA 59 (fun w' h=>ld3 w' h.2),cA func48 (fun w' _=>hsm w'),uO .not (p:=.bool true) (v:=.bool false) (by intros;rfl)] R2 (fun _ h=>h) I2 fun β3 a3 w3 I3 hbz=>?_
 refine dwB (T:=fun w'=>Below w.heap.size w w'∧KP K w1.heap.size w2 w') 25 12 13 8 39 z25F #[.slice none 0 0,B (l0 u1),.string s2,Z ti] (.agg #[.slice none 0 0,B (l0 u1),.string s2,Z ti]) rfl ze25F rfl (by kernel_rfl) (by kernel_rfl) over4 [iA 48 underlying48 (sz:=7) (by kernel_rfl) (g:=ga) (off:=offa) (n:=4) (cap:=capl) (i:=1) (by decide),iP 57 (g:=ga) (off:=offa+1*7+1) (d:=0) (i:=0) (by kernel_rfl),ldA 23 (fun w' h=>ld1 w' h.2),iA 48 underlying48 (sz:=7) (by kernel_rfl) (g:=ga) (off:=offa) (n:=4) (cap:=capl) (i:=2) (by decide),ldA 9 (fun w' h=>ld2 w' h.2),vO 23 3 (p:=B (l0 u3)) (v:=Z ti) hcz,dO 25 [1,2,3] (bd_f3 (l0 u1) s2 ti)] R2 (fun _ h=>h) I3 fun b4 vs4 β4 a4 w4 hag4 I4=>?_
 refine goQ [] R2 I4 fun β5 a5 w5 I5 hb5=>?_;have hmap:∀ y:List (TT 7),List.map (α:=TT 7) (fun t=>bsL t.2.1 20) y=y.map fun t=>bsL t.2.1 20:=fun _=>rfl
 let St:Nat→Act→World→Prop:=fun k a w'=>∃(i:Nat) (β:Nat→Nat) (u:Nat→Value) (ad:Option Addr) (cap:Nat) (X:List (List Value)) (K2:Nat→Prop),k=n0-i∧i≤n0∧X.length=i∧(∀ k,K k→(Value.slice ad i cap).ownBlock≠some k) ∧
  SI (fun w'=>QJ CS w 9 1 (.slice ad i cap) X ((y0.take i).map fun t=>bsL t.2.1 20) K2 w'∧KP K w1.heap.size w2 w') (fun k=>QF w (.slice ad i cap) K2 k∨K k) [] β (cfC (zc Tryz.f19) (zl (zg 73 rmK) u 0 (rmV (str S) (.slice (some ⟨ga,offa,none⟩) 4 capl) i)) [(0,z25F),(1,#[.slice ad i cap,B (l0 u1),.string s2,Z ti])] 2) a w'
 refine lpM (zc Tryz.f19) St n0 ?_ ?_
 ·obtain⟨u',Iu⟩:=I5.scr (zc Tryz.f19) (zg 73 rmK) (rmV (str S) (.slice (some ⟨ga,offa,none⟩) 4 capl) 0) [(0,z25F),(1,#[.slice none 0 0,B (l0 u1),.string s2,Z ti])] 2;refine⟨0,β5,u',none,0,[],noK,by omega,Nat.zero_le _,rfl,fun k _ h=>(by cases h),?_⟩;refine Iu.less ⟨(QJ.rs CS.loc w 9 1 (.slice none 0 0) [] [] noK).loc w w5 (QJ.start _ _ _ _) (zi.of_below Iu.hJ.1),Iu.hJ.2⟩ fun k hk=>?_;rcases hk with(hk | hk | hk) | hk
  ·exact .inl hk
  ·cases hk
  ·exact hk.elim
  ·exact .inr hk
 rintro k a6 w6 ⟨i,β6,u6,ad,cap,X,K2,rfl,hi,hXi,hF2,I6⟩;obtain⟨L,hLe⟩:∃ L,((y0.take i).map fun t=>bsL t.2.1 20)=L:=⟨_,rfl⟩
 rw[hLe]at I6;refine zv (tm:=zl (zg 73 rmK) u6 0 (rmV (str S) (.slice (some ⟨ga,offa,none⟩) 4 capl) i)) (rows:=[(0,z25F),(1,#[.slice ad i cap,B (l0 u1),.string s2,Z ti])]) (nx:=2) ?_;rcases Nat.lt_or_ge i n0 with hil|hil
 ·obtain⟨⟨kx,ux,sx,xx⟩,h1⟩:∃ t,y0[i]? = some t:=⟨_,List.getElem?_eq_getElem (by omega)⟩
  obtain⟨gc,offc,vx,rfl,hgc,hcx,hLx⟩:=hh0 i _ h1;obtain⟨adx,mx,capx,rfl⟩:=hLx.slice;simp only[]at hcx;have lde:∀ w',KP K w1.heap.size w2 w'→(loadVar 59 ⟨gc,offc+i*7,none⟩).run prog w'=.ok (.agg (tx (kx,ux,sx,.slice adx mx capx)).toArray) w':=fun w' h=>qe (hcx.keep (h.eq gc hgc))
  have hcut:=rcut kx ux sx adx mx capx 20 (by decide);obtain⟨sb,hsb⟩:∃ s,bsL ux 20=s:=⟨_,rfl⟩
  have hcut2:∀ w',Calls prog 49 #[.agg (tx (kx,ux,sx,.slice adx mx capx)).toArray,Z (20:Nat)] w' fun e w''=>e=.returned (.string sb)∧Below w'.heap.size w' w'':=fun w'=>by rw[← hsb];exact hcut w'
  have htk:((y0.take (i+1)).map fun t=>bsL t.2.1 20)=L++[sb]:=by rw[List.take_add_one,h1,List.map_append,hLe,← hsb];rfl
  refine goT (T:=(fun w'=>QJ CS w 9 1 (.slice ad i cap) X L K2 w'∧KP K w1.heap.size w2 w')) [iA 48 underlying48 (sz:=7) (by kernel_rfl) (g:=ga) (off:=offa) (n:=4) (cap:=capl) (i:=0) (by decide),ldA 48 (fun w' h=>ld0 w' h.2),lS underlying48 (ad:=some ⟨gc,offc,none⟩) (n:=n0) (cap:=cap0) rfl,klT i n0] ((QJ.rs CS.loc _ _ _ _ _ _ _).both (KP.rs _ _ _)) (fun _ h=>h) I6 fun β7 a7 w7 I7 hb7=>?_
  refine dwN (T:=(fun w'=>QJ CS w 9 1 (.slice ad i cap) X L K2 w'∧KP K w1.heap.size w2 w')) 11 [(10,none)] ?_ [iA 48 underlying48 (sz:=7) (by kernel_rfl) (g:=ga) (off:=offa) (n:=4) (cap:=capl) (i:=0) (by decide),ldA 48 (fun w' h=>ld0 w' h.2),iA 48 underlying48 (sz:=7) (by kernel_rfl) (g:=gc) (off:=offc) (n:=n0) (cap:=cap0) (i:=i) hil,ldA 59 (fun w' h=>lde w' h.2),cA func49 (fun w' _=>hcut2 w')] (fun j v w'=>j=10→∃ b,v=.slice (some ⟨b,0,none⟩) 1 1∧w7.heap.size≤b∧w'.heap[b]? = some (.cells [.string sb].toArray 9)) (fun j v w' w'' h hb hj=>by
   obtain⟨b,q1,q2,q3⟩:=h hj;exact⟨b,q1,q2,by rw[hb.block b (Array.getElem?_eq_some_iff.1 q3).1];exact q3⟩) ((QJ.rs CS.loc _ _ _ _ _ _ _).both (KP.rs _ _ _)) (fun _ h=>h) I7 ?_ ?_
  ·intro n o hn ho;have hlt:n<14:=Nat.lt_of_lt_of_le (Array.getElem?_eq_some_iff.1 ho).1 (Nat.le_of_eq (by kernel_rfl));have h3:n=11∨n=12∨n=13:=by omega
   rcases h3 with rfl|rfl|rfl
   ·exact noD_app (ym (x:=.call ⟨.builtin .append,#[.tmp 50,.tmp 59],#[22,22]⟩) (d:=some 60) ho (by kernel_rfl)).1
   ·exact noD_field (ym (x:=.fieldAddr 25 (.tmp 8) 0) (d:=some 61) ho (by kernel_rfl)).1
   ·exact noD_store (ym (x:=.store 22 (.tmp 61) (.tmp 60)) (d:=none) ho (by kernel_rfl)).1
  ·intro p hp2 o ho za vs a' w' hF hrd hbw hV hev;simp only[List.mem_singleton]at hp2;subst hp2;obtain⟨o1,o2,o3⟩:=ym (x:=.buildSlice 22 1 #[(0,.tmp 58)]) (d:=some 59) ho (by kernel_rfl);have q1:a'.eval (.tmp 58)=.string sb:=hev (.tmp 58) (Sum.inl (.string sb)) (by kernel_rfl);refine bslG o1 o3 (v:=.slice (some ⟨w'.heap.size,0,none⟩) 1 1) (w':=w'.alloc (.cells [.string sb].toArray 9)) ?_ ?_
   ·rw[map1];simp only[q1];exact bs_st sb w'
   ·exact⟨_,rfl,fun u hu=>(by cases hu),fun _=>⟨w'.heap.size,rfl,hbw.size,Array.getElem?_push_size⟩,yh w' _⟩
  intro vs a8 w8 hV I8;obtain⟨b,e10,g10,hb10⟩:=(hV (10,none) (by simp) (of_decide_eq_true (by kernel_rfl))) rfl;obtain⟨vs',rfl⟩:∃ vs',vs=fun j=>if j=10 then .slice (some ⟨b,0,none⟩) 1 1 else vs' j:=⟨vs,funext fun j=>by split<;>rename_i hj<;>simp[hj,e10]⟩
  have I9:=I8.less (J':=fun w'=>(QJ CS w 9 1 (.slice ad i cap) X L K2 w'∧MK CS noK sb [.string sb] w')∧KP K w1.heap.size w2 w') (F':=fun k=>(QF w (.slice ad i cap) K2 k∨noK k)∨K k) ⟨⟨I8.hJ.1,⟨fun k h=>h.elim,rfl⟩⟩,I8.hJ.2⟩ (fun k hk=>by
   rcases hk with(hk|hk)|hk
   ·exact .inl hk
   ·exact hk.elim
   ·exact .inr hk)
  refine app_gen3 CS.loc underlying22 hI9 rfl (by decide) (by decide) (KP.rs _ _ _) rfl (one1 sb) (b:=b) (fun j c hc=>by rw[xz];exact za9 hb10 j c hc) I9 hF2 hXi (by omega) (fun k h=>h.elim) fun ad8 cap8 a10 w10 hF8 I10=>?_;refine goQ [kaZ i 1 (i+1:Nat)] ((QJ.rs CS.loc _ _ _ _ _ _ _).both (KP.rs _ _ _)) I10 fun β11 a11 w11 I11 hb11=>?_;obtain⟨u',Iu⟩:=I11.scr (zc Tryz.f19) (zg 73 rmK) (rmV (str S) (.slice (some ⟨ga,offa,none⟩) 4 capl) (i+1)) [(0,z25F),(1,#[.slice ad8 (i+1) cap8,B (l0 u1),.string s2,Z ti])] 2
  refine xc ⟨n0-(i+1),by omega,i+1,β11,u',ad8,cap8,X++[[.string sb]],(fun k=>K2 k∨noK k),rfl,hil,by rw[List.length_append,hXi];rfl,hF8,?_⟩;rw[htk];exact Iu
 ·obtain rfl:i=n0:=by omega
  refine goT (T:=(fun w'=>QJ CS w 9 1 (.slice ad i cap) X L K2 w'∧KP K w1.heap.size w2 w')) [iA 48 underlying48 (sz:=7) (by kernel_rfl) (g:=ga) (off:=offa) (n:=4) (cap:=capl) (i:=0) (by decide),ldA 48 (fun w' h=>ld0 w' h.2),lS underlying48 (ad:=ad0) (n:=i) (cap:=cap0) rfl,bO .lss 3 (zf (x:=i) (y:=i) (b:=false) (by simp))] ((QJ.rs CS.loc _ _ _ _ _ _ _).both (KP.rs _ _ _)) (fun _ h=>h) I6 fun β7 a7 w7 I7 hb7=>?_;refine xg 0 ?_;rw[← hn0e,List.take_length]at hLe;rw[hmap,hLe]at hdoc hrd;have hLl:L.length=i:=by rw[← hLe,List.length_map,hn0e]
  have hpa:∀ w',QJ CS w 9 1 (.slice ad i cap) X L K2 w'∧KP K w1.heap.size w2 w'→PaI w' (.slice ad i cap) L:=fun w' h=>by
   have hd:=h.1.done CS.loc;refine⟨hd.keep CS.loc fun k hk=>⟨(h.1.kb2 k hk).2,rfl⟩,ad,cap,by rw[hLl],?_⟩;rw[hLl];exact h.1.room hXi
  have hFx:∀ w',QJ CS w 9 1 (.slice ad i cap) X L K2 w'∧KP K w1.heap.size w2 w'→Calls prog 24 #[.agg #[.slice ad i cap,B (l0 u1),.string s2,Z ti]] w' fun e w''=>e=.returned (.bool (kw (L,l0 u1,s2,ti)))∧Below w'.heap.size w' w'':=fun w' h=>zbe (f:=(L,l0 u1,s2,ti)) (hpa w' h)
  have hWx:∀ w',QJ CS w 9 1 (.slice ad i cap) X L K2 w'∧KP K w1.heap.size w2 w'→Calls prog 31 #[.agg #[.slice ad i cap,B (l0 u1),.string s2,Z ti]] w' fun e w''=>e=.returned (str (wrF (L,l0 u1,s2,ti)))∧Below w'.heap.size w' w'':=fun w' h=>rwriteFixed (f:=(L,l0 u1,s2,ti)) (hpa w' h) hno
  generalize hwr:wrF (L,l0 u1,s2,ti)=wr_ at hWx hrd hdoc;cases hfx:kw (L,l0 u1,s2,ti)with
  | false=>
   rw[hfx]at hFx;refine goT (T:=(fun w'=>QJ CS w 9 1 (.slice ad i cap) X L K2 w'∧KP K w1.heap.size w2 w')) [cA func24 hFx,uO .not (p:=.bool false) (v:=.bool true) (by intros;rfl),dO 25 [] bd_fz] ((QJ.rs CS.loc _ _ _ _ _ _ _).both (KP.rs _ _ _)) (fun _ h=>h) (I7.exit _) fun β8 a8 w8 I8 hb8=>?_;refine zh (v:=.tuple #[qm zFi (.slice none 0 0),Z 2]) I8 ⟨I8.hJ.1.below,.inr ⟨?_,rfl⟩⟩;rw[hrd,if_neg fun h=>by have:=(hdoc h).1;rw[hfx]at this;cases this]
  | true=>
   rw[hfx]at hFx;by_cases hq:wr_=S
   ·rw[if_pos hq]at hrd;refine goT (T:=(fun w'=>QJ CS w 9 1 (.slice ad i cap) X L K2 w'∧KP K w1.heap.size w2 w')) [cA func24 hFx,uO .not (p:=.bool true) (v:=.bool false) (by intros;rfl),cA func31 hWx,bO .neq 9 (qa (a:=wr_) (b:=S) (q:=false) (by simp[hq]))] ((QJ.rs CS.loc _ _ _ _ _ _ _).both (KP.rs _ _ _)) (fun _ h=>h) (I7.exit _) fun β8 a8 w8 I8 hb8=>?_;refine zh (v:=.tuple #[.agg #[.slice ad i cap,B (l0 u1),.string s2,Z ti],Z 0]) I8 ⟨I8.hJ.1.below,.inl ⟨(L,l0 u1,s2,ti),ad,cap,(fun k=>K2 k∨(Value.slice ad i cap).ownBlock=some k),hrd,?_,?_,I8.hJ.1.kb2,?_⟩⟩
    ·rw[hLl]
    ·show L.length≤cap;rw[hLl];exact I8.hJ.1.room hXi
    ·show SlI 1 CS _ _ (.slice ad L.length cap) L;rw[hLl];exact I8.hJ.1.done CS.loc
   ·rw[if_neg hq]at hrd;refine goT (T:=(fun w'=>QJ CS w 9 1 (.slice ad i cap) X L K2 w'∧KP K w1.heap.size w2 w')) [cA func24 hFx,uO .not (p:=.bool true) (v:=.bool false) (by intros;rfl),cA func31 hWx,bO .neq 9 (qa (a:=wr_) (b:=S) (q:=true) (by simp[hq])),dO 25 [] bd_fz] ((QJ.rs CS.loc _ _ _ _ _ _ _).both (KP.rs _ _ _)) (fun _ h=>h) (I7.exit _) fun β8 a8 w8 I8 hb8=>?_;exact zh (v:=.tuple #[qm zFi (.slice none 0 0),Z 2]) I8 ⟨I8.hJ.1.below,.inr ⟨hrd,rfl⟩⟩
end Go.Proofs.YtdeompgdhaomgaaGreatDoor
