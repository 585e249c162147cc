/- Laid one behind the other: Vg, Wq, Wr, Vb, Vc, Vd, Vf. -/
import Derived.Test.YtdeompgdhaomgaaGreatDoorKtVa
import Derived.Test.YtdeompgdhaomgaaGreatDoorKtOp
namespace Go.Proofs.YtdeompgdhaomgaaGreatDoor
open Go.RowKit Go.Sort Go.Proofs.Tryz
set_option linter.unusedVariables false
set_option maxRecDepth 100000
set_option maxHeartbeats 4000000
def tailOf {α:Type} (E:α→List UInt8) (cnt:α→Nat) (t:Int×Nat×ByteArray×α):List UInt8:=
 if t.1=0 then []else if t.1=1 then txt t.2.2.1 else if t.1=2 then wb (cnt t.2.2.2)++E t.2.2.2 else []
section
variable {α:Type} {E:α→List UInt8} {cnt:α→Nat} {H:Nat}
theorem fold_tail:∀(l:List (Int×Nat×ByteArray×α)) (acc:List UInt8×List UInt8),(l.foldl (xm E cnt H) acc).2=acc.2++l.flatMap (tailOf E cnt)
 | [],acc=>by simp
 | t::l,acc=>by
  rw[List.foldl_cons,fold_tail l,List.flatMap_cons,← List.append_assoc]
  congr 1
  unfold xm tailOf;split
  ·simp
  ·split
   ·rfl
   ·split
    ·rfl
    ·simp
end
theorem enc_succ(n:Nat)(l:List (TT n)):enc (n+1) l=(l.foldl (xm (enc n) (cntL n) (32*l.length)) ([],[])).1++(l.foldl (xm (enc n) (cntL n) (32*l.length)) ([],[])).2:=rfl
theorem LR.below{w w':World}(hb:Below w.heap.size w w'):∀{n:Nat} {v:Value},LR w n v→LR w' n v
 | 0,v,h=>h
 | n+1,v,h=>by
  obtain⟨ad,len,cap,hv,hl,ht⟩:=h;refine⟨ad,len,cap,hv,hl,fun i hi=>?_⟩;obtain⟨g,off,k,u,s,lv,h1,h2,h3,h4,h5⟩:=ht i hi;exact⟨g,off,k,u,s,lv,h1,h2.keep (hb.block g h2.lt),h3,h4,LR.below hb h5⟩
theorem enc_ge(n:Nat)(l:TL (n+1)):32*List.length (α:=TT n) l≤(enc (n+1) l).length:=by
 have h2:=hd_len (E:=enc n) (cnt:=cntL n) (l:=l) (i:=List.length (α:=TT n) l) (Nat.le_refl _);have e:List.take (List.length (α:=TT n) l) l=l:=List.take_length;rw[e]at h2;simp only[enc,List.length_append];omega
theorem load4{w:World}{g o u:Nat}(h:zo w g o [B (l0 u),B (l1 u),B (l2 u),B (l3 u)]):(loadVar 57 ⟨g,o,none⟩).run prog w=.ok (U u) w:=by
 have hl:(loadCells ⟨g,o,none⟩ 4).run prog w=.ok #[B (l0 u),B (l1 u),B (l2 u),B (l3 u)] w:=by
  have:=run_loadCells_list (P:=prog) w ⟨g,o,none⟩ [B (l0 u),B (l1 u),B (l2 u),B (l3 u)] (fun j c hc=>by
   rw[xz];exact h j c hc)
  exact this
 have hA:(isAgg 57).run prog w=.ok true w:=by
  unfold isAgg;simp only[Sem.run_bind,run_underlying underlying57,Result.andThen_ok];rfl
 have hS:(sizeOf 57).run prog w=.ok 4 w:=by kernel_rfl
 unfold loadVar;simp only[Sem.run_bind,hA,Result.andThen_ok,if_true,hS,hl,Sem.run_pure]
theorem vr(n:Nat)(w:World):Calls prog 60 #[U n] w fun e w'=>e=.returned (str (wb n))∧Below w.heap.size w w':=rbytes_any n w
theorem xq(a b:List UInt8)(hl:a.length+b.length≤1000000000000)(x y:Operand)(w:World):(do eqGuard .add 9 x y (str a) (str b);binOp .add 9 (str a) (str b):Sem Value).run prog w=.ok (str (a++b)) w:=by
 have e:(⟨a.toArray⟩:ByteArray)++(⟨b.toArray⟩:ByteArray)=⟨(a++b).toArray⟩:=by
  apply ByteArray.ext;simp
 have hl':a.length+b.length≤9223372036854775807:=by omega
 simp[go_sem,e,hl']
theorem bd_U(x:Nat)(hx:x<M)(w:World):(Instr.build 57 (([0]:List Nat).zip [B x]).toArray).run prog w=.ok (U x) w:=by
 have h:(Instr.build 57 (([0]:List Nat).zip [B x]).toArray).run prog w=.ok (.agg #[B x,B 0,B 0,B 0]) w:=by kernel_rfl
 have h0:l0 x=x:=Nat.mod_eq_of_lt hx;have h1:l1 x=0:=by unfold l1;rw[Nat.div_eq_of_lt hx];rfl
 have hM:(0:Nat)<M:=by decide
 have h2:l2 x=0:=by unfold l2;rw[Nat.div_eq_of_lt (Nat.lt_of_lt_of_le hx (by decide))];rfl
 have h3:l3 x=0:=by unfold l3;rw[Nat.div_eq_of_lt (Nat.lt_of_lt_of_le hx (by decide))];rfl
 rw[h];unfold U;rw[h0,h1,h2,h3]
theorem EO.grown{W0:World}{e sz:Nat}{v v':Value}{n n':Nat}{xs xs':List Value}{w w':World}(h:EO W0 e sz v n xs w)(ho:w'.ownsRow W0.heap.size e sz v' n' xs')(hg:Grw v v' w w'):EO W0 e sz v' n' xs' w':=
 ⟨⟨hg.gr.os.trans h.bw.os,hg.gr.tape.trans h.bw.tape,hg.gr.output.trans h.bw.output,Nat.le_trans h.bw.size hg.gr.size,fun k hk=>(hg.gr.block k (Nat.lt_of_lt_of_le hk h.bw.size) fun e=>by have:=(h.own.lt k e.symm).1;omega).trans (h.bw.block k hk)⟩,ho⟩
theorem SI.grownE{W0:World}{e sz:Nat}{v v':Value}{n n':Nat}{xs xs':List Value}{w w':World}{ds:List Deferred}{β:Nat→Nat}{c:Cf}{a:Act}(I:SI (EO W0 e sz v n xs) (EF W0 v) ds β c a w)(ho:w'.ownsRow W0.heap.size e sz v' n' xs')(hg:Grw v v' w w')(r:Value) :
  SI (EO W0 e sz v' n' xs') (EF W0 v') ds β (xa c r) (a.put (yu c) r) w':=by
 refine I.moved ⟨hg.gr.os,hg.gr.tape,hg.gr.output,hg.gr.size,fun k hk hn=>hg.gr.block k hk fun e=>hn (.inr e.symm)⟩ (I.hJ.grown ho hg) (fun k hk h=>?_) r;rcases h with h | h
 ·exact .inl h
 ·rcases hg.nb k h with h1|h1
  ·exact .inr h1
  ·omega
abbrev N0:Unit→Nat:=fun _=>0
theorem addB_run(x y:Nat)(h:x+y<M)(o1 o2:Operand)(w:World):(do eqGuard .add 23 o1 o2 (B x) (B y);binOp .add 23 (B x) (B y):Sem Value).run prog w=.ok (B (x+y)) w:=by
 have hw:IntKind.u64.wrap ((x:Int)+(y:Int))=((x+y:Nat):Int):=by
  unfold M at h;have:=IntKind.wrap_u64 ((x:Int)+(y:Int));omega
 simp[go_sem,hw]
theorem cnvB(n:Nat)(hn:n<1000000000000)(w:World):(convert 3 23 (Z n)).run prog w=.ok (B n) w:=by
 have:=IntKind.wrap_u64 (n:Int);simp[go_sem];omega
theorem yz{x y:UInt8}{q:Bool}(h:decide (x≠y)=q)(o1 o2:Operand)(w:World):(do eqGuard .neq 5 o1 o2 (.int .u8 x.toNat) (.int .u8 y.toNat);binOp .neq 5 (.int .u8 x.toNat) (.int .u8 y.toNat):Sem Value).run prog w=.ok (.bool q) w:=by
 have h2:(x.toNat=y.toNat)=(x=y):=propext ⟨fun h=>UInt8.toNat_inj.1 h,fun h=>by rw[h]⟩;subst h;by_cases hx:x=y
 ·subst hx;simp[go_sem]
 ·have h3:¬ ((x.toNat:Int)=(y.toNat:Int)):=fun e=>hx (UInt8.toNat_inj.1 (by omega))
  simp[go_sem,hx,h3]
abbrev paK:List Nat:=[0,1,5,6,7]
abbrev paV (f:List UInt8) (deep:Nat) (e:UInt8) (i c:Nat):Vs:=frm 73 [(0,Sum.inl (str f)),(1,Sum.inl (Z deep)),(5,Sum.inl (.int .u8 e.toNat)),(6,Sum.inl (Z i)),(7,Sum.inl (Z c))]
theorem scan_nil{p:List UInt8→Nat}{e:Option UInt8}(F:Nat):ky p e F []=some ([],[]):=by cases F<;>(unfold ky;simp)
theorem scan_hit{p:List UInt8→Nat}{e:UInt8}(F:Nat)(r:List UInt8):ky p (some e) F (e::r)=some ([],e::r):=by cases F<;>(unfold ky;simp)
theorem scan_step{p:List UInt8→Nat}{e:Option UInt8}{F:Nat}{c:UInt8}{r:List UInt8}(hF:(c::r).length≤F)(hc:some c≠e):∃ F',F=F'+1∧ky p e F (c::r)=if p (c::r)=0 then none else(ky p e F' ((c::r).drop (p (c::r)))).map fun x=>((c::r).take (p (c::r))::x.1,x.2):=by
 cases F with
 | zero=>simp at hF
 | succ F=>
  refine⟨F,rfl,?_⟩;show(if(c::r)=[]∨(c::r).head? = e then _ else _)=_;rw[if_neg (by simpa using hc)]
theorem part_tup{n deep:Nat}(hd:deep+(n+1)=9)(ih:∀ f:List UInt8,f.length≤1000→∀ w,Calls prog 76 #[str f,Z (deep+1:Nat)] w fun e w'=>e=.returned (Z (prt n f))∧Below w.heap.size w w')(g:List UInt8)(hg:g.length<1000)(w:World) :
  Calls prog 76 #[str (40::g),Z deep] w fun e w'=>e=.returned (Z (brk (prt n) 40 g))∧Below w.heap.size w w':=by
 have hsz:=zn (40::g);have hcl:(40::g).length=g.length+1:=rfl;refine inZ func76 fun a I=>?_
 refine goZ [bO .eql 9 (yt (a:=40::g) (b:=[]) (q:=false) (by simp)),iO 9 (p:=str (40::g)) (i:=Z (0:Nat)) (v:=.int .u8 (40:UInt8).toNat) (zr rfl),bO .eql 5 (zq (x:=40) (y:=110) (q:=false) (by decide)),iO 9 (p:=str (40::g)) (i:=Z (0:Nat)) (v:=.int .u8 (40:UInt8).toNat) (zr rfl),bO .eql 5 (zq (x:=40) (y:=116) (q:=false) (by decide)),iO 9 (p:=str (40::g)) (i:=Z (0:Nat)) (v:=.int .u8 (40:UInt8).toNat) (zr rfl),bO .neq 5 (yz (x:=40) (y:=40) (q:=false) (by decide)),kgF deep 8,iO 9 (p:=str (40::g)) (i:=Z (0:Nat)) (v:=.int .u8 (40:UInt8).toNat) (zr rfl),bO .eql 5 (zq (x:=40) (y:=91) (q:=false) (by decide))] I fun β a w1 I hb=>?_
 let St:Nat→Act→World→Prop:=fun k a w'=>∃(done:List (List UInt8)) (rest:List UInt8) (F:Nat) (β:Nat→Nat) (u:Nat→Value),k=rest.length∧g=done.flatten++rest∧rest.length≤F∧done.length≤done.flatten.length ∧
  ky (prt n) (some 41) g.length g=(ky (prt n) (some 41) F rest).map (fun x=>(done++x.1,x.2)) ∧
  SI (Below w.heap.size w) (· < w.heap.size) [] β (cfC (zc Tryz.f76) (zl (zg 73 paK) u 0 (paV (40::g) deep 41 (1+done.flatten.length) done.length)) [] 0) a w'
 refine lpM (zc Tryz.f76) St g.length ?_ ?_
 ·obtain⟨u,Iu⟩:=I.scr (zc Tryz.f76) (zg 73 paK) (paV (40::g) deep 41 1 0) [] 0;exact⟨[],g,g.length,β,u,rfl,rfl,Nat.le_refl _,Nat.le_refl _,by simp,Iu⟩
 rintro k a3 w3 ⟨done,rest,F,β3,u,rfl,hgr,hF,hdl,hsc,I⟩;refine zv (tm:=zl (zg 73 paK) u 0 (paV (40::g) deep 41 (1+done.flatten.length) done.length)) (rows:=[]) (nx:=0) ?_;have hgl:g.length=done.flatten.length+rest.length:=by rw[hgr,List.length_append]
 have hdr:(40::g).drop (1+done.flatten.length)=rest:=by rw[Nat.add_comm,List.drop_succ_cons,hgr,List.drop_left]
 cases rest with
 | nil=>
  rw[List.length_nil]at hgl;have hbr:brk (prt n) 40 g=0:=by unfold brk;rw[show clo 40=41 from rfl,hsc,scan_nil];simp
  refine goZ [lO underlying9 (b:=⟨(40::g).toArray⟩) (n:=(40::g).length) (by rw[hsz]),bO .lss 3 (zf (x:=(1+done.flatten.length:Nat)) (y:=(40::g).length) (b:=false) (decide_eq_false (by rw[hcl];omega)))] I fun β4 a4 w4 I hb4=>?_;refine xg 0 ?_;refine goZ [lO underlying9 (b:=⟨(40::g).toArray⟩) (n:=(40::g).length) (by rw[hsz]),bO .geq 3 (kf (x:=(1+done.flatten.length:Nat)) (y:=(40::g).length) (b:=true) (decide_eq_true (by rw[hcl];omega)))] (I.exit _) fun β5 a5 w5 I hb5=>?_;exact zh (v:=Z (0:Nat)) I ⟨by rw[hbr],I.hJ⟩
 | cons c r=>
  rw[List.length_cons]at hgl;have hix:(40::g)[1+done.flatten.length]? = some c:=by
   have:=congrArg (·[0]?) hdr;simpa [List.getElem?_drop]using this
  have ic:∀ w,(Instr.index 9 (str (40::g)) (Z (1+done.flatten.length:Nat))).run prog w=.ok (.int .u8 c.toNat) w:=fun w=>zr hix w
  by_cases hce:c=41
  ·subst hce;have hbr:brk (prt n) 40 g=if(40:UInt8)=91∧done.length≠1 then 0 else done.flatten.length+2:=by unfold brk;rw[show clo 40=41 from rfl,hsc,scan_hit];simp
   refine goZ [lO underlying9 (b:=⟨(40::g).toArray⟩) (n:=(40::g).length) (by rw[hsz]),bO .lss 3 (zf (x:=(1+done.flatten.length:Nat)) (y:=(40::g).length) (b:=true) (decide_eq_true (by rw[hcl];omega))),iO 9 (p:=str (40::g)) (i:=Z (1+done.flatten.length:Nat)) (v:=.int .u8 (41:UInt8).toNat) ic,bO .neq 5 (yz (x:=41) (y:=41) (q:=false) (by decide))] I fun β4 a4 w4 I hb4=>?_;refine xg 0 ?_
   refine goZ [lO underlying9 (b:=⟨(40::g).toArray⟩) (n:=(40::g).length) (by rw[hsz]),bO .geq 3 (kf (x:=(1+done.flatten.length:Nat)) (y:=(40::g).length) (b:=false) (decide_eq_false (by rw[hcl];omega))),iO 9 (p:=str (40::g)) (i:=Z (0:Nat)) (v:=.int .u8 (40:UInt8).toNat) (zr rfl),bO .eql 5 (zq (x:=40) (y:=91) (q:=false) (by decide)),kaZ (1+done.flatten.length:Nat) 1 (done.flatten.length+2:Nat)] (I.exit _) fun β5 a5 w5 I hb5=>?_;exact zh (v:=Z (done.flatten.length+2:Nat)) I ⟨by rw[hbr];simp,I.hJ⟩
  ·have hfr:∀ w,(Instr.sliceAt 9 (str (40::g)) (some (Z (1+done.flatten.length:Nat))) none none).run prog w=.ok (str (c::r)) w:=fun w=>by
    have:=v8 (l:=40::g) (k:=1+done.flatten.length) (by rw[hcl];omega) w;rw[hdr]at this;exact this
   obtain⟨F',rfl,hst⟩:=scan_step (p:=prt n) (e:=some 41) hF (by simpa using hce);obtain⟨kk,hkk⟩:∃ kk,prt n (c::r)=kk:=⟨_,rfl⟩
   have hkl:=(zbf n (c::r)).1;rw[hst,hkk]at hsc;rw[hkk,List.length_cons]at hkl;have ihc:∀ w,Calls prog 76 #[str (c::r),Z (deep+1:Nat)] w fun e w'=>e=.returned (Z kk)∧Below w.heap.size w w':=fun w=>by have:=ih (c::r) (by rw[List.length_cons];omega) w;rw[hkk]at this;exact this
   by_cases hk0:kk=0
   ·subst hk0;have hbr:brk (prt n) 40 g=0:=by unfold brk;rw[show clo 40=41 from rfl,hsc];simp
    refine goQ [lO underlying9 (b:=⟨(40::g).toArray⟩) (n:=(40::g).length) (by rw[hsz]),bO .lss 3 (zf (x:=(1+done.flatten.length:Nat)) (y:=(40::g).length) (b:=true) (decide_eq_true (by rw[hcl];omega))),iO 9 (p:=str (40::g)) (i:=Z (1+done.flatten.length:Nat)) (v:=.int .u8 c.toNat) ic,bO .neq 5 (yz (x:=c) (y:=41) (q:=true) (by simpa using hce)),
     sO 9 (p:=str (40::g)) (l:=Z (1+done.flatten.length:Nat)) (v:=str (c::r)) hfr,kaZ deep 1 (deep+1:Nat),kC func76 ihc,bO .eql 3 (z8 (x:=(0:Nat)) (y:=0) (b:=true) (by simp))] (zj w) I fun β4 a4 w4 I hb4=>?_
    exact qc (qb (v:=Z (0:Nat)) I ⟨by rw[hbr],I.hJ⟩)
   ·rw[if_neg hk0]at hsc;have hfl:(done++[(c::r).take kk]).flatten.length=done.flatten.length+kk:=by simp only[List.flatten_append,List.length_append,List.flatten_cons,List.flatten_nil,List.append_nil,List.length_take,List.length_cons];omega
    refine goQ [lO underlying9 (b:=⟨(40::g).toArray⟩) (n:=(40::g).length) (by rw[hsz]),bO .lss 3 (zf (x:=(1+done.flatten.length:Nat)) (y:=(40::g).length) (b:=true) (decide_eq_true (by rw[hcl];omega))),iO 9 (p:=str (40::g)) (i:=Z (1+done.flatten.length:Nat)) (v:=.int .u8 c.toNat) ic,bO .neq 5 (yz (x:=c) (y:=41) (q:=true) (by simpa using hce)),
     sO 9 (p:=str (40::g)) (l:=Z (1+done.flatten.length:Nat)) (v:=str (c::r)) hfr,kaZ deep 1 (deep+1:Nat),kC func76 ihc,keF kk 0,bO .add 3 (zw (x:=(1+done.flatten.length:Nat)) (y:=kk) (z:=(1+(done++[(c::r).take kk]).flatten.length:Nat)) (by rw[hfl,wz (by omega) (by omega)];omega)),bO .add 3 (zw (x:=done.length) (y:=1) (z:=(done++[(c::r).take kk]).length) (by rw[wz (by omega) (by omega)];simp))] (zj w) I fun β4 a4 w4 I hb4=>?_
    obtain⟨u',Iu⟩:=I.scr (zc Tryz.f76) (zg 73 paK) (paV (40::g) deep 41 (1+(done++[(c::r).take kk]).flatten.length) (done++[(c::r).take kk]).length) [] 0;refine xc ⟨((c::r).drop kk).length,by rw[List.length_drop];simp;omega,done++[(c::r).take kk],(c::r).drop kk,F',β4,u',rfl,?_,by rw[List.length_drop,List.length_cons];rw[List.length_cons]at hF;omega,by rw[hfl,List.length_append,List.length_singleton];omega,?_,Iu⟩
    ·rw[List.flatten_append,List.flatten_cons,List.flatten_nil,List.append_nil,List.append_assoc,List.take_append_drop];exact hgr
    ·rw[hsc,Option.map_map]
     congr 1
     funext x;simp
theorem part_arr{n deep:Nat}(hd:deep+(n+1)=9)(ih:∀ f:List UInt8,f.length≤1000→∀ w,Calls prog 76 #[str f,Z (deep+1:Nat)] w fun e w'=>e=.returned (Z (prt n f))∧Below w.heap.size w w')(g:List UInt8)(hg:g.length<1000)(w:World) :
  Calls prog 76 #[str (91::g),Z deep] w fun e w'=>e=.returned (Z (brk (prt n) 91 g))∧Below w.heap.size w w':=by
 have hsz:=zn (91::g);have hcl:(91::g).length=g.length+1:=rfl;refine inZ func76 fun a I=>?_
 refine goZ [bO .eql 9 (yt (a:=91::g) (b:=[]) (q:=false) (by simp)),iO 9 (p:=str (91::g)) (i:=Z (0:Nat)) (v:=.int .u8 (91:UInt8).toNat) (zr rfl),bO .eql 5 (zq (x:=91) (y:=110) (q:=false) (by decide)),iO 9 (p:=str (91::g)) (i:=Z (0:Nat)) (v:=.int .u8 (91:UInt8).toNat) (zr rfl),bO .eql 5 (zq (x:=91) (y:=116) (q:=false) (by decide)),iO 9 (p:=str (91::g)) (i:=Z (0:Nat)) (v:=.int .u8 (91:UInt8).toNat) (zr rfl),bO .neq 5 (yz (x:=91) (y:=40) (q:=true) (by decide)),iO 9 (p:=str (91::g)) (i:=Z (0:Nat)) (v:=.int .u8 (91:UInt8).toNat) (zr rfl),bO .neq 5 (yz (x:=91) (y:=91) (q:=false) (by decide)),kgF deep 8,iO 9 (p:=str (91::g)) (i:=Z (0:Nat)) (v:=.int .u8 (91:UInt8).toNat) (zr rfl),bO .eql 5 (zq (x:=91) (y:=91) (q:=true) (by decide))] I fun β a w1 I hb=>?_
 let St:Nat→Act→World→Prop:=fun k a w'=>∃(done:List (List UInt8)) (rest:List UInt8) (F:Nat) (β:Nat→Nat) (u:Nat→Value),k=rest.length∧g=done.flatten++rest∧rest.length≤F∧done.length≤done.flatten.length ∧
  ky (prt n) (some 93) g.length g=(ky (prt n) (some 93) F rest).map (fun x=>(done++x.1,x.2)) ∧
  SI (Below w.heap.size w) (· < w.heap.size) [] β (cfC (zc Tryz.f76) (zl (zg 73 paK) u 0 (paV (91::g) deep 93 (1+done.flatten.length) done.length)) [] 0) a w'
 refine lpM (zc Tryz.f76) St g.length ?_ ?_
 ·obtain⟨u,Iu⟩:=I.scr (zc Tryz.f76) (zg 73 paK) (paV (91::g) deep 93 1 0) [] 0;exact⟨[],g,g.length,β,u,rfl,rfl,Nat.le_refl _,Nat.le_refl _,by simp,Iu⟩
 rintro k a3 w3 ⟨done,rest,F,β3,u,rfl,hgr,hF,hdl,hsc,I⟩;refine zv (tm:=zl (zg 73 paK) u 0 (paV (91::g) deep 93 (1+done.flatten.length) done.length)) (rows:=[]) (nx:=0) ?_;have hgl:g.length=done.flatten.length+rest.length:=by rw[hgr,List.length_append]
 have hdr:(91::g).drop (1+done.flatten.length)=rest:=by rw[Nat.add_comm,List.drop_succ_cons,hgr,List.drop_left]
 cases rest with
 | nil=>
  rw[List.length_nil]at hgl;have hbr:brk (prt n) 91 g=0:=by unfold brk;rw[show clo 91=93 from rfl,hsc,scan_nil];simp
  refine goZ [lO underlying9 (b:=⟨(91::g).toArray⟩) (n:=(91::g).length) (by rw[hsz]),bO .lss 3 (zf (x:=(1+done.flatten.length:Nat)) (y:=(91::g).length) (b:=false) (decide_eq_false (by rw[hcl];omega)))] I fun β4 a4 w4 I hb4=>?_;refine xg 0 ?_;refine goZ [lO underlying9 (b:=⟨(91::g).toArray⟩) (n:=(91::g).length) (by rw[hsz]),bO .geq 3 (kf (x:=(1+done.flatten.length:Nat)) (y:=(91::g).length) (b:=true) (decide_eq_true (by rw[hcl];omega)))] (I.exit _) fun β5 a5 w5 I hb5=>?_;exact zh (v:=Z (0:Nat)) I ⟨by rw[hbr],I.hJ⟩
 | cons c r=>
  rw[List.length_cons]at hgl;have hix:(91::g)[1+done.flatten.length]? = some c:=by
   have:=congrArg (·[0]?) hdr;simpa [List.getElem?_drop]using this
  have ic:∀ w,(Instr.index 9 (str (91::g)) (Z (1+done.flatten.length:Nat))).run prog w=.ok (.int .u8 c.toNat) w:=fun w=>zr hix w
  by_cases hce:c=93
  ·subst hce;have hbr:brk (prt n) 91 g=if(91:UInt8)=91∧done.length≠1 then 0 else done.flatten.length+2:=by unfold brk;rw[show clo 91=93 from rfl,hsc,scan_hit];simp
   refine goZ [lO underlying9 (b:=⟨(91::g).toArray⟩) (n:=(91::g).length) (by rw[hsz]),bO .lss 3 (zf (x:=(1+done.flatten.length:Nat)) (y:=(91::g).length) (b:=true) (decide_eq_true (by rw[hcl];omega))),iO 9 (p:=str (91::g)) (i:=Z (1+done.flatten.length:Nat)) (v:=.int .u8 (93:UInt8).toNat) ic,bO .neq 5 (yz (x:=93) (y:=93) (q:=false) (by decide))] I fun β4 a4 w4 I hb4=>?_;refine xg 0 ?_;rcases Nat.decEq done.length 1 with h1 | h1
   ·refine goZ [lO underlying9 (b:=⟨(91::g).toArray⟩) (n:=(91::g).length) (by rw[hsz]),bO .geq 3 (kf (x:=(1+done.flatten.length:Nat)) (y:=(91::g).length) (b:=false) (decide_eq_false (by rw[hcl];omega))),iO 9 (p:=str (91::g)) (i:=Z (0:Nat)) (v:=.int .u8 (91:UInt8).toNat) (zr rfl),bO .eql 5 (zq (x:=91) (y:=91) (q:=true) (by decide)),knT done.length 1] (I.exit _) fun β5 a5 w5 I hb5=>?_;exact zh (v:=Z (0:Nat)) I ⟨by rw[hbr];simp[h1],I.hJ⟩
   ·refine goZ [lO underlying9 (b:=⟨(91::g).toArray⟩) (n:=(91::g).length) (by rw[hsz]),bO .geq 3 (kf (x:=(1+done.flatten.length:Nat)) (y:=(91::g).length) (b:=false) (decide_eq_false (by rw[hcl];omega))),iO 9 (p:=str (91::g)) (i:=Z (0:Nat)) (v:=.int .u8 (91:UInt8).toNat) (zr rfl),bO .eql 5 (zq (x:=91) (y:=91) (q:=true) (by decide)),knF done.length 1,kaZ (1+done.flatten.length:Nat) 1 (done.flatten.length+2:Nat)] (I.exit _) fun β5 a5 w5 I hb5=>?_;exact zh (v:=Z (done.flatten.length+2:Nat)) I ⟨by rw[hbr];simp[h1],I.hJ⟩
  ·have hfr:∀ w,(Instr.sliceAt 9 (str (91::g)) (some (Z (1+done.flatten.length:Nat))) none none).run prog w=.ok (str (c::r)) w:=fun w=>by
    have:=v8 (l:=91::g) (k:=1+done.flatten.length) (by rw[hcl];omega) w;rw[hdr]at this;exact this
   obtain⟨F',rfl,hst⟩:=scan_step (p:=prt n) (e:=some 93) hF (by simpa using hce);obtain⟨kk,hkk⟩:∃ kk,prt n (c::r)=kk:=⟨_,rfl⟩
   have hkl:=(zbf n (c::r)).1;rw[hst,hkk]at hsc;rw[hkk,List.length_cons]at hkl;have ihc:∀ w,Calls prog 76 #[str (c::r),Z (deep+1:Nat)] w fun e w'=>e=.returned (Z kk)∧Below w.heap.size w w':=fun w=>by have:=ih (c::r) (by rw[List.length_cons];omega) w;rw[hkk]at this;exact this
   by_cases hk0:kk=0
   ·subst hk0;have hbr:brk (prt n) 91 g=0:=by unfold brk;rw[show clo 91=93 from rfl,hsc];simp
    refine goQ [lO underlying9 (b:=⟨(91::g).toArray⟩) (n:=(91::g).length) (by rw[hsz]),bO .lss 3 (zf (x:=(1+done.flatten.length:Nat)) (y:=(91::g).length) (b:=true) (decide_eq_true (by rw[hcl];omega))),iO 9 (p:=str (91::g)) (i:=Z (1+done.flatten.length:Nat)) (v:=.int .u8 c.toNat) ic,bO .neq 5 (yz (x:=c) (y:=93) (q:=true) (by simpa using hce)),
     sO 9 (p:=str (91::g)) (l:=Z (1+done.flatten.length:Nat)) (v:=str (c::r)) hfr,kaZ deep 1 (deep+1:Nat),kC func76 ihc,bO .eql 3 (z8 (x:=(0:Nat)) (y:=0) (b:=true) (by simp))] (zj w) I fun β4 a4 w4 I hb4=>?_
    exact qc (qb (v:=Z (0:Nat)) I ⟨by rw[hbr],I.hJ⟩)
   ·rw[if_neg hk0]at hsc;have hfl:(done++[(c::r).take kk]).flatten.length=done.flatten.length+kk:=by simp only[List.flatten_append,List.length_append,List.flatten_cons,List.flatten_nil,List.append_nil,List.length_take,List.length_cons];omega
    refine goQ [lO underlying9 (b:=⟨(91::g).toArray⟩) (n:=(91::g).length) (by rw[hsz]),bO .lss 3 (zf (x:=(1+done.flatten.length:Nat)) (y:=(91::g).length) (b:=true) (decide_eq_true (by rw[hcl];omega))),iO 9 (p:=str (91::g)) (i:=Z (1+done.flatten.length:Nat)) (v:=.int .u8 c.toNat) ic,bO .neq 5 (yz (x:=c) (y:=93) (q:=true) (by simpa using hce)),
     sO 9 (p:=str (91::g)) (l:=Z (1+done.flatten.length:Nat)) (v:=str (c::r)) hfr,kaZ deep 1 (deep+1:Nat),kC func76 ihc,keF kk 0,bO .add 3 (zw (x:=(1+done.flatten.length:Nat)) (y:=kk) (z:=(1+(done++[(c::r).take kk]).flatten.length:Nat)) (by rw[hfl,wz (by omega) (by omega)];omega)),bO .add 3 (zw (x:=done.length) (y:=1) (z:=(done++[(c::r).take kk]).length) (by rw[wz (by omega) (by omega)];simp))] (zj w) I fun β4 a4 w4 I hb4=>?_
    obtain⟨u',Iu⟩:=I.scr (zc Tryz.f76) (zg 73 paK) (paV (91::g) deep 93 (1+(done++[(c::r).take kk]).flatten.length) (done++[(c::r).take kk]).length) [] 0;refine xc ⟨((c::r).drop kk).length,by rw[List.length_drop];simp;omega,done++[(c::r).take kk],(c::r).drop kk,F',β4,u',rfl,?_,by rw[List.length_drop,List.length_cons];rw[List.length_cons]at hF;omega,by rw[hfl,List.length_append,List.length_singleton];omega,?_,Iu⟩
    ·rw[List.flatten_append,List.flatten_cons,List.flatten_nil,List.append_nil,List.append_assoc,List.take_append_drop];exact hgr
    ·rw[hsc,Option.map_map]
     congr 1
     funext x;simp
theorem part_nil(deep:Nat):RT 76 #[str [],Z deep] (Z (0:Nat)):=by
 refine fun w=>inZ func76 fun a I=>?_;refine goZ [bO .eql 9 (yt (a:=[]) (b:=[]) (q:=true) (by simp))] I fun β a w1 I hb=>?_;exact xj (v:=Z (0:Nat)) I
theorem part_one(deep:Nat)(b:UInt8)(g:List UInt8)(h:b=110∨b=116):RT 76 #[str (b::g),Z deep] (Z (1:Nat)):=by
 refine fun w=>inZ func76 fun a I=>?_;by_cases h1:b=110
 ·refine goZ [bO .eql 9 (yt (a:=b::g) (b:=[]) (q:=false) (by simp)),iO 9 (p:=str (b::g)) (i:=Z (0:Nat)) (v:=.int .u8 b.toNat) (zr rfl),bO .eql 5 (zq (x:=b) (y:=110) (q:=true) (decide_eq_true h1))] I fun β a w1 I hb=>?_;exact xj (v:=Z (1:Nat)) I
 ·have h2:b=116:=h.resolve_left h1;refine goZ [bO .eql 9 (yt (a:=b::g) (b:=[]) (q:=false) (by simp)),iO 9 (p:=str (b::g)) (i:=Z (0:Nat)) (v:=.int .u8 b.toNat) (zr rfl),bO .eql 5 (zq (x:=b) (y:=110) (q:=false) (decide_eq_false h1)),iO 9 (p:=str (b::g)) (i:=Z (0:Nat)) (v:=.int .u8 b.toNat) (zr rfl),bO .eql 5 (zq (x:=b) (y:=116) (q:=true) (decide_eq_true h2))] I fun β a w1 I hb=>?_;exact xj (v:=Z (1:Nat)) I
theorem part_no(deep:Nat)(b:UInt8)(g:List UInt8)(h:¬ (b=110∨b=116))(hb':¬ (b=40∨b=91)):RT 76 #[str (b::g),Z deep] (Z (0:Nat)):=by
 intro w;have h1:¬ b=110:=fun e=>h (.inl e)
 have h2:¬ b=116:=fun e=>h (.inr e)
 have h3:b≠40:=fun e=>hb' (.inl e)
 have h4:b≠91:=fun e=>hb' (.inr e)
 refine inZ func76 fun a I=>?_
 refine goZ [bO .eql 9 (yt (a:=b::g) (b:=[]) (q:=false) (by simp)),iO 9 (p:=str (b::g)) (i:=Z (0:Nat)) (v:=.int .u8 b.toNat) (zr rfl),bO .eql 5 (zq (x:=b) (y:=110) (q:=false) (decide_eq_false h1)),iO 9 (p:=str (b::g)) (i:=Z (0:Nat)) (v:=.int .u8 b.toNat) (zr rfl),bO .eql 5 (zq (x:=b) (y:=116) (q:=false) (decide_eq_false h2)),iO 9 (p:=str (b::g)) (i:=Z (0:Nat)) (v:=.int .u8 b.toNat) (zr rfl),bO .neq 5 (yz (x:=b) (y:=40) (q:=true) (decide_eq_true h3)),iO 9 (p:=str (b::g)) (i:=Z (0:Nat)) (v:=.int .u8 b.toNat) (zr rfl),bO .neq 5 (yz (x:=b) (y:=91) (q:=true) (decide_eq_true h4))] I fun β a w1 I hb=>?_
 exact xj (v:=Z (0:Nat)) I
theorem part_deep(deep:Nat)(hd:8<deep)(b:UInt8)(g:List UInt8)(h:b=40∨b=91):RT 76 #[str (b::g),Z deep] (Z (0:Nat)):=by
 intro w;have h1:¬ b=110:=by rcases h with rfl|rfl<;>decide
 have h2:¬ b=116:=by rcases h with rfl|rfl<;>decide
 refine inZ func76 fun a I=>?_;by_cases h3:b=40
 ·refine goZ [bO .eql 9 (yt (a:=b::g) (b:=[]) (q:=false) (by simp)),iO 9 (p:=str (b::g)) (i:=Z (0:Nat)) (v:=.int .u8 b.toNat) (zr rfl),bO .eql 5 (zq (x:=b) (y:=110) (q:=false) (decide_eq_false h1)),iO 9 (p:=str (b::g)) (i:=Z (0:Nat)) (v:=.int .u8 b.toNat) (zr rfl),bO .eql 5 (zq (x:=b) (y:=116) (q:=false) (decide_eq_false h2)),iO 9 (p:=str (b::g)) (i:=Z (0:Nat)) (v:=.int .u8 b.toNat) (zr rfl),bO .neq 5 (yz (x:=b) (y:=40) (q:=false) (by simp[h3])),kgT deep 8] I fun β a w1 I hb=>?_;exact xj (v:=Z (0:Nat)) I
 ·have h4:b=91:=h.resolve_left h3
  refine goZ [bO .eql 9 (yt (a:=b::g) (b:=[]) (q:=false) (by simp)),iO 9 (p:=str (b::g)) (i:=Z (0:Nat)) (v:=.int .u8 b.toNat) (zr rfl),bO .eql 5 (zq (x:=b) (y:=110) (q:=false) (decide_eq_false h1)),iO 9 (p:=str (b::g)) (i:=Z (0:Nat)) (v:=.int .u8 b.toNat) (zr rfl),bO .eql 5 (zq (x:=b) (y:=116) (q:=false) (decide_eq_false h2)),iO 9 (p:=str (b::g)) (i:=Z (0:Nat)) (v:=.int .u8 b.toNat) (zr rfl),bO .neq 5 (yz (x:=b) (y:=40) (q:=true) (decide_eq_true h3)),iO 9 (p:=str (b::g)) (i:=Z (0:Nat)) (v:=.int .u8 b.toNat) (zr rfl),bO .neq 5 (yz (x:=b) (y:=91) (q:=false) (by simp[h4])),kgT deep 8] I fun β a w1 I hb=>?_
  exact xj (v:=Z (0:Nat)) I
theorem part_any:∀(n deep:Nat),deep+n=9→∀ f:List UInt8,f.length≤1000→∀ w,Calls prog 76 #[str f,Z deep] w fun e w'=>e=.returned (Z (prt n f))∧Below w.heap.size w w':=by
 intro n
 induction n with
 | zero=>
  intro deep hd f hf w;cases f with
  | nil=>exact part_nil deep w
  | cons b g=>
   by_cases h:b=110∨b=116
   ·have:=part_one deep b g h w;unfold prt;simp only[if_pos h];exact this
   ·unfold prt;simp only[if_neg h];by_cases hb:b=40∨b=91
    ·exact part_deep deep (by omega) b g hb w
    ·exact part_no deep b g h hb w
 | succ n ih=>
  intro deep hd f hf w;cases f with
  | nil=>exact part_nil deep w
  | cons b g=>
   by_cases h:b=110∨b=116
   ·have:=part_one deep b g h w;unfold prt;simp only[if_pos h];exact this
   ·unfold prt;simp only[if_neg h];by_cases hb:b=40∨b=91
    ·simp only[if_pos hb];rw[List.length_cons]at hf;rcases hb with rfl|rfl
     ·exact part_tup hd (fun f hf w=>ih (deep+1) (by omega) f hf w) g (by omega) w
     ·exact part_arr hd (fun f hf w=>ih (deep+1) (by omega) f hf w) g (by omega) w
    ·simp only[if_neg hb];exact part_no deep b g h hb w
theorem bs_str(s_:ByteArray)(w:World):(Instr.buildSlice 22 1 #[(0,.string s_)]).run prog w=.ok (.slice (some ⟨w.heap.size,0,none⟩) 1 1) (w.alloc (.cells #[.string s_] 9)):=by
 simp[go_sem]
theorem hI9:∃ i,prog.info? 9=some i∧i.zero=some (.string ⟨#[]⟩)∧i.size=1∧i.bytes=16:=info_of (by kernel_rfl)
abbrev ptK:List Nat:=[0,4]
abbrev ptV (rest:List UInt8) (v:Value):Vs:=frm 22 [(0,Sum.inl (str rest)),(4,Sum.inl v)]
theorem qa{a b:List UInt8}{q:Bool}(h:decide (a≠b)=q)(x y:Operand)(w:World):(do eqGuard .neq 9 x y (str a) (str b);binOp .neq 9 (str a) (str b):Sem Value).run prog w=.ok (.bool q) w:=
 xr (by rw[← h];exact decide_eq_decide.2 (not_congr ⟨fun e=>by simpa using congrArg (fun b:ByteArray=>b.data.toList) e,fun e=>by rw[e]⟩)) x y w
theorem parts_any(f:List UInt8)(hf:f.length≤1000)(w:World):Calls prog 46 #[str f] w fun e w'=>Below w.heap.size w w' ∧
  ((xe f=none∧e=.returned (.tuple #[.slice none 0 0,.bool false]))∨∃ ps v,xe f=some ps∧e=.returned (.tuple #[v,.bool true])∧w'.ownsRow w.heap.size 9 1 v ps.length (ps.map str)):=by
 refine inQ (J:=EO w 9 1 (.slice none 0 0) 0 []) (F:=EF w (.slice none 0 0)) func46 ⟨Below.refl _ _,World.ownsRow_nil _ _ _ _⟩ fun a I=>?_;refine goQ [] (EO.rs _ _ _ _ _ _) I fun β a w1 I hb=>?_
 let St:Nat→Act→World→Prop:=fun k a w'=>∃(done:List (List UInt8)) (rest:List UInt8) (F:Nat) (β:Nat→Nat) (u:Nat→Value) (ad:Option Addr) (cap:Nat),k=rest.length∧f.length=done.flatten.length+rest.length∧rest.length≤F∧done.length≤done.flatten.length ∧
  ky (prt 8) none f.length f=(ky (prt 8) none F rest).map (fun x=>(done++x.1,x.2)) ∧
  SI (EO w 9 1 (.slice ad done.length cap) done.length (done.map str)) (EF w (.slice ad done.length cap)) [] β (cfC (zc Tryz.f46) (zl (zg 22 ptK) u 0 (ptV rest (.slice ad done.length cap))) [] 0) a w'
 refine lpM (zc Tryz.f46) St f.length ?_ ?_
 ·obtain⟨u,Iu⟩:=I.scr (zc Tryz.f46) (zg 22 ptK) (ptV f (.slice none 0 0)) [] 0;exact⟨[],f,f.length,β,u,none,0,rfl,by simp,Nat.le_refl _,Nat.le_refl _,by simp,Iu⟩
 rintro k a3 w3 ⟨done,rest,F,β3,u,ad,cap,rfl,hgl,hF,hdl,hsc,I⟩;refine zv (tm:=zl (zg 22 ptK) u 0 (ptV rest (.slice ad done.length cap))) (rows:=[]) (nx:=0) ?_;cases rest with
 | nil=>
  have hbr:xe f=some done:=by unfold xe;rw[hsc,scan_nil];simp
  refine goQ [bO .neq 9 (qa (a:=[]) (b:=[]) (q:=false) (by simp))] (EO.rs _ _ _ _ _ _) I fun β4 a4 w4 I hb4=>?_;refine xg 0 ?_;refine goQ [] (EO.rs _ _ _ _ _ _) (I.exit _) fun β5 a5 w5 I hb5=>?_;exact zh (v:=.tuple #[.slice ad done.length cap,.bool true]) I ⟨I.hJ.bw,.inr ⟨done,_,hbr,rfl,I.hJ.own⟩⟩
 | cons c r=>
  obtain⟨F',rfl,hst⟩:=scan_step (p:=prt 8) (e:=none) hF (by simp);obtain⟨kk,hkk⟩:∃ kk,prt 8 (c::r)=kk:=⟨_,rfl⟩
  have hkl:=(zbf 8 (c::r)).1;rw[hst,hkk]at hsc;rw[hkk,List.length_cons]at hkl;rw[List.length_cons]at hgl;have ihc:∀ w,Calls prog 76 #[str (c::r),Z (1:Nat)] w fun e w'=>e=.returned (Z kk)∧Below w.heap.size w w':=fun w=>by have:=part_any 8 1 rfl (c::r) (by rw[List.length_cons];omega) w;rw[hkk]at this;exact this
  by_cases hk0:kk=0
  ·subst hk0;have hbr:xe f=none:=by unfold xe;rw[hsc];simp
   refine goQ [bO .neq 9 (qa (a:=c::r) (b:=[]) (q:=true) (by simp)),kC func76 ihc,bO .eql 3 (z8 (x:=(0:Nat)) (y:=0) (b:=true) (by simp))] (EO.rs _ _ _ _ _ _) I fun β4 a4 w4 I hb4=>?_;exact qc (qb (v:=.tuple #[.slice none 0 0,.bool false]) I ⟨I.hJ.bw,.inl ⟨hbr,rfl⟩⟩)
  ·rw[if_neg hk0]at hsc;have hfl:(done++[(c::r).take kk]).flatten.length=done.flatten.length+kk:=by simp only[List.flatten_append,List.length_append,List.flatten_cons,List.flatten_nil,List.append_nil,List.length_take,List.length_cons];omega
   have d1:∀ w,(Instr.sliceAt 9 (str (c::r)) none (some (Z kk)) none).run prog w=.ok (str ((c::r).take kk)) w:=fun w=>to_run (by rw[List.length_cons];omega) w
   have d2:∀ w,(Instr.sliceAt 9 (str (c::r)) (some (Z kk)) none none).run prog w=.ok (str ((c::r).drop kk)) w:=fun w=>v8 (by rw[List.length_cons];omega) w
   refine goQ [bO .neq 9 (qa (a:=c::r) (b:=[]) (q:=true) (by simp)),kC func76 ihc,keF kk 0,sT 9 (p:=str (c::r)) (l:=Z kk) (v:=str ((c::r).take kk)) d1] (EO.rs _ _ _ _ _ _) I fun β4 a4 w4 I hb4=>?_;refine bslQ (ss:=[(0,Sum.inl (str ((c::r).take kk)))]) I (bs_str _ w4) ?_;have I7:=I.alloc (EO.rs _ _ _ _ _ _) (.cells #[str ((c::r).take kk)] 9) (.slice (some ⟨w4.heap.size,0,none⟩) 1 1);obtain⟨inf,hi1,hi2,hi3,hi4⟩:=hI9
   obtain⟨v',w8,hr8,ho8,hg8⟩:=km underlying22 hi1 hi2 hi3 hi4 rfl (by decide) (by decide) I7.hJ.own I7.hJ.bw.size ⟨w4.heap.size,0,none⟩ [str ((c::r).take kk)] rfl (xu w4 #[str ((c::r).take kk)] 9) (by intro u hu;rw[List.mem_singleton]at hu;subst hu;rfl) (by omega);have hdl1:(done++[(c::r).take kk]).length=done.length+1:=by simp
   have hdm:done.map str++[str ((c::r).take kk)]=(done++[(c::r).take kk]).map str:=by simp
   rw[hdm,← hdl1]at ho8;obtain⟨ad8,cap8,rfl⟩:=z4 ho8;refine appQ (ss:=[Sum.inl (.slice ad done.length cap),Sum.inl (.slice (some ⟨w4.heap.size,0,none⟩) 1 1)]) I7 hr8 ?_;refine goQ [sO 9 (p:=str (c::r)) (l:=Z kk) (v:=str ((c::r).drop kk)) d2] (EO.rs _ _ _ _ _ _) (I7.grownE ho8 hg8 _) fun β9 a9 w9 I hb9=>?_;obtain⟨u',Iu⟩:=I.scr (zc Tryz.f46) (zg 22 ptK) (ptV ((c::r).drop kk) (.slice ad8 (done++[(c::r).take kk]).length cap8)) [] 0
   refine xc ⟨((c::r).drop kk).length,by rw[List.length_drop];simp;omega,done++[(c::r).take kk],(c::r).drop kk,F',β9,u',ad8,cap8,rfl,by rw[hfl,List.length_drop,List.length_cons];omega,by rw[List.length_drop,List.length_cons];rw[List.length_cons]at hF;omega,by rw[hfl,hdl1];omega,?_,Iu⟩;rw[hsc,Option.map_map]
   congr 1
   funext x;simp
section
set_option linter.unusedSectionVars false
theorem flat_mem{q:List UInt8}:∀{ps:List (List UInt8)},q∈ps→q.length≤ps.flatten.length
 | p::ps,h=>by
  rw[List.flatten_cons,List.length_append];rcases List.mem_cons.1 h with rfl|h
  ·omega
  ·have:=flat_mem h;omega
theorem eqU_run{n m:Nat}(hn:n<W)(hm:m<W){q:Bool}(h:decide (n=m)=q)(x y:Operand)(w:World):(do eqGuard .eql 57 x y (U n) (U m);binOp .eql 57 (U n) (U m):Sem Value).run prog w=.ok (.bool q) w:=by
 have e:=run_eqU n m hn hm w;rw[← h];by_cases hx:n=m
 ·subst hx;have e2:=run_eqU_same n w;simp[go_sem,e2]
 ·rw[decide_eq_false hx]at e;simp[go_sem,e,hx]
theorem xp{a b:ByteArray}{q:Bool}(h:decide (a=b)=q)(x y:Operand)(w:World):(do eqGuard .eql 9 x y (.string a) (.string b);binOp .eql 9 (.string a) (.string b):Sem Value).run prog w=.ok (.bool q) w:=by
 obtain⟨la,rfl⟩:∃ l:List UInt8,a=⟨l.toArray⟩:=⟨a.data.toList,by simp⟩
 obtain⟨lb,rfl⟩:∃ l:List UInt8,b=⟨l.toArray⟩:=⟨b.data.toList,by simp⟩
 have e:((⟨la.toArray⟩:ByteArray)=⟨lb.toArray⟩)↔la=lb:=⟨fun e=>by have:=congrArg ByteArray.data e;simpa using this,fun e=>by rw[e]⟩
 rw[← h];by_cases hx:la=lb
 ·simp[go_sem,hx]
 ·have h2:¬ ((⟨la.toArray⟩:ByteArray)=⟨lb.toArray⟩):=fun q=>hx (e.1 q)
  simp[go_sem,hx]
theorem mid_inner{b:UInt8}{g:List UInt8}(hg:1≤g.length):((b::g).take g.length).drop 1=((b::g).drop 1).dropLast:=by
 obtain⟨n,hn⟩:∃ n,g.length=n+1:=⟨g.length-1,by omega⟩
 rw[hn,List.take_succ_cons,List.drop_one,List.tail_cons,List.drop_one,List.tail_cons,List.dropLast_eq_take,hn];rfl
end
theorem zo.num{w:World}{g o:Nat}{k:Int}{u:Nat}{s:ByteArray}{lv:Value}(h:zo w g o (zaj k u s lv)):zo w g (o+1) [B (l0 u),B (l1 u),B (l2 u),B (l3 u)]:=fun j c hc=>by
 have hj:j<4:=(List.getElem?_eq_some_iff.1 hc).1;have:=h (j+1) c (by
  match j,hj with
  | 0,_=>exact hc
  | 1,_=>exact hc
  | 2,_=>exact hc
  | 3,_=>exact hc)
 rw[show o+1+j=o+(j+1) by omega];exact this
end Go.Proofs.YtdeompgdhaomgaaGreatDoor
