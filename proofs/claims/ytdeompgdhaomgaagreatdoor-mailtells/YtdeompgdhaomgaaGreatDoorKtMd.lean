/- Laid one behind the other: Md, Me. -/
import Derived.Test.YtdeompgdhaomgaaGreatDoorKtMb
import Derived.Test.YtdeompgdhaomgaaGreatDoorKtMx
import Derived.Test.YtdeompgdhaomgaaGreatDoorKtZj
namespace Go.Proofs.YtdeompgdhaomgaaGreatDoor
open Go.RowKit Go.Sort Go.Proofs.Tryz
set_option linter.unusedVariables false
set_option maxRecDepth 100000
set_option maxHeartbeats 4000000
abbrev sOf (b:ByteArray):Se:=(rdS b.data.toList).getD zSe
abbrev sOk (b:ByteArray):Bool:=(rdS b.data.toList).isSome
def erN (er:Int) (ok:Bool):Int:=if er=0 then(if ok=true then 0 else 2)else er
def erOf (bs:List ByteArray):Int:=if bs.all sOk=true then 0 else 2
def seOf (bs:List ByteArray):Option (List Se):=if bs.all sOk=true then some (bs.map sOf)else none
theorem erOf_step{bs:List ByteArray}{i:Nat}{b:ByteArray}(h:bs[i]? = some b):erOf (bs.take (i+1))=erN (erOf (bs.take i)) (sOk b):=by
 unfold erOf erN;rw[List.take_add_one,h,List.all_append];cases h1:(bs.take i).all sOk<;>cases h2:sOk b<;>simp[h2]
theorem sOf_lt(b:ByteArray):(sOf b).1<W∧(sOf b).2.1<W:=by
 unfold sOf;cases h:rdS b.data.toList with
 | none=>exact⟨by decide,by decide⟩
 | some s=>exact(wrS_back h).2
abbrev Ml:Type:=Fi×Va×List Se
def mlOf (s0 s1:ByteArray) (bs:List ByteArray):Option Ml:=(rdF s0.data.toList).bind fun f=>(rdV s1.data.toList).bind fun v=>(seOf bs).map fun l=>(f,v,l)
section
variable {P:Program} {J:World→Prop} {F:Nat→Prop} {w:World}
theorem inV{f:Nat}{fn:Func}{g:Nat}{r:Array Value}(x:Value){Rt:Ending→World→Prop}(hf:P.funcs[f]? = some fn)(hJ:J w)(hr:zb w g r)(hd:¬ F g)(k:∀ a,SI J F [] (fun _=>g) (cfR fn [Sum.inl x,Sum.inr (0,0)] [(0,r)] 1) a w→At P (bodyPost P fn Rt) (cfR fn [Sum.inl x,Sum.inr (0,0)] [(0,r)] 1) a w)(hb:fn.body.isSome=true:=by kernel_rfl)(hids:xo ([Sum.inl x,Sum.inr (0,0)].map some) 1=true:=by kernel_rfl):Calls P f #[x,ye g] w Rt:=
 inR (P:=P) (J:=J) (F:=F) (β:=fun _=>g) (f:=f) (fn:=fn) [Sum.inl x,Sum.inr (0,0)] (rows:=[(0,r)]) (nx:=1) (Rt:=Rt) hf hJ (by intro p hp;simp only[List.mem_singleton]at hp;subst hp;exact hr) (by intro p hp;exact hd)
  (by intro p hp q hq hpq;simp only[List.mem_singleton]at hp hq;subst hp;subst hq;exact absurd rfl hpq) k (by intro p hp;simp only[List.mem_singleton]at hp;subst hp;exact Nat.one_pos) hb hids
end
theorem sealOf_any{g:Nat}{er:Int}{w:World}(hr:zb w g #[Z er])(s:ByteArray)(hs:s.size<1000000000)(adt:Option Addr)(mt capt:Nat):Calls prog 44 #[.agg (tx (1,0,s,.slice adt mt capt)).toArray,ye g] w fun e w'=>e=.returned (slV (sOf s))∧zb w' g #[Z (erN er (sOk s))]∧zi (fun k=>k≠g) w w':=by
 have hsr:∀ w',Calls prog 45 #[.string s] w' fun e w''=>e=.returned (.tuple #[slV (sOf s),Z (if sOk s=true then 0 else 2)])∧Below w'.heap.size w' w'':=fun w'=>sread_any s.data.toList (by rw[show s.data.toList.length=s.size from Array.length_toList];exact hs) w'
 generalize sOf s=x at hsr ⊢;generalize sOk s=ok at hsr ⊢;obtain⟨r,q,o⟩:=x;refine inV (J:=RO w g 5 1 (.slice none 0 0) 0 []) (F:=ROF w g (.slice none 0 0)) (.agg (tx (1,0,s,.slice adt mt capt)).toArray) func44 (RO.start _ _ _ _) hr RO.not fun a I=>?_;by_cases h0:er=0
 ·subst h0;refine goQ [kC func45 hsr,bO .eql 36 (eqE_run 0 0 (q:=true) rfl)] (RO.rs _ _ _ _ _ _ _) I fun β a w1 I hb=>?_;have hb0:β 0=g:=agr hb 0 rfl;exact zh (v:=slV (r,q,o)) I ⟨rfl,I.rowG 0 hb0 (r:=#[Z (if ok=true then 0 else 2)]),I.hJ.gr⟩
 ·refine goQ [kC func45 hsr,bO .eql 36 (eqE_run er 0 (q:=false) (decide_eq_false h0))] (RO.rs _ _ _ _ _ _ _) I fun β a w1 I hb=>?_;have hb0:β 0=g:=agr hb 0 rfl;have he:erN er ok=er:=by unfold erN;rw[if_neg h0]
  exact zh (v:=slV (r,q,o)) I ⟨rfl,by rw[he];exact I.rowG 0 hb0 (r:=#[Z er]),I.hJ.gr⟩
structure MlK (K:Nat→Prop) (lo:Nat) (pv ev sv:Value) (f:Fi) (v:Va) (l:List Se) (w:World):Prop where
 kb:∀ k,K k→lo≤k∧k<w.heap.size
 sp:SlI 1 CS K w pv f.1
 sx:SlI 2 CE K w ev v.2.2.2
 ss:SlI 9 CZ K w sv l
theorem MlK.rs(K:Nat→Prop)(lo:Nat)(pv ev sv:Value)(f:Fi)(v:Va)(l:List Se):yw (MlK K lo pv ev sv f v l) K:=
 ⟨fun w w' h gr=>⟨fun k hk=>⟨(h.kb k hk).1,Nat.lt_of_lt_of_le (h.kb k hk).2 gr.size⟩,h.sp.keep CS.loc fun k hk=>⟨hk,gr.block k (h.kb k hk).2 hk⟩,h.sx.keep CE.loc fun k hk=>⟨hk,gr.block k (h.kb k hk).2 hk⟩,h.ss.keep CZ.loc fun k hk=>⟨hk,gr.block k (h.kb k hk).2 hk⟩⟩,fun w k h hk=>(h.kb k hk).2⟩
abbrev zMl:Value:=mlV zFi zVa (.slice none 0 0) (.slice none 0 0) (.slice none 0 0)
def MlP (o:Option Ml) (w:World) (e:Ending) (w':World):Prop:=Below w.heap.size w w'∧((∃ f v l adp capp ade cape ads caps K,o=some (f,v,l)∧e=.returned (.tuple #[mlV f v (.slice adp f.1.length capp) (.slice ade v.2.2.2.length cape) (.slice ads l.length caps),Z 0])∧f.1.length≤capp∧MlK K w.heap.size (.slice adp f.1.length capp) (.slice ade v.2.2.2.length cape) (.slice ads l.length caps) f v l w')∨(o=none∧e=.returned (.tuple #[zMl,Z 2])))
theorem bd_mz(w:World):(Instr.build 33 (([]:List Nat).zip []).toArray).run prog w=.ok zMl w:=by kernel_rfl
theorem bd_sg(tu:Nat)(fi:Bool)(da:ByteArray)(ade:Option Addr)(n cape:Nat)(ads:Option Addr)(m caps:Nat)(w:World):(Instr.build 31 (([0,1]:List Nat).zip [.agg #[B tu,.bool fi,.string da,.slice ade n cape],.slice ads m caps]).toArray).run prog w=.ok (.agg #[B tu,.bool fi,.string da,.slice ade n cape,.slice ads m caps]) w:=by kernel_rfl
theorem bd_ml(no:Nat)(ap:ByteArray)(ti:Int)(adp:Option Addr)(k capp:Nat)(tu:Nat)(fi:Bool)(da:ByteArray)(ade:Option Addr)(n cape:Nat)(ads:Option Addr)(m caps:Nat)(w:World):(Instr.build 33 (([0,1]:List Nat).zip [.agg #[.slice adp k capp,B no,.string ap,Z ti],.agg #[B tu,.bool fi,.string da,.slice ade n cape,.slice ads m caps]]).toArray).run prog w=.ok (.agg #[.slice adp k capp,B no,.string ap,Z ti,B tu,.bool fi,.string da,.slice ade n cape,.slice ads m caps]) w:=by kernel_rfl
theorem hI63:∃ i,prog.info? 63=some i∧i.zero=some (slV zSe)∧i.size=9∧i.bytes=72:=info_of (by kernel_rfl)
theorem bs_se(c0 c1 c2 c3 c4 c5 c6 c7 c8:Value)(w:World):(Instr.buildSlice 29 1 #[(0,.agg #[c0,c1,c2,c3,c4,c5,c6,c7,c8])]).run prog w=.ok (.slice (some ⟨w.heap.size,0,none⟩) 1 1) (w.alloc (.cells #[c0,c1,c2,c3,c4,c5,c6,c7,c8] 63)):=by
 simp[go_sem]
theorem one9(s:Se):∀ x∈sl9 s,x.oneCell'=true:=by
 intro x hx;simp only[sl9,List.mem_cons,List.not_mem_nil,or_false]at hx;rcases hx with rfl|rfl|rfl|rfl|rfl|rfl|rfl|rfl|rfl<;>rfl
abbrev zMr:Array Value:=mlR zFi zVa (.slice none 0 0) (.slice none 0 0) (.slice none 0 0)
theorem over9{x0 x1 x2 x3 x4 x5 x6 x7 x8:Value}(c:Array Value)(h:c.size=9):over c 0 #[x0,x1,x2,x3,x4,x5,x6,x7,x8]=#[x0,x1,x2,x3,x4,x5,x6,x7,x8]:=by
 obtain⟨l⟩:=c
 match l,h with
 | [y0,y1,y2,y3,y4,y5,y6,y7,y8],_=>rfl
abbrev moK:List Nat:=[0,2,3,4,5,6,7,8,39,40,41]
abbrev moV (tv lv ov:Value) (g n i:Nat):Vs:=frm 61 [(0,Sum.inl tv),(2,Sum.inr (0,0)),(3,Sum.inl (Z 0)),(4,Sum.inr (1,0)),(5,Sum.inr (2,0)),(6,Sum.inr (3,0)),(7,Sum.inl (.func (.func 44) #[] #[ye g])),(8,Sum.inl ov),(39,Sum.inl lv),(40,Sum.inl (Z n)),(41,Sum.inl (Z i))]
theorem mailOf_any{w:World}{ad:Option Addr}{m cap:Nat}{s0 s1:ByteArray}{bs:List ByteArray}(h0:s0.size<1000000000)(h1:s1.size<1000000000)(hn:bs.length<100000000)(hbs:∀ b∈bs,b.size<1000000000)(h:LAf (· < w.heap.size) w 9 (.slice ad m cap) [yj 8 s0,yj 8 s1,zt 8 (bs.map (yj 7))]):Calls prog 17 #[.slice ad m cap] w (MlP (mlOf s0 s1 bs) w):=by
 obtain⟨ad',cap',he,hh⟩:=h;have he1:ad=ad'∧m=3:=by injection he with h1 h2 h3;exact⟨h1,h2⟩
 obtain⟨rfl,rfl⟩:=he1;obtain⟨ga,offa,v0,rfl,hlt,hc0,hL0⟩:=hh 0 (yj 8 s0) rfl;obtain⟨g1,o1,v1,e1,_,hc1,hL1⟩:=hh 1 (yj 8 s1) rfl;obtain⟨g2,o2,v2,e2,_,hc2,hL2⟩:=hh 2 (zt 8 (bs.map (yj 7))) rfl;cases e1;cases e2;obtain⟨adl,capl,hv2,hhl⟩:=hL2;have hlen:List.length (α:=TT 7) (bs.map (yj 7))=bs.length:=List.length_map _;rw[hlen]at hv2;subst hv2;simp only[]at hc0 hc1 hc2;have ld0:∀ w',Below w.heap.size w w'→(loadVar 9 ⟨ga,offa+0*7+5,none⟩).run prog w'=.ok (.string s0) w':=fun w' hb=>xk (hc0.keep (hb.block ga hlt)) 5 rfl 9 underlying9 rfl
 have ld1:∀ w',Below w.heap.size w w'→(loadVar 9 ⟨ga,offa+1*7+5,none⟩).run prog w'=.ok (.string s1) w':=fun w' hb=>xk (hc1.keep (hb.block ga hlt)) 5 rfl 9 underlying9 rfl
 have ld2:∀ w',Below w.heap.size w w'→(loadVar 48 ⟨ga,offa+2*7+6,none⟩).run prog w'=.ok (.slice adl bs.length capl) w':=fun w' hb=>xk (hc2.keep (hb.block ga hlt)) 6 rfl 48 underlying48 rfl
 have hs0:s0.data.toList.length<1000000000:=by rw[show s0.data.toList.length=s0.size from Array.length_toList];exact h0
 have hs1:s1.data.toList.length<1000000000:=by rw[show s1.data.toList.length=s1.size from Array.length_toList];exact h1
 have hrf:∀ w',Calls prog 42 #[.string s0] w' (RdFP s0.data.toList w'):=fun w'=>read_fixed s0.data.toList hs0 w'
 have hrv:∀ w',Calls prog 43 #[.string s1] w' (RdVP s1.data.toList w'):=fun w'=>read_state s1.data.toList hs1 w'
 have hml:mlOf s0 s1 bs=(rdF s0.data.toList).bind fun f=>(rdV s1.data.toList).bind fun v=>(seOf bs).map fun l=>(f,v,l):=rfl
 rw[hml];refine inZ func17 fun a I=>?_;refine goT (T:=Below w.heap.size w) [iA 48 underlying48 (sz:=7) (by kernel_rfl) (g:=ga) (off:=offa) (n:=3) (cap:=cap) (i:=0) (by decide),ldA 9 ld0] (zj w) (fun _ h=>h) I fun β0 a0 w0 I0 hb0=>?_;refine yp (ss:=[Sum.inl (.string s0)]) func42 I0 ?_;refine(hrf w0).mono fun e y1 he=>?_;obtain⟨hb1',he⟩:=he;rcases he with⟨f,adp,capp,K1,hf,rfl,hcp,hK1,hS1⟩ | ⟨hf,rfl⟩
 case inr=>
  rw[hf];have I1:=I0.moved (J':=Below w.heap.size w) (F':=(· < w.heap.size)) (zi.of_below hb1') ((zj w).loc w0 y1 I0.hJ (zi.of_below hb1')) (fun _ _ h=>h) (.tuple #[qm zFi (.slice none 0 0),Z 2]);refine goZ [bO .neq 36 (vt 2 0 (q:=true) (by decide))] I1 fun β3 a3 w3 I hb3=>?_;refine dwW (T:=fun _=>True) 33 2 2 0 21 zMr zMl rfl (by kernel_rfl) (by kernel_rfl) over9 [(1,#[.slice none 0 0,B 0,.string eB,Z 0]),(2,#[Z 2])] [dO 33 [] bd_mz] (zj w) (fun _ _=>trivial) I fun vs4 a4 w4 I=>?_;refine goZ [] I fun β5 a5 w5 I hb5=>?_;exact zh (v:=.tuple #[zMl,Z 2]) I ⟨I.hJ,.inr ⟨rfl,rfl⟩⟩
 rw[hf];obtain⟨ps,no,ap,ti⟩:=f;simp only[]at hcp hS1;have J1:SI (fun w'=>Below w.heap.size w w'∧SK 1 CS K1 w0.heap.size (.slice adp ps.length capp) ps w') (fun k=>(k<w.heap.size)∨K1 k) [] β0 _ _ y1:=I0.moved (zi.of_below hb1') ⟨(zj w).loc w0 y1 I0.hJ (zi.of_below hb1'),hK1,hS1⟩ (fun k hk h=>by
  rcases h with h|h
  ·exact h
  ·have:=(hK1 k h).1;omega) (.tuple #[.agg #[.slice adp ps.length capp,B no,.string ap,Z ti],Z 0])
 have R1:=(zj w).both (SK.rs CS.loc 1 K1 w0.heap.size (.slice adp ps.length capp) ps);refine goT (T:=fun w'=>Below w.heap.size w w'∧SK 1 CS K1 w0.heap.size (.slice adp ps.length capp) ps w') [bO .neq 36 (vt 0 0 (q:=false) (by decide)),iA 48 underlying48 (sz:=7) (by kernel_rfl) (g:=ga) (off:=offa) (n:=3) (cap:=cap) (i:=1) (by decide),ldA 9 (fun w' h=>ld1 w' h.1)] R1 (fun _ h=>h) J1 fun β1 a1 w1 I1 hb1=>?_;refine yp (ss:=[Sum.inl (.string s1)]) func43 I1 ?_;refine(hrv w1).mono fun e y2 he=>?_;obtain⟨hb2',he⟩:=he;have hsz0:=I0.hJ.size;have hsz1:=I1.hJ.1.size
 rcases he with⟨v,ade,cape,K2,hv,rfl,hK2,hS2⟩|⟨hv,rfl⟩
 case inr=>
  rw[hv];have I2:=I1.moved (J':=Below w.heap.size w) (F':=(· < w.heap.size)) (zi.of_below hb2') ((zj w).loc w1 y2 I1.hJ.1 (zi.of_below hb2')) (fun _ _ h=>.inl h) (.tuple #[vaV zVa (.slice none 0 0),Z 2]);refine goZ [bO .neq 36 (vt 2 0 (q:=true) (by decide))] I2 fun β3 a3 w3 I hb3=>?_;refine dwW (T:=fun _=>True) 33 2 2 0 33 zMr zMl rfl (by kernel_rfl) (by kernel_rfl) over9 [(1,#[.slice adp ps.length capp,B no,.string ap,Z ti]),(2,#[Z 2]),(3,#[B 0,.bool false,.string eB,.slice none 0 0])] [dO 33 [] bd_mz] (zj w) (fun _ _=>trivial) I fun vs4 a4 w4 I=>?_
  refine goZ [] I fun β5 a5 w5 I hb5=>?_;exact zh (v:=.tuple #[zMl,Z 2]) I ⟨I.hJ,.inr ⟨rfl,rfl⟩⟩
 rw[hv];obtain⟨tu,fi,da,xs⟩:=v;simp only[]at hS2;have J2:SI (fun w'=>(Below w.heap.size w w'∧SK 1 CS K1 w0.heap.size (.slice adp ps.length capp) ps w')∧SK 2 CE K2 w1.heap.size (.slice ade xs.length cape) xs w') (fun k=>((k<w.heap.size)∨K1 k)∨K2 k) [] β1 _ _ y2:=I1.moved (zi.of_below hb2') ⟨R1.loc w1 y2 I1.hJ (zi.of_below hb2'),hK2,hS2⟩ (fun k hk h=>by
  rcases h with h|h
  ·exact h
  ·have:=(hK2 k h).1;omega) (.tuple #[.agg #[B tu,.bool fi,.string da,.slice ade xs.length cape],Z 0])
 have R2:=R1.both (SK.rs CE.loc 2 K2 w1.heap.size (.slice ade xs.length cape) xs);refine goT (T:=fun w'=>(Below w.heap.size w w'∧SK 1 CS K1 w0.heap.size (.slice adp ps.length capp) ps w')∧SK 2 CE K2 w1.heap.size (.slice ade xs.length cape) xs w') [bO .neq 36 (vt 0 0 (q:=false) (by decide))] R2 (fun _ h=>h) J2 fun β2 a2 w2 I2 hb2=>?_;obtain⟨g,hg⟩:∃ g,β2 2=g:=⟨_,rfl⟩
 refine mkfX (fn:=.func 44) (ss:=[Sum.inr (2,0)]) I2 ?_;have efv:(.func (.func 44) #[] (([Sum.inr (2,0)]:List SV).map (up β2)).toArray:Value)=.func (.func 44) #[] #[ye g]:=by simp only[List.map_cons,List.map_nil,up,hg]
 rw[efv];have I3:=I2.same (.func (.func 44) #[] #[ye g]);refine goT (T:=fun w'=>(Below w.heap.size w w'∧SK 1 CS K1 w0.heap.size (.slice adp ps.length capp) ps w')∧SK 2 CE K2 w1.heap.size (.slice ade xs.length cape) xs w') [iA 48 underlying48 (sz:=7) (by kernel_rfl) (g:=ga) (off:=offa) (n:=3) (cap:=cap) (i:=2) (by decide),ldA 48 (fun w' h=>ld2 w' h.1.1),lS underlying48 (ad:=adl) (n:=bs.length) (cap:=capl) rfl] R2 (fun _ h=>h) I3 fun β4 a4 w4 I4 hb4=>?_;have hg4:=agr hb4 2 hg
 have RS:=(SK.rs CS.loc 1 K1 w0.heap.size (.slice adp ps.length capp) ps).both (SK.rs CE.loc 2 K2 w1.heap.size (.slice ade xs.length cape) xs);have I5:SI (fun w'=>QJ CZ w 63 9 (.slice none 0 0) [] [] noK w'∧(SK 1 CS K1 w0.heap.size (.slice adp ps.length capp) ps w'∧SK 2 CE K2 w1.heap.size (.slice ade xs.length cape) xs w')) (fun k=>QF w (.slice none 0 0) noK k∨(K1 k∨K2 k)) [] β4 _ a4 w4:=I4.less ⟨(QJ.rs CZ.loc w 63 9 (.slice none 0 0) [] [] noK).loc w w4 (QJ.start _ _ _ _) (zi.of_below I4.hJ.1.1),I4.hJ.1.2,I4.hJ.2⟩ (fun k hk=>by
  rcases hk with(hk|hk|hk)|hk|hk
  ·exact .inl (.inl hk)
  ·cases hk
  ·exact hk.elim
  ·exact .inl (.inr hk)
  ·exact .inr hk)
 let St:Nat→Act→World→Prop:=fun k a w'=>∃(i:Nat) (β:Nat→Nat) (u:Nat→Value) (ad:Option Addr) (cap':Nat) (X:List (List Value)) (K:Nat→Prop),k=bs.length-i∧i≤bs.length∧X.length=i∧β 2=g∧(∀ k,(K1 k∨K2 k)→(Value.slice ad i cap').ownBlock≠some k) ∧
  SI (fun w'=>QJ CZ w 63 9 (.slice ad i cap') X ((bs.take i).map sOf) K w'∧(SK 1 CS K1 w0.heap.size (.slice adp ps.length capp) ps w'∧SK 2 CE K2 w1.heap.size (.slice ade xs.length cape) xs w')) (fun k=>QF w (.slice ad i cap') K k∨(K1 k∨K2 k)) [] β (cfC (zc Tryz.f17) (zl (zg 61 moK) u 0 (moV (.slice (some ⟨ga,offa,none⟩) 3 cap) (.slice adl bs.length capl) (.slice ad i cap') g bs.length i)) [(0,mlR zFi zVa (.slice none 0 0) (.slice none 0 0) (.slice none 0 0)),(1,#[.slice adp ps.length capp,B no,.string ap,Z ti]),(2,#[Z (erOf (bs.take i))]),(3,#[B tu,.bool fi,.string da,.slice ade xs.length cape])] 4) a w'
 refine lpM (zc Tryz.f17) St bs.length ?_ ?_
 ·obtain⟨u,Iu⟩:=I5.scr (zc Tryz.f17) (zg 61 moK) (moV (.slice (some ⟨ga,offa,none⟩) 3 cap) (.slice adl bs.length capl) (.slice none 0 0) g bs.length 0) [(0,mlR zFi zVa (.slice none 0 0) (.slice none 0 0) (.slice none 0 0)),(1,#[.slice adp ps.length capp,B no,.string ap,Z ti]),(2,#[Z 0]),(3,#[B tu,.bool fi,.string da,.slice ade xs.length cape])] 4;exact⟨0,β4,u,none,0,[],noK,by omega,Nat.zero_le _,rfl,hg4,fun k _ h=>(by cases h),Iu⟩
 rintro k a6 w6 ⟨i,β6,u,ad,cap',X,K,rfl,hi,hXi,hg6,hown,I⟩;obtain⟨er,her⟩:∃ er,erOf (bs.take i)=er:=⟨_,rfl⟩
 rw[her]at I;refine zv (tm:=zl (zg 61 moK) u 0 (moV (.slice (some ⟨ga,offa,none⟩) 3 cap) (.slice adl bs.length capl) (.slice ad i cap') g bs.length i)) (rows:=[(0,mlR zFi zVa (.slice none 0 0) (.slice none 0 0) (.slice none 0 0)),(1,#[.slice adp ps.length capp,B no,.string ap,Z ti]),(2,#[Z er]),(3,#[B tu,.bool fi,.string da,.slice ade xs.length cape])]) (nx:=4) ?_;rcases Nat.lt_or_ge i bs.length with hil|hil
 ·obtain⟨b,hbi⟩:∃ t,bs[i]? = some t:=⟨_,List.getElem?_eq_getElem hil⟩
  have hbt:(bs.map (yj 7))[i]? = some (yj 7 b):=by rw[List.getElem?_map,hbi];rfl
  obtain⟨gl,ol,lv,rfl,hltl,hcl,hLl⟩:=hhl i (yj 7 b) hbt;obtain⟨adt,mt,capt,rfl⟩:=hLl.slice;have hbl:=hbs b (List.mem_of_getElem? hbi);obtain⟨L,hL⟩:∃ L,((bs.take i).map sOf)=L:=⟨_,rfl⟩
  rw[hL]at I;have hld:∀ w',(QJ CZ w 63 9 (.slice ad i cap') X L K w'∧(SK 1 CS K1 w0.heap.size (.slice adp ps.length capp) ps w'∧SK 2 CE K2 w1.heap.size (.slice ade xs.length cape) xs w'))→(loadVar 59 ⟨gl,ol+i*7,none⟩).run prog w'=.ok (.agg (tx (1,0,b,.slice adt mt capt)).toArray) w':=fun w' hb=>qe (hcl.keep (hb.1.below.block gl hltl))
  have RQ:=(QJ.rs CZ.loc w 63 9 (.slice ad i cap') X L K).both RS;refine goT (T:=fun w'=>QJ CZ w 63 9 (.slice ad i cap') X L K w'∧(SK 1 CS K1 w0.heap.size (.slice adp ps.length capp) ps w'∧SK 2 CE K2 w1.heap.size (.slice ade xs.length cape) xs w')) [klT i bs.length,iA 48 underlying48 (sz:=7) (by kernel_rfl) (g:=gl) (off:=ol) (n:=bs.length) (cap:=capl) hil,ldA 59 hld] RQ (fun _ h=>h) I fun β7 a7 w7 I7 hb7=>?_;have hg7:=agr hb7 2 hg6;have hr7:=I7.rowG 2 hg7 (r:=#[Z er]);refine zcb [Sum.inl (.agg (tx (1,0,b,.slice adt mt capt)).toArray),Sum.inl (ye g)] func44 I7 ?_
  refine(sealOf_any hr7 b hbl adt mt capt).mono fun e w8 he=>?_;obtain⟨rfl,hr8,hg8⟩:=he;obtain⟨er8,her8⟩:∃ e,erN er (sOk b)=e:=⟨_,rfl⟩
  rw[her8]at hr8;have hnF:¬ (QF w (.slice ad i cap') K g∨(K1 g∨K2 g)):=by
   have:=I7.dis _ (zy (show y9 _ 2=some #[Z er] by kernel_rfl))
   rwa [hg7]at this
  refine(vp (id:=2) (r:=#[Z er8])).1 ?_;have I8:=I7.rowed (id:=2) (r0:=#[Z er]) (r:=#[Z er8]) (by kernel_rfl) (J':=fun w'=>QJ CZ w 63 9 (.slice ad i cap') X L K w'∧(SK 1 CS K1 w0.heap.size (.slice adp ps.length capp) ps w'∧SK 2 CE K2 w1.heap.size (.slice ade xs.length cape) xs w')) (F':=fun k=>QF w (.slice ad i cap') K k∨(K1 k∨K2 k)) (hg8.mono fun k hk=>by rw[hg7]at hk;exact hk.2) (by rw[hg7];exact hr8) (RQ.loc w7 w8 I7.hJ (hg8.mono fun k hk e=>hnF (e ▸ hk))) (fun _ _ h=>h) (slV (sOf b));have hst:=erOf_step hbi;rw[her,her8]at hst;have hlt9:=sOf_lt b;obtain⟨x,hx⟩:∃ x,sOf b=x:=⟨_,rfl⟩
  rw[hx]at I8 hlt9 ⊢;obtain⟨r,q,o⟩:=x;have I9:=(I8.also (J':=MK CZ noK (r,q,o) (sl9 (r,q,o))) (F':=noK) ⟨fun k h=>h.elim,rfl,hlt9.1,hlt9.2⟩ (fun p hp h=>h.elim)).less (J':=fun w'=>(QJ CZ w 63 9 (.slice ad i cap') X L K w'∧MK CZ noK (r,q,o) (sl9 (r,q,o)) w')∧(SK 1 CS K1 w0.heap.size (.slice adp ps.length capp) ps w'∧SK 2 CE K2 w1.heap.size (.slice ade xs.length cape) xs w')) (F':=fun k=>(QF w (.slice ad i cap') K k∨noK k)∨(K1 k∨K2 k)) ⟨⟨I8.hJ.1,⟨fun k h=>h.elim,rfl,hlt9.1,hlt9.2⟩⟩,I8.hJ.2⟩ (fun k hk=>by
   rcases hk with(hk|hk)|hk
   ·exact .inl (.inl hk)
   ·exact hk.elim
   ·exact .inl (.inr hk))
  refine zcn CZ.loc underlying29 hI63 rfl (by decide) (by decide) (ev:=slV (r,q,o)) RS (bs_se _ _ _ _ _ _ _ _ _ w8) rfl (one9 _) I9 hown hXi (by omega) (fun k h=>h.elim) fun ad10 cap10 a10 w10 hF10 I10=>?_;refine goQ [kaZ i 1 (i+1:Nat)] ((QJ.rs CZ.loc _ _ _ _ _ _ _).both RS) I10 fun β11 a11 w11 I11 hb11=>?_;have hg11:=agr hb11 2 hg7
  obtain⟨u',Iu⟩:=I11.scr (zc Tryz.f17) (zg 61 moK) (moV (.slice (some ⟨ga,offa,none⟩) 3 cap) (.slice (some ⟨gl,ol,none⟩) bs.length capl) (.slice ad10 (i+1) cap10) g bs.length (i+1)) [(0,mlR zFi zVa (.slice none 0 0) (.slice none 0 0) (.slice none 0 0)),(1,#[.slice adp ps.length capp,B no,.string ap,Z ti]),(2,#[Z er8]),(3,#[B tu,.bool fi,.string da,.slice ade xs.length cape])] 4;have htk:(bs.take (i+1)).map sOf=L++[(r,q,o)]:=by rw[List.take_add_one,hbi,List.map_append,hL,← hx];rfl
  refine xc ⟨bs.length-(i+1),by omega,i+1,β11,u',ad10,cap10,X++[sl9 (r,q,o)],(fun k=>K k∨noK k),rfl,hil,by rw[List.length_append,hXi];rfl,hg11,hF10,?_⟩;rw[htk,hst];exact Iu
 ·obtain rfl:i=bs.length:=by omega
  rw[List.take_length]at her;rw[List.take_length]at I;have RQ:=(QJ.rs CZ.loc w 63 9 (.slice ad bs.length cap') X (bs.map sOf) K).both RS;refine goQ [bO .lss 3 (zf (x:=bs.length) (y:=bs.length) (b:=false) (by simp))] RQ I fun β7 a7 w7 I7 hb7=>?_;refine xg 0 ?_;unfold erOf at her;unfold seOf;by_cases hall:bs.all sOk=true
  ·rw[if_pos hall]at her ⊢;subst her;refine goQ [bO .neq 36 (vt 0 0 (q:=false) (by decide)),dO 31 [0,1] (bd_sg tu fi da ade xs.length cape ad bs.length cap'),dO 33 [0,1] (bd_ml no ap ti adp ps.length capp tu fi da ade xs.length cape ad bs.length cap')] RQ (I7.exit _) fun β8 a8 w8 I8 hb8=>?_;have hd:=I8.hJ.1.done CZ.loc;have hkb:=I8.hJ.1.kb2;have hq1:=I8.hJ.2.1;have hq2:=I8.hJ.2.2
   refine zh (v:=.tuple #[.agg #[.slice adp ps.length capp,B no,.string ap,Z ti,B tu,.bool fi,.string da,.slice ade xs.length cape,.slice ad bs.length cap'],Z 0]) I8 ⟨I8.hJ.1.below,.inl ⟨(ps,no,ap,ti),(tu,fi,da,xs),bs.map sOf,adp,capp,ade,cape,ad,cap',fun k=>(K1 k∨K2 k)∨(K k∨(Value.slice ad bs.length cap').ownBlock=some k),rfl,by rw[List.length_map],hcp,?_⟩⟩;refine⟨fun k hk=>?_,hq1.sl.keep CS.loc fun k hk=>⟨.inl (.inl hk),rfl⟩,hq2.sl.keep CE.loc fun k hk=>⟨.inl (.inr hk),rfl⟩,?_⟩
   ·rcases hk with(hk|hk)|hk
    ·have:=hq1.kb k hk;omega
    ·have:=hq2.kb k hk;omega
    ·exact hkb k hk
   ·rw[List.length_map];exact hd.keep CZ.loc fun k hk=>⟨.inr hk,rfl⟩
  ·rw[if_neg hall]at her ⊢;subst her;refine goQ [bO .neq 36 (vt 2 0 (q:=true) (by decide))] RQ (I7.exit _) fun β8 a8 w8 I8 hb8=>?_;refine dwW (T:=fun _=>True) 33 2 2 0 54 zMr zMl rfl (by kernel_rfl) (by kernel_rfl) over9 [(1,#[.slice adp ps.length capp,B no,.string ap,Z ti]),(2,#[Z 2]),(3,#[B tu,.bool fi,.string da,.slice ade xs.length cape])] [dO 33 [] bd_mz] RQ (fun _ _=>trivial) I8 fun vs9 a9 w9 I9=>?_;refine goQ [] RQ I9 fun β10 a10 w10 I10 hb10=>?_;exact zh (v:=.tuple #[zMl,Z 2]) I10 ⟨I10.hJ.1.below,.inr ⟨rfl,rfl⟩⟩
abbrev fmM:List UInt8:=[116,116,91,116,93]
def shM (n:Nat):List (ST (n+1)):=[shX (n+1),shX (n+1),(2,true,[shX n])]
theorem parts_fmM:xe fmM=some [[116],[116],[91,116,93]]:=by kernel_rfl
theorem sh_fmM:([[116],[116],[91,116,93]]:List (List UInt8)).map (shT 8)=shM 7:=by kernel_rfl
theorem fitS_txt{n:Nat}{t:TT n}(h:xh n (shX n) t):t=yj n t.2.2.1∧t.2.2.1.size≤16384:=by
 obtain⟨k,u,s,l⟩:=t;cases n with
 | zero=>
  rcases h with h|h|h
  ·exact absurd h.1 (show ¬ (1:Int)=0 by decide)
  ·obtain⟨_,h1,h2,h3,h4⟩:=h;simp only[]at h1 h2 h3 h4;subst h1 h2 h4;exact⟨rfl,h3⟩
  ·exact h.elim
 | succ n=>
  rcases h with h|h|h
  ·exact absurd h.1 (show ¬ (1:Int)=0 by decide)
  ·obtain⟨_,h1,h2,h3,h4⟩:=h;simp only[]at h1 h2 h3 h4;subst h1 h2 h4;exact⟨rfl,h3⟩
  ·exact absurd h.1 (show ¬ (1:Int)=2 by decide)
theorem txts_of{n:Nat}:∀ x:List (TT n),(∀ t∈x,xh n (shX n) t)→∃ bs:List ByteArray,x=bs.map (yj n)∧bs.length=x.length∧∀ b∈bs,b.size≤16384
 | [],_=>⟨[],rfl,rfl,fun b h=>(by cases h)⟩
 | t::x,h=>by
  obtain⟨bs,h1,h2,h3⟩:=txts_of x fun t ht=>h t (List.mem_cons_of_mem _ ht)
  obtain⟨q1,q2⟩:=fitS_txt (h t List.mem_cons_self);refine⟨t.2.2.1::bs,by rw[List.map_cons,← h1,← q1],by rw[List.length_cons,h2,List.length_cons],fun b hb=>?_⟩;rcases List.mem_cons.1 hb with rfl | hb
  ·exact q2
  ·exact h3 b hb
theorem okMl_of{n:Nat}{ts:List (TT (n+1))}(h:qy (xh (n+1)) (shM n) ts):∃(s0 s1:ByteArray) (bs:List ByteArray),ts=[yj (n+1) s0,yj (n+1) s1,zt (n+1) (bs.map (yj n))]∧s0.size≤16384∧s1.size≤16384∧bs.length≤64∧∀ b∈bs,b.size≤16384:=by
 match ts,h with
 | [t0,t1,(k,u,s,x)],hf=>
  obtain⟨q1,q2⟩:=fitS_txt hf.1;obtain⟨r1,r2⟩:=fitS_txt hf.2.1;obtain⟨a1,a2,a3,_⟩:=fitS_lst hf.2.2.1;obtain⟨m1,m2⟩:=zde hf.2.2.1;simp only[]at a1 a2 a3;subst a1 a2 a3;have m1:List.length (α:=TT n) x≤64:=m1;obtain⟨bs,h1,h2,h3⟩:=txts_of x fun t ht=>m2 t ht
  exact⟨t0.2.2.1,t1.2.2.1,bs,by rw[← q1,← r1,← h1],q2,r2,by omega,h3⟩
abbrev txO (ts:List (TT 8)) (i:Nat):ByteArray:=((ts[i]?).map fun t=>t.2.2.1).getD eB
abbrev bsO (ts:List (TT 8)):List ByteArray:=((ts[2]?).map fun t=>List.map (α:=TT 7) (fun u=>u.2.2.1) t.2.2.2).getD []
def rdM (S:List UInt8):Option Ml:=(ku fmM S).bind fun ts=>(mlOf (txO ts 0) (txO ts 1) (bsO ts)).bind fun m=>if fitM m.1 m.2.1 m.2.2=true then some m else none
theorem rdM_eq{S:List UInt8}{s0 s1:ByteArray}{bs:List ByteArray}(h:ku fmM S=some [yj 8 s0,yj 8 s1,zt 8 (bs.map (yj 7))]):rdM S=(mlOf s0 s1 bs).bind fun m=>if fitM m.1 m.2.1 m.2.2=true then some m else none:=by
 have e:bsO [yj 8 s0,yj 8 s1,zt 8 (bs.map (yj 7))]=bs:=by
  show List.map (α:=TT 7) (fun u=>u.2.2.1) (bs.map (yj 7))=bs;rw[List.map_map];exact List.map_id _
 unfold rdM;rw[h,Option.bind_some,e];rfl
theorem mlOf_some{s0 s1:ByteArray}{bs:List ByteArray}{f:Fi}{v:Va}{l:List Se}(h:mlOf s0 s1 bs=some (f,v,l)):rdF s0.data.toList=some f∧rdV s1.data.toList=some v∧seOf bs=some l:=by
 unfold mlOf at h;simp only[Option.bind_eq_some_iff,Option.map_eq_some_iff,Prod.mk.injEq]at h;obtain⟨f',h1,v',h2,l',h3,rfl,rfl,rfl⟩:=h;exact⟨h1,h2,h3⟩
theorem rdF_nf{S:List UInt8}{f:Fi}(h:rdF S=some f):f.2.1<M:=by
 unfold rdF at h;simp only[Option.bind_eq_some_iff]at h;obtain⟨ts,_,h⟩:=h;split at h
 ·cases h;exact kr _
 ·cases h
theorem rdV_nv{S:List UInt8}{v:Va}(h:rdV S=some v):v.1<M:=by
 unfold rdV at h;simp only[Option.bind_eq_some_iff]at h;obtain⟨ts,_,h⟩:=h;split at h
 ·cases h;exact kr _
 ·cases h
theorem seOf_some{bs:List ByteArray}{l:List Se}(h:seOf bs=some l):l=bs.map sOf∧bs.all sOk=true:=by
 unfold seOf at h;split at h
 ·next hc=>cases h;exact⟨rfl,hc⟩
 ·cases h
theorem MlK.lo{K:Nat→Prop}{lo lo':Nat}{pv ev sv:Value}{f:Fi}{v:Va}{l:List Se}{w:World}(h:MlK K lo pv ev sv f v l w)(hl:lo'≤lo):MlK K lo' pv ev sv f v l w:=⟨fun k hk=>⟨by have:=(h.kb k hk).1;omega,(h.kb k hk).2⟩,h.sp,h.sx,h.ss⟩
theorem MlK.mli{K:Nat→Prop}{lo:Nat}{adp ade ads:Option Addr}{capp cape caps:Nat}{f:Fi}{v:Va}{l:List Se}{w:World}(h:MlK K lo (.slice adp f.1.length capp) (.slice ade v.2.2.2.length cape) (.slice ads l.length caps) f v l w)(hcp:f.1.length≤capp)(nf:f.2.1<M)(nv:v.1<M)(ok:okX v.2.2.2)(ln:l.length<100000000):MlI w (.slice adp f.1.length capp) (.slice ade v.2.2.2.length cape) (.slice ads l.length caps) f v l:=
 ⟨⟨h.sp.keep CS.loc fun k hk=>⟨(h.kb k hk).2,rfl⟩,adp,capp,rfl,hcp⟩,h.sx.keep CE.loc fun k hk=>⟨(h.kb k hk).2,rfl⟩,h.ss.keep CZ.loc fun k hk=>⟨(h.kb k hk).2,rfl⟩,nf,nv,ok,ln⟩
theorem mlOf_ok{s0 s1:ByteArray}{bs:List ByteArray}{f:Fi}{v:Va}{l:List Se}(h0:s0.size≤16384)(h1:s1.size≤16384)(hn:bs.length≤64)(h:mlOf s0 s1 bs=some (f,v,l)):f.2.1<M∧v.1<M∧okX v.2.2.2∧l.length<100000000∧f.1.length<1000000000:=by
 obtain⟨q1,q2,q3⟩:=mlOf_some h;have e0:s0.data.toList.length<W:=by rw[show s0.data.toList.length=s0.size from Array.length_toList];exact Nat.lt_of_le_of_lt h0 (by decide)
 have e1:s1.data.toList.length<W:=by rw[show s1.data.toList.length=s1.size from Array.length_toList];exact Nat.lt_of_le_of_lt h1 (by decide)
 have o1:=rdV_ok e1;have o2:=rdF_len e0;rw[q2]at o1;rw[q1]at o2;refine⟨rdF_nf q1,rdV_nv q2,o1,?_,o2⟩;rw[(seOf_some q3).1,List.length_map];omega
theorem mread_any(S:List UInt8)(hS:S.length<1000000000)(w:World):Calls prog 8 #[str S] w (MlP (rdM S) w):=by
 refine inZ func8 fun a I=>?_;refine goZ [] I fun β a w1 I hb=>?_;refine yp (ss:=[Sum.inl (str fmM),Sum.inl (str S)]) func16 I ?_;refine(decode_any (f:=fmM) (by decide) (by omega) w1).mono fun e w2 he=>?_;obtain⟨hb2,he⟩:=he;have hsz1:=I.hJ.size;have hbw2:=I.hJ.trans (hb2.mono hsz1);have hW:S.length<W:=Nat.lt_trans hS (by decide);rcases he with⟨ts,v,K,hd,rfl,hK,hL⟩ | ⟨hd,rfl⟩
 case inr=>
  have I2:=I.moved (J':=Below w.heap.size w) (F':=(· < w.heap.size)) (zi.of_below hb2) hbw2 (fun _ _ h=>h) (.tuple #[.slice none 0 0,Z 2]);refine goZ [bO .neq 36 (vt 2 0 (q:=true) (by decide)),dO 33 [] bd_mz] I2 fun β3 a3 w3 I hb3=>?_;refine zh (v:=.tuple #[zMl,Z 2]) I ⟨I.hJ,.inr ⟨?_,rfl⟩⟩;unfold rdM;rw[hd];rfl
 obtain⟨ps,hp,hfr,henc⟩:=qg hW hd;rw[parts_fmM]at hp;cases hp;rw[sh_fmM]at hfr;obtain⟨s0,s1,bs,rfl,h0,h1,hn,hbz⟩:=okMl_of (n:=7) hfr;have hrd:=rdM_eq hd;rw[hrd];obtain⟨adl,ml,capl,rfl⟩:=hL.slice;have I2:SI (fun w'=>Below w.heap.size w w'∧LK K w1.heap.size 9 (.slice adl ml capl) [yj 8 s0,yj 8 s1,zt 8 (bs.map (yj 7))] w') (fun k=>k<w.heap.size∨K k) [] β _ _ w2:=I.moved (zi.of_below hb2) ⟨hbw2,hK,hL⟩ (fun k hk h=>by
  rcases h with h|h
  ·exact h
  ·have:=(hK k h).1;omega) (.tuple #[.slice adl ml capl,Z 0])
 refine goQ [bO .neq 36 (vt 0 0 (q:=false) (by decide))] ((zj w).both (LK.rs _ _ _ _ _)) I2 fun β3 a3 w3 I hb3=>?_;refine yp (ss:=[Sum.inl (.slice adl ml capl)]) func17 I ?_;have hsz3:=I.hJ.1.size;refine(mailOf_any (by omega) (by omega) (by omega) (fun b hb=>by have:=hbz b hb;omega) (I.hJ.2.la.mono fun k hk=>(I.hJ.2.kb k hk).2)).mono fun e w4 he=>?_;obtain⟨hb4,he⟩:=he;rcases he with⟨f,v,l,adp,capp,ade,cape,ads,caps,K2,hm,rfl,hcp,hMK⟩ | ⟨hm,rfl⟩
 case inr=>
  rw[hm];have I4:=I.moved (J':=Below w.heap.size w) (F':=(· < w.heap.size)) (zi.of_below hb4) (I.hJ.1.trans (hb4.mono hsz3)) (fun _ _ h=>.inl h) (.tuple #[zMl,Z 2]);refine goZ [bO .neq 36 (vt 2 0 (q:=true) (by decide)),dO 33 [] bd_mz] I4 fun β5 a5 w5 I hb5=>?_;exact zh (v:=.tuple #[zMl,Z 2]) I ⟨I.hJ,.inr ⟨rfl,rfl⟩⟩
 obtain⟨nf,nv,ok,ln,_⟩:=mlOf_ok h0 h1 hn hm;rw[hm,Option.bind_some];simp only[];have hF:∀ w',(Below w.heap.size w w'∧MlK K2 w3.heap.size (.slice adp f.1.length capp) (.slice ade v.2.2.2.length cape) (.slice ads l.length caps) f v l w')→Calls prog 10 #[mlV f v (.slice adp f.1.length capp) (.slice ade v.2.2.2.length cape) (.slice ads l.length caps)] w' fun e w''=>e=.returned (.bool (fitM f v l))∧Below w'.heap.size w' w'':=fun w' h=>mfit_any (h.2.mli hcp nf nv ok ln)
 have I4:SI (fun w'=>Below w.heap.size w w'∧MlK K2 w3.heap.size (.slice adp f.1.length capp) (.slice ade v.2.2.2.length cape) (.slice ads l.length caps) f v l w') (fun k=>k<w.heap.size∨K2 k) [] β3 _ _ w4:=I.moved (zi.of_below hb4) ⟨I.hJ.1.trans (hb4.mono hsz3),hMK⟩ (fun k hk h=>by
  rcases h with h|h
  ·exact .inl h
  ·have:=(hMK.kb k h).1;omega) (.tuple #[mlV f v (.slice adp f.1.length capp) (.slice ade v.2.2.2.length cape) (.slice ads l.length caps),Z 0])
 cases hfm:fitM f v l with
 | false=>
  rw[hfm]at hF;rw[if_neg (by decide)];refine goT (T:=fun w'=>Below w.heap.size w w'∧MlK K2 w3.heap.size (.slice adp f.1.length capp) (.slice ade v.2.2.2.length cape) (.slice ads l.length caps) f v l w') [bO .neq 36 (vt 0 0 (q:=false) (by decide)),cA func10 hF,uO .not (p:=.bool false) (v:=.bool true) (by intros;rfl),dO 33 [] bd_mz] ((zj w).both (MlK.rs _ _ _ _ _ _ _ _)) (fun _ h=>h) I4 fun β5 a5 w5 I hb5=>?_;exact zh (v:=.tuple #[zMl,Z 2]) I ⟨I.hJ.1,.inr ⟨rfl,rfl⟩⟩
 | true=>
  rw[hfm]at hF;rw[if_pos rfl];refine goT (T:=fun w'=>Below w.heap.size w w'∧MlK K2 w3.heap.size (.slice adp f.1.length capp) (.slice ade v.2.2.2.length cape) (.slice ads l.length caps) f v l w') [bO .neq 36 (vt 0 0 (q:=false) (by decide)),cA func10 hF,uO .not (p:=.bool true) (v:=.bool false) (by intros;rfl)] ((zj w).both (MlK.rs _ _ _ _ _ _ _ _)) (fun _ h=>h) I4 fun β5 a5 w5 I hb5=>?_
  exact zh (v:=.tuple #[mlV f v (.slice adp f.1.length capp) (.slice ade v.2.2.2.length cape) (.slice ads l.length caps),Z 0]) I ⟨I.hJ.1,.inl ⟨f,v,l,adp,capp,ade,cape,ads,caps,K2,rfl,rfl,hcp,I.hJ.2.lo hsz3⟩⟩
end Go.Proofs.YtdeompgdhaomgaaGreatDoor
