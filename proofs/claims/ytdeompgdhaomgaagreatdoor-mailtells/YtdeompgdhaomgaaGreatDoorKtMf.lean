/- Out of Mf. -/
import Derived.Test.YtdeompgdhaomgaaGreatDoorKtMd
namespace Go.Proofs.YtdeompgdhaomgaaGreatDoor
open Go.RowKit Go.Sort Go.Proofs.Tryz
set_option linter.unusedVariables false
set_option maxRecDepth 100000
set_option maxHeartbeats 4000000
theorem RdFP.get2{S:List UInt8}{w:World}{e:Ending}{w':World}(h:RdFP S w e w'):Below w.heap.size w w'∧∃ ad cap K,e=.returned (.tuple #[qm ((rdF S).getD zFi) (.slice ad ((rdF S).getD zFi).1.length cap),Z (if(rdF S).isSome=true then 0 else 2)])∧((rdF S).getD zFi).1.length≤cap∧(∀ k,K k→w.heap.size≤k∧k<w'.heap.size)∧SlI 1 CS K w' (.slice ad ((rdF S).getD zFi).1.length cap) ((rdF S).getD zFi).1:=by
 obtain⟨hb,⟨f,ad,cap,K,h1,rfl,hc,hK,hS⟩|⟨h1,rfl⟩⟩:=h
 ·rw[h1];exact⟨hb,ad,cap,K,rfl,hc,hK,hS⟩
 ·rw[h1];exact⟨hb,none,0,noK,rfl,Nat.zero_le _,fun k h=>h.elim,SlI.nil _ _⟩
theorem bd_s1(tu:Nat)(fi:Bool)(da:ByteArray)(ade:Option Addr)(n cape:Nat)(w:World):(Instr.build 31 (([0]:List Nat).zip [.agg #[B tu,.bool fi,.string da,.slice ade n cape]]).toArray).run prog w=.ok (.agg #[B tu,.bool fi,.string da,.slice ade n cape,.slice none 0 0]) w:=by kernel_rfl
abbrev mfK:List Nat:=[0,2,3,4,10,11]
abbrev mfV (s lv:Value) (i:Nat):Vs:=frm 86 [(0,Sum.inl s),(2,Sum.inr (0,0)),(3,Sum.inl (Z 0)),(4,Sum.inl lv),(10,Sum.inr (3,0)),(11,Sum.inl (Z i))]
theorem rmread_any(S:List UInt8)(hS:S.length≤20000)(w:World):Calls prog 9 #[str S] w (MlP (rdM S) w):=by
 refine inZ func9 fun a I=>?_;refine goZ [] I fun β a w1 I hb=>?_;refine yp (ss:=[Sum.inl (str fmM),Sum.inl (str S)]) func18 I ?_;have hW:S.length<W:=Nat.lt_of_le_of_lt hS (by decide);refine(zcy (f:=fmM) (by decide) hS w1).mono fun e w2 he=>?_;obtain⟨hb2,he⟩:=he;rw[rdec_eq hW]at he;have hsz1:=I.hJ.size;have hbw2:=I.hJ.trans (hb2.mono hsz1);rcases he with⟨ts,v,Kt,hd,rfl,hKt,hL⟩ | ⟨hd,rfl⟩
 case inr=>
  have I2:=I.moved (J':=Below w.heap.size w) (F':=(· < w.heap.size)) (zi.of_below hb2) hbw2 (fun _ _ h=>h) (.tuple #[.slice none 0 0,Z 2]);refine goZ [bO .neq 3 (yk (x:=2) (y:=0) (b:=true) (by decide)),dO 33 [] bd_mz] I2 fun β3 a3 w3 I hb3=>?_;refine zh (v:=.tuple #[zMl,Z 2]) I ⟨I.hJ,.inr ⟨?_,rfl⟩⟩;unfold rdM;rw[hd];rfl
 obtain⟨ps,hp,hfr,henc⟩:=qg hW hd;rw[parts_fmM]at hp;cases hp;rw[sh_fmM]at hfr;obtain⟨s0,s1,bs,rfl,h0,h1,hn,hbz⟩:=okMl_of (n:=7) hfr;have hrd:=rdM_eq hd;rw[hrd];obtain⟨ad',cap,he,hh⟩:=hL;subst he;obtain⟨ga,offa,v0,rfl,hga,hc0,hL0⟩:=hh 0 (yj 8 s0) rfl;obtain⟨g1,o1,v1,e1,_,hc1,hL1⟩:=hh 1 (yj 8 s1) rfl;obtain⟨g2,o2,v2,e2,_,hc2,hL2⟩:=hh 2 (zt 8 (bs.map (yj 7))) rfl;cases e1;cases e2;obtain⟨adl,capl,hv2,hhl⟩:=hL2;have hlen:List.length (α:=TT 7) (bs.map (yj 7))=bs.length:=List.length_map _;rw[hlen]at hv2;subst hv2;simp only[]at hc0 hc1 hc2
 have h3:List.length (α:=TT 8) [yj 8 s0,yj 8 s1,zt 8 (bs.map (yj 7))]=3:=rfl;rw[h3];have ld0:∀ w',KP Kt w1.heap.size w2 w'→(loadVar 9 ⟨ga,offa+0*7+5,none⟩).run prog w'=.ok (.string s0) w':=fun w' h=>xk (hc0.keep (h.eq ga hga)) 5 rfl 9 underlying9 rfl
 have ld1:∀ w',KP Kt w1.heap.size w2 w'→(loadVar 9 ⟨ga,offa+1*7+5,none⟩).run prog w'=.ok (.string s1) w':=fun w' h=>xk (hc1.keep (h.eq ga hga)) 5 rfl 9 underlying9 rfl
 have ld2:∀ w',KP Kt w1.heap.size w2 w'→(loadVar 48 ⟨ga,offa+2*7+6,none⟩).run prog w'=.ok (.slice adl bs.length capl) w':=fun w' h=>xk (hc2.keep (h.eq ga hga)) 6 rfl 48 underlying48 rfl
 have hs0:s0.data.toList.length≤20000:=by rw[show s0.data.toList.length=s0.size from Array.length_toList];omega
 have hs1:s1.data.toList.length≤20000:=by rw[show s1.data.toList.length=s1.size from Array.length_toList];omega
 have hrf:∀ w',Calls prog 19 #[.string s0] w' (RdFP s0.data.toList w'):=fun w'=>rread_fixed s0.data.toList hs0 w'
 have hrv:∀ w',Calls prog 20 #[.string s1] w' (RdVP s1.data.toList w'):=fun w'=>rread_state s1.data.toList hs1 w'
 have hml:mlOf s0 s1 bs=(rdF s0.data.toList).bind fun f=>(rdV s1.data.toList).bind fun v=>(seOf bs).map fun l=>(f,v,l):=rfl
 have hmok:=fun f v l=>mlOf_ok (f:=f) (v:=v) (l:=l) h0 h1 hn
 have I2:SI (fun w'=>Below w.heap.size w w'∧KP Kt w1.heap.size w2 w') (fun k=>k<w.heap.size∨Kt k) [] β _ _ w2:=I.moved (zi.of_below hb2) ⟨hbw2,hKt,fun k _=>rfl⟩ (fun k hk h=>by
  rcases h with h|h
  ·exact h
  ·have:=(hKt k h).1;omega) (.tuple #[.slice (some ⟨ga,offa,none⟩) 3 cap,Z 0])
 have R2:=(zj w).both (KP.rs Kt w1.heap.size w2);refine goT (T:=fun w'=>Below w.heap.size w w'∧KP Kt w1.heap.size w2 w') [bO .neq 3 (yk (x:=0) (y:=0) (b:=false) (by decide)),iA 48 underlying48 (sz:=7) (by kernel_rfl) (g:=ga) (off:=offa) (n:=3) (cap:=cap) (i:=0) (by decide),ldA 9 (fun w' h=>ld0 w' h.2)] R2 (fun _ h=>h) I2 fun β3 a3 w3 I3 hb3=>?_;refine yp (ss:=[Sum.inl (.string s0)]) func19 I3 ?_;refine(hrf w3).mono fun e y1 he=>?_;obtain⟨hb1',adp,capp,K1,he,hcp,hK1,hS1⟩:=RdFP.get2 he;subst he;obtain⟨f,hf⟩:∃ f,(rdF s0.data.toList).getD zFi=f:=⟨_,rfl⟩
 rw[hf]at hcp hS1 ⊢;obtain⟨ps,no,ap,ti⟩:=f;simp only[]at hcp hS1 ⊢;have J3:SI (fun w'=>(Below w.heap.size w w'∧KP Kt w1.heap.size w2 w')∧SK 1 CS K1 w3.heap.size (.slice adp ps.length capp) ps w') (fun k=>(k<w.heap.size∨Kt k)∨K1 k) [] β3 _ _ y1:=I3.moved (zi.of_below hb1') ⟨R2.loc w3 y1 I3.hJ (zi.of_below hb1'),hK1,hS1⟩ (fun k hk h=>by
  rcases h with h|h
  ·exact h
  ·have:=(hK1 k h).1;omega) (.tuple #[.agg #[.slice adp ps.length capp,B no,.string ap,Z ti],Z (if(rdF s0.data.toList).isSome=true then 0 else 2)])
 have R3:=R2.both (SK.rs CS.loc 1 K1 w3.heap.size (.slice adp ps.length capp) ps);obtain⟨ef,hef⟩:∃ e:Int,(if(rdF s0.data.toList).isSome=true then(0:Int)else 2)=e:=⟨_,rfl⟩
 rw[hef]at J3 ⊢;refine goT (T:=fun w'=>(Below w.heap.size w w'∧KP Kt w1.heap.size w2 w')∧SK 1 CS K1 w3.heap.size (.slice adp ps.length capp) ps w') [iA 48 underlying48 (sz:=7) (by kernel_rfl) (g:=ga) (off:=offa) (n:=3) (cap:=cap) (i:=1) (by decide),ldA 9 (fun w' h=>ld1 w' h.1.2)] R3 (fun _ h=>h) J3 fun β4 a4 w4 I4 hb4=>?_;refine yp (ss:=[Sum.inl (.string s1)]) func20 I4 ?_;refine(hrv w4).mono fun e y2 he=>?_;obtain⟨hb2',ade,cape,K2,he,hK2,hS2⟩:=RdVP.get he;subst he;obtain⟨v,hv⟩:∃ f,(rdV s1.data.toList).getD zVa=f:=⟨_,rfl⟩
 rw[hv]at hS2 ⊢;obtain⟨tu,fi,da,xs⟩:=v;simp only[]at hS2 ⊢;have hsz3:=I3.hJ.1.size;have hsz4:=I4.hJ.1.1.size;have J4:SI (fun w'=>((Below w.heap.size w w'∧KP Kt w1.heap.size w2 w')∧SK 1 CS K1 w3.heap.size (.slice adp ps.length capp) ps w')∧SK 2 CE K2 w4.heap.size (.slice ade xs.length cape) xs w') (fun k=>((k<w.heap.size∨Kt k)∨K1 k)∨K2 k) [] β4 _ _ y2:=I4.moved (zi.of_below hb2') ⟨R3.loc w4 y2 I4.hJ (zi.of_below hb2'),hK2,hS2⟩ (fun k hk h=>by
  rcases h with h|h
  ·exact h
  ·have:=(hK2 k h).1;omega) (.tuple #[.agg #[B tu,.bool fi,.string da,.slice ade xs.length cape],Z (if(rdV s1.data.toList).isSome=true then 0 else 2)])
 have R4:=R3.both (SK.rs CE.loc 2 K2 w4.heap.size (.slice ade xs.length cape) xs);obtain⟨ev,hev⟩:∃ e:Int,(if(rdV s1.data.toList).isSome=true then(0:Int)else 2)=e:=⟨_,rfl⟩
 rw[hev]at J4 ⊢;cases hrF:rdF s0.data.toList with
 | none=>
  rw[hrF]at hef;have hef:(2:Int)=ef:=hef;subst hef;refine goQ [bO .neq 3 (yk (x:=2) (y:=0) (b:=true) (by decide)),dO 33 [] bd_mz] R4 J4 fun β5 a5 w5 I hb5=>?_;exact zh (v:=.tuple #[zMl,Z 2]) I ⟨I.hJ.1.1.1,.inr ⟨by rw[hml,hrF];rfl,rfl⟩⟩
 | some f'=>
 rw[hrF]at hf hef;have hf:f'=(ps,no,ap,ti):=hf;have hef:(0:Int)=ef:=hef;subst hef hf;cases hrV:rdV s1.data.toList with
 | none=>
  rw[hrV]at hev;have hev:(2:Int)=ev:=hev;subst hev;refine goQ [bO .neq 3 (yk (x:=0) (y:=0) (b:=false) (by decide)),bO .neq 3 (yk (x:=2) (y:=0) (b:=true) (by decide)),dO 33 [] bd_mz] R4 J4 fun β5 a5 w5 I hb5=>?_;exact zh (v:=.tuple #[zMl,Z 2]) I ⟨I.hJ.1.1.1,.inr ⟨by rw[hml,hrF,hrV];rfl,rfl⟩⟩
 | some v'=>
 rw[hrV]at hv hev;have hv:v'=(tu,fi,da,xs):=hv;have hev:(0:Int)=ev:=hev;subst hev hv;rw[hml,hrF,hrV,Option.bind_some,Option.bind_some];rw[hml,hrF,hrV]at hmok;refine goQ [bO .neq 3 (yk (x:=0) (y:=0) (b:=false) (by decide)),bO .neq 3 (yk (x:=0) (y:=0) (b:=false) (by decide)),dO 31 [0] (bd_s1 tu fi da ade xs.length cape),dO 33 [0,1] (bd_ml no ap ti adp ps.length capp tu fi da ade xs.length cape none 0 0)] R4 J4 fun β5 a5 w5 I5 hb5=>?_
 have RS:=((KP.rs Kt w1.heap.size w2).both (SK.rs CS.loc 1 K1 w3.heap.size (.slice adp ps.length capp) ps)).both (SK.rs CE.loc 2 K2 w4.heap.size (.slice ade xs.length cape) xs)
 have I6:SI (fun w'=>QJ CZ w 63 9 (.slice none 0 0) [] [] noK w'∧((KP Kt w1.heap.size w2 w'∧SK 1 CS K1 w3.heap.size (.slice adp ps.length capp) ps w')∧SK 2 CE K2 w4.heap.size (.slice ade xs.length cape) xs w')) (fun k=>QF w (.slice none 0 0) noK k∨((Kt k∨K1 k)∨K2 k)) [] β5 _ a5 w5:=I5.less ⟨(QJ.rs CZ.loc w 63 9 (.slice none 0 0) [] [] noK).loc w w5 (QJ.start _ _ _ _) (zi.of_below I5.hJ.1.1.1),⟨I5.hJ.1.1.2,I5.hJ.1.2⟩,I5.hJ.2⟩ (fun k hk=>by
  rcases hk with(hk|hk|hk)|(hk|hk)|hk
  ·exact .inl (.inl (.inl hk))
  ·cases hk
  ·exact hk.elim
  ·exact .inl (.inl (.inr hk))
  ·exact .inl (.inr hk)
  ·exact .inr hk)
 let St:Nat→Act→World→Prop:=fun k a w'=>∃(i:Nat) (β:Nat→Nat) (u:Nat→Value) (ad:Option Addr) (cap':Nat) (X:List (List Value)) (K:Nat→Prop),k=bs.length-i∧i≤bs.length∧X.length=i∧(bs.take i).all sOk=true∧(∀ k,((Kt k∨K1 k)∨K2 k)→(Value.slice ad i cap').ownBlock≠some k) ∧
  SI (fun w'=>QJ CZ w 63 9 (.slice ad i cap') X ((bs.take i).map sOf) K w'∧((KP Kt w1.heap.size w2 w'∧SK 1 CS K1 w3.heap.size (.slice adp ps.length capp) ps w')∧SK 2 CE K2 w4.heap.size (.slice ade xs.length cape) xs w')) (fun k=>QF w (.slice ad i cap') K k∨((Kt k∨K1 k)∨K2 k)) [] β (cfC (zc Tryz.f9) (zl (zg 86 mfK) u 0 (mfV (str S) (.slice (some ⟨ga,offa,none⟩) 3 cap) i)) [(0,zMr),(3,#[.slice adp ps.length capp,B no,.string ap,Z ti,B tu,.bool fi,.string da,.slice ade xs.length cape,.slice ad i cap'])] 4) a w'
 refine lpM (zc Tryz.f9) St bs.length ?_ ?_
 ·obtain⟨u,Iu⟩:=I6.scr (zc Tryz.f9) (zg 86 mfK) (mfV (str S) (.slice (some ⟨ga,offa,none⟩) 3 cap) 0) [(0,zMr),(3,#[.slice adp ps.length capp,B no,.string ap,Z ti,B tu,.bool fi,.string da,.slice ade xs.length cape,.slice none 0 0])] 4;exact⟨0,β5,u,none,0,[],noK,by omega,Nat.zero_le _,rfl,rfl,fun k _ h=>(by cases h),Iu⟩
 rintro k a6 w6 ⟨i,β6,u,ad,cap',X,K,rfl,hi,hXi,hall,hown,I⟩;refine zv (tm:=zl (zg 86 mfK) u 0 (mfV (str S) (.slice (some ⟨ga,offa,none⟩) 3 cap) i)) (rows:=[(0,zMr),(3,#[.slice adp ps.length capp,B no,.string ap,Z ti,B tu,.bool fi,.string da,.slice ade xs.length cape,.slice ad i cap'])]) (nx:=4) ?_;rcases Nat.lt_or_ge i bs.length with hil|hil
 ·obtain⟨b,hbi⟩:∃ t,bs[i]? = some t:=⟨_,List.getElem?_eq_getElem hil⟩
  have hbt:(bs.map (yj 7))[i]? = some (yj 7 b):=by rw[List.getElem?_map,hbi];rfl
  obtain⟨gl,ol,lv,rfl,hltl,hcl,hLl⟩:=hhl i (yj 7 b) hbt;have hbl:=hbz b (List.mem_of_getElem? hbi);obtain⟨L,hL⟩:∃ L,((bs.take i).map sOf)=L:=⟨_,rfl⟩
  rw[hL]at I;have hld:∀ w',KP Kt w1.heap.size w2 w'→(loadVar 9 ⟨gl,ol+i*7+5,none⟩).run prog w'=.ok (.string b) w':=fun w' h=>xk (hcl.keep (h.eq gl hltl)) 5 rfl 9 underlying9 rfl
  have RQ:=(QJ.rs CZ.loc w 63 9 (.slice ad i cap') X L K).both RS;have hsr:∀ w',Calls prog 21 #[.string b] w' fun e w''=>e=.returned (.tuple #[slV (sOf b),Z (if sOk b=true then 0 else 2)])∧Below w'.heap.size w' w'':=fun w'=>rsread_any b.data.toList (by rw[show b.data.toList.length=b.size from Array.length_toList];omega) w'
  have hlt9:=sOf_lt b;obtain⟨x,hx⟩:∃ x,sOf b=x:=⟨_,rfl⟩
  rw[hx]at hlt9 hsr;obtain⟨r,q,o⟩:=x;cases hok:sOk b with
  | false=>
   rw[hok]at hsr;refine goT (T:=fun w'=>QJ CZ w 63 9 (.slice ad i cap') X L K w'∧((KP Kt w1.heap.size w2 w'∧SK 1 CS K1 w3.heap.size (.slice adp ps.length capp) ps w')∧SK 2 CE K2 w4.heap.size (.slice ade xs.length cape) xs w')) [iA 48 underlying48 (sz:=7) (by kernel_rfl) (g:=ga) (off:=offa) (n:=3) (cap:=cap) (i:=2) (by decide),ldA 48 (fun w' h=>ld2 w' h.2.1.1),lS underlying48 (ad:=some ⟨gl,ol,none⟩) (n:=bs.length) (cap:=capl) rfl,klT i bs.length,
    iA 48 underlying48 (sz:=7) (by kernel_rfl) (g:=ga) (off:=offa) (n:=3) (cap:=cap) (i:=2) (by decide),ldA 48 (fun w' h=>ld2 w' h.2.1.1),iA 48 underlying48 (sz:=7) (by kernel_rfl) (g:=gl) (off:=ol) (n:=bs.length) (cap:=capl) hil,ldA 9 (fun w' h=>hld w' h.2.1.1),kC func21 hsr,bO .neq 3 (yk (x:=2) (y:=0) (b:=true) (by decide)),dO 33 [] bd_mz] RQ (fun _ h=>h) I fun β7 a7 w7 I7 hb7=>?_
   refine qc (qb (v:=.tuple #[zMl,Z 2]) I7 ⟨I7.hJ.1.below,.inr ⟨?_,rfl⟩⟩);have:bs.all sOk=false:=List.all_eq_false.2 ⟨b,List.mem_of_getElem? hbi,by rw[hok];decide⟩;unfold seOf;rw[this];rfl
  | true=>
   rw[hok]at hsr;refine goT (T:=fun w'=>QJ CZ w 63 9 (.slice ad i cap') X L K w'∧((KP Kt w1.heap.size w2 w'∧SK 1 CS K1 w3.heap.size (.slice adp ps.length capp) ps w')∧SK 2 CE K2 w4.heap.size (.slice ade xs.length cape) xs w')) [iA 48 underlying48 (sz:=7) (by kernel_rfl) (g:=ga) (off:=offa) (n:=3) (cap:=cap) (i:=2) (by decide),ldA 48 (fun w' h=>ld2 w' h.2.1.1),lS underlying48 (ad:=some ⟨gl,ol,none⟩) (n:=bs.length) (cap:=capl) rfl,klT i bs.length,
    iA 48 underlying48 (sz:=7) (by kernel_rfl) (g:=ga) (off:=offa) (n:=3) (cap:=cap) (i:=2) (by decide),ldA 48 (fun w' h=>ld2 w' h.2.1.1),iA 48 underlying48 (sz:=7) (by kernel_rfl) (g:=gl) (off:=ol) (n:=bs.length) (cap:=capl) hil,ldA 9 (fun w' h=>hld w' h.2.1.1),kC func21 hsr,bO .neq 3 (yk (x:=0) (y:=0) (b:=false) (by decide))] RQ (fun _ h=>h) I fun β7 a7 w7 I7 hb7=>?_
   have I9:=(I7.also (J':=MK CZ noK (r,q,o) (sl9 (r,q,o))) (F':=noK) ⟨fun k h=>h.elim,rfl,hlt9.1,hlt9.2⟩ (fun p hp h=>h.elim)).less (J':=fun w'=>(QJ CZ w 63 9 (.slice ad i cap') X L K w'∧MK CZ noK (r,q,o) (sl9 (r,q,o)) w')∧((KP Kt w1.heap.size w2 w'∧SK 1 CS K1 w3.heap.size (.slice adp ps.length capp) ps w')∧SK 2 CE K2 w4.heap.size (.slice ade xs.length cape) xs w')) (F':=fun k=>(QF w (.slice ad i cap') K k∨noK k)∨((Kt k∨K1 k)∨K2 k)) ⟨⟨I7.hJ.1,⟨fun k h=>h.elim,rfl,hlt9.1,hlt9.2⟩⟩,I7.hJ.2⟩ (fun k hk=>by
    rcases hk with(hk|hk)|hk
    ·exact .inl (.inl hk)
    ·exact hk.elim
    ·exact .inl (.inr hk))
   refine zcn CZ.loc underlying29 hI63 rfl (by decide) (by decide) (ev:=slV (r,q,o)) RS (bs_se _ _ _ _ _ _ _ _ _ w7) rfl (one9 _) I9 hown hXi (by omega) (fun k h=>h.elim) fun ad10 cap10 a10 w10 hF10 I10=>?_;refine goQ [kaZ i 1 (i+1:Nat)] ((QJ.rs CZ.loc _ _ _ _ _ _ _).both RS) I10 fun β11 a11 w11 I11 hb11=>?_;obtain⟨u',Iu⟩:=I11.scr (zc Tryz.f9) (zg 86 mfK) (mfV (str S) (.slice (some ⟨ga,offa,none⟩) 3 cap) (i+1)) [(0,zMr),(3,#[.slice adp ps.length capp,B no,.string ap,Z ti,B tu,.bool fi,.string da,.slice ade xs.length cape,.slice ad10 (i+1) cap10])] 4
   have htk:(bs.take (i+1)).map sOf=L++[(r,q,o)]:=by rw[List.take_add_one,hbi,List.map_append,hL,← hx];rfl
   refine xc ⟨bs.length-(i+1),by omega,i+1,β11,u',ad10,cap10,X++[sl9 (r,q,o)],(fun k=>K k∨noK k),rfl,hil,by rw[List.length_append,hXi];rfl,?_,hF10,?_⟩
   ·rw[List.take_add_one,hbi,List.all_append,hall];simp[hok]
   ·rw[htk];exact Iu
 ·obtain rfl:i=bs.length:=by omega
  rw[List.take_length]at I hall;have RQ:=(QJ.rs CZ.loc w 63 9 (.slice ad bs.length cap') X (bs.map sOf) K).both RS
  refine goT (T:=fun w'=>QJ CZ w 63 9 (.slice ad bs.length cap') X (bs.map sOf) K w'∧((KP Kt w1.heap.size w2 w'∧SK 1 CS K1 w3.heap.size (.slice adp ps.length capp) ps w')∧SK 2 CE K2 w4.heap.size (.slice ade xs.length cape) xs w')) [iA 48 underlying48 (sz:=7) (by kernel_rfl) (g:=ga) (off:=offa) (n:=3) (cap:=cap) (i:=2) (by decide),ldA 48 (fun w' h=>ld2 w' h.2.1.1),lS underlying48 (ad:=adl) (n:=bs.length) (cap:=capl) rfl,bO .lss 3 (zf (x:=bs.length) (y:=bs.length) (b:=false) (by simp))] RQ (fun _ h=>h) I fun β7 a7 w7 I7 hb7=>?_;refine xg 0 ?_
  have hse:seOf bs=some (bs.map sOf):=by unfold seOf;rw[if_pos hall]
  rw[hse]at hmok ⊢;obtain⟨nf,nv,ok,ln,_⟩:=hmok _ _ _ rfl;have hmk:∀ w',(QJ CZ w 63 9 (.slice ad bs.length cap') X (bs.map sOf) K w'∧((KP Kt w1.heap.size w2 w'∧SK 1 CS K1 w3.heap.size (.slice adp ps.length capp) ps w')∧SK 2 CE K2 w4.heap.size (.slice ade xs.length cape) xs w'))→MlK (fun k=>(K1 k∨K2 k)∨(K k∨(Value.slice ad bs.length cap').ownBlock=some k)) w.heap.size (.slice adp ps.length capp) (.slice ade xs.length cape) (.slice ad (bs.map sOf).length cap') (ps,no,ap,ti) (tu,fi,da,xs) (bs.map sOf) w':=fun w' h=>by
   have hd:=h.1.done CZ.loc;have hkb:=h.1.kb2;have hq1:=h.2.1.2;have hq2:=h.2.2;refine⟨fun k hk=>?_,hq1.sl.keep CS.loc fun k hk=>⟨.inl (.inl hk),rfl⟩,hq2.sl.keep CE.loc fun k hk=>⟨.inl (.inr hk),rfl⟩,?_⟩
   ·rcases hk with(hk|hk)|hk
    ·have:=hq1.kb k hk;omega
    ·have:=hq2.kb k hk;omega
    ·exact hkb k hk
   ·rw[List.length_map];exact hd.keep CZ.loc fun k hk=>⟨.inr hk,rfl⟩
  have hF:∀ w',(QJ CZ w 63 9 (.slice ad bs.length cap') X (bs.map sOf) K w'∧((KP Kt w1.heap.size w2 w'∧SK 1 CS K1 w3.heap.size (.slice adp ps.length capp) ps w')∧SK 2 CE K2 w4.heap.size (.slice ade xs.length cape) xs w'))→Calls prog 11 #[.agg #[.slice adp ps.length capp,B no,.string ap,Z ti,B tu,.bool fi,.string da,.slice ade xs.length cape,.slice ad bs.length cap']] w' fun e w''=>e=.returned (.bool (fitM (ps,no,ap,ti) (tu,fi,da,xs) (bs.map sOf)))∧Below w'.heap.size w' w'':=fun w' h=>by
   have:=rmfit_any ((hmk w' h).mli hcp nf nv ok ln)
   rwa [List.length_map]at this
  show At prog (bodyPost prog Tryz.f9 (MlP (if fitM (ps,no,ap,ti) (tu,fi,da,xs) (bs.map sOf)=true then some ((ps,no,ap,ti),(tu,fi,da,xs),bs.map sOf)else none) w)) _ a7 w7;cases hfm:fitM (ps,no,ap,ti) (tu,fi,da,xs) (bs.map sOf)with
  | false=>
   rw[hfm]at hF;rw[if_neg (by decide)];refine goT (T:=fun w'=>QJ CZ w 63 9 (.slice ad bs.length cap') X (bs.map sOf) K w'∧((KP Kt w1.heap.size w2 w'∧SK 1 CS K1 w3.heap.size (.slice adp ps.length capp) ps w')∧SK 2 CE K2 w4.heap.size (.slice ade xs.length cape) xs w')) [cA func11 hF,uO .not (p:=.bool false) (v:=.bool true) (by intros;rfl),dO 33 [] bd_mz] RQ (fun _ h=>h) (I7.exit _) fun β8 a8 w8 I8 hb8=>?_;exact zh (v:=.tuple #[zMl,Z 2]) I8 ⟨I8.hJ.1.below,.inr ⟨rfl,rfl⟩⟩
  | true=>
   rw[hfm]at hF;rw[if_pos rfl];refine goT (T:=fun w'=>QJ CZ w 63 9 (.slice ad bs.length cap') X (bs.map sOf) K w'∧((KP Kt w1.heap.size w2 w'∧SK 1 CS K1 w3.heap.size (.slice adp ps.length capp) ps w')∧SK 2 CE K2 w4.heap.size (.slice ade xs.length cape) xs w')) [cA func11 hF,uO .not (p:=.bool true) (v:=.bool false) (by intros;rfl)] RQ (fun _ h=>h) (I7.exit _) fun β8 a8 w8 I8 hb8=>?_
   exact zh (v:=.tuple #[.agg #[.slice adp ps.length capp,B no,.string ap,Z ti,B tu,.bool fi,.string da,.slice ade xs.length cape,.slice ad bs.length cap'],Z 0]) I8 ⟨I8.hJ.1.below,.inl ⟨(ps,no,ap,ti),(tu,fi,da,xs),bs.map sOf,adp,capp,ade,cape,ad,cap',_,rfl,by rw[List.length_map],hcp,hmk w8 I8.hJ⟩⟩
end Go.Proofs.YtdeompgdhaomgaaGreatDoor
