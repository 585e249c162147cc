/- Out of Zj. -/
import Derived.Test.YtomdiafkoeefpaaGreatDoorKrYr
import Derived.Test.YtomdiafkoeefpaaGreatDoorKrYa
import Derived.Test.YtomdiafkoeefpaaGreatDoorKrTx
namespace Go.Proofs.YtomdiafkoeefpaaGreatDoor
open Go.RowKit Go.Sort
set_option linter.unusedVariables false
set_option maxRecDepth 100000
theorem RdFP.get{S:List UInt8}{w:World}{e:Ending}{w':World}(h:RdFP S w e w'):Below w.heap.size w w'∧∃ ad cap K,e=.returned (.tuple #[fxdV ((rdF S).getD zFi) (.slice ad ((rdF S).getD zFi).1.length cap),Z (if (rdF S).isSome=true then 0 else 2)])∧(∀ k,K k→w.heap.size≤k∧k<w'.heap.size)∧SlI 1 CS K w' (.slice ad ((rdF S).getD zFi).1.length cap) ((rdF S).getD zFi).1:=by
 obtain ⟨hb,⟨f,ad,cap,K,h1,rfl,_,hK,hS⟩ | ⟨h1,rfl⟩⟩:=h
 ·rw[h1];exact ⟨hb,ad,cap,K,rfl,hK,hS⟩
 ·rw[h1];exact ⟨hb,none,0,noK,rfl,fun k h=>h.elim,SlI.nil _ _⟩
theorem RdVP.get{S:List UInt8}{w:World}{e:Ending}{w':World}(h:RdVP S w e w'):Below w.heap.size w w'∧∃ ad cap K,e=.returned (.tuple #[vaV ((rdV S).getD zVa) (.slice ad ((rdV S).getD zVa).2.2.2.length cap),Z (if (rdV S).isSome=true then 0 else 2)])∧(∀ k,K k→w.heap.size≤k∧k<w'.heap.size)∧SlI 2 CE K w' (.slice ad ((rdV S).getD zVa).2.2.2.length cap) ((rdV S).getD zVa).2.2.2:=by
 obtain ⟨hb,⟨f,ad,cap,K,h1,rfl,hK,hS⟩ | ⟨h1,rfl⟩⟩:=h
 ·rw[h1];exact ⟨hb,ad,cap,K,rfl,hK,hS⟩
 ·rw[h1];exact ⟨hb,none,0,noK,rfl,fun k h=>h.elim,SlI.nil _ _⟩
theorem rdF_len{S:List UInt8}(hS:S.length<W):((rdF S).getD zFi).1.length<1000000000:=by
 cases h:rdF S with
 | none=>decide
 | some f=>
  show f.1.length<_
  unfold rdF at h
  cases hd:decM fmF S with
  | none=>rw[hd] at h;cases h
  | some ts=>
   rw[hd] at h
   simp only[Option.bind_some] at h
   split at h
   ·cases h
    obtain ⟨ps,hp,hfr,_⟩:=dec_sound hS hd
    rw[parts_fmF] at hp
    cases hp
    rw[sh_fmF] at hfr
    obtain ⟨⟨k0,u0,s0,x0⟩,t1,t2,t3,rfl,hn0⟩:=okFi_of (n:=7) hfr
    have e:(fiOf (n:=7) [(k0,u0,s0,x0),t1,t2,t3]).1=List.map (α:=TT 7) (fun t=>bsL t.2.1 20) x0:=rfl
    rw[e]
    have e2:(List.map (α:=TT 7) (fun t=>bsL t.2.1 20) x0).length=List.length (α:=TT 7) x0:=List.length_map _
    rw[e2]
    have:List.length (α:=TT 7) x0<100000000:=hn0
    omega
   ·cases h
theorem rdV_ok{S:List UInt8}(hS:S.length<W):okX ((rdV S).getD zVa).2.2.2:=by
 cases h:rdV S with
 | none=>exact ⟨by decide,fun x hx=>by cases hx⟩
 | some v=>
  show okX v.2.2.2
  unfold rdV at h
  cases hd:decM fmV S with
  | none=>rw[hd] at h;cases h
  | some ts=>
   rw[hd] at h
   simp only[Option.bind_some] at h
   split at h
   ·cases h
    obtain ⟨ps,hp,hfr,_⟩:=dec_sound hS hd
    rw[parts_fmV] at hp
    cases hp
    rw[sh_fmV] at hfr
    exact (vaOf_ok (okVa_of (n:=4) hfr)).1
   ·cases h
set_option maxHeartbeats 4000000 in
theorem reads_walk{w:World}(ht:Tabs w ki)(s:ByteArray):Calls Tryz.prog 5 #[.string s] w fun e w'=>e=.returned (.bool true)∧Below w.heap.size w w':=by
 have hAw:∀ w',Below w.heap.size w w'→Calls Tryz.prog 11 #[] w' fun e w''=>e=.returned (.bool true)∧Below w'.heap.size w' w'':=fun w' hb=>awake_any (ht.below hb)
 refine inQ (J:=Below w.heap.size w) (F:=(· < w.heap.size)) Tryz.func5 (Below.refl _ _) fun a I=>?_
 by_cases q1:20000<s.size
 ·refine goT (T:=Below w.heap.size w) [lO Tryz.underlying9 (b:=s) (n:=s.size) rfl,bO .gtr 3 (run_gtrZ (x:=s.size) (y:=20000) (b:=true) (by simp;omega)),cA Tryz.func11 hAw] (nonR w) (fun _ h=>h) I fun β a w1 I hb=>?_
  exact outQ (v:=.bool true) I ⟨rfl,I.hJ⟩
 obtain ⟨S,hSe⟩:∃ S,s.data.toList=S:=⟨_,rfl⟩
 have hs:(.string s:Value)=str S:=by rw[← hSe]
 have hSl:S.length≤20000:=by
  have:s.data.toList.length=s.size:=Array.length_toList
  rw[← hSe];omega
 have hSW:S.length<W:=Nat.lt_of_le_of_lt hSl (by decide)
 have hfl:=rdF_len hSW
 have hvl:=rdV_ok hSW
 have hc1:∀ w',Calls Tryz.prog 30 #[.string s] w' (RdFP S w'):=fun w'=>by rw[hs];exact read_fixed S (by omega) w'
 have hc2:∀ w',Calls Tryz.prog 31 #[.string s] w' (RdFP S w'):=fun w'=>by rw[hs];exact rread_fixed S hSl w'
 have hc3:∀ w',Calls Tryz.prog 32 #[.string s] w' (RdVP S w'):=fun w'=>by rw[hs];exact read_state S (by omega) w'
 have hc4:∀ w',Calls Tryz.prog 33 #[.string s] w' (RdVP S w'):=fun w'=>by rw[hs];exact rread_state S hSl w'
 refine goQ [lO Tryz.underlying9 (b:=s) (n:=s.size) rfl,bO .gtr 3 (run_gtrZ (x:=s.size) (y:=20000) (b:=false) (by simp;omega))] (nonR w) I fun β0 a0 w0 I0 hb0=>?_
 refine mcall (ss:=[Sum.inl (.string s)]) Tryz.func30 I0 ?_
 refine (hc1 w0).mono fun e y1 he=>?_
 obtain ⟨hb1',ad1,cap1,K1,he,hK1,hS1⟩:=RdFP.get he
 subst he
 obtain ⟨f,hf⟩:∃ f,(rdF S).getD zFi=f:=⟨_,rfl⟩
 obtain ⟨erf,herf⟩:∃ e:Int,(if (rdF S).isSome=true then (0:Int) else 2)=e:=⟨_,rfl⟩
 rw[hf] at hS1 hfl ⊢
 rw[herf]
 have J1:SI (fun w'=>(Below w.heap.size w w')∧SK 1 CS K1 w0.heap.size (.slice ad1 f.1.length cap1) f.1 w') (fun k=>(k<w.heap.size)∨K1 k) [] β0 _ _ y1:=I0.moved (Grow.of_below hb1') ⟨(nonR w).loc w0 y1 I0.hJ (Grow.of_below hb1'),hK1,hS1⟩ (fun k hk h=>by
  rcases h with h | h
  ·exact h
  ·have:=(hK1 k h).1;omega) (.tuple #[.agg #[.slice ad1 f.1.length cap1,B f.2.1,.string f.2.2.1,Z f.2.2.2],Z erf])
 refine goQ [] ((nonR w).both (SK.rs CS.loc 1 K1 w0.heap.size (.slice ad1 f.1.length cap1) f.1)) J1 fun β1 a1 w1 I1 hb1=>?_
 refine mcall (ss:=[Sum.inl (.string s)]) Tryz.func31 I1 ?_
 refine (hc2 w1).mono fun e y2 he=>?_
 obtain ⟨hb2',ad2,cap2,K2,he,hK2,hS2⟩:=RdFP.get he
 subst he
 rw[hf] at hS2 ⊢
 rw[herf]
 have J2:SI (fun w'=>((Below w.heap.size w w')∧SK 1 CS K1 w0.heap.size (.slice ad1 f.1.length cap1) f.1 w')∧SK 1 CS K2 w1.heap.size (.slice ad2 f.1.length cap2) f.1 w') (fun k=>((k<w.heap.size)∨K1 k)∨K2 k) [] β1 _ _ y2:=I1.moved (Grow.of_below hb2') ⟨((nonR w).both (SK.rs CS.loc 1 K1 w0.heap.size (.slice ad1 f.1.length cap1) f.1)).loc w1 y2 I1.hJ (Grow.of_below hb2'),hK2,hS2⟩ (fun k hk h=>by
  rcases h with h | h
  ·exact h
  ·have:=(hK2 k h).1;omega) (.tuple #[.agg #[.slice ad2 f.1.length cap2,B f.2.1,.string f.2.2.1,Z f.2.2.2],Z erf])
 refine goQ [] (((nonR w).both (SK.rs CS.loc 1 K1 w0.heap.size (.slice ad1 f.1.length cap1) f.1)).both (SK.rs CS.loc 1 K2 w1.heap.size (.slice ad2 f.1.length cap2) f.1)) J2 fun β2 a2 w2 I2 hb2=>?_
 refine mcall (ss:=[Sum.inl (.string s)]) Tryz.func32 I2 ?_
 refine (hc3 w2).mono fun e y3 he=>?_
 obtain ⟨hb3',ad3,cap3,K3,he,hK3,hS3⟩:=RdVP.get he
 subst he
 obtain ⟨v,hv⟩:∃ f,(rdV S).getD zVa=f:=⟨_,rfl⟩
 obtain ⟨erv,herv⟩:∃ e:Int,(if (rdV S).isSome=true then (0:Int) else 2)=e:=⟨_,rfl⟩
 rw[hv] at hS3 hvl ⊢
 rw[herv]
 have J3:SI (fun w'=>(((Below w.heap.size w w')∧SK 1 CS K1 w0.heap.size (.slice ad1 f.1.length cap1) f.1 w')∧SK 1 CS K2 w1.heap.size (.slice ad2 f.1.length cap2) f.1 w')∧SK 2 CE K3 w2.heap.size (.slice ad3 v.2.2.2.length cap3) v.2.2.2 w') (fun k=>(((k<w.heap.size)∨K1 k)∨K2 k)∨K3 k) [] β2 _ _ y3:=I2.moved (Grow.of_below hb3') ⟨(((nonR w).both (SK.rs CS.loc 1 K1 w0.heap.size (.slice ad1 f.1.length cap1) f.1)).both (SK.rs CS.loc 1 K2 w1.heap.size (.slice ad2 f.1.length cap2) f.1)).loc w2 y3 I2.hJ (Grow.of_below hb3'),hK3,hS3⟩ (fun k hk h=>by
  rcases h with h | h
  ·exact h
  ·have:=(hK3 k h).1;omega) (.tuple #[.agg #[B v.1,.bool v.2.1,.string v.2.2.1,.slice ad3 v.2.2.2.length cap3],Z erv])
 refine goQ [] ((((nonR w).both (SK.rs CS.loc 1 K1 w0.heap.size (.slice ad1 f.1.length cap1) f.1)).both (SK.rs CS.loc 1 K2 w1.heap.size (.slice ad2 f.1.length cap2) f.1)).both (SK.rs CE.loc 2 K3 w2.heap.size (.slice ad3 v.2.2.2.length cap3) v.2.2.2)) J3 fun β3 a3 w3 I3 hb3=>?_
 refine mcall (ss:=[Sum.inl (.string s)]) Tryz.func33 I3 ?_
 refine (hc4 w3).mono fun e y4 he=>?_
 obtain ⟨hb4',ad4,cap4,K4,he,hK4,hS4⟩:=RdVP.get he
 subst he
 rw[hv] at hS4 ⊢
 rw[herv]
 have J4:SI (fun w'=>((((Below w.heap.size w w')∧SK 1 CS K1 w0.heap.size (.slice ad1 f.1.length cap1) f.1 w')∧SK 1 CS K2 w1.heap.size (.slice ad2 f.1.length cap2) f.1 w')∧SK 2 CE K3 w2.heap.size (.slice ad3 v.2.2.2.length cap3) v.2.2.2 w')∧SK 2 CE K4 w3.heap.size (.slice ad4 v.2.2.2.length cap4) v.2.2.2 w') (fun k=>((((k<w.heap.size)∨K1 k)∨K2 k)∨K3 k)∨K4 k) [] β3 _ _ y4:=I3.moved (Grow.of_below hb4') ⟨((((nonR w).both (SK.rs CS.loc 1 K1 w0.heap.size (.slice ad1 f.1.length cap1) f.1)).both (SK.rs CS.loc 1 K2 w1.heap.size (.slice ad2 f.1.length cap2) f.1)).both (SK.rs CE.loc 2 K3 w2.heap.size (.slice ad3 v.2.2.2.length cap3) v.2.2.2)).loc w3 y4 I3.hJ (Grow.of_below hb4'),hK4,hS4⟩ (fun k hk h=>by
  rcases h with h | h
  ·exact h
  ·have:=(hK4 k h).1;omega) (.tuple #[.agg #[B v.1,.bool v.2.1,.string v.2.2.1,.slice ad4 v.2.2.2.length cap4],Z erv])
 refine goQ [] (((((nonR w).both (SK.rs CS.loc 1 K1 w0.heap.size (.slice ad1 f.1.length cap1) f.1)).both (SK.rs CS.loc 1 K2 w1.heap.size (.slice ad2 f.1.length cap2) f.1)).both (SK.rs CE.loc 2 K3 w2.heap.size (.slice ad3 v.2.2.2.length cap3) v.2.2.2)).both (SK.rs CE.loc 2 K4 w3.heap.size (.slice ad4 v.2.2.2.length cap4) v.2.2.2)) J4 fun β4 a4 w4 I4 hb4=>?_
 have g34:∀ w',((((Below w.heap.size w w')∧SK 1 CS K1 w0.heap.size (.slice ad1 f.1.length cap1) f.1 w')∧SK 1 CS K2 w1.heap.size (.slice ad2 f.1.length cap2) f.1 w')∧SK 2 CE K3 w2.heap.size (.slice ad3 v.2.2.2.length cap3) v.2.2.2 w')∧SK 2 CE K4 w3.heap.size (.slice ad4 v.2.2.2.length cap4) v.2.2.2 w'→Calls Tryz.prog 34 #[.agg #[.slice ad1 f.1.length cap1,B f.2.1,.string f.2.2.1,Z f.2.2.2],.agg #[.slice ad2 f.1.length cap2,B f.2.1,.string f.2.2.1,Z f.2.2.2]] w' fun e w''=>e=.returned (.bool true)∧Below w'.heap.size w' w'':=fun w' h=>by
  have h1:=h.1.1.1.2
  have h2:=h.1.1.2
  have:=rsame_fixed (f:=f) (g:=f) (h1.sl.keep CS.loc fun k hk=>⟨(h1.kb k hk).2,rfl⟩) (h2.sl.keep CS.loc fun k hk=>⟨(h2.kb k hk).2,rfl⟩) hfl
  rwa [eqF_iff.2 rfl] at this
 have g21:∀ w',((((Below w.heap.size w w')∧SK 1 CS K1 w0.heap.size (.slice ad1 f.1.length cap1) f.1 w')∧SK 1 CS K2 w1.heap.size (.slice ad2 f.1.length cap2) f.1 w')∧SK 2 CE K3 w2.heap.size (.slice ad3 v.2.2.2.length cap3) v.2.2.2 w')∧SK 2 CE K4 w3.heap.size (.slice ad4 v.2.2.2.length cap4) v.2.2.2 w'→Calls Tryz.prog 21 #[.agg #[B v.1,.bool v.2.1,.string v.2.2.1,.slice ad3 v.2.2.2.length cap3],.agg #[B v.1,.bool v.2.1,.string v.2.2.1,.slice ad4 v.2.2.2.length cap4]] w' fun e w''=>e=.returned (.bool true)∧Below w'.heap.size w' w'':=fun w' h=>by
  have h1:=h.1.2
  have h2:=h.2
  have:=rsame_state (v:=v) (u:=v) (h1.sl.keep CE.loc fun k hk=>⟨(h1.kb k hk).2,rfl⟩) (h2.sl.keep CE.loc fun k hk=>⟨(h2.kb k hk).2,rfl⟩) hvl
  rwa [eqV_iff.2 rfl] at this
 refine goT (T:=fun w'=>((((Below w.heap.size w w')∧SK 1 CS K1 w0.heap.size (.slice ad1 f.1.length cap1) f.1 w')∧SK 1 CS K2 w1.heap.size (.slice ad2 f.1.length cap2) f.1 w')∧SK 2 CE K3 w2.heap.size (.slice ad3 v.2.2.2.length cap3) v.2.2.2 w')∧SK 2 CE K4 w3.heap.size (.slice ad4 v.2.2.2.length cap4) v.2.2.2 w') [cA Tryz.func34 g34,bO .eql 3 (run_eqlZ (x:=erf) (y:=erf) (b:=true) (decide_eq_true rfl)),cA Tryz.func21 g21,bO .eql 3 (run_eqlZ (x:=erv) (y:=erv) (b:=true) (decide_eq_true rfl)),cA Tryz.func11 (fun w' h=>hAw w' h.1.1.1.1)] (((((nonR w).both (SK.rs CS.loc 1 K1 w0.heap.size (.slice ad1 f.1.length cap1) f.1)).both (SK.rs CS.loc 1 K2 w1.heap.size (.slice ad2 f.1.length cap2) f.1)).both (SK.rs CE.loc 2 K3 w2.heap.size (.slice ad3 v.2.2.2.length cap3) v.2.2.2)).both (SK.rs CE.loc 2 K4 w3.heap.size (.slice ad4 v.2.2.2.length cap4) v.2.2.2)) (fun _ h=>h) I4 fun β5 a5 w5 I5 hb5=>?_
 exact outQ (v:=.bool true) I5 ⟨rfl,I5.hJ.1.1.1.1⟩
end Go.Proofs.YtomdiafkoeefpaaGreatDoor
