/- Laid one behind the other: Yf, Yg. -/
import Derived.Test.YtceedgdbhlpjlaaGreatDoorKqYc
namespace Go.Proofs.YtceedgdbhlpjlaaGreatDoor
open Go.RowKit Go.Sort Tryz
set_option linter.unusedVariables false
set_option maxRecDepth 100000
set_option maxHeartbeats 4000000
theorem run_neq8{x y:Int}{b:Bool}(h:decide (x≠y)=b)(o1 o2:Operand)(w:World):(do eqGuard .neq 5 o1 o2 (.int .u8 x) (.int .u8 y);binOp .neq 5 (.int .u8 x) (.int .u8 y):Sem Value).run prog w=.ok (.bool b) w:=by subst h;by_cases hx:x=y<;>simp[go_sem,hx]
theorem slToA(ad:Option Addr)(n cap m:Nat)(h:m≤n)(hc:n≤cap)(w:World):(Instr.sliceAt 22 (.slice ad n cap) none (some (Z m)) none).run prog w=.ok (.slice ad m cap) w:=by
 have hz:(prog.info? 38).map (·.size)=some 4:=by kernel_rfl
 cases hq:prog.info? 38 with
 | none=>rw[hq]at hz;cases hz
 | some inf=>
  rw[hq]at hz;have hz:inf.size=4:=by simpa using hz
  cases ad with
  | none=>simp[Instr.sliceAt,go_sem,run_underlying underlying22,sizeOf,typeInfo,hq,hz,Addr.add];first | omega | (refine⟨?_,?_⟩<;>omega)
  | some a=>simp[Instr.sliceAt,go_sem,run_underlying underlying22,sizeOf,typeInfo,hq,hz,Addr.add];first | omega | (refine⟨?_,?_⟩<;>omega)
theorem za9{w:World}{ad:Option Addr}{cap k m:Nat}{s:List Nat}(h:SkR w (.slice ad s.length cap) s)(hk:k≤s.length)(hm:s.length-k=m):SkR w (.slice ad m cap) (s.drop k):=by
 obtain⟨ad',cap',e,hr⟩:=h;cases e;have hl:(s.drop k).length=m:=by rw[List.length_drop];exact hm
 refine⟨ad,cap,by rw[hl],fun j hj=>?_⟩;rw[hl]at hj;obtain⟨b,off,e,hc⟩:=hr j (by omega);refine⟨b,off,e,?_⟩;have e2:tp (s.drop k) ((s.drop k).length-1-j)=tp s (s.length-1-j):=by
  rw[hl];unfold tp;rw[List.getD_eq_getElem?_getD,List.getD_eq_getElem?_getD,List.getElem?_drop]
  congr 2
  omega
 rw[e2];exact hc
def FrW (w:World) (ad:Option Addr) (n cap:Nat) (s:List Nat) (f:Fr) (x:Value) (w':World):Prop:=FrO w f x w'∨(f.st=s∧x=frV f (.slice ad n cap)∧Below w.heap.size w w')
theorem SkJ.fro{w w':World}{f:Fr}{ad:Option Addr}{n cap:Nat}(h:SkJ w (.slice ad n cap) f.st w')(hn:f.st.length=n):FrO w f (frV f (.slice ad n cap)) w':=by
 subst hn;exact⟨ad,cap,rfl,h.o,h.bw⟩
theorem rdn_reck(f f0:Fr)(ad ad0:Option Addr)(cap n0 cap0:Nat)(op a b c:Nat)(ho:op<256)(ha:a<W)(hb:b<W)(hc:c<W)(hop:kr op=true)(h0:op≠0)(h1:op<32)(hti:(opP op).2.1≤f.st.length)(hB:Bd f)(hl:f.st.length≤1000)(hcp:f.st.length≤cap)(w:World)(hs:SkR w (.slice ad f.st.length cap) f.st):Calls prog 29 #[frV f (.slice ad f.st.length cap),frV f0 (.slice ad0 n0 cap0),b8 op,U a,U b,U c] w fun e w'=>∃ x,e=.returned x∧FrO w { f with st:=zk op a b c::f.st.drop (opP op).2.1,pc:=f.pc+1 } x w':=by
 have hto:(opP op).2.2.1=1:=by
  have h:∀ n:Fin 32,kr n.1=true→n.1≠0→(opP n.1).2.2.1=1:=by decide
  exact h ⟨op,h1⟩ hop h0
 have htx:txA op f b c=[]:=by unfold txA;rw[if_neg (by omega),if_neg (by omega),if_neg (by omega),if_neg (by omega)]
 have hwt:=fun ad2 cap2 m=>rwt_any f ad2 m cap2 op a b c ho hb (fun h=>by omega) (fun h=>absurd htx h) hB
 rw[htx]at hwt;simp only[kt]at hwt;obtain⟨b1,b2,b3,b4,b5,b6,b7⟩:=hB;have hrk:=rreck_any hop h0 h1 a b c ha hb hc;generalize zk op a b c=r at *;have hu:U4 (l0 r) (l1 r) (l2 r) (l3 r)=U r:=rfl;rw[← hu]at hrk;generalize l0 r=r0,l1 r=r1,l2 r=r2,l3 r=r3 at *;have htk:=qy op ho;rw[hto]at htk;have hdl:(f.st.drop (opP op).2.1).length=f.st.length-(opP op).2.1:=List.length_drop;generalize (opP op).2.1=ti at *;refine inZ func29 fun A I=>?_;unfold U at hwt hrk I ⊢;generalize l0 a=a0,l1 a=a1,l2 a=a2,l3 a=a3,l0 b=b0,l1 b=b1,l2 b=b2,l3 b=b3,l0 c=c0,l1 c=c1,l2 c=c2,l3 c=c3 at *
 refine goZ [kC func23 htk,jhF op 95,lSk ad f.st.length cap,ksZ f.st.length ti (f.st.length-ti:Nat),sT 22 (slToA ad f.st.length cap (f.st.length-ti) (by omega) hcp)] I fun β1 A1 w1 I1 hb1=>?_;refine zbc (n:=f.st.length-ti) I1.sj0 ((za9 hs hti rfl).below I1.hJ) (by rw[List.append_nil];exact hdl) (by omega) fun ad2 cap2 w2 I2=>?_;rw[List.append_nil]at I2
 refine goQ [neF op 0 (by omega),neF op 243 (by omega),neF op 253 (by omega),neF op 86 (by omega),neF op 87 (by omega),kC func52 (hwt ad2 cap2 (f.st.length-ti)),bO .eql 3 (yp (x:=1) (y:=1) (b:=true) rfl),jlT op 32] (SkJ.rs _ _ _) I2 fun β3 A3 w3 I3 hb3=>?_;refine dwN (T:=fun _=>True) 8 [(7,none)] ?_ [kC func53 hrk] (fun j v w'=>j=7→∃ g,v=sl1 g∧SkR w' (sl1 g) [r]) (fun j v w' w'' h hb hj=>by
  obtain⟨g,q1,q2⟩:=h hj;exact⟨g,q1,q2.below hb⟩) (SkJ.rs _ _ _) (fun _ _=>trivial) I3 ?_ ?_
 ·intro n o hn ho;have hlt:n<11:=Nat.lt_of_lt_of_le (Array.getElem?_eq_some_iff.1 ho).1 (Nat.le_of_eq (by kernel_rfl));have h3:n=8∨n=9∨n=10:=by omega
  rcases h3 with rfl|rfl|rfl
  ·exact noD_app (zao (x:=.call ⟨.builtin .append,#[.tmp 98,.tmp 104],#[22,22]⟩) (d:=some 105) ho (by kernel_rfl)).1
  ·exact noD_field (zao (x:=.fieldAddr 25 (.tmp 6) 2) (d:=some 106) ho (by kernel_rfl)).1
  ·exact noD_store (zao (x:=.store 22 (.tmp 106) (.tmp 105)) (d:=none) ho (by kernel_rfl)).1
 ·intro p hp2 o ho zb vs a' w' hF hrd hbw hV hev;simp only[List.mem_singleton]at hp2;subst hp2;obtain⟨o1,o2,o3⟩:=zao (x:=.buildSlice 22 1 #[(0,.tmp 103)]) (d:=some 104) ho (by kernel_rfl);have q1:a'.eval (.tmp 103)=U4 r0 r1 r2 r3:=hev (.tmp 103) (Sum.inl (U4 r0 r1 r2 r3)) (by kernel_rfl);refine bslG o1 o3 (v:=sl1 w'.heap.size) (w':=w'.alloc (.cells (Ar r) 38)) ?_ ?_
  ·simp only[List.map_toArray,List.map_cons,List.map_nil,q1];rw[hu];exact bsU r w'
  ·exact⟨_,rfl,fun u hu=>(by cases hu),fun _=>⟨w'.heap.size,rfl,skr1 r w'⟩,xz w' _⟩
 intro vs A4 w4 hV I4;obtain⟨g,e10,hsk⟩:=(hV (7,none) (by simp) (of_decide_eq_true (by kernel_rfl))) rfl;obtain⟨vs',rfl⟩:∃ vs',vs=fun j=>if j=7 then sl1 g else vs' j:=⟨vs,funext fun j=>by split<;>rename_i hj<;>simp[hj,e10]⟩
 refine zbc (t:=[r]) (n:=f.st.length-ti+1) I4 hsk (by rw[← hdl];rfl) (by omega) fun ad5 cap5 w5 I5=>?_;refine goQ [kaZ f.pc 1 (f.pc+1)] (SkJ.rs _ _ _) I5 fun β6 A6 w6 I6 hb6=>?_;exact zp (v:=frV { f with st:=r::f.st.drop ti,pc:=f.pc+1 } (.slice ad5 (f.st.length-ti+1) cap5)) I6 ⟨_,rfl,SkJ.fro (f:={ f with st:=r::f.st.drop ti,pc:=f.pc+1 }) I6.hJ (by rw[← hdl];rfl)⟩
theorem rdn_read(f f0:Fr)(ad ad0:Option Addr)(cap n0 cap0:Nat)(op a b c:Nat)(ho:op<256)(ha:a<W)(hb:b<W)(hc:c<W)(h1:op=32∨op=53∨op=54∨op=56∨op=81∨op=88∨op=89∨op=90)(hm:op=32→b≤65536)(hti:(opP op).2.1≤f.st.length)(hB:Bd f)(hl:f.st.length≤1000)(hcp:f.st.length≤cap)(w:World)(hs:SkR w (.slice ad f.st.length cap) f.st):Calls prog 29 #[frV f (.slice ad f.st.length cap),frV f0 (.slice ad0 n0 cap0),b8 op,U a,U b,U c] w fun e w'=>∃ x,e=.returned x∧FrO w { f with st:=rdA op f a b::f.st.drop (opP op).2.1,pc:=f.pc+1 } x w':=by
 have hto:(opP op).2.2.1=1:=by rcases h1 with rfl|rfl|rfl|rfl|rfl|rfl|rfl|rfl<;>rfl
 have htx:txA op f b c=[]:=by unfold txA;rw[if_neg (by omega),if_neg (by omega),if_neg (by omega),if_neg (by omega)]
 have hwt:=fun ad2 cap2 m=>rwt_any f ad2 m cap2 op a b c ho hb (fun h=>by omega) (fun h=>absurd htx h) hB
 rw[htx]at hwt;simp only[kt]at hwt;have hrk:=fun ad2 cap2 m=>rrd_any f ad2 m cap2 op a b ho ha hm hB
 obtain⟨b1,b2,b3,b4,b5,b6,b7⟩:=hB;generalize rdA op f a b=r at *;have hu:U4 (l0 r) (l1 r) (l2 r) (l3 r)=U r:=rfl;rw[← hu]at hrk;generalize l0 r=r0,l1 r=r1,l2 r=r2,l3 r=r3 at *;have htk:=qy op ho;rw[hto]at htk;have hdl:(f.st.drop (opP op).2.1).length=f.st.length-(opP op).2.1:=List.length_drop;generalize (opP op).2.1=ti at *;refine inZ func29 fun A I=>?_;unfold U at hwt hrk I ⊢;generalize l0 a=a0,l1 a=a1,l2 a=a2,l3 a=a3,l0 b=b0,l1 b=b1,l2 b=b2,l3 b=b3,l0 c=c0,l1 c=c1,l2 c=c2,l3 c=c3 at *
 refine goZ [kC func23 htk,jhF op 95,lSk ad f.st.length cap,ksZ f.st.length ti (f.st.length-ti:Nat),sT 22 (slToA ad f.st.length cap (f.st.length-ti) (by omega) hcp)] I fun β1 A1 w1 I1 hb1=>?_;refine zbc (n:=f.st.length-ti) I1.sj0 ((za9 hs hti rfl).below I1.hJ) (by rw[List.append_nil];exact hdl) (by omega) fun ad2 cap2 w2 I2=>?_;rw[List.append_nil]at I2
 refine goQ [neF op 0 (by omega),neF op 243 (by omega),neF op 253 (by omega),neF op 86 (by omega),neF op 87 (by omega),kC func52 (hwt ad2 cap2 (f.st.length-ti)),bO .eql 3 (yp (x:=1) (y:=1) (b:=true) rfl),jlF op 32,bO .eql 3 (yp (x:=1) (y:=1) (b:=true) rfl)] (SkJ.rs _ _ _) I2 fun β3 A3 w3 I3 hb3=>?_;refine dwN (T:=fun _=>True) 8 [(7,none)] ?_ [kC func54 (hrk ad2 cap2 (f.st.length-ti))] (fun j v w'=>j=7→∃ g,v=sl1 g∧SkR w' (sl1 g) [r]) (fun j v w' w'' h hb hj=>by
  obtain⟨g,q1,q2⟩:=h hj;exact⟨g,q1,q2.below hb⟩) (SkJ.rs _ _ _) (fun _ _=>trivial) I3 ?_ ?_
 ·intro n o hn ho;have hlt:n<11:=Nat.lt_of_lt_of_le (Array.getElem?_eq_some_iff.1 ho).1 (Nat.le_of_eq (by kernel_rfl));have h3:n=8∨n=9∨n=10:=by omega
  rcases h3 with rfl|rfl|rfl
  ·exact noD_app (zao (x:=.call ⟨.builtin .append,#[.tmp 110,.tmp 116],#[22,22]⟩) (d:=some 117) ho (by kernel_rfl)).1
  ·exact noD_field (zao (x:=.fieldAddr 25 (.tmp 6) 2) (d:=some 118) ho (by kernel_rfl)).1
  ·exact noD_store (zao (x:=.store 22 (.tmp 118) (.tmp 117)) (d:=none) ho (by kernel_rfl)).1
 ·intro p hp2 o ho zb vs a' w' hF hrd hbw hV hev;simp only[List.mem_singleton]at hp2;subst hp2;obtain⟨o1,o2,o3⟩:=zao (x:=.buildSlice 22 1 #[(0,.tmp 115)]) (d:=some 116) ho (by kernel_rfl);have q1:a'.eval (.tmp 115)=U4 r0 r1 r2 r3:=hev (.tmp 115) (Sum.inl (U4 r0 r1 r2 r3)) (by kernel_rfl);refine bslG o1 o3 (v:=sl1 w'.heap.size) (w':=w'.alloc (.cells (Ar r) 38)) ?_ ?_
  ·simp only[List.map_toArray,List.map_cons,List.map_nil,q1];rw[hu];exact bsU r w'
  ·exact⟨_,rfl,fun u hu=>(by cases hu),fun _=>⟨w'.heap.size,rfl,skr1 r w'⟩,xz w' _⟩
 intro vs A4 w4 hV I4;obtain⟨g,e10,hsk⟩:=(hV (7,none) (by simp) (of_decide_eq_true (by kernel_rfl))) rfl;obtain⟨vs',rfl⟩:∃ vs',vs=fun j=>if j=7 then sl1 g else vs' j:=⟨vs,funext fun j=>by split<;>rename_i hj<;>simp[hj,e10]⟩
 refine zbc (t:=[r]) (n:=f.st.length-ti+1) I4 hsk (by rw[← hdl];rfl) (by omega) fun ad5 cap5 w5 I5=>?_;refine goQ [kaZ f.pc 1 (f.pc+1)] (SkJ.rs _ _ _) I5 fun β6 A6 w6 I6 hb6=>?_;exact zp (v:=frV { f with st:=r::f.st.drop ti,pc:=f.pc+1 } (.slice ad5 (f.st.length-ti+1) cap5)) I6 ⟨_,rfl,SkJ.fro (f:={ f with st:=r::f.st.drop ti,pc:=f.pc+1 }) I6.hJ (by rw[← hdl];rfl)⟩
theorem rdn_write(f f0:Fr)(ad ad0:Option Addr)(cap n0 cap0:Nat)(op a b c:Nat)(ho:op<256)(ha:a<W)(hb:b<W)(hc:c<W)(h1:op=55∨op=57∨op=80∨op=82∨op=83∨op=91)(hm:op=55∨op=57→c≤65536)(hx:txA op f b c≠[]→a≤1000000)(hti:(opP op).2.1≤f.st.length)(hB:Bd f)(hl:f.st.length≤1000)(hcp:f.st.length≤cap)(w:World)(hs:SkR w (.slice ad f.st.length cap) f.st):Calls prog 29 #[frV f (.slice ad f.st.length cap),frV f0 (.slice ad0 n0 cap0),b8 op,U a,U b,U c] w fun e w'=>∃ x,e=.returned x∧FrO w { f with st:=f.st.drop (opP op).2.1,mem:=putV f.mem a (txA op f b c),pc:=f.pc+1 } x w':=by
 have hto:(opP op).2.2.1=0:=by rcases h1 with rfl|rfl|rfl|rfl|rfl|rfl<;>rfl
 have hwt:=fun ad2 cap2 m=>rwt_any f ad2 m cap2 op a b c ho hb hm hx hB
 obtain⟨b1,b2,b3,b4,b5,b6,b7⟩:=hB;generalize putV f.mem a (txA op f b c)=pm at *;have htk:=qy op ho;rw[hto]at htk;have hdl:(f.st.drop (opP op).2.1).length=f.st.length-(opP op).2.1:=List.length_drop;generalize (opP op).2.1=ti at *;refine inZ func29 fun A I=>?_;unfold U at hwt I ⊢;generalize l0 a=a0,l1 a=a1,l2 a=a2,l3 a=a3,l0 b=b0,l1 b=b1,l2 b=b2,l3 b=b3,l0 c=c0,l1 c=c1,l2 c=c2,l3 c=c3 at *
 refine goZ [kC func23 htk,jhF op 95,lSk ad f.st.length cap,ksZ f.st.length ti (f.st.length-ti:Nat),sT 22 (slToA ad f.st.length cap (f.st.length-ti) (by omega) hcp)] I fun β1 A1 w1 I1 hb1=>?_;refine zbc (n:=f.st.length-ti) I1.sj0 ((za9 hs hti rfl).below I1.hJ) (by rw[List.append_nil];exact hdl) (by omega) fun ad2 cap2 w2 I2=>?_;rw[List.append_nil]at I2
 refine goQ [neF op 0 (by omega),neF op 243 (by omega),neF op 253 (by omega),neF op 86 (by omega),neF op 87 (by omega),kC func52 (hwt ad2 cap2 (f.st.length-ti)),bO .eql 3 (yp (x:=0) (y:=1) (b:=false) rfl),bO .eql 3 (yp (x:=0) (y:=1) (b:=false) rfl),kaZ f.pc 1 (f.pc+1)] (SkJ.rs _ _ _) I2 fun β3 A3 w3 I3 hb3=>?_;exact zp (v:=frV { f with st:=f.st.drop ti,mem:=pm,pc:=f.pc+1 } (.slice ad2 (f.st.length-ti) cap2)) I3 ⟨_,rfl,SkJ.fro (f:={ f with st:=f.st.drop ti,mem:=pm,pc:=f.pc+1 }) I3.hJ hdl⟩
theorem rdn_move(f f0:Fr)(ad ad0:Option Addr)(cap n0 cap0:Nat)(op a b c:Nat)(ho:op<256)(ha:a<W)(hb:b<W)(hc:c<W)(h1:95≤op)(h2:op<160)(hd:128≤op→op<144→op-128<f.st.length)(hw:144≤op→op-144+1<f.st.length)(hti:(opP op).2.1≤f.st.length)(hB:Bd f)(hl:f.st.length≤1000)(hcp:f.st.length≤cap)(w:World)(hs:SkR w (.slice ad f.st.length cap) f.st):Calls prog 29 #[frV f (.slice ad f.st.length cap),frV f0 (.slice ad0 n0 cap0),b8 op,U a,U b,U c] w fun e w'=>∃ x,e=.returned x∧FrO w (mvA op f) x w':=by
 have htk:=qy op ho;have hmv:=rmv_any f (.slice ad f.st.length cap) op h1 h2 hd hw hB hl;refine inZ func29 fun A I=>?_;refine goZ [kC func23 htk,jhT op 95,jmT op 159] I fun β1 A1 w1 I1 hb1=>?_;refine qx [Sum.inl (frV f (.slice ad f.st.length cap)),Sum.inl (b8 op)] func49 I1 ((hmv w1 (hs.below I1.hJ)).mono fun e w2 he=>?_);obtain⟨_,rfl,ad2,cap2,rfl,ho2,hb2⟩:=he;have hw1:=I1.hJ;generalize mvA op f=g at *
 have I2:SI (SkJ w (.slice ad2 g.st.length cap2) g.st) (SkF w (.slice ad2 g.st.length cap2)) [] β1 _ _ w2:=I1.moved (zu.of_below hb2) ⟨hw1.trans (hb2.mono hw1.size),zb9 ho2 hw1.size⟩ (fun k hk h=>by
  rcases h with h|h
  ·exact h
  ·have:=(ho2.lt k h).1;omega) (frV g (.slice ad2 g.st.length cap2))
 refine goQ [] (SkJ.rs _ _ _) I2 fun β3 A3 w3 I3 hb3=>?_;exact zp (v:=frV g (.slice ad2 g.st.length cap2)) I3 ⟨_,rfl,SkJ.fro (f:=g) I3.hJ rfl⟩
theorem rdn_0(f f0:Fr)(ad ad0:Option Addr)(cap n0 cap0:Nat)(op a b c:Nat)(ho:op<256)(ha:a<W)(hb:b<W)(hc:c<W)(h1:op=0)(hti:(opP op).2.1≤f.st.length)(hB:Bd f)(hl:f.st.length≤1000)(hcp:f.st.length≤cap)(w:World)(hs:SkR w (.slice ad f.st.length cap) f.st):Calls prog 29 #[frV f (.slice ad f.st.length cap),frV f0 (.slice ad0 n0 cap0),b8 op,U a,U b,U c] w fun e w'=>∃ x,e=.returned x∧FrO w { f with st:=f.st.drop (opP op).2.1,sd:=1,pc:=f.pc+1 } x w':=by
 have hto:(opP op).2.2.1=0:=by rw[h1];rfl
 have htx:txA op { f with sd:=1 } b c=[]:=by unfold txA;rw[if_neg (by omega),if_neg (by omega),if_neg (by omega),if_neg (by omega)]
 have hwt:=fun ad2 cap2 m=>rwt_any { f with sd:=1 } ad2 m cap2 op a b c ho hb (fun h=>by omega) (fun h=>absurd htx h) ⟨hB.code,hB.inp,hB.mem,hB.pc0,hB.pc1,hB.gas0,hB.gas1⟩
 rw[htx]at hwt;simp only[kt]at hwt;obtain⟨b1,b2,b3,b4,b5,b6,b7⟩:=hB;have htk:=qy op ho;rw[hto]at htk;have hdl:(f.st.drop (opP op).2.1).length=f.st.length-(opP op).2.1:=List.length_drop;generalize (opP op).2.1=ti at *;refine inZ func29 fun A I=>?_;unfold U at hwt I ⊢;generalize l0 a=a0,l1 a=a1,l2 a=a2,l3 a=a3,l0 b=b0,l1 b=b1,l2 b=b2,l3 b=b3,l0 c=c0,l1 c=c1,l2 c=c2,l3 c=c3 at *;refine goZ [kC func23 htk,jhF op 95,lSk ad f.st.length cap,ksZ f.st.length ti (f.st.length-ti:Nat),sT 22 (slToA ad f.st.length cap (f.st.length-ti) (by omega) hcp)] I fun β1 A1 w1 I1 hb1=>?_
 refine zbc (n:=f.st.length-ti) I1.sj0 ((za9 hs hti rfl).below I1.hJ) (by rw[List.append_nil];exact hdl) (by omega) fun ad2 cap2 w2 I2=>?_;rw[List.append_nil]at I2;refine goQ [eqF op 0 h1,neF op 253 (by omega),bO .neq 5 (run_neq8 (x:=op) (y:=0) (b:=false) (decide_eq_false (by omega))),kC func52 (hwt ad2 cap2 (f.st.length-ti)),bO .eql 3 (yp (x:=0) (y:=1) (b:=false) rfl),bO .eql 3 (yp (x:=0) (y:=1) (b:=false) rfl),kaZ f.pc 1 (f.pc+1)] (SkJ.rs _ _ _) I2 fun β3 A3 w3 I3 hb3=>?_
 exact zp (v:=frV { f with st:=f.st.drop ti,sd:=1,pc:=f.pc+1 } (.slice ad2 (f.st.length-ti) cap2)) I3 ⟨_,rfl,SkJ.fro (f:={ f with st:=f.st.drop ti,sd:=1,pc:=f.pc+1 }) I3.hJ hdl⟩
theorem rdn_243(f f0:Fr)(ad ad0:Option Addr)(cap n0 cap0:Nat)(op a b c:Nat)(ho:op<256)(ha:a<W)(hb:b<W)(hc:c<W)(h1:op=243)(hm:b≤65536)(hti:(opP op).2.1≤f.st.length)(hB:Bd f)(hl:f.st.length≤1000)(hcp:f.st.length≤cap)(w:World)(hs:SkR w (.slice ad f.st.length cap) f.st):Calls prog 29 #[frV f (.slice ad f.st.length cap),frV f0 (.slice ad0 n0 cap0),b8 op,U a,U b,U c] w fun e w'=>∃ x,e=.returned x∧FrO w { f with st:=f.st.drop (opP op).2.1,sd:=1,pc:=f.pc+1,out:=slV f.mem a b } x w':=by
 have hto:(opP op).2.2.1=0:=by rw[h1];rfl
 have hM:=zah;have hsl:=kb f.mem (by have:=hB.mem;omega) a ha (b:Int);have hcv:=zch b (by omega);have hl0:l0 b=b:=(xc b (by omega)).1;generalize slV f.mem a b=so at *;have htx:txA op { f with sd:=1,out:=so } b c=[]:=by unfold txA;rw[if_neg (by omega),if_neg (by omega),if_neg (by omega),if_neg (by omega)]
 have hwt:=fun ad2 cap2 m=>rwt_any { f with sd:=1,out:=so } ad2 m cap2 op a b c ho hb (fun h=>by omega) (fun h=>absurd htx h) ⟨hB.code,hB.inp,hB.mem,hB.pc0,hB.pc1,hB.gas0,hB.gas1⟩
 rw[htx]at hwt;simp only[kt]at hwt;obtain⟨b1,b2,b3,b4,b5,b6,b7⟩:=hB;have htk:=qy op ho;rw[hto]at htk;have hdl:(f.st.drop (opP op).2.1).length=f.st.length-(opP op).2.1:=List.length_drop;generalize (opP op).2.1=ti at *;refine inZ func29 fun A I=>?_;unfold U at hwt hsl I ⊢;rw[hl0]at I ⊢;simp only[hl0]at hwt;clear hl0;generalize l0 a=a0,l1 a=a1,l2 a=a2,l3 a=a3,l1 b=b1,l2 b=b2,l3 b=b3,l0 c=c0,l1 c=c1,l2 c=c2,l3 c=c3 at *
 refine goZ [kC func23 htk,jhT op 95,jmF op 159,lSk ad f.st.length cap,ksZ f.st.length ti (f.st.length-ti:Nat),sT 22 (slToA ad f.st.length cap (f.st.length-ti) (by omega) hcp)] I fun β1 A1 w1 I1 hb1=>?_;refine zbc (n:=f.st.length-ti) I1.sj0 ((za9 hs hti rfl).below I1.hJ) (by rw[List.append_nil];exact hdl) (by omega) fun ad2 cap2 w2 I2=>?_;rw[List.append_nil]at I2
 refine goQ [neF op 0 (by omega),eqF op 243 h1,neF op 253 (by omega),bO .neq 5 (run_neq8 (x:=op) (y:=0) (b:=true) (decide_eq_true (by omega))),vO 36 3 hcv,kC func50 hsl,kC func52 (hwt ad2 cap2 (f.st.length-ti)),bO .eql 3 (yp (x:=0) (y:=1) (b:=false) rfl),bO .eql 3 (yp (x:=0) (y:=1) (b:=false) rfl),kaZ f.pc 1 (f.pc+1)] (SkJ.rs _ _ _) I2 fun β3 A3 w3 I3 hb3=>?_;exact zp (v:=frV { f with st:=f.st.drop ti,sd:=1,pc:=f.pc+1,out:=so } (.slice ad2 (f.st.length-ti) cap2)) I3 ⟨_,rfl,SkJ.fro (f:={ f with st:=f.st.drop ti,sd:=1,pc:=f.pc+1,out:=so }) I3.hJ hdl⟩
theorem rdn_253(f f0:Fr)(ad ad0:Option Addr)(cap n0 cap0:Nat)(op a b c:Nat)(ho:op<256)(ha:a<W)(hb:b<W)(hc:c<W)(h1:op=253)(hm:b≤65536)(hti:(opP op).2.1≤f.st.length)(hB:Bd f)(hl:f.st.length≤1000)(hcp:f.st.length≤cap)(w:World)(hs:SkR w (.slice ad f.st.length cap) f.st):Calls prog 29 #[frV f (.slice ad f.st.length cap),frV f0 (.slice ad0 n0 cap0),b8 op,U a,U b,U c] w fun e w'=>∃ x,e=.returned x∧FrO w { f with st:=f.st.drop (opP op).2.1,sd:=2,pc:=f.pc+1,out:=slV f.mem a b } x w':=by
 have hto:(opP op).2.2.1=0:=by rw[h1];rfl
 have hM:=zah;have hsl:=kb f.mem (by have:=hB.mem;omega) a ha (b:Int);have hcv:=zch b (by omega);have hl0:l0 b=b:=(xc b (by omega)).1;generalize slV f.mem a b=so at *;have htx:txA op { f with sd:=2,out:=so } b c=[]:=by unfold txA;rw[if_neg (by omega),if_neg (by omega),if_neg (by omega),if_neg (by omega)]
 have hwt:=fun ad2 cap2 m=>rwt_any { f with sd:=2,out:=so } ad2 m cap2 op a b c ho hb (fun h=>by omega) (fun h=>absurd htx h) ⟨hB.code,hB.inp,hB.mem,hB.pc0,hB.pc1,hB.gas0,hB.gas1⟩
 rw[htx]at hwt;simp only[kt]at hwt;obtain⟨b1,b2,b3,b4,b5,b6,b7⟩:=hB;have htk:=qy op ho;rw[hto]at htk;have hdl:(f.st.drop (opP op).2.1).length=f.st.length-(opP op).2.1:=List.length_drop;generalize (opP op).2.1=ti at *;refine inZ func29 fun A I=>?_;unfold U at hwt hsl I ⊢;rw[hl0]at I ⊢;simp only[hl0]at hwt;clear hl0;generalize l0 a=a0,l1 a=a1,l2 a=a2,l3 a=a3,l1 b=b1,l2 b=b2,l3 b=b3,l0 c=c0,l1 c=c1,l2 c=c2,l3 c=c3 at *
 refine goZ [kC func23 htk,jhT op 95,jmF op 159,lSk ad f.st.length cap,ksZ f.st.length ti (f.st.length-ti:Nat),sT 22 (slToA ad f.st.length cap (f.st.length-ti) (by omega) hcp)] I fun β1 A1 w1 I1 hb1=>?_;refine zbc (n:=f.st.length-ti) I1.sj0 ((za9 hs hti rfl).below I1.hJ) (by rw[List.append_nil];exact hdl) (by omega) fun ad2 cap2 w2 I2=>?_;rw[List.append_nil]at I2
 refine goQ [neF op 0 (by omega),neF op 243 (by omega),eqF op 253 h1,eqF op 253 h1,bO .neq 5 (run_neq8 (x:=op) (y:=0) (b:=true) (decide_eq_true (by omega))),vO 36 3 hcv,kC func50 hsl,kC func52 (hwt ad2 cap2 (f.st.length-ti)),bO .eql 3 (yp (x:=0) (y:=1) (b:=false) rfl),bO .eql 3 (yp (x:=0) (y:=1) (b:=false) rfl),kaZ f.pc 1 (f.pc+1)] (SkJ.rs _ _ _) I2 fun β3 A3 w3 I3 hb3=>?_;exact zp (v:=frV { f with st:=f.st.drop ti,sd:=2,pc:=f.pc+1,out:=so } (.slice ad2 (f.st.length-ti) cap2)) I3 ⟨_,rfl,SkJ.fro (f:={ f with st:=f.st.drop ti,sd:=2,pc:=f.pc+1,out:=so }) I3.hJ hdl⟩
theorem rdn_jump(f f0:Fr)(ad ad0:Option Addr)(cap n0 cap0:Nat)(op a b c:Nat)(ho:op<256)(ha:a<W)(hb:b<W)(hc:c<W)(h1:op=86∨op=87∧b≠0)(hsd:f.sd=0)(hti:(opP op).2.1≤f.st.length)(hB:Bd f)(hl:f.st.length≤1000)(hcp:f.st.length≤cap)(w:World)(hs:SkR w (.slice ad f.st.length cap) f.st):Calls prog 29 #[frV f (.slice ad f.st.length cap),frV f0 (.slice ad0 n0 cap0),b8 op,U a,U b,U c] w fun e w'=>∃ x,e=.returned x∧FrW w ad0 n0 cap0 f0.st (if dstV f.code a=true then{ f with st:=f.st.drop (opP op).2.1,pc:=a }else kp f0 20) x w':=by
 have hto:(opP op).2.2.1=0:=by rcases h1 with rfl|⟨rfl,_⟩<;>rfl
 have hj:=fun ad2 cap2 m=>rjump_any f ad2 m cap2 a ha (by have:=hB.code;omega)
 have hwr:=rwrong_any f0 ad0 n0 cap0 20;have heq:=fun h0:b≠0=>zco (n:=b) (m:=0) hb (by have:=M_W;have:=zah;omega) (b:=false) (decide_eq_false h0)
 obtain⟨b1,b2,b3,b4,b5,b6,b7⟩:=hB;have htk:=qy op ho;rw[hto]at htk;have hdl:(f.st.drop (opP op).2.1).length=f.st.length-(opP op).2.1:=List.length_drop;generalize (opP op).2.1=ti at *;refine inZ func29 fun A I=>?_;unfold U at hj heq I ⊢;generalize l0 a=a0,l1 a=a1,l2 a=a2,l3 a=a3,l0 b=b0,l1 b=b1,l2 b=b2,l3 b=b3,l0 c=c0,l1 c=c1,l2 c=c2,l3 c=c3 at *;refine goZ [kC func23 htk,jhF op 95,lSk ad f.st.length cap,ksZ f.st.length ti (f.st.length-ti:Nat),sT 22 (slToA ad f.st.length cap (f.st.length-ti) (by omega) hcp)] I fun β1 A1 w1 I1 hb1=>?_
 refine zbc (n:=f.st.length-ti) I1.sj0 ((za9 hs hti rfl).below I1.hJ) (by rw[List.append_nil];exact hdl) (by omega) fun ad2 cap2 w2 I2=>?_;rw[List.append_nil]at I2;cases hq:dstV f.code a with
 | true=>
  rw[hq]at hj;simp only[if_true]at hj ⊢;rcases h1 with h1|⟨h1,h0⟩
  ·refine goQ [neF op 0 (by omega),neF op 243 (by omega),neF op 253 (by omega),eqF op 86 h1,neF op 87 (by omega),kC func51 (hj ad2 cap2 (f.st.length-ti)),keF f.sd 3] (SkJ.rs _ _ _) I2 fun β3 A3 w3 I3 hb3=>?_;exact zp (v:=frV { f with st:=f.st.drop ti,pc:=a } (.slice ad2 (f.st.length-ti) cap2)) I3 ⟨_,rfl,.inl (SkJ.fro (f:={ f with st:=f.st.drop ti,pc:=a }) I3.hJ hdl)⟩
  ·refine goQ [neF op 0 (by omega),neF op 243 (by omega),neF op 253 (by omega),neF op 86 (by omega),eqF op 87 h1,eqF op 87 h1,dO 38 [] qw,bO .eql 38 (heq h0),kC func51 (hj ad2 cap2 (f.st.length-ti)),keF f.sd 3] (SkJ.rs _ _ _) I2 fun β3 A3 w3 I3 hb3=>?_;exact zp (v:=frV { f with st:=f.st.drop ti,pc:=a } (.slice ad2 (f.st.length-ti) cap2)) I3 ⟨_,rfl,.inl (SkJ.fro (f:={ f with st:=f.st.drop ti,pc:=a }) I3.hJ hdl)⟩
 | false=>
  rw[hq]at hj;simp only[Bool.false_eq_true,if_false]at hj ⊢;have fin:∀{w':World},SkJ w (.slice ad2 (f.st.length-ti) cap2) (f.st.drop ti) w'→FrW w ad0 n0 cap0 f0.st (kp f0 20) (frV (kp f0 20) (.slice ad0 n0 cap0)) w':=fun{w'} h=>.inr ⟨rfl,rfl,h.bw⟩
  rcases h1 with h1|⟨h1,h0⟩
  ·refine goQ [neF op 0 (by omega),neF op 243 (by omega),neF op 253 (by omega),eqF op 86 h1,neF op 87 (by omega),kC func51 (hj ad2 cap2 (f.st.length-ti)),bO .eql 3 (yp (x:=3) (y:=3) (b:=true) rfl),kC func22 hwr] (SkJ.rs _ _ _) I2 fun β3 A3 w3 I3 hb3=>?_;exact zp (v:=frV (kp f0 20) (.slice ad0 n0 cap0)) I3 ⟨_,rfl,fin I3.hJ⟩
  ·refine goQ [neF op 0 (by omega),neF op 243 (by omega),neF op 253 (by omega),neF op 86 (by omega),eqF op 87 h1,eqF op 87 h1,dO 38 [] qw,bO .eql 38 (heq h0),kC func51 (hj ad2 cap2 (f.st.length-ti)),bO .eql 3 (yp (x:=3) (y:=3) (b:=true) rfl),kC func22 hwr] (SkJ.rs _ _ _) I2 fun β3 A3 w3 I3 hb3=>?_;exact zp (v:=frV (kp f0 20) (.slice ad0 n0 cap0)) I3 ⟨_,rfl,fin I3.hJ⟩
theorem rdn_past(f f0:Fr)(ad ad0:Option Addr)(cap n0 cap0:Nat)(op a b c:Nat)(ho:op<256)(ha:a<W)(hb:b<W)(hc:c<W)(h1:op=87∧b=0)(hti:(opP op).2.1≤f.st.length)(hB:Bd f)(hl:f.st.length≤1000)(hcp:f.st.length≤cap)(w:World)(hs:SkR w (.slice ad f.st.length cap) f.st):Calls prog 29 #[frV f (.slice ad f.st.length cap),frV f0 (.slice ad0 n0 cap0),b8 op,U a,U b,U c] w fun e w'=>∃ x,e=.returned x∧FrO w { f with st:=f.st.drop (opP op).2.1,pc:=f.pc+1 } x w':=by
 have hto:(opP op).2.2.1=0:=by rcases h1 with⟨rfl,_⟩;rfl
 have heq:=zco (n:=b) (m:=0) hb (by have:=M_W;have:=zah;omega) (b:=true) (decide_eq_true h1.2);obtain⟨b1,b2,b3,b4,b5,b6,b7⟩:=hB;obtain⟨h1,_⟩:=h1;have htk:=qy op ho;rw[hto]at htk;have hdl:(f.st.drop (opP op).2.1).length=f.st.length-(opP op).2.1:=List.length_drop;generalize (opP op).2.1=ti at *;refine inZ func29 fun A I=>?_;unfold U at heq I ⊢;generalize l0 a=a0,l1 a=a1,l2 a=a2,l3 a=a3,l0 b=b0,l1 b=b1,l2 b=b2,l3 b=b3,l0 c=c0,l1 c=c1,l2 c=c2,l3 c=c3 at *
 refine goZ [kC func23 htk,jhF op 95,lSk ad f.st.length cap,ksZ f.st.length ti (f.st.length-ti:Nat),sT 22 (slToA ad f.st.length cap (f.st.length-ti) (by omega) hcp)] I fun β1 A1 w1 I1 hb1=>?_;refine zbc (n:=f.st.length-ti) I1.sj0 ((za9 hs hti rfl).below I1.hJ) (by rw[List.append_nil];exact hdl) (by omega) fun ad2 cap2 w2 I2=>?_;rw[List.append_nil]at I2;refine goQ [neF op 0 (by omega),neF op 243 (by omega),neF op 253 (by omega),neF op 86 (by omega),eqF op 87 h1,eqF op 87 h1,dO 38 [] qw,bO .eql 38 heq,kaZ f.pc 1 (f.pc+1)] (SkJ.rs _ _ _) I2 fun β3 A3 w3 I3 hb3=>?_
 exact zp (v:=frV { f with st:=f.st.drop ti,pc:=f.pc+1 } (.slice ad2 (f.st.length-ti) cap2)) I3 ⟨_,rfl,SkJ.fro (f:={ f with st:=f.st.drop ti,pc:=f.pc+1 }) I3.hJ hdl⟩
abbrev nx1 (p:Fr):Fr:={ p with pc:=p.pc+1 }
theorem rdB_nil:rdB []=0:=rfl
theorem slV_0(t:List UInt8)(n:Nat):slV t n ((0:Nat):Int)=[]:=List.eq_nil_of_length_eq_zero (vy t n 0 (by decide))
theorem dv_move{op:Nat}(h1:95≤op)(h2:op<160)(p:Fr):doV op (nx1 p)=mvA op p:=by
 unfold doV mvA;by_cases k1:op=95
 ·subst k1;rw[if_neg (by decide),if_neg (by decide),if_neg (by decide),if_neg (by decide),if_neg (by decide),if_neg (by decide),if_neg (by decide),if_neg (by decide),if_neg (by decide),if_neg (by decide),if_neg (by decide),if_neg (by decide),if_neg (by decide),if_neg (by decide),if_neg (by decide),if_neg (by decide),if_neg (by decide),if_neg (by decide),if_pos (by decide),if_pos rfl];show({ p with st:=rdB (slV p.code (p.pc+1).toNat ((0:Nat):Int))::p.st,pc:=p.pc+1+((0:Nat):Int) }:Fr)=_;rw[slV_0,rdB_nil];simp
 by_cases k2:op<128
 ·rw[if_neg (by omega),if_neg (by omega),if_neg (by omega),if_neg (by omega),if_neg (by omega),if_neg (by omega),if_neg (by omega),if_neg (by omega),if_neg (by omega),if_neg (by omega),if_neg (by omega),if_neg (by omega),if_neg (by omega),if_neg (by omega),if_neg (by omega),if_neg (by omega),if_neg (by omega),if_neg (by omega),if_pos k2];rw[if_neg k1,if_pos k2];show({ p with st:=rdB (slV p.code (p.pc+1).toNat ((op-95:Nat):Int))::p.st,pc:=p.pc+1+((op-95:Nat):Int) }:Fr)=_;rw[Int.add_right_comm]
 by_cases k3:op<144
 ·rw[if_neg (by omega),if_neg (by omega),if_neg (by omega),if_neg (by omega),if_neg (by omega),if_neg (by omega),if_neg (by omega),if_neg (by omega),if_neg (by omega),if_neg (by omega),if_neg (by omega),if_neg (by omega),if_neg (by omega),if_neg (by omega),if_neg (by omega),if_neg (by omega),if_neg (by omega),if_neg (by omega),if_neg (by omega),if_pos k3];rw[if_neg k1,if_neg k2,if_pos k3]
 ·rw[if_neg (by omega),if_neg (by omega),if_neg (by omega),if_neg (by omega),if_neg (by omega),if_neg (by omega),if_neg (by omega),if_neg (by omega),if_neg (by omega),if_neg (by omega),if_neg (by omega),if_neg (by omega),if_neg (by omega),if_neg (by omega),if_neg (by omega),if_neg (by omega),if_neg (by omega),if_neg (by omega),if_neg (by omega),if_neg (by omega),if_pos h2];rw[if_neg k1,if_neg k2,if_neg k3]
theorem dv_0{op:Nat}(h:op=0)(p:Fr):doV op (nx1 p)={ p with st:=p.st.drop (opP op).2.1,sd:=1,pc:=p.pc+1 }:=by subst h;rfl
theorem dv_243{op:Nat}(h:op=243)(p:Fr):doV op (nx1 p)={ p with st:=p.st.drop (opP op).2.1,sd:=1,pc:=p.pc+1,out:=slV p.mem (tp p.st 0) (tp p.st 1) }:=by subst h;rfl
theorem dv_253{op:Nat}(h:op=253)(p:Fr):doV op (nx1 p)={ p with st:=p.st.drop (opP op).2.1,sd:=2,pc:=p.pc+1,out:=slV p.mem (tp p.st 0) (tp p.st 1) }:=by subst h;rfl
theorem dv_reck{op:Nat}(h0:op≠0)(h1:op<32)(p:Fr):doV op (nx1 p)={ p with st:=zk op (tp p.st 0) (tp p.st 1) (tp p.st 2)::p.st.drop (opP op).2.1,pc:=p.pc+1 }:=by unfold doV;rw[if_neg h0,if_pos h1]
theorem dv_read{op:Nat}(h1:op=32∨op=53∨op=54∨op=56∨op=81∨op=88∨op=89∨op=90)(p:Fr):doV op (nx1 p)={ p with st:=rdA op p (tp p.st 0) (tp p.st 1)::p.st.drop (opP op).2.1,pc:=p.pc+1 }:=by
 rcases h1 with rfl|rfl|rfl|rfl|rfl|rfl|rfl|rfl
 ·rfl
 ·rfl
 ·rfl
 ·rfl
 ·rfl
 ·show({ p with st:=(p.pc+1-1).toNat::p.st,pc:=p.pc+1 }:Fr)={ p with st:=p.pc.toNat::p.st,pc:=p.pc+1 }
  rw[Int.add_sub_cancel]
 ·rfl
 ·rfl
theorem dv_write{op:Nat}(h1:op=55∨op=57∨op=80∨op=82∨op=83∨op=91)(p:Fr):doV op (nx1 p)={ p with st:=p.st.drop (opP op).2.1,mem:=putV p.mem (tp p.st 0) (txA op p (tp p.st 1) (tp p.st 2)),pc:=p.pc+1 }:=by
 rcases h1 with rfl|rfl|rfl|rfl|rfl|rfl
 ·rfl
 ·rfl
 ·show({ p with st:=p.st.drop 1,pc:=p.pc+1 }:Fr)={ p with st:=p.st.drop 1,mem:=putV p.mem (tp p.st 0) [],pc:=p.pc+1 }
  rw[kt]
 ·rfl
 ·rfl
 ·show({ p with pc:=p.pc+1 }:Fr)={ p with mem:=putV p.mem (tp p.st 0) [],pc:=p.pc+1 }
  rw[kt]
theorem dv_jump{op:Nat}(p:Fr)(h1:op=86∨op=87∧tp p.st 1≠0):doV op (nx1 p)={ p with st:=p.st.drop (opP op).2.1,pc:=tp p.st 0 }:=by
 rcases h1 with rfl|⟨rfl,h⟩
 ·rfl
 ·show({ p with st:=p.st.drop 2,pc:=if tp p.st 1=0 then p.pc+1 else tp p.st 0 }:Fr)=_;rw[if_neg h];rfl
theorem dv_past{op:Nat}(p:Fr)(h1:op=87∧tp p.st 1=0):doV op (nx1 p)={ p with st:=p.st.drop (opP op).2.1,pc:=p.pc+1 }:=by
 obtain⟨rfl,h⟩:=h1;show({ p with st:=p.st.drop 2,pc:=if tp p.st 1=0 then p.pc+1 else tp p.st 0 }:Fr)=_;rw[if_pos h];rfl
theorem dup_tk:∀ n:Fin 256,128≤n.val→n.val<144→(opP n.val).2.1=n.val-127:=by decide +kernel
theorem swp_tk:∀ n:Fin 256,144≤n.val→n.val<160→(opP n.val).2.1=n.val-142:=by decide +kernel
def pdF (f:Fr):Fr:={ f with gas:=f.gas-zac (opF f) f,mem:=(yh f.mem (yk (opF f) f.st).1 (yk (opF f) f.st).2).1 }
theorem nj{op:Nat}{s:List Nat}(h1:op≠86)(h2:op≠87):jmpV op s=false:=by unfold jmpV;simp[h1,h2]
theorem rdn_any(f:Fr)(hO:OkR f)(hz:f.sd=0)(hop:kr (opF f)=true)(htk:(opP (opF f)).2.1≤f.st.length)(hgr:(yh f.mem (yk (opF f) f.st).1 (yk (opF f) f.st).2).2.2=0)(hgas:zac (opF f) f≤f.gas)(ad:Option Addr)(cap:Nat)(hcp:f.st.length≤cap)(w:World)(hs:SkR w (.slice ad f.st.length cap) f.st) :
  Calls prog 29 #[frV (pdF f) (.slice ad f.st.length cap),frV f (.slice ad f.st.length cap),b8 (opF f),U (tp f.st 0),U (tp f.st 1),U (tp f.st 2)] w fun e w'=>∃ x,e=.returned x∧FrW w ad f.st.length cap f.st (if jmpV (opF f) f.st=true∧dstV f.code (tp f.st 0)=false then kp f 20 else nexV f) x w':=by
 have hgl:=grow_len (a:=(yk (opF f) f.st).1) (n:=(yk (opF f) f.st).2) hO.mem hO.m32;have hg0:=gas_bd hO.toOkF hgr;have hB:Bd (pdF f):=by
  have h1:=hO.code;have h2:=hO.inp;have h3:=hO.pc0;have h4:=hO.pc1;have h5:=hO.gas1;refine⟨by show f.code.length≤100000;omega,by show f.inp.length≤100000;omega,Nat.le_trans hgl.1 (by decide),h3,by show f.pc≤1000000;omega,?_,?_⟩
  ·show 0≤f.gas-zac (opF f) f;omega
  ·show f.gas-zac (opF f) f≤1000000;omega
 have e:nexV f=doV (opF f) (nx1 (pdF f)):=rfl;rw[e];have s1:=small1 hgr;have s2:=small2 hgr;have s3:=small3 hgr;have ha:=zcq hO.num 0;have hb:=zcq hO.num 1;have hc:=zcq hO.num 2;have ho:=zbv f;have hl:=hO.st;obtain⟨p,hp⟩:∃ p,pdF f=p:=⟨_,rfl⟩
 have e1:f.st=p.st:=by rw[← hp];rfl
 have e2:f.code=p.code:=by rw[← hp];rfl
 have e3:p.sd=0:=by rw[← hp];exact hz
 rw[hp]at hB ⊢;clear hgr hgas hg0 hgl e hp;generalize opF f=op at *;have hs0:SkR w (.slice ad p.st.length cap) f.st:=by rw[← e1];exact hs
 have hn0:f.st.length=p.st.length:=by rw[e1]
 rw[e1]at htk hcp hs s1 s2 s3 ha hb hc hl ⊢;rw[e2];by_cases g1:95≤op∧op<160
 ·rw[if_neg (by rw[nj (by omega) (by omega)];simp),dv_move g1.1 g1.2];refine Calls.mono (rdn_move p f ad ad cap _ cap op _ _ _ ho ha hb hc g1.1 g1.2 (fun q1 q2=>?_) (fun q1=>?_) htk hB (by omega) hcp w hs) (fun e w2 he=>(by obtain⟨x,rfl,q⟩:=he;exact⟨x,rfl,.inl q⟩))
  ·have:=dup_tk ⟨op,ho⟩ q1 q2;simp only[]at this;omega
  ·have:=swp_tk ⟨op,ho⟩ q1 g1.2;simp only[]at this;omega
 by_cases g2:op=0
 ·rw[if_neg (by rw[nj (by omega) (by omega)];simp),dv_0 g2];exact Calls.mono (rdn_0 p f ad ad cap _ cap op _ _ _ ho ha hb hc g2 htk hB (by omega) hcp w hs) (fun e w2 he=>(by obtain⟨x,rfl,q⟩:=he;exact⟨x,rfl,.inl q⟩))
 by_cases g3:op=243
 ·rw[if_neg (by rw[nj (by omega) (by omega)];simp),dv_243 g3];exact Calls.mono (rdn_243 p f ad ad cap _ cap op _ _ _ ho ha hb hc g3 (Nat.le_trans (s1 (by omega)) (by decide)) htk hB (by omega) hcp w hs) (fun e w2 he=>(by obtain⟨x,rfl,q⟩:=he;exact⟨x,rfl,.inl q⟩))
 by_cases g4:op=253
 ·rw[if_neg (by rw[nj (by omega) (by omega)];simp),dv_253 g4];exact Calls.mono (rdn_253 p f ad ad cap _ cap op _ _ _ ho ha hb hc g4 (Nat.le_trans (s1 (by omega)) (by decide)) htk hB (by omega) hcp w hs) (fun e w2 he=>(by obtain⟨x,rfl,q⟩:=he;exact⟨x,rfl,.inl q⟩))
 by_cases g5:op<32
 ·rw[if_neg (by rw[nj (by omega) (by omega)];simp),dv_reck g2 g5];exact Calls.mono (rdn_reck p f ad ad cap _ cap op _ _ _ ho ha hb hc hop g2 g5 htk hB (by omega) hcp w hs) (fun e w2 he=>(by obtain⟨x,rfl,q⟩:=he;exact⟨x,rfl,.inl q⟩))
 by_cases g6:op=32∨op=53∨op=54∨op=56∨op=81∨op=88∨op=89∨op=90
 ·rw[if_neg (by rw[nj (by omega) (by omega)];simp),dv_read g6];exact Calls.mono (rdn_read p f ad ad cap _ cap op _ _ _ ho ha hb hc g6 (fun q=>Nat.le_trans (s1 (.inl q)) (by decide)) htk hB (by omega) hcp w hs) (fun e w2 he=>(by obtain⟨x,rfl,q⟩:=he;exact⟨x,rfl,.inl q⟩))
 by_cases g7:op=55∨op=57∨op=80∨op=82∨op=83∨op=91
 ·rw[if_neg (by rw[nj (by omega) (by omega)];simp),dv_write g7];refine Calls.mono (rdn_write p f ad ad cap _ cap op _ _ _ ho ha hb hc g7 (fun q=>Nat.le_trans (s2 q).1 (by decide)) (fun q=>?_) htk hB (by omega) hcp w hs) (fun e w2 he=>(by obtain⟨x,rfl,q⟩:=he;exact⟨x,rfl,.inl q⟩));by_cases q1:op=55∨op=57
  ·refine Nat.le_trans ((s2 q1).2 fun q2=>q ?_) (by decide);unfold txA;rcases q1 with q1 | q1
   ·rw[if_pos q1,q2];exact slV_0 _ _
   ·rw[if_neg (by omega),if_pos q1,q2];exact slV_0 _ _
  by_cases q3:op=82∨op=83
  ·exact Nat.le_trans (s3 q3) (by decide)
  ·exact absurd (by unfold txA;rw[if_neg (by omega),if_neg (by omega),if_neg (by omega),if_neg (by omega)]) q
 by_cases g8:op=87∧tp p.st 1=0
 ·rw[if_neg (by unfold jmpV;simp[g8.1,g8.2]),dv_past p g8];exact Calls.mono (rdn_past p f ad ad cap _ cap op _ _ _ ho ha hb hc g8 htk hB (by omega) hcp w hs) (fun e w2 he=>(by obtain⟨x,rfl,q⟩:=he;exact⟨x,rfl,.inl q⟩))
 have g9:op=86∨op=87∧tp p.st 1≠0:=by
  have:=zb4 hop;omega
 have hj:jmpV op p.st=true:=by
  unfold jmpV;rcases g9 with g9|⟨g9,g10⟩
  ·simp[g9]
  ·simp[g9,g10]
 rw[dv_jump p g9];have key:=rdn_jump p f ad ad cap p.st.length cap op _ _ _ ho ha hb hc g9 e3 htk hB (by omega) hcp w hs;rw[e1]at key;cases hq:dstV p.code (tp p.st 0)with
 | true=>
  rw[if_neg (by simp)];simp only[hq,if_true]at key;exact key
 | false=>
  rw[if_pos ⟨hj,rfl⟩];simp only[hq,Bool.false_eq_true,if_false]at key;exact key
end Go.Proofs.YtceedgdbhlpjlaaGreatDoor
