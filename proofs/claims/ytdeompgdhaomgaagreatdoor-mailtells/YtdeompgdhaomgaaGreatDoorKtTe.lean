/- Laid one behind the other: Te, Tf, Tg. -/
import Derived.Test.YtdeompgdhaomgaaGreatDoorKtTa
namespace Go.Proofs.YtdeompgdhaomgaaGreatDoor
open Go.RowKit Go.Sort Go.Proofs.Tryz
set_option linter.unusedVariables false
set_option maxRecDepth 100000
set_option maxHeartbeats 4000000
def fitA (a:Al):Bool:=sideK a.2.2.1&&decide ((a.1.size:Int)=32)&&decide ((a.2.2.2.1.size:Int)=v9 a.2.2.1)&&decide ((a.2.2.2.2.size:Int)=v9 a.2.2.1)
theorem fitAlloc_any(a:Al){g:Nat}{w:World}(h:SM w g):Calls prog 117 #[.agg (al8 a).toArray,.map (some g)] w fun e w'=>e=.returned (.bool (fitA a))∧Below w.heap.size w w':=by
 obtain⟨de,am,kd,le,ri⟩:=a;have hlt:g<w.heap.size:=(Array.getElem?_eq_some_iff.1 h).1;refine inZ func117 fun a I=>?_;refine goZ [] I fun β a w1 I hb=>?_;have h1:SM w1 g:=by unfold SM;rw[I.hJ.block g hlt];exact h
 refine lokX (t:=164) (m:=.map (some g)) (k:=Z kd) (ok:=true) (v:=.tuple #[Z (v9 kd),.bool (sideK kd)]) I (sm_look h1 kd) ?_;have I:=I.same (.tuple #[Z (v9 kd),.bool (sideK kd)]);obtain⟨sv,hsv⟩:∃ sv,v9 kd=sv:=⟨_,rfl⟩
 have hfit:fitA (de,am,kd,le,ri)=(sideK kd&&decide ((de.size:Int)=32)&&decide ((le.size:Int)=sv)&&decide ((ri.size:Int)=sv)):=by rw[← hsv];rfl
 rw[hfit];rw[hsv]at I ⊢;cases hk:sideK kd with
 | false=>
  rw[hk]at I;refine goZ [] I fun β a w1 I hb=>?_;exact xj (v:=.bool false) I
 | true=>
  rw[hk]at I;by_cases q1:¬ (de.size:Int)=32
  ·refine goZ [lO underlying9 (b:=de) (n:=de.size) rfl,bO .eql 3 (z8 (x:=de.size) (y:=32) (b:=false) (decide_eq_false q1))] I fun β a w1 I hb=>?_;exact zh (v:=.bool false) I ⟨by simp[q1],I.hJ⟩
  have q1:=Classical.not_not.1 q1;by_cases q2:¬ (le.size:Int)=sv
  ·refine goZ [lO underlying9 (b:=de) (n:=de.size) rfl,bO .eql 3 (z8 (x:=de.size) (y:=32) (b:=true) (decide_eq_true q1)),lO underlying9 (b:=le) (n:=le.size) rfl,bO .eql 3 (z8 (x:=le.size) (y:=sv) (b:=false) (decide_eq_false q2))] I fun β a w1 I hb=>?_;exact zh (v:=.bool false) I ⟨by simp[q2],I.hJ⟩
  have q2:=Classical.not_not.1 q2;refine goZ [lO underlying9 (b:=de) (n:=de.size) rfl,bO .eql 3 (z8 (x:=de.size) (y:=32) (b:=true) (decide_eq_true q1)),lO underlying9 (b:=le) (n:=le.size) rfl,bO .eql 3 (z8 (x:=le.size) (y:=sv) (b:=true) (decide_eq_true q2)),lO underlying9 (b:=ri) (n:=ri.size) rfl,bO .eql 3 (z8 (x:=ri.size) (y:=sv) (b:=decide ((ri.size:Int)=sv)) rfl)] I fun β a w1 I hb=>?_;exact zh (v:=.bool (decide ((ri.size:Int)=sv))) I ⟨by simp[q1,q2],I.hJ⟩
def fitE (x:Ex):Bool:=decide (x.1.size=20)&&decide (x.2.length≤8)&&x.2.all fitA&&decide (sumA x.2<W)
theorem bs_exit(a b:Value)(w:World):(Instr.buildSlice 26 1 #[(0,.agg #[a,b])]).run prog w=.ok (.slice (some ⟨w.heap.size,0,none⟩) 1 1) (w.alloc (.cells #[a,b] 47)):=by
 simp[go_sem]
theorem za9{w:World}{g t:Nat}{cs:List Value}(h:w.heap[g]? = some (.cells cs.toArray t)):zo w g 0 cs:=fun j c hc=>by
 rw[Nat.zero_add];simp[World.cell?,h,hc]
theorem SI.lay{J:World→Prop}{F:Nat→Prop}{ds:List Deferred}{β:Nat→Nat}{c:Cf}{a:Act}{w:World}(I:SI J F ds β c a w)(R:yw J F)(o:Obj)(r:Value):SI (fun w'=>J w'∧w'.heap[w.heap.size]? = some o) (fun k=>F k∨k=w.heap.size) ds β (xa c r) (a.put (yu c) r) (w.alloc o):=
 I.moved (zi.of_below (yh w o)) ⟨R.loc w _ I.hJ (zi.of_below (yh w o)),Array.getElem?_push_size⟩ (fun k hk h=>h.elim id fun e=>by omega) r
theorem yw.lay{J:World→Prop}{F:Nat→Prop}(R:yw J F)(g:Nat)(o:Obj):yw (fun w'=>J w'∧w'.heap[g]? = some o) (fun k=>F k∨k=g):=by
 refine⟨fun w w' h gr=>⟨R.loc w w' h.1 ⟨gr.os,gr.tape,gr.output,gr.size,fun k hk hF=>gr.block k hk (.inl hF)⟩,?_⟩,fun w k h hk=>?_⟩
 ·rw[gr.block g (Array.getElem?_eq_some_iff.1 h.2).1 (.inr rfl)];exact h.2
 ·rcases hk with hk|rfl
  ·exact R.lt w k h.1 hk
  ·exact(Array.getElem?_eq_some_iff.1 h.2).1
abbrev smA:Array MapEntry:=#[{ key:=Z 0,val:=Z 0,born:=0 },{ key:=Z 1,val:=Z 32,born:=1 }]
abbrev feK:List Nat:=[0,1,2,3,20,21,22]
abbrev feV (xv av:Value) (g m j:Nat):Vs:=frm 40 [(0,Sum.inl xv),(1,Sum.inr (0,0)),(2,Sum.inl (.bool false)),(3,Sum.inl (.map (some g))),(20,Sum.inl av),(21,Sum.inl (Z m)),(22,Sum.inl (Z j))]
theorem fitExit_any{w:World}{sa:ByteArray}{av:Value}{al:List Al}(h:AlI w av al)(hl:al.length<1000000000):Calls prog 79 #[.agg #[.string sa,av]] w fun e w'=>e=.returned (.bool (fitE (sa,al)))∧Below w.heap.size w w':=by
 have h0:=h;obtain⟨ad,cap,rfl,hm⟩:=h;refine inZ func79 fun a I=>?_;have hfit:fitE (sa,al)=(decide (sa.size=20)&&decide (al.length≤8)&&al.all fitA&&decide (sumA al<W)):=rfl;rw[hfit];by_cases q1:¬ sa.size=20
 ·refine goZ [lO underlying9 (b:=sa) (n:=sa.size) rfl,knT sa.size 20] I fun β a w1 I hb=>?_;exact zh (v:=.bool false) I ⟨by simp[q1],I.hJ⟩
 have q1:=Classical.not_not.1 q1;by_cases q2:8<al.length
 ·refine goZ [lO underlying9 (b:=sa) (n:=sa.size) rfl,knF sa.size 20,lS underlying45 (ad:=ad) (n:=al.length) (cap:=cap) rfl,kgT al.length 8] I fun β a w1 I hb=>?_;exact zh (v:=.bool false) I ⟨by simp[show ¬ al.length≤8 by omega],I.hJ⟩
 rw[decide_eq_true q1,decide_eq_true (show al.length≤8 by omega)];refine goZ [lO underlying9 (b:=sa) (n:=sa.size) rfl,knF sa.size 20,lS underlying45 (ad:=ad) (n:=al.length) (cap:=cap) rfl,kgF al.length 8] I fun β a w1 I hb=>?_;refine yp (ss:=[]) func110 I ?_;refine(sides_any w1).mono fun e w2 he=>?_;obtain⟨hb2,g,rfl,hg1,hg2,hg3⟩:=he;have hsz1:=I.hJ.size;have I2:SI (MJ w g smA 2) (fun k=>k<w.heap.size∨k=g) [] β _ _ w2:=I.moved (zi.of_below hb2) ⟨I.hJ.trans (hb2.mono hsz1),by omega,hg3⟩ (fun k hk h=>by
  rcases h with h|h
  ·exact h
  ·omega) (.map (some g))
 refine goQ [lS underlying45 (ad:=ad) (n:=al.length) (cap:=cap) rfl] (MJ.rs w g smA 2) I2 fun β3 a3 w3 I hb3=>?_
 let St:Nat→Act→World→Prop:=fun k a w'=>∃(i:Nat) (β:Nat→Nat) (u:Nat→Value),k=al.length-i∧i≤al.length∧(∀ j a,j<i→al[j]? = some a→fitA a=true) ∧
  SI (MJ w g smA 2) (fun k=>k<w.heap.size∨k=g) [] β (cfC (zc Tryz.f79) (zl (zg 40 feK) u 0 (feV (.agg #[.string sa,.slice ad al.length cap]) (.slice ad al.length cap) g al.length i)) [(0,#[.string sa,.slice ad al.length cap])] 1) a w'
 refine lpM (zc Tryz.f79) St al.length ?_ ?_
 ·obtain⟨u,Iu⟩:=I.scr (zc Tryz.f79) (zg 40 feK) (feV (.agg #[.string sa,.slice ad al.length cap]) (.slice ad al.length cap) g al.length 0) [(0,#[.string sa,.slice ad al.length cap])] 1;exact⟨0,β3,u,by omega,Nat.zero_le _,fun j a h=>absurd h (Nat.not_lt_zero j),Iu⟩
 rintro k a4 w4 ⟨i,β4,u,rfl,hi,hok,I⟩;refine zv (tm:=zl (zg 40 feK) u 0 (feV (.agg #[.string sa,.slice ad al.length cap]) (.slice ad al.length cap) g al.length i)) (rows:=[(0,#[.string sa,.slice ad al.length cap])]) (nx:=1) ?_;rcases Nat.lt_or_ge i al.length with hil|hil
 ·obtain⟨x,h1⟩:∃ t,al[i]? = some t:=⟨_,List.getElem?_eq_getElem hil⟩
  obtain⟨ga,offa,cs,rfl,hlt,hca,rfl,ham⟩:=hm i _ h1;have hld:∀ w',MJ w g smA 2 w'→(loadVar 133 ⟨ga,offa+i*8,none⟩).run prog w'=.ok (.agg (al8 x).toArray) w':=fun w' hb=>zb5 (hca.keep (hb.bw.block ga hlt))
  have hcl:∀ w',MJ w g smA 2 w'→Calls prog 117 #[.agg (al8 x).toArray,.map (some g)] w' fun e w''=>e=.returned (.bool (fitA x))∧Below w'.heap.size w' w'':=fun w' hb=>fitAlloc_any x hb.at_
  cases hx:fitA x with
  | false=>
   rw[hx]at hcl;obtain⟨de,am,kd,le,ri⟩:=x;refine goT (T:=MJ w g smA 2) [klT i al.length,iA 45 underlying45 (sz:=8) (by kernel_rfl) (g:=ga) (off:=offa) (n:=al.length) (cap:=cap) hil,ldA 133 hld,cA func117 hcl,uO .not (p:=.bool false) (v:=.bool true) (by intros;rfl)] (MJ.rs w g smA 2) (fun _ h=>h) I fun β5 a5 w5 I hb5=>?_;refine qc (qb (v:=.bool false) I ⟨?_,I.hJ.bw⟩);have:al.all fitA=false:=by
    rw[List.all_eq_false];exact⟨_,List.mem_of_getElem? h1,by simp[hx]⟩
   simp[this]
  | true=>
   rw[hx]at hcl;obtain⟨de,am,kd,le,ri⟩:=x;refine goT (T:=MJ w g smA 2) [klT i al.length,iA 45 underlying45 (sz:=8) (by kernel_rfl) (g:=ga) (off:=offa) (n:=al.length) (cap:=cap) hil,ldA 133 hld,cA func117 hcl,uO .not (p:=.bool true) (v:=.bool false) (by intros;rfl),kaZ i 1 (i+1:Nat)] (MJ.rs w g smA 2) (fun _ h=>h) I fun β5 a5 w5 I hb5=>?_;obtain⟨u',Iu⟩:=I.scr (zc Tryz.f79) (zg 40 feK) (feV (.agg #[.string sa,.slice (some ⟨ga,offa,none⟩) al.length cap]) (.slice (some ⟨ga,offa,none⟩) al.length cap) g al.length (i+1)) [(0,#[.string sa,.slice (some ⟨ga,offa,none⟩) al.length cap])] 1
   refine xc ⟨al.length-(i+1),by omega,i+1,β5,u',rfl,hil,fun j y hj hy=>?_,Iu⟩;rcases Nat.lt_or_ge j i with hji | hji
   ·exact hok j y hji hy
   ·obtain rfl:j=i:=by omega
    rw[h1]at hy;cases hy;exact hx
 ·obtain rfl:i=al.length:=by omega
  have hall:al.all fitA=true:=by
   rw[List.all_eq_true];intro y hy;obtain⟨j,hj⟩:=List.mem_iff_getElem?.1 hy;exact hok j y (List.getElem?_eq_some_iff.1 hj).1 hj
  refine goQ [bO .lss 3 (zf (x:=al.length) (y:=al.length) (b:=false) (by simp))] (MJ.rs w g smA 2) I fun β5 a5 w5 I hb5=>?_;refine xg 0 ?_;refine goQ [] (MJ.rs w g smA 2) (I.exit _) fun β6 a6 w6 I hb6=>?_;refine bslQ (ss:=[(0,Sum.inl (.agg #[.string sa,.slice ad al.length cap]))]) I (bs_exit _ _ w6) ?_;have I7:=I.lay (MJ.rs w g smA 2) (.cells [.string sa,.slice ad al.length cap].toArray 47) (.slice (some ⟨w6.heap.size,0,none⟩) 1 1);obtain⟨b,hb⟩:∃ b,w6.heap.size=b:=⟨_,rfl⟩
  rw[hb]at I7 ⊢;have hx7:∀ w',(MJ w g smA 2 w'∧w'.heap[b]? = some (.cells [.string sa,.slice ad al.length cap].toArray 47))→ExI w' (.slice (some ⟨b,0,none⟩) 1 1) [(sa,al)]:=by
   intro w' hw';refine⟨_,1,rfl,fun j x hj=>?_⟩;have hj0:j=0:=by
    have:=(List.getElem?_eq_some_iff.1 hj).1;simpa using this
   subst hj0;simp only[List.getElem?_cons_zero,Option.some.injEq]at hj;subst hj;exact⟨b,0,[.string sa,.slice ad al.length cap],rfl,(Array.getElem?_eq_some_iff.1 hw'.2).1,za9 hw'.2,_,rfl,h0.below CA.loc hw'.1.bw⟩
  have htot:totS [(sa,al)] sa=sumA al:=by simp[totS]
  have hT:∀ w',(MJ w g smA 2 w'∧w'.heap[b]? = some (.cells [.string sa,.slice ad al.length cap].toArray 47))→Calls prog 118 #[.slice (some ⟨b,0,none⟩) 1 1,.string sa] w' fun e w''=>e=.returned (totV [(sa,al)] sa)∧Below w'.heap.size w' w'':=fun w' hw'=>total_any (hx7 w' hw') sa (show 1<1000000000 by decide) (fun x hx=>by rw[List.mem_singleton]at hx;subst hx;exact hl)
  unfold totV at hT;rw[htot]at hT;rcases Nat.lt_or_ge (sumA al) W with hs|hs
  ·rw[if_pos hs]at hT;refine goT (T:=fun w'=>MJ w g smA 2 w'∧w'.heap[b]? = some (.cells [.string sa,.slice ad al.length cap].toArray 47)) [cA func118 hT] ((MJ.rs w g smA 2).lay _ _) (fun _ h=>h) I7 fun β8 a8 w8 I hb8=>?_;exact zh (v:=.bool true) I ⟨by simp[hall,hs],I.hJ.1.bw⟩
  ·rw[if_neg (by omega)]at hT;refine goT (T:=fun w'=>MJ w g smA 2 w'∧w'.heap[b]? = some (.cells [.string sa,.slice ad al.length cap].toArray 47)) [cA func118 hT] ((MJ.rs w g smA 2).lay _ _) (fun _ h=>h) I7 fun β8 a8 w8 I hb8=>?_;exact zh (v:=.bool false) I ⟨by simp[show ¬ sumA al<W by omega],I.hJ.1.bw⟩
def ltB (a b:ByteArray):Bool:=Op.bytesLess a.toList b.toList
theorem zc2{a b:ByteArray}{q:Bool}(h:(!ltB a b)=q)(x y:Operand)(w:World):(do eqGuard .geq 9 x y (.string a) (.string b);binOp .geq 9 (.string a) (.string b):Sem Value).run prog w=.ok (.bool q) w:=by
 have h1:(binOp .geq 9 (.string a) (.string b)).run prog w=.ok (.bool (!ltB a b)) w:=by
  unfold binOp;rfl
 rw[← h];simp[go_sem,h1]
def risB:List Ex→Bool
 | x::y::r=>ltB x.1 y.1&&risB (y::r)
 | _=>true
theorem zc7:∀{l:List Ex},risB l=true↔∀(i:Nat) (x y:Ex),l[i]? = some x→l[i+1]? = some y→ltB x.1 y.1=true
 | []=>⟨fun _ i x y h=>by simp at h,fun _=>rfl⟩
 | [x]=>⟨fun _ i x y h h2=>by simp at h2,fun _=>rfl⟩
 | x::y::r=>by
  have ih:=zc7 (l:=y::r);unfold risB;rw[Bool.and_eq_true,ih];refine⟨fun⟨h1,h2⟩ i a b ha hb=>?_,fun h=>⟨h 0 x y rfl rfl,fun i a b ha hb=>h (i+1) a b ha hb⟩⟩;cases i with
  | zero=>
   simp only[List.getElem?_cons_zero,Option.some.injEq,Nat.zero_add,List.getElem?_cons_succ]at ha hb;subst ha hb;exact h1
  | succ i=>exact h2 i a b ha hb
def ql (l:List Ex):Bool:=decide (l.length≤3)&&risB l&&l.all fitE
abbrev fxK:List Nat:=[0,2,8,9,10]
abbrev fxV (ev:Value) (n i:Nat):Vs:=frm 32 [(0,Sum.inl ev),(2,Sum.inl (.bool false)),(8,Sum.inl ev),(9,Sum.inl (Z n)),(10,Sum.inl (Z i))]
theorem fitExits_any{w:World}{ev:Value}{l:List Ex}(h:ExI w ev l)(hla:∀ x∈l,x.2.length<1000000000)(hl:l.length<1000000000):Calls prog 53 #[ev] w fun e w'=>e=.returned (.bool (ql l))∧Below w.heap.size w w':=by
 obtain⟨ad,cap,rfl,hm⟩:=h;refine inZ func53 fun a I=>?_;by_cases q1:3<l.length
 ·refine goZ [lS underlying26 (ad:=ad) (n:=l.length) (cap:=cap) rfl,kgT l.length 3] I fun β a w1 I hb=>?_;exact zh (v:=.bool false) I ⟨by unfold ql;rw[decide_eq_false (by omega)];rfl,I.hJ⟩
 refine goZ [lS underlying26 (ad:=ad) (n:=l.length) (cap:=cap) rfl,kgF l.length 3,lS underlying26 (ad:=ad) (n:=l.length) (cap:=cap) rfl] I fun β a w1 I hb=>?_
 let St:Nat→Act→World→Prop:=fun k a w'=>∃(i:Nat) (β:Nat→Nat) (u:Nat→Value),k=l.length-i∧i≤l.length∧(∀ j x,j<i→l[j]? = some x→fitE x=true)∧(∀ j x y,j+1<i→l[j]? = some x→l[j+1]? = some y→ltB x.1 y.1=true) ∧
  SI (Below w.heap.size w) (· < w.heap.size) [] β (cfC (zc Tryz.f53) (zl (zg 32 fxK) u 0 (fxV (.slice ad l.length cap) l.length i)) [] 0) a w'
 refine lpM (zc Tryz.f53) St l.length ?_ ?_
 ·obtain⟨u,Iu⟩:=I.scr (zc Tryz.f53) (zg 32 fxK) (fxV (.slice ad l.length cap) l.length 0) [] 0;exact⟨0,β,u,by omega,Nat.zero_le _,fun j x h=>absurd h (Nat.not_lt_zero j),fun j x y h=>absurd h (Nat.not_lt_zero _),Iu⟩
 rintro k a3 w3 ⟨i,β3,u,rfl,hi,hok,hri,I⟩;refine zv (tm:=zl (zg 32 fxK) u 0 (fxV (.slice ad l.length cap) l.length i)) (rows:=[]) (nx:=0) ?_;rcases Nat.lt_or_ge i l.length with hil|hil
 ·obtain⟨⟨sa,al⟩,h1⟩:∃ t,l[i]? = some t:=⟨_,List.getElem?_eq_getElem hil⟩
  obtain⟨ga,offa,cs,rfl,hlt,hca,av,rfl,hAl⟩:=hm i _ h1;have hal:al.length<1000000000:=hla _ (List.mem_of_getElem? h1);have hAl:AlI w av al:=hAl;obtain⟨ada,capa,rfl⟩:=hAl.slice;simp only[]at hca;have hld:∀ w',Below w.heap.size w w'→(loadVar 47 ⟨ga,offa+i*2,none⟩).run prog w'=.ok (.agg #[.string sa,.slice ada al.length capa]) w':=fun w' hb=>loadEx (hca.keep (hb.block ga hlt))
  refine goT (T:=Below w.heap.size w) [klT i l.length,iA 26 underlying26 (sz:=2) (by kernel_rfl) (g:=ga) (off:=offa) (n:=l.length) (cap:=cap) hil,ldA 47 hld] (zj w) (fun _ h=>h) I fun β4 a4 w4 I hb4=>?_;have hF:∀ w',Below w.heap.size w w'→Calls prog 79 #[.agg #[.string sa,.slice ada al.length capa]] w' fun e w''=>e=.returned (.bool (fitE (sa,al)))∧Below w'.heap.size w' w'':=fun w' hb=>fitExit_any (hAl.below CA.loc hb) hal
  have bad:fitE (sa,al)=false→ql l=false:=fun hq=>by
   have:l.all fitE=false:=by rw[List.all_eq_false];exact⟨_,List.mem_of_getElem? h1,by simp[hq]⟩
   unfold ql;rw[this,Bool.and_false]
  have fin:∀{c:Cf} {β:Nat→Nat} {a:Act} {w':World},fitE (sa,al)=true→(∀ x y,0<i→l[i-1]? = some x→l[i]? = some y→ltB x.1 y.1=true)→SI (Below w.heap.size w) (· < w.heap.size) [] β c a w'→c.dn=some .normal→vf (zg 32 fxK) 0 c.tm=vf (zg 32 fxK) 0 (fxV (.slice (some ⟨ga,offa,none⟩) l.length cap) l.length (i+1))→At prog (Exit.then (fun a' w'=>∃ j,j<l.length-i∧St j a' w') (QK prog (bodyPost prog Tryz.f53 (fun e w'=>e=.returned (.bool (ql l))∧Below w.heap.size w w')) (lpK (rn prog ([lS underlying26 (ad:=some ⟨ga,offa,none⟩) (n:=l.length) (cap:=cap) rfl,kgF l.length 3,lS underlying26 (ad:=some ⟨ga,offa,none⟩) (n:=l.length) (cap:=cap) rfl]:List (Fa prog fun _=>True)) (cfF Tryz.f53 #[.slice (some ⟨ga,offa,none⟩) l.length cap])).1))) c a w':=by
   intro c β a w' hfe hr I hdn hdr;obtain⟨u',Iu⟩:=I.scr (zc Tryz.f53) (zg 32 fxK) (fxV (.slice (some ⟨ga,offa,none⟩) l.length cap) l.length (i+1)) [] 0 hdr;refine xc ⟨l.length-(i+1),by omega,i+1,β,u',rfl,hil,fun j y hj hy=>?_,fun j x y hj hx hy=>?_,Iu⟩ hdn
   ·rcases Nat.lt_or_ge j i with hji|hji
    ·exact hok j y hji hy
    ·obtain rfl:j=i:=by omega
     rw[h1]at hy;cases hy;exact hfe
   ·rcases Nat.lt_or_ge (j+1) i with hji|hji
    ·exact hri j x y hji hx hy
    ·obtain rfl:i=j+1:=by omega
     exact hr x y (Nat.succ_pos _) hx hy
  have hadd:IntKind.i64.wrap ((i:Int)+1)=((i+1:Nat):Int):=by rw[wz (by omega) (by omega)];omega
  rcases Nat.eq_zero_or_pos i with hi0|hi0
  ·subst hi0;refine dwT (T:=Below w.heap.size w) 13 [bO .gtr 3 (zu (x:=(0:Nat)) (y:=0) (b:=false) (by simp))] (zj w) (fun _ h=>h) (zd.then (zd.qk zd.post)) I fun a5 w5 I=>?_;cases hq:fitE (sa,al)with
   | false=>
    rw[hq]at hF;refine goT (T:=Below w.heap.size w) [cA func79 hF,uO .not (p:=.bool false) (v:=.bool true) (by intros;rfl)] (zj w) (fun _ h=>h) I fun β6 a6 w6 I hb6=>?_;exact qc (qb (v:=.bool false) I ⟨by rw[bad hq],I.hJ⟩)
   | true=>
    rw[hq]at hF;refine goT (T:=Below w.heap.size w) [cA func79 hF,uO .not (p:=.bool true) (v:=.bool false) (by intros;rfl),bO .add 3 (zw (x:=(0:Nat)) (y:=1) (z:=(0+1:Nat)) hadd)] (zj w) (fun _ h=>h) I fun β6 a6 w6 I hb6=>?_;exact fin hq (fun x y h=>absurd h (Nat.lt_irrefl 0)) I (by kernel_rfl) (by kernel_rfl)
  ·obtain⟨⟨sb,bl⟩,h2⟩:∃ t,l[i-1]? = some t:=⟨_,List.getElem?_eq_getElem (by omega)⟩
   obtain⟨gb,offb,cs2,he2,hlt2,hcb,bv,rfl,hBl⟩:=hm (i-1) _ h2;cases he2;simp only[]at hcb;have hld2:∀ w',Below w.heap.size w w'→(loadVar 9 ⟨ga,offa+(i-1)*2+0,none⟩).run prog w'=.ok (.string sb) w':=fun w' hb=>xk (hcb.keep (hb.block ga hlt)) 0 rfl 9 underlying9 rfl
   have hii:i-1<l.length:=by omega
   cases hq:ltB sb sa with
   | false=>
    refine dwT (T:=Below w.heap.size w) 13 [kgT i 0,ksZ i 1 (i-1:Nat),iA 26 underlying26 (sz:=2) (by kernel_rfl) (g:=ga) (off:=offa) (n:=l.length) (cap:=cap) (i:=i-1) hii,ldA 9 hld2,bO .geq 9 (zc2 (a:=sb) (b:=sa) (q:=true) (by rw[hq];rfl))] (zj w) (fun _ h=>h) (zd.then (zd.qk zd.post)) I fun a5 w5 I=>?_;refine goZ [] I fun β6 a6 w6 I hb6=>?_;refine qc (qb (v:=.bool false) I ⟨?_,I.hJ⟩);have:risB l=false:=by
     cases hr:risB l with
     | false=>rfl
     | true=>
      have:=zc7.1 hr (i-1) _ _ h2 (by rw[show i-1+1=i by omega];exact h1);rw[hq]at this;cases this
    unfold ql;rw[this,Bool.and_false,Bool.false_and]
   | true=>
    refine dwT (T:=Below w.heap.size w) 13 [kgT i 0,ksZ i 1 (i-1:Nat),iA 26 underlying26 (sz:=2) (by kernel_rfl) (g:=ga) (off:=offa) (n:=l.length) (cap:=cap) (i:=i-1) hii,ldA 9 hld2,bO .geq 9 (zc2 (a:=sb) (b:=sa) (q:=false) (by rw[hq];rfl))] (zj w) (fun _ h=>h) (zd.then (zd.qk zd.post)) I fun a5 w5 I=>?_;cases hq2:fitE (sa,al)with
    | false=>
     rw[hq2]at hF;refine goT (T:=Below w.heap.size w) [cA func79 hF,uO .not (p:=.bool false) (v:=.bool true) (by intros;rfl)] (zj w) (fun _ h=>h) I fun β6 a6 w6 I hb6=>?_;exact qc (qb (v:=.bool false) I ⟨by rw[bad hq2],I.hJ⟩)
    | true=>
     rw[hq2]at hF;refine goT (T:=Below w.heap.size w) [cA func79 hF,uO .not (p:=.bool true) (v:=.bool false) (by intros;rfl),bO .add 3 (zw (x:=i) (y:=1) (z:=(i+1:Nat)) hadd)] (zj w) (fun _ h=>h) I fun β6 a6 w6 I hb6=>?_;refine fin hq2 (fun x y _ hx hy=>?_) I (by kernel_rfl) (by kernel_rfl);rw[h2]at hx;rw[h1]at hy;cases hx;cases hy;exact hq
 ·obtain rfl:i=l.length:=by omega
  refine goZ [bO .lss 3 (zf (x:=l.length) (y:=l.length) (b:=false) (by simp))] I fun β4 a4 w4 I hb4=>?_;refine xg 0 ?_;refine goZ [] (I.exit _) fun β5 a5 w5 I hb5=>?_;refine zh (v:=.bool true) I ⟨?_,I.hJ⟩;have e1:l.all fitE=true:=by
   rw[List.all_eq_true];intro y hy;obtain⟨j,hj⟩:=List.mem_iff_getElem?.1 hy;exact hok j y (List.getElem?_eq_some_iff.1 hj).1 hj
  have e2:risB l=true:=zc7.2 fun j x y hx hy=>hri j x y (List.getElem?_eq_some_iff.1 hy).1 hx hy
  unfold ql;rw[decide_eq_true (show l.length≤3 by omega),e1,e2];rfl
abbrev Va:Type:=Nat×Bool×ByteArray×List Ex
abbrev Fi:Type:=List ByteArray×Nat×ByteArray×Int
def vn (v:Va):Bool:=decide (v.1≤1099511627776)&&decide (v.2.2.1.size≤256)&&ql v.2.2.2
abbrev vaV (v:Va) (ev:Value):Value:=.agg #[B v.1,.bool v.2.1,.string v.2.2.1,ev]
abbrev qm (f:Fi) (pv:Value):Value:=.agg #[pv,B f.2.1,.string f.2.2.1,Z f.2.2.2]
def okX (l:List Ex):Prop:=l.length<1000000000∧∀ x∈l,x.2.length<1000000000
theorem zbv{x y:Nat}{b:Bool}(h:decide (x≤y)=b)(o1 o2:Operand)(w:World):(do eqGuard .leq 23 o1 o2 (B x) (B y);binOp .leq 23 (B x) (B y):Sem Value).run prog w=.ok (.bool b) w:=by
 rw[← h];by_cases q:x≤y<;>simp[go_sem,q]
theorem fitVar_any{w:World}{ev:Value}{v:Va}(h:ExI w ev v.2.2.2)(hx:okX v.2.2.2):Calls prog 23 #[vaV v ev] w fun e w'=>e=.returned (.bool (vn v))∧Below w.heap.size w w':=by
 obtain⟨tu,fi,da,xs⟩:=v;obtain⟨ad,cap,rfl⟩:=h.slice;refine inZ func23 fun a I=>?_;have hfit:vn (tu,fi,da,xs)=(decide (tu≤1099511627776)&&decide (da.size≤256)&&ql xs):=rfl;rw[hfit];by_cases q1:¬ tu≤1099511627776
 ·refine goZ [bO .leq 23 (zbv (x:=tu) (y:=1099511627776) (b:=false) (decide_eq_false q1))] I fun β a w1 I hb=>?_;exact zh (v:=.bool false) I ⟨by rw[decide_eq_false q1];rfl,I.hJ⟩
 have q1:=Classical.not_not.1 q1;by_cases q2:¬ da.size≤256
 ·refine goZ [bO .leq 23 (zbv (x:=tu) (y:=1099511627776) (b:=true) (decide_eq_true q1)),lO underlying9 (b:=da) (n:=da.size) rfl,kmF da.size 256] I fun β a w1 I hb=>?_;exact zh (v:=.bool false) I ⟨by rw[decide_eq_false q2,Bool.and_false];rfl,I.hJ⟩
 have q2:=Classical.not_not.1 q2;have hF:∀ w',Below w.heap.size w w'→Calls prog 53 #[.slice ad xs.length cap] w' fun e w''=>e=.returned (.bool (ql xs))∧Below w'.heap.size w' w'':=fun w' hb=>fitExits_any (h.below CE.loc hb) hx.2 hx.1
 refine goT (T:=Below w.heap.size w) [bO .leq 23 (zbv (x:=tu) (y:=1099511627776) (b:=true) (decide_eq_true q1)),lO underlying9 (b:=da) (n:=da.size) rfl,kmT da.size 256,cA func53 hF] (zj w) (fun _ h=>h) I fun β a w1 I hb=>?_;exact zh (v:=.bool (ql xs)) I ⟨by rw[decide_eq_true q1,decide_eq_true q2];rfl,I.hJ⟩
abbrev ixK:List Nat:=[0,1,4,6,7,8]
abbrev ixV (pv:Value) (s:ByteArray) (n i:Nat):Vs:=frm 19 [(0,Sum.inl pv),(1,Sum.inl (.string s)),(4,Sum.inl (Z 0)),(6,Sum.inl pv),(7,Sum.inl (Z n)),(8,Sum.inl (Z i))]
theorem index_any{w:World}{pv:Value}{l:List ByteArray}(h:StI w pv l)(s:ByteArray)(hl:l.length<1000000000):Calls prog 116 #[pv,.string s] w fun e w'=>Below w.heap.size w w'∧∃ v,e=.returned v∧((v=Z (-1)∧¬ s∈l)∨∃ i:Nat,v=Z i∧s∈l):=by
 obtain⟨ad,cap,rfl,hm⟩:=h;refine inZ func116 fun a I=>?_;refine goZ [lS underlying22 (ad:=ad) (n:=l.length) (cap:=cap) rfl] I fun β a w1 I hb=>?_
 let St:Nat→Act→World→Prop:=fun k a w'=>∃(i:Nat) (β:Nat→Nat) (u:Nat→Value),k=l.length-i∧i≤l.length∧(∀ j x,j<i→l[j]? = some x→¬ s=x) ∧
  SI (Below w.heap.size w) (· < w.heap.size) [] β (cfC (zc Tryz.f116) (zl (zg 19 ixK) u 0 (ixV (.slice ad l.length cap) s l.length i)) [] 0) a w'
 refine lpM (zc Tryz.f116) St l.length ?_ ?_
 ·obtain⟨u,Iu⟩:=I.scr (zc Tryz.f116) (zg 19 ixK) (ixV (.slice ad l.length cap) s l.length 0) [] 0;exact⟨0,β,u,by omega,Nat.zero_le _,fun j x h=>absurd h (Nat.not_lt_zero j),Iu⟩
 rintro k a3 w3 ⟨i,β3,u,rfl,hi,hok,I⟩;refine zv (tm:=zl (zg 19 ixK) u 0 (ixV (.slice ad l.length cap) s l.length i)) (rows:=[]) (nx:=0) ?_;rcases Nat.lt_or_ge i l.length with hil|hil
 ·obtain⟨x,h1⟩:∃ t,l[i]? = some t:=⟨_,List.getElem?_eq_getElem hil⟩
  obtain⟨ga,offa,cs,rfl,hlt,hca,rfl⟩:=hm i _ h1;have hld:∀ w',Below w.heap.size w w'→(loadVar 9 ⟨ga,offa+i*1,none⟩).run prog w'=.ok (.string x) w':=fun w' hb=>zbh (hca.keep (hb.block ga hlt))
  by_cases hx:s=x
  ·refine goT (T:=Below w.heap.size w) [klT i l.length,iA 22 underlying22 (sz:=1) (by kernel_rfl) (g:=ga) (off:=offa) (n:=l.length) (cap:=cap) hil,ldA 9 hld,bO .eql 9 (xp (a:=s) (b:=x) (q:=true) (decide_eq_true hx))] (zj w) (fun _ h=>h) I fun β4 a4 w4 I hb4=>?_;exact qc (qb (v:=Z i) I ⟨I.hJ,_,rfl,.inr ⟨i,rfl,by rw[hx];exact List.mem_of_getElem? h1⟩⟩)
  ·refine goT (T:=Below w.heap.size w) [klT i l.length,iA 22 underlying22 (sz:=1) (by kernel_rfl) (g:=ga) (off:=offa) (n:=l.length) (cap:=cap) hil,ldA 9 hld,bO .eql 9 (xp (a:=s) (b:=x) (q:=false) (decide_eq_false hx)),kaZ i 1 (i+1:Nat)] (zj w) (fun _ h=>h) I fun β4 a4 w4 I hb4=>?_;obtain⟨u',Iu⟩:=I.scr (zc Tryz.f116) (zg 19 ixK) (ixV (.slice (some ⟨ga,offa,none⟩) l.length cap) s l.length (i+1)) [] 0;refine xc ⟨l.length-(i+1),by omega,i+1,β4,u',rfl,hil,fun j y hj hy=>?_,Iu⟩;rcases Nat.lt_or_ge j i with hji | hji
   ·exact hok j y hji hy
   ·obtain rfl:j=i:=by omega
    rw[h1]at hy;cases hy;exact hx
 ·obtain rfl:i=l.length:=by omega
  refine goZ [bO .lss 3 (zf (x:=l.length) (y:=l.length) (b:=false) (by simp))] I fun β4 a4 w4 I hb4=>?_;refine xg 0 ?_;refine goZ [] (I.exit _) fun β5 a5 w5 I hb5=>?_;refine zh (v:=Z (-1)) I ⟨I.hJ,_,rfl,.inl ⟨rfl,fun hs=>?_⟩⟩;obtain⟨j,hj⟩:=List.mem_iff_getElem?.1 hs;exact hok j s (List.getElem?_eq_some_iff.1 hj).1 hj rfl
def hasS (s:ByteArray) (l:List ByteArray):Bool:=l.any fun x=>decide (s=x)
theorem hasS_true{s:ByteArray}{l:List ByteArray}(h:s∈l):hasS s l=true:=List.any_eq_true.2 ⟨s,h,decide_eq_true rfl⟩
theorem hasS_false{s:ByteArray}{l:List ByteArray}(h:¬ s∈l):hasS s l=false:=List.any_eq_false.2 fun x hx=>by
 rw[decide_eq_true_eq];intro e;exact h (e ▸ hx)
theorem contains_any{w:World}{pv:Value}{l:List ByteArray}(h:StI w pv l)(s:ByteArray)(hl:l.length<1000000000):Calls prog 78 #[pv,.string s] w fun e w'=>e=.returned (.bool (hasS s l))∧Below w.heap.size w w':=by
 obtain⟨ad,cap,rfl⟩:=h.slice;refine inZ func78 fun a I=>?_;refine goZ [] I fun β a w1 I hb=>?_;refine bcall [Sum.inl (.slice ad l.length cap),Sum.inl (.string s)] func116 (zj w) I _ (index_any (h.below CS.loc I.hJ) s hl) fun v w2 hv I=>?_;rcases hv with⟨rfl,hs⟩ | ⟨i,rfl,hs⟩
 ·refine goZ [bO .geq 3 (kf (x:= -1) (y:=0) (b:=false) (by decide))] I fun β a w1 I hb=>?_;exact zh (v:=.bool false) I ⟨by rw[hasS_false hs],I.hJ⟩
 ·refine goZ [bO .geq 3 (kf (x:=i) (y:=0) (b:=true) (by simp))] I fun β a w1 I hb=>?_;exact zh (v:=.bool true) I ⟨by rw[hasS_true hs],I.hJ⟩
def PaI (w:World) (v:Value) (l:List ByteArray):Prop:=StI w v l∧∃ ad cap,v=.slice ad l.length cap∧l.length≤cap
theorem PaI.below{w w':World}{v:Value}{l:List ByteArray}(h:PaI w v l)(hb:Below w.heap.size w w'):PaI w' v l:=⟨h.1.below CS.loc hb,h.2⟩
def uniS (l:List ByteArray):Bool:=(List.range l.length).all fun i=>match l[i]? with | some x=> !hasS x (l.take i) | none=>true
theorem uniS_true{l:List ByteArray}(h:∀(i:Nat) (x:ByteArray),l[i]? = some x→¬ x∈l.take i):uniS l=true:=by
 unfold uniS;rw[List.all_eq_true];intro i _;cases hx:l[i]? with
 | none=>rfl
 | some x=>simp only[];rw[hasS_false (h i x hx)];rfl
theorem uniS_false{l:List ByteArray}{i:Nat}{x:ByteArray}(h:l[i]? = some x)(hm:x∈l.take i):uniS l=false:=by
 unfold uniS;rw[List.all_eq_false];exact⟨i,List.mem_range.2 (List.getElem?_eq_some_iff.1 h).1,by rw[h];simp[hasS_true hm]⟩
def fitPs (l:List ByteArray):Bool:=decide (2≤l.length)&&decide (l.length≤4)&&l.all (fun s=>decide (s.size=20))&&uniS l
theorem sl_pre(g off n cap i:Nat)(h:i≤cap)(w:World):(Instr.sliceAt 22 (.slice (some ⟨g,off,none⟩) n cap) none (some (Z i)) none).run prog w=.ok (.slice (some ⟨g,off,none⟩) i cap) w:=by
 have h1:¬ cap<i:=by omega
 simp[go_sem,h1]
abbrev fpK:List Nat:=[0,2,13,14,15]
abbrev fpV (pv:Value) (n i:Nat):Vs:=frm 31 [(0,Sum.inl pv),(2,Sum.inl (.bool false)),(13,Sum.inl pv),(14,Sum.inl (Z n)),(15,Sum.inl (Z i))]
theorem fitParts_any{w:World}{pv:Value}{l:List ByteArray}(h:PaI w pv l):Calls prog 52 #[pv] w fun e w'=>e=.returned (.bool (fitPs l))∧Below w.heap.size w w':=by
 obtain⟨h,ad,cap,rfl,hcap⟩:=h;obtain⟨ad',cap',he,hm⟩:=h;simp only[Value.slice.injEq,true_and]at he;obtain⟨rfl,rfl⟩:=he;refine inZ func52 fun a I=>?_;have hfit:fitPs l=(decide (2≤l.length)&&decide (l.length≤4)&&l.all (fun s=>decide (s.size=20))&&uniS l):=rfl;rcases Nat.lt_or_ge l.length 2 with q1 | q1
 ·refine goZ [lS underlying22 (ad:=ad) (n:=l.length) (cap:=cap) rfl,klT l.length 2] I fun β a w1 I hb=>?_;exact zh (v:=.bool false) I ⟨by rw[hfit,decide_eq_false (show ¬ 2≤l.length by omega)];rfl,I.hJ⟩
 rcases Nat.lt_or_ge 4 l.length with q2|q2
 ·refine goZ [lS underlying22 (ad:=ad) (n:=l.length) (cap:=cap) rfl,klF l.length 2,lS underlying22 (ad:=ad) (n:=l.length) (cap:=cap) rfl,kgT l.length 4] I fun β a w1 I hb=>?_;exact zh (v:=.bool false) I ⟨by rw[hfit,decide_eq_false (show ¬ l.length≤4 by omega),Bool.and_false];rfl,I.hJ⟩
 rw[decide_eq_true q1,decide_eq_true q2]at hfit;refine goZ [lS underlying22 (ad:=ad) (n:=l.length) (cap:=cap) rfl,klF l.length 2,lS underlying22 (ad:=ad) (n:=l.length) (cap:=cap) rfl,kgF l.length 4,lS underlying22 (ad:=ad) (n:=l.length) (cap:=cap) rfl] I fun β a w1 I hb=>?_
 let St:Nat→Act→World→Prop:=fun k a w'=>∃(i:Nat) (β:Nat→Nat) (u:Nat→Value),k=l.length-i∧i≤l.length∧(∀ j x,j<i→l[j]? = some x→x.size=20∧¬ x∈l.take j) ∧
  SI (Below w.heap.size w) (· < w.heap.size) [] β (cfC (zc Tryz.f52) (zl (zg 31 fpK) u 0 (fpV (.slice ad l.length cap) l.length i)) [] 0) a w'
 refine lpM (zc Tryz.f52) St l.length ?_ ?_
 ·obtain⟨u,Iu⟩:=I.scr (zc Tryz.f52) (zg 31 fpK) (fpV (.slice ad l.length cap) l.length 0) [] 0;exact⟨0,β,u,by omega,Nat.zero_le _,fun j x h=>absurd h (Nat.not_lt_zero j),Iu⟩
 rintro k a3 w3 ⟨i,β3,u,rfl,hi,hok,I⟩;refine zv (tm:=zl (zg 31 fpK) u 0 (fpV (.slice ad l.length cap) l.length i)) (rows:=[]) (nx:=0) ?_;rcases Nat.lt_or_ge i l.length with hil|hil
 ·obtain⟨x,h1⟩:∃ t,l[i]? = some t:=⟨_,List.getElem?_eq_getElem hil⟩
  obtain⟨ga,offa,cs,rfl,hlt,hca,rfl⟩:=hm i _ h1;have hld:∀ w',Below w.heap.size w w'→(loadVar 9 ⟨ga,offa+i*1,none⟩).run prog w'=.ok (.string x) w':=fun w' hb=>zbh (hca.keep (hb.block ga hlt))
  by_cases hx:¬ x.size=20
  ·refine goT (T:=Below w.heap.size w) [klT i l.length,iA 22 underlying22 (sz:=1) (by kernel_rfl) (g:=ga) (off:=offa) (n:=l.length) (cap:=cap) hil,ldA 9 hld,lO underlying9 (b:=x) (n:=x.size) rfl,knT x.size 20] (zj w) (fun _ h=>h) I fun β4 a4 w4 I hb4=>?_;refine qc (qb (v:=.bool false) I ⟨?_,I.hJ⟩);have:l.all (fun s=>decide (s.size=20))=false:=by
    rw[List.all_eq_false];exact⟨x,List.mem_of_getElem? h1,by simp[hx]⟩
   rw[hfit,this];rfl
  have hx:=Classical.not_not.1 hx;have hpre:StI w (.slice (some ⟨ga,offa,none⟩) i cap) (l.take i):=by
   refine⟨_,cap,by rw[List.length_take,Nat.min_eq_left hi],fun j y hj=>?_⟩;rw[List.getElem?_take]at hj;split at hj
   ·exact hm j y hj
   ·cases hj
  have hcn:∀ w',Below w.heap.size w w'→Calls prog 78 #[.slice (some ⟨ga,offa,none⟩) i cap,.string x] w' fun e w''=>e=.returned (.bool (hasS x (l.take i)))∧Below w'.heap.size w' w'':=fun w' hb=>contains_any (hpre.below CS.loc hb) x (by rw[List.length_take];omega)
  by_cases hin:x∈l.take i
  ·rw[hasS_true hin]at hcn;refine goT (T:=Below w.heap.size w) [klT i l.length,iA 22 underlying22 (sz:=1) (by kernel_rfl) (g:=ga) (off:=offa) (n:=l.length) (cap:=cap) hil,ldA 9 hld,lO underlying9 (b:=x) (n:=x.size) rfl,knF x.size 20,sT 22 (p:=.slice (some ⟨ga,offa,none⟩) l.length cap) (l:=Z i) (v:=.slice (some ⟨ga,offa,none⟩) i cap) (sl_pre ga offa l.length cap i (by omega)),cA func78 hcn] (zj w) (fun _ h=>h) I fun β4 a4 w4 I hb4=>?_;refine qc (qb (v:=.bool false) I ⟨?_,I.hJ⟩);rw[hfit,uniS_false h1 hin,Bool.and_false]
  ·rw[hasS_false hin]at hcn;refine goT (T:=Below w.heap.size w) [klT i l.length,iA 22 underlying22 (sz:=1) (by kernel_rfl) (g:=ga) (off:=offa) (n:=l.length) (cap:=cap) hil,ldA 9 hld,lO underlying9 (b:=x) (n:=x.size) rfl,knF x.size 20,sT 22 (p:=.slice (some ⟨ga,offa,none⟩) l.length cap) (l:=Z i) (v:=.slice (some ⟨ga,offa,none⟩) i cap) (sl_pre ga offa l.length cap i (by omega)),cA func78 hcn,kaZ i 1 (i+1:Nat)] (zj w) (fun _ h=>h) I fun β4 a4 w4 I hb4=>?_;obtain⟨u',Iu⟩:=I.scr (zc Tryz.f52) (zg 31 fpK) (fpV (.slice (some ⟨ga,offa,none⟩) l.length cap) l.length (i+1)) [] 0
   refine xc ⟨l.length-(i+1),by omega,i+1,β4,u',rfl,hil,fun j y hj hy=>?_,Iu⟩;rcases Nat.lt_or_ge j i with hji | hji
   ·exact hok j y hji hy
   ·obtain rfl:j=i:=by omega
    rw[h1]at hy;cases hy;exact⟨hx,hin⟩
 ·obtain rfl:i=l.length:=by omega
  refine goZ [bO .lss 3 (zf (x:=l.length) (y:=l.length) (b:=false) (by simp))] I fun β4 a4 w4 I hb4=>?_;refine xg 0 ?_;refine goZ [] (I.exit _) fun β5 a5 w5 I hb5=>?_;refine zh (v:=.bool true) I ⟨?_,I.hJ⟩;have e1:l.all (fun s=>decide (s.size=20))=true:=by
   rw[List.all_eq_true];intro y hy;obtain⟨j,hj⟩:=List.mem_iff_getElem?.1 hy;exact decide_eq_true (hok j y (List.getElem?_eq_some_iff.1 hj).1 hj).1
  rw[hfit,e1,uniS_true fun j y hj=>(hok j y (List.getElem?_eq_some_iff.1 hj).1 hj).2];rfl
def kw (f:Fi):Bool:=fitPs f.1&&decide (f.2.2.1.size≤512)&&decide (1≤f.2.2.2)&&decide (f.2.2.2≤1048576)
theorem fitFixed_any{w:World}{pv:Value}{f:Fi}(h:PaI w pv f.1):Calls prog 22 #[qm f pv] w fun e w'=>e=.returned (.bool (kw f))∧Below w.heap.size w w':=by
 obtain⟨ps,no,ap,ti⟩:=f;obtain⟨ad,cap,rfl⟩:=h.1.slice;refine inZ func22 fun a I=>?_;have hfit:kw (ps,no,ap,ti)=(fitPs ps&&decide (ap.size≤512)&&decide (1≤ti)&&decide (ti≤1048576)):=rfl;rw[hfit];have hF:∀ w',Below w.heap.size w w'→Calls prog 52 #[.slice ad ps.length cap] w' fun e w''=>e=.returned (.bool (fitPs ps))∧Below w'.heap.size w' w'':=fun w' hb=>fitParts_any (h.below hb)
 cases q0:fitPs ps with
 | false=>
  rw[q0]at hF;refine goT (T:=Below w.heap.size w) [cA func52 hF] (zj w) (fun _ h=>h) I fun β a w1 I hb=>?_;exact xj (v:=.bool false) I
 | true=>
  rw[q0]at hF;by_cases q1:¬ ap.size≤512
  ·refine goT (T:=Below w.heap.size w) [cA func52 hF,lO underlying9 (b:=ap) (n:=ap.size) rfl,kmF ap.size 512] (zj w) (fun _ h=>h) I fun β a w1 I hb=>?_;exact zh (v:=.bool false) I ⟨by rw[decide_eq_false q1];rfl,I.hJ⟩
  have q1:=Classical.not_not.1 q1;by_cases q2:¬ 1≤ti
  ·refine goT (T:=Below w.heap.size w) [cA func52 hF,lO underlying9 (b:=ap) (n:=ap.size) rfl,kmT ap.size 512,bO .leq 3 (ve (x:=1) (y:=ti) (b:=false) (decide_eq_false q2))] (zj w) (fun _ h=>h) I fun β a w1 I hb=>?_;exact zh (v:=.bool false) I ⟨by rw[decide_eq_false q2,Bool.and_false];rfl,I.hJ⟩
  have q2:=Classical.not_not.1 q2;refine goT (T:=Below w.heap.size w) [cA func52 hF,lO underlying9 (b:=ap) (n:=ap.size) rfl,kmT ap.size 512,bO .leq 3 (ve (x:=1) (y:=ti) (b:=true) (decide_eq_true q2)),bO .leq 3 (ve (x:=ti) (y:=1048576) (b:=decide (ti≤1048576)) rfl)] (zj w) (fun _ h=>h) I fun β a w1 I hb=>?_;exact zh (v:=.bool (decide (ti≤1048576))) I ⟨by rw[decide_eq_true q1,decide_eq_true q2];rfl,I.hJ⟩
end Go.Proofs.YtdeompgdhaomgaaGreatDoor
