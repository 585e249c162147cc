/- Laid one behind the other: Wc, Wd, We, Wf. -/
import Derived.Test.YtdeompgdhaomgaaGreatDoorKtWb
import Derived.Test.YtdeompgdhaomgaaGreatDoorKtXt
import Derived.Test.YtdeompgdhaomgaaGreatDoorKtBy
namespace Go.Proofs.YtdeompgdhaomgaaGreatDoor
open Go.RowKit Go.Sort Tryz
set_option linter.unusedVariables false
set_option maxRecDepth 100000
set_option maxHeartbeats 4000000
def WF (N g:Nat) (v:Value) (k:Nat):Prop:=k<N∨k=g∨v.ownBlock=some k
structure Wr (W0:World) (g:Nat) (v:Value) (l:List UInt8) (w:World):Prop where
 bw:Below W0.heap.size W0 w
 hg:W0.heap.size≤g
 row:zb w g #[v]
 own:w.ownsRow (g+1) 5 1 v l.length (bc l)
structure WrP (W0:World) (g:Nat) (v:Value) (w:World) (v':Value) (l':List UInt8) (w':World):Prop where
 wr:Wr W0 g v' l' w'
 gr:zi (fun k=>¬ WF W0.heap.size g v k) w w'
 nb:∀ k,v'.ownBlock=some k→v.ownBlock=some k∨w.heap.size≤k
structure WS (W0 wE:World) (g:Nat) (v0 v:Value) (l:List UInt8) (w:World):Prop where
 bw:Below W0.heap.size W0 w
 hg:W0.heap.size≤g
 lt:g<wE.heap.size
 own:w.ownsRow (g+1) 5 1 v l.length (bc l)
 gr:zi (fun k=>¬ WF W0.heap.size g v0 k) wE w
 nb:∀ k,v.ownBlock=some k→v0.ownBlock=some k∨wE.heap.size≤k
def WSF (wE:World) (g:Nat) (v:Value) (k:Nat):Prop:=(k<wE.heap.size∧k≠g)∨v.ownBlock=some k
theorem owns_block{w:World}{g e:Nat}{v:Value}{n:Nat}{xs:List Value}(h:w.ownsRow (g+1) e 1 v n xs):v.ownBlock≠some g:=fun q=>by have:=(h.lt g q).1;omega
theorem x9{w w':World}{b e s:Nat}{v:Value}{n:Nat}{xs:List Value}{F:Nat→Prop}(h:w.ownsRow b e s v n xs)(hg:zi F w w')(hF:∀ k,v.ownBlock=some k→F k):w'.ownsRow b e s v n xs:=by
 obtain⟨h1,h2⟩:=h;refine⟨h1,?_⟩;rcases h2 with h2|⟨g,cap,cur,a1,a2,a3,a4⟩
 ·exact .inl h2
 ·refine .inr ⟨g,cap,cur,a1,a2,?_,a4⟩;have hlt:g<w.heap.size:=(Array.getElem?_eq_some_iff.1 a3).1;exact(hg.block g hlt (hF g (by rw[a1];rfl))).trans a3
theorem WS.rs(W0 wE:World)(g:Nat)(v0 v:Value)(l:List UInt8):yw (WS W0 wE g v0 v l) (WSF wE g v):=by
 refine⟨fun w w' h gr=>?_,fun w k h hk=>?_⟩
 ·refine⟨⟨gr.os.trans h.bw.os,gr.tape.trans h.bw.tape,gr.output.trans h.bw.output,Nat.le_trans h.bw.size gr.size,fun k hk=>(gr.block k (Nat.lt_of_lt_of_le hk h.bw.size) (.inl ⟨by have:=h.hg;have:=h.lt;omega,by have:=h.hg;omega⟩)).trans (h.bw.block k hk)⟩,h.hg,h.lt,x9 h.own gr fun k hk=>.inr hk,?_,h.nb⟩;refine⟨gr.os.trans h.gr.os,gr.tape.trans h.gr.tape,gr.output.trans h.gr.output,Nat.le_trans h.gr.size gr.size,fun k hk hn=>(gr.block k (Nat.lt_of_lt_of_le hk h.gr.size) (.inl ⟨hk,fun e=>hn (.inr (.inl e))⟩)).trans (h.gr.block k hk hn)⟩
 ·rcases hk with hk|hk
  ·exact Nat.lt_of_lt_of_le hk.1 h.gr.size
  ·exact(h.own.lt k hk).2
theorem WS.start{W0:World}{g:Nat}{v:Value}{l:List UInt8}{w:World}(h:Wr W0 g v l w):WS W0 w g v v l w:=⟨h.bw,h.hg,h.row.lt,h.own,zi.refl _ _,fun k hk=>.inl hk⟩
theorem WS.not{W0 wE:World}{g:Nat}{v0 v:Value}{l:List UInt8}{w:World}(h:WS W0 wE g v0 v l w):¬ WSF wE g v g:=by
 rintro(h1|h1)
 ·exact h1.2 rfl
 ·exact owns_block h.own h1
theorem WS.done{W0 wE:World}{g:Nat}{v0 v:Value}{l:List UInt8}{w:World}(h:WS W0 wE g v0 v l w)(hr:zb w g #[v]):WrP W0 g v0 wE v l w:=⟨⟨h.bw,h.hg,hr,h.own⟩,h.gr,h.nb⟩
theorem WS.grown{W0 wE:World}{g:Nat}{v0 v v':Value}{l l':List UInt8}{w w':World}(h:WS W0 wE g v0 v l w)(ho:w'.ownsRow (g+1) 5 1 v' l'.length (bc l'))(hg:Grw v v' w w'):WS W0 wE g v0 v' l' w':=by
 have hne:∀ k,k≤g→some k≠v.ownBlock:=fun k hk e=>by have:=(h.own.lt k e.symm).1;omega
 refine⟨⟨hg.gr.os.trans h.bw.os,hg.gr.tape.trans h.bw.tape,hg.gr.output.trans h.bw.output,Nat.le_trans h.bw.size hg.gr.size,fun k hk=>(hg.gr.block k (Nat.lt_of_lt_of_le hk h.bw.size) (hne k (by have:=h.hg;omega))).trans (h.bw.block k hk)⟩,h.hg,h.lt,ho,?_,?_⟩
 ·refine⟨hg.gr.os.trans h.gr.os,hg.gr.tape.trans h.gr.tape,hg.gr.output.trans h.gr.output,Nat.le_trans h.gr.size hg.gr.size,fun k hk hn=>(hg.gr.block k (Nat.lt_of_lt_of_le hk h.gr.size) fun e=>?_).trans (h.gr.block k hk hn)⟩;rcases h.nb k e.symm with h1 | h1
  ·exact hn (.inr (.inr h1))
  ·omega
 ·intro k hk;rcases hg.nb k hk with h1|h1
  ·exact h.nb k h1
  ·exact .inr (Nat.le_trans h.gr.size h1)
theorem SI.grown{W0 wE:World}{g:Nat}{v0 v v':Value}{l l':List UInt8}{w w':World}{ds:List Deferred}{β:Nat→Nat}{c:Cf}{a:Act}(I:SI (WS W0 wE g v0 v l) (WSF wE g v) ds β c a w)(ho:w'.ownsRow (g+1) 5 1 v' l'.length (bc l'))(hg:Grw v v' w w')(r:Value) :
  SI (WS W0 wE g v0 v' l') (WSF wE g v') ds β (xa c r) (a.put (yu c) r) w':=by
 refine I.moved ⟨hg.gr.os,hg.gr.tape,hg.gr.output,hg.gr.size,fun k hk hn=>hg.gr.block k hk fun e=>hn (.inr e.symm)⟩ (I.hJ.grown ho hg) (fun k hk h=>?_) r;rcases h with h | h
 ·exact .inl h
 ·rcases hg.nb k h with h1|h1
  ·exact .inr h1
  ·omega
theorem SI.called{W0 wE:World}{g:Nat}{v0 v v':Value}{l l':List UInt8}{w w':World}{ds:List Deferred}{β:Nat→Nat}{c:Cf}{a:Act}{u:Value}(I:SI (WS W0 wE g v0 v l) (WSF wE g v) ds β c a w)(hb:β 0=g)(hp:WrP W0 g v w v' l' w')(r:Value)(hid:y9 c.rows 0=some #[u]:=by kernel_rfl) :
  SI (WS W0 wE g v0 v' l') (WSF wE g v') ds β (rowQ (xa c r) 0 #[v']) (a.put (yu c) r) w':=by
 have hw0:=I.hJ.hg;have hlt:=I.hJ.lt;refine I.rowed hid ⟨hp.gr.os,hp.gr.tape,hp.gr.output,hp.gr.size,fun k hk hn=>hp.gr.block k hk ?_⟩ (by rw[hb];exact hp.wr.row) ?_ (fun k hk h=>?_) r
 ·rintro(h|h|h)
  ·exact hn.1 (.inl ⟨by omega,by omega⟩)
  ·exact hn.2 (by rw[hb];exact h)
  ·exact hn.1 (.inr h)
 ·refine⟨hp.wr.bw,hp.wr.hg,hlt,hp.wr.own,?_,?_⟩
  ·refine⟨hp.gr.os.trans I.hJ.gr.os,hp.gr.tape.trans I.hJ.gr.tape,hp.gr.output.trans I.hJ.gr.output,Nat.le_trans I.hJ.gr.size hp.gr.size,fun k hk hn=>(hp.gr.block k (Nat.lt_of_lt_of_le hk I.hJ.gr.size) ?_).trans (I.hJ.gr.block k hk hn)⟩;rintro(h | h | h)
   ·exact hn (.inl h)
   ·exact hn (.inr (.inl h))
   ·rcases I.hJ.nb k h with h1|h1
    ·exact hn (.inr (.inr h1))
    ·omega
  ·intro k hk;rcases hp.nb k hk with h1|h1
   ·exact I.hJ.nb k h1
   ·exact .inr (Nat.le_trans I.hJ.gr.size h1)
 ·rcases h with h|h
  ·exact .inl h
  ·rcases hp.nb k h with h1|h1
   ·exact .inr h1
   ·omega
theorem z4{w:World}{b e s:Nat}{v:Value}{n:Nat}{xs:List Value}(h:w.ownsRow b e s v n xs):∃ ad cap,v=.slice ad n cap:=by
 rcases h.2 with⟨rfl,rfl⟩|⟨g,cap,cur,rfl,_⟩
 ·exact⟨none,0,rfl⟩
 ·exact⟨_,_,rfl⟩
abbrev T0:Value:=.tuple #[]
theorem zeros_any{W0:World}{g:Nat}{v:Value}{l:List UInt8}{w:World}(h:Wr W0 g v l w)(n:Nat)(hn:l.length+n≤1000000000000) :
  Calls prog 82 #[ye g,Z n] w fun e w'=>e=.returned T0∧∃ v',WrP W0 g v w v' (l++List.replicate n 0) w':=by
 refine inG (J:=WS W0 w g v v l) (F:=WSF w g v) [Z n] func82 (WS.start h) h.row (WS.start h).not fun a I=>?_;refine goQ [] (WS.rs _ _ _ _ _ _) I fun β a w1 I hb=>?_;have hb0:β 0=g:=agr hb 0 rfl;obtain⟨v',w',hr,ho,hg⟩:=app_zeros I.hJ.own (by have:=I.hJ.lt;have:=I.hJ.gr.size;omega) n hn;obtain⟨ad,cap,rfl⟩:=z4 ho;refine appQ (ss:=[Sum.inl v,Sum.inl (Z n)]) I hr ?_;refine goQ [] (WS.rs _ _ _ _ _ _) (I.grown (l':=l++List.replicate n 0) (by simpa using ho) hg _) fun β2 a2 w2 I2 hb2=>?_;have hb20:β2 0=g:=agr hb2 0 hb0
 exact out0 I2 ⟨rfl,_,I2.hJ.done (I2.rowG 0 hb20 (r:=#[.slice ad (l.length+n) cap]))⟩
abbrev wb (n:Nat):List UInt8:=(vd n).data.toList
theorem zx(n:Nat):(wb n).length=32:=by
 have:(vd n).size=32:=vy n;rw[← this];exact Array.length_toList
theorem zap(n:Nat)(hn:n<1000000000000):RT 84 #[Z n] (U n):=by
 intro w;have hw:(convert 3 23 (Z n)).run prog w=.ok (B n) w:=by
  have:=IntKind.wrap_u64 (n:Int);simp[go_sem];omega
 refine inZ func84 fun a I=>?_;refine goZ [vO 3 23 (p:=Z n) (v:=B n) (by intro w;have:=IntKind.wrap_u64 (n:Int);simp[go_sem];omega),kC func121 (of_any n (by unfold M;omega))] I fun β a w' I _=>?_;exact zh I ⟨rfl,I.hJ⟩
theorem count_any{W0:World}{g:Nat}{v:Value}{l:List UInt8}{w:World}(h:Wr W0 g v l w)(n:Nat)(hn:n<1000000000000)(hl:l.length+32≤1000000000000) :
  Calls prog 86 #[ye g,Z n] w fun e w'=>e=.returned T0∧∃ v',WrP W0 g v w v' (l++wb n) w':=by
 refine inG (J:=WS W0 w g v v l) (F:=WSF w g v) [Z n] func86 (WS.start h) h.row (WS.start h).not fun a I=>?_;refine dwQ 8 [kC func84 (zap n hn),kC func120 (zdh n)] (WS.rs _ _ _ _ _ _) zd.post I fun a w1 I=>?_;have hz:(vd n).size=32:=vy n;obtain⟨v',w',hr,ho,hg⟩:=app_str I.hJ.own (by have:=I.hJ.lt;have:=I.hJ.gr.size;omega) (vd n) (by omega);rw[hz]at ho;obtain⟨ad,cap,rfl⟩:=z4 ho;refine appQ (ss:=[Sum.inl v,Sum.inl (.string (vd n))]) I hr ?_
 refine goQ [] (WS.rs _ _ _ _ _ _) (I.grown (l':=l++wb n) (by have:=zx n;simpa [strC,this]using ho) hg _) fun β2 a2 w2 I2 hb2=>?_;have hb20:β2 0=g:=agr hb2 0 rfl;exact out0 I2 ⟨rfl,_,I2.hJ.done (I2.rowG 0 hb20 (r:=#[.slice ad (l.length+32) cap]))⟩
theorem SI.wr{W0 wE:World}{g:Nat}{v0 v:Value}{l:List UInt8}{w:World}{ds:List Deferred}{β:Nat→Nat}{c:Cf}{a:Act}(I:SI (WS W0 wE g v0 v l) (WSF wE g v) ds β c a w)(hb:β 0=g)(hid:y9 c.rows 0=some #[v]:=by kernel_rfl):Wr W0 g v l w:=⟨I.hJ.bw,I.hJ.hg,I.rowG 0 hb (r:=#[v]) hid,I.hJ.own⟩
theorem wcall{W0 wE : World}{g : Nat}{v0 v : Value}{l l' : List UInt8}{w : World}{ds : List Deferred}{β : Nat → Nat}{c : Cf}{a : Act}{Q : Exit → Act → World → Prop}{f : Nat}{fn : Func}(args : List Value)(hf : prog.funcs[f]? = some fn)(I : SI (WS W0 wE g v0 v l) (WSF wE g v) ds β c a w)(hb : β 0 = g)(hcall : Calls prog f (ye g :: args).toArray w fun e w' => e = .returned T0 ∧ ∃ v', WrP W0 g v w v' l' w')(k : ∀ ad cap w', SI (WS W0 wE g v0 (.slice ad l'.length cap) l') (WSF wE g (.slice ad l'.length cap)) ds β (rowQ (xa c T0) 0 #[.slice ad l'.length cap]) (a.put (yu c) T0) w' → At prog Q (rowQ (xa c T0) 0 #[.slice ad l'.length cap]) (a.put (yu c) T0) w')(hc : callQ c = some (f, Sum.inr (0, 0) :: args.map Sum.inl) := by kernel_rfl)(hid : y9 c.rows 0 = some #[v] := by kernel_rfl)(hbd : fn.body.isNone = false := by kernel_rfl)(hn : (fn.name == "runtime.NumGoroutine") = false := by kernel_rfl) : At prog Q c a w := by
 refine yp hf I ?_ hc hbd hn;have e:((Sum.inr (0,0)::args.map Sum.inl).map (up β))=ye g::args:=by
  simp only[List.map_cons,List.map_map,up,List.cons.injEq,hb];exact⟨trivial,List.map_id _⟩
 rw[e];refine hcall.mono fun e w1 he=>?_;obtain⟨rfl,v1,hp1⟩:=he;obtain⟨ad,cap,rfl⟩:=z4 hp1.wr.own;exact(vp (id:=0) (r:=#[.slice ad l'.length cap])).1 (k ad cap w1 (I.called hb hp1 T0 hid))
theorem slice_run(k n cap o:Nat)(ho:o≤n)(hn:n≤cap)(hc:o<cap)(w:World):(Instr.sliceAt 104 (.slice (some ⟨k,0,none⟩) n cap) (some (Z o)) none none).run prog w=.ok (.slice (some ⟨k,o,none⟩) (n-o) (cap-o)) w:=by
 have h1:¬ cap=o:=by omega
 simp[go_sem,ho,h1]
theorem fill_any{W0:World}{g:Nat}{v:Value}{l:List UInt8}{w:World}(h:Wr W0 g v l w)(p u:Nat)(hp:p+32≤l.length) :
  Calls prog 83 #[ye g,Z p,U u] w fun e w'=>e=.returned T0∧∃ v',WrP W0 g v w v' (ovr l p (wb u)) w':=by
 obtain⟨k,cap,rfl,hcap⟩:∃ k cap,v=.slice (some ⟨k,0,none⟩) l.length cap∧l.length≤cap:=by
  rcases h.own.2 with⟨hv,hn⟩|⟨k,c,cur,hv,_,_,h4,_⟩
  ·omega
  ·exact⟨k,c,hv,h4⟩
 refine inG (J:=WS W0 w g _ _ l) (F:=WSF w g _) [Z p,U u] func83 (WS.start h) h.row (WS.start h).not fun a I=>?_;refine goQ [] (WS.rs _ _ _ _ _ _) I fun β a w0 I hb=>?_;have hb0:β 0=g:=agr hb 0 rfl;refine dwQ 8 [sO 104 (p:=.slice (some ⟨k,0,none⟩) l.length cap) (l:=Z p) (v:=.slice (some ⟨k,p,none⟩) (l.length-p) (cap-p)) (slice_run k l.length cap p (by omega) hcap (by omega)),kC func120 (zdh u)] (WS.rs _ _ _ _ _ _) zd.post I fun a w1 I=>?_;have hz:(vd u).size=32:=vy u;obtain⟨w',hr,ho,hg⟩:=copy_own I.hJ.own p (vd u) (by omega)
 refine cpyQ (ss:=[Sum.inl (.slice (some ⟨k,p,none⟩) (l.length-p) (cap-p)),Sum.inl (.string (vd u))]) I hr ?_;have hol:(ovr l p (wb u)).length=l.length:=by have:=zx u;simp only[ovr,List.length_append,List.length_take,List.length_drop,this];omega
 refine goQ [] (WS.rs _ _ _ _ _ _) (I.grown (l':=ovr l p (wb u)) (v':=.slice (some ⟨k,0,none⟩) l.length cap) (by rw[hol];simpa [ovr,List.map_take,List.map_drop]using ho) ⟨hg,fun k hk=>.inl hk⟩ _) fun β2 a2 w2 I2 hb2=>?_;have hb20:β2 0=g:=agr hb2 0 hb0;exact out0 I2 ⟨rfl,_,I2.hJ.done (I2.rowG 0 hb20 (r:=#[.slice (some ⟨k,0,none⟩) l.length cap]))⟩
theorem text_any{W0:World}{g:Nat}{v:Value}{l:List UInt8}{w:World}(h:Wr W0 g v l w)(s:ByteArray)(hl:l.length+s.size+100≤1000000000000) :
  Calls prog 85 #[ye g,.string s] w fun e w'=>e=.returned T0∧∃ v',WrP W0 g v w v' (l++wb s.size++s.data.toList++List.replicate ((32-s.size%32)%32) 0) w':=by
 have hsl:s.data.toList.length=s.size:=Array.length_toList;refine inG (J:=WS W0 w g v v l) (F:=WSF w g v) [.string s] func85 (WS.start h) h.row (WS.start h).not fun a I=>?_;refine goQ [lO underlying9 (b:=s) (n:=s.size) rfl] (WS.rs _ _ _ _ _ _) I fun β a w0 I hb=>?_;have hb0:β 0=g:=agr hb 0 rfl;refine wcall [Z s.size] func86 I hb0 (count_any (I.wr hb0) s.size (by omega) (by omega)) fun ad cap w1 I=>?_;refine goQ [] (WS.rs _ _ _ _ _ _) I fun β2 a2 w2 I hb2=>?_;have hb20:β2 0=g:=agr hb2 0 hb0
 obtain⟨v',w',hr,ho,hg⟩:=app_str I.hJ.own (by have:=I.hJ.lt;have:=I.hJ.gr.size;omega) s (by have:=zx s.size;simp only[List.length_append];omega);have e1:(l++wb s.size).length+s.size=(l++wb s.size++s.data.toList).length:=by simp only[List.length_append,hsl]
 rw[e1]at ho;obtain⟨ad2,cap2,rfl⟩:=z4 ho;refine appQ (ss:=[Sum.inl (.slice ad (l++wb s.size).length cap),Sum.inl (.string s)]) I hr ?_;refine goQ [lO underlying9 (b:=s) (n:=s.size) rfl,kC func122 (zcv s.size (by omega))] (WS.rs _ _ _ _ _ _) (I.grown (l':=l++wb s.size++s.data.toList) (by simpa [strC]using ho) hg _) fun β3 a3 w3 I hb3=>?_;have hb30:β3 0=g:=agr hb3 0 hb20;refine wcall [Z ((32-s.size%32)%32:Nat)] func82 I hb30 (zeros_any (I.wr hb30) _ (by have:=zx s.size;simp only[List.length_append,hsl];omega)) fun ad4 cap4 w4 I=>?_
 refine goQ [] (WS.rs _ _ _ _ _ _) I fun β5 a5 w5 I hb5=>?_;have hb50:β5 0=g:=agr hb5 0 hb30;exact out0 I ⟨rfl,_,I.hJ.done (I.rowG 0 hb50 (r:=#[.slice ad4 (l++wb s.size++s.data.toList++List.replicate ((32-s.size%32)%32) 0).length cap4]))⟩
def TL:Nat→Type
 | 0=>Unit
 | n+1=>List (Int×Nat×ByteArray×TL n)
abbrev TT (n:Nat):Type:=Int×Nat×ByteArray×TL n
def zaj (k:Int) (u:Nat) (s:ByteArray) (lv:Value):List Value:=[Z k,B (l0 u),B (l1 u),B (l2 u),B (l3 u),.string s,lv]
def zo (w:World) (g o:Nat) (cs:List Value):Prop:=∀(j:Nat) (c:Value),cs[j]? = some c→w.cell? ⟨g,o+j,none⟩=some c
def LAs {α:Type} (w:World) (L:Value→α→Prop) (v:Value) (l:List (Int×Nat×ByteArray×α)):Prop:=
 ∃ ad cap,v=.slice ad l.length cap∧∀(i:Nat) (t:Int×Nat×ByteArray×α),l[i]? = some t→∃ g off lv,ad=some ⟨g,off,none⟩∧zo w g (off+i*7) (zaj t.1 t.2.1 t.2.2.1 lv)∧L lv t.2.2.2
def LA (w:World):(n:Nat)→Value→TL n→Prop
 | 0,v,_=>∃ ad cap,v=.slice ad 0 cap
 | n+1,v,l=>LAs w (LA w n) v l
theorem zo.lt{w:World}{g o:Nat}{c:Value}{cs:List Value}(h:zo w g o (c::cs)):g<w.heap.size:=by
 have:=h 0 c rfl;unfold World.cell? at this;cases hg:w.heap[g]? with
 | none=>simp[hg]at this
 | some x=>exact(Array.getElem?_eq_some_iff.1 hg).1
theorem zo.keep{w w':World}{g o:Nat}{cs:List Value}(h:zo w g o cs)(hb:w'.heap[g]? = w.heap[g]?):zo w' g o cs:=fun j c hc=>by
 rw[← h j c hc];simp[World.cell?,hb]
theorem LA.below{w w':World}(hb:Below w.heap.size w w'):∀{n:Nat} {v:Value} {l:TL n},LA w n v l→LA w' n v l
 | 0,v,l,h=>h
 | n+1,v,l,h=>by
  obtain⟨ad,cap,hv,ht⟩:=h;refine⟨ad,cap,hv,fun i t hi=>?_⟩;obtain⟨g,off,lv,h1,h2,h3⟩:=ht i t hi;exact⟨g,off,lv,h1,h2.keep (hb.block g h2.lt),LA.below hb h3⟩
theorem qe{w:World}{g o:Nat}{k:Int}{u:Nat}{s:ByteArray}{lv:Value}(h:zo w g o (zaj k u s lv)):(loadVar 59 ⟨g,o,none⟩).run prog w=.ok (.agg #[Z k,B (l0 u),B (l1 u),B (l2 u),B (l3 u),.string s,lv]) w:=by
 have hl:(loadCells ⟨g,o,none⟩ 7).run prog w=.ok (zaj k u s lv).toArray w:=by
  have:=run_loadCells_list (P:=prog) w ⟨g,o,none⟩ (zaj k u s lv) (fun j c hc=>by
   rw[xz];exact h j c hc)
  exact this
 have hA:(isAgg 59).run prog w=.ok true w:=by
  unfold isAgg;simp only[Sem.run_bind,run_underlying underlying59,Result.andThen_ok];rfl
 have hS:(sizeOf 59).run prog w=.ok 7 w:=by
  have hi:(prog.info? 59).map (·.size)=some 7:=by kernel_rfl
  cases hq:prog.info? 59 with
  | none=>rw[hq]at hi;cases hi
  | some i=>rw[hq]at hi;simp only[Option.map_some,Option.some.injEq]at hi;simp[sizeOf,typeInfo,hq,hi]
 unfold loadVar;simp only[Sem.run_bind,hA,Result.andThen_ok,if_true,hS,hl,Sem.run_pure];rfl
theorem xk{w:World}{g o:Nat}{cs:List Value}(h:zo w g o cs)(j:Nat){c:Value}(hc:cs[j]? = some c)(t:TypeId){d:TypeDesc}(hu:prog.underlying t=some d)(hd:aggB d=false):(loadVar t ⟨g,o+j,none⟩).run prog w=.ok c w:=by
 have hA:(isAgg t).run prog w=.ok false w:=by
  unfold isAgg;simp only[Sem.run_bind,run_underlying hu,Result.andThen_ok];cases d<;>first|rfl|simp[aggB]at hd
 unfold loadVar;simp only[Sem.run_bind,hA,Result.andThen_ok,Bool.false_eq_true,if_false];rw[run_load,h j c hc]
def iA {T : World → Prop} (t : Nat) {e : TypeId} (hu : prog.underlying t = some (.slice e)) {sz : Nat} (hs : (prog.info? e).map (·.size) = some sz) {g off n cap i : Nat} (hi : i < n) : Fa prog T := Sum.inr (Sum.inr
  { ok := fun | .indexAddr t' _ _ => t' == t | _ => false
    xs := #[.slice (some ⟨g, off, none⟩) n cap, Z i]
    v := .pointer (some ⟨g, off + i * sz, none⟩)
    fr := true
    h := by
      intro a w oo _ hok hx
      cases hop : oo.op with
      | indexAddr t' x y =>
        rw [hop] at hok hx
        simp only [beq_iff_eq] at hok
        subst hok
        simp only [vm, List.map_cons, List.map_nil] at hx
        have hx1 : a.eval x = .slice (some ⟨g, off, none⟩) n cap ∧ a.eval y = Z i := by simpa using hx
        cases hq : prog.info? e with
        | none => rw [hq] at hs; cases hs
        | some inf =>
          rw [hq] at hs
          simp only [Option.map_some, Option.some.injEq] at hs
          subst hs
          unfold execOp
          simp only [hop, hx1.1, hx1.2, Instr.indexAt, Sem.run_bind, asIntOf, Sem.run_pure, Result.andThen_ok, run_underlying hu]
          simp [hi, sizeOf, typeInfo, hq, xz]
      | _ => rw [hop] at hok; simp at hok })
def ldA {T : World → Prop} (t : Nat) {ad : Addr} {v : Value} (h : ∀ w, T w → (loadVar t ad).run prog w = .ok v w) : Fa prog T := Sum.inr (Sum.inr
  { ok := fun | .load t' _ => t' == t | _ => false
    xs := #[.pointer (some ad)]
    v := v
    fr := false
    h := by
      intro a w oo hT hok hx
      cases hop : oo.op with
      | load t' x =>
        rw [hop] at hok hx
        simp only [beq_iff_eq] at hok
        subst hok
        simp only [vm, List.map_cons, List.map_nil] at hx
        have hx1 : a.eval x = .pointer (some ad) := by simpa using hx
        unfold execOp
        simp only [hop, hx1, Instr.loadAt, Instr.sureAddr, Sem.run_bind, Sem.run_pure, Result.andThen_ok, h w (by simpa using hT)]
      | _ => rw [hop] at hok; simp at hok })
def txt (s:ByteArray):List UInt8:=wb s.size++s.data.toList++List.replicate ((32-s.size%32)%32) 0
def xm {α:Type} (E:α→List UInt8) (cnt:α→Nat) (H:Nat) (acc:List UInt8×List UInt8) (t:Int×Nat×ByteArray×α):List UInt8×List UInt8:=
 if t.1=0 then(acc.1++wb t.2.1,acc.2)
 else if t.1=1 then(acc.1++wb (H+acc.2.length),acc.2++txt t.2.2.1)
 else if t.1=2 then(acc.1++wb (H+acc.2.length),acc.2++(wb (cnt t.2.2.2)++E t.2.2.2))
 else(acc.1++List.replicate 32 0,acc.2)
def yd {α:Type} (E:α→List UInt8) (cnt:α→Nat) (H:Nat) (l:List (Int×Nat×ByteArray×α)):List UInt8×List UInt8:=l.foldl (xm E cnt H) ([],[])
def cntL:(n:Nat)→TL n→Nat
 | 0,_=>0
 | n+1,l=>List.length (α:=TT n) l
def enc:(n:Nat)→TL n→List UInt8
 | 0,_=>[]
 | n+1,l=>let r:=yd (enc n) (cntL n) (32*List.length (α:=TT n) l) l;r.1++r.2
section
variable {α:Type} {E:α→List UInt8} {cnt:α→Nat} {H:Nat}
theorem stepE_len(acc:List UInt8×List UInt8)(t:Int×Nat×ByteArray×α):(xm E cnt H acc t).1.length=acc.1.length+32∧acc.2.length≤(xm E cnt H acc t).2.length:=by
 have hw:=zx;unfold xm;split
 ·simp[hw]
 ·split
  ·simp[hw]
  ·split
   ·simp[hw]
   ·simp
theorem zau(l:List (Int×Nat×ByteArray×α))(i:Nat){t:Int×Nat×ByteArray×α}(h:l[i]? = some t):yd E cnt H (l.take (i+1))=xm E cnt H (yd E cnt H (l.take i)) t:=by
 unfold yd;rw[List.take_add_one,h];simp[List.foldl_append]
theorem zbo:∀(l:List (Int×Nat×ByteArray×α)) (acc:List UInt8×List UInt8),(l.foldl (xm E cnt H) acc).1.length=acc.1.length+32*l.length∧acc.2.length≤(l.foldl (xm E cnt H) acc).2.length
 | [],acc=>⟨by simp,Nat.le_refl _⟩
 | t::l,acc=>by
  obtain⟨h1,h2⟩:=zbo l (xm E cnt H acc t);obtain⟨h3,h4⟩:=stepE_len (E:=E) (cnt:=cnt) (H:=H) acc t;simp only[List.foldl_cons,List.length_cons];omega
theorem foldE_le(l:List (Int×Nat×ByteArray×α))(i:Nat):(yd E cnt H (l.take i)).2.length≤(yd E cnt H l).2.length:=by
 have h:yd E cnt H l=(l.drop i).foldl (xm E cnt H) (yd E cnt H (l.take i)):=by
  unfold yd;rw[← List.foldl_append,List.take_append_drop]
 rw[h];exact(zbo _ _).2
end
theorem ovr_word(bs hd rest:List UInt8)(m u:Nat)(hm:32≤m):ovr (bs++(hd++List.replicate m 0)++rest) (bs.length+hd.length) (wb u)=bs++(hd++wb u++List.replicate (m-32) 0)++rest:=by
 have hw:=zx u;unfold ovr;have e:bs++(hd++List.replicate m 0)++rest=(bs++hd)++(List.replicate m (0:UInt8)++rest):=by simp
 rw[e,List.take_append_of_le_length (by simp),List.take_of_length_le (by simp),List.drop_append];simp only[List.length_append,hw];rw[List.drop_eq_nil_of_le (by simp),List.drop_append,List.drop_replicate];simp only[List.length_replicate,List.nil_append];rw[show bs.length+hd.length+32-(bs.length+hd.length)=32 by omega,show 32-m=0 by omega];simp
abbrev rowK:List Nat:=[0,1,4,19,20,21]
abbrev rowV (sv:Value) (st len i:Nat):Vs:=frm 74 [(0,Sum.inr (0,0)),(1,Sum.inl sv),(4,Sum.inl (Z st)),(19,Sum.inl sv),(20,Sum.inl (Z len)),(21,Sum.inl (Z i))]
def xd {α:Type} (E:α→List UInt8) (cnt:α→Nat) (bs:List UInt8) (l:List (Int×Nat×ByteArray×α)) (i:Nat):List UInt8:=
 bs++((yd E cnt (32*l.length) (l.take i)).1++List.replicate (32*(l.length-i)) 0)++(yd E cnt (32*l.length) (l.take i)).2
section
variable {α:Type} {E:α→List UInt8} {cnt:α→Nat} {bs:List UInt8} {l:List (Int×Nat×ByteArray×α)} {i:Nat}
theorem hd_len(hi:i≤l.length):(yd E cnt (32*l.length) (l.take i)).1.length=32*i:=by
 have h:=(zbo (E:=E) (cnt:=cnt) (H:=32*l.length) (l.take i) ([],[])).1;rw[List.length_take,Nat.min_eq_left hi]at h;simpa [yd]using h
theorem zck(hi:i≤l.length):(xd E cnt bs l i).length=bs.length+32*l.length+(yd E cnt (32*l.length) (l.take i)).2.length:=by
 unfold xd;simp only[List.length_append,List.length_replicate,hd_len hi];omega
theorem rawI_fill(hi:i<l.length)(u:Nat):ovr (xd E cnt bs l i) (bs.length+i*32) (wb u)=bs++((yd E cnt (32*l.length) (l.take i)).1++wb u++List.replicate (32*(l.length-(i+1))) 0)++(yd E cnt (32*l.length) (l.take i)).2:=by
 have h:=ovr_word bs (yd E cnt (32*l.length) (l.take i)).1 (yd E cnt (32*l.length) (l.take i)).2 (32*(l.length-i)) u (by omega);rw[hd_len (by omega)]at h;unfold xd;rw[show bs.length+i*32=bs.length+32*i by omega,h,show 32*(l.length-i)-32=32*(l.length-(i+1)) by omega]
theorem rawI_num{t:Int×Nat×ByteArray×α}(ht:l[i]? = some t)(hk:t.1=0):ovr (xd E cnt bs l i) (bs.length+i*32) (wb t.2.1)=xd E cnt bs l (i+1):=by
 have hi:i<l.length:=(List.getElem?_eq_some_iff.1 ht).1;rw[rawI_fill hi];unfold xd;rw[zau l i ht];unfold xm;simp[hk]
theorem rawI_txt{t:Int×Nat×ByteArray×α}(ht:l[i]? = some t)(hk:t.1=1):ovr (xd E cnt bs l i) (bs.length+i*32) (wb ((xd E cnt bs l i).length-bs.length))++wb t.2.2.1.size++t.2.2.1.data.toList++List.replicate ((32-t.2.2.1.size%32)%32) 0=xd E cnt bs l (i+1):=by
 have hi:i<l.length:=(List.getElem?_eq_some_iff.1 ht).1;rw[rawI_fill hi,zck (by omega),show bs.length+32*l.length+(yd E cnt (32*l.length) (l.take i)).2.length-bs.length=32*l.length+(yd E cnt (32*l.length) (l.take i)).2.length by omega];unfold xd;rw[zau l i ht];unfold xm;simp[hk,txt]
theorem rawI_lst{t:Int×Nat×ByteArray×α}(ht:l[i]? = some t)(hk:t.1=2):ovr (xd E cnt bs l i) (bs.length+i*32) (wb ((xd E cnt bs l i).length-bs.length))++wb (cnt t.2.2.2)++E t.2.2.2=xd E cnt bs l (i+1):=by
 have hi:i<l.length:=(List.getElem?_eq_some_iff.1 ht).1;rw[rawI_fill hi,zck (by omega),show bs.length+32*l.length+(yd E cnt (32*l.length) (l.take i)).2.length-bs.length=32*l.length+(yd E cnt (32*l.length) (l.take i)).2.length by omega];unfold xd;rw[zau l i ht];unfold xm;simp[hk]
theorem rawI_oth{t:Int×Nat×ByteArray×α}(ht:l[i]? = some t)(h0:t.1≠0)(h1:t.1≠1)(h2:t.1≠2):xd E cnt bs l i=xd E cnt bs l (i+1):=by
 have hi:i<l.length:=(List.getElem?_eq_some_iff.1 ht).1;unfold xd;rw[zau l i ht];unfold xm;simp only[h0,h1,h2,if_false];rw[show 32*(l.length-i)=32+32*(l.length-(i+1)) by omega,← List.replicate_append_replicate];simp
theorem rawI_le(hi:i≤l.length):(xd E cnt bs l i).length≤bs.length+((yd E cnt (32*l.length) l).1++(yd E cnt (32*l.length) l).2).length:=by
 rw[zck hi,List.length_append];have h1:=hd_len (E:=E) (cnt:=cnt) (l:=l) (i:=l.length) (Nat.le_refl _);rw[List.take_length]at h1;have h2:=foldE_le (E:=E) (cnt:=cnt) (H:=32*l.length) l i;omega
end
abbrev kt {T:World→Prop} (k c:Int) (b:Bool) (h:decide (k=c)=b):Fa prog T:=bO .eql 3 (z8 (x:=k) (y:=c) h)
theorem row_gen{α:Type}{E:α→List UInt8}{cnt:α→Nat}{W0:World}{L:Value→α→Prop}(hc:∀ lv x,L lv x→(∃ ad cap,lv=.slice ad (cnt x) cap)∧cnt x≤(E x).length)(hcall:∀(lv:Value) (x:α) (g:Nat) (v:Value) (bs:List UInt8) (w:World),L lv x→Wr W0 g v bs w→bs.length+(E x).length+1000≤1000000000000→Calls prog 55 #[ye g,lv] w fun e w'=>e=.returned T0∧∃ v',WrP W0 g v w v' (bs++E x) w')(l:List (Int×Nat×ByteArray×α))(sv:Value)(h:LAs W0 L sv l){g:Nat}{v:Value}{bs:List UInt8}{w:World}(hw:Wr W0 g v bs w)(hs:bs.length+((yd E cnt (32*l.length) l).1++(yd E cnt (32*l.length) l).2).length+1000≤1000000000000) :
  Calls prog 55 #[ye g,sv] w fun e w'=>e=.returned T0∧∃ v',WrP W0 g v w v' (bs++((yd E cnt (32*l.length) l).1++(yd E cnt (32*l.length) l).2)) w':=by
 have rle:=fun i (hi:i≤l.length)=>rawI_le (E:=E) (cnt:=cnt) (bs:=bs) hi
 have r0:=rle 0 (Nat.zero_le _);rw[zck (Nat.zero_le _)]at r0;obtain⟨ad0,cap0,rfl,hmem⟩:=h;obtain⟨adv,capv,rfl⟩:=z4 hw.own;refine inG (J:=WS W0 w g _ _ bs) (F:=WSF w g _) [.slice ad0 l.length cap0] func55 (WS.start hw) hw.row (WS.start hw).not fun a I=>?_;refine goQ [lS underlying104 (ad:=adv) (n:=bs.length) (cap:=capv) rfl,lS underlying48 (ad:=ad0) (n:=l.length) (cap:=cap0) rfl,bO .mul 3 (yo (x:=l.length) (y:=32) (z:=(32*l.length:Nat)) (by rw[wz (by omega) (by omega)];omega))] (WS.rs _ _ _ _ _ _) I fun β a w0 I hb=>?_;have hb0:β 0=g:=agr hb 0 rfl
 refine wcall [Z (32*l.length:Nat)] func82 I hb0 (zeros_any (I.wr hb0) _ (by omega)) fun ad1 cap1 w1 I=>?_;refine goQ [lS underlying48 (ad:=ad0) (n:=l.length) (cap:=cap0) rfl] (WS.rs _ _ _ _ _ _) I fun β1 a1 w2 I hb1=>?_;have hb10:β1 0=g:=agr hb1 0 hb0
 let St:Nat→Act→World→Prop:=fun k a w'=>∃ i β u ad cap,k=l.length-i∧i≤l.length∧β 0=g ∧
  SI (WS W0 w g (.slice adv bs.length capv) (.slice ad (xd E cnt bs l i).length cap) (xd E cnt bs l i)) (WSF w g (.slice ad (xd E cnt bs l i).length cap)) [] β
   (cfC (zc Tryz.f55) (zl (zg 74 rowK) u 0 (rowV (.slice ad0 l.length cap0) bs.length l.length i)) [(0,#[.slice ad (xd E cnt bs l i).length cap])] 1) a w'
 have e0:xd E cnt bs l 0=bs++List.replicate (32*l.length) 0:=by simp[xd,yd]
 refine lpN (zc Tryz.f55) [Sum.inr 0] St l.length ?_ ?_
 ·obtain⟨u,Iu⟩:=I.scr (zc Tryz.f55) (zg 74 rowK) (rowV (.slice ad0 l.length cap0) bs.length l.length 0) [(0,#[.slice ad1 (bs++List.replicate (32*l.length) 0).length cap1])] 1;exact⟨0,β1,u,ad1,cap1,by omega,Nat.zero_le _,hb10,by rw[e0];exact Iu⟩
 rintro k a3 w3 ⟨i,β3,u,ad,cap,rfl,hi,hb3,I⟩;refine zv (tm:=zl (zg 74 rowK) u 0 (rowV (.slice ad0 l.length cap0) bs.length l.length i)) (rows:=[(0,#[.slice ad (xd E cnt bs l i).length cap])]) (nx:=1) ?_;rcases Nat.lt_or_ge i l.length with hil|hil
 ·obtain⟨⟨kd,nu,tx,sub⟩,ht⟩:∃ t,l[i]? = some t:=⟨_,List.getElem?_eq_getElem hil⟩
  obtain⟨gm,off,lv,rfl,hcm,hlv⟩:=hmem i _ ht;simp only[]at hcm hlv;obtain⟨⟨adl,capl,rfl⟩,hcl⟩:=hc lv sub hlv;have rli:=rle i hi;have rls:=rle (i+1) hil;have hlen:=zck (E:=E) (cnt:=cnt) (bs:=bs) hi;have next:∀{c:Cf} {ad':Option Addr} {cap':Nat} {β':Nat→Nat} {a':Act} {w':World} {l':List UInt8},l'=xd E cnt bs l (i+1)→β' 0=g→SI (WS W0 w g (.slice adv bs.length capv) (.slice ad' l'.length cap') l') (WSF w g (.slice ad' l'.length cap')) [] β' c a' w' →
    vf (zg 74 rowK) 0 c.tm=vf (zg 74 rowK) 0 (rowV (.slice (some ⟨gm,off,none⟩) l.length cap0) bs.length l.length (i+1))→[(0,#[Value.slice ad' l'.length cap'])].map (fun p=>y9 c.rows p.1)=[(0,#[Value.slice ad' l'.length cap'])].map (fun p=>some p.2)→∃ j,j<l.length-i∧St j a' w':=by
   intro c ad' cap' β' a' w' l' hl' hb' I' h1 h2;subst hl';obtain⟨u',Iu⟩:=I'.scr (zc Tryz.f55) (zg 74 rowK) (rowV (.slice (some ⟨gm,off,none⟩) l.length cap0) bs.length l.length (i+1)) [(0,#[.slice ad' (xd E cnt bs l (i+1)).length cap'])] 1 h1 h2;exact⟨l.length-(i+1),by omega,i+1,β',u',ad',cap',rfl,hil,hb',Iu⟩
  have fplus:IntKind.i64.wrap ((i:Int)+1)=((i+1:Nat):Int):=by rw[wz (by omega) (by omega)];omega
  have hld:∀ w,Below W0.heap.size W0 w→(loadVar 59 ⟨gm,off+i*7,none⟩).run prog w=.ok (.agg #[Z kd,B (l0 nu),B (l1 nu),B (l2 nu),B (l3 nu),.string tx,.slice adl (cnt sub) capl]) w:=fun w hb=>qe (hcm.keep (hb.block gm hcm.lt))
  have hmul:IntKind.i64.wrap ((i:Int)*32)=((i*32:Nat):Int):=by rw[wz (by omega) (by omega)];omega
  have hadd:IntKind.i64.wrap ((bs.length:Int)+((i*32:Nat):Int))=((bs.length+i*32:Nat):Int):=by rw[wz (by omega) (by omega)];omega
  have hsub:IntKind.i64.wrap (((xd E cnt bs l i).length:Int)-(bs.length:Int))=(((xd E cnt bs l i).length-bs.length:Nat):Int):=by rw[wz (by omega) (by omega)];omega
  by_cases hk0:kd=0
  ·subst hk0;refine goT (T:=fun w=>Below W0.heap.size W0 w) [klT i l.length,iA 48 underlying48 (sz:=7) (by kernel_rfl) (g:=gm) (off:=off) (n:=l.length) (cap:=cap0) hil,ldA 59 hld,bO .mul 3 (yo (x:=i) (y:=32) hmul),bO .add 3 (zw (x:=bs.length) hadd),lS underlying104 (ad:=ad) (n:=(xd E cnt bs l i).length) (cap:=cap) rfl,bO .sub 3 (zbp hsub),kt 0 0 true rfl] (WS.rs _ _ _ _ _ _) (fun w h=>h.bw) I fun β4 a4 w4 I hb4=>?_;have hb40:β4 0=g:=agr hb4 0 hb3
   refine wcall [Z (bs.length+i*32:Nat),U nu] func83 I hb40 (fill_any (I.wr hb40) (bs.length+i*32) nu (by omega)) fun ad5 cap5 w5 I=>?_;refine goQ [bO .add 3 (zw (x:=i) (y:=1) fplus)] (WS.rs _ _ _ _ _ _) I fun β6 a6 w6 I hb6=>?_;have hb60:β6 0=g:=agr hb6 0 hb40;exact xc (next (rawI_num ht rfl) hb60 I (by kernel_rfl) (by kernel_rfl))
  by_cases hk1:kd=1
  ·subst hk1;have hsz:tx.size+32+(xd E cnt bs l i).length≤(xd E cnt bs l (i+1)).length:=by
    have:=congrArg List.length (rawI_txt (E:=E) (cnt:=cnt) (bs:=bs) ht rfl);have h2:=zx tx.size;have h3:=zx ((xd E cnt bs l i).length-bs.length);have e:tx.data.toList.length=tx.size:=Array.length_toList;simp only[List.length_append,ovr,List.length_take,List.length_drop,h2,h3,e]at this;omega
   refine goT (T:=fun w=>Below W0.heap.size W0 w) [klT i l.length,iA 48 underlying48 (sz:=7) (by kernel_rfl) (g:=gm) (off:=off) (n:=l.length) (cap:=cap0) hil,ldA 59 hld,bO .mul 3 (yo (x:=i) (y:=32) hmul),bO .add 3 (zw (x:=bs.length) hadd),lS underlying104 (ad:=ad) (n:=(xd E cnt bs l i).length) (cap:=cap) rfl,bO .sub 3 (zbp hsub),kt 1 0 false rfl,kt 1 1 true rfl,kC func84 (zap ((xd E cnt bs l i).length-bs.length) (by omega))] (WS.rs _ _ _ _ _ _) (fun w h=>h.bw) I fun β4 a4 w4 I hb4=>?_;have hb40:β4 0=g:=agr hb4 0 hb3
   refine wcall [Z (bs.length+i*32:Nat),U ((xd E cnt bs l i).length-bs.length)] func83 I hb40 (fill_any (I.wr hb40) (bs.length+i*32) _ (by omega)) fun ad5 cap5 w5 I=>?_;refine goQ [] (WS.rs _ _ _ _ _ _) I fun β6 a6 w6 I hb6=>?_;have hb60:β6 0=g:=agr hb6 0 hb40;have hol:(ovr (xd E cnt bs l i) (bs.length+i*32) (wb ((xd E cnt bs l i).length-bs.length))).length=(xd E cnt bs l i).length:=by
    have:=zx ((xd E cnt bs l i).length-bs.length);simp only[ovr,List.length_append,List.length_take,List.length_drop,this];omega
   refine wcall [.string tx] func85 I hb60 (text_any (I.wr hb60) tx (by omega)) fun ad7 cap7 w7 I=>?_;refine goQ [bO .add 3 (zw (x:=i) (y:=1) fplus)] (WS.rs _ _ _ _ _ _) I fun β8 a8 w8 I hb8=>?_;have hb80:β8 0=g:=agr hb8 0 hb60;exact xc (next (rawI_txt ht rfl) hb80 I (by kernel_rfl) (by kernel_rfl))
  by_cases hk2:kd=2
  ·subst hk2;have hsz:(E sub).length+32+(xd E cnt bs l i).length≤(xd E cnt bs l (i+1)).length:=by
    have:=congrArg List.length (rawI_lst (E:=E) (cnt:=cnt) (bs:=bs) ht rfl);have h2:=zx (cnt sub);have h3:=zx ((xd E cnt bs l i).length-bs.length);simp only[List.length_append,ovr,List.length_take,List.length_drop,h2,h3]at this;omega
   refine goT (T:=fun w=>Below W0.heap.size W0 w) [klT i l.length,iA 48 underlying48 (sz:=7) (by kernel_rfl) (g:=gm) (off:=off) (n:=l.length) (cap:=cap0) hil,ldA 59 hld,bO .mul 3 (yo (x:=i) (y:=32) hmul),bO .add 3 (zw (x:=bs.length) hadd),lS underlying104 (ad:=ad) (n:=(xd E cnt bs l i).length) (cap:=cap) rfl,bO .sub 3 (zbp hsub),kt 2 0 false rfl,kt 2 1 false rfl,kt 2 2 true rfl,kC func84 (zap ((xd E cnt bs l i).length-bs.length) (by omega))] (WS.rs _ _ _ _ _ _) (fun w h=>h.bw) I fun β4 a4 w4 I hb4=>?_;have hb40:β4 0=g:=agr hb4 0 hb3
   refine wcall [Z (bs.length+i*32:Nat),U ((xd E cnt bs l i).length-bs.length)] func83 I hb40 (fill_any (I.wr hb40) (bs.length+i*32) _ (by omega)) fun ad5 cap5 w5 I=>?_;have hol:(ovr (xd E cnt bs l i) (bs.length+i*32) (wb ((xd E cnt bs l i).length-bs.length))).length=(xd E cnt bs l i).length:=by
    have:=zx ((xd E cnt bs l i).length-bs.length);simp only[ovr,List.length_append,List.length_take,List.length_drop,this];omega
   refine goQ [lS underlying48 (ad:=adl) (n:=cnt sub) (cap:=capl) rfl] (WS.rs _ _ _ _ _ _) I fun β6 a6 w6 I hb6=>?_;have hb60:β6 0=g:=agr hb6 0 hb40;refine wcall [Z (cnt sub)] func86 I hb60 (count_any (I.wr hb60) (cnt sub) (by omega) (by omega)) fun ad7 cap7 w7 I=>?_;refine goQ [] (WS.rs _ _ _ _ _ _) I fun β8 a8 w8 I hb8=>?_;have hb80:β8 0=g:=agr hb8 0 hb60;refine wcall [.slice adl (cnt sub) capl] func55 I hb80 (hcall _ sub g _ _ _ hlv (I.wr hb80) (by have:=zx (cnt sub);simp only[List.length_append,this];omega)) fun ad9 cap9 w9 I=>?_
   refine goQ [bO .add 3 (zw (x:=i) (y:=1) fplus)] (WS.rs _ _ _ _ _ _) I fun βx ax wx I hbx=>?_;have hbx0:βx 0=g:=agr hbx 0 hb80;exact xc (next (rawI_lst ht rfl) hbx0 I (by kernel_rfl) (by kernel_rfl))
  ·refine goT (T:=fun w=>Below W0.heap.size W0 w) [klT i l.length,iA 48 underlying48 (sz:=7) (by kernel_rfl) (g:=gm) (off:=off) (n:=l.length) (cap:=cap0) hil,ldA 59 hld,bO .mul 3 (yo (x:=i) (y:=32) hmul),bO .add 3 (zw (x:=bs.length) hadd),lS underlying104 (ad:=ad) (n:=(xd E cnt bs l i).length) (cap:=cap) rfl,bO .sub 3 (zbp hsub),kt kd 0 false (by simp[hk0]),kt kd 1 false (by simp[hk1]),kt kd 2 false (by simp[hk2]),bO .add 3 (zw (x:=i) (y:=1) fplus)] (WS.rs _ _ _ _ _ _) (fun w h=>h.bw) I fun β4 a4 w4 I hb4=>?_;have hb40:β4 0=g:=agr hb4 0 hb3
   exact xc (next (rawI_oth ht hk0 hk1 hk2) hb40 I (by kernel_rfl) (by kernel_rfl))
 ·obtain rfl:i=l.length:=by omega
  refine goQ [bO .lss 3 (zf (x:=l.length) (y:=l.length) (b:=false) (by simp))] (WS.rs _ _ _ _ _ _) I fun β4 a4 w4 I hb4=>?_;have hb40:β4 0=g:=agr hb4 0 hb3;refine xg 0 ?_;refine goQ [] (WS.rs _ _ _ _ _ _) (I.cf rfl rfl rfl) fun β5 a5 w5 I hb5=>?_;have hb50:β5 0=g:=agr hb5 0 hb40;have e1:xd E cnt bs l l.length=bs++((yd E cnt (32*l.length) l).1++(yd E cnt (32*l.length) l).2):=by simp[xd]
  rw[← e1];exact out0 I ⟨rfl,_,I.hJ.done (I.rowG 0 hb50 (r:=#[.slice ad (xd E cnt bs l l.length).length cap]))⟩
theorem enc_cnt:∀(n:Nat) (l:TL n),32*cntL n l≤(enc n l).length
 | 0,l=>by simp[cntL]
 | n+1,l=>by
  have h1:=hd_len (E:=enc n) (cnt:=cntL n) (l:=l) (i:=List.length (α:=TT n) l) (Nat.le_refl _);have e:List.take (List.length (α:=TT n) l) l=l:=List.take_length;rw[e]at h1;simp only[enc,cntL,List.length_append];omega
theorem row_any:∀(n:Nat) (l:TL n) {W0:World} {g:Nat} {v sv:Value} {bs:List UInt8} {w:World},LA W0 n sv l→Wr W0 g v bs w→bs.length+(enc n l).length+1000≤1000000000000 →
  Calls prog 55 #[ye g,sv] w fun e w'=>e=.returned T0∧∃ v',WrP W0 g v w v' (bs++enc n l) w'
 | 0,l,W0,g,v,sv,bs,w,h,hw,hs=>by
  obtain⟨ad,cap,rfl⟩:=h;have:=row_gen (E:=fun _:Unit=>[]) (cnt:=fun _=>0) (W0:=W0) (L:=fun _ _=>False) (fun _ _ h=>h.elim) (fun _ _ _ _ _ _ h=>h.elim) [] (.slice ad 0 cap) ⟨ad,cap,rfl,fun i t h=>by simp at h⟩ hw (by simpa [yd,enc]using hs);simpa [yd,enc]using this
 | n+1,l,W0,g,v,sv,bs,w,h,hw,hs=>by
  refine row_gen (E:=enc n) (cnt:=cntL n) (L:=LA W0 n) (fun lv x hx=>⟨?_,by have:=enc_cnt n x;omega⟩) (fun lv x g v bs w hx hw hs=>row_any n x hx hw hs) l sv h hw hs;cases n with
  | zero=>exact hx
  | succ n=>
   obtain⟨ad,cap,hv,_⟩:=hx;exact⟨ad,cap,hv⟩
structure EJ (W0:World) (g:Nat) (v:Value) (l:List UInt8) (w:World):Prop where
 bw:Below W0.heap.size W0 w
 own:w.ownsRow (g+1) 5 1 v l.length (bc l)
def EF (W0:World) (v:Value) (k:Nat):Prop:=k<W0.heap.size∨v.ownBlock=some k
theorem EJ.rs(W0:World)(g:Nat)(v:Value)(l:List UInt8):yw (EJ W0 g v l) (EF W0 v):=by
 refine⟨fun w w' h gr=>⟨⟨gr.os.trans h.bw.os,gr.tape.trans h.bw.tape,gr.output.trans h.bw.output,Nat.le_trans h.bw.size gr.size,fun k hk=>(gr.block k (Nat.lt_of_lt_of_le hk h.bw.size) (.inl hk)).trans (h.bw.block k hk)⟩,x9 h.own gr fun k hk=>.inr hk⟩,fun w k h hk=>?_⟩;rcases hk with hk | hk
 ·exact Nat.lt_of_lt_of_le hk h.bw.size
 ·exact(h.own.lt k hk).2
abbrev str (l:List UInt8):Value:=.string ⟨l.toArray⟩
theorem encode_any(n:Nat)(l:TL n){w:World}{sv:Value}(h:LA w n sv l)(hs:(enc n l).length+1000≤1000000000000):Calls prog 26 #[sv] w fun e w'=>e=.returned (str (enc n l))∧Below w.heap.size w w':=by
 refine inZ func26 fun a I=>?_;refine goZ [] I fun β a w1 I hb=>?_;have hr:=I.rowAt 0 (r:=#[.slice none 0 0]);have hd:¬ (β 0<w.heap.size):=I.dis _ (zy (show y9 _ 0=some #[.slice none 0 0] by kernel_rfl));have W1:Wr w (β 0) (.slice none 0 0) [] w1:=⟨I.hJ,Nat.le_of_not_lt hd,hr,World.ownsRow_nil _ _ _ _⟩
 refine yp (ss:=[Sum.inr (0,0),Sum.inl sv]) func55 I ?_;refine(row_any n l h W1 (by simpa using hs)).mono fun e w2 he=>?_;obtain⟨rfl,v',hp⟩:=he;obtain⟨ad,cap,rfl⟩:=z4 hp.wr.own;rw[List.nil_append]at hp;refine(vp (id:=0) (r:=#[.slice ad (enc n l).length cap])).1 ?_;have I2:SI (EJ w (β 0) (.slice ad (enc n l).length cap) (enc n l)) (EF w (.slice ad (enc n l).length cap)) [] β _ _ w2:=I.rowed (id:=0) (r0:=#[.slice none 0 0]) (by kernel_rfl) ⟨hp.gr.os,hp.gr.tape,hp.gr.output,hp.gr.size,fun k hk hn=>hp.gr.block k hk (by
   rintro(h1|h1|h1)
   ·exact hn.1 h1
   ·exact hn.2 h1
   ·cases h1)⟩ hp.wr.row ⟨hp.wr.bw,hp.wr.own⟩ (fun k hk h1=>by
   rcases h1 with h1|h1
   ·exact h1
   ·rcases hp.nb k h1 with h2|h2
    ·cases h2
    ·omega) T0
 refine goQ [] (EJ.rs _ _ _ _) I2 fun β3 a3 w3 I3 hb3=>?_;refine cnvQ I3 (text_own I3.hJ.own) ?_;refine goQ [] (EJ.rs _ _ _ _) (I3.same _) fun β4 a4 w4 I4 hb4=>?_;exact zh I4 ⟨rfl,I4.hJ.bw⟩
section
variable {P:Program} {J:World→Prop} {F:Nat→Prop} {ds:List Deferred} {β:Nat→Nat} {c:Cf} {a:Act} {w:World} {Q:Exit→Act→World→Prop}
theorem bcall{f : Nat}{fn : Func}(ss : List SV)(hf : P.funcs[f]? = some fn)(R : yw J F)(I : SI J F ds β c a w)(post : Value → Prop)(hcall : Calls P f (ss.map (up β)).toArray w fun e w' => Below w.heap.size w w' ∧ ∃ v, e = .returned v ∧ post v)(k : ∀ v w', post v → SI J F ds β (xa c v) (a.put (yu c) v) w' → At P Q (xa c v) (a.put (yu c) v) w')(hc : callQ c = some (f, ss) := by kernel_rfl)(hb : fn.body.isNone = false := by kernel_rfl)(hn : (fn.name == "runtime.NumGoroutine") = false := by kernel_rfl) : At P Q c a w := by
 refine yp hf I (hcall.mono fun e w' he=>?_) hc hb hn;obtain⟨hbl,v,rfl,hv⟩:=he;exact k v w' hv (I.moved (zi.of_below hbl) (R.loc w w' I.hJ (zi.of_below hbl)) (fun _ _ h=>h) v)
end
def LR (w:World):Nat→Value→Prop
 | 0,v=>∃ ad len cap,v=.slice ad len cap
 | n+1,v=>∃ ad len cap,v=.slice ad len cap∧len≤maxLen∧∀ i,i<len→∃ g off k u s lv,ad=some ⟨g,off,none⟩∧zo w g (off+i*7) (zaj k u s lv)∧u<W∧s.size≤maxLen∧LR w n lv
def tot:(n:Nat)→TL n→Nat
 | 0,_=>0
 | n+1,l=>List.length (α:=TT n) l+(List.map (fun t:TT n=>tot n t.2.2.2) l).sum
def tok:(n:Nat)→TL n→Prop
 | 0,_=>True
 | n+1,l=>∀ t:TT n,List.Mem t l→t.2.2.1.size≤20000∧t.2.1<W∧tok n t.2.2.2
theorem LR.slice{w:World}:∀{n:Nat} {v:Value},LR w n v→∃ ad len cap,v=.slice ad len cap
 | 0,v,h=>h
 | n+1,v,h=>by obtain⟨ad,len,cap,hv,_⟩:=h;exact⟨ad,len,cap,hv⟩
end Go.Proofs.YtdeompgdhaomgaaGreatDoor
