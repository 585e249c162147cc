/- Laid one behind the other: Vi, Vj, Vk, Vl, Vm, Vn. -/
import Derived.Test.YtdeompgdhaomgaaGreatDoorKtVg
import Derived.Shelf.Bits.Mul64
namespace Go.Proofs.YtdeompgdhaomgaaGreatDoor
open Go.RowKit Go.Sort Go.Proofs.Tryz
set_option linter.unusedVariables false
set_option maxRecDepth 100000
set_option maxHeartbeats 4000000
def xw (p:List UInt8→Nat):Nat→List UInt8→Option (List (List UInt8)×List UInt8)
 | 0,f=>if f=[]∨f.head? = some 41∨f.head? = some 93 then some ([],f)else none
 | F+1,f=>if f=[]∨f.head? = some 41∨f.head? = some 93 then some ([],f)else if p f=0 then none else(xw p F (f.drop (p f))).map fun x=>(f.take (p f)::x.1,x.2)
theorem prt_clo{n:Nat}{c:UInt8}(hc:c=41∨c=93)(r:List UInt8):prt n (c::r)=0:=by
 rcases hc with rfl|rfl<;>cases n<;>rfl
theorem scan_P{n:Nat}{e:Option UInt8}(he:e=none∨e=some 41∨e=some 93):∀(F:Nat) (f:List UInt8),f.length≤F→ky (prt n) e F f=(xw (prt n) F f).bind fun x=>if x.2=[]∨x.2.head? = e then some x else none
 | 0,f,hf=>by
  have:f=[]:=List.length_eq_zero_iff.1 (by omega);subst this;simp[ky,xw]
 | F+1,f,hf=>by
  unfold ky xw;by_cases h1:f=[]∨f.head? = some 41∨f.head? = some 93
  ·rw[if_pos h1];by_cases h2:f=[]∨f.head? = e
   ·rw[if_pos h2];simp[h2]
   ·rw[if_neg h2];have hp:prt n f=0:=by
     cases f with
     | nil=>exact absurd (.inl rfl) h2
     | cons c r=>
      refine prt_clo ?_ r;rcases h1 with h1|h1|h1
      ·cases h1
      ·exact .inl (by simpa using h1)
      ·exact .inr (by simpa using h1)
    rw[if_pos hp];simp[h2]
  ·rw[if_neg h1];have h2:¬ (f=[]∨f.head? = e):=by
    intro h;rcases h with h|h
    ·exact h1 (.inl h)
    ·rcases he with rfl|rfl|rfl
     ·cases f with
      | nil=>exact h1 (.inl rfl)
      | cons c r=>cases h
     ·exact h1 (.inr (.inl h))
     ·exact h1 (.inr (.inr h))
   rw[if_neg h2];by_cases hp:prt n f=0
   ·rw[if_pos hp,if_pos hp];rfl
   ·rw[if_neg hp,if_neg hp,scan_P he F (f.drop (prt n f)) (by rw[List.length_drop];omega)];cases xw (prt n) F (f.drop (prt n f))with
    | none=>rfl
    | some x=>
     simp only[Option.map_some,Option.bind_some];split<;>rfl
theorem brk_P(n:Nat)(b:UInt8)(g:List UInt8):brk (prt n) b g=match xw (prt n) g.length g with
  | none=>0
  | some (ps,rest)=>if rest.head? = some (clo b)∧¬ (b=91∧ps.length≠1)then ps.flatten.length+2 else 0:=by
 unfold brk;rw[scan_P (by unfold clo;split<;>simp) _ _ (Nat.le_refl _)];cases xw (prt n) g.length g with
 | none=>rfl
 | some x=>
  obtain⟨ps,rest⟩:=x;simp only[Option.bind_some];cases rest with
  | nil=>simp
  | cons c r=>
   by_cases hc:c=clo b
   ·subst hc;simp only[List.head?_cons,or_true,if_true];by_cases h:b=91∧ps.length≠1
    ·simp[h]
    ·simp[h]
   ·simp[hc]
theorem zby{n:Nat}:∀(F:Nat) (f:List UInt8) {ps:List (List UInt8)} {rest:List UInt8},xw (prt n) F f=some (ps,rest)→f=ps.flatten++rest∧(∀ q∈ps,Pt n q)∧(rest=[]∨rest.head? = some 41∨rest.head? = some 93)
 | 0,f,ps,rest,h=>by
  unfold xw at h;split at h
  ·next hs=>cases h;exact⟨rfl,fun q hq=>(by cases hq),hs⟩
  ·cases h
 | F+1,f,ps,rest,h=>by
  unfold xw at h;split at h
  ·next hs=>cases h;exact⟨rfl,fun q hq=>(by cases hq),hs⟩
  ·split at h
   ·cases h
   ·next hk=>
    cases hq:xw (prt n) F (f.drop (prt n f))with
    | none=>rw[hq]at h;cases h
    | some x=>
     rw[hq]at h;obtain⟨ps',rest'⟩:=x;simp only[Option.map_some,Option.some.injEq,Prod.mk.injEq]at h;obtain⟨rfl,rfl⟩:=h;obtain⟨h1,h2,h3⟩:=zby F _ hq;obtain⟨hl,hpt⟩:=zbf n f;refine⟨by rw[List.flatten_cons,List.append_assoc,← h1,List.take_append_drop],fun q hq'=>?_,h3⟩;rcases List.mem_cons.1 hq' with rfl | hq'
     ·exact hpt hk
     ·exact h2 q hq'
def SL:Nat→Type
 | 0=>Unit
 | n+1=>List (Int×Bool×SL n)
abbrev ST (n:Nat):Type:=Int×Bool×SL n
abbrev inr_ (q:List UInt8):List (List UInt8):=(xe (q.drop 1).dropLast).getD []
def shT:(n:Nat)→List UInt8→ST n
 | 0,q=>if q.head? = some 110 then(0,false,())else if q.head? = some 116 then(1,false,())else(2,decide (q.head? = some 91),())
 | n+1,q=>if q.head? = some 110 then(0,false,([]:List (ST n)))else if q.head? = some 116 then(1,false,([]:List (ST n)))else(2,decide (q.head? = some 91),((inr_ q).map (shT n):List (ST n)))
abbrev sx (x:Int×Bool×Value):List Value:=[Z x.1,.bool x.2.1,x.2.2]
def SAs {α:Type} (K:Nat→Prop) (w:World) (L:Value→α→Prop) (v:Value) (l:List (Int×Bool×α)):Prop:=
 ∃ ad cap,v=.slice ad l.length cap∧∀(i:Nat) (t:Int×Bool×α),l[i]? = some t→∃ g off iv,ad=some ⟨g,off,none⟩∧K g∧zo w g (off+i*3) (sx (t.1,t.2.1,iv))∧L iv t.2.2
def SLA (K:Nat→Prop) (w:World):(n:Nat)→Value→SL n→Prop
 | 0,v,_=>∃ ad cap,v=.slice ad 0 cap
 | n+1,v,l=>SAs K w (SLA K w n) v l
theorem SLA.keep{K:Nat→Prop}{w w':World}(h:∀ k,K k→w'.heap[k]? = w.heap[k]?):∀{n:Nat} {v:Value} {l:SL n},SLA K w n v l→SLA K w' n v l
 | 0,v,l,H=>H
 | n+1,v,l,H=>by
  obtain⟨ad,cap,hv,hm⟩:=H;refine⟨ad,cap,hv,fun i t hi=>?_⟩;obtain⟨g,off,iv,h1,h2,h3,h4⟩:=hm i t hi;exact⟨g,off,iv,h1,h2,h3.keep (h g h2),SLA.keep h h4⟩
theorem SLA.mono{K K':Nat→Prop}{w:World}(h:∀ k,K k→K' k):∀{n:Nat} {v:Value} {l:SL n},SLA K w n v l→SLA K' w n v l
 | 0,v,l,H=>H
 | n+1,v,l,H=>by
  obtain⟨ad,cap,hv,hm⟩:=H;refine⟨ad,cap,hv,fun i t hi=>?_⟩;obtain⟨g,off,iv,h1,h2,h3,h4⟩:=hm i t hi;exact⟨g,off,iv,h1,h g h2,h3,SLA.mono h h4⟩
theorem SLA.slice{K:Nat→Prop}{w:World}:∀{n:Nat} {v:Value} {l:SL n},SLA K w n v l→∃ ad m cap,v=.slice ad m cap
 | 0,v,l,h=>by obtain⟨ad,cap,hv⟩:=h;exact⟨ad,0,cap,hv⟩
 | n+1,v,l,h=>by obtain⟨ad,cap,hv,_⟩:=h;exact⟨ad,_,cap,hv⟩
theorem SLA.nil{K:Nat→Prop}{w:World}(n:Nat):SLA K w (n+1) (.slice none 0 0) ([]:List (ST n)):=⟨none,0,rfl,fun i t h=>by simp at h⟩
def InL (K:Nat→Prop) (w:World) (n:Nat) (X:List (Int×Bool×Value)) (l:List (ST n)):Prop:=X.length=l.length∧∀(i:Nat) (x:Int×Bool×Value) (t:ST n),X[i]? = some x→l[i]? = some t→x.1=t.1∧x.2.1=t.2.1∧SLA K w n x.2.2 t.2.2
theorem InL.keep{K:Nat→Prop}{w w':World}(h:∀ k,K k→w'.heap[k]? = w.heap[k]?){n:Nat}{X:List (Int×Bool×Value)}{l:List (ST n)}(H:InL K w n X l):InL K w' n X l:=
 ⟨H.1,fun i x t hx ht=>⟨(H.2 i x t hx ht).1,(H.2 i x t hx ht).2.1,(H.2 i x t hx ht).2.2.keep h⟩⟩
theorem InL.mono{K K':Nat→Prop}{w:World}(h:∀ k,K k→K' k){n:Nat}{X:List (Int×Bool×Value)}{l:List (ST n)}(H:InL K w n X l):InL K' w n X l:=
 ⟨H.1,fun i x t hx ht=>⟨(H.2 i x t hx ht).1,(H.2 i x t hx ht).2.1,(H.2 i x t hx ht).2.2.mono h⟩⟩
theorem InL.snoc{K:Nat→Prop}{w:World}{n:Nat}{X:List (Int×Bool×Value)}{l:List (ST n)}(H:InL K w n X l){iv:Value}{t:ST n}(h:SLA K w n iv t.2.2):InL K w n (X++[(t.1,t.2.1,iv)]) (l++[t]):=by
 refine⟨by simp[H.1],fun i x u hx hu=>?_⟩;rcases Nat.lt_or_ge i X.length with h1 | h1
 ·rw[List.getElem?_append_left h1]at hx;rw[List.getElem?_append_left (by rw[← H.1];exact h1)]at hu;exact H.2 i x u hx hu
 ·rw[List.getElem?_append_right h1]at hx;rw[List.getElem?_append_right (by rw[← H.1];exact h1)]at hu;have hi0:i-X.length=0:=by
   rcases Nat.eq_zero_or_pos (i-X.length)with h2|h2
   ·exact h2
   ·rw[List.getElem?_eq_none (by simp;omega)]at hx;cases hx
  rw[hi0]at hx;rw[← H.1,hi0]at hu;simp only[List.getElem?_cons_zero,Option.some.injEq]at hx hu;subst hx hu;exact⟨rfl,rfl,h⟩
theorem flat_at3{q:Int×Bool×Value}{j:Nat}{c:Value}(hc:(sx q)[j]? = some c):∀{l:List (Int×Bool×Value)} {i:Nat},l[i]? = some q→(l.flatMap sx)[i*3+j]? = some c:=by
 intro l
 induction l with
 | nil=>intro i h;simp at h
 | cons x l ih=>
  intro i h;cases i with
  | zero=>
   simp only[List.getElem?_cons_zero,Option.some.injEq]at h;subst h;rw[List.flatMap_cons,Nat.zero_mul,Nat.zero_add,List.getElem?_append_left (by have:=(List.getElem?_eq_some_iff.1 hc).1;simpa using this)];exact hc
  | succ i=>
   rw[List.flatMap_cons,List.getElem?_append_right (by simp;omega)];have e:(i+1)*3+j-(sx x).length=i*3+j:=by simp;omega
   rw[e];exact ih (by simpa using h)
theorem SLA_own{K:Nat→Prop}{w:World}{b n:Nat}{v:Value}{X:List (Int×Bool×Value)}{l:List (ST n)}(h:w.ownsRow b 121 3 v X.length (X.flatMap sx))(hK:∀ k,v.ownBlock=some k→K k)(H:InL K w n X l):SLA K w (n+1) v l:=by
 obtain⟨ad,cap,rfl⟩:=z4 h;refine⟨ad,cap,by rw[H.1],fun i t ht=>?_⟩;have hi:i<l.length:=(List.getElem?_eq_some_iff.1 ht).1;obtain⟨x,hx⟩:∃ x,X[i]? = some x:=⟨_,List.getElem?_eq_getElem (by rw[H.1];exact hi)⟩
 obtain⟨e1,e2,e3⟩:=H.2 i x t hx ht;rcases h.2 with⟨hv,hn⟩|⟨g,cap',cur,hv,hb,hg,hnc,hcm,hcs,hct⟩
 ·rw[H.1]at hn;omega
 ·cases hv;refine⟨g,0,x.2.2,rfl,hK g rfl,fun j c hc=>?_,e3⟩;rw[← e1,← e2]at hc;have:=h.cells (g:=g) rfl _ _ (flat_at3 hc hx);rw[xz,← Nat.add_assoc]at this;exact this
structure GJ (wE:World) (g:Nat) (r:Array Value) (n:Nat) (v:Value) (X:List (Int×Bool×Value)) (l:List (ST n)) (K:Nat→Prop) (w:World):Prop where
 ro:RO wE g 121 3 v X.length (X.flatMap sx) w
 row:zb w g r
 kb:∀ k,K k→wE.heap.size≤k∧k<w.heap.size∧v.ownBlock≠some k
 inn:InL K w n X l
def GF (wE:World) (v:Value) (K:Nat→Prop) (k:Nat):Prop:=k<wE.heap.size∨v.ownBlock=some k∨K k
theorem GJ.rs(wE:World)(g:Nat)(hlt:g<wE.heap.size)(r:Array Value)(n:Nat)(v:Value)(X:List (Int×Bool×Value))(l:List (ST n))(K:Nat→Prop):yw (GJ wE g r n v X l K) (GF wE v K):=by
 refine⟨fun w w' h gr=>⟨(RO.rs wE g 121 3 v X.length (X.flatMap sx)).loc w w' h.ro ⟨gr.os,gr.tape,gr.output,gr.size,fun k hk hF=>gr.block k hk (hF.elim (fun h=>.inl h.1) fun h=>.inr (.inl h))⟩,?_,fun k hk=>⟨(h.kb k hk).1,Nat.lt_of_lt_of_le (h.kb k hk).2.1 gr.size,(h.kb k hk).2.2⟩,h.inn.keep fun k hk=>gr.block k (h.kb k hk).2.1 (.inr (.inr hk))⟩,fun w k h hk=>?_⟩
 ·obtain⟨t,ht⟩:=h.row;exact⟨t,(gr.block g h.row.lt (.inl hlt)).trans ht⟩
 ·rcases hk with hk|hk|hk
  ·exact Nat.lt_of_lt_of_le hk h.ro.gr.size
  ·exact(h.ro.own.lt k hk).2
  ·exact(h.kb k hk).2.1
structure RKJ (wE:World) (g:Nat) (K:Nat→Prop) (n:Nat) (v:Value) (l:SL n) (w:World):Prop where
 gr:zi (fun k=>k≠g) wE w
 kb:∀ k,K k→wE.heap.size≤k∧k<w.heap.size
 sl:SLA K w n v l
def RKF (wE:World) (g:Nat) (K:Nat→Prop) (k:Nat):Prop:=(k<wE.heap.size∧k≠g)∨K k
theorem RKJ.rs(wE:World)(g:Nat)(K:Nat→Prop)(n:Nat)(v:Value)(l:SL n):yw (RKJ wE g K n v l) (RKF wE g K):=by
 refine⟨fun w w' h gr=>⟨⟨gr.os.trans h.gr.os,gr.tape.trans h.gr.tape,gr.output.trans h.gr.output,Nat.le_trans h.gr.size gr.size,fun k hk hn=>(gr.block k (Nat.lt_of_lt_of_le hk h.gr.size) (.inl ⟨hk,hn⟩)).trans (h.gr.block k hk hn)⟩,fun k hk=>⟨(h.kb k hk).1,Nat.lt_of_lt_of_le (h.kb k hk).2 gr.size⟩,h.sl.keep fun k hk=>gr.block k (h.kb k hk).2 (.inr hk)⟩,fun w k h hk=>?_⟩;rcases hk with hk | hk
 ·exact Nat.lt_of_lt_of_le hk.1 h.gr.size
 ·exact(h.kb k hk).2
abbrev noK:Nat→Prop:=fun _=>False
theorem RKJ.start(w:World)(g:Nat):RKJ w g noK 0 (.slice none 0 0) () w:=⟨zi.refl _ _,fun _ h=>h.elim,none,0,rfl⟩
theorem RKJ.not{w:World}{g:Nat}:¬ RKF w g noK g:=by
 intro h;rcases h with h|h
 ·exact h.2 rfl
 ·exact h
def OneC (n deep:Nat):Prop:=∀{g:Nat} {S:List UInt8} {p:Nat} {w:World},zb w g #[str S,Z p,Z deep]→S.length≤1000→p<S.length →
 Calls prog 105 #[ye g] w fun e w'=>zi (fun k=>k≠g) w w'∧((prt n (S.drop p)=0∧e=.panicked PErr)∨(prt n (S.drop p)≠0∧∃ t iv K,t=shT n ((S.drop p).take (prt n (S.drop p)))∧e=.returned (.agg (sx (t.1,t.2.1,iv)).toArray)∧zb w' g #[str S,Z (p+prt n (S.drop p):Nat),Z deep]∧(∀ k,K k→w.heap.size≤k∧k<w'.heap.size)∧SLA K w' n iv t.2.2))
def RowC (n deep:Nat):Prop:=∀{g:Nat} {S:List UInt8} {p:Nat} {w:World},zb w g #[str S,Z p,Z deep]→S.length≤1000→p≤S.length →
 Calls prog 72 #[ye g] w fun e w'=>zi (fun k=>k≠g) w w'∧((xw (prt n) (S.drop p).length (S.drop p)=none∧e=.panicked PErr)∨∃ ps rest v K,xw (prt n) (S.drop p).length (S.drop p)=some (ps,rest)∧e=.returned v∧zb w' g #[str S,Z (p+ps.flatten.length:Nat),Z deep]∧(∀ k,K k→w.heap.size≤k∧k<w'.heap.size)∧SLA K w' (n+1) v (ps.map (shT n)))
theorem scanP_stop{p:List UInt8→Nat}(F:Nat){f:List UInt8}(h:f=[]∨f.head? = some 41∨f.head? = some 93):xw p F f=some ([],f):=by cases F<;>(unfold xw;rw[if_pos h])
theorem scanP_step{p:List UInt8→Nat}{F:Nat}{c:UInt8}{r:List UInt8}(hF:(c::r).length≤F)(h1:c≠41)(h2:c≠93):∃ F',F=F'+1∧xw p F (c::r)=if p (c::r)=0 then none else(xw p F' ((c::r).drop (p (c::r)))).map fun x=>((c::r).take (p (c::r))::x.1,x.2):=by
 cases F with
 | zero=>simp at hF
 | succ F=>
  refine⟨F,rfl,?_⟩;show(if(c::r)=[]∨(c::r).head? = some 41∨(c::r).head? = some 93 then _ else _)=_;rw[if_neg (by simp[h1,h2])]
theorem row_of{n deep:Nat}(hd:deep≤8)(hone:OneC n deep):RowC n deep:=by
 intro g S p0 w hr hS hp0;have hlt:=hr.lt;have hsz:=zn S;refine inQ (J:=GJ w g #[str S,Z p0,Z deep] n (.slice none 0 0) [] [] noK) (F:=GF w (.slice none 0 0) noK) func72 ⟨RO.start _ _ _ _,hr,fun _ h=>h.elim,rfl,fun i x t h=>by simp at h⟩ fun a I=>?_;refine goQ [] (GJ.rs _ _ hlt _ _ _ _ _ _) I fun β a w1 I hb=>?_
 let St:Nat→Act→World→Prop:=fun k a w'=>∃(done:List (List UInt8)) (rest:List UInt8) (F:Nat) (β:Nat→Nat) (u:Nat→Value) (ad:Option Addr) (cap:Nat) (X:List (Int×Bool×Value)) (K:Nat→Prop),k=rest.length∧S.drop p0=done.flatten++rest∧rest.length≤F∧done.length≤done.flatten.length∧X.length=done.length ∧
  xw (prt n) (S.drop p0).length (S.drop p0)=(xw (prt n) F rest).map (fun x=>(done++x.1,x.2)) ∧
  SI (GJ w g #[str S,Z (p0+done.flatten.length:Nat),Z deep] n (.slice ad X.length cap) X (done.map (shT n)) K) (GF w (.slice ad X.length cap) K) [] β
   (cfC (zc Tryz.f72) (zl (zg 30 [0,3]) u 0 (frm 30 [(0,Sum.inl (ye g)),(3,Sum.inl (.slice ad X.length cap))])) [] 0) a w'
 refine lpM (zc Tryz.f72) St (S.drop p0).length ?_ ?_
 ·obtain⟨u,Iu⟩:=I.scr (zc Tryz.f72) (zg 30 [0,3]) (frm 30 [(0,Sum.inl (ye g)),(3,Sum.inl (.slice none 0 0))]) [] 0;exact⟨[],S.drop p0,_,β,u,none,0,[],noK,rfl,rfl,Nat.le_refl _,Nat.le_refl _,rfl,by simp,Iu⟩
 rintro k a3 w3 ⟨done,rest,F,β3,u,ad,cap,X,K,rfl,hdr,hF,hdl,hXl,hsc,I⟩;refine zv (tm:=zl (zg 30 [0,3]) u 0 (frm 30 [(0,Sum.inl (ye g)),(3,Sum.inl (.slice ad X.length cap))])) (rows:=[]) (nx:=0) ?_;obtain⟨p,hp⟩:∃ p,p0+done.flatten.length=p:=⟨_,rfl⟩
 rw[hp]at I;have hdl2:S.length-p0=done.flatten.length+rest.length:=by rw[← List.length_drop,hdr,List.length_append]
 have hrest:S.drop p=rest:=by rw[← hp,← List.drop_drop,hdr,List.drop_left]
 have hld1:∀ w',GJ w g #[str S,Z p,Z deep] n (.slice ad X.length cap) X (done.map (shT n)) K w'→(loadVar 3 ⟨g,0+1,none⟩).run prog w'=.ok (Z p) w':=fun w' h=>run_lv h.row (by kernel_rfl)
 have hld0:∀ w',GJ w g #[str S,Z p,Z deep] n (.slice ad X.length cap) X (done.map (shT n)) K w'→(loadVar 9 ⟨g,0+0,none⟩).run prog w'=.ok (str S) w':=fun w' h=>run_lv h.row (by kernel_rfl)
 have hsees:∀(m:UInt8) (q:Bool),decide (S[p]? = some m)=q→∀ w',GJ w g #[str S,Z p,Z deep] n (.slice ad X.length cap) X (done.map (shT n)) K w'→Calls prog 104 #[ye g,.int .u8 m.toNat] w' fun e w''=>e=.returned (.bool q)∧Below w'.heap.size w' w'':=fun m q hq w' h=>by
  have:=sees_any m h.row (by omega) (by omega);rw[hq]at this;exact this
 have hfin:∀{c:Cf} {a:Act} {w':World} {β:Nat→Nat},SI (GJ w g #[str S,Z p,Z deep] n (.slice ad X.length cap) X (done.map (shT n)) K) (GF w (.slice ad X.length cap) K) [] β c a w'→xw (prt n) F rest=some ([],rest) →
   zi (fun k=>k≠g) w w'∧((xw (prt n) (S.drop p0).length (S.drop p0)=none∧(Ending.returned (.slice ad X.length cap)=.panicked PErr))∨∃ ps rest v K,xw (prt n) (S.drop p0).length (S.drop p0)=some (ps,rest)∧Ending.returned (.slice ad X.length cap)=.returned v∧zb w' g #[str S,Z (p0+ps.flatten.length:Nat),Z deep]∧(∀ k,K k→w.heap.size≤k∧k<w'.heap.size)∧SLA K w' (n+1) v (ps.map (shT n))):=by
  intro c a w' β I hs;refine⟨I.hJ.ro.gr,.inr ⟨done,rest,_,fun k=>K k∨(Value.slice ad X.length cap).ownBlock=some k,by rw[hsc,hs];simp,rfl,by rw[hp];exact I.hJ.row,fun k hk=>?_,SLA_own I.hJ.ro.own (fun k hk=>.inr hk) (I.hJ.inn.mono fun k hk=>.inl hk)⟩⟩;rcases hk with hk | hk
  ·exact⟨(I.hJ.kb k hk).1,(I.hJ.kb k hk).2.1⟩
  ·exact I.hJ.ro.own.lt k hk
 refine goQ [] (GJ.rs _ _ hlt _ _ _ _ _ _) I fun β4 a4 w4 I hb4=>?_;cases rest with
 | nil=>
  rw[List.length_nil]at hdl2;refine dwT (T:=GJ w g #[str S,Z p,Z deep] n (.slice ad X.length cap) X (done.map (shT n)) K) 20 [ldA 3 hld1,ldA 9 hld0,lO underlying9 (b:=⟨S.toArray⟩) (n:=S.length) (by rw[hsz]),klF p S.length] (GJ.rs _ _ hlt _ _ _ _ _ _) (fun _ h=>h) (zd.then (zd.qk zd.post)) I fun a5 w5 I=>?_;refine goQ [] (GJ.rs _ _ hlt _ _ _ _ _ _) I fun β6 a6 w6 I hb6=>?_;refine xg 0 ?_;refine goQ [] (GJ.rs _ _ hlt _ _ _ _ _ _) (I.exit _) fun β7 a7 w7 I hb7=>?_;exact zh (v:=.slice ad X.length cap) I (hfin I (scanP_stop _ (.inl rfl)))
 | cons c r=>
  rw[List.length_cons]at hdl2;have hpl:p<S.length:=by omega
  have hix:S[p]? = some c:=by
   have:=congrArg (·[0]?) hrest;simpa [List.getElem?_drop]using this
  by_cases h41:c=41
  ·refine dwT (T:=GJ w g #[str S,Z p,Z deep] n (.slice ad X.length cap) X (done.map (shT n)) K) 20 [ldA 3 hld1,ldA 9 hld0,lO underlying9 (b:=⟨S.toArray⟩) (n:=S.length) (by rw[hsz]),klT p S.length,cA func104 (hsees 41 true (by rw[hix,h41];rfl)),uO .not (p:=.bool true) (v:=.bool false) (by intros;rfl)] (GJ.rs _ _ hlt _ _ _ _ _ _) (fun _ h=>h) (zd.then (zd.qk zd.post)) I fun a5 w5 I=>?_;refine goQ [] (GJ.rs _ _ hlt _ _ _ _ _ _) I fun β6 a6 w6 I hb6=>?_;refine xg 0 ?_;refine goQ [] (GJ.rs _ _ hlt _ _ _ _ _ _) (I.exit _) fun β7 a7 w7 I hb7=>?_
   exact zh (v:=.slice ad X.length cap) I (hfin I (scanP_stop _ (.inr (.inl (by rw[h41];rfl)))))
  by_cases h93:c=93
  ·refine dwT (T:=GJ w g #[str S,Z p,Z deep] n (.slice ad X.length cap) X (done.map (shT n)) K) 20 [ldA 3 hld1,ldA 9 hld0,lO underlying9 (b:=⟨S.toArray⟩) (n:=S.length) (by rw[hsz]),klT p S.length,cA func104 (hsees 41 false (by rw[hix];simpa using h41)),uO .not (p:=.bool false) (v:=.bool true) (by intros;rfl),cA func104 (hsees 93 true (by rw[hix,h93];rfl)),uO .not (p:=.bool true) (v:=.bool false) (by intros;rfl)] (GJ.rs _ _ hlt _ _ _ _ _ _) (fun _ h=>h) (zd.then (zd.qk zd.post)) I fun a5 w5 I=>?_;refine goQ [] (GJ.rs _ _ hlt _ _ _ _ _ _) I fun β6 a6 w6 I hb6=>?_
   refine xg 0 ?_;refine goQ [] (GJ.rs _ _ hlt _ _ _ _ _ _) (I.exit _) fun β7 a7 w7 I hb7=>?_;exact zh (v:=.slice ad X.length cap) I (hfin I (scanP_stop _ (.inr (.inr (by rw[h93];rfl)))))
  refine dwT (T:=GJ w g #[str S,Z p,Z deep] n (.slice ad X.length cap) X (done.map (shT n)) K) 20 [ldA 3 hld1,ldA 9 hld0,lO underlying9 (b:=⟨S.toArray⟩) (n:=S.length) (by rw[hsz]),klT p S.length,cA func104 (hsees 41 false (by rw[hix];simpa using h41)),uO .not (p:=.bool false) (v:=.bool true) (by intros;rfl),cA func104 (hsees 93 false (by rw[hix];simpa using h93)),uO .not (p:=.bool false) (v:=.bool true) (by intros;rfl)] (GJ.rs _ _ hlt _ _ _ _ _ _) (fun _ h=>h) (zd.then (zd.qk zd.post)) I fun a5 w5 I=>?_;refine goQ [] (GJ.rs _ _ hlt _ _ _ _ _ _) I fun β6 a6 w6 I hb6=>?_
  obtain⟨F',rfl,hst⟩:=scanP_step (p:=prt n) hF h41 h93;obtain⟨kk,hkk⟩:∃ kk,prt n (c::r)=kk:=⟨_,rfl⟩
  have hkl:=(zbf n (c::r)).1;rw[hst,hkk]at hsc;rw[hkk,List.length_cons]at hkl;refine yp (ss:=[Sum.inl (ye g)]) func105 I ?_;refine(hone I.hJ.row hS hpl).mono fun e w7 he=>?_;rw[hrest,hkk]at he;obtain⟨hg7,he⟩:=he;rcases he with⟨hk0,rfl⟩ | ⟨hk0,t,iv,K1,ht,rfl,hr7,hK1,hS1⟩
  ·rw[if_pos hk0]at hsc;exact⟨I.df,I.hJ.ro.gr.trans hg7,.inl ⟨by rw[hsc];rfl,rfl⟩⟩
  rw[if_neg hk0]at hsc;have hown:∀ k,(Value.slice ad X.length cap).ownBlock=some k→k≠g:=fun k hk e=>by have:=(I.hJ.ro.own.lt k hk).1;omega
  have hw6:=I.hJ.ro.gr.size;have hKg:∀ k,K k→k≠g:=fun k hk e=>by have:=(I.hJ.kb k hk).1;omega
  have I7:SI (GJ w g #[str S,Z (p+kk:Nat),Z deep] n (.slice ad X.length cap) X (done.map (shT n)) K) (GF w (.slice ad X.length cap) K) [] β6 _ _ w7:=I.moved ⟨hg7.os,hg7.tape,hg7.output,hg7.size,fun k hk hn=>hg7.block k hk fun e=>hn (.inl (by omega))⟩ ⟨⟨I.hJ.ro.gr.trans hg7,x9 I.hJ.ro.own hg7 hown⟩,hr7,fun k hk=>⟨(I.hJ.kb k hk).1,Nat.lt_of_lt_of_le (I.hJ.kb k hk).2.1 hg7.size,(I.hJ.kb k hk).2.2⟩,I.hJ.inn.keep fun k hk=>hg7.block k (I.hJ.kb k hk).2.1 (hKg k hk)⟩ (fun _ _ h=>h) (.agg (sx (t.1,t.2.1,iv)).toArray)
  refine bslQ (ss:=[(0,Sum.inl (.agg (sx (t.1,t.2.1,iv)).toArray))]) I7 (bs_shape _ _ _ w7) ?_;have I8:=I7.alloc (GJ.rs _ _ hlt _ _ _ _ _ _) (.cells (sx (t.1,t.2.1,iv)).toArray 121) (.slice (some ⟨w7.heap.size,0,none⟩) 1 1);obtain⟨inf,hi1,hi2,hi3,hi4⟩:=hI71;obtain⟨adi,mi,capi,hiv⟩:=hS1.slice
  obtain⟨v',w9,hr9,ho9,hg9⟩:=km underlying81 hi1 hi2 hi3 hi4 rfl (by decide) (by decide) I8.hJ.ro.own I8.hJ.ro.gr.size ⟨w7.heap.size,0,none⟩ (sx (t.1,t.2.1,iv)) rfl (xu w7 (sx (t.1,t.2.1,iv)).toArray 121) (by intro u hu;simp only[sx,List.mem_cons,List.not_mem_nil,or_false]at hu;rcases hu with rfl|rfl|rfl<;>first|rfl|(rw[hiv];rfl)) (by omega);have hXl1:(X++[(t.1,t.2.1,iv)]).length=X.length+1:=by simp
  have hXf:X.flatMap sx++sx (t.1,t.2.1,iv)=(X++[(t.1,t.2.1,iv)]).flatMap sx:=by simp
  rw[hXf,← hXl1]at ho9;obtain⟨ad9,cap9,rfl⟩:=z4 ho9;refine appQ (ss:=[Sum.inl (.slice ad X.length cap),Sum.inl (.slice (some ⟨w7.heap.size,0,none⟩) 1 1)]) I8 hr9 ?_;have hown7:∀ k,(Value.slice ad X.length cap).ownBlock=some k→k<w6.heap.size:=fun k hk=>(I.hJ.ro.own.lt k hk).2
  have hk9:∀ k,(K k∨K1 k)→w.heap.size≤k∧k<w7.heap.size∧(Value.slice ad X.length cap).ownBlock≠some k:=fun k hk=>by
   rcases hk with hk|hk
   ·exact⟨(I7.hJ.kb k hk).1,(I7.hJ.kb k hk).2.1,(I7.hJ.kb k hk).2.2⟩
   ·have:=hK1 k hk;exact⟨by omega,this.2,fun e=>by have:=hown7 k e;omega⟩
  have hsz8:(w7.alloc (.cells (sx (t.1,t.2.1,iv)).toArray 121)).heap.size=w7.heap.size+1:=by simp
  have hblk:∀ k,(K k∨K1 k)→w9.heap[k]? = w7.heap[k]? :=fun k hk=>by
   obtain⟨h1,h2,h3⟩:=hk9 k hk;rw[hg9.gr.block k (by omega) fun e=>h3 e.symm];exact(yh w7 _).block k h2
  have hinn9:InL (fun k=>K k∨K1 k) w9 n (X++[(t.1,t.2.1,iv)]) ((done++[(c::r).take kk]).map (shT n)):=by
   have h1:InL (fun k=>K k∨K1 k) w9 n X (done.map (shT n)):=(I7.hJ.inn.keep fun k hk=>hblk k (.inl hk)).mono fun k hk=>.inl hk
   have h2:SLA (fun k=>K k∨K1 k) w9 n iv t.2.2:=(hS1.keep fun k hk=>hblk k (.inr hk)).mono fun k hk=>.inr hk
   have h3:=h1.snoc h2;rw[List.map_append,List.map_singleton,← ht];exact h3
  have hp9:p+kk=p0+(done++[(c::r).take kk]).flatten.length:=by
   simp only[List.flatten_append,List.length_append,List.flatten_cons,List.flatten_nil,List.append_nil,List.length_take,List.length_cons];omega
  have I9:SI (GJ w g #[str S,Z (p0+(done++[(c::r).take kk]).flatten.length:Nat),Z deep] n (.slice ad9 (X++[(t.1,t.2.1,iv)]).length cap9) (X++[(t.1,t.2.1,iv)]) ((done++[(c::r).take kk]).map (shT n)) (fun k=>K k∨K1 k)) (GF w (.slice ad9 (X++[(t.1,t.2.1,iv)]).length cap9) (fun k=>K k∨K1 k)) [] β6 _ _ w9:=I8.free ⟨I8.hJ.ro.grown ho9 hg9,by
    rw[← hp9];obtain⟨t,ht⟩:=I8.hJ.row;exact⟨t,(hg9.gr.block g I8.hJ.row.lt fun e=>hown g e.symm rfl).trans ht⟩,fun k hk=>by
     obtain⟨h1,h2,h3⟩:=hk9 k hk;have:=hg9.gr.size;refine⟨h1,by omega,fun e=>?_⟩;rcases hg9.nb k e with h4 | h4
     ·exact h3 h4
     ·omega,hinn9⟩ (.slice ad9 (X++[(t.1,t.2.1,iv)]).length cap9)
  refine goQ [] (GJ.rs _ _ hlt _ _ _ _ _ _) I9 fun β10 a10 w10 I hb10=>?_;obtain⟨u',Iu⟩:=I.scr (zc Tryz.f72) (zg 30 [0,3]) (frm 30 [(0,Sum.inl (ye g)),(3,Sum.inl (.slice ad9 (X++[(t.1,t.2.1,iv)]).length cap9))]) [] 0;refine xc ⟨((c::r).drop kk).length,by rw[List.length_drop];simp;omega,done++[(c::r).take kk],(c::r).drop kk,F',β10,u',ad9,cap9,X++[(t.1,t.2.1,iv)],fun k=>K k∨K1 k,rfl,?_,by rw[List.length_drop,List.length_cons];rw[List.length_cons]at hF;omega,by have h:=hp9;have h2:=hp;rw[List.length_append,List.length_singleton];omega,by rw[hXl1,hXl,List.length_append];rfl,?_,Iu⟩
  ·rw[List.flatten_append,List.flatten_cons,List.flatten_nil,List.append_nil,List.append_assoc,List.take_append_drop];exact hdr
  ·rw[hsc,Option.map_map]
   congr 1
   funext x;simp
theorem upTo_zero{g:Nat}{S:List UInt8}{p:Nat}{w:World}(hr:zb w g #[str S,Z p,Z (8:Nat)])(e:UInt8):Calls prog 138 #[ye g,.int .u8 e.toNat] w fun x w'=>zi (fun k=>k≠g) w w'∧x=.panicked PErr:=by
 refine inG (J:=RKJ w g noK 0 (.slice none 0 0) ()) (F:=RKF w g noK) [.int .u8 e.toNat] func138 (RKJ.start _ _) hr RKJ.not fun a I=>?_;refine goQ [bO .add 3 (zw (x:=(8:Nat)) (y:=1) (z:=(9:Nat)) (by rw[wz (by omega) (by omega)];rfl)),bO .leq 3 (ve (x:=(9:Nat)) (y:=8) (b:=false) (by decide))] (RKJ.rs _ _ _ _ _ _) I fun β a w0 I hb=>?_;exact qj [Sum.inl (.bool false)] func41 I (fun w'=>Below w0.heap.size w0 w') (ask_f w0) fun w' hb=>⟨I.df,I.hJ.gr.trans (zi.of_below hb),rfl⟩
theorem upTo_succ{m deep:Nat}(hd:deep+1≤8)(hrow:RowC m (deep+1))(e:UInt8){g:Nat}{S:List UInt8}{p:Nat}{w:World}(hr:zb w g #[str S,Z p,Z deep])(hS:S.length≤1000)(hp:p≤S.length) :
  Calls prog 138 #[ye g,.int .u8 e.toNat] w fun x w'=>zi (fun k=>k≠g) w w'∧((∃ ps r v K,xw (prt m) (S.drop p).length (S.drop p)=some (ps,e::r)∧x=.returned v∧zb w' g #[str S,Z (p+ps.flatten.length+1:Nat),Z deep]∧(∀ k,K k→w.heap.size≤k∧k<w'.heap.size)∧SLA K w' (m+1) v (ps.map (shT m))) ∨
   ((∀ ps r,xw (prt m) (S.drop p).length (S.drop p)≠some (ps,e::r))∧x=.panicked PErr)):=by
 have hlt:=hr.lt;refine inG (J:=RKJ w g noK 0 (.slice none 0 0) ()) (F:=RKF w g noK) [.int .u8 e.toNat] func138 (RKJ.start _ _) hr RKJ.not fun a I=>?_;refine goQ [bO .add 3 (zw (x:=deep) (y:=1) (z:=(deep+1:Nat)) (by rw[wz (by omega) (by omega)];rfl)),kmT (deep+1:Nat) 8,kC func41 za8] (RKJ.rs _ _ _ _ _ _) I fun β a w0 I hb=>?_;have hb0:β 0=g:=agr hb 0 rfl;have hr0:=I.rowAt 0 (r:=#[str S,Z p,Z (deep+1:Nat)]);refine yp (ss:=[Sum.inr (0,0)]) func72 I ?_;refine(hrow hr0 hS hp).mono fun x w2 he=>?_;obtain⟨hg2,he⟩:=he;rw[hb0]at hg2
 rcases he with⟨hn,rfl⟩|⟨ps,rest,v,K,hsc,rfl,hr2,hK,hS2⟩
 ·exact⟨I.df,I.hJ.gr.trans hg2,.inr ⟨fun ps r h=>(by rw[hn]at h;cases h),rfl⟩⟩
 have hsz0:=I.hJ.gr.size;refine(vp (id:=0) (r:=#[str S,Z (p+ps.flatten.length:Nat),Z (deep+1:Nat)])).1 ?_;have hJ2:RKJ w g K (m+1) v (ps.map (shT m)) w2:=⟨I.hJ.gr.trans hg2,fun k hk=>⟨Nat.le_trans hsz0 (hK k hk).1,(hK k hk).2⟩,hS2⟩
 have I2:SI (RKJ w g K (m+1) v (ps.map (shT m))) (RKF w g K) [] β _ _ w2:=I.rowed (id:=0) (r0:=#[str S,Z p,Z (deep+1:Nat)]) (by kernel_rfl) ⟨hg2.os,hg2.tape,hg2.output,hg2.size,fun k hk hn=>hg2.block k hk (by rw[← hb0];exact hn.2)⟩ hr2 hJ2 (fun k hk h=>by
   rcases h with h|h
   ·exact .inl h
   ·have:=(hK k h).1;omega) v
 obtain⟨adv,mv,capv,rfl⟩:=hS2.slice;refine goQ [] (RKJ.rs _ _ _ _ _ _) I2 fun β3 a w3 I hb3=>?_;have hb30:β3 0=g:=agr hb3 0 hb0;have hr3:=I.rowAt 0 (r:=#[str S,Z (p+ps.flatten.length:Nat),Z (deep+1:Nat)]);obtain⟨h1,_,_⟩:=zby _ _ hsc;have hdl:S.length-p=ps.flatten.length+rest.length:=by rw[← List.length_drop,h1,List.length_append]
 have hrest:S.drop (p+ps.flatten.length)=rest:=by rw[← List.drop_drop,h1,List.drop_left]
 have hix:S[p+ps.flatten.length]? = rest.head? :=by
  have:=congrArg (·[0]?) hrest;simpa [List.getElem?_drop,List.head?_eq_getElem?]using this
 refine yp (ss:=[Sum.inr (0,0),Sum.inl (.int .u8 e.toNat)]) func104 I ?_;refine(sees_any e hr3 (by omega) (by omega)).mono fun x w4 he=>?_;obtain⟨rfl,hb4⟩:=he;rw[hix];have I4:∀ q,SI (RKJ w g K (m+1) (.slice adv mv capv) (ps.map (shT m))) (RKF w g K) [] β3 _ _ w4:=fun q=>I.moved (zi.of_below hb4) ((RKJ.rs _ _ _ _ _ _).loc _ _ I.hJ (zi.of_below hb4)) (fun _ _ h=>h) (.bool q)
 by_cases hh:rest.head? = some e
 ·obtain⟨r,rfl⟩:∃ r,rest=e::r:=by
   cases rest with
   | nil=>cases hh
   | cons c r=>simp only[List.head?_cons,Option.some.injEq]at hh;subst hh;exact⟨r,rfl⟩
  rw[decide_eq_true hh];rw[List.length_cons]at hdl;refine goQ [kC func41 za8,bO .add 3 (zw (x:=(p+ps.flatten.length:Nat)) (y:=1) (z:=(p+ps.flatten.length+1:Nat)) (by rw[wz (by omega) (by omega)];rfl)),ksZ (deep+1:Nat) 1 deep] (RKJ.rs _ _ _ _ _ _) (I4 true) fun β5 a w5 I hb5=>?_;have hb50:β5 0=g:=agr hb5 0 hb30;exact zh (v:=.slice adv mv capv) I ⟨I.hJ.gr,.inl ⟨ps,r,_,K,hsc,rfl,I.rowG 0 hb50 (r:=#[str S,Z (p+ps.flatten.length+1:Nat),Z deep]),I.hJ.kb,I.hJ.sl⟩⟩
 ·rw[decide_eq_false hh];refine goQ [] (RKJ.rs _ _ _ _ _ _) (I4 false) fun β5 a w5 I hb5=>?_;refine qj [Sum.inl (.bool false)] func41 I (fun w'=>Below w5.heap.size w5 w') (ask_f w5) fun w' hb=>⟨I.df,I.hJ.gr.trans (zi.of_below hb),.inr ⟨fun ps' r h=>?_,rfl⟩⟩
  rw[hsc]at h;cases h;exact hh rfl
theorem bd_sh2(ad:Option Addr)(m cap:Nat)(w:World):(Instr.build 121 (([0,2]:List Nat).zip [Z 2,.slice ad m cap]).toArray).run prog w=.ok (.agg #[Z 2,.bool false,.slice ad m cap]) w:=by kernel_rfl
theorem bd_sh3(ad:Option Addr)(m cap:Nat)(w:World):(Instr.build 121 (([0,1,2]:List Nat).zip [Z 2,.bool true,.slice ad m cap]).toArray).run prog w=.ok (.agg #[Z 2,.bool true,.slice ad m cap]) w:=by kernel_rfl
theorem prt_one{n:Nat}{c:UInt8}(h:c=110∨c=116)(r:List UInt8):prt n (c::r)=1:=by
 rcases h with rfl|rfl<;>cases n<;>rfl
theorem prt_no{n:Nat}{c:UInt8}(h:c≠110∧c≠116∧c≠40∧c≠91)(r:List UInt8):prt n (c::r)=0:=by
 obtain⟨h1,h2,h3,h4⟩:=h;cases n with
 | zero=>simp[prt,h1,h2]
 | succ n=>simp[prt,h1,h2,h3,h4]
theorem prt_zero{c:UInt8}(h:c=40∨c=91)(r:List UInt8):prt 0 (c::r)=0:=by
 rcases h with rfl|rfl<;>rfl
theorem prt_brk{n:Nat}{c:UInt8}(h:c=40∨c=91)(r:List UInt8):prt (n+1) (c::r)=brk (prt n) c r:=by
 rcases h with rfl|rfl<;>rfl
theorem shT_num(n:Nat)(K:Nat→Prop)(w:World):(shT n [110]).1=0∧(shT n [110]).2.1=false∧SLA K w n (.slice none 0 0) (shT n [110]).2.2:=by
 cases n with
 | zero=>exact⟨rfl,rfl,none,0,rfl⟩
 | succ n=>exact⟨rfl,rfl,SLA.nil n⟩
theorem shT_txt(n:Nat)(K:Nat→Prop)(w:World):(shT n [116]).1=1∧(shT n [116]).2.1=false∧SLA K w n (.slice none 0 0) (shT n [116]).2.2:=by
 cases n with
 | zero=>exact⟨rfl,rfl,none,0,rfl⟩
 | succ n=>exact⟨rfl,rfl,SLA.nil n⟩
theorem zad{b c:UInt8}{m:Nat}(hm:m≤8){ps:List (List UInt8)}(h:∀ q∈ps,Pt m q):inr_ (b::(ps.flatten++[c]))=ps:=by
 unfold inr_;rw[List.drop_one,List.tail_cons,List.dropLast_concat,parts_ok fun q hq=>(h q hq).up hm];rfl
theorem one_any{n deep:Nat}(hd:deep+n=8)(hrow:∀ m,n=m+1→RowC m (deep+1)):OneC n deep:=by
 intro g S p w hr hS hp;have hlt:=hr.lt;obtain⟨c,hc⟩:∃ c,S[p]? = some c:=⟨_,List.getElem?_eq_getElem hp⟩
 have hdr:S.drop p=c::S.drop (p+1):=by
  obtain⟨h1,h2⟩:=List.getElem?_eq_some_iff.1 hc;rw[List.drop_eq_getElem_cons h1,h2]
 rw[hdr];obtain⟨r,hrr⟩:∃ r,S.drop (p+1)=r:=⟨_,rfl⟩
 rw[hrr];have hadd:IntKind.i64.wrap ((p:Int)+1)=((p+1:Nat):Int):=by rw[wz (by omega) (by omega)];omega
 refine inG (J:=RKJ w g noK 0 (.slice none 0 0) ()) (F:=RKF w g noK) [] func105 (RKJ.start _ _) hr RKJ.not fun a I=>?_;refine goQ [] (RKJ.rs _ _ _ _ _ _) I fun β a w0 I hb=>?_;have hb0:β 0=g:=agr hb 0 rfl;refine dwQ 10 [iO 9 (p:=str S) (i:=Z p) (v:=.int .u8 c.toNat) (zr hc)] (RKJ.rs _ _ _ _ _ _) zd.post I fun a w1 I=>?_;by_cases h1:c=110
 ·refine goQ [bO .add 3 (zw (x:=p) (y:=1) hadd),bO .eql 5 (zq (x:=c) (y:=110) (q:=true) (decide_eq_true h1)),dO 121 [0] bd_shn] (RKJ.rs _ _ _ _ _ _) I fun β2 a w2 I hb2=>?_;have hb20:β2 0=g:=agr hb2 0 hb0;have e:=prt_one (n:=n) (.inl h1) r;subst h1;obtain⟨t1,t2,t3⟩:=shT_num n noK w2;refine zh (v:=shp 0) I ⟨I.hJ.gr,.inr ⟨by rw[e];decide,shT n [110],.slice none 0 0,noK,by rw[e];rfl,by rw[t1,t2],by rw[e];exact I.rowG 0 hb20 (r:=#[str S,Z (p+1:Nat),Z deep]),fun _ h=>h.elim,t3⟩⟩
 by_cases h2:c=116
 ·refine goQ [bO .add 3 (zw (x:=p) (y:=1) hadd),bO .eql 5 (zq (x:=c) (y:=110) (q:=false) (decide_eq_false h1)),bO .eql 5 (zq (x:=c) (y:=116) (q:=true) (decide_eq_true h2)),dO 121 [0] bd_sht] (RKJ.rs _ _ _ _ _ _) I fun β2 a w2 I hb2=>?_;have hb20:β2 0=g:=agr hb2 0 hb0;have e:=prt_one (n:=n) (.inr h2) r;subst h2;obtain⟨t1,t2,t3⟩:=shT_txt n noK w2;refine zh (v:=shp 1) I ⟨I.hJ.gr,.inr ⟨by rw[e];decide,shT n [116],.slice none 0 0,noK,by rw[e];rfl,by rw[t1,t2],by rw[e];exact I.rowG 0 hb20 (r:=#[str S,Z (p+1:Nat),Z deep]),fun _ h=>h.elim,t3⟩⟩
 by_cases h3:c=40
 ·refine goQ [bO .add 3 (zw (x:=p) (y:=1) hadd),bO .eql 5 (zq (x:=c) (y:=110) (q:=false) (decide_eq_false h1)),bO .eql 5 (zq (x:=c) (y:=116) (q:=false) (decide_eq_false h2)),bO .eql 5 (zq (x:=c) (y:=40) (q:=true) (decide_eq_true h3))] (RKJ.rs _ _ _ _ _ _) I fun β2 a w2 I hb2=>?_;have hb20:β2 0=g:=agr hb2 0 hb0;have hr2:=I.rowAt 0 (r:=#[str S,Z (p+1:Nat),Z deep]);have hsz2:=I.hJ.gr.size;refine yp (ss:=[Sum.inr (0,0),Sum.inl (.int .u8 (41:UInt8).toNat)]) func138 I ?_;cases n with
  | zero=>
   obtain rfl:deep=8:=by omega
   refine(upTo_zero hr2 41).mono fun x w3 he=>?_;obtain⟨hg3,rfl⟩:=he;rw[hb20]at hg3;exact⟨I.df,I.hJ.gr.trans hg3,.inl ⟨prt_zero (.inl h3) r,rfl⟩⟩
  | succ m=>
   refine(upTo_succ (by omega) (hrow m rfl) 41 hr2 hS (by omega)).mono fun x w3 he=>?_;obtain⟨hg3,he⟩:=he;rw[hb20]at hg3;rw[hrr]at he;have eb:prt (m+1) (c::r)=brk (prt m) c r:=prt_brk (.inl h3) r;rw[brk_P]at eb;rcases he with⟨ps,r',v,K,hsc,rfl,hr3,hK,hS3⟩ | ⟨hno,rfl⟩
   ·rw[hsc]at eb;subst h3;simp only[show clo 40=41 from rfl,List.head?_cons,true_and,show((40:UInt8)=91)=False from by simp,false_and,not_false_eq_true,if_true]at eb;obtain⟨i1,i2,_⟩:=zby _ _ hsc;have etk:(40::r:List UInt8).take (ps.flatten.length+2)=40::(ps.flatten++[41]):=by
     rw[i1,List.take_succ_cons,List.take_length_add_append];rfl
    obtain⟨adv,mv,capv,rfl⟩:=hS3.slice;refine(vp (id:=0) (r:=#[str S,Z (p+1+ps.flatten.length+1:Nat),Z deep])).1 ?_;have hJ3:RKJ w g K (m+1) (.slice adv mv capv) (ps.map (shT m)) w3:=⟨I.hJ.gr.trans hg3,fun k hk=>⟨Nat.le_trans hsz2 (hK k hk).1,(hK k hk).2⟩,hS3⟩
    have I3:SI (RKJ w g K (m+1) (.slice adv mv capv) (ps.map (shT m))) (RKF w g K) [] β2 _ _ w3:=I.rowed (id:=0) (r0:=#[str S,Z (p+1:Nat),Z deep]) (by kernel_rfl) ⟨hg3.os,hg3.tape,hg3.output,hg3.size,fun k hk hn=>hg3.block k hk (by rw[← hb20];exact hn.2)⟩ hr3 hJ3 (fun k hk h=>by
      rcases h with h|h
      ·exact .inl h
      ·have:=(hK k h).1;omega) (.slice adv mv capv)
    refine goQ [dO 121 [0,2] (bd_sh2 adv mv capv)] (RKJ.rs _ _ _ _ _ _) I3 fun β4 a w4 I hb4=>?_;have hb40:β4 0=g:=agr hb4 0 hb20;refine zh (v:=.agg #[Z 2,.bool false,.slice adv mv capv]) I ⟨I.hJ.gr,.inr ⟨by rw[eb];omega,(2,false,ps.map (shT m)),.slice adv mv capv,K,?_,rfl,by rw[eb,show p+(ps.flatten.length+2)=p+1+ps.flatten.length+1 by omega];exact I.rowG 0 hb40 (r:=#[str S,Z (p+1+ps.flatten.length+1:Nat),Z deep]),I.hJ.kb,I.hJ.sl⟩⟩;rw[eb,etk];show _=(if _ then _ else if _ then _ else _)
    rw[if_neg (by simp),if_neg (by simp),zad (by omega) i2];rfl
   ·refine⟨I.df,I.hJ.gr.trans hg3,.inl ⟨?_,rfl⟩⟩;rw[eb];subst h3;cases hq:xw (prt m) r.length r with
    | none=>rfl
    | some x=>
     obtain⟨ps,rest⟩:=x;simp only[];rw[if_neg];rintro⟨h4,_⟩;cases rest with
     | nil=>cases h4
     | cons d r'=>
      simp only[List.head?_cons,Option.some.injEq,show clo 40=41 from rfl]at h4;subst h4;exact hno ps r' hq
 by_cases h4:c=91
 ·refine goQ [bO .add 3 (zw (x:=p) (y:=1) hadd),bO .eql 5 (zq (x:=c) (y:=110) (q:=false) (decide_eq_false h1)),bO .eql 5 (zq (x:=c) (y:=116) (q:=false) (decide_eq_false h2)),bO .eql 5 (zq (x:=c) (y:=40) (q:=false) (decide_eq_false h3)),bO .eql 5 (zq (x:=c) (y:=91) (q:=true) (decide_eq_true h4))] (RKJ.rs _ _ _ _ _ _) I fun β2 a w2 I hb2=>?_;have hb20:β2 0=g:=agr hb2 0 hb0;have hr2:=I.rowAt 0 (r:=#[str S,Z (p+1:Nat),Z deep]);have hsz2:=I.hJ.gr.size;refine yp (ss:=[Sum.inr (0,0),Sum.inl (.int .u8 (93:UInt8).toNat)]) func138 I ?_;cases n with
  | zero=>
   obtain rfl:deep=8:=by omega
   refine(upTo_zero hr2 93).mono fun x w3 he=>?_;obtain⟨hg3,rfl⟩:=he;rw[hb20]at hg3;exact⟨I.df,I.hJ.gr.trans hg3,.inl ⟨prt_zero (.inr h4) r,rfl⟩⟩
  | succ m=>
   refine(upTo_succ (by omega) (hrow m rfl) 93 hr2 hS (by omega)).mono fun x w3 he=>?_;obtain⟨hg3,he⟩:=he;rw[hb20]at hg3;rw[hrr]at he;have eb:prt (m+1) (c::r)=brk (prt m) c r:=prt_brk (.inr h4) r;rw[brk_P]at eb;rcases he with⟨ps,r',v,K,hsc,rfl,hr3,hK,hS3⟩ | ⟨hno,rfl⟩
   ·rw[hsc]at eb;subst h4;simp only[show clo 91=93 from rfl,List.head?_cons,true_and]at eb;obtain⟨i1,i2,_⟩:=zby _ _ hsc;have etk:(91::r:List UInt8).take (ps.flatten.length+2)=91::(ps.flatten++[93]):=by
     rw[i1,List.take_succ_cons,List.take_length_add_append];rfl
    obtain⟨adv,capv,rfl,hmem⟩:=id hS3;have hml:(ps.map (shT m)).length=ps.length:=List.length_map _;rw[hml];rw[hml]at hS3;refine(vp (id:=0) (r:=#[str S,Z (p+1+ps.flatten.length+1:Nat),Z deep])).1 ?_;have hJ3:RKJ w g K (m+1) (.slice adv ps.length capv) (ps.map (shT m)) w3:=⟨I.hJ.gr.trans hg3,fun k hk=>⟨Nat.le_trans hsz2 (hK k hk).1,(hK k hk).2⟩,hS3⟩
    have I3:SI (RKJ w g K (m+1) (.slice adv ps.length capv) (ps.map (shT m))) (RKF w g K) [] β2 _ _ w3:=I.rowed (id:=0) (r0:=#[str S,Z (p+1:Nat),Z deep]) (by kernel_rfl) ⟨hg3.os,hg3.tape,hg3.output,hg3.size,fun k hk hn=>hg3.block k hk (by rw[← hb20];exact hn.2)⟩ hr3 hJ3 (fun k hk h=>by
      rcases h with h|h
      ·exact .inl h
      ·have:=(hK k h).1;omega) (.slice adv ps.length capv)
    by_cases hl1:ps.length=1
    ·rw[if_pos (fun h=>h hl1)]at eb;refine goQ [lS underlying81 (ad:=adv) (n:=ps.length) (cap:=capv) rfl,bO .eql 3 (z8 (x:=ps.length) (y:=1) (b:=true) (by rw[hl1];rfl)),kC func41 za8,dO 121 [0,1,2] (bd_sh3 adv ps.length capv)] (RKJ.rs _ _ _ _ _ _) I3 fun β4 a w4 I hb4=>?_;have hb40:β4 0=g:=agr hb4 0 hb20
     refine zh (v:=.agg #[Z 2,.bool true,.slice adv ps.length capv]) I ⟨I.hJ.gr,.inr ⟨by rw[eb];omega,(2,true,ps.map (shT m)),.slice adv ps.length capv,K,?_,rfl,by rw[eb,show p+(ps.flatten.length+2)=p+1+ps.flatten.length+1 by omega];exact I.rowG 0 hb40 (r:=#[str S,Z (p+1+ps.flatten.length+1:Nat),Z deep]),I.hJ.kb,I.hJ.sl⟩⟩;rw[eb,etk];show _=(if _ then _ else if _ then _ else _)
     rw[if_neg (by simp),if_neg (by simp),zad (by omega) i2];rfl
    ·rw[if_neg (fun h=>h hl1)]at eb;refine goQ [lS underlying81 (ad:=adv) (n:=ps.length) (cap:=capv) rfl,keF ps.length 1] (RKJ.rs _ _ _ _ _ _) I3 fun β4 a w4 I hb4=>?_;exact qj [Sum.inl (.bool false)] func41 I (fun w'=>Below w4.heap.size w4 w') (ask_f w4) fun w' hb=>⟨I.df,I.hJ.gr.trans (zi.of_below hb),.inl ⟨eb,rfl⟩⟩
   ·refine⟨I.df,I.hJ.gr.trans hg3,.inl ⟨?_,rfl⟩⟩;rw[eb];subst h4;cases hq:xw (prt m) r.length r with
    | none=>rfl
    | some x=>
     obtain⟨ps,rest⟩:=x;simp only[];rw[if_neg];rintro⟨h4,_⟩;cases rest with
     | nil=>cases h4
     | cons d r'=>
      simp only[List.head?_cons,Option.some.injEq,show clo 91=93 from rfl]at h4;subst h4;exact hno ps r' hq
 ·refine goQ [bO .add 3 (zw (x:=p) (y:=1) hadd),bO .eql 5 (zq (x:=c) (y:=110) (q:=false) (decide_eq_false h1)),bO .eql 5 (zq (x:=c) (y:=116) (q:=false) (decide_eq_false h2)),bO .eql 5 (zq (x:=c) (y:=40) (q:=false) (decide_eq_false h3)),bO .eql 5 (zq (x:=c) (y:=91) (q:=false) (decide_eq_false h4)),mI 117 underlying117 rfl (x:=Z 2)] (RKJ.rs _ _ _ _ _ _) I fun β2 a w2 I hb2=>?_;exact panQ I ⟨I.df,I.hJ.gr,.inl ⟨prt_no ⟨h1,h2,h3,h4⟩ r,rfl⟩⟩
theorem forms_any:∀(n deep:Nat),deep+n=8→RowC n deep
 | 0,deep,hd=>row_of (by omega) (one_any hd fun m h=>by cases h)
 | n+1,deep,hd=>row_of (by omega) (one_any hd fun m h=>by cases h;exact forms_any n (deep+1) (by omega))
structure BK (wE:World) (K:Nat→Prop) (n:Nat) (v:Value) (l:SL n) (w:World):Prop where
 bw:Below wE.heap.size wE w
 kb:∀ k,K k→k<w.heap.size
 sl:SLA K w n v l
def BKF (wE:World) (K:Nat→Prop) (k:Nat):Prop:=k<wE.heap.size∨K k
theorem BK.rs(wE:World)(K:Nat→Prop)(n:Nat)(v:Value)(l:SL n):yw (BK wE K n v l) (BKF wE K):=by
 refine⟨fun w w' h gr=>⟨⟨gr.os.trans h.bw.os,gr.tape.trans h.bw.tape,gr.output.trans h.bw.output,Nat.le_trans h.bw.size gr.size,fun k hk=>(gr.block k (Nat.lt_of_lt_of_le hk h.bw.size) (.inl hk)).trans (h.bw.block k hk)⟩,fun k hk=>Nat.lt_of_lt_of_le (h.kb k hk) gr.size,h.sl.keep fun k hk=>gr.block k (h.kb k hk) (.inr hk)⟩,fun w k h hk=>?_⟩;rcases hk with hk | hk
 ·exact Nat.lt_of_lt_of_le hk h.bw.size
 ·exact h.kb k hk
theorem parts_P(f:List UInt8):xe f=(xw (prt 8) f.length f).bind fun x=>if x.2=[]then some x.1 else none:=by
 unfold xe;rw[scan_P (.inl rfl) _ _ (Nat.le_refl _)];cases xw (prt 8) f.length f with
 | none=>rfl
 | some x=>
  obtain⟨ps,rest⟩:=x;cases rest with
  | nil=>rfl
  | cons c r=>rfl
theorem shapes_any(f:List UInt8)(hf:f.length≤1000)(w:World):Calls prog 40 #[str f] w fun e w'=>Below w.heap.size w w'∧((xe f=none∧e=.panicked PErr)∨∃ ps v K,xe f=some ps∧e=.returned v∧(∀ k,K k→w.heap.size≤k∧k<w'.heap.size)∧SLA K w' 9 v (ps.map (shT 8))):=by
 have hsz:=zn f;refine inZ func40 fun a I=>?_;refine goZ [dO 124 [0] (bd_fr f)] I fun β a w1 I hb=>?_;have hr:=I.rowAt 0 (r:=#[str f,Z (0:Nat),Z (0:Nat)]);have hge:¬ (β 0<w.heap.size):=I.dis _ (zy (show y9 _ 0=some #[str f,Z (0:Nat),Z (0:Nat)] by kernel_rfl));refine yp (ss:=[Sum.inr (0,0)]) func72 I ?_;refine(forms_any 8 0 rfl hr hf (Nat.zero_le _)).mono fun e w2 he=>?_;obtain⟨hg2,he⟩:=he
 have hbw:Below w.heap.size w w2:=⟨hg2.os.trans I.hJ.os,hg2.tape.trans I.hJ.tape,hg2.output.trans I.hJ.output,Nat.le_trans I.hJ.size hg2.size,fun k hk=>(hg2.block k (Nat.lt_of_lt_of_le hk I.hJ.size) (by omega)).trans (I.hJ.block k hk)⟩
 rw[List.drop_zero]at he;have hpP:=parts_P f;rcases he with⟨hn,rfl⟩|⟨ps,rest,v,K,hsc,rfl,hr2,hK,hS2⟩
 ·exact⟨I.df,hbw,.inl ⟨by rw[hpP,hn];rfl,rfl⟩⟩
 rw[hsc]at hpP;rw[Nat.zero_add]at hr2;have hsz1:=I.hJ.size;obtain⟨h1,_,_⟩:=zby _ _ hsc;have hdl:f.length=ps.flatten.length+rest.length:=by rw[← List.length_append,← h1]
 refine(vp (id:=0) (r:=#[str f,Z ps.flatten.length,Z (0:Nat)])).1 ?_;have I2:SI (BK w K 9 v (ps.map (shT 8))) (BKF w K) [] β _ _ w2:=I.rowed (id:=0) (r0:=#[str f,Z (0:Nat),Z (0:Nat)]) (by kernel_rfl) ⟨hg2.os,hg2.tape,hg2.output,hg2.size,fun k hk hn=>hg2.block k hk hn.2⟩ hr2 ⟨hbw,fun k hk=>(hK k hk).2,hS2⟩ (fun k hk h=>by
   rcases h with h|h
   ·exact h
   ·have:=(hK k h).1;omega) v
 obtain⟨adv,mv,capv,rfl⟩:=hS2.slice;by_cases hr0:rest=[]
 ·subst hr0;rw[List.length_nil]at hdl;refine goQ [lO underlying9 (b:=⟨f.toArray⟩) (n:=f.length) (by rw[hsz]),keT ps.flatten.length f.length,kC func41 za8] (BK.rs _ _ _ _ _) I2 fun β3 a w3 I hb3=>?_;exact zh (v:=.slice adv mv capv) I ⟨I.hJ.bw,.inr ⟨ps,_,K,by rw[hpP];rfl,rfl,fun k hk=>⟨Nat.le_trans hsz1 (hK k hk).1,I.hJ.kb k hk⟩,I.hJ.sl⟩⟩
 ·have hrl:rest.length≠0:=fun h=>hr0 (List.length_eq_zero_iff.1 h)
  refine goQ [lO underlying9 (b:=⟨f.toArray⟩) (n:=f.length) (by rw[hsz]),keF ps.flatten.length f.length] (BK.rs _ _ _ _ _) I2 fun β3 a w3 I hb3=>?_;refine qj [Sum.inl (.bool false)] func41 I (fun w'=>Below w3.heap.size w3 w') (ask_f w3) fun w' hb=>⟨I.df,I.hJ.bw.trans (hb.mono I.hJ.bw.size),.inl ⟨?_,rfl⟩⟩
  rw[hpP];simp[hr0]
theorem and32(a:Nat)(ha:a<4294967296)(x y:Operand)(w:World):(do eqGuard .and 23 x y (B a) (B 4294967295);binOp .and 23 (B a) (B 4294967295):Sem Value).run prog w=.ok (B a) w:=by
 have h:=Go.Proofs.Mul64.maskN a (by omega);rw[Nat.mod_eq_of_lt ha]at h;simp[go_sem,h]
theorem shr32(a:Nat)(ha:a<4294967296)(x y:Operand)(w:World):(do eqGuard .shr 23 x y (B a) (B 32);binOp .shr 23 (B a) (B 32):Sem Value).run prog w=.ok (B 0) w:=by
 have h:(a:Int)/4294967296=0:=by omega
 simp[go_sem,h]
theorem mulB(a b c:Nat)(h:a*b=c)(hc:c<M)(x y:Operand)(w:World):(do eqGuard .mul 23 x y (B a) (B b);binOp .mul 23 (B a) (B b):Sem Value).run prog w=.ok (B c) w:=by
 have hw:IntKind.u64.wrap ((a:Int)*(b:Int))=(c:Int):=by
  have e:(a:Int)*(b:Int)=(c:Int):=by rw[← h];exact(Int.natCast_mul a b).symm
  unfold M at hc;rw[e];have:=IntKind.wrap_u64 (c:Int);omega
 simp[go_sem,hw]
theorem mul64_one(n:Nat)(hn:n≤64):RT 155 #[B 1,B n] (.tuple #[B 0,B n]):=by
 intro w;have hM:n<M:=by unfold M;omega
 have h0:(0:Nat)<M:=by decide
 refine inZ func155 fun a I=>?_;refine goQ [bO .and 23 (and32 1 (by decide)),bO .shr 23 (shr32 1 (by decide)),bO .and 23 (and32 n (by omega)),bO .shr 23 (shr32 n (by omega)),bO .mul 23 (mulB 1 n n (by omega) hM),
  bO .mul 23 (mulB 0 n 0 (by omega) h0),bO .shr 23 (shr32 n (by omega)),bO .add 23 (addB_run 0 0 h0),bO .and 23 (and32 0 (by decide)),bO .shr 23 (shr32 0 (by decide)),bO .mul 23 (mulB 1 0 0 rfl h0),bO .add 23 (addB_run 0 0 h0),
  bO .mul 23 (mulB 0 0 0 rfl h0),bO .add 23 (addB_run 0 0 h0),bO .shr 23 (shr32 0 (by decide)),bO .add 23 (addB_run 0 0 h0),bO .mul 23 (mulB 1 n n (by omega) hM)] (zj w) I fun β a w1 I hb=>?_
 exact xj (v:=.tuple #[B 0,B n]) I
theorem mul_one(n:Nat)(hn:n≤64):RT 149 #[B 1,B n] (.tuple #[B 0,B n]):=by
 refine fun w=>inZ func149 fun a I=>?_;refine goZ [kC func155 (mul64_one n hn)] I fun β a w1 I hb=>?_;exact xj (v:=.tuple #[B 0,B n]) I
theorem copy3(w:World)(g o dLen dCap:Nat)(a:Addr)(sLen sCap:Nat)(cur:Array Value)(t:TypeId)(cs:List Value)(hg:w.heap[g]? = some (.cells cur t (0,0)))(hn:cs.length=Nat.min sLen dLen*3)(hsrc:∀ j v,cs[j]? = some v→w.cell? (a.add j)=some v)(hfit:o+cs.length≤cur.size)(h1:∀ v∈cs,v.oneCell'=true) :
  (Builtin.copy_ #[81,81] 3 #[.slice (some ⟨g,o,none⟩) dLen dCap,.slice (some a) sLen sCap]).run prog w =
   .ok (goInt (Nat.min sLen dLen)) (w.setRow g (cur.toList.take o++cs++cur.toList.drop (o+cs.length)).toArray):=by
 have hl:=run_loadCells_list (P:=prog) w a cs hsrc;have hst:=run_storeCells_at prog g o t cs 0 cur w hg (by simpa using hfit) h1;obtain⟨i,hi1,_,hi3,_⟩:=hI71;simp[Builtin.copy_,run_underlying underlying81,Builtin.lenOf,Builtin.firstCells,sizeOf,typeInfo,hi1,hi3,← hn,hl,hst]
section
variable {P:Program} {J:World→Prop} {F:Nat→Prop} {ds:List Deferred} {β:Nat→Nat} {c:Cf} {a:Act} {w:World} {Q:Exit→Act→World→Prop}
def mkQ (c:Cf):Option (TypeId×SV×SV):=match kq c with
 | some o=>match o.op with
  | .makeSlice t l k=>(evQ c.tm l).bind fun x=>(evQ c.tm k).map fun y=>(t,x,y)
  | _=>none
 | none=>none
theorem mksQ{t:TypeId}{x y:SV}{v:Value}{w':World}(I:SI J F ds β c a w)(hr:(Instr.makeSlice t (up β x) (up β y)).run P w=.ok v w')(k:At P Q (xa c v) (a.put (yu c) v) w')(hc:mkQ c=some (t,x,y):=by kernel_rfl):At P Q c a w:=by
 unfold mkQ at hc;split at hc
 ·next o ho=>
  split at hc
  ·next t' l k' hop=>
   simp only[Option.bind_eq_some_iff,Option.map_eq_some_iff,Prod.mk.injEq]at hc;obtain⟨x',hx,y',hy,rfl,rfl,rfl⟩:=hc;refine vstep ho I (v:=v) (w':=w') ?_ k;unfold execOp;simp only[hop,xn I.fr hx,xn I.fr hy,Sem.run_bind,hr,Result.andThen_ok,Sem.run_pure]
  ·cases hc
 ·cases hc
end
theorem sl_from(g N j:Nat)(hj:j<N)(w:World):(Instr.sliceAt 81 (.slice (some ⟨g,0,none⟩) N N) (some (Z j)) none none).run prog w=.ok (.slice (some ⟨g,j*3,none⟩) (N-j) (N-j)) w:=by
 have h1:¬ N=j:=by omega
 have h2:j≤N:=by omega
 simp[go_sem,h1,h2]
theorem sl_to(g N j:Nat)(hj0:0<j)(hj:j≤N)(w:World):(Instr.sliceAt 81 (.slice (some ⟨g,0,none⟩) N N) none (some (Z j)) none).run prog w=.ok (.slice (some ⟨g,0,none⟩) j N) w:=by
 have h1:¬ N=0:=by omega
 simp[go_sem,h1,hj]
theorem gtrB(a b:Nat){q:Bool}(h:decide (b<a)=q)(x y:Operand)(w:World):(do eqGuard .gtr 134 x y (B a) (B b);binOp .gtr 134 (B a) (B b):Sem Value).run prog w=.ok (.bool q) w:=by
 simp[go_sem,h]
theorem cnvU(n:Nat)(hn:n<1000000000000)(w:World):(convert 3 134 (Z n)).run prog w=.ok (B n) w:=by
 have:=IntKind.wrap_u64 (n:Int);simp[go_sem];omega
theorem cnvI(n:Nat)(hn:n<1000000000000)(w:World):(convert 134 3 (B n)).run prog w=.ok (Z n) w:=by
 have:=wz (n:=(n:Int)) (by omega) (by omega);simp[go_sem,this]
theorem copy_own3{w:World}{b g N:Nat}{xs:List Value}(h:w.ownsRow b 121 3 (.slice (some ⟨g,0,none⟩) N N) N xs)(j sLen sCap:Nat)(a:Addr)(cs:List Value)(q:Nat)(hq:Nat.min sLen (N-j)=q)(hcl:cs.length=q*3)(hjq:j+q≤N)(hsrc:∀ i v,cs[i]? = some v→w.cell? (a.add i)=some v)(h1:∀ v∈cs,v.oneCell'=true) :
  ∃ w',(Builtin.copy_ #[81,81] 3 #[.slice (some ⟨g,j*3,none⟩) (N-j) (N-j),.slice (some a) sLen sCap]).run prog w=.ok (Z q) w'∧w'.ownsRow b 121 3 (.slice (some ⟨g,0,none⟩) N N) N (xs.take (j*3)++cs++xs.drop (j*3+cs.length))∧w.grownBy w' (some g):=by
 rcases h.2 with⟨hv,_⟩|⟨g',cap',cur,hv,hbg,hgc,hnc,hcm,hcs,htake⟩
 ·cases hv
 ·cases hv;have hx:cur.toList=xs:=by rw[← htake,List.take_of_length_le (by rw[Array.length_toList,hcs];exact Nat.le_refl _)]
  have hr:=copy3 w g (j*3) (N-j) (N-j) a sLen sCap cur 121 cs hgc (by rw[hq,hcl]) hsrc (by rw[hcl,hcs,← Nat.add_mul];exact Nat.mul_le_mul_right _ hjq) h1;rw[hq,hx]at hr;have hxl:=h.1;have hle:j*3+cs.length≤N*3:=by rw[hcl,← Nat.add_mul];exact Nat.mul_le_mul_right _ hjq
  have hlen:(xs.take (j*3)++cs++xs.drop (j*3+cs.length)).length=N*3:=by
   simp only[List.length_append,List.length_take,List.length_drop,hxl];omega
  refine⟨_,hr,⟨hlen,.inr ⟨g,N,_,rfl,hbg,setRow_heap w g cur _ 121 _ hgc,Nat.le_refl _,hcm,by rw[List.size_toArray,hlen],?_⟩⟩,⟨rfl,rfl,rfl,by simp,fun k _ hk=>setRow_other w g k _ (fun e=>hk (by rw[e]))⟩⟩;rw[List.take_of_length_le (by rw[hlen];exact Nat.le_refl _)]
theorem rep_take{α:Type}{c:List α}(hc:c.length=3):∀(j q:Nat),q≤j→(List.replicate j c).flatten.take (q*3)=(List.replicate q c).flatten
 | j,0,_=>by simp
 | 0,q+1,h=>absurd h (by omega)
 | j+1,q+1,h=>by
  rw[List.replicate_succ,List.flatten_cons,List.replicate_succ,List.flatten_cons,show(q+1)*3=c.length+q*3 by rw[hc];omega,List.take_length_add_append,rep_take hc j q (by omega)]
theorem rep_add{α:Type}(c:List α)(j q:Nat):(List.replicate j c).flatten++(List.replicate q c).flatten=(List.replicate (j+q) c).flatten:=by
 rw[← List.flatten_append,List.replicate_append_replicate]
abbrev rpK:List Nat:=[7,8]
abbrev rpV (v:Value) (j:Nat):Vs:=frm 48 [(7,Sum.inl v),(8,Sum.inl (Z j))]
theorem repeat_any{K:Nat→Prop}{w:World}{n:Nat}{t:ST n}{ad:Option Addr}{cap:Nat}(hS:SLA K w (n+1) (.slice ad 1 cap) ([t]:List (ST n)))(hKl:∀ k,K k→k<w.heap.size)(N:Nat)(hN:N≤64) :
  Calls prog 136 #[.slice ad 1 cap,Z N] w fun e w'=>Below w.heap.size w w'∧∃ v K',e=.returned v∧(∀ k,K' k→K k∨(w.heap.size≤k∧k<w'.heap.size))∧SLA K' w' (n+1) v (List.replicate N t):=by
 obtain⟨ad',cap',hv,hm⟩:=hS;cases hv;obtain⟨gx,off,iv,rfl,hKx,hcx,hSx⟩:=hm 0 t rfl;obtain⟨adi,mi,capi,hiv⟩:=hSx.slice;have hone:∀ v∈sx (t.1,t.2.1,iv),v.oneCell'=true:=by
  intro u hu;simp only[sx,List.mem_cons,List.not_mem_nil,or_false]at hu;rcases hu with rfl|rfl|rfl<;>first|rfl|(rw[hiv];rfl)
 obtain⟨c3,hc3⟩:∃ c3,sx (t.1,t.2.1,iv)=c3:=⟨_,rfl⟩
 have hc3l:c3.length=3:=by rw[← hc3];rfl
 have hgxl:gx<w.heap.size:=hcx.lt;rw[hc3]at hone hcx;refine inZ func136 fun a I=>?_;refine goZ [bO .lss 3 (zf (x:=N) (y:=0) (b:=false) (by simp)),lS underlying81 (ad:=some ⟨gx,off,none⟩) (n:=1) (cap:=cap) rfl,vO 3 134 (p:=Z (1:Nat)) (v:=B 1) (cnvU 1 (by decide)),vO 3 134 (p:=Z N) (v:=B N) (cnvU N (by omega)),kC func149 (mul_one N hN),bO .gtr 134 (gtrB 0 0 (q:=false) rfl),bO .gtr 134 (gtrB N 9223372036854775807 (q:=false) (decide_eq_false (by omega))),vO 134 3 (p:=B N) (v:=Z N) (cnvI N (by omega))] I fun β a w1 I hb=>?_;obtain⟨inf,hi1,hi2,hi3,hi4⟩:=hI71
 obtain⟨w2,hr2,ho2,hg2⟩:=run_make_full (P:=prog) w1 w.heap.size 81 121 inf _ 3 underlying81 hi1 hi2 hi3 .i64 .i64 N (by rw[hi4];omega) (by simp only[maxLen];omega) I.hJ.size;refine mksQ (x:=Sum.inl (Z N)) (y:=Sum.inl (Z N)) I hr2 ?_;obtain⟨g,hgg⟩:∃ g,w1.heap.size=g:=⟨_,rfl⟩
 have hwg:w.heap.size≤g:=by rw[← hgg];exact I.hJ.size
 have hbw2:Below w.heap.size w w2:=⟨hg2.os.trans I.hJ.os,hg2.tape.trans I.hJ.tape,hg2.output.trans I.hJ.output,Nat.le_trans I.hJ.size hg2.size,fun k hk=>(hg2.block k (Nat.lt_of_lt_of_le hk I.hJ.size) (by simp)).trans (I.hJ.block k hk)⟩
 rw[hgg]at ho2 ⊢;generalize (madeCells _ (N*3)).toList=xs0 at ho2;have I2:SI (EO w 121 3 (.slice (some ⟨g,0,none⟩) N N) N xs0) (EF w (.slice (some ⟨g,0,none⟩) N N)) [] β _ _ w2:=I.free ⟨hbw2,ho2⟩ (.slice (some ⟨g,0,none⟩) N N);refine goQ [] (EO.rs _ _ _ _ _ _) I2 fun β3 a w3 I hb3=>?_;have hxl3:=I.hJ.own.1;obtain⟨q0,hq0⟩:∃ q0,Nat.min 1 (N-0)=q0:=⟨_,rfl⟩
 have hq0':q0≤1∧q0≤N∧(N≠0→q0=1):=by
  rw[← hq0,Nat.sub_zero];refine⟨Nat.min_le_left _ _,Nat.min_le_right _ _,fun h=>?_⟩;exact Nat.min_eq_left (by omega)
 obtain⟨w4,hr4,ho4,hg4⟩:=copy_own3 I.hJ.own 0 1 cap ⟨gx,off,none⟩ (c3.take (q0*3)) q0 hq0 (by rw[List.length_take,hc3l];omega) (by omega) (fun i v hv=>by
   have hv':c3[i]? = some v:=by
    rw[List.getElem?_take]at hv;split at hv
    ·exact hv
    ·cases hv
   have:=hcx i v hv';rw[Nat.zero_mul,Nat.add_zero]at this;rw[xz,← this];simp only[World.cell?,I.hJ.bw.block gx hgxl]) (fun v hv=>hone v (List.mem_of_mem_take hv))
 rw[Nat.zero_mul,Nat.sub_zero]at hr4;refine cpyQ (ss:=[Sum.inl (.slice (some ⟨g,0,none⟩) N N),Sum.inl (.slice (some ⟨gx,off,none⟩) 1 cap)]) I hr4 ?_;obtain⟨xs4,hx4⟩:∃ xs4,xs0.take (0*3)++c3.take (q0*3)++xs0.drop (0*3+(c3.take (q0*3)).length)=xs4:=⟨_,rfl⟩
 have hT4:xs4.take (q0*3)=(List.replicate q0 c3).flatten:=by
  have hl:(c3.take (q0*3)).length=q0*3:=by rw[List.length_take,hc3l];omega
  rw[← hx4,Nat.zero_mul,List.take_zero,List.nil_append,List.take_left' hl];rcases Nat.eq_zero_or_pos q0 with h|h
  ·rw[h];simp
  ·obtain rfl:q0=1:=by omega
   simp[List.take_of_length_le,hc3l]
 rw[hx4]at ho4;have hge:∀ k,(Value.slice (some ⟨g,0,none⟩) N N).ownBlock=some k→k=g:=fun k h=>by simp only[Value.ownBlock,Option.some.injEq]at h;exact h.symm
 have I4:SI (EO w 121 3 (.slice (some ⟨g,0,none⟩) N N) N xs4) (EF w (.slice (some ⟨g,0,none⟩) N N)) [] β3 _ _ w4:=I.grownE ho4 ⟨hg4,fun k h=>.inl h⟩ (Z q0);refine goQ [] (EO.rs _ _ _ _ _ _) I4 fun β5 a w5 I hb5=>?_
 let St:Nat→Act→World→Prop:=fun k a w'=>∃(j:Nat) (β:Nat→Nat) (u:Nat→Value) (xs:List Value),k=N-j∧j≤N∧(N≠0→0<j)∧xs.take (j*3)=(List.replicate j c3).flatten ∧
  SI (EO w 121 3 (.slice (some ⟨g,0,none⟩) N N) N xs) (EF w (.slice (some ⟨g,0,none⟩) N N)) [] β (cfC (zc Tryz.f136) (zl (zg 48 rpK) u 0 (rpV (.slice (some ⟨g,0,none⟩) N N) j)) [] 0) a w'
 refine lpM (zc Tryz.f136) St (N-q0) ?_ ?_
 ·obtain⟨u,Iu⟩:=I.scr (zc Tryz.f136) (zg 48 rpK) (rpV (.slice (some ⟨g,0,none⟩) N N) q0) [] 0;exact⟨q0,β5,u,xs4,rfl,hq0'.2.1,fun h=>(by have:=hq0'.2.2 h;omega),hT4,Iu⟩
 rintro k a6 w6 ⟨j,β6,u,xs,rfl,hj,hj0,hT,I⟩;refine zv (tm:=zl (zg 48 rpK) u 0 (rpV (.slice (some ⟨g,0,none⟩) N N) j)) (rows:=[]) (nx:=0) ?_;rcases Nat.lt_or_ge j N with hjN|hjN
 ·have hj1:0<j:=hj0 (by omega);refine goQ [lS underlying81 (ad:=some ⟨g,0,none⟩) (n:=N) (cap:=N) rfl,klT j N] (EO.rs _ _ _ _ _ _) I fun β7 a7 w7 I hb7=>?_;refine dwQ 7 [sO 81 (p:=.slice (some ⟨g,0,none⟩) N N) (l:=Z j) (v:=.slice (some ⟨g,j*3,none⟩) (N-j) (N-j)) (sl_from g N j hjN),sT 81 (p:=.slice (some ⟨g,0,none⟩) N N) (l:=Z j) (v:=.slice (some ⟨g,0,none⟩) j N) (sl_to g N j hj1 hj)] (EO.rs _ _ _ _ _ _) (zd.then (zd.qk zd.post)) I fun a8 w8 I=>?_;obtain⟨q,hq⟩:∃ q,Nat.min j (N-j)=q:=⟨_,rfl⟩
  have hq1:q≤j:=by rw[← hq];exact Nat.min_le_left _ _
  have hq2:q≤N-j:=by rw[← hq];exact Nat.min_le_right _ _
  have hq3:0<q:=by rw[← hq];exact Nat.lt_min.2 ⟨hj1,by omega⟩
  have hxl:=I.hJ.own.1;have hqt:xs.take (q*3)=(List.replicate q c3).flatten:=by
   rw[← rep_take hc3l j q hq1,← hT,List.take_take,Nat.min_eq_left (by omega)]
  have hmemc:∀ v∈xs.take (q*3),v.oneCell'=true:=fun v hv=>by
   rw[hqt]at hv;obtain⟨l,hl,hv⟩:=List.mem_flatten.1 hv;rw[List.eq_of_mem_replicate hl]at hv;exact hone v hv
  obtain⟨w9,hr9,ho9,hg9⟩:=copy_own3 I.hJ.own j j N ⟨g,0,none⟩ (xs.take (q*3)) q hq (by rw[List.length_take,hxl];omega) (by omega) (fun i v hv=>I.hJ.own.cells (g:=g) rfl i v (by
    rw[List.getElem?_take]at hv;split at hv
    ·exact hv
    ·cases hv)) hmemc
  refine cpyQ (ss:=[Sum.inl (.slice (some ⟨g,j*3,none⟩) (N-j) (N-j)),Sum.inl (.slice (some ⟨g,0,none⟩) j N)]) I hr9 ?_;obtain⟨xs9,hx9⟩:∃ xs9,xs.take (j*3)++xs.take (q*3)++xs.drop (j*3+(xs.take (q*3)).length)=xs9:=⟨_,rfl⟩
  rw[hx9]at ho9;have hT9:xs9.take ((j+q)*3)=(List.replicate (j+q) c3).flatten:=by
   have hl:(xs.take (j*3)++xs.take (q*3)).length=(j+q)*3:=by
    rw[List.length_append,List.length_take,List.length_take,hxl];omega
   rw[← hx9,List.take_left' hl,hT,hqt,rep_add]
  refine goQ [kaZ j q (j+q:Nat)] (EO.rs _ _ _ _ _ _) (I.grownE ho9 ⟨hg9,fun k h=>.inl h⟩ (Z q)) fun β10 a10 w10 I hb10=>?_;obtain⟨u',Iu⟩:=I.scr (zc Tryz.f136) (zg 48 rpK) (rpV (.slice (some ⟨g,0,none⟩) N N) (j+q)) [] 0;exact xc ⟨N-(j+q),by omega,j+q,β10,u',xs9,rfl,by omega,fun _=>by omega,hT9,Iu⟩
 ·obtain rfl:j=N:=by omega
  refine goQ [lS underlying81 (ad:=some ⟨g,0,none⟩) (n:=j) (cap:=j) rfl,bO .lss 3 (zf (x:=j) (y:=j) (b:=false) (by simp))] (EO.rs _ _ _ _ _ _) I fun β7 a7 w7 I hb7=>?_;refine xg 0 ?_;refine goQ [] (EO.rs _ _ _ _ _ _) (I.exit _) fun β8 a8 w8 I hb8=>?_;have hxl:=I.hJ.own.1;rw[List.take_of_length_le (by rw[hxl];exact Nat.le_refl _)]at hT;have hown:=I.hJ.own;have hXf:(List.replicate j (t.1,t.2.1,iv)).flatMap sx=xs:=by
   rw[hT,List.flatMap_def,List.map_replicate,hc3]
  have hXl:(List.replicate j (t.1,t.2.1,iv)).length=j:=List.length_replicate;have hw8:=I.hJ.own.lt g rfl;refine zh (v:=.slice (some ⟨g,0,none⟩) j j) I ⟨I.hJ.bw,_,fun k=>K k∨k=g,rfl,fun k hk=>?_,?_⟩
  ·rcases hk with hk|rfl
   ·exact .inl hk
   ·exact .inr hw8
  ·refine SLA_own (b:=w.heap.size) (X:=List.replicate j (t.1,t.2.1,iv)) (by rw[hXf,hXl];exact hown) (fun k hk=>.inr (hge k hk)) ⟨by simp,fun i x u hx hu=>?_⟩;rw[List.eq_of_mem_replicate (List.mem_of_getElem? hx),List.eq_of_mem_replicate (List.mem_of_getElem? hu)];exact⟨rfl,rfl,(hSx.keep fun k hk=>I.hJ.bw.block k (hKl k hk)).mono fun k hk=>.inl hk⟩
def nilS:(n:Nat)→SL n
 | 0=>()
 | _+1=>[]
def v6 {n:Nat} (N:Nat) (many:Bool) (l:List (ST n)):Option (List (ST n)):=if 64<N then none else if many then some (List.replicate N (l.headD (0,false,nilS n)))else if N=l.length then some l else none
theorem inside_any{K:Nat→Prop}{w:World}{n:Nat}{k:Int}{many:Bool}{iv:Value}{l:List (ST n)}(hS:SLA K w (n+1) iv l)(hKl:∀ k,K k→k<w.heap.size)(hm:many=true→l.length=1)(N:Nat)(hN:N≤1000000000) :
  Calls prog 102 #[.agg #[Z k,.bool many,iv],Z N] w fun e w'=>Below w.heap.size w w'∧((v6 N many l=none∧e=.panicked PErr)∨∃ v K' l',v6 N many l=some l'∧e=.returned v∧(∀ k,K' k→K k∨(w.heap.size≤k∧k<w'.heap.size))∧SLA K' w' (n+1) v l'):=by
 obtain⟨ad,cap,rfl,hmem⟩:=id hS;refine inZ func102 fun a I=>?_;rcases Nat.lt_or_ge 64 N with h64 | h64
 ·refine goZ [kmF N 64] I fun β a w1 I hb=>?_;exact qj [Sum.inl (.bool false)] func41 I (fun w'=>Below w1.heap.size w1 w') (ask_f w1) fun w' hb=>⟨I.df,I.hJ.trans (hb.mono I.hJ.size),.inl ⟨by unfold v6;rw[if_pos h64],rfl⟩⟩
 cases many with
 | true=>
  have hl1:=hm rfl;obtain⟨t,rfl⟩:∃ t,l=[t]:=by
   match l,hl1 with
   | [t],_=>exact⟨t,rfl⟩
  refine goZ [kmT N 64,kC func41 za8] I fun β a w1 I hb=>?_;have hS1:SLA K w1 (n+1) (.slice ad 1 cap) ([t]:List (ST n)):=hS.keep fun k hk=>I.hJ.block k (hKl k hk)
  have hsz1:=I.hJ.size;refine yp (ss:=[Sum.inl (.slice ad 1 cap),Sum.inl (Z N)]) func136 I ?_;refine(repeat_any hS1 (fun k hk=>Nat.lt_of_lt_of_le (hKl k hk) hsz1) N h64).mono fun e w2 he=>?_;obtain⟨hb2,v,K',rfl,hK',hS2⟩:=he;obtain⟨adv,mv,capv,rfl⟩:=hS2.slice;have hKb:∀ k,K' k→k<w2.heap.size:=fun k hk=>by
   have:=hb2.size;rcases hK' k hk with h|h
   ·have:=hKl k h;omega
   ·exact h.2
  have I2:SI (BK w K' (n+1) (.slice adv mv capv) (List.replicate N t)) (BKF w K') [] β _ _ w2:=I.moved (zi.of_below hb2) ⟨I.hJ.trans (hb2.mono hsz1),hKb,hS2⟩ (fun k hk h=>by
    rcases h with h|h
    ·exact h
    ·rcases hK' k h with h|h
     ·exact hKl k h
     ·omega) (.slice adv mv capv)
  refine goQ [] (BK.rs _ _ _ _ _) I2 fun β3 a w3 I hb3=>?_;exact zh (v:=.slice adv mv capv) I ⟨I.hJ.bw,.inr ⟨_,K',List.replicate N t,by unfold v6;rw[if_neg (by omega)];simp,rfl,fun k hk=>by
   rcases hK' k hk with h|h
   ·exact .inl h
   ·exact .inr ⟨by omega,I.hJ.kb k hk⟩,I.hJ.sl⟩⟩
 | false=>
  by_cases hl:N=l.length
  ·subst hl;refine goZ [kmT l.length 64,kC func41 za8,lS underlying81 (ad:=ad) (n:=l.length) (cap:=cap) rfl,bO .eql 3 (z8 (x:=l.length) (y:=l.length) (b:=true) (by simp)),kC func41 za8] I fun β a w1 I hb=>?_;exact zh (v:=.slice ad l.length cap) I ⟨I.hJ,.inr ⟨_,K,l,by unfold v6;rw[if_neg (by omega)];simp,rfl,fun k hk=>.inl hk,hS.keep fun k hk=>I.hJ.block k (hKl k hk)⟩⟩
  ·refine goZ [kmT N 64,kC func41 za8,lS underlying81 (ad:=ad) (n:=l.length) (cap:=cap) rfl,keF N l.length] I fun β a w1 I hb=>?_;exact qj [Sum.inl (.bool false)] func41 I (fun w'=>Below w1.heap.size w1 w') (ask_f w1) fun w' hb=>⟨I.df,I.hJ.trans (hb.mono I.hJ.size),.inl ⟨by unfold v6;rw[if_neg (by omega)];simp[hl],rfl⟩⟩
def rdC (S:List UInt8) (p most:Nat):Option Nat:=if p+32≤S.length then(if nm ((S.drop p).take 32)≤most then some (nm ((S.drop p).take 32))else none)else none
def rdX (S:List UInt8) (p:Nat):Option (List UInt8×Nat):=(rdC S p 16384).bind fun n=>if p+32+n+pad n≤S.length∧∀ b∈(S.drop (p+32+n)).take (pad n),b=0 then some ((S.drop (p+32)).take n,p+32+n+pad n)else none
theorem count_bad{g:Nat}{S:List UInt8}{p most:Nat}{w:World}(hr:zb w g #[str S,Z p])(hS:S.length<1000000000000)(hp:p≤S.length)(hm:most<1000000000)(hn:rdC S p most=none) :
  Calls prog 103 #[ye g,Z most] w fun e w'=>e=.panicked PErr∧zi (fun k=>k≠g) w w':=by
 have hlt:=hr.lt;refine inG (J:=RO w g 5 1 (.slice none 0 0) 0 []) (F:=ROF w g (.slice none 0 0)) [Z most] func103 (RO.start _ _ _ _) hr RO.not fun a I=>?_;refine goQ [] (RO.rs _ _ _ _ _ _ _) I fun β a w0 I hb=>?_;have hb0:β 0=g:=agr hb 0 rfl;rcases Nat.lt_or_ge S.length (p+32)with h32 | h32
 ·have hc:=take_bad (n:=32) (I.rowAt 0 (r:=#[str S,Z p])) hS hp h32 (by decide);refine qj [Sum.inr (0,0),Sum.inl (Z (32:Nat))] func70 I (fun w'=>zi (fun k=>k≠β 0) w0 w') hc fun w' hg=>⟨I.df,rfl,?_⟩
  rw[hb0]at hg;exact I.hJ.gr.trans hg
 ·have hl32:((S.drop p).take 32).length≤32:=by rw[List.length_take];omega
  have hW:most<W:=Nat.lt_trans hm (by decide);have hgt:most<nm ((S.drop p).take 32):=by
   unfold rdC at hn;rw[if_pos h32]at hn;split at hn
   ·cases hn
   ·omega
  refine zb1 [Z (32:Nat)] func70 #[str S,Z p] #[str S,Z (p+32:Nat)] I hb0 hlt (zaw (I.rowG 0 hb0 (r:=#[str S,Z p])) hS (by omega) h32) fun w1 I=>?_;refine goQ [kC func100 (vv _ hl32)] (RO.rs _ _ _ _ _ _ _) I fun β2 a w2 I hb2=>?_;have hcmp:¬ cmpN (nm ((S.drop p).take 32)) most≤0:=by
   have e:cmpN (nm ((S.drop p).take 32)) most=1:=by
    unfold cmpN;rw[if_neg (by omega),if_pos hgt]
   rw[e];decide
  refine dwQ 5 [kC func84 (zap most (by omega)),kC func137 (cmp_any (nm ((S.drop p).take 32)) most (nm_lt _ hl32) hW),bO .leq 3 (ve (x:=cmpN (nm ((S.drop p).take 32)) most) (y:=0) (b:=false) (decide_eq_false hcmp))] (RO.rs _ _ _ _ _ _ _) zd.post I fun a w3 I=>?_;exact qj [Sum.inl (.bool false)] func41 I (fun w'=>Below w3.heap.size w3 w') (ask_f w3) fun w' hb=>⟨I.df,rfl,I.hJ.gr.trans (zi.of_below hb)⟩
theorem vo{S:List UInt8}{p most n:Nat}(h:rdC S p most=some n):p+32≤S.length∧nm ((S.drop p).take 32)=n∧n≤most:=by
 unfold rdC at h;split at h
 ·next h1=>
  split at h
  ·next h2=>cases h;exact⟨h1,rfl,h2⟩
  ·cases h
 ·cases h
theorem tail_bad{g:Nat}{S:List UInt8}{p:Nat}{w:World}(hr:zb w g #[str S,Z p])(hS:S.length<1000000000000)(hp:p≤S.length)(hn:rdX S p=none) :
  Calls prog 101 #[ye g] w fun e w'=>e=.panicked PErr∧zi (fun k=>k≠g) w w':=by
 have hlt:=hr.lt;refine inG (J:=RO w g 5 1 (.slice none 0 0) 0 []) (F:=ROF w g (.slice none 0 0)) [] func101 (RO.start _ _ _ _) hr RO.not fun a I=>?_;refine goQ [] (RO.rs _ _ _ _ _ _ _) I fun β a w0 I hb=>?_;have hb0:β 0=g:=agr hb 0 rfl;cases hc:rdC S p 16384 with
 | none=>
  refine qj [Sum.inr (0,0),Sum.inl (Z (16384:Nat))] func103 I (fun w'=>zi (fun k=>k≠β 0) w0 w') (count_bad (I.rowAt 0 (r:=#[str S,Z p])) hS hp (by decide) hc) fun w' hg=>⟨I.df,rfl,?_⟩
  rw[hb0]at hg;exact I.hJ.gr.trans hg
 | some n=>
  obtain⟨h32,hnm,hn2⟩:=vo hc;have hpl:pad n≤32:=by unfold pad;omega
  unfold rdX at hn;rw[hc,Option.bind_some]at hn;have hno:¬ (p+32+n+pad n≤S.length∧∀ b∈(S.drop (p+32+n)).take (pad n),b=0):=fun h=>by rw[if_pos h]at hn;cases hn
  have h1:=count_ok (most:=16384) (I.rowG 0 hb0 (r:=#[str S,Z p])) hS h32 (by decide) (by omega);rw[hnm]at h1;refine zb1 [Z (16384:Nat)] func103 #[str S,Z p] #[str S,Z (p+32:Nat)] I hb0 hlt h1 fun w1 I=>?_;refine goQ [] (RO.rs _ _ _ _ _ _ _) I fun β2 a w2 I hb2=>?_;have hb20:β2 0=g:=agr hb2 0 hb0;rcases Nat.lt_or_ge S.length (p+32+n)with hn1 | hn1
  ·refine qj [Sum.inr (0,0),Sum.inl (Z n)] func70 I (fun w'=>zi (fun k=>k≠β2 0) w2 w') (take_bad (n:=n) (I.rowAt 0 (r:=#[str S,Z (p+32:Nat)])) hS (by omega) hn1 (by omega)) fun w' hg=>⟨I.df,rfl,?_⟩
   rw[hb20]at hg;exact I.hJ.gr.trans hg
  refine zb1 [Z n] func70 #[str S,Z (p+32:Nat)] #[str S,Z (p+32+n:Nat)] I hb20 hlt (zaw (I.rowG 0 hb20 (r:=#[str S,Z (p+32:Nat)])) hS (by omega) (by omega)) fun w3 I=>?_;refine goQ [kC func122 (zcv n (by omega))] (RO.rs _ _ _ _ _ _ _) I fun β4 a w4 I hb4=>?_;have hb40:β4 0=g:=agr hb4 0 hb20;rcases Nat.lt_or_ge S.length (p+32+n+pad n)with hn3 | hn3
  ·refine qj [Sum.inr (0,0),Sum.inl (Z (pad n:Nat))] func70 I (fun w'=>zi (fun k=>k≠β4 0) w4 w') (take_bad (n:=pad n) (I.rowAt 0 (r:=#[str S,Z (p+32+n:Nat)])) hS (by omega) hn3 (by omega)) fun w' hg=>⟨I.df,rfl,?_⟩
   rw[hb40]at hg;exact I.hJ.gr.trans hg
  refine zb1 [Z (pad n:Nat)] func70 #[str S,Z (p+32+n:Nat)] #[str S,Z (p+32+n+pad n:Nat)] I hb40 hlt (zaw (I.rowG 0 hb40 (r:=#[str S,Z (p+32+n:Nat)])) hS (by omega) (by omega)) fun w5 I=>?_;have hz:¬ trm ((S.drop (p+32+n)).take (pad n))=[]:=fun h=>hno ⟨hn3,(trm_nil _).1 h⟩
  refine goQ [kC func135 (trim_any ((S.drop (p+32+n)).take (pad n)) (by rw[List.length_take];omega)),bO .eql 9 (yt (a:=trm ((S.drop (p+32+n)).take (pad n))) (b:=[]) (q:=false) (decide_eq_false hz))] (RO.rs _ _ _ _ _ _ _) I fun β6 a w6 I hb6=>?_;exact qj [Sum.inl (.bool false)] func41 I (fun w'=>Below w6.heap.size w6 w') (ask_f w6) fun w' hb=>⟨I.df,rfl,I.hJ.gr.trans (zi.of_below hb)⟩
end Go.Proofs.YtdeompgdhaomgaaGreatDoor
