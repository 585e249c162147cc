/- Laid one behind the other: Vo, Vp, Vq, Vr, Vs, Vt, Vu. -/
import Derived.Test.YtdeompgdhaomgaaGreatDoorKtVi
namespace Go.Proofs.YtdeompgdhaomgaaGreatDoor
open Go.RowKit Go.Sort Go.Proofs.Tryz
set_option linter.unusedVariables false
set_option maxRecDepth 100000
set_option maxHeartbeats 4000000
section
variable {P:Program} {ops:Array Oper} {Q:Exit→Act→World→Prop}
theorem chainR{a:Act}{w:World}(m N:Nat)(hb:qi ops=true)(hB:kn ops=true)(hN:ops.size=N)(hmN:m≤N)(hch:∀ i,m<i→i<N→ya ops i (i-1)=true)(qv:Nat→Value)(Dat:Nat→(Nat→Value)→World→Prop)(hext:∀ k vs vs' w,(∀ j,m≤j→vs j=vs' j)→Dat k vs w→Dat k vs' w)(h0:∀ w1,w1=w∨w1={ w with drawn:=w.drawn+1 }→Dat m (fun _=>undef) w1)(hq:∀ i o,i<m→ops[i]? = some o→∀ za vs a' w' k,Frm ops vs a za a'→m≤k→k≤N→Dat k vs w'→(i∈Region.ready .any ops za)→(∀ j,j<m→za.getD j false=true→vs j=qv j)→wpG ops o P a' w' (fun a'' w''=>a''=a'.put o.dst (qv i)∧w''=w') Q)(hc:∀ i o,m≤i→i<N→ops[i]? = some o→∀ za vs a' w',Frm ops vs a za a'→(i∈Region.ready .any ops za)→(∀ j,j<m→za.getD j false=true→vs j=qv j)→Dat i vs w'→wpG ops o P a' w' (fun a'' w''=>∃ v,a''=a'.put o.dst v∧Dat (i+1) (fun j=>if j=i then v else vs j) w'') Q)(hend:∀ za vs a' w',(∀ i,i<ops.size→za.getD i false=true)→Frm ops vs a za a'→(∀ j,j<m→vs j=qv j)→Dat N vs w'→Q .normal a' w'):RegV P ops Q a w:=by
 refine vu hb hB (fun za vs w'=>∃ k,m≤k∧k≤N∧(∀ i,m≤i→i<N→(za.getD i false=true↔i<k))∧(∀ j,j<m→za.getD j false=true→vs j=qv j)∧Dat k vs w') ?_ ?_ ?_
 ·intro w1 h1;have hf:∀ j,¬ (Array.replicate ops.size false).getD j false=true:=fun j h=>by
   rw[Array.getD_eq_getD_getElem?,Array.getElem?_replicate]at h;split at h<;>simp at h
  exact⟨m,Nat.le_refl _,hmN,fun i hi _=>⟨fun h=>absurd h (hf i),fun h=>absurd h (by omega)⟩,fun j _ h=>absurd h (hf j),h0 w1 h1⟩
 ·rintro za vs a' w' i o hs ho hi hF ⟨k,hk1,hk2,hl,hv,hD⟩;have hun:=zai hi hs;have hio:i<N:=by rw[← hN];exact(Array.getElem?_eq_some_iff.1 ho).1
  rcases Nat.lt_or_ge i m with him|him
  ·refine yq (fun a'' w'' h=>?_) (hq i o him ho za vs a' w' k hF hk1 hk2 hD hi hv);obtain⟨rfl,rfl⟩:=h;refine⟨qv i,rfl,k,hk1,hk2,fun j hj hjN=>?_,fun j hj h=>?_,hext k vs _ _ (fun j hj=>?_) hD⟩
   ·rw[← hl j hj hjN];exact⟨fun h=>(zm h).resolve_left (by omega),z6⟩
   ·by_cases e:j=i
    ·subst e;simp
    ·simp only[if_neg e];exact hv j hj ((zm h).resolve_left e)
   ·simp only[if_neg (show ¬ j=i by omega)]
  ·have hki:k=i:=by
    have h1:k≤i:=Nat.le_of_not_lt fun h=>hun ((hl i him hio).2 h)
    rcases Nat.eq_or_lt_of_le h1 with h|h
    ·exact h
    ·have h2:=zk (hch i (by omega) hio) hi;have:=(hl (i-1) (by omega) (by omega)).1 h2;omega
   subst hki;refine yq (fun a'' w'' h=>?_) (hc k o him hio ho za vs a' w' hF hi hv hD);obtain⟨v,rfl,hD'⟩:=h;refine⟨v,rfl,k+1,by omega,by omega,fun j hj hjN=>?_,fun j hj h=>?_,hD'⟩
   ·by_cases e:j=k
    ·subst e;refine⟨fun _=>Nat.lt_succ_self _,fun _=>?_⟩;rw[Array.getD_eq_getD_getElem?,Array.getElem?_setIfInBounds,if_pos rfl,if_pos (by omega)];rfl
    ·have h12:=hl j hj hjN;exact⟨fun h=>Nat.lt_succ_of_lt (h12.1 ((zm h).resolve_left e)),fun h=>z6 (h12.2 (by omega))⟩
   ·simp only[if_neg (show ¬ j=k by omega)];exact hv j hj ((zm h).resolve_left (by omega))
 ·rintro za vs a' w' hd hF ⟨k,hk1,hk2,hl,hv,hD⟩;have hkN:k=N:=by
   rcases Nat.eq_or_lt_of_le hk2 with h|h
   ·exact h
   ·have:=(hl k hk1 h).1 (hd k (by omega));omega
  subst hkN;exact hend za vs a' w' hd hF (fun j hj=>hv j hj (hd j (by omega))) hD
variable {J:World→Prop} {F:Nat→Prop} {ds:List Deferred} {β:Nat→Nat} {c:Cf} {a:Act} {w:World}
theorem at_reg{ks:List Ki}(hm:P.follows .mixedOrders=true)(hc:drQ c=some (ops,ks))(h:RegV P ops (QK P Q ks) a w):At P Q c a w:=by
 unfold drQ at hc;split at hc
 ·next rid ops' ks' hd hr hk=>
  cases hc;refine⟨?_⟩;unfold AtD;rw[hd,hr,hk];show(Code.region rid ops true).wp P (QK P Q ks) a w;exact RegV.wp hm h
 ·cases hc
def putTm (ops:Array Oper) (vs:Nat→Value) (tm:Vs):Vs:=(List.range tm.length).map fun t=>match wr ops t with | some i=>some (Sum.inl (vs i)) | none=>(tm[t]?).join
theorem put_fr{vs:Nat→Value}{a':Act}{za:Array Bool}{tm:Vs}(ha:a.tmps=(tm.map (upO β)).toArray)(hd:∀ i,i<ops.size→za.getD i false=true)(hF:Frm ops vs a za a'):a'.tmps=((putTm ops vs tm).map (upO β)).toArray∧a'.defers=a.defers:=by
 obtain⟨h1,h2,h3⟩:=hF;refine⟨?_,h1⟩;have hsz:a.tmps.size=tm.length:=by rw[ha];simp
 apply Array.ext_getElem?;intro t;by_cases ht:t<a.tmps.size
 ·rw[h3 t ht];have ht':t<tm.length:=by omega
  have e0:a.tmps[t]? = some (upO β (tm[t]?).join):=by
   rw[ha];simp[List.getElem?_eq_getElem ht']
  simp only[List.getElem?_toArray,putTm,List.getElem?_map,List.getElem?_range ht',Option.map_some];cases hw:wr ops t with
  | none=>exact e0
  | some i=>
   have hi:i<ops.size:=by
    have:=List.mem_of_find?_eq_some hw;simpa using this
   simp only[];rw[if_pos (hd i hi)];rfl
 ·rw[Array.getElem?_eq_none (by omega),Array.getElem?_eq_none (by simp[putTm];omega)]
end
def LFs {α:Type} (K:Nat→Prop) (w:World) (L:Value→α→Prop) (v:Value) (l:List (Int×Nat×ByteArray×α)):Prop:=
 ∃ ad cap,v=.slice ad l.length cap∧∀(i:Nat) (t:Int×Nat×ByteArray×α),l[i]? = some t→∃ g off lv,ad=some ⟨g,off,none⟩∧K g∧zo w g (off+i*7) (zaj t.1 t.2.1 t.2.2.1 lv)∧L lv t.2.2.2
def LAf (K:Nat→Prop) (w:World):(n:Nat)→Value→TL n→Prop
 | 0,v,_=>∃ ad cap,v=.slice ad 0 cap
 | n+1,v,l=>LFs K w (LAf K w n) v l
theorem LAf.keep{K:Nat→Prop}{w w':World}(h:∀ k,K k→w'.heap[k]? = w.heap[k]?):∀{n:Nat} {v:Value} {l:TL n},LAf K w n v l→LAf K w' n v l
 | 0,v,l,H=>H
 | n+1,v,l,H=>by
  obtain⟨ad,cap,hv,hm⟩:=H;refine⟨ad,cap,hv,fun i t hi=>?_⟩;obtain⟨g,off,iv,h1,h2,h3,h4⟩:=hm i t hi;exact⟨g,off,iv,h1,h2,h3.keep (h g h2),LAf.keep h h4⟩
theorem LAf.mono{K K':Nat→Prop}{w:World}(h:∀ k,K k→K' k):∀{n:Nat} {v:Value} {l:TL n},LAf K w n v l→LAf K' w n v l
 | 0,v,l,H=>H
 | n+1,v,l,H=>by
  obtain⟨ad,cap,hv,hm⟩:=H;refine⟨ad,cap,hv,fun i t hi=>?_⟩;obtain⟨g,off,iv,h1,h2,h3,h4⟩:=hm i t hi;exact⟨g,off,iv,h1,h g h2,h3,LAf.mono h h4⟩
theorem LAf.slice{K:Nat→Prop}{w:World}:∀{n:Nat} {v:Value} {l:TL n},LAf K w n v l→∃ ad m cap,v=.slice ad m cap
 | 0,v,l,h=>by obtain⟨ad,cap,hv⟩:=h;exact⟨ad,0,cap,hv⟩
 | n+1,v,l,h=>by obtain⟨ad,cap,hv,_⟩:=h;exact⟨ad,_,cap,hv⟩
theorem LAf.la{K:Nat→Prop}{w:World}:∀{n:Nat} {v:Value} {l:TL n},LAf K w n v l→LA w n v l
 | 0,v,l,h=>h
 | n+1,v,l,h=>by
  obtain⟨ad,cap,hv,hm⟩:=h;refine⟨ad,cap,hv,fun i t hi=>?_⟩;obtain⟨g,off,iv,h1,h2,h3,h4⟩:=hm i t hi;exact⟨g,off,iv,h1,h3,h4.la⟩
def yf:(n:Nat)→TL n
 | 0=>()
 | n+1=>([]:List (TT n))
theorem LAf.nil(K:Nat→Prop)(w:World):∀ n,LAf K w n (.slice none 0 0) (yf n)
 | 0=>⟨none,0,rfl⟩
 | n+1=>⟨none,0,rfl,fun i t h=>by
  have h':([]:List (TT n))[i]? = some t:=h;simp at h'⟩
abbrev tx (x:Int×Nat×ByteArray×Value):List Value:=zaj x.1 x.2.1 x.2.2.1 x.2.2.2
def InT (K:Nat→Prop) (w:World) (n:Nat) (X:List (Int×Nat×ByteArray×Value)) (l:List (TT n)):Prop:=X.length=l.length∧∀(i:Nat) (x:Int×Nat×ByteArray×Value) (t:TT n),X[i]? = some x→l[i]? = some t→x.1=t.1∧x.2.1=t.2.1∧x.2.2.1=t.2.2.1∧LAf K w n x.2.2.2 t.2.2.2
theorem InT.keep{K:Nat→Prop}{w w':World}(h:∀ k,K k→w'.heap[k]? = w.heap[k]?){n:Nat}{X:List (Int×Nat×ByteArray×Value)}{l:List (TT n)}(H:InT K w n X l):InT K w' n X l:=
 ⟨H.1,fun i x t hx ht=>⟨(H.2 i x t hx ht).1,(H.2 i x t hx ht).2.1,(H.2 i x t hx ht).2.2.1,(H.2 i x t hx ht).2.2.2.keep h⟩⟩
theorem InT.mono{K K':Nat→Prop}{w:World}(h:∀ k,K k→K' k){n:Nat}{X:List (Int×Nat×ByteArray×Value)}{l:List (TT n)}(H:InT K w n X l):InT K' w n X l:=
 ⟨H.1,fun i x t hx ht=>⟨(H.2 i x t hx ht).1,(H.2 i x t hx ht).2.1,(H.2 i x t hx ht).2.2.1,(H.2 i x t hx ht).2.2.2.mono h⟩⟩
theorem InT.snoc{K:Nat→Prop}{w:World}{n:Nat}{X:List (Int×Nat×ByteArray×Value)}{l:List (TT n)}(H:InT K w n X l){lv:Value}{t:TT n}(h:LAf K w n lv t.2.2.2):InT K w n (X++[(t.1,t.2.1,t.2.2.1,lv)]) (l++[t]):=by
 refine⟨by simp[H.1],fun i x u hx hu=>?_⟩;rcases Nat.lt_or_ge i X.length with h1 | h1
 ·rw[List.getElem?_append_left h1]at hx;rw[List.getElem?_append_left (by rw[← H.1];exact h1)]at hu;exact H.2 i x u hx hu
 ·rw[List.getElem?_append_right h1]at hx;rw[List.getElem?_append_right (by rw[← H.1];exact h1)]at hu;have hi0:i-X.length=0:=by
   rcases Nat.eq_zero_or_pos (i-X.length)with h2|h2
   ·exact h2
   ·rw[List.getElem?_eq_none (by simp;omega)]at hx;cases hx
  rw[hi0]at hx;rw[← H.1,hi0]at hu;simp only[List.getElem?_cons_zero,Option.some.injEq]at hx hu;subst hx hu;exact⟨rfl,rfl,rfl,h⟩
theorem flat_at7{q:Int×Nat×ByteArray×Value}{j:Nat}{c:Value}(hc:(tx q)[j]? = some c):∀{l:List (Int×Nat×ByteArray×Value)} {i:Nat},l[i]? = some q→(l.flatMap tx)[i*7+j]? = some c:=by
 intro l
 induction l with
 | nil=>intro i h;simp at h
 | cons x l ih=>
  intro i h;cases i with
  | zero=>
   simp only[List.getElem?_cons_zero,Option.some.injEq]at h;subst h;rw[List.flatMap_cons,Nat.zero_mul,Nat.zero_add,List.getElem?_append_left (by have:=(List.getElem?_eq_some_iff.1 hc).1;exact this)];exact hc
  | succ i=>
   have hl:(tx x).length=7:=rfl;rw[List.flatMap_cons,List.getElem?_append_right (by rw[hl];omega)];have e:(i+1)*7+j-(tx x).length=i*7+j:=by rw[hl];omega
   rw[e];exact ih (by simpa using h)
theorem LAf_own{K:Nat→Prop}{w:World}{b n:Nat}{v:Value}{X:List (Int×Nat×ByteArray×Value)}{l:List (TT n)}(h:w.ownsRow b 59 7 v X.length (X.flatMap tx))(hK:∀ k,v.ownBlock=some k→K k)(H:InT K w n X l):LAf K w (n+1) v l:=by
 obtain⟨ad,cap,rfl⟩:=z4 h;refine⟨ad,cap,by rw[H.1],fun i t ht=>?_⟩;have hi:i<l.length:=(List.getElem?_eq_some_iff.1 ht).1;obtain⟨x,hx⟩:∃ x,X[i]? = some x:=⟨_,List.getElem?_eq_getElem (by rw[H.1];exact hi)⟩
 obtain⟨e1,e2,e3,e4⟩:=H.2 i x t hx ht;rcases h.2 with⟨hv,hn⟩|⟨g,cap',cur,hv,hb,hg,hnc,hcm,hcs,hct⟩
 ·rw[H.1]at hn;omega
 ·cases hv;refine⟨g,0,x.2.2.2,rfl,hK g rfl,fun j c hc=>?_,e4⟩;rw[← e1,← e2,← e3]at hc;have:=h.cells (g:=g) rfl _ _ (flat_at7 hc hx);rw[xz,← Nat.add_assoc]at this;exact this
def goL {n:Nat} (f:ST n→List UInt8→Nat→Nat→Option (TT n×Nat)) (hd:List UInt8) (p0:Nat):List (ST n)→Nat→Nat→Option (List (TT n)×Nat)
 | [],_,p=>some ([],p)
 | t::l,i,p=>(f t ((hd.drop (i*32)).take 32) (p-p0) p).bind fun x=>(goL f hd p0 l (i+1) x.2).map fun y=>(x.1::y.1,y.2)
def rdL {n:Nat} (f:ST n→List UInt8→Nat→Nat→Option (TT n×Nat)) (S:List UInt8) (l:List (ST n)) (p0:Nat):Option (List (TT n)×Nat):=
 if p0+l.length*32≤S.length then goL f ((S.drop p0).take (l.length*32)) p0 l 0 (p0+l.length*32)else none
def rdT (S:List UInt8):(n:Nat)→ST n→List UInt8→Nat→Nat→Option (TT n×Nat)
 | 0,t,word,ahead,p=>if t.1=0 then some ((0,nm word,⟨#[]⟩,yf 0),p)else if nm word≠ahead then none else if t.1=1 then(rdX S p).map fun x=>((1,0,⟨x.1.toArray⟩,yf 0),x.2)else none
 | n+1,t,word,ahead,p=>if t.1=0 then some ((0,nm word,⟨#[]⟩,yf (n+1)),p)else if nm word≠ahead then none else if t.1=1 then(rdX S p).map fun x=>((1,0,⟨x.1.toArray⟩,yf (n+1)),x.2)
  else(rdC S p 64).bind fun c=>(v6 c t.2.1 t.2.2).bind fun l=>(rdL (rdT S n) S l (p+32)).map fun x=>((2,0,⟨#[]⟩,x.1),x.2)
def okS:(n:Nat)→ST n→Prop
 | 0,t=>t.1=0∨t.1=1
 | n+1,t=>(t.1=0∨t.1=1∨t.1=2)∧(t.2.1=true→List.length (α:=ST n) t.2.2=1)∧∀ u:ST n,List.Mem u t.2.2→okS n u
def q7 (id:Nat):Code→Option (Array Oper)
 | .region i ops _=>if i=id then some ops else none
 | .seq x y=>(q7 id x).or (q7 id y)
 | .cond _ x y=>(q7 id x).or (q7 id y)
 | .block _ x=>q7 id x
 | .loop x=>q7 id x
 | _=>none
section
variable {P:Program} {ops:Array Oper} {Q:Exit→Act→World→Prop} {K:Act→World→Prop} {o:Oper} {a:Act} {w:World}
theorem callG{f : Nat}{fn : Func}{xs : Array Operand}{ts : Array TypeId}(hop : o.op = .call ⟨.value (.func f), xs, ts⟩)(hg : o.guard = none)(hf : P.funcs[f]? = some fn)(hb : fn.body.isNone = false)(hn : (fn.name == "runtime.NumGoroutine") = false){args : Array Value}(hx : xs.map a.eval = args)(h : Calls P f args w fun e w' => match e with | .returned v => K (a.put o.dst v) w' | .panicked ch => Q (.panic ch) a w' | .outgrown => False) : wpG ops o P a w K Q := by
 refine yg hg ?_;have he:(execOp a.eval o).run P w=.ok (.enter f (xs.map a.eval)) w:=by
  unfold execOp;simp only[hop];exact fc_any hf hb hn xs ts a o.type w
 unfold Oper.wp;rw[he,hx,Oper.upon_enter];refine h.mono fun e w' he=>?_;cases e with
 | returned v=>exact he
 | panicked ch=>exact he
 | outgrown=>exact he.elim
theorem moveG{x:Operand}{v:Value}(hop:o.op=.move x)(hg:o.guard=none)(hx:a.eval x=v):wpG ops o P a w (fun a'' w''=>a''=a.put o.dst v∧w''=w) Q:=by
 refine yg hg (xy (v:=v) (w1:=w) ?_ ⟨rfl,rfl⟩);unfold execOp;simp only[hop,hx,Sem.run_pure]
theorem loadG{t:TypeId}{x:Operand}{g:Nat}{c:Array Value}{v:Value}(hop:o.op=.load t x)(hg:o.guard=none)(hx:a.eval x=ye g)(hr:zb w g c)(h:loadV P t c 0=some v):wpG ops o P a w (fun a'' w''=>a''=a.put o.dst v∧w''=w) Q:=by
 refine yg hg (xy (v:=v) (w1:=w) ?_ ⟨rfl,rfl⟩);unfold execOp;simp only[hop,hx,Instr.loadAt,Instr.sureAddr,Sem.run_bind,Sem.run_pure,Result.andThen_ok,run_lv hr h]
theorem buildG{t:TypeId}{xs:Array (Nat×Operand)}{v:Value}(hop:o.op=.build t xs)(hg:o.guard=none)(h:(Instr.build t (xs.map fun(i,x)=>(i,a.eval x))).run P w=.ok v w):wpG ops o P a w (fun a'' w''=>a''=a.put o.dst v∧w''=w) Q:=by
 refine yg hg (xy (v:=v) (w1:=w) ?_ ⟨rfl,rfl⟩);unfold execOp;simp only[hop,Sem.run_bind,h,Result.andThen_ok,Sem.run_pure]
end
theorem op6_0:((((Tryz.f71.body).bind (q7 6)).getD #[])[0]?).map (fun o=>(o.op,o.dst,o.guard))=some (.move (.tmp 0),some 27,none):=by kernel_rfl
theorem op6_1:((((Tryz.f71.body).bind (q7 6)).getD #[])[1]?).map (fun o=>(o.op,o.dst,o.guard))=some (.load 121 (.tmp 5),some 28,none):=by kernel_rfl
theorem op6_2:((((Tryz.f71.body).bind (q7 6)).getD #[])[2]?).map (fun o=>(o.op,o.dst,o.guard))=some (.move (.tmp 0),some 29,none):=by kernel_rfl
theorem op6_3:((((Tryz.f71.body).bind (q7 6)).getD #[])[3]?).map (fun o=>(o.op,o.dst,o.guard))=some (.call ⟨.value (.func 103),#[.tmp 29,.const (Z (64:Nat))],#[119,3]⟩,some 30,none):=by kernel_rfl
theorem op6_4:((((Tryz.f71.body).bind (q7 6)).getD #[])[4]?).map (fun o=>(o.op,o.dst,o.guard))=some (.call ⟨.value (.func 102),#[.tmp 28,.tmp 30],#[121,3]⟩,some 31,none):=by kernel_rfl
theorem op6_5:((((Tryz.f71.body).bind (q7 6)).getD #[])[5]?).map (fun o=>(o.op,o.dst,o.guard))=some (.call ⟨.value (.func 39),#[.tmp 27,.tmp 31],#[119,81]⟩,some 32,none):=by kernel_rfl
theorem op6_6:((((Tryz.f71.body).bind (q7 6)).getD #[])[6]?).map (fun o=>(o.op,o.dst,o.guard))=some (.build 59 #[(0,.const (Z 2)),(3,.tmp 32)],some 33,none):=by kernel_rfl
theorem op6_7:((((Tryz.f71.body).bind (q7 6)).getD #[])[7]?).map (fun o=>(o.op,o.dst,o.guard))=some (.store 59 (.tmp 8) (.tmp 33),none,none):=by kernel_rfl
theorem op_get{i:Nat}{o:Oper}{x:Op}{d:Option Tmp}(h:((((Tryz.f71.body).bind (q7 6)).getD #[])[i]?).map (fun o=>(o.op,o.dst,o.guard))=some (x,d,none))(ho:(((Tryz.f71.body).bind (q7 6)).getD #[])[i]? = some o):o.op=x∧o.dst=d∧o.guard=none:=by
 rw[ho]at h;simp only[Option.map_some,Option.some.injEq,Prod.mk.injEq]at h;exact h
def TermC (n:Nat):Prop:=∀{g:Nat} {S:List UInt8} {p:Nat} {w:World} {t:ST n} {iv:Value} {K:Nat→Prop} {word:List UInt8} {ahead:Nat},zb w g #[str S,Z p]→S.length<10000000000→p≤S.length→word.length≤32→ahead<1000000000000→okS n t→SLA K w n iv t.2.2→(∀ k,K k→k≠g∧k<w.heap.size) →
 Calls prog 71 #[ye g,.agg (sx (t.1,t.2.1,iv)).toArray,str word,Z ahead] w fun e w'=>zi (fun k=>k≠g) w w'∧((rdT S n t word ahead p=none∧e=.panicked PErr)∨∃ tm p' lv K',rdT S n t word ahead p=some (tm,p')∧p≤p'∧p'≤S.length∧e=.returned (.agg (tx (tm.1,tm.2.1,tm.2.2.1,lv)).toArray)∧zb w' g #[str S,Z p']∧(∀ k,K' k→w.heap.size≤k∧k<w'.heap.size)∧LAf K' w' n lv tm.2.2.2)
def WRowC (n:Nat):Prop:=∀{g:Nat} {S:List UInt8} {p:Nat} {w:World} {wv:Value} {l:List (ST n)} {K:Nat→Prop},zb w g #[str S,Z p]→S.length<10000000000→p≤S.length→l.length≤10000→(∀ t∈l,okS n t)→SLA K w (n+1) wv l→(∀ k,K k→k≠g∧k<w.heap.size) →
 Calls prog 39 #[ye g,wv] w fun e w'=>zi (fun k=>k≠g) w w'∧((rdL (rdT S n) S l p=none∧e=.panicked PErr)∨∃ ts p' v K',rdL (rdT S n) S l p=some (ts,p')∧p≤p'∧p'≤S.length∧e=.returned v∧zb w' g #[str S,Z p']∧(∀ k,K' k→w.heap.size≤k∧k<w'.heap.size)∧LAf K' w' (n+1) v ts)
theorem rdX_some{S:List UInt8}{p:Nat}{x:List UInt8×Nat}(h:rdX S p=some x):∃ n,p+32≤S.length∧nm ((S.drop p).take 32)=n∧n≤16384∧p+32+n+pad n≤S.length∧(∀ b∈(S.drop (p+32+n)).take (pad n),b=0)∧x=((S.drop (p+32)).take n,p+32+n+pad n):=by
 unfold rdX at h;cases hc:rdC S p 16384 with
 | none=>rw[hc]at h;cases h
 | some n=>
  rw[hc,Option.bind_some]at h;obtain⟨h1,h2,h3⟩:=vo hc;split at h
  ·next hh=>cases h;exact⟨n,h1,h2,h3,hh.1,hh.2,rfl⟩
  ·cases h
theorem rdT_num{S:List UInt8}{n:Nat}{t:ST n}(h:t.1=0)(word:List UInt8)(ahead p:Nat):rdT S n t word ahead p=some ((0,nm word,⟨#[]⟩,yf n),p):=by
 cases n<;>(unfold rdT;rw[if_pos h])
theorem rdT_off{S:List UInt8}{n:Nat}{t:ST n}(h:t.1≠0){word:List UInt8}{ahead:Nat}(hw:nm word≠ahead)(p:Nat):rdT S n t word ahead p=none:=by
 cases n<;>(unfold rdT;rw[if_neg h,if_pos hw])
theorem rdT_txt{S:List UInt8}{n:Nat}{t:ST n}(h:t.1=1){word:List UInt8}{ahead:Nat}(hw:nm word=ahead)(p:Nat):rdT S n t word ahead p=(rdX S p).map fun x=>((1,0,⟨x.1.toArray⟩,yf n),x.2):=by
 cases n<;>(unfold rdT;rw[if_neg (by rw[h];decide),if_neg (fun h=>h hw),if_pos h])
theorem rdT_lst{S:List UInt8}{n:Nat}{t:ST (n+1)}(h:t.1=2){word:List UInt8}{ahead:Nat}(hw:nm word=ahead)(p:Nat):rdT S (n+1) t word ahead p=(rdC S p 64).bind fun c=>(v6 c t.2.1 t.2.2).bind fun l=>(rdL (rdT S n) S l (p+32)).map fun x=>((2,0,⟨#[]⟩,x.1),x.2):=by
 unfold rdT;rw[if_neg (by rw[h];decide),if_neg (fun h=>h hw),if_neg (by rw[h];decide)];rfl
theorem zac{F:Nat→Prop}{w w':World}{g:Nat}{r:Array Value}(h:zb w g r)(hg:zi F w w')(hF:F g):zb w' g r:=by
 have hl:=h.lt;obtain⟨t,ht⟩:=h;exact⟨t,(hg.block g hl hF).trans ht⟩
abbrev z7:Array Value:=(tx (0,0,⟨#[]⟩,.slice none 0 0)).toArray
structure CR (g b5 b8:Nat) (r5:Array Value) (w6:World) (k:Nat) (w':World):Prop where
 gr:zi (fun k=>k≠g∧k≠b8) w6 w'
 h5:zb w' b5 r5
 h8:k≤7→zb w' b8 z7
theorem CR.next{g b5 b8:Nat}{r5:Array Value}{w6 w' w'':World}{k:Nat}(h:CR g b5 b8 r5 w6 k w')(hk:k≤7)(hg:zi (fun k=>k≠g) w' w'')(h5:b5≠g)(h8:b8≠g):CR g b5 b8 r5 w6 (k+1) w'':=
 ⟨h.gr.trans (hg.mono fun i hi=>hi.1),zac h.h5 hg h5,fun _=>zac (h.h8 hk) hg h8⟩
def SpL (S:List UInt8) (p g b8:Nat) (w6:World) (m:Nat) (many:Bool) (l:List (ST m)) (word:List UInt8) (ahead:Nat) (k:Nat) (vs:Nat→Value) (w':World):Prop:=match k with
 | 3=>zb w' g #[str S,Z p]
 | 4=>∃ c:Nat,vs 3=Z c∧rdC S p 64=some c∧zb w' g #[str S,Z (p+32:Nat)]
 | 5=>∃(c:Nat) (l':List (ST m)) (K':Nat→Prop),rdC S p 64=some c∧v6 c many l=some l'∧zb w' g #[str S,Z (p+32:Nat)]∧(∀ k,K' k→k≠g∧k<w'.heap.size)∧SLA K' w' (m+1) (vs 4) l'
 | 6=>∃(ts:List (TT m)) (p':Nat) (K':Nat→Prop),rdT S (m+1) (2,many,l) word ahead p=some ((2,0,⟨#[]⟩,ts),p')∧p≤p'∧p'≤S.length∧zb w' g #[str S,Z p']∧(∀ k,K' k→w6.heap.size≤k∧k<w'.heap.size)∧LAf K' w' (m+1) (vs 5) ts
 | 7=>∃(ts:List (TT m)) (p':Nat) (K':Nat→Prop) (lv:Value),rdT S (m+1) (2,many,l) word ahead p=some ((2,0,⟨#[]⟩,ts),p')∧p≤p'∧p'≤S.length∧zb w' g #[str S,Z p']∧(∀ k,K' k→w6.heap.size≤k∧k<w'.heap.size)∧LAf K' w' (m+1) lv ts∧vs 6=.agg (tx (2,0,⟨#[]⟩,lv)).toArray
 | 8=>∃(ts:List (TT m)) (p':Nat) (K':Nat→Prop) (lv:Value),rdT S (m+1) (2,many,l) word ahead p=some ((2,0,⟨#[]⟩,ts),p')∧p≤p'∧p'≤S.length∧zb w' g #[str S,Z p']∧(∀ k,K' k→w6.heap.size≤k∧k<w'.heap.size)∧LAf K' w' (m+1) lv ts∧zb w' b8 (tx (2,0,⟨#[]⟩,lv)).toArray
 | _=>False
theorem SpL.ext{S:List UInt8}{p g b8:Nat}{w6:World}{m:Nat}{many:Bool}{l:List (ST m)}{word:List UInt8}{ahead:Nat}{k:Nat}{vs vs':Nat→Value}{w':World}(h:∀ j,3≤j→vs j=vs' j)(H:SpL S p g b8 w6 m many l word ahead k vs w'):SpL S p g b8 w6 m many l word ahead k vs' w':=by
 unfold SpL at H ⊢;split at H
 ·exact H
 ·rw[← h 3 (by omega)];exact H
 ·rw[← h 4 (by omega)];exact H
 ·rw[← h 5 (by omega)];exact H
 ·rw[← h 6 (by omega)];exact H
 ·exact H
 ·exact H
theorem insM_ok{m N:Nat}{many:Bool}{l l':List (ST m)}(h:v6 N many l=some l')(hm:many=true→l.length=1)(hl:∀ u∈l,okS m u):l'.length=N∧N≤64∧∀ u∈l',okS m u:=by
 unfold v6 at h;split at h
 ·cases h
 split at h
 ·next h64 hmy=>
  cases h;have h1:=hm hmy
  match l,h1 with
  | [t],_=>
   refine⟨List.length_replicate,by omega,fun u hu=>?_⟩;rw[List.eq_of_mem_replicate hu];exact hl t List.mem_cons_self
 ·split at h
  ·next h64 _ hN=>cases h;exact⟨hN.symm,by omega,hl⟩
  ·cases h
theorem bd_lst(ad:Option Addr)(n cap:Nat)(w:World):(Instr.build 59 #[(0,Z 2),(3,.slice ad n cap)]).run prog w=.ok (.agg (tx (2,0,⟨#[]⟩,.slice ad n cap)).toArray) w:=by kernel_rfl
theorem map2{α β:Type}(f:α→β)(x y:α):(#[x,y]:Array α).map f=#[f x,f y]:=by simp
theorem SI.row1{β:Nat→Nat}{tm:Vs}{a:Act}{w:World}{r:Array Value}(f1:a.tmps=(tm.map (upO β)).toArray)(f2:a.defers=[])(id:Nat)(h:zb w (β id) r)(nx:Nat)(hn:id<nx)(hid:xo tm nx=true):SI (fun _=>True) (fun _=>False) [] β { ops:=#[],rest:=[],ks:=[],tm:=tm,rows:=[(id,r)],nx:=nx,dn:=none } a w:=by
 refine⟨f1,f2,trivial,?_,fun _ _ h=>h,?_,?_,hid⟩
 ·intro q hq;rw[List.mem_singleton]at hq;subst hq;exact h
 ·intro q hq;rw[List.mem_singleton]at hq;subst hq;exact hn
 ·intro q hq q' hq' hne;rw[List.mem_singleton]at hq hq';subst hq hq';exact absurd rfl hne
theorem ch6:∀ i,3<i→i<8→ya (((Tryz.f71.body).bind (q7 6)).getD #[]) i (i-1)=true:=by
 have h4:ya (((Tryz.f71.body).bind (q7 6)).getD #[]) 4 3=true:=by kernel_rfl
 have h5:ya (((Tryz.f71.body).bind (q7 6)).getD #[]) 5 4=true:=by kernel_rfl
 have h6:ya (((Tryz.f71.body).bind (q7 6)).getD #[]) 6 5=true:=by kernel_rfl
 have h7:ya (((Tryz.f71.body).bind (q7 6)).getD #[]) 7 6=true:=by kernel_rfl
 intro i h1 h2;have:i=4∨i=5∨i=6∨i=7:=by omega
 rcases this with rfl|rfl|rfl|rfl
 ·exact h4
 ·exact h5
 ·exact h6
 ·exact h7
theorem term_list{m:Nat}(hrow:WRowC m){g:Nat}{S:List UInt8}{p:Nat}{w:World}{many:Bool}{l:List (ST m)}{iv:Value}{K:Nat→Prop}{word:List UInt8}{ahead:Nat}(hr:zb w g #[str S,Z p])(hS:S.length<10000000000)(hp:p≤S.length)(hw:word.length≤32)(ha:ahead<1000000000000)(hm1:many=true→l.length=1)(hok:∀ u∈l,okS m u)(hSL:SLA K w (m+1) iv l)(hK:∀ k,K k→k≠g∧k<w.heap.size)(hwa:nm word=ahead) :
  Calls prog 71 #[ye g,.agg (sx (2,many,iv)).toArray,str word,Z ahead] w fun e w'=>zi (fun k=>k≠g) w w'∧((rdT S (m+1) (2,many,l) word ahead p=none∧e=.panicked PErr)∨∃(tm:TT (m+1)) (p':Nat) (lv:Value) (K':Nat→Prop),rdT S (m+1) (2,many,l) word ahead p=some (tm,p')∧p≤p'∧p'≤S.length∧e=.returned (.agg (tx (tm.1,tm.2.1,tm.2.2.1,lv)).toArray)∧zb w' g #[str S,Z p']∧(∀ k,K' k→w.heap.size≤k∧k<w'.heap.size)∧LAf K' w' (m+1) lv tm.2.2.2):=by
 have hlt:=hr.lt;have hT:=rdT_lst (S:=S) (n:=m) (t:=(2,many,l)) rfl hwa p;obtain⟨adi,mi,capi,rfl⟩:=hSL.slice;have hW:ahead<W:=Nat.lt_trans ha (by decide);refine inG (J:=RO w g 5 1 (.slice none 0 0) 0 []) (F:=ROF w g (.slice none 0 0)) [.agg (sx (2,many,.slice adi mi capi)).toArray,str word,Z ahead] func71 (RO.start _ _ _ _) hr RO.not fun a I=>?_
 refine goQ [kt 2 0 false rfl,kC func100 (vv word hw),kC func84 (zap ahead ha),bO .eql 57 (eqU_run (n:=nm word) (m:=ahead) (nm_lt _ hw) hW (q:=true) (decide_eq_true hwa)),kC func41 za8,kt 2 1 false rfl] (RO.rs _ _ _ _ _ _ _) I fun β a w6 I hb=>?_;have hb0:β 0=g:=agr hb 0 rfl;obtain⟨b5,hb5⟩:∃ b,β 1=b:=⟨_,rfl⟩
 obtain⟨b8,hb8⟩:∃ b,β 2=b:=⟨_,rfl⟩
 have r0:=I.rowG 0 hb0 (r:=#[str S,Z p]);have r5:=I.rowG 1 hb5 (r:=(sx (2,many,.slice adi mi capi)).toArray);have r8:=I.rowG 2 hb8 (r:=z7);have n5:b5≠g:=by rw[← hb5,← hb0];exact I.neG 1 0 (by decide) (r:=(sx (2,many,.slice adi mi capi)).toArray) (r':=#[str S,Z p])
 have n8:b8≠g:=by rw[← hb8,← hb0];exact I.neG 2 0 (by decide) (r:=z7) (r':=#[str S,Z p])
 have n85:b8≠b5:=by rw[← hb8,← hb5];exact I.neG 2 1 (by decide) (r:=z7) (r':=(sx (2,many,.slice adi mi capi)).toArray)
 have hgr6:zi (fun k=>k≠g) w w6:=I.hJ.gr;have hsz6:=hgr6.size;have hlt8:=r8.lt;have hSL6:SLA K w6 (m+1) (.slice adi mi capi) l:=hSL.keep fun k hk=>hgr6.block k (hK k hk).2 (hK k hk).1
 have n8w:∀ k,k<w.heap.size→k≠g→k≠b8:=fun k hk hkg e=>I.dis _ (zy (show y9 _ 2=some z7 by kernel_rfl)) (.inl ⟨by rw[hb8,← e];exact hk,by rw[hb8];exact n8⟩)
 have e0:a.eval (.tmp 0)=ye g:=by have:=xn I.fr (x:=.tmp 0) (s:=Sum.inr (0,0)) (by kernel_rfl);rw[this,up,hb0]
 have e5:a.eval (.tmp 5)=ye b5:=by have:=xn I.fr (x:=.tmp 5) (s:=Sum.inr (1,0)) (by kernel_rfl);rw[this,up,hb5]
 have e8:a.eval (.tmp 8)=ye b8:=by have:=xn I.fr (x:=.tmp 8) (s:=Sum.inr (2,0)) (by kernel_rfl);rw[this,up,hb8]
 have hsz:a.tmps.size=34:=by rw[I.fr];kernel_rfl
 refine at_reg (ops:=(((Tryz.f71.body).bind (q7 6)).getD #[])) (ks:=[Sum.inl .ret]) (by kernel_rfl) (by kernel_rfl) ?_;refine chainR 3 8 (by kernel_rfl) (by kernel_rfl) (by kernel_rfl) (by decide) ch6
  (fun i=>if i=1 then .agg (sx (2,many,.slice adi mi capi)).toArray else ye g) (fun k vs w'=>CR g b5 b8 (sx (2,many,.slice adi mi capi)).toArray w6 k w'∧SpL S p g b8 w6 m many l word ahead k vs w') (fun k vs vs' w h H=>⟨H.1,H.2.ext h⟩) ?_ ?_ ?_ ?_
 ·intro w1 h1;have hg1:zi (fun k=>k≠g∧k≠b8) w6 w1:=by rcases h1 with rfl | rfl<;>exact⟨rfl,rfl,rfl,Nat.le_refl _,fun _ _ _=>rfl⟩
  have hh:w1.heap=w6.heap:=by rcases h1 with rfl|rfl<;>rfl
  have hrow':∀{q r},zb w6 q r→zb w1 q r:=fun h=>by obtain⟨t,ht⟩:=h;exact⟨t,by rw[hh];exact ht⟩
  exact⟨⟨hg1,hrow' r5,fun _=>hrow' r8⟩,hrow' r0⟩
 ·intro i o hi ho za vs a' w' k hF hk1 hk2 hD hrd hv;have:i=0∨i=1∨i=2:=by omega
  rcases this with rfl|rfl|rfl
  ·obtain⟨h1,h2,h3⟩:=op_get op6_0 ho;exact moveG h1 h3 ((hF.old (by kernel_rfl)).trans e0)
  ·obtain⟨h1,h2,h3⟩:=op_get op6_1 ho;exact loadG h1 h3 ((hF.old (by kernel_rfl)).trans e5) hD.1.h5 (by kernel_rfl)
  ·obtain⟨h1,h2,h3⟩:=op_get op6_2 ho;exact moveG h1 h3 ((hF.old (by kernel_rfl)).trans e0)
 ·intro i o hi hi8 ho za vs a' w' hF hrd hv hD;obtain⟨hC,hD⟩:=hD;have hgw:zi (fun k=>k≠g) w w':=⟨hC.gr.os.trans hgr6.os,hC.gr.tape.trans hgr6.tape,hC.gr.output.trans hgr6.output,Nat.le_trans hsz6 hC.gr.size,fun k hk hn=>(hC.gr.block k (Nat.lt_of_lt_of_le hk hsz6) ⟨hn,n8w k hk hn⟩).trans (hgr6.block k hk hn)⟩
  have hdf:=hF.1.trans I.df;have:i=3∨i=4∨i=5∨i=6∨i=7:=by omega
  rcases this with rfl|rfl|rfl|rfl|rfl
  ·obtain⟨h1,h2,h3⟩:=op_get op6_3 ho;have hx:(#[.tmp 29,.const (Z (64:Nat))]:Array Operand).map a'.eval=#[ye g,Z (64:Nat)]:=by
    have q1:a'.eval (.tmp 29)=ye g:=(hF.new (i:=2) (by kernel_rfl) (by omega) (zk (by kernel_rfl) hrd)).trans (hv 2 (by omega) (zk (by kernel_rfl) hrd));rw[map2,q1];rfl
   refine callG h1 h3 func103 (by kernel_rfl) (by kernel_rfl) hx ?_;cases hc:rdC S p 64 with
   | none=>
    refine(count_bad hD (by omega) hp (by decide) hc).mono fun e w'' he=>?_;obtain⟨rfl,hg2⟩:=he;exact k8 ⟨hdf,hgw.trans hg2,.inl ⟨by rw[hT,hc];rfl,rfl⟩⟩
   | some c=>
    obtain⟨c1,c2,c3⟩:=vo hc;refine(count_ok (most:=64) hD (by omega) c1 (by decide) (by omega)).mono fun e w'' he=>?_;rw[c2]at he;obtain⟨rfl,hr2,hg2⟩:=he;exact⟨_,rfl,hC.next (by decide) hg2 n5 n8,c,rfl,hc,hr2⟩
  ·obtain⟨h1,h2,h3⟩:=op_get op6_4 ho;obtain⟨c,hvc,hc,hrg⟩:=hD;obtain⟨c1,c2,c3⟩:=vo hc;have hx:(#[.tmp 28,.tmp 30]:Array Operand).map a'.eval=#[.agg #[Z 2,.bool many,.slice adi mi capi],Z c]:=by
    have q1:a'.eval (.tmp 28)=.agg (sx (2,many,.slice adi mi capi)).toArray:=(hF.new (i:=1) (by kernel_rfl) (by omega) (zk (by kernel_rfl) hrd)).trans (hv 1 (by omega) (zk (by kernel_rfl) hrd));have q2:a'.eval (.tmp 30)=Z c:=(hF.new (i:=3) (by kernel_rfl) (by omega) (zk (by kernel_rfl) hrd)).trans hvc;rw[map2,q1,q2]
   refine callG h1 h3 func102 (by kernel_rfl) (by kernel_rfl) hx ?_;have hSLw:SLA K w' (m+1) (.slice adi mi capi) l:=hSL.keep fun k hk=>hgw.block k (hK k hk).2 (hK k hk).1
   have hszw:=hgw.size;refine(inside_any (k:=2) (many:=many) hSLw (fun k hk=>Nat.lt_of_lt_of_le (hK k hk).2 hszw) hm1 c (by omega)).mono fun e w'' he=>?_;obtain⟨hb2,he⟩:=he;rcases he with⟨hn,rfl⟩ | ⟨v,K',l',hi',rfl,hK',hS'⟩
   ·exact k8 ⟨hdf,hgw.trans (zi.of_below hb2),.inl ⟨by rw[hT,hc,Option.bind_some];show(v6 c many l).bind _=none;rw[hn];rfl,rfl⟩⟩
   ·refine⟨_,rfl,hC.next (by decide) (zi.of_below hb2) n5 n8,c,l',K',hc,hi',hrg.below hb2,fun k hk=>?_,hS'⟩;have:=hb2.size;rcases hK' k hk with h | h
    ·exact⟨(hK k h).1,by have:=(hK k h).2;omega⟩
    ·exact⟨by have:=hrg.lt;omega,h.2⟩
  ·obtain⟨h1,h2,h3⟩:=op_get op6_5 ho;obtain⟨c,l',K',hc,hi',hrg,hK',hS'⟩:=hD;obtain⟨c1,c2,c3⟩:=vo hc;obtain⟨i1,i2,i3⟩:=insM_ok hi' hm1 hok;have hx:(#[.tmp 27,.tmp 31]:Array Operand).map a'.eval=#[ye g,vs 4]:=by
    have q1:a'.eval (.tmp 27)=ye g:=(hF.new (i:=0) (by kernel_rfl) (by omega) (zk (by kernel_rfl) hrd)).trans (hv 0 (by omega) (zk (by kernel_rfl) hrd));have q2:a'.eval (.tmp 31)=vs 4:=hF.new (i:=4) (by kernel_rfl) (by omega) (zk (by kernel_rfl) hrd);rw[map2,q1,q2]
   refine callG h1 h3 func39 (by kernel_rfl) (by kernel_rfl) hx ?_;refine(hrow hrg hS (by omega) (by omega) i3 hS' hK').mono fun e w'' he=>?_;obtain⟨hg2,he⟩:=he;have hT2:rdT S (m+1) (2,many,l) word ahead p=(rdL (rdT S m) S l' (p+32)).map fun x=>((2,0,⟨#[]⟩,x.1),x.2):=by rw[hT,hc,Option.bind_some,hi',Option.bind_some]
   rcases he with⟨hn,rfl⟩|⟨ts,p',v,K2,hts,hp1,hp2,rfl,hr2,hK2,hL2⟩
   ·exact k8 ⟨hdf,hgw.trans hg2,.inl ⟨by rw[hT2,hn];rfl,rfl⟩⟩
   ·have hszc:=hC.gr.size;exact⟨_,rfl,hC.next (by decide) hg2 n5 n8,ts,p',K2,by rw[hT2,hts];rfl,by omega,hp2,hr2,fun k hk=>⟨by have:=(hK2 k hk).1;omega,(hK2 k hk).2⟩,hL2⟩
  ·obtain⟨h1,h2,h3⟩:=op_get op6_6 ho;obtain⟨ts,p',K',hts,hp1,hp2,hrg,hK',hL⟩:=hD;obtain⟨adl,ml,capl,hlv⟩:=hL.slice;have q1:a'.eval (.tmp 32)=.slice adl ml capl:=(hF.new (i:=5) (by kernel_rfl) (by omega) (zk (by kernel_rfl) hrd)).trans hlv;refine yq ?_ (buildG h1 h3 (v:=.agg (tx (2,0,⟨#[]⟩,.slice adl ml capl)).toArray) ?_)
   ·rintro a2 w2 ⟨rfl,rfl⟩;exact⟨_,rfl,⟨hC.gr,hC.h5,fun _=>hC.h8 (by decide)⟩,ts,p',K',_,hts,hp1,hp2,hrg,hK',by rw[← hlv];exact hL,rfl⟩
   ·rw[map2];simp only[q1];exact bd_lst adl ml capl w'
  ·obtain⟨h1,h2,h3⟩:=op_get op6_7 ho;obtain⟨ts,p',K',lv,hts,hp1,hp2,hrg,hK',hL,hv6⟩:=hD;obtain⟨adl,ml,capl,rfl⟩:=hL.slice;have q1:a'.eval (.tmp 33)=.agg (tx (2,0,⟨#[]⟩,.slice adl ml capl)).toArray:=(hF.new (i:=6) (by kernel_rfl) (by omega) (zk (by kernel_rfl) hrd)).trans hv6;have q2:a'.eval (.tmp 8)=ye b8:=(hF.old (by kernel_rfl)).trans e8;refine yg h3 (Oper.wp_mono ?_ (v5 59 (.tmp 8) (.tmp 33) h1 q2 q1 rfl (hC.h8 (by decide)) (by kernel_rfl) (Nat.le_refl 7) (by kernel_rfl) (e:=(tx (2,0,⟨#[]⟩,.slice adl ml capl)).toArray) (by kernel_rfl)));rintro a2 w2 ⟨rfl,rfl⟩
   have hg2:zi (fun k=>k≠b8) w' (w'.setRow b8 (tx (2,0,⟨#[]⟩,.slice adl ml capl)).toArray):=grow_setRow w' b8 _ (fun h=>h rfl);have hszc:=hC.gr.size;exact⟨_,rfl,⟨hC.gr.trans (hg2.mono fun i hi=>hi.2),zac hC.h5 hg2 (Ne.symm n85),fun h=>absurd h (by decide)⟩,ts,p',K',_,hts,hp1,hp2,zac hrg hg2 (Ne.symm n8),fun k hk=>⟨(hK' k hk).1,Nat.lt_of_lt_of_le (hK' k hk).2 hg2.size⟩,hL.keep fun k hk=>hg2.block k (hK' k hk).2 (by have:=(hK' k hk).1;omega),(hC.h8 (by decide)).set_same _⟩
 ·intro za vs a' w' hd hF hv hD;obtain⟨hC,ts,p',K',lv,hts,hp1,hp2,hrg,hK',hL,h8⟩:=hD;obtain⟨adl,ml,capl,rfl⟩:=hL.slice;have hgw:zi (fun k=>k≠g) w w':=⟨hC.gr.os.trans hgr6.os,hC.gr.tape.trans hgr6.tape,hC.gr.output.trans hgr6.output,Nat.le_trans hsz6 hC.gr.size,fun k hk hn=>(hC.gr.block k (Nat.lt_of_lt_of_le hk hsz6) ⟨hn,n8w k hk hn⟩).trans (hgr6.block k hk hn)⟩
  obtain⟨f1,f2⟩:=put_fr I.fr hd hF;refine wp_ret (retQ_ok ?_);have I':=SI.row1 f1 (f2.trans I.df) 2 (show zb w' (β 2) (tx (2,0,⟨#[]⟩,.slice adl ml capl)).toArray by rw[hb8];exact h8) 3 (by decide) (by kernel_rfl);exact qb (fn:=Tryz.f71) (v:=.agg (tx (2,0,⟨#[]⟩,.slice adl ml capl)).toArray) I' ⟨hgw,.inr ⟨(2,0,⟨#[]⟩,ts),p',_,K',hts,hp1,hp2,rfl,hrg,fun k hk=>⟨by have:=(hK' k hk).1;omega,(hK' k hk).2⟩,hL⟩⟩
theorem okS_kind:∀{n:Nat} {t:ST n},okS n t→t.1=0∨t.1=1∨(t.1=2∧∃ m,n=m+1)
 | 0,t,h=>h.elim .inl fun h=>.inr (.inl h)
 | n+1,t,h=>h.1.elim .inl fun h=>h.elim (fun h=>.inr (.inl h)) fun h=>.inr (.inr ⟨h,n,rfl⟩)
theorem term_any{n:Nat}(hrow:∀ m,n=m+1→WRowC m):TermC n:=by
 intro g S p w t iv K word ahead hr hS hp hw ha hok hSL hK;have hlt:=hr.lt;have hW:ahead<W:=Nat.lt_trans ha (by decide);rcases okS_kind hok with h0|h1|⟨h2,m,rfl⟩
 ·have hT:=rdT_num (S:=S) h0 word ahead p;obtain⟨adi,mi,capi,rfl⟩:=hSL.slice;obtain⟨k,many,l⟩:=t;simp only at h0;subst h0;refine inG (J:=RO w g 5 1 (.slice none 0 0) 0 []) (F:=ROF w g (.slice none 0 0)) [.agg (sx (0,many,.slice adi mi capi)).toArray,str word,Z ahead] func71 (RO.start _ _ _ _) hr RO.not fun a I=>?_;refine goQ [kt 0 0 true rfl,kC func100 (vv word hw),dO 59 [1] (bd_num (nm word))] (RO.rs _ _ _ _ _ _ _) I fun β a w0 I hb=>?_;have hb0:β 0=g:=agr hb 0 rfl
  exact zh (v:=term7 0 (nm word) [] (.slice none 0 0)) I ⟨I.hJ.gr,.inr ⟨_,p,.slice none 0 0,noK,hT,Nat.le_refl _,hp,rfl,I.rowG 0 hb0 (r:=#[str S,Z p]),fun _ h=>h.elim,LAf.nil _ _ _⟩⟩
 ·obtain⟨adi,mi,capi,rfl⟩:=hSL.slice;obtain⟨k,many,l⟩:=t;simp only at h1;subst h1;refine inG (J:=RO w g 5 1 (.slice none 0 0) 0 []) (F:=ROF w g (.slice none 0 0)) [.agg (sx (1,many,.slice adi mi capi)).toArray,str word,Z ahead] func71 (RO.start _ _ _ _) hr RO.not fun a I=>?_;by_cases hwa:nm word=ahead
  ·have hT:=rdT_txt (S:=S) (n:=n) (t:=(1,many,l)) rfl hwa p;refine goQ [kt 1 0 false rfl,kC func100 (vv word hw),kC func84 (zap ahead ha),bO .eql 57 (eqU_run (n:=nm word) (m:=ahead) (nm_lt _ hw) hW (q:=true) (decide_eq_true hwa)),kC func41 za8,kt 1 1 true rfl] (RO.rs _ _ _ _ _ _ _) I fun β a w0 I hb=>?_;have hb0:β 0=g:=agr hb 0 rfl;cases hX:rdX S p with
   | none=>
    refine qj [Sum.inr (0,0)] func101 I (fun w'=>zi (fun k=>k≠β 0) w0 w') (tail_bad (I.rowAt 0 (r:=#[str S,Z p])) (by omega) hp hX) fun w' hg=>⟨I.df,?_⟩
    rw[hb0]at hg;exact⟨I.hJ.gr.trans hg,.inl ⟨by rw[hT,hX];rfl,rfl⟩⟩
   | some x=>
    obtain⟨c,x1,x2,x3,x4,x5,rfl⟩:=rdX_some hX;refine zb1 [] func101 #[str S,Z p] #[str S,Z (p+32+c+pad c:Nat)] I hb0 hlt (tail_ok (I.rowG 0 hb0 (r:=#[str S,Z p])) (by omega) x1 x2 x3 x4 x5) fun w1 I=>?_;refine goQ [dO 59 [0,2] (bd_txt ((S.drop (p+32)).take c))] (RO.rs _ _ _ _ _ _ _) I fun β2 a w2 I hb2=>?_;have hb20:β2 0=g:=agr hb2 0 hb0;exact zh (v:=term7 1 0 ((S.drop (p+32)).take c) (.slice none 0 0)) I ⟨I.hJ.gr,.inr ⟨_,p+32+c+pad c,.slice none 0 0,noK,by rw[hT,hX];rfl,by omega,x4,rfl,I.rowG 0 hb20 (r:=#[str S,Z (p+32+c+pad c:Nat)]),fun _ h=>h.elim,LAf.nil _ _ _⟩⟩
  ·have hT:=rdT_off (S:=S) (n:=n) (t:=(1,many,l)) (show(1:Int)≠0 by decide) hwa p;refine goQ [kt 1 0 false rfl,kC func100 (vv word hw),kC func84 (zap ahead ha),bO .eql 57 (eqU_run (n:=nm word) (m:=ahead) (nm_lt _ hw) hW (q:=false) (decide_eq_false hwa))] (RO.rs _ _ _ _ _ _ _) I fun β a w0 I hb=>?_;exact qj [Sum.inl (.bool false)] func41 I (fun w'=>Below w0.heap.size w0 w') (ask_f w0) fun w' hb=>⟨I.df,I.hJ.gr.trans (zi.of_below hb),.inl ⟨hT,rfl⟩⟩
 ·obtain⟨k,many,l⟩:=t;simp only at h2;subst h2;obtain⟨_,hm1,hok1⟩:=hok;by_cases hwa:nm word=ahead
  ·exact term_list (hrow m rfl) hr hS hp hw ha hm1 hok1 hSL hK hwa
  ·have hT:=rdT_off (S:=S) (n:=m+1) (t:=(2,many,l)) (show(2:Int)≠0 by decide) hwa p;obtain⟨adi,mi,capi,rfl⟩:=hSL.slice;refine inG (J:=RO w g 5 1 (.slice none 0 0) 0 []) (F:=ROF w g (.slice none 0 0)) [.agg (sx (2,many,.slice adi mi capi)).toArray,str word,Z ahead] func71 (RO.start _ _ _ _) hr RO.not fun a I=>?_;refine goQ [kt 2 0 false rfl,kC func100 (vv word hw),kC func84 (zap ahead ha),bO .eql 57 (eqU_run (n:=nm word) (m:=ahead) (nm_lt _ hw) hW (q:=false) (decide_eq_false hwa))] (RO.rs _ _ _ _ _ _ _) I fun β a w0 I hb=>?_
   exact qj [Sum.inl (.bool false)] func41 I (fun w'=>Below w0.heap.size w0 w') (ask_f w0) fun w' hb=>⟨I.df,I.hJ.gr.trans (zi.of_below hb),.inl ⟨hT,rfl⟩⟩
theorem loadSh{w:World}{g o:Nat}{k:Int}{m:Bool}{iv:Value}(h:zo w g o (sx (k,m,iv))):(loadVar 121 ⟨g,o,none⟩).run prog w=.ok (.agg (sx (k,m,iv)).toArray) w:=by
 have hl:(loadCells ⟨g,o,none⟩ 3).run prog w=.ok (sx (k,m,iv)).toArray w:=by
  have:=run_loadCells_list (P:=prog) w ⟨g,o,none⟩ (sx (k,m,iv)) (fun j c hc=>by
   rw[xz];exact h j c hc)
  exact this
 have hA:(isAgg 121).run prog w=.ok true w:=by
  unfold isAgg;simp only[Sem.run_bind,run_underlying underlying121,Result.andThen_ok];rfl
 have hS:(sizeOf 121).run prog w=.ok 3 w:=by
  obtain⟨i,hi,_,hs,_⟩:=hI71;simp[sizeOf,typeInfo,hi,hs]
 unfold loadVar;simp only[Sem.run_bind,hA,Result.andThen_ok,if_true,hS,hl,Sem.run_pure]
structure LK (K:Nat→Prop) (lo n:Nat) (v:Value) (l:TL n) (w:World):Prop where
 kb:∀ k,K k→lo≤k∧k<w.heap.size
 la:LAf K w n v l
theorem LK.rs(K:Nat→Prop)(lo n:Nat)(v:Value)(l:TL n):yw (LK K lo n v l) K:=
 ⟨fun w w' h gr=>⟨fun k hk=>⟨(h.kb k hk).1,Nat.lt_of_lt_of_le (h.kb k hk).2 gr.size⟩,h.la.keep fun k hk=>gr.block k (h.kb k hk).2 hk⟩,fun w k h hk=>(h.kb k hk).2⟩
structure WJ (wE:World) (g n:Nat) (v:Value) (X:List (Int×Nat×ByteArray×Value)) (l:List (TT n)) (K:Nat→Prop) (w:World):Prop where
 ro:RO wE g 59 7 v X.length (X.flatMap tx) w
 kb:∀ k,K k→wE.heap.size≤k∧k<w.heap.size∧v.ownBlock≠some k
 inn:InT K w n X l
def WJF (wE:World) (g:Nat) (v:Value) (K:Nat→Prop) (k:Nat):Prop:=(k<wE.heap.size∧k≠g)∨v.ownBlock=some k∨K k
theorem WJ.rs(wE:World)(g n:Nat)(v:Value)(X:List (Int×Nat×ByteArray×Value))(l:List (TT n))(K:Nat→Prop):yw (WJ wE g n v X l K) (WJF wE g v K):=by
 refine⟨fun w w' h gr=>⟨(RO.rs wE g 59 7 v X.length (X.flatMap tx)).loc w w' h.ro ⟨gr.os,gr.tape,gr.output,gr.size,fun k hk hF=>gr.block k hk (hF.elim .inl fun h=>.inr (.inl h))⟩,fun k hk=>⟨(h.kb k hk).1,Nat.lt_of_lt_of_le (h.kb k hk).2.1 gr.size,(h.kb k hk).2.2⟩,h.inn.keep fun k hk=>gr.block k (h.kb k hk).2.1 (.inr (.inr hk))⟩,fun w k h hk=>?_⟩;rcases hk with hk | hk | hk
 ·exact Nat.lt_of_lt_of_le hk.1 h.ro.gr.size
 ·exact(h.ro.own.lt k hk).2
 ·exact(h.kb k hk).2.1
theorem WJ.start(w:World)(g n:Nat):WJ w g n (.slice none 0 0) [] [] noK w:=⟨RO.start _ _ _ _,fun _ h=>h.elim,rfl,fun i x t h=>by simp at h⟩
theorem WJ.not{w:World}{g:Nat}:¬ WJF w g (.slice none 0 0) noK g:=by
 intro h;rcases h with h|h|h
 ·exact h.2 rfl
 ·cases h
 ·exact h
theorem goL_step{n:Nat}{f:ST n→List UInt8→Nat→Nat→Option (TT n×Nat)}{hd:List UInt8}{p0:Nat}{l:List (ST n)}{i p:Nat}{t:ST n}(h:l[i]? = some t):goL f hd p0 (l.drop i) i p=(f t ((hd.drop (i*32)).take 32) (p-p0) p).bind fun x=>(goL f hd p0 (l.drop (i+1)) (i+1) x.2).map fun y=>(x.1::y.1,y.2):=by
 obtain⟨h1,h2⟩:=List.getElem?_eq_some_iff.1 h;rw[List.drop_eq_getElem_cons h1,h2];rfl
theorem callP{P:Program}{Q:Exit→Act→World→Prop}{N:Act→World→Prop}{ks:List Ki}{c:Cf}{a:Act}{ch:List PanicEntry}{w:World}(k:Q (.panic ch) a w):CallE P (Exit.then N (QK P Q ks)) c a (.panicked ch) w:=k8 k
theorem wrow_of{n:Nat}(hterm:TermC n):WRowC n:=by
 intro g S p0 w wv l Ks hr hS0 hp0 hl hok hSL hKs;have hlt:=hr.lt;have hS:S.length<1000000000000:=by omega
 obtain⟨adw,capw,rfl,hmem⟩:=hSL;refine inG (J:=WJ w g n (.slice none 0 0) [] [] noK) (F:=WJF w g (.slice none 0 0) noK) [.slice adw l.length capw] func39 (WJ.start _ _ _) hr WJ.not fun a I=>?_;refine goQ [lS underlying81 (ad:=adw) (n:=l.length) (cap:=capw) rfl,bO .mul 3 (yo (x:=l.length) (y:=32) (z:=(l.length*32:Nat)) (by rw[wz (by omega) (by omega)];omega))] (WJ.rs _ _ _ _ _ _ _) I fun β a w0 I hb=>?_;have hb0:β 0=g:=agr hb 0 rfl;obtain⟨P0,hP0⟩:∃ P0,p0+l.length*32=P0:=⟨_,rfl⟩
 rcases Nat.lt_or_ge S.length P0 with hbad|hP
 ·refine qj [Sum.inr (0,0),Sum.inl (Z (l.length*32:Nat))] func70 I (fun w'=>zi (fun k=>k≠β 0) w0 w') (take_bad (n:=l.length*32) (I.rowAt 0 (r:=#[str S,Z p0])) hS hp0 (by omega) (by omega)) fun w' hg=>⟨I.df,?_⟩
  rw[hb0]at hg;exact⟨I.hJ.ro.gr.trans hg,.inl ⟨by unfold rdL;rw[if_neg (by omega)],rfl⟩⟩
 have hrd:rdL (rdT S n) S l p0=goL (rdT S n) (hdW S p0 l.length) p0 l 0 P0:=by unfold rdL;rw[if_pos (by omega),hP0]
 rw[hrd];have hf:∀{v:Value} {X:List (Int×Nat×ByteArray×Value)} {ts:List (TT n)} {K:Nat→Prop} {w1 w2:World},WJ w g n v X ts K w1→zi (fun k=>k≠g) w1 w2→WJ w g n v X ts K w2:=by
  intro v X ts K w1 w2 h hg;have hne:∀ k,v.ownBlock=some k→k≠g:=fun k hk e=>by have:=(h.ro.own.lt k hk).1;omega
  exact⟨⟨h.ro.gr.trans hg,x9 h.ro.own hg hne⟩,fun k hk=>⟨(h.kb k hk).1,Nat.lt_of_lt_of_le (h.kb k hk).2.1 hg.size,(h.kb k hk).2.2⟩,h.inn.keep fun k hk=>hg.block k (h.kb k hk).2.1 (by have:=(h.kb k hk).1;omega)⟩
 refine yp (ss:=[Sum.inr (0,0),Sum.inl (Z (l.length*32:Nat))]) func70 I ?_;refine(zaw (n:=l.length*32) (I.rowAt 0 (r:=#[str S,Z p0])) hS hp0 (by omega)).mono fun e w1 he=>?_;rw[hb0,hP0]at he;obtain⟨rfl,hr1,hg1⟩:=he;refine(vp (id:=0) (r:=#[str S,Z P0])).1 ?_;have I1:SI (WJ w g n (.slice none 0 0) [] [] noK) (WJF w g (.slice none 0 0) noK) [] β _ _ w1:=I.rowed (id:=0) (r0:=#[str S,Z p0]) (by kernel_rfl) ⟨hg1.os,hg1.tape,hg1.output,hg1.size,fun k hk hn=>hg1.block k hk (by rw[← hb0];exact hn.2)⟩ (by rw[hb0];exact hr1) (hf I.hJ hg1) (fun k hk h=>h) (str (hdW S p0 l.length))
 refine goQ [lS underlying81 (ad:=adw) (n:=l.length) (cap:=capw) rfl] (WJ.rs _ _ _ _ _ _ _) I1 fun β1 a w2 I hb1=>?_;have hb10:β1 0=g:=agr hb1 0 hb0
 let St:Nat→Act→World→Prop:=fun k a w'=>∃(i p:Nat) (β:Nat→Nat) (u:Nat→Value) (ad:Option Addr) (cap:Nat) (X:List (Int×Nat×ByteArray×Value)) (ts:List (TT n)) (K:Nat→Prop),k=l.length-i∧i≤l.length∧β 0=g∧X.length=i∧P0≤p∧p≤S.length ∧
  goL (rdT S n) (hdW S p0 l.length) p0 l 0 P0=(goL (rdT S n) (hdW S p0 l.length) p0 (l.drop i) i p).map (fun y=>(ts++y.1,y.2)) ∧
  SI (WJ w g n (.slice ad i cap) X ts K) (WJF w g (.slice ad i cap) K) [] β
   (cfC (zc Tryz.f39) (zl (zg 45 rrK) u 0 (rrV (.slice adw l.length capw) (str (hdW S p0 l.length)) (.slice ad i cap) p0 l.length i)) [(0,#[str S,Z p])] 1) a w'
 refine lpM (zc Tryz.f39) St l.length ?_ ?_
 ·obtain⟨u,Iu⟩:=I.scr (zc Tryz.f39) (zg 45 rrK) (rrV (.slice adw l.length capw) (str (hdW S p0 l.length)) (.slice none 0 0) p0 l.length 0) [(0,#[str S,Z P0])] 1;exact⟨0,P0,β1,u,none,0,[],[],noK,by omega,Nat.zero_le _,hb10,rfl,Nat.le_refl _,hP,by simp,Iu⟩
 rintro k a3 w3 ⟨i,p,β3,u,ad,cap,X,ts,K,rfl,hi,hb3,hXi,hPp,hpS,hgo,I⟩;refine zv (tm:=zl (zg 45 rrK) u 0 (rrV (.slice adw l.length capw) (str (hdW S p0 l.length)) (.slice ad i cap) p0 l.length i)) (rows:=[(0,#[str S,Z p])]) (nx:=1) ?_;rcases Nat.lt_or_ge i l.length with hil|hil
 ·obtain⟨t,ht⟩:∃ t,l[i]? = some t:=⟨_,List.getElem?_eq_getElem hil⟩
  obtain⟨gw,off,iv,rfl,hKg,hcm,hSi⟩:=hmem i t ht;obtain⟨adi,mi,capi,rfl⟩:=hSi.slice;obtain⟨hgwg,hgwl⟩:=hKs gw hKg;have hok1:=hok t (List.mem_of_getElem? ht);rw[goL_step ht]at hgo;have hld:∀ w',zi (fun k=>k≠g) w w'→(loadVar 121 ⟨gw,off+i*3,none⟩).run prog w'=.ok (.agg (sx (t.1,t.2.1,.slice adi mi capi)).toArray) w':=fun w' hb=>loadSh (hcm.keep (hb.block gw hgwl hgwg))
  have hhl:(hdW S p0 l.length).length=l.length*32:=by rw[List.length_take,List.length_drop];omega
  have hmul:IntKind.i64.wrap ((i:Int)*32)=((i*32:Nat):Int):=by rw[wz (by omega) (by omega)];omega
  refine goT (T:=fun w'=>zi (fun k=>k≠g) w w') [klT i l.length,iA 81 underlying81 (sz:=3) (by kernel_rfl) (g:=gw) (off:=off) (n:=l.length) (cap:=capw) hil,ldA 121 hld] (WJ.rs _ _ _ _ _ _ _) (fun w h=>h.ro.gr) I fun β4 a4 w4 I hb4=>?_;have hb40:β4 0=g:=agr hb4 0 hb3
  refine dwQ 14 [bO .mul 3 (yo (x:=i) (y:=32) hmul),sO 9 (p:=str (hdW S p0 l.length)) (l:=Z (i*32:Nat)) (v:=str ((hdW S p0 l.length).drop (i*32))) (v8 (by omega)),sT 9 (p:=str ((hdW S p0 l.length).drop (i*32))) (l:=Z (32:Nat)) (v:=str (((hdW S p0 l.length).drop (i*32)).take 32)) (to_run (by rw[List.length_drop];omega)),ksZ p p0 (p-p0:Nat)] (WJ.rs _ _ _ _ _ _ _) (zd.then (zd.qk zd.post)) I fun a5 w5 I=>?_;have hgr5:=I.hJ.ro.gr;have hsz5:=hgr5.size;have hr5:=I.rowG 0 hb40 (r:=#[str S,Z p])
  refine yp (ss:=[Sum.inr (0,0),Sum.inl (.agg (sx (t.1,t.2.1,.slice adi mi capi)).toArray),Sum.inl (str (((hdW S p0 l.length).drop (i*32)).take 32)),Sum.inl (Z (p-p0:Nat))]) func71 I ?_;have hcall:=hterm (g:=g) (S:=S) (p:=p) (w:=w5) (t:=t) (iv:=.slice adi mi capi) (K:=Ks) (word:=((hdW S p0 l.length).drop (i*32)).take 32) (ahead:=p-p0) hr5 hS0 hpS (by rw[List.length_take];omega) (by omega) hok1 (hSi.keep fun k hk=>hgr5.block k (hKs k hk).2 (hKs k hk).1) (fun k hk=>⟨(hKs k hk).1,Nat.lt_of_lt_of_le (hKs k hk).2 hsz5⟩)
  have hargs:([Sum.inr (0,0),Sum.inl (.agg (sx (t.1,t.2.1,.slice adi mi capi)).toArray),Sum.inl (str (((hdW S p0 l.length).drop (i*32)).take 32)),Sum.inl (Z (p-p0:Nat))].map (up β4)).toArray=#[ye g,.agg (sx (t.1,t.2.1,.slice adi mi capi)).toArray,str (((hdW S p0 l.length).drop (i*32)).take 32),Z (p-p0:Nat)]:=by simp only[List.map_cons,List.map_nil,up,hb40]
  rw[hargs];refine hcall.mono fun e w6 he=>?_;obtain⟨hg6,he⟩:=he;rcases he with⟨hn,rfl⟩ | ⟨tm,p',lv,K1,hts,hp1,hp2,rfl,hr6,hK1,hL1⟩
  ·have h2:goL (rdT S n) (hdW S p0 l.length) p0 l 0 P0=none:=by rw[hgo,hn];rfl
   refine callP ?_;exact⟨I.df,hgr5.trans hg6,.inl ⟨h2,rfl⟩⟩
  rw[hts,Option.bind_some]at hgo;obtain⟨adl,ml,capl,rfl⟩:=hL1.slice;refine(vp (id:=0) (r:=#[str S,Z p'])).1 ?_;have I6:SI (fun w'=>WJ w g n (.slice ad i cap) X ts K w'∧LK K1 w5.heap.size n (.slice adl ml capl) tm.2.2.2 w') (fun k=>WJF w g (.slice ad i cap) K k∨K1 k) [] β4 _ _ w6:=I.rowed (id:=0) (r0:=#[str S,Z p]) (by kernel_rfl) ⟨hg6.os,hg6.tape,hg6.output,hg6.size,fun k hk hn=>hg6.block k hk (by rw[← hb40];exact hn.2)⟩ (by rw[hb40];exact hr6) ⟨hf I.hJ hg6,hK1,hL1⟩ (fun k hk h=>by
    rcases h with h|h
    ·exact h
    ·have:=(hK1 k h).1;omega) (.agg (tx (tm.1,tm.2.1,tm.2.2.1,Value.slice adl ml capl)).toArray)
  have hRs:=(WJ.rs w g n (.slice ad i cap) X ts K).both (LK.rs K1 w5.heap.size n (.slice adl ml capl) tm.2.2.2);refine bslQ (ss:=[(0,Sum.inl (.agg (tx (tm.1,tm.2.1,tm.2.2.1,Value.slice adl ml capl)).toArray))]) I6 (zaa _ _ _ _ _ _ _ w6) ?_;have I7:=I6.alloc hRs (.cells (tx (tm.1,tm.2.1,tm.2.2.1,Value.slice adl ml capl)).toArray 59) (.slice (some ⟨w6.heap.size,0,none⟩) 1 1);obtain⟨inf,hi1,hi2,hi3,hi4⟩:=hI41;have hown7:=I7.hJ.1.ro.own;rw[hXi]at hown7
  obtain⟨v',w8,hr8,ho8,hg8⟩:=km underlying48 hi1 hi2 hi3 hi4 rfl (by decide) (by decide) hown7 I7.hJ.1.ro.gr.size ⟨w6.heap.size,0,none⟩ (tx (tm.1,tm.2.1,tm.2.2.1,Value.slice adl ml capl)) rfl (xu w6 (tx (tm.1,tm.2.1,tm.2.2.1,Value.slice adl ml capl)).toArray 59) (by intro u hu;simp only[tx,zaj,List.mem_cons,List.not_mem_nil,or_false]at hu;rcases hu with rfl|rfl|rfl|rfl|rfl|rfl|rfl<;>rfl) (by omega);obtain⟨ad8,cap8,rfl⟩:=z4 ho8;refine appQ (ss:=[Sum.inl (.slice ad i cap),Sum.inl (.slice (some ⟨w6.heap.size,0,none⟩) 1 1)]) I7 hr8 ?_
  have hXl1:(X++[(tm.1,tm.2.1,tm.2.2.1,Value.slice adl ml capl)]).length=i+1:=by simp[hXi]
  have hXf:X.flatMap tx++tx (tm.1,tm.2.1,tm.2.2.1,Value.slice adl ml capl)=(X++[(tm.1,tm.2.1,tm.2.2.1,Value.slice adl ml capl)]).flatMap tx:=by simp
  rw[hXf]at ho8;have hk7:∀ k,(K k∨K1 k)→w.heap.size≤k∧k<w6.heap.size∧(Value.slice ad i cap).ownBlock≠some k:=fun k hk=>by
   rcases hk with hk|hk
   ·exact⟨(I6.hJ.1.kb k hk).1,(I6.hJ.1.kb k hk).2.1,(I6.hJ.1.kb k hk).2.2⟩
   ·have:=hK1 k hk;exact⟨by omega,this.2,fun e=>by have:=(I.hJ.ro.own.lt k e).2;omega⟩
  have hsz7:(w6.alloc (.cells (tx (tm.1,tm.2.1,tm.2.2.1,Value.slice adl ml capl)).toArray 59)).heap.size=w6.heap.size+1:=by simp
  have hblk:∀ k,(K k∨K1 k)→w8.heap[k]? = w6.heap[k]? :=fun k hk=>by
   obtain⟨h1,h2,h3⟩:=hk7 k hk;rw[hg8.gr.block k (by omega) fun e=>h3 e.symm];exact(yh w6 _).block k h2
  have hinn8:InT (fun k=>K k∨K1 k) w8 n (X++[(tm.1,tm.2.1,tm.2.2.1,Value.slice adl ml capl)]) (ts++[tm]):=by
   have h1:InT (fun k=>K k∨K1 k) w8 n X ts:=(I6.hJ.1.inn.keep fun k hk=>hblk k (.inl hk)).mono fun k hk=>.inl hk
   have h2:LAf (fun k=>K k∨K1 k) w8 n (.slice adl ml capl) tm.2.2.2:=(hL1.keep fun k hk=>hblk k (.inr hk)).mono fun k hk=>.inr hk
   exact h1.snoc h2
  have hro8:RO w g 59 7 (.slice ad8 (i+1) cap8) (X++[(tm.1,tm.2.1,tm.2.2.1,Value.slice adl ml capl)]).length ((X++[(tm.1,tm.2.1,tm.2.2.1,Value.slice adl ml capl)]).flatMap tx) w8:=by
   have h7:=I7.hJ.1.ro;rw[hXi]at h7;rw[hXl1];exact h7.grown ho8 hg8
  have I8:SI (WJ w g n (.slice ad8 (i+1) cap8) (X++[(tm.1,tm.2.1,tm.2.2.1,Value.slice adl ml capl)]) (ts++[tm]) (fun k=>K k∨K1 k)) (WJF w g (.slice ad8 (i+1) cap8) (fun k=>K k∨K1 k)) [] β4 _ _ w8:=I7.moved ⟨hg8.gr.os,hg8.gr.tape,hg8.gr.output,hg8.gr.size,fun k hk hn=>hg8.gr.block k hk fun e=>hn (.inl (.inr (.inl e.symm)))⟩ ⟨hro8,fun k hk=>by
    obtain⟨h1,h2,h3⟩:=hk7 k hk;have:=hg8.gr.size;refine⟨h1,by omega,fun e=>?_⟩;rcases hg8.nb k e with h4 | h4
    ·exact h3 h4
    ·omega,hinn8⟩ (fun k hk h=>by
    rcases h with h|h|h|h
    ·exact .inl (.inl h)
    ·rcases hg8.nb k h with h4|h4
     ·exact .inl (.inr (.inl h4))
     ·omega
    ·exact .inl (.inr (.inr h))
    ·exact .inr h) (.slice ad8 (i+1) cap8)
  refine goQ [kaZ i 1 (i+1:Nat)] (WJ.rs _ _ _ _ _ _ _) I8 fun β9 a9 w9 I hb9=>?_;have hb90:β9 0=g:=agr hb9 0 hb40;obtain⟨u',Iu⟩:=I.scr (zc Tryz.f39) (zg 45 rrK) (rrV (.slice (some ⟨gw,off,none⟩) l.length capw) (str (hdW S p0 l.length)) (.slice ad8 (i+1) cap8) p0 l.length (i+1)) [(0,#[str S,Z p'])] 1;refine xc ⟨l.length-(i+1),by omega,i+1,p',β9,u',ad8,cap8,_,ts++[tm],_,rfl,hil,hb90,hXl1,by omega,hp2,?_,Iu⟩;rw[hgo,Option.map_map]
  congr 1
  funext y;simp
 ·obtain rfl:i=l.length:=by omega
  refine goQ [bO .lss 3 (zf (x:=l.length) (y:=l.length) (b:=false) (by simp))] (WJ.rs _ _ _ _ _ _ _) I fun β4 a4 w4 I hb4=>?_;have hb40:β4 0=g:=agr hb4 0 hb3;refine xg 0 ?_;refine goQ [] (WJ.rs _ _ _ _ _ _ _) (I.exit _) fun β5 a5 w5 I hb5=>?_;have hb50:β5 0=g:=agr hb5 0 hb40;rw[List.drop_length]at hgo;refine zh (v:=.slice ad l.length cap) I ⟨I.hJ.ro.gr,.inr ⟨ts,p,_,fun k=>K k∨(Value.slice ad l.length cap).ownBlock=some k,by rw[hgo];simp[goL],by omega,hpS,rfl,I.rowG 0 hb50 (r:=#[str S,Z p]),fun k hk=>?_,LAf_own I.hJ.ro.own (fun k hk=>.inr hk) (I.hJ.inn.mono fun k hk=>.inl hk)⟩⟩
  rcases hk with hk|hk
  ·exact⟨(I.hJ.kb k hk).1,(I.hJ.kb k hk).2.1⟩
  ·exact I.hJ.ro.own.lt k hk
theorem wrows_any:∀(n:Nat),WRowC n
 | 0=>wrow_of (term_any fun m h=>by cases h)
 | n+1=>wrow_of (term_any fun m h=>by cases h;exact wrows_any n)
theorem okS_sh:∀(n:Nat) {q:List UInt8},n≤8→Pt n q→okS n (shT n q)
 | 0,q,_,h=>by
  rcases h with rfl|rfl
  ·exact .inl rfl
  ·exact .inr rfl
 | n+1,q,hn,h=>by
  rcases h with rfl|rfl|⟨ps,h,rfl⟩|⟨p,h,rfl⟩
  ·exact⟨.inl rfl,fun h=>(by cases h),fun u hu=>(by cases hu)⟩
  ·exact⟨.inr (.inl rfl),fun h=>(by cases h),fun u hu=>(by cases hu)⟩
  ·
   have e:shT (n+1) (40::(ps.flatten++[41]))=(2,false,ps.map (shT n)):=by
    show(if _ then _ else if _ then _ else _)=_;rw[if_neg (by simp),if_neg (by simp),zad (by omega) h];rfl
   rw[e];refine⟨.inr (.inr rfl),fun h=>(by cases h),fun u hu=>?_⟩;obtain⟨p,hp,rfl⟩:=List.mem_map.1 (show u∈ps.map (shT n)from hu);exact okS_sh n (by omega) (h p hp)
  ·
   have h1:=zad (b:=91) (c:=93) (m:=n) (by omega) (ps:=[p]) (fun q hq=>by rw[List.mem_singleton]at hq;subst hq;exact h);rw[List.flatten_cons,List.flatten_nil,List.append_nil]at h1;have e:shT (n+1) (91::(p++[93]))=(2,true,[shT n p]):=by
    show(if _ then _ else if _ then _ else _)=_;rw[if_neg (by simp),if_neg (by simp),h1];rfl
   rw[e];refine⟨.inr (.inr rfl),fun _=>rfl,fun u hu=>?_⟩;have:=List.mem_singleton.1 (show u∈[shT n p]from hu);subst this;exact okS_sh n (by omega) h
def ku (f S:List UInt8):Option (List (TT 8)):=(xe f).bind fun ps=>(rdL (rdT S 8) S (ps.map (shT 8)) 0).bind fun x=>if x.2=S.length then some x.1 else none
theorem rowRs(g:Nat)(r:Array Value):yw (fun w=>zb w g r) (· = g):=
 ⟨fun w w' h gr=>zac h gr rfl,fun w k h hk=>hk ▸ h.lt⟩
theorem dec1G{f S:List UInt8}(hf:f.length≤1000)(hS:S.length<10000000000){ps pf po:Nat}{w:World}(h1:zb w ps #[str S])(h2:zb w pf #[str f])(h3:zb w po #[.slice none 0 0])(n1:ps≠po)(n2:pf≠po) :
  Calls prog 38 #[ye ps,ye pf,ye po] w fun e w'=>zi (fun k=>k≠po) w w'∧((∃ ts v K,ku f S=some ts∧e=.returned T0∧zb w' po #[v]∧(∀ k,K k→w.heap.size≤k∧k<w'.heap.size)∧LAf K w' 9 v ts)∨(ku f S=none∧e=.panicked PErr∧zb w' po #[.slice none 0 0])):=by
 have l1:=h1.lt;have l2:=h2.lt;have l3:=h3.lt;have hsz:=zn S;have hld1:∀ w',zi (fun k=>k≠po) w w'→(loadVar 9 ⟨ps,0,none⟩).run prog w'=.ok (str S) w':=fun w' hg=>run_lv (c:=#[str S]) (zac h1 hg n1) (by kernel_rfl)
 have hld2:∀ w',zi (fun k=>k≠po) w w'→(loadVar 9 ⟨pf,0,none⟩).run prog w'=.ok (str f) w':=fun w' hg=>run_lv (c:=#[str f]) (zac h2 hg n2) (by kernel_rfl)
 have key:=inR (P:=prog) (J:=RO w po 121 3 (.slice none 0 0) 0 []) (F:=ROF w po (.slice none 0 0)) (β:=fun _=>po) (w:=w) (f:=38) (fn:=Tryz.f38) [Sum.inl (ye ps),Sum.inl (ye pf),Sum.inr (0,0)] (rows:=[(0,#[.slice none 0 0])]) (nx:=1)
  (Rt:=fun e w'=>zi (fun k=>k≠po) w w'∧((∃ ts v K,ku f S=some ts∧e=.returned T0∧zb w' po #[v]∧(∀ k,K k→w.heap.size≤k∧k<w'.heap.size)∧LAf K w' 9 v ts)∨(ku f S=none∧e=.panicked PErr∧zb w' po #[.slice none 0 0]))) func38 (RO.start _ _ _ _) (by intro p hp;simp only[List.mem_singleton]at hp;subst hp;exact h3) (by intro p hp;exact RO.not) (by intro p hp q hq hpq;simp only[List.mem_singleton]at hp hq;subst hp;subst hq;exact absurd rfl hpq)
 refine key fun a I=>?_;refine goT (T:=fun w'=>zi (fun k=>k≠po) w w') [ldA 9 hld1,dO 79 [0] (bd_wr S),ldA 9 hld2] (RO.rs _ _ _ _ _ _ _) (fun _ h=>h.gr) I fun β a w1 I hb=>?_;have hb0:β 0=po:=agr hb 0 rfl;have hsz1:=I.hJ.gr.size;refine yp (ss:=[Sum.inl (str f)]) func40 I ?_;refine(shapes_any f hf w1).mono fun e w2 he=>?_;obtain⟨hb2,he⟩:=he;rcases he with⟨hn,rfl⟩ | ⟨qs,v1,K,hps,rfl,hK,hSL⟩
 ·refine⟨I.df,I.hJ.gr.trans (zi.of_below hb2),.inr ⟨?_,rfl,(I.rowG 0 hb0 (r:=#[.slice none 0 0])).below hb2⟩⟩;unfold ku;rw[hn];rfl
 obtain⟨hfl,hpt⟩:=zar hps;have hD:ku f S=(rdL (rdT S 8) S (qs.map (shT 8)) 0).bind fun x=>if x.2=S.length then some x.1 else none:=by unfold ku;rw[hps];rfl
 obtain⟨ad1,m1,cap1,rfl⟩:=hSL.slice;have I2:SI (RKJ w po K 9 (.slice ad1 m1 cap1) (qs.map (shT 8))) (RKF w po K) [] β _ _ w2:=I.moved (zi.of_below hb2) ⟨I.hJ.gr.trans (zi.of_below hb2),fun k hk=>⟨Nat.le_trans hsz1 (hK k hk).1,(hK k hk).2⟩,hSL⟩ (fun k hk h=>by
   rcases h with h|h
   ·exact .inl h
   ·have:=(hK k h).1;omega) (.slice ad1 m1 cap1)
 refine goQ [] (RKJ.rs _ _ _ _ _ _) I2 fun β3 a w3 I hb3=>?_;have hb30:β3 0=po:=agr hb3 0 hb0;have hr3:=I.rowAt 1 (r:=#[str S,Z (0:Nat)]);have hd3:=I.disG 1 (r:=#[str S,Z (0:Nat)]);have hne3:β3 1≠po:=by rw[← hb30];exact I.neG 1 0 (by decide) (r:=#[str S,Z (0:Nat)]) (r':=#[.slice none 0 0])
 have hge3:w.heap.size≤β3 1:=Nat.le_of_not_lt fun h=>hd3 (.inl ⟨h,hne3⟩)
 have hsz3:=I.hJ.gr.size;refine yp (ss:=[Sum.inr (1,0),Sum.inl (.slice ad1 m1 cap1)]) func39 I ?_;refine(wrows_any 8 hr3 hS (Nat.zero_le _) (by have:=zc5 hpt;rw[List.length_map,← hfl]at *;omega) (fun t ht=>by
   obtain⟨q,hq,rfl⟩:=List.mem_map.1 ht;exact okS_sh 8 (Nat.le_refl _) (hpt q hq)) I.hJ.sl (fun k hk=>⟨fun e=>hd3 (.inr (e ▸ hk)),(I.hJ.kb k hk).2⟩)).mono fun e w4 he=>?_
 obtain⟨hg4,he⟩:=he;have hgr4:zi (fun k=>k≠po) w w4:=⟨hg4.os.trans I.hJ.gr.os,hg4.tape.trans I.hJ.gr.tape,hg4.output.trans I.hJ.gr.output,Nat.le_trans I.hJ.gr.size hg4.size,fun k hk hn=>(hg4.block k (Nat.lt_of_lt_of_le hk I.hJ.gr.size) (by omega)).trans (I.hJ.gr.block k hk hn)⟩
 have hrpo:zb w4 po #[.slice none 0 0]:=zac (I.rowG 0 hb30 (r:=#[.slice none 0 0])) hg4 (Ne.symm hne3);rcases he with⟨hn,rfl⟩|⟨ts,p',v2,K',hts,hp1,hp2,rfl,hr4,hK',hL⟩
 ·exact⟨I.df,hgr4,.inr ⟨by rw[hD,hn];rfl,rfl,hrpo⟩⟩
 rw[hts,Option.bind_some]at hD;obtain⟨ad2,m2,cap2,rfl⟩:=hL.slice;refine(vp (id:=1) (r:=#[str S,Z p'])).1 ?_;have I4:SI (fun w'=>RO w po 121 3 (.slice none 0 0) 0 [] w'∧LK K' w.heap.size 9 (.slice ad2 m2 cap2) ts w') (fun k=>ROF w po (.slice none 0 0) k∨K' k) [] β3 _ _ w4:=I.rowed (id:=1) (r0:=#[str S,Z (0:Nat)]) (by kernel_rfl) ⟨hg4.os,hg4.tape,hg4.output,hg4.size,fun k hk hn=>hg4.block k hk hn.2⟩ hr4 ⟨⟨hgr4,World.ownsRow_nil _ _ _ _⟩,fun k hk=>⟨Nat.le_trans hsz3 (hK' k hk).1,(hK' k hk).2⟩,hL⟩ (fun k hk h=>by
   rcases h with(h|h)|h
   ·exact .inl h
   ·cases h
   ·have:=(hK' k h).1;omega) (.slice ad2 m2 cap2)
 have hRs:=(RO.rs w po 121 3 (.slice none 0 0) 0 []).both (LK.rs K' w.heap.size 9 (.slice ad2 m2 cap2) ts);by_cases hfe:p'=S.length
 ·refine goT (T:=fun w'=>zi (fun k=>k≠po) w w') [ldA 9 hld1,lO underlying9 (b:=⟨S.toArray⟩) (n:=S.length) (by rw[hsz]),bO .eql 3 (z8 (x:=p') (y:=S.length) (b:=true) (by simp[hfe])),kC func41 za8] hRs (fun _ h=>h.1.gr) I4 fun β5 a w5 I hb5=>?_;have hb50:β5 0=po:=agr hb5 0 hb30;exact out0 I ⟨I.hJ.1.gr,.inl ⟨ts,_,K',by rw[hD,if_pos hfe],rfl,I.rowG 0 hb50 (r:=#[.slice ad2 m2 cap2]),I.hJ.2.kb,I.hJ.2.la⟩⟩
 ·refine goT (T:=fun w'=>zi (fun k=>k≠po) w w') [ldA 9 hld1,lO underlying9 (b:=⟨S.toArray⟩) (n:=S.length) (by rw[hsz]),keF p' S.length] hRs (fun _ h=>h.1.gr) I4 fun β5 a w5 I hb5=>?_;exact qj [Sum.inl (.bool false)] func41 I (fun w'=>Below w5.heap.size w5 w') (ask_f w5) fun w' hb=>⟨I.df,I.hJ.1.gr.trans (zi.of_below hb),.inr ⟨by rw[hD,if_neg hfe],rfl,(I.rowG 0 (agr hb5 0 hb30) (r:=#[.slice none 0 0])).below hb⟩⟩
theorem decode_any{f S:List UInt8}(hf:f.length≤1000)(hS:S.length<10000000000)(w:World) :
  Calls prog 16 #[str f,str S] w fun e w'=>Below w.heap.size w w'∧((∃ ts v K,ku f S=some ts∧e=.returned (.tuple #[v,Z 0])∧(∀ k,K k→w.heap.size≤k∧k<w'.heap.size)∧LAf K w' 9 v ts)∨(ku f S=none∧e=.returned (.tuple #[.slice none 0 0,Z 2]))):=by
 refine inZ func16 fun a I=>?_;refine goZ [] I fun β a w1 I hb=>?_;refine mfnQ (.func 38) [Sum.inr (1,0),Sum.inr (0,0),Sum.inr (2,0)] I ?_;refine goZ [] (I.same _) fun β2 a w2 I hb2=>?_;have e0:β2 0=β 0:=agr hb2 0 rfl;have e1:β2 1=β 1:=agr hb2 1 rfl;have e2:β2 2=β 2:=agr hb2 2 rfl;have r0:=I.rowG 0 e0 (r:=#[str f]);have r1:=I.rowG 1 e1 (r:=#[str S]);have r2:=I.rowG 2 e2 (r:=#[.slice none 0 0]);have n12:β 1≠β 2:=e1 ▸ e2 ▸ I.neG 1 2 (r:=#[str S]) (r':=#[.slice none 0 0]) (by decide);have n02:β 0≠β 2:=e0 ▸ e2 ▸ I.neG 0 2 (r:=#[str f]) (r':=#[.slice none 0 0]) (by decide)
 have d2:¬ (β 2<w.heap.size):=e2 ▸ I.disG 2 (r:=#[.slice none 0 0]);have kp:∀{w3:World} {g:Nat} {r:Array Value},Below w2.heap.size w2 w3→zb w2 g r→zb w3 g r:=fun hb hr=>hr.below hb
 have hsz2:=I.hJ.size;refine yp (ss:=[Sum.inl (.func (.func 38) #[] #[ye (β 1),ye (β 0),ye (β 2)])]) func37 I ?_;have bwOf:∀{w3:World},zi (fun k=>¬ k=β 2) w2 w3→Below w.heap.size w w3:=fun hg=>⟨hg.os.trans I.hJ.os,hg.tape.trans I.hJ.tape,hg.output.trans I.hJ.output,Nat.le_trans I.hJ.size hg.size,fun k hk=>(hg.block k (Nat.lt_of_lt_of_le hk I.hJ.size) (by omega)).trans (I.hJ.block k hk)⟩
 cases hD:ku f S with
 | some ts=>
  refine(caught_ret (ι:=Value×(Nat→Prop)) func38 (by kernel_rfl) (by kernel_rfl) #[ye (β 1),ye (β 0),ye (β 2)] w2 (· = β 2) (fun k hk=>hk ▸ r2.lt) (fun y w'=>zb w' (β 2) #[y.1]∧LK y.2 w2.heap.size 9 y.1 ts w') (fun y k=>k=β 2∨y.2 k) (fun y=>(rowRs (β 2) #[y.1]).both (LK.rs y.2 _ 9 y.1 ts)) fun w3 hb3=>?_).mono fun e w4 he=>?_
  ·refine(dec1G hf hS (kp hb3 r1) (kp hb3 r0) (kp hb3 r2) n12 n02).mono fun e w5 he=>?_;obtain⟨hg,⟨ts',v,K,hd',rfl,hv,hK,hL⟩ | ⟨hn,_⟩⟩:=he
   ·rw[hD]at hd';cases hd';refine⟨rfl,hg,(v,K),⟨hv,fun k hk=>⟨Nat.le_trans hb3.size (hK k hk).1,(hK k hk).2⟩,hL⟩,fun k hk=>?_⟩;rcases hk with rfl | hk
    ·exact .inl r2.lt
    ·exact .inr (hK k hk).1
   ·rw[hD]at hn;cases hn
  ·obtain⟨rfl,hg4,⟨v,K⟩,⟨hv,hL⟩,_⟩:=he;simp only at hv hL;refine(vp (id:=2) (r:=#[v])).1 ?_;obtain⟨adv,mv,capv,rfl⟩:=hL.la.slice;have I4:SI (fun w'=>Below w.heap.size w w'∧LK K w.heap.size 9 (.slice adv mv capv) ts w') (fun k=>k<w.heap.size∨K k) [] β2 _ _ w4:=I.rowed (id:=2) (r0:=#[.slice none 0 0]) (by kernel_rfl) ⟨hg4.os,hg4.tape,hg4.output,hg4.size,fun k hk hn=>hg4.block k hk (e2 ▸ hn.2)⟩ (e2.symm ▸ hv) ⟨bwOf hg4,fun k hk=>⟨Nat.le_trans hsz2 (hL.kb k hk).1,(hL.kb k hk).2⟩,hL.la⟩ (fun k hk h=>by
     rcases h with h|h
     ·exact h
     ·have:=(hL.kb k h).1;omega) (Z 0)
   refine goQ [] ((zj w).both (LK.rs _ _ _ _ _)) I4 fun β5 a w5 I hb5=>?_;exact zh (v:=.tuple #[.slice adv mv capv,Z 0]) I ⟨I.hJ.1,.inl ⟨ts,_,K,rfl,rfl,I.hJ.2.kb,I.hJ.2.la⟩⟩
 | none=>
  refine(caught_thr func38 (by kernel_rfl) (by kernel_rfl) #[ye (β 1),ye (β 0),ye (β 2)] w2 (· = β 2) (fun k hk=>hk ▸ r2.lt) (fun w'=>zb w' (β 2) #[.slice none 0 0]) (· = β 2) (rowRs _ _) (fun k hk=>hk ▸ r2.lt) fun w3 hb3=>?_).mono fun e w4 he=>?_
  ·refine(dec1G hf hS (kp hb3 r1) (kp hb3 r0) (kp hb3 r2) n12 n02).mono fun e w5 he=>?_;obtain⟨hg,⟨ts',v,K,hd',_⟩ | ⟨_,rfl,hv⟩⟩:=he
   ·rw[hD]at hd';cases hd'
   ·exact⟨rfl,hg,hv⟩
  ·obtain⟨rfl,hg4,hv⟩:=he;refine(vp (id:=2) (r:=#[.slice none 0 0])).1 ?_;have I4:SI (Below w.heap.size w) (· < w.heap.size) [] β2 _ _ w4:=I.rowed (id:=2) (r0:=#[.slice none 0 0]) (by kernel_rfl) ⟨hg4.os,hg4.tape,hg4.output,hg4.size,fun k hk hn=>hg4.block k hk (e2 ▸ hn.2)⟩ (e2.symm ▸ hv) (bwOf hg4) (fun _ _ h=>h) (Z 2);refine goZ [] I4 fun β5 a w5 I hb5=>?_;exact zh (v:=.tuple #[.slice none 0 0,Z 2]) I ⟨I.hJ,.inr ⟨rfl,rfl⟩⟩
theorem rd_digit(s:ByteArray):∀(m k:Nat),k<m→rdN s m/2^(8*k)%256=btN s k
 | 0,k,h=>absurd h (Nat.not_lt_zero _)
 | m+1,k,h=>by
  have hx:=rdN_lt s m;have hb:=btN_lt s m;rw[rdN];rcases Nat.lt_or_ge k m with hk|hk
  ·have e:btN s m*2^(8*m)=(btN s m*2^(8*(m-k-1))*256)*2^(8*k):=by
    rw[Nat.mul_assoc,Nat.mul_assoc,show 8*m=8*(m-k-1)+(8+8*k) by omega,Nat.pow_add,Nat.pow_add]
   rw[e,Nat.add_mul_div_right _ _ (Nat.two_pow_pos _),Nat.add_mul_mod_self_right];exact rd_digit s m k hk
  ·obtain rfl:k=m:=by omega
   rw[Nat.add_mul_div_right _ _ (Nat.two_pow_pos _),Nat.div_eq_of_lt hx,Nat.zero_add,Nat.mod_eq_of_lt hb]
theorem wb_nm(l:List UInt8)(h:l.length=32):wb (nm l)=l:=by
 have hd:(vd (nm l)).data=((List.range 32).map fun j=>UInt8.ofNat (yb (nm l) j)).toArray:=by
  unfold vd strOfNums;simp
 show(vd (nm l)).data.toList=l;rw[hd];apply List.ext_getElem
 ·simp[h]
 ·intro j h1 h2;have hj:j<32:=by omega
  have h3:=rd_digit ⟨l.toArray⟩ 32 (31-j) (by omega);have h4:btN ⟨l.toArray⟩ (31-j)=(l[j]).toNat:=by
   unfold btN;rw[zn,h,show 32-1-(31-j)=j by omega,Array.getD_eq_getD_getElem?,List.getElem?_toArray,List.getElem?_eq_getElem h2];rfl
  simp only[List.getElem_map,List.getElem_range];unfold yb nm;rw[h,h3,h4];simp
def Has (S:List UInt8) (p:Nat) (X:List UInt8):Prop:=∃ R,S.drop p=X++R
theorem Has.app{S:List UInt8}{p:Nat}{X Y:List UInt8}:Has S p (X++Y)↔Has S p X∧Has S (p+X.length) Y:=by
 constructor
 ·rintro⟨R,h⟩;rw[List.append_assoc]at h;exact⟨⟨_,h⟩,R,by rw[← List.drop_drop,h,List.drop_left]⟩
 ·rintro⟨⟨R1,h1⟩,R2,h2⟩;rw[← List.drop_drop,h1,List.drop_left]at h2;exact⟨R2,by rw[h1,h2,List.append_assoc]⟩
theorem Has.le{S:List UInt8}{p:Nat}{X:List UInt8}(h:Has S p X)(hp:p≤S.length):p+X.length≤S.length:=by
 obtain⟨R,h⟩:=h;have:=congrArg List.length h;rw[List.length_drop,List.length_append]at this;omega
theorem Has.take{S:List UInt8}{p:Nat}{X:List UInt8}{n:Nat}(h:Has S p X)(hn:X.length=n):(S.drop p).take n=X:=by
 obtain⟨R,h⟩:=h;rw[h,← hn,List.take_left]
theorem Has.of_take{S:List UInt8}{p n:Nat}:Has S p ((S.drop p).take n):=⟨(S.drop p).drop n,(List.take_append_drop _ _).symm⟩
theorem Has.nil(S:List UInt8)(p:Nat):Has S p []:=⟨_,rfl⟩
theorem rdC_has{S:List UInt8}{p most n:Nat}(h:rdC S p most=some n):Has S p (wb n)∧n≤most∧p+32≤S.length:=by
 obtain⟨h1,h2,h3⟩:=vo h;refine⟨?_,h3,h1⟩;rw[← h2,wb_nm _ (by rw[List.length_take,List.length_drop];omega)];exact Has.of_take
theorem rdC_of{S:List UInt8}{p most n:Nat}(h:Has S p (wb n))(hn:n≤most)(hw:n<W)(hp:p≤S.length):rdC S p most=some n:=by
 have h1:=h.le hp;rw[zx]at h1;unfold rdC;rw[if_pos h1,h.take (zx n),nm_wb n hw,if_pos hn]
theorem rdX_has{S:List UInt8}{p:Nat}{x:List UInt8×Nat}(h:rdX S p=some x):Has S p (txt ⟨x.1.toArray⟩)∧x.1.length≤16384∧x.2=p+(txt ⟨x.1.toArray⟩).length∧x.2≤S.length:=by
 unfold rdX at h;cases hc:rdC S p 16384 with
 | none=>rw[hc]at h;cases h
 | some n=>
  rw[hc,Option.bind_some]at h;obtain⟨h1,h2,h3⟩:=rdC_has hc;split at h
  ·next hh=>
   obtain⟨h4,h5⟩:=hh;cases h;have hl:((S.drop (p+32)).take n).length=n:=by rw[List.length_take,List.length_drop];omega
   have hl2:((S.drop (p+32+n)).take (pad n)).length=pad n:=by rw[List.length_take,List.length_drop];omega
   have hz:(S.drop (p+32+n)).take (pad n)=List.replicate (pad n) 0:=List.eq_replicate_iff.2 ⟨hl2,h5⟩;refine⟨?_,by simp only;omega,by rw[za6,zn];simp only[hl];omega,h4⟩;unfold txt;rw[zn];simp only[hl];rw[Has.app,Has.app];refine⟨⟨h1,?_⟩,?_⟩
   ·rw[zx];exact Has.of_take
   ·rw[List.length_append,zx,hl];have:=Has.of_take (S:=S) (p:=p+32+n) (n:=pad n);rw[hz]at this;rw[← Nat.add_assoc];exact this
  ·cases h
theorem rdX_of{S:List UInt8}{p:Nat}{s:ByteArray}(h:Has S p (txt s))(hs:s.size≤16384)(hp:p≤S.length):rdX S p=some (s.data.toList,p+(txt s).length):=by
 have hle:=h.le hp;rw[za6]at hle;unfold txt at h;rw[Has.app,Has.app]at h;obtain⟨⟨h1,h2⟩,h3⟩:=h;have hsl:s.data.toList.length=s.size:=Array.length_toList;rw[zx]at h2;rw[List.length_append,zx,hsl,← Nat.add_assoc]at h3;unfold rdX;rw[rdC_of h1 hs (Nat.lt_of_le_of_lt hs (by decide)) hp,Option.bind_some,if_pos,h2.take hsl,za6]
 ·congr 2;omega
 ·refine⟨by omega,fun b hb=>?_⟩;rw[h3.take (by simp)]at hb;exact List.eq_of_mem_replicate hb
def qy {α β:Type} (F:α→β→Prop):List α→List β→Prop
 | [],[]=>True
 | s::l,t::ts=>F s t∧qy F l ts
 | _,_=>False
theorem za2{α β:Type}{F:α→β→Prop}:∀{l:List α} {ts:List β},qy F l ts↔l.length=ts.length∧∀(i:Nat) s t,l[i]? = some s→ts[i]? = some t→F s t
 | [],[]=>⟨fun _=>⟨rfl,fun i s t h=>by simp at h⟩,fun _=>trivial⟩
 | [],_::_=>⟨fun h=>h.elim,fun h=>by simp at h⟩
 | _::_,[]=>⟨fun h=>h.elim,fun h=>by simp at h⟩
 | s::l,t::ts=>by
  show(F s t∧qy F l ts)↔_;rw[za2 (l:=l) (ts:=ts)];constructor
  ·rintro⟨h1,h2,h3⟩;refine⟨by simp[h2],fun i s' t' hs ht=>?_⟩;cases i with
   | zero=>simp at hs ht;subst hs ht;exact h1
   | succ i=>exact h3 i s' t' (by simpa using hs) (by simpa using ht)
  ·rintro⟨h1,h2⟩;exact⟨h2 0 s t rfl rfl,by simpa using h1,fun i s' t' hs ht=>h2 (i+1) s' t' (by simpa using hs) (by simpa using ht)⟩
theorem qr{α β:Type}{F:α→β→Prop}{l:List α}{ts:List β}(h:qy F l ts):l.length=ts.length:=(za2.1 h).1
def xh:(n:Nat)→ST n→TT n→Prop
 | 0,s,t=>(s.1=0∧t.1=0∧t.2.1<W∧t.2.2.1=⟨#[]⟩∧t.2.2.2=yf 0)∨(s.1=1∧t.1=1∧t.2.1=0∧t.2.2.1.size≤16384∧t.2.2.2=yf 0)∨False
 | n+1,s,t=>(s.1=0∧t.1=0∧t.2.1<W∧t.2.2.1=⟨#[]⟩∧t.2.2.2=yf (n+1))∨(s.1=1∧t.1=1∧t.2.1=0∧t.2.2.1.size≤16384∧t.2.2.2=yf (n+1))∨(s.1=2∧t.1=2∧t.2.1=0∧t.2.2.1=⟨#[]⟩∧∃ l',v6 (List.length (α:=TT n) t.2.2.2) s.2.1 s.2.2=some l'∧qy (xh n) l' t.2.2.2)
abbrev tlT (n:Nat) (t:TT n):List UInt8:=tailOf (enc n) (cntL n) t
def wrd {α:Type} (t:Int×Nat×ByteArray×α) (a:Nat):List UInt8:=if t.1=0 then wb t.2.1 else wb a
theorem wrd_len{α:Type}(t:Int×Nat×ByteArray×α)(a:Nat):(wrd t a).length=32:=by unfold wrd;split<;>exact zx _
def hds {α:Type} (T:Int×Nat×ByteArray×α→List UInt8):List (Int×Nat×ByteArray×α)→Nat→List UInt8
 | [],_=>[]
 | t::l,a=>wrd t a++hds T l (a+(T t).length)
theorem zam{α:Type}(T:Int×Nat×ByteArray×α→List UInt8):∀(l:List (Int×Nat×ByteArray×α)) (a:Nat),(hds T l a).length=l.length*32
 | [],_=>rfl
 | t::l,a=>by
  show(wrd t a++hds T l _).length=_;rw[List.length_append,wrd_len,zam T l,List.length_cons];omega
theorem fold_hds{α:Type}{E:α→List UInt8}{cnt:α→Nat}{H:Nat}:∀(l:List (Int×Nat×ByteArray×α)) (acc:List UInt8×List UInt8),(∀ t∈l,t.1=0∨t.1=1∨t.1=2)→(l.foldl (xm E cnt H) acc).1=acc.1++hds (tailOf E cnt) l (H+acc.2.length)
 | [],acc,_=>by simp[hds]
 | t::l,acc,h=>by
  rw[List.foldl_cons,fold_hds l _ fun u hu=>h u (List.mem_cons_of_mem _ hu)];show _=acc.1++(wrd t _++hds _ l _);rw[← List.append_assoc];have hs:(xm E cnt H acc t).1=acc.1++wrd t (H+acc.2.length)∧(xm E cnt H acc t).2=acc.2++tailOf E cnt t:=by
   unfold xm wrd tailOf;rcases h t List.mem_cons_self with h0|h0|h0<;>simp[h0]
  rw[hs.1,hs.2,List.length_append,Nat.add_assoc]
theorem enc_hds(n:Nat)(l:List (TT n))(h:∀ t∈l,t.1=0∨t.1=1∨t.1=2):enc (n+1) l=hds (tlT n) l (32*l.length)++l.flatMap (tlT n):=by
 rw[enc_succ,fold_hds l _ h,fold_tail];rfl
theorem fitS_kind:∀{n:Nat} {s:ST n} {t:TT n},xh n s t→t.1=0∨t.1=1∨t.1=2
 | 0,s,t,h=>h.elim (fun h=>.inl h.2.1) fun h=>h.elim (fun h=>.inr (.inl h.2.1)) fun h=>h.elim
 | n+1,s,t,h=>h.elim (fun h=>.inl h.2.1) fun h=>h.elim (fun h=>.inr (.inl h.2.1)) fun h=>.inr (.inr h.2.1)
theorem zbm{n:Nat}{l:List (ST n)}{ts:List (TT n)}(h:qy (xh n) l ts):∀ t∈ts,t.1=0∨t.1=1∨t.1=2:=fun t ht=>by
 obtain⟨h1,h2⟩:=za2.1 h;obtain⟨i,hi⟩:=List.mem_iff_getElem?.1 ht;obtain⟨s,hs⟩:∃ s,l[i]? = some s:=⟨_,List.getElem?_eq_getElem (by have:=(List.getElem?_eq_some_iff.1 hi).1;omega)⟩
 exact fitS_kind (h2 i s t hs hi)
theorem insM_len{m N:Nat}{many:Bool}{l l':List (ST m)}(h:v6 N many l=some l'):l'.length=N∧N≤64:=by
 unfold v6 at h;split at h
 ·cases h
 split at h
 ·cases h;exact⟨List.length_replicate,by omega⟩
 ·split at h
  ·next hN=>cases h;exact⟨hN.symm,by omega⟩
  ·cases h
def TS (n:Nat):Prop:=∀{S:List UInt8} {s:ST n} {word:List UInt8} {ahead p:Nat} {t:TT n} {p':Nat},okS n s→S.length<W→word.length=32→p≤S.length→rdT S n s word ahead p=some (t,p')→xh n s t∧word=wrd t ahead∧Has S p (tlT n t)∧p'=p+(tlT n t).length∧p'≤S.length
def RS (n:Nat):Prop:=∀{S:List UInt8} {l:List (ST n)} {p:Nat} {ts:List (TT n)} {p':Nat},(∀ s∈l,okS n s)→S.length<W→p≤S.length→rdL (rdT S n) S l p=some (ts,p')→qy (xh n) l ts∧Has S p (enc (n+1) ts)∧p'=p+(enc (n+1) ts).length∧p'≤S.length
theorem goL_sound{n:Nat}(hT:TS n){S hd:List UInt8}{p0:Nat}(hW:S.length<W):∀(l:List (ST n)) (i p:Nat) {ts:List (TT n)} {p':Nat},(∀ s∈l,okS n s)→p0≤p→p≤S.length→(i+l.length)*32≤hd.length→goL (rdT S n) hd p0 l i p=some (ts,p') →
  qy (xh n) l ts∧(hd.drop (i*32)).take (l.length*32)=hds (tlT n) ts (p-p0)∧Has S p (ts.flatMap (tlT n))∧p'=p+(ts.flatMap (tlT n)).length∧p'≤S.length
 | [],i,p,ts,p',hok,h0,hp,hl,h=>by
  cases h;exact⟨trivial,by simp[hds],Has.nil _ _,rfl,hp⟩
 | s::l,i,p,ts,p',hok,h0,hp,hl,h=>by
  unfold goL at h;cases hx:rdT S n s ((hd.drop (i*32)).take 32) (p-p0) p with
  | none=>rw[hx]at h;cases h
  | some x=>
   obtain⟨t,p1⟩:=x;rw[hx,Option.bind_some]at h;cases hy:goL (rdT S n) hd p0 l (i+1) p1 with
   | none=>rw[hy]at h;cases h
   | some y=>
    obtain⟨ts',p2⟩:=y;rw[hy]at h;cases h;rw[List.length_cons]at hl;obtain⟨a1,a2,a3,a4,a5⟩:=hT (hok s List.mem_cons_self) hW (by rw[List.length_take,List.length_drop];omega) hp hx;obtain⟨b1,b2,b3,b4,b5⟩:=goL_sound hT hW l (i+1) p1 (fun u hu=>hok u (List.mem_cons_of_mem _ hu)) (by omega) a5 (by omega) hy;refine⟨⟨a1,b1⟩,?_,?_,?_,b5⟩
    ·rw[List.length_cons,show(l.length+1)*32=32+l.length*32 by omega,List.take_add,List.drop_drop,show i*32+32=(i+1)*32 by omega,b2,a2];show _=wrd t (p-p0)++hds _ ts' _;rw[show p1-p0=p-p0+(tlT n t).length by omega]
    ·rw[List.flatMap_cons,Has.app];exact⟨a3,by rw[← a4];exact b3⟩
    ·simp only[List.flatMap_cons,List.length_append];omega
theorem rdL_sound{n:Nat}(hT:TS n):RS n:=by
 intro S l p ts p' hok hW hp h;unfold rdL at h;split at h
 ·next hl=>
  have hhl:((S.drop p).take (l.length*32)).length=l.length*32:=by rw[List.length_take,List.length_drop];omega
  obtain⟨a1,a2,a3,a4,a5⟩:=goL_sound hT hW l 0 _ hok (by omega) hl (by omega) h;have hlen:=qr a1;have e:=enc_hds n ts (zbm a1);have hdl:=zam (tlT n) ts (32*ts.length);rw[Nat.zero_mul,List.drop_zero,List.take_of_length_le (by omega),Nat.add_sub_cancel_left]at a2;rw[show l.length*32=32*ts.length by omega]at a2;refine⟨a1,?_,?_,a5⟩
  ·rw[e,Has.app,hdl,← a2];exact⟨Has.of_take,by rw[← hlen];exact a3⟩
  ·rw[e,List.length_append,hdl];omega
 ·cases h
theorem rdT_sound(n:Nat):TS n:=by
 induction n with
 | zero=>
  intro S s word ahead p t p' hok hW hw hp h;have hle:word.length≤32:=by omega
  rcases hok with h0|h1
  ·rw[rdT_num h0]at h;cases h;exact⟨.inl ⟨h0,rfl,nm_lt _ hle,rfl,rfl⟩,(wb_nm word hw).symm,Has.nil _ _,rfl,hp⟩
  ·by_cases hwa:nm word=ahead
   ·rw[rdT_txt h1 hwa]at h;cases hX:rdX S p with
    | none=>rw[hX]at h;cases h
    | some x=>
     rw[hX]at h;cases h;obtain⟨x1,x2,x3,x4⟩:=rdX_has hX;exact⟨.inr (.inl ⟨h1,rfl,rfl,by rw[zn];exact x2,rfl⟩),by rw[← hwa];exact(wb_nm word hw).symm,x1,x3,x4⟩
   ·rw[rdT_off (by rw[h1];decide) hwa]at h;cases h
 | succ n ih=>
  intro S s word ahead p t p' hok hW hw hp h;have hle:word.length≤32:=by omega
  obtain⟨hk,hm1,hok1⟩:=hok;rcases hk with h0|h1|h2
  ·rw[rdT_num h0]at h;cases h;exact⟨.inl ⟨h0,rfl,nm_lt _ hle,rfl,rfl⟩,(wb_nm word hw).symm,Has.nil _ _,rfl,hp⟩
  ·by_cases hwa:nm word=ahead
   ·rw[rdT_txt h1 hwa]at h;cases hX:rdX S p with
    | none=>rw[hX]at h;cases h
    | some x=>
     rw[hX]at h;cases h;obtain⟨x1,x2,x3,x4⟩:=rdX_has hX;exact⟨.inr (.inl ⟨h1,rfl,rfl,by rw[zn];exact x2,rfl⟩),by rw[← hwa];exact(wb_nm word hw).symm,x1,x3,x4⟩
   ·rw[rdT_off (by rw[h1];decide) hwa]at h;cases h
  ·by_cases hwa:nm word=ahead
   ·rw[rdT_lst h2 hwa]at h;cases hc:rdC S p 64 with
    | none=>rw[hc]at h;cases h
    | some c=>
     rw[hc,Option.bind_some]at h;cases hi:v6 c s.2.1 s.2.2 with
     | none=>rw[hi]at h;cases h
     | some l'=>
      rw[hi,Option.bind_some]at h;cases hr:rdL (rdT S n) S l' (p+32)with
      | none=>rw[hr]at h;cases h
      | some x=>
       obtain⟨ts,p2⟩:=x;rw[hr]at h;cases h;obtain⟨c1,c2,c3⟩:=rdC_has hc;obtain⟨i1,i2,i3⟩:=insM_ok hi hm1 hok1;obtain⟨r1,r2,r3,r4⟩:=rdL_sound ih i3 hW c3 hr;have hlen:=qr r1;have hc':List.length (α:=TT n) ts=c:=by omega
       have et:tlT (n+1) ((2,0,⟨#[]⟩,ts):TT (n+1))=wb c++enc (n+1) ts:=by
        show wb (List.length (α:=TT n) ts)++enc (n+1) ts=_;rw[hc']
       refine⟨.inr (.inr ⟨h2,rfl,rfl,rfl,l',?_,r1⟩),by rw[← hwa];exact(wb_nm word hw).symm,?_,?_,r4⟩
       ·show v6 (List.length (α:=TT n) ts) _ _=_;rw[hc'];exact hi
       ·show Has S p (tlT (n+1) ((2,0,⟨#[]⟩,ts):TT (n+1)));rw[et,Has.app,zx];exact⟨c1,r2⟩
       ·show p2=p+(tlT (n+1) ((2,0,⟨#[]⟩,ts):TT (n+1))).length;rw[et,List.length_append,zx];omega
   ·rw[rdT_off (by rw[h2];decide) hwa]at h;cases h
def TC (n:Nat):Prop:=∀{S:List UInt8} {s:ST n} {t:TT n} {ahead p:Nat},xh n s t→S.length<W→ahead<W→p≤S.length→Has S p (tlT n t)→rdT S n s (wrd t ahead) ahead p=some (t,p+(tlT n t).length)
theorem goL_compl{n:Nat}(hT:TC n){S hd:List UInt8}{p0:Nat}(hW:S.length<W):∀(l:List (ST n)) (ts:List (TT n)) (i p:Nat),qy (xh n) l ts→p0≤p→p≤S.length→(hd.drop (i*32)).take (l.length*32)=hds (tlT n) ts (p-p0)→Has S p (ts.flatMap (tlT n)) →
  goL (rdT S n) hd p0 l i p=some (ts,p+(ts.flatMap (tlT n)).length)
 | [],[],i,p,_,h0,hp,hh,hs=>rfl
 | [],_::_,_,_,h,_,_,_,_=>h.elim
 | _::_,[],_,_,h,_,_,_,_=>h.elim
 | s::l,t::ts,i,p,hf,h0,hp,hh,hs=>by
  obtain⟨f1,f2⟩:=hf;rw[List.flatMap_cons,Has.app]at hs;obtain⟨s1,s2⟩:=hs;have hle:=s1.le hp;rw[List.length_cons,show(l.length+1)*32=32+l.length*32 by omega,List.take_add,List.drop_drop,show i*32+32=(i+1)*32 by omega]at hh;have hh':(hd.drop (i*32)).take 32++(hd.drop ((i+1)*32)).take (l.length*32)=wrd t (p-p0)++hds (tlT n) ts (p-p0+(tlT n t).length):=hh;have hl2:=congrArg List.length hh';rw[List.length_append,List.length_append,wrd_len,zam,List.length_take,List.length_take,← qr f2]at hl2;obtain⟨e1,e2⟩:=List.append_inj hh' (by rw[wrd_len,List.length_take];omega);unfold goL
  rw[e1,hT (ahead:=p-p0) f1 hW (by omega) hp s1,Option.bind_some];have:=goL_compl (hd:=hd) (p0:=p0) hT hW l ts (i+1) (p+(tlT n t).length) f2 (by omega) hle (by rw[e2,show p+(tlT n t).length-p0=p-p0+(tlT n t).length by omega]) s2;rw[this];simp only[Option.map_some,List.flatMap_cons,List.length_append,Nat.add_assoc]
theorem rdL_compl{n:Nat}(hT:TC n){S:List UInt8}{l:List (ST n)}{ts:List (TT n)}{p:Nat}(hf:qy (xh n) l ts)(hW:S.length<W)(hp:p≤S.length)(h:Has S p (enc (n+1) ts)):rdL (rdT S n) S l p=some (ts,p+(enc (n+1) ts).length):=by
 have e:=enc_hds n ts (zbm hf);have hlen:=qr hf;have hdl:=zam (tlT n) ts (32*ts.length);rw[e,Has.app,hdl]at h;obtain⟨h1,h2⟩:=h;have hle:=h1.le hp;rw[hdl]at hle;unfold rdL;rw[if_pos (by omega),hlen,goL_compl hT hW l ts 0 (p+ts.length*32) hf (by omega) hle ?_ h2]
 ·rw[e,List.length_append,hdl,Nat.add_assoc]
 ·rw[Nat.zero_mul,List.drop_zero,hlen,List.take_take,Nat.min_self,h1.take hdl,Nat.add_sub_cancel_left,Nat.mul_comm]
theorem nm_wrd{α:Type}{t:Int×Nat×ByteArray×α}(h:t.1≠0){a:Nat}(ha:a<W):nm (wrd t a)=a:=by
 unfold wrd;rw[if_neg h,nm_wb a ha]
theorem rdT_compl(n:Nat):TC n:=by
 induction n with
 | zero=>
  intro S s t ahead p hf hW ha hp hs;obtain⟨k,u,x,y⟩:=t;rcases hf with⟨h0,rfl,h2,rfl,rfl⟩|⟨h1,rfl,rfl,h4,rfl⟩|h
  ·rw[rdT_num h0];show some ((0,nm (wb u),_,_),p)=some ((0,u,_,_),p+0);rw[nm_wb u h2];rfl
  ·rw[rdT_txt h1 (nm_wrd (show(1:Int)≠0 by decide) ha),rdX_of hs h4 hp];rfl
  ·exact h.elim
 | succ n ih=>
  intro S s t ahead p hf hW ha hp hs;obtain⟨k,u,x,y⟩:=t;rcases hf with⟨h0,rfl,h2,rfl,rfl⟩|⟨h1,rfl,rfl,h4,rfl⟩|⟨h2,rfl,rfl,rfl,l',hi,hr⟩
  ·rw[rdT_num h0];show some ((0,nm (wb u),_,_),p)=some ((0,u,_,_),p+0);rw[nm_wb u h2];rfl
  ·rw[rdT_txt h1 (nm_wrd (show(1:Int)≠0 by decide) ha),rdX_of hs h4 hp];rfl
  ·obtain⟨i1,i2⟩:=insM_len hi;have et:tlT (n+1) ((2,0,⟨#[]⟩,y):TT (n+1))=wb (List.length (α:=TT n) y)++enc (n+1) y:=rfl;have i2':List.length (α:=TT n) y≤64:=i2;rw[et,Has.app,zx]at hs;obtain⟨s1,s2⟩:=hs;have hle:=s1.le hp;rw[zx]at hle;rw[rdT_lst h2 (nm_wrd (show(2:Int)≠0 by decide) ha),rdC_of s1 i2' (Nat.lt_of_le_of_lt i2' (by decide)) hp,Option.bind_some];have hi':v6 (List.length (α:=TT n) y) s.2.1 s.2.2=some l':=hi;rw[hi',Option.bind_some,rdL_compl ih hr hW hle s2,et,List.length_append,zx,← Nat.add_assoc];rfl
theorem has_all{S X:List UInt8}(h:Has S 0 X)(hl:X.length=S.length):X=S:=by
 obtain⟨R,h⟩:=h;rw[List.drop_zero]at h;have:=congrArg List.length h;rw[List.length_append]at this;have hR:R=[]:=List.length_eq_zero_iff.1 (by omega);rw[h,hR,List.append_nil]
theorem qg{f S:List UInt8}{ts:List (TT 8)}(hW:S.length<W)(h:ku f S=some ts):∃ ps,xe f=some ps∧qy (xh 8) (ps.map (shT 8)) ts∧enc 9 ts=S:=by
 unfold ku at h;cases hp:xe f with
 | none=>rw[hp]at h;cases h
 | some ps=>
  rw[hp,Option.bind_some]at h;obtain⟨_,hpt⟩:=zar hp;cases hr:rdL (rdT S 8) S (ps.map (shT 8)) 0 with
  | none=>rw[hr]at h;cases h
  | some x=>
   obtain⟨ts',p'⟩:=x;rw[hr,Option.bind_some]at h;split at h
   ·next he=>
    cases h;obtain⟨r1,r2,r3,r4⟩:=rdL_sound (rdT_sound 8) (fun s hs=>by
     obtain⟨q,hq,rfl⟩:=List.mem_map.1 hs;exact okS_sh 8 (Nat.le_refl _) (hpt q hq)) hW (Nat.zero_le _) hr
    exact⟨ps,rfl,r1,has_all r2 (by have h9:p'=S.length:=he;rw[Nat.zero_add]at r3;exact r3.symm.trans h9)⟩
   ·cases h
theorem zc8{f S:List UInt8}{ts:List (TT 8)}{ps:List (List UInt8)}(hp:xe f=some ps)(hW:S.length<W)(hf:qy (xh 8) (ps.map (shT 8)) ts)(he:enc 9 ts=S):ku f S=some ts:=by
 unfold ku;rw[hp,Option.bind_some,rdL_compl (rdT_compl 8) hf hW (Nat.zero_le _) ⟨[],by rw[List.drop_zero,he,List.append_nil]⟩,Option.bind_some,if_pos (by simp only;rw[he];omega)]
theorem inner_one{n:Nat}(hn:n≤8){p:List UInt8}(h:Pt n p):inr_ (91::(p++[93]))=[p]:=by
 have h1:=zad (b:=91) (c:=93) (m:=n) hn (ps:=[p]) (fun q hq=>by rw[List.mem_singleton]at hq;subst hq;exact h)
 rwa [List.flatten_cons,List.flatten_nil,List.append_nil]at h1
theorem shT_tup{n:Nat}(hn:n≤8){ps:List (List UInt8)}(h:∀ p∈ps,Pt n p):shT (n+1) (40::(ps.flatten++[41]))=(2,false,ps.map (shT n)):=by
 show(if _ then _ else if _ then _ else _)=_;rw[if_neg (by simp),if_neg (by simp),zad hn h];rfl
theorem shT_arr{n:Nat}(hn:n≤8){p:List UInt8}(h:Pt n p):shT (n+1) (91::(p++[93]))=(2,true,[shT n p]):=by
 show(if _ then _ else if _ then _ else _)=_;rw[if_neg (by simp),if_neg (by simp),inner_one hn h];rfl
end Go.Proofs.YtdeompgdhaomgaaGreatDoor
