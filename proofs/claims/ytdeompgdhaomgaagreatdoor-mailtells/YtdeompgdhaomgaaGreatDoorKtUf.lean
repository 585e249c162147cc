/- Laid one behind the other: Uf, Ug, Uh, Ui, Uj. -/
import Derived.Test.YtdeompgdhaomgaaGreatDoorKtUa
namespace Go.Proofs.YtdeompgdhaomgaaGreatDoor
open Go.RowKit Go.Sort Go.Proofs.Tryz
set_option linter.unusedVariables false
set_option maxRecDepth 100000
set_option maxHeartbeats 4000000
def ke (q:List UInt8) (n:Nat):List (List UInt8):=if q.head? = some 40 then inr_ q else List.replicate n ((inr_ q).headD [])
def tk1 {α:Type} (nil:α) (sub:List (List UInt8)→List UInt8→Nat→Option (α×Nat)) (s:List UInt8) (q:List UInt8) (i lf:Nat):Option ((Int×Nat×ByteArray×α)×Nat):=
 if 32*i+32≤s.length then
  (if q=[110]then some ((0,nm ((s.drop (32*i)).take 32),⟨#[]⟩,nil),lf)
  else(rdC s (32*i) s.length).bind fun p=>(rdC s p 16384).bind fun n=>
   if q=[116]then(if n≤(s.drop (p+32)).length then some ((1,0,⟨((s.drop (p+32)).take n).toArray⟩,nil),lf)else none)
   else if 64<n∨(q.head? = some 40∧n≠(inr_ q).length)then none
   else(sub (ke q n) (s.drop (p+32)) lf).map fun x=>((2,0,⟨#[]⟩,x.1),x.2))
 else none
def tkG {α:Type} (nil:α) (sub:List (List UInt8)→List UInt8→Nat→Option (α×Nat)) (s:List UInt8):List (List UInt8)→Nat→Nat→Option (List (Int×Nat×ByteArray×α)×Nat)
 | [],_,lf=>some ([],lf)
 | q::ps,i,lf=>(tk1 nil sub s q i lf).bind fun x=>(tkG nil sub s ps (i+1) x.2).map fun y=>(x.1::y.1,y.2)
def tk:(n:Nat)→List (List UInt8)→List UInt8→Nat→Option (List (TT n)×Nat)
 | 0,ps,s,lf=>if lf<ps.length then none else tkG (yf 0) (fun _ _ _=>none) s ps 0 (lf-ps.length)
 | n+1,ps,s,lf=>if lf<ps.length then none else tkG (yf (n+1)) (tk n) s ps 0 (lf-ps.length)
def tkS:(n:Nat)→List (List UInt8)→List UInt8→Nat→Option (TL n×Nat)
 | 0=>fun _ _ _=>none
 | n+1=>tk n
theorem tk_eq(n:Nat)(ps:List (List UInt8))(s:List UInt8)(lf:Nat):tk n ps s lf=if lf<ps.length then none else tkG (yf n) (tkS n) s ps 0 (lf-ps.length):=by
 cases n<;>rfl
theorem nm_lt'{s:List UInt8}{i:Nat}:nm ((s.drop (32*i)).take 32)<W:=nm_lt _ (by rw[List.length_take];omega)
theorem tkG_fit{n:Nat}(h1:∀{q:List UInt8} {s:List UInt8} {i lf:Nat} {t:TT n} {lf':Nat},Pt n q→tk1 (yf n) (tkS n) s q i lf=some (t,lf')→xh n (shT n q) t):∀(ps:List (List UInt8)) {s:List UInt8} {i lf:Nat} {ts:List (TT n)} {lf':Nat},(∀ q∈ps,Pt n q)→tkG (yf n) (tkS n) s ps i lf=some (ts,lf')→qy (xh n) (ps.map (shT n)) ts
 | [],s,i,lf,ts,lf',hp,h=>by cases h;exact trivial
 | q::ps,s,i,lf,ts,lf',hp,h=>by
  unfold tkG at h;cases hx:tk1 (yf n) (tkS n) s q i lf with
  | none=>rw[hx]at h;cases h
  | some x=>
   obtain⟨t,lf1⟩:=x;rw[hx,Option.bind_some]at h;cases hy:tkG (yf n) (tkS n) s ps (i+1) lf1 with
   | none=>rw[hy]at h;cases h
   | some y=>
    obtain⟨ts',lf2⟩:=y;rw[hy]at h;cases h;exact⟨h1 (hp q List.mem_cons_self) hx,tkG_fit h1 ps (fun q hq=>hp q (List.mem_cons_of_mem _ hq)) hy⟩
theorem tk_fit(n:Nat):n≤8→∀{ps:List (List UInt8)} {s:List UInt8} {lf:Nat} {ts:List (TT n)} {lf':Nat},(∀ q∈ps,Pt n q)→tk n ps s lf=some (ts,lf')→qy (xh n) (ps.map (shT n)) ts:=by
 induction n with
 | zero=>
  intro hn ps s lf ts lf' hp h;rw[tk_eq]at h;split at h
  ·cases h
  refine tkG_fit ?_ ps hp h;intro q s i lf t lf' hq h;unfold tk1 at h;split at h
  case isFalse=>cases h
  rcases hq with rfl|rfl
  ·rw[if_pos rfl]at h;cases h;exact .inl ⟨rfl,rfl,nm_lt',rfl,rfl⟩
  ·rw[if_neg (by decide)]at h;cases hc:rdC s (32*i) s.length with
   | none=>rw[hc]at h;cases h
   | some p=>
    rw[hc,Option.bind_some]at h;cases hd:rdC s p 16384 with
    | none=>rw[hd]at h;cases h
    | some m=>
     rw[hd,Option.bind_some,if_pos rfl]at h;obtain⟨_,_,hm⟩:=vo hd;split at h
     ·next hle=>
      cases h;exact .inr (.inl ⟨rfl,rfl,rfl,by rw[zn,List.length_take];omega,rfl⟩)
     ·cases h
 | succ n ih=>
  intro hn ps s lf ts lf' hp h;rw[tk_eq]at h;split at h
  ·cases h
  refine tkG_fit ?_ ps hp h;intro q s i lf t lf' hq h;unfold tk1 at h;split at h
  case isFalse=>cases h
  rcases hq with rfl|rfl|⟨qs,hqs,rfl⟩|⟨q1,hq1,rfl⟩
  ·rw[if_pos rfl]at h;cases h;exact .inl ⟨rfl,rfl,nm_lt',rfl,rfl⟩
  ·rw[if_neg (by decide)]at h;cases hc:rdC s (32*i) s.length with
   | none=>rw[hc]at h;cases h
   | some p=>
    rw[hc,Option.bind_some]at h;cases hd:rdC s p 16384 with
    | none=>rw[hd]at h;cases h
    | some m=>
     rw[hd,Option.bind_some,if_pos rfl]at h;obtain⟨_,_,hm⟩:=vo hd;split at h
     ·next hle=>
      cases h;exact .inr (.inl ⟨rfl,rfl,rfl,by rw[zn,List.length_take];omega,rfl⟩)
     ·cases h
  ·rw[if_neg (by simp)]at h;cases hc:rdC s (32*i) s.length with
   | none=>rw[hc]at h;cases h
   | some p=>
    rw[hc,Option.bind_some]at h;cases hd:rdC s p 16384 with
    | none=>rw[hd]at h;cases h
    | some m=>
     rw[hd,Option.bind_some,if_neg (by simp)]at h;split at h
     ·cases h
     ·next hno=>
      have hin:inr_ (40::(qs.flatten++[41]))=qs:=zad (by omega) hqs;have hm:m≤64∧m=qs.length:=by
       refine⟨Nat.le_of_not_lt fun h=>hno (.inl h),?_⟩;rcases Nat.decEq m qs.length with h | h
       ·exact absurd (.inr ⟨rfl,by rw[hin];exact h⟩) hno
       ·exact h
      have he:ke (40::(qs.flatten++[41])) m=qs:=by unfold ke;rw[if_pos (by simp),hin]
      rw[he]at h;cases hx:tkS (n+1) qs (s.drop (p+32)) lf with
      | none=>rw[hx]at h;cases h
      | some x=>
       obtain⟨ts,lf1⟩:=x;rw[hx]at h;cases h;have hr:=ih (by omega) hqs hx;have hl:=qr hr;rw[List.length_map]at hl;rw[shT_tup (by omega) hqs];refine .inr (.inr ⟨rfl,rfl,rfl,rfl,qs.map (shT n),?_,hr⟩);show v6 (List.length (α:=TT n) ts) false (qs.map (shT n))=_;unfold v6;rw[if_neg (by omega),if_neg (by simp),if_pos (by rw[List.length_map];omega)]
  ·rw[if_neg (by simp)]at h;cases hc:rdC s (32*i) s.length with
   | none=>rw[hc]at h;cases h
   | some p=>
    rw[hc,Option.bind_some]at h;cases hd:rdC s p 16384 with
    | none=>rw[hd]at h;cases h
    | some m=>
     rw[hd,Option.bind_some,if_neg (by simp)]at h;split at h
     ·cases h
     ·next hno=>
      have hin:inr_ (91::(q1++[93]))=[q1]:=inner_one (by omega) hq1;have hm:m≤64:=Nat.le_of_not_lt fun h=>hno (.inl h)
      have he:ke (91::(q1++[93])) m=List.replicate m q1:=by unfold ke;rw[if_neg (by simp),hin];rfl
      rw[he]at h;cases hx:tkS (n+1) (List.replicate m q1) (s.drop (p+32)) lf with
      | none=>rw[hx]at h;cases h
      | some x=>
       obtain⟨ts,lf1⟩:=x;rw[hx]at h;cases h;have hr:=ih (by omega) (fun q hq=>by rw[List.eq_of_mem_replicate hq];exact hq1) hx;have hl:=qr hr;rw[List.length_map,List.length_replicate]at hl;rw[List.map_replicate]at hr;rw[shT_arr (by omega) hq1];refine .inr (.inr ⟨rfl,rfl,rfl,rfl,List.replicate m (shT n q1),?_,hr⟩);show v6 (List.length (α:=TT n) ts) true [shT n q1]=_;unfold v6;rw[if_neg (by omega),if_pos rfl,← hl];rfl
theorem tk1_ok{n:Nat}{q s:List UInt8}{t:TT n}{i ahead lf:Nat}(hp:Pt n q)(hn:n≤8)(hf:xh n (shT n q) t)(hW:s.length<W)(ha:ahead≤s.length)(hw:Has s (32*i) (wrd t ahead))(hi:32*i+32≤s.length)(ht:Has s ahead (tlT n t))(hlf:tot n t.2.2.2≤lf)(hsub:∀{m:Nat} (e:n=m+1) {ps:List (List UInt8)} {s:List UInt8} {ts:List (TT m)} {lf:Nat},(∀ q∈ps,Pt m q)→qy (xh m) (ps.map (shT m)) ts→s.length<W→Has s 0 (enc (m+1) ts)→tot (m+1) ts≤lf→tk m ps s lf=some (ts,lf-tot (m+1) ts)) :
  tk1 (yf n) (tkS n) s q i lf=some (t,lf-tot n t.2.2.2):=by
 have haW:ahead<W:=Nat.lt_of_le_of_lt ha hW;have nil0:∀ n,tot n (yf n)=0:=fun n=>by cases n<;>rfl
 obtain⟨k,u,x,y⟩:=t;have num:k=0→u<W→x=⟨#[]⟩→y=yf n→q=[110]→tk1 (yf n) (tkS n) s q i lf=some ((k,u,x,y),lf-tot n y):=by
  rintro rfl hu rfl rfl rfl;unfold tk1;rw[if_pos hi,if_pos rfl,hw.take (wrd_len _ _),nil0,Nat.sub_zero];show some ((0,nm (wb u),_,_),lf)=_;rw[nm_wb u hu]
 have hat:k≠0→rdC s (32*i) s.length=some ahead:=fun hk=>by
  have hw':Has s (32*i) (wb ahead):=by
   have:wrd ((k,u,x,y):TT n) ahead=wb ahead:=by unfold wrd;rw[if_neg hk]
   rw[← this];exact hw
  exact rdC_of hw' ha haW (by omega)
 have txt_:k=1→u=0→x.size≤16384→y=yf n→q=[116]→tk1 (yf n) (tkS n) s q i lf=some ((k,u,x,y),lf-tot n y):=by
  rintro rfl rfl hx rfl rfl;have h1:=hat (by decide);have ht':Has s ahead (txt x):=ht;have hle:=ht'.le ha;rw[za6]at hle;unfold txt at ht';rw[Has.app,Has.app]at ht';obtain⟨⟨t1,t2⟩,_⟩:=ht';have hsl:x.data.toList.length=x.size:=Array.length_toList;rw[zx]at t2;unfold tk1;rw[if_pos hi,if_neg (by decide),h1,Option.bind_some,rdC_of t1 hx (Nat.lt_of_le_of_lt hx (by decide)) ha,Option.bind_some,if_pos rfl,if_pos (by rw[List.length_drop];omega),t2.take hsl,nil0,Nat.sub_zero]
 have lst:∀{m:Nat} (e:n=m+1),k=2→u=0→x=⟨#[]⟩→(q.head? = some 40∨q.head? = some 91)→cntL n y≤64→(q.head? = some 40→(inr_ q).length=cntL n y)→(∀ p∈ke q (cntL n y),Pt m p)→qy (xh m) ((ke q (cntL n y)).map (shT m)) (e ▸ y:TL (m+1))→tk1 (yf n) (tkS n) s q i lf=some ((k,u,x,y),lf-tot n y):=by
  rintro m rfl rfl rfl rfl hq h64 hcn hpt hr;have h1:=hat (by decide);have et:tlT (m+1) ((2,0,⟨#[]⟩,y):TT (m+1))=wb (cntL (m+1) y)++enc (m+1) y:=rfl;rw[et,Has.app,zx]at ht;obtain⟨t1,t2⟩:=ht;have h64':cntL (m+1) y≤64:=h64;have hdr:Has (s.drop (ahead+32)) 0 (enc (m+1) y):=by
   obtain⟨R,hR⟩:=t2;exact⟨R,by rw[List.drop_zero];exact hR⟩
  have hq1:q≠[110]:=by rintro rfl;rcases hq with h|h<;>cases h
  have hq2:q≠[116]:=by rintro rfl;rcases hq with h|h<;>cases h
  unfold tk1;rw[if_pos hi,if_neg hq1,h1,Option.bind_some,rdC_of t1 (by omega) (Nat.lt_of_le_of_lt h64' (by decide)) ha,Option.bind_some,if_neg hq2,if_neg (by
   rintro(h|⟨h,h'⟩)
   ·omega
   ·exact h' (hcn h).symm)]
  have:=hsub rfl hpt hr (Nat.lt_of_le_of_lt (by rw[List.length_drop];omega) hW) hdr hlf;show Option.map _ (tk m (ke q (cntL (m+1) y)) (s.drop (ahead+32)) lf)=_;rw[this];rfl
 cases n with
 | zero=>
  rcases hp with rfl|rfl
  ·rcases hf with⟨h1,h2,h3,h4,h5⟩|⟨h1,_⟩|h
   ·exact num h2 h3 h4 h5 rfl
   ·cases h1
   ·exact h.elim
  ·rcases hf with⟨h1,_⟩|⟨h1,h2,h3,h4,h5⟩|h
   ·cases h1
   ·exact txt_ h2 h3 h4 h5 rfl
   ·exact h.elim
 | succ m=>
  rcases hp with rfl|rfl|⟨qs,hqs,rfl⟩|⟨q1,hq1,rfl⟩
  ·rcases hf with⟨h1,h2,h3,h4,h5⟩|⟨h1,_⟩|⟨h1,_⟩
   ·exact num h2 h3 h4 h5 rfl
   ·cases h1
   ·cases h1
  ·rcases hf with⟨h1,_⟩|⟨h1,h2,h3,h4,h5⟩|⟨h1,_⟩
   ·cases h1
   ·exact txt_ h2 h3 h4 h5 rfl
   ·cases h1
  ·rw[shT_tup (by omega) hqs]at hf;rcases hf with⟨h1,_⟩|⟨h1,_⟩|⟨h1,h2,h3,h4,l',h5,h6⟩
   ·cases h1
   ·cases h1
   ·obtain⟨i1,i2⟩:=insM_len h5;have hin:inr_ (40::(qs.flatten++[41]))=qs:=zad (by omega) hqs;have hl':l'=qs.map (shT m):=by
     unfold v6 at h5;split at h5
     ·cases h5
     split at h5
     ·next h=>cases h
     ·split at h5
      ·cases h5;rfl
      ·cases h5
    subst hl';have hl:=qr h6;rw[List.length_map]at hl;have he:∀ n,ke (40::(qs.flatten++[41])) n=qs:=fun n=>by unfold ke;rw[if_pos (by simp),hin]
    exact lst rfl h2 h3 h4 (.inl rfl) i2 (fun _=>by rw[hin];exact hl) (by rw[he];exact hqs) (by rw[he];exact h6)
  ·rw[shT_arr (by omega) hq1]at hf;rcases hf with⟨h1,_⟩|⟨h1,_⟩|⟨h1,h2,h3,h4,l',h5,h6⟩
   ·cases h1
   ·cases h1
   ·obtain⟨i1,i2⟩:=insM_len h5;have hin:inr_ (91::(q1++[93]))=[q1]:=inner_one (by omega) hq1;have hl':l'=List.replicate (List.length (α:=TT m) y) (shT m q1):=by
     unfold v6 at h5;split at h5
     ·cases h5
     split at h5
     ·cases h5;rfl
     ·next h=>exact absurd rfl h
    subst hl';have he:∀ n,ke (91::(q1++[93])) n=List.replicate n q1:=fun n=>by unfold ke;rw[if_neg (by simp),hin];rfl
    exact lst rfl h2 h3 h4 (.inr rfl) i2 (fun h=>by cases h) (by rw[he];intro p hp;rw[List.eq_of_mem_replicate hp];exact hq1) (by rw[he,List.map_replicate];exact h6)
def sub_ (n:Nat) (l:List (TT n)):Nat:=(l.map fun t=>tot n t.2.2.2).sum
theorem tkG_ok{n:Nat}(hn:n≤8){s:List UInt8}(hW:s.length<W)(hsub:∀{m:Nat} (e:n=m+1) {ps:List (List UInt8)} {s:List UInt8} {ts:List (TT m)} {lf:Nat},(∀ q∈ps,Pt m q)→qy (xh m) (ps.map (shT m)) ts→s.length<W→Has s 0 (enc (m+1) ts)→tot (m+1) ts≤lf→tk m ps s lf=some (ts,lf-tot (m+1) ts)) :
  ∀(ps:List (List UInt8)) (ts:List (TT n)) (i ahead lf:Nat),(∀ q∈ps,Pt n q)→qy (xh n) (ps.map (shT n)) ts→ahead≤s.length→Has s (32*i) (hds (tlT n) ts ahead)→32*i+32*ts.length≤s.length→Has s ahead (ts.flatMap (tlT n))→sub_ n ts≤lf →
  tkG (yf n) (tkS n) s ps i lf=some (ts,lf-sub_ n ts)
 | [],[],i,ahead,lf,hp,hf,ha,hh,hl,ht,hlf=>rfl
 | [],_::_,_,_,_,_,hf,_,_,_,_,_=>hf.elim
 | _::_,[],_,_,_,_,hf,_,_,_,_,_=>hf.elim
 | q::ps,t::ts,i,ahead,lf,hp,hf,ha,hh,hl,ht,hlf=>by
  obtain⟨f1,f2⟩:=hf;have hh':Has s (32*i) (wrd t ahead++hds (tlT n) ts (ahead+(tlT n t).length)):=hh;rw[Has.app,wrd_len]at hh';rw[List.flatMap_cons,Has.app]at ht;rw[List.length_cons]at hl;have hsb:sub_ n (t::ts)=tot n t.2.2.2+sub_ n ts:=by unfold sub_;rw[List.map_cons,List.sum_cons]
  rw[hsb]at hlf;have h1:=tk1_ok (lf:=lf) (hp q List.mem_cons_self) hn f1 hW ha hh'.1 (by omega) ht.1 (by omega) hsub;have h2:=tkG_ok hn hW hsub ps ts (i+1) (ahead+(tlT n t).length) (lf-tot n t.2.2.2) (fun q hq=>hp q (List.mem_cons_of_mem _ hq)) f2 (ht.1.le ha) (by rw[show 32*(i+1)=32*i+32 by omega];exact hh'.2) (by omega) ht.2 (by omega);unfold tkG;rw[h1,Option.bind_some,h2,hsb,Nat.sub_sub];rfl
theorem tk_ok(n:Nat):n≤8→∀{ps:List (List UInt8)} {s:List UInt8} {ts:List (TT n)} {lf:Nat},(∀ q∈ps,Pt n q)→qy (xh n) (ps.map (shT n)) ts→s.length<W→Has s 0 (enc (n+1) ts)→tot (n+1) ts≤lf→tk n ps s lf=some (ts,lf-tot (n+1) ts):=by
 induction n with
 | zero=>
  intro hn ps s ts lf hp hf hW hs hlf;have hlen:=qr hf;rw[List.length_map]at hlen;have e:=enc_hds 0 ts (zbm hf);have hle:=hs.le (Nat.zero_le _);rw[e,Has.app,zam,Nat.zero_add]at hs;rw[e,List.length_append,zam]at hle;have htot:tot (0+1) ts=ts.length+sub_ 0 ts:=rfl;rw[tk_eq,if_neg (by omega),tkG_ok hn hW (fun e=>by cases e) ps ts 0 (32*ts.length) (lf-ps.length) hp hf (by omega) hs.1 (by omega) (by rw[Nat.mul_comm];exact hs.2) (by omega),htot,hlen,Nat.sub_sub]
 | succ n ih=>
  intro hn ps s ts lf hp hf hW hs hlf;have hlen:=qr hf;rw[List.length_map]at hlen;have e:=enc_hds (n+1) ts (zbm hf);have hle:=hs.le (Nat.zero_le _);rw[e,Has.app,zam,Nat.zero_add]at hs;rw[e,List.length_append,zam]at hle;have htot:tot (n+1+1) ts=ts.length+sub_ (n+1) ts:=rfl;rw[tk_eq,if_neg (by omega),tkG_ok hn hW (fun e=>by cases e;exact ih (by omega)) ps ts 0 (32*ts.length) (lf-ps.length) hp hf (by omega) hs.1 (by omega) (by rw[Nat.mul_comm];exact hs.2) (by omega),htot,hlen,Nat.sub_sub]
theorem tot_enc(n:Nat):∀{sl:List (ST n)} {ts:List (TT n)},qy (xh n) sl ts→32*tot (n+1) ts≤(enc (n+1) ts).length:=by
 have main:∀{n:Nat},(∀{s:ST n} {t:TT n},xh n s t→32*tot n t.2.2.2≤(tlT n t).length)→∀(sl:List (ST n)) (ts:List (TT n)),qy (xh n) sl ts→32*sub_ n ts≤(ts.flatMap (tlT n)).length:=by
  intro n h sl
  induction sl with
  | nil=>intro ts hf;cases ts with
   | nil=>exact Nat.le_refl _
   | cons t ts=>exact hf.elim
  | cons s sl ih=>intro ts hf;cases ts with
   | nil=>exact hf.elim
   | cons t ts=>
    have h1:=h hf.1;have h2:=ih ts hf.2;have hsb:sub_ n (t::ts)=tot n t.2.2.2+sub_ n ts:=by unfold sub_;rw[List.map_cons,List.sum_cons]
    rw[hsb,List.flatMap_cons,List.length_append];omega
 have nil0:∀ n,tot n (yf n)=0:=fun n=>by cases n<;>rfl
 have fin:∀{n:Nat} {sl:List (ST n)} {ts:List (TT n)},(∀{s:ST n} {t:TT n},xh n s t→32*tot n t.2.2.2≤(tlT n t).length)→qy (xh n) sl ts→32*tot (n+1) ts≤(enc (n+1) ts).length:=by
  intro n sl ts h hf;have h1:=main h sl ts hf;rw[enc_hds n ts (zbm hf),List.length_append,zam];have htot:tot (n+1) ts=ts.length+sub_ n ts:=rfl;omega
 induction n with
 | zero=>
  intro sl ts hf;refine fin ?_ hf;intro s t h;exact Nat.zero_le _
 | succ n ih=>
  intro sl ts hf;refine fin ?_ hf;intro s t h;obtain⟨k,u,x,y⟩:=t;rcases h with⟨_,_,_,_,h5⟩|⟨_,_,_,_,h5⟩|⟨_,h2,_,_,l',_,hr⟩
  ·simp only at h5;subst h5;rw[nil0];exact Nat.zero_le _
  ·simp only at h5;subst h5;rw[nil0];exact Nat.zero_le _
  ·simp only at h2;subst h2;have:=ih hr;have et:tlT (n+1) ((2,u,x,y):TT (n+1))=wb (cntL (n+1) y)++enc (n+1) y:=rfl;rw[et,List.length_append];exact Nat.le_trans this (Nat.le_add_left _ _)
def rdecM (f S:List UInt8):Option (List (TT 8)):=(xe f).bind fun ps=>(tk 8 ps S (S.length/32)).bind fun x=>if enc 9 x.1=S then some x.1 else none
theorem rdec_eq{f S:List UInt8}(hW:S.length<W):rdecM f S=ku f S:=by
 unfold rdecM;cases hd:ku f S with
 | some ts=>
  obtain⟨ps,h1,h2,h3⟩:=qg hW hd;obtain⟨_,hpt⟩:=zar h1;have h4:=tot_enc 8 h2;have h3':enc (8+1) ts=S:=h3;rw[h3']at h4;rw[h1,Option.bind_some,tk_ok 8 (Nat.le_refl _) hpt h2 hW ⟨[],by rw[List.drop_zero,h3',List.append_nil]⟩ (by omega),Option.bind_some,if_pos h3]
 | none=>
  cases h1:xe f with
  | none=>rfl
  | some ps=>
   obtain⟨_,hpt⟩:=zar h1;rw[Option.bind_some];cases h2:tk 8 ps S (S.length/32)with
   | none=>rfl
   | some x=>
    rw[Option.bind_some];split
    ·next he=>
     have:=zc8 h1 hW (tk_fit 8 (Nat.le_refl _) hpt h2) he;rw[hd]at this;cases this
    ·rfl
theorem rreadL(x:List UInt8)(hx:x.length≤32):RT 51 #[str x] (.tuple #[U (nm x),Z 0]):=by
 intro w;have h:=rread_any ⟨x.toArray⟩ (by rw[zn];exact hx) w;rw[zn]at h;exact h
theorem qw{x y:Nat}{q:Bool}(h:decide (x≠y)=q)(o1 o2:Operand)(w:World):(do eqGuard .neq 23 o1 o2 (B x) (B y);binOp .neq 23 (B x) (B y):Sem Value).run prog w=.ok (.bool q) w:=by
 by_cases hx:x=y
 ·subst hx;subst h;simp[go_sem]
 ·have hx':¬ ((x:Int)=(y:Int)):=by omega
  subst h;simp[go_sem,hx,hx']
theorem gtrB64{x y:Nat}{q:Bool}(h:decide (y<x)=q)(o1 o2:Operand)(w:World):(do eqGuard .gtr 23 o1 o2 (B x) (B y);binOp .gtr 23 (B x) (B y):Sem Value).run prog w=.ok (.bool q) w:=by
 subst h;simp[go_sem]
theorem cnv64(n:Nat)(hn:n<1000000000000)(w:World):(convert 23 3 (B n)).run prog w=.ok (Z n) w:=by
 have:=wz (n:=(n:Int)) (by omega) (by omega);simp[go_sem,this]
abbrev rv (o:Option Nat):Int:=match o with | some n=>n | none=> -1
theorem zdf{s:List UInt8}{p most:Nat}(hs:s.length<1000000000)(hp:p<1000000000)(hm:most<1000000000):RT 77 #[str s,Z p,Z most] (Z (rv (rdC s p most))):=by
 intro w;have hsz:=zn s;refine inZ func77 fun a I=>?_;rcases Nat.lt_or_ge s.length (p+32)with h32 | h32
 ·refine goZ [bO .lss 3 (zf (x:=p) (y:=0) (b:=false) (by simp)),lO underlying9 (b:=⟨s.toArray⟩) (n:=s.length) (by rw[hsz]),ksZ s.length 32 ((s.length:Int)-32),kgT p ((s.length:Int)-32)] I fun β a w1 I hb=>?_;exact zh (v:=Z (-1)) I ⟨by unfold rdC;rw[if_neg (by omega)],I.hJ⟩
 obtain⟨n,hn⟩:∃ n,nm ((s.drop p).take 32)=n:=⟨_,rfl⟩
 have hl32:((s.drop p).take 32).length≤32:=by rw[List.length_take];omega
 have hnW:n<W:=by rw[← hn];exact nm_lt _ hl32
 have hrd:rdC s p most=if n≤most then some n else none:=by unfold rdC;rw[if_pos h32,hn]
 have hparts:=qq n hnW;have hslice:(s.take (p+32)).drop p=(s.drop p).take 32:=by rw[List.drop_take,Nat.add_sub_cancel_left]
 have hrdc:∀ w,Calls prog 51 #[str ((s.take (p+32)).drop p)] w fun e w'=>e=.returned (.tuple #[U n,Z 0])∧Below w.heap.size w w':=fun w=>by rw[hslice,← hn];exact rreadL _ hl32 w
 have big:(l1 n≠0∨l2 n≠0∨l3 n≠0)→¬ n≤most:=fun h hle=>by
  have hM:n<M:=Nat.lt_of_le_of_lt hle (Nat.lt_trans hm (by decide));have h1:l1 n=0:=by unfold l1;rw[Nat.div_eq_of_lt hM];rfl
  have h2:l2 n=0:=by unfold l2;rw[Nat.div_eq_of_lt (Nat.lt_of_lt_of_le hM (by decide))];rfl
  have h3:l3 n=0:=by unfold l3;rw[Nat.div_eq_of_lt (Nat.lt_of_lt_of_le hM (by decide))];rfl
  omega
 by_cases h1:l1 n=0
 case neg=>
  refine goQ [bO .lss 3 (zf (x:=p) (y:=0) (b:=false) (by simp)),lO underlying9 (b:=⟨s.toArray⟩) (n:=s.length) (by rw[hsz]),ksZ s.length 32 ((s.length:Int)-32),kgF p ((s.length:Int)-32),
   kaZ p 32 (p+32:Nat),sLH 9 (p:=str s) (l:=Z p) (m:=Z (p+32:Nat)) (v:=str ((s.take (p+32)).drop p)) (vc (by omega) h32),kC func51 hrdc,bO .neq 23 (qw (x:=l1 n) (y:=0) (q:=true) (decide_eq_true h1))] (zj w) I fun β a w1 I hb=>?_
  exact zh (v:=Z (-1)) I ⟨by rw[hrd,if_neg (big (.inl h1))],I.hJ⟩
 by_cases h2:l2 n=0
 case neg=>
  refine goQ [bO .lss 3 (zf (x:=p) (y:=0) (b:=false) (by simp)),lO underlying9 (b:=⟨s.toArray⟩) (n:=s.length) (by rw[hsz]),ksZ s.length 32 ((s.length:Int)-32),kgF p ((s.length:Int)-32),
   kaZ p 32 (p+32:Nat),sLH 9 (p:=str s) (l:=Z p) (m:=Z (p+32:Nat)) (v:=str ((s.take (p+32)).drop p)) (vc (by omega) h32),kC func51 hrdc,bO .neq 23 (qw (x:=l1 n) (y:=0) (q:=false) (by simp[h1])),bO .neq 23 (qw (x:=l2 n) (y:=0) (q:=true) (decide_eq_true h2))] (zj w) I fun β a w1 I hb=>?_
  exact zh (v:=Z (-1)) I ⟨by rw[hrd,if_neg (big (.inr (.inl h2)))],I.hJ⟩
 by_cases h3:l3 n=0
 case neg=>
  refine goQ [bO .lss 3 (zf (x:=p) (y:=0) (b:=false) (by simp)),lO underlying9 (b:=⟨s.toArray⟩) (n:=s.length) (by rw[hsz]),ksZ s.length 32 ((s.length:Int)-32),kgF p ((s.length:Int)-32),
   kaZ p 32 (p+32:Nat),sLH 9 (p:=str s) (l:=Z p) (m:=Z (p+32:Nat)) (v:=str ((s.take (p+32)).drop p)) (vc (by omega) h32),kC func51 hrdc,bO .neq 23 (qw (x:=l1 n) (y:=0) (q:=false) (by simp[h1])),bO .neq 23 (qw (x:=l2 n) (y:=0) (q:=false) (by simp[h2])),bO .neq 23 (qw (x:=l3 n) (y:=0) (q:=true) (decide_eq_true h3))] (zj w) I fun β a w1 I hb=>?_
  exact zh (v:=Z (-1)) I ⟨by rw[hrd,if_neg (big (.inr (.inr h3)))],I.hJ⟩
 have hl0:l0 n=n:=by
  rw[h1,h2,h3]at hparts;unfold mk at hparts;omega
 by_cases hle:n≤most
 case neg=>
  refine goQ [bO .lss 3 (zf (x:=p) (y:=0) (b:=false) (by simp)),lO underlying9 (b:=⟨s.toArray⟩) (n:=s.length) (by rw[hsz]),ksZ s.length 32 ((s.length:Int)-32),kgF p ((s.length:Int)-32),
   kaZ p 32 (p+32:Nat),sLH 9 (p:=str s) (l:=Z p) (m:=Z (p+32:Nat)) (v:=str ((s.take (p+32)).drop p)) (vc (by omega) h32),kC func51 hrdc,bO .neq 23 (qw (x:=l1 n) (y:=0) (q:=false) (by simp[h1])),bO .neq 23 (qw (x:=l2 n) (y:=0) (q:=false) (by simp[h2])),bO .neq 23 (qw (x:=l3 n) (y:=0) (q:=false) (by simp[h3])),vO 3 23 (p:=Z most) (v:=B most) (cnvB most (by omega)),bO .gtr 23 (gtrB64 (x:=l0 n) (y:=most) (q:=true) (decide_eq_true (by omega)))] (zj w) I fun β a w1 I hb=>?_
  exact zh (v:=Z (-1)) I ⟨by rw[hrd,if_neg hle],I.hJ⟩
 ·refine goQ [bO .lss 3 (zf (x:=p) (y:=0) (b:=false) (by simp)),lO underlying9 (b:=⟨s.toArray⟩) (n:=s.length) (by rw[hsz]),ksZ s.length 32 ((s.length:Int)-32),kgF p ((s.length:Int)-32),
   kaZ p 32 (p+32:Nat),sLH 9 (p:=str s) (l:=Z p) (m:=Z (p+32:Nat)) (v:=str ((s.take (p+32)).drop p)) (vc (by omega) h32),kC func51 hrdc,bO .neq 23 (qw (x:=l1 n) (y:=0) (q:=false) (by simp[h1])),bO .neq 23 (qw (x:=l2 n) (y:=0) (q:=false) (by simp[h2])),bO .neq 23 (qw (x:=l3 n) (y:=0) (q:=false) (by simp[h3])),vO 3 23 (p:=Z most) (v:=B most) (cnvB most (by omega)),bO .gtr 23 (gtrB64 (x:=l0 n) (y:=most) (q:=false) (decide_eq_false (by omega))),vO 23 3 (p:=B (l0 n)) (v:=Z (l0 n)) (cnv64 (l0 n) (by omega))] (zj w) I fun β a w1 I hb=>?_
  exact zh (v:=Z (l0 n)) I ⟨by rw[hrd,if_pos hle,hl0],I.hJ⟩
def SR (K:Nat→Prop) (w:World) (v:Value) (ps:List (List UInt8)):Prop:=
 ∃ ad cap,v=.slice ad ps.length cap∧∀(i:Nat) (q:List UInt8),ps[i]? = some q→∃ g off,ad=some ⟨g,off,none⟩∧K g∧zo w g (off+i*1) [str q]
theorem SR.keep{K:Nat→Prop}{w w':World}{v:Value}{ps:List (List UInt8)}(h:∀ k,K k→w'.heap[k]? = w.heap[k]?)(H:SR K w v ps):SR K w' v ps:=by
 obtain⟨ad,cap,hv,hm⟩:=H;refine⟨ad,cap,hv,fun i q hi=>?_⟩;obtain⟨g,off,h1,h2,h3⟩:=hm i q hi;exact⟨g,off,h1,h2,h3.keep (h g h2)⟩
theorem SR.own{w:World}{b:Nat}{v:Value}{ps:List (List UInt8)}(h:w.ownsRow b 9 1 v ps.length (ps.map str)):SR (fun k=>v.ownBlock=some k) w v ps:=by
 obtain⟨ad,cap,rfl⟩:=z4 h;refine⟨ad,cap,rfl,fun i q hi=>?_⟩;have hil:i<ps.length:=(List.getElem?_eq_some_iff.1 hi).1;rcases h.2 with⟨hv,hn⟩ | ⟨g,cap',cur,hv,hb,hg,hnc,hcm,hcs,hct⟩
 ·omega
 ·cases hv;refine⟨g,0,rfl,rfl,fun j c hc=>?_⟩;have hj:j=0:=by
   have:=(List.getElem?_eq_some_iff.1 hc).1;simpa using this
  subst hj;simp only[List.getElem?_cons_zero,Option.some.injEq]at hc;subst hc;have:=h.cells (g:=g) rfl i (str q) (by rw[List.getElem?_map,hi];rfl);rw[xz]at this;rw[Nat.mul_one,Nat.add_zero];exact this
theorem zo.text{w:World}{g o:Nat}{q:List UInt8}(h:zo w g o [str q]):(loadVar 9 ⟨g,o,none⟩).run prog w=.ok (str q) w:=xk h 0 rfl 9 underlying9 rfl
structure SJ (K:Nat→Prop) (v:Value) (ps:List (List UInt8)) (w:World):Prop where
 kb:∀ k,K k→k<w.heap.size
 sr:SR K w v ps
theorem SJ.rs(K:Nat→Prop)(v:Value)(ps:List (List UInt8)):yw (SJ K v ps) K:=
 ⟨fun w w' h gr=>⟨fun k hk=>Nat.lt_of_lt_of_le (h.kb k hk) gr.size,h.sr.keep fun k hk=>gr.block k (h.kb k hk) hk⟩,fun w k h hk=>h.kb k hk⟩
theorem SI.also{J J':World→Prop}{F F':Nat→Prop}{ds:List Deferred}{β:Nat→Nat}{c:Cf}{a:Act}{w:World}(I:SI J F ds β c a w)(hJ:J' w)(hF:∀ p∈c.rows,¬ F' (β p.1)):SI (fun w'=>J w'∧J' w') (fun k=>F k∨F' k) ds β c a w:=
 ⟨I.fr,I.df,⟨I.hJ,hJ⟩,I.row,fun p hp h=>h.elim (I.dis p hp) (hF p hp),I.lt,I.inj,I.ids⟩
theorem SI.less{J J':World→Prop}{F F':Nat→Prop}{ds:List Deferred}{β:Nat→Nat}{c:Cf}{a:Act}{w:World}(I:SI J F ds β c a w)(hJ:J' w)(hF:∀ k,F' k→F k):SI J' F' ds β c a w:=
 ⟨I.fr,I.df,hJ,I.row,fun p hp h=>I.dis p hp (hF _ h),I.lt,I.inj,I.ids⟩
theorem WJ.grow{w w1 w2:World}{g n:Nat}{v:Value}{X:List (Int×Nat×ByteArray×Value)}{ts:List (TT n)}{K:Nat→Prop}(hlt:g<w.heap.size)(h:WJ w g n v X ts K w1)(hg:zi (fun k=>k≠g) w1 w2):WJ w g n v X ts K w2:=by
 have hne:∀ k,v.ownBlock=some k→k≠g:=fun k hk e=>by have:=(h.ro.own.lt k hk).1;omega
 exact⟨⟨h.ro.gr.trans hg,x9 h.ro.own hg hne⟩,fun k hk=>⟨(h.kb k hk).1,Nat.lt_of_lt_of_le (h.kb k hk).2.1 hg.size,(h.kb k hk).2.2⟩,h.inn.keep fun k hk=>hg.block k (h.kb k hk).2.1 (by have:=(h.kb k hk).1;omega)⟩
theorem app_term{w:World}{g n i cap lo:Nat}{ad:Option Addr}{X:List (Int×Nat×ByteArray×Value)}{ts:List (TT n)}{K K1:Nat→Prop}{tm:TT n}{adl:Option Addr}{ml capl:Nat}{ds:List Deferred}{β:Nat→Nat}{c:Cf}{a:Act}{w6:World}{Q:Exit→Act→World→Prop}(I6:SI (fun w'=>WJ w g n (.slice ad i cap) X ts K w'∧LK K1 lo n (.slice adl ml capl) tm.2.2.2 w') (fun k=>WJF w g (.slice ad i cap) K k∨K1 k) ds β c a w6)(hXi:X.length=i)(hi:i<100000000)(hK1:∀ k,K1 k→w.heap.size≤k∧(Value.slice ad i cap).ownBlock≠some k)(k:∀ ad8 cap8 a8 w8,SI (WJ w g n (.slice ad8 (i+1) cap8) (X++[(tm.1,tm.2.1,tm.2.2.1,Value.slice adl ml capl)]) (ts++[tm]) (fun k=>K k∨K1 k)) (WJF w g (.slice ad8 (i+1) cap8) (fun k=>K k∨K1 k)) ds β (xa (xa c (.slice (some ⟨w6.heap.size,0,none⟩) 1 1)) (.slice ad8 (i+1) cap8)) a8 w8→At prog Q (xa (xa c (.slice (some ⟨w6.heap.size,0,none⟩) 1 1)) (.slice ad8 (i+1) cap8)) a8 w8)(hc1:bsQ c=some (48,1,[(0,Sum.inl (.agg (tx (tm.1,tm.2.1,tm.2.2.1,Value.slice adl ml capl)).toArray))]):=by kernel_rfl)(hc2:bltQ (xa c (.slice (some ⟨w6.heap.size,0,none⟩) 1 1))=some (.append,#[48,48],48,[Sum.inl (.slice ad i cap),Sum.inl (.slice (some ⟨w6.heap.size,0,none⟩) 1 1)]):=by kernel_rfl):At prog Q c a w6:=by
 have hRs:=(WJ.rs w g n (.slice ad i cap) X ts K).both (LK.rs K1 lo n (.slice adl ml capl) tm.2.2.2);refine bslQ (ss:=[(0,Sum.inl (.agg (tx (tm.1,tm.2.1,tm.2.2.1,Value.slice adl ml capl)).toArray))]) I6 (zaa _ _ _ _ _ _ _ w6) ?_ hc1;have I7:=I6.alloc hRs (.cells (tx (tm.1,tm.2.1,tm.2.2.1,Value.slice adl ml capl)).toArray 59) (.slice (some ⟨w6.heap.size,0,none⟩) 1 1);obtain⟨inf,hi1,hi2,hi3,hi4⟩:=hI41;have hown7:=I7.hJ.1.ro.own;rw[hXi]at hown7
 obtain⟨v',w8,hr8,ho8,hg8⟩:=km underlying48 hi1 hi2 hi3 hi4 rfl (by decide) (by decide) hown7 I7.hJ.1.ro.gr.size ⟨w6.heap.size,0,none⟩ (tx (tm.1,tm.2.1,tm.2.2.1,Value.slice adl ml capl)) rfl (xu w6 (tx (tm.1,tm.2.1,tm.2.2.1,Value.slice adl ml capl)).toArray 59) (by intro u hu;simp only[tx,zaj,List.mem_cons,List.not_mem_nil,or_false]at hu;rcases hu with rfl|rfl|rfl|rfl|rfl|rfl|rfl<;>rfl) (by omega);obtain⟨ad8,cap8,rfl⟩:=z4 ho8;refine appQ (ss:=[Sum.inl (.slice ad i cap),Sum.inl (.slice (some ⟨w6.heap.size,0,none⟩) 1 1)]) I7 hr8 ?_ hc2
 have hXl1:(X++[(tm.1,tm.2.1,tm.2.2.1,Value.slice adl ml capl)]).length=i+1:=by simp[hXi]
 have hXf:X.flatMap tx++tx (tm.1,tm.2.1,tm.2.2.1,Value.slice adl ml capl)=(X++[(tm.1,tm.2.1,tm.2.2.1,Value.slice adl ml capl)]).flatMap tx:=by simp
 rw[hXf]at ho8;have hk7:∀ k,(K k∨K1 k)→w.heap.size≤k∧k<w6.heap.size∧(Value.slice ad i cap).ownBlock≠some k:=fun k hk=>by
  rcases hk with hk|hk
  ·exact⟨(I6.hJ.1.kb k hk).1,(I6.hJ.1.kb k hk).2.1,(I6.hJ.1.kb k hk).2.2⟩
  ·exact⟨(hK1 k hk).1,(I6.hJ.2.kb k hk).2,(hK1 k hk).2⟩
 have hsz7:(w6.alloc (.cells (tx (tm.1,tm.2.1,tm.2.2.1,Value.slice adl ml capl)).toArray 59)).heap.size=w6.heap.size+1:=by simp
 have hblk:∀ k,(K k∨K1 k)→w8.heap[k]? = w6.heap[k]? :=fun k hk=>by
  obtain⟨h1,h2,h3⟩:=hk7 k hk;rw[hg8.gr.block k (by omega) fun e=>h3 e.symm];exact(yh w6 _).block k h2
 have hinn8:InT (fun k=>K k∨K1 k) w8 n (X++[(tm.1,tm.2.1,tm.2.2.1,Value.slice adl ml capl)]) (ts++[tm]):=by
  have h1:InT (fun k=>K k∨K1 k) w8 n X ts:=(I6.hJ.1.inn.keep fun k hk=>hblk k (.inl hk)).mono fun k hk=>.inl hk
  have h2:LAf (fun k=>K k∨K1 k) w8 n (.slice adl ml capl) tm.2.2.2:=(I6.hJ.2.la.keep fun k hk=>hblk k (.inr hk)).mono fun k hk=>.inr hk
  exact h1.snoc h2
 have hro8:RO w g 59 7 (.slice ad8 (i+1) cap8) (X++[(tm.1,tm.2.1,tm.2.2.1,Value.slice adl ml capl)]).length ((X++[(tm.1,tm.2.1,tm.2.2.1,Value.slice adl ml capl)]).flatMap tx) w8:=by
  have h7:=I7.hJ.1.ro;rw[hXi]at h7;rw[hXl1];exact h7.grown ho8 hg8
 exact k ad8 cap8 _ w8 (I7.moved ⟨hg8.gr.os,hg8.gr.tape,hg8.gr.output,hg8.gr.size,fun k hk hn=>hg8.gr.block k hk fun e=>hn (.inl (.inr (.inl e.symm)))⟩ ⟨hro8,fun k hk=>by
   obtain⟨h1,h2,h3⟩:=hk7 k hk;have:=hg8.gr.size;refine⟨h1,by omega,fun e=>?_⟩;rcases hg8.nb k e with h4 | h4
   ·exact h3 h4
   ·omega,hinn8⟩ (fun k hk h=>by
   rcases h with h|h|h|h
   ·exact .inl (.inl h)
   ·rcases hg8.nb k h with h4|h4
    ·exact .inl (.inr (.inl h4))
    ·omega
   ·exact .inl (.inr (.inr h))
   ·exact .inr h) (.slice ad8 (i+1) cap8))
def TakeP (n g:Nat) (w:World) (ps:List (List UInt8)) (s:List UInt8) (lf:Nat) (e:Ending) (w':World):Prop:=
 zi (fun k=>k≠g) w w'∧((tk n ps s lf=none∧e=.returned (.tuple #[.slice none 0 0,.bool false]))∨∃ ts lf' v K',tk n ps s lf=some (ts,lf')∧lf'≤lf∧e=.returned (.tuple #[v,.bool true])∧zb w' g #[Z lf']∧(∀ k,K' k→w.heap.size≤k∧k<w'.heap.size)∧LAf K' w' (n+1) v ts)
def TakeC (n:Nat):Prop:=∀{g:Nat} {w:World} {K:Nat→Prop} {pv:Value} {ps:List (List UInt8)} {s:List UInt8} {lf:Nat},zb w g #[Z lf]→SR K w pv ps→(∀ k,K k→k≠g∧k<w.heap.size)→(∀ q∈ps,Pt n q∧q.length≤1000)→ps.length≤10000→s.length<100000000→lf<100000000→Calls prog 47 #[pv,str s,ye g] w (TakeP n g w ps s lf)
theorem tkG_step{α:Type}{nil:α}{sub:List (List UInt8)→List UInt8→Nat→Option (α×Nat)}{s:List UInt8}{ps:List (List UInt8)}{i lf:Nat}{q:List UInt8}(h:ps[i]? = some q):tkG nil sub s (ps.drop i) i lf=(tk1 nil sub s q i lf).bind fun x=>(tkG nil sub s (ps.drop (i+1)) (i+1) x.2).map fun y=>(x.1::y.1,y.2):=by
 obtain⟨h1,h2⟩:=List.getElem?_eq_some_iff.1 h;rw[List.drop_eq_getElem_cons h1,h2];rfl
theorem Pt.lst{n:Nat}(hn:n≤8){q:List UInt8}(h:Pt n q)(h1:q≠[110])(h2:q≠[116]):∃ m b gq inn,n=m+1∧q=b::gq∧(b=40∨b=91)∧1≤gq.length∧xe ((b::gq).drop 1).dropLast=some inn∧inr_ (b::gq)=inn∧(∀ p∈inn,Pt m p)∧(b=91→∃ p,inn=[p]):=by
 cases n with
 | zero=>
  rcases h with h|h
  ·exact absurd h h1
  ·exact absurd h h2
 | succ m=>
  rcases h with h|h|⟨qs,hqs,rfl⟩|⟨q1,hq1,rfl⟩
  ·exact absurd h h1
  ·exact absurd h h2
  ·have hp:xe ((40::(qs.flatten++[41]):List UInt8).drop 1).dropLast=some qs:=by
    rw[List.drop_one,List.tail_cons,List.dropLast_concat];exact parts_ok fun q hq=>(hqs q hq).up (by omega)
   exact⟨m,40,qs.flatten++[41],qs,rfl,rfl,.inl rfl,by rw[List.length_append,List.length_singleton];omega,hp,by unfold inr_;rw[hp];rfl,hqs,fun h=>by cases h⟩
  ·have hp:xe ((91::(q1++[93]):List UInt8).drop 1).dropLast=some [q1]:=by
    rw[List.drop_one,List.tail_cons,List.dropLast_concat];have:=parts_ok (ps:=[q1]) (fun q hq=>by rw[List.mem_singleton]at hq;subst hq;exact hq1.up (by omega))
    rwa [List.flatten_cons,List.flatten_nil,List.append_nil]at this
   exact⟨m,91,q1++[93],[q1],rfl,rfl,.inr rfl,by rw[List.length_append,List.length_singleton];omega,hp,by unfold inr_;rw[hp];rfl,fun p hp=>by rw[List.mem_singleton]at hp;subst hp;exact hq1,fun _=>⟨q1,rfl⟩⟩
abbrev taK:List Nat:=[0,1,2,8,9]
abbrev taV (pv:Value) (s:List UInt8) (out:Value) (i:Nat):Vs:=frm 169 [(0,Sum.inl pv),(1,Sum.inl (str s)),(2,Sum.inr (0,0)),(8,Sum.inl out),(9,Sum.inl (Z i))]
def yn (fn:Func):Code:=(loopOf (zc fn)).getD .skip
abbrev tbK:List Nat:=[0,1,2,8,9,13,14,15,17,18]
abbrev tbV (pv:Value) (s:List UInt8) (out:Value) (i m:Nat) (s2:List UInt8) (inn each:Value) (j:Nat):Vs:=frm 169 [(0,Sum.inl pv),(1,Sum.inl (str s)),(2,Sum.inr (0,0)),(8,Sum.inl out),(9,Sum.inl (Z i)),(13,Sum.inl (Z m)),(14,Sum.inl (str s2)),(15,Sum.inl inn),(17,Sum.inl each),(18,Sum.inl (Z j))]
theorem bd_lst2(ad:Option Addr)(n cap:Nat)(w:World):(Instr.build 59 (([0,3]:List Nat).zip [Z 2,.slice ad n cap]).toArray).run prog w=.ok (.agg (tx (2,0,⟨#[]⟩,.slice ad n cap)).toArray) w:=by kernel_rfl
def SRn (lo:Nat) (inn:List (List UInt8)) (v:Value) (w:World):Prop:=∃ Ki:Nat→Prop,(∀ k,Ki k→lo≤k∧k<w.heap.size)∧SR Ki w v inn
theorem SRn.below{lo:Nat}{inn:List (List UInt8)}{v:Value}{w w':World}(h:SRn lo inn v w)(hb:Below w.heap.size w w'):SRn lo inn v w':=by
 obtain⟨Ki,h1,h2⟩:=h;exact⟨Ki,fun k hk=>⟨(h1 k hk).1,Nat.lt_of_lt_of_le (h1 k hk).2 hb.size⟩,h2.keep fun k hk=>hb.block k (h1 k hk).2⟩
section
variable {P:Program} {ops:Array Oper} {Q:Exit→Act→World→Prop} {o:Oper} {a:Act} {w:World}
theorem asgnG{x:Operand}{v:Value}(hop:o.op=.assign x)(hg:o.guard=none)(hx:a.eval x=v):wpG ops o P a w (fun a'' w''=>a''=a.put o.dst v∧w''=w) Q:=by
 refine yg hg (xy (v:=v) (w1:=w) ?_ ⟨rfl,rfl⟩);unfold execOp;simp only[hop,hx,Sem.run_pure]
theorem extrG{x:Operand}{j:Nat}{vs:Array Value}{v:Value}(hop:o.op=.extract x j)(hg:o.guard=none)(hx:a.eval x=.tuple vs)(hv:vs[j]? = some v):wpG ops o P a w (fun a'' w''=>a''=a.put o.dst v∧w''=w) Q:=by
 refine yg hg (xy (v:=v) (w1:=w) ?_ ⟨rfl,rfl⟩);unfold execOp;simp[hop,hx,Instr.extract,hv]
end
theorem SI.alsoK{J J':World→Prop}{F F':Nat→Prop}{ds:List Deferred}{β:Nat→Nat}{c:Cf}{a:Act}{w:World}(I:SI J F ds β c a w)(hJ:J' w)(rows0:Rows)(hF:∀ p∈rows0,¬ F' (β p.1))(hrw:c.rows=rows0):SI (fun w'=>J w'∧J' w') (fun k=>F k∨F' k) ds β c a w:=
 I.also hJ (by rw[hrw];exact hF)
structure OJ (b e sz:Nat) (v:Value) (n:Nat) (xs:List Value) (w:World):Prop where
 own:w.ownsRow b e sz v n xs
 le:b≤w.heap.size
theorem OJ.rs(b e sz:Nat)(v:Value)(n:Nat)(xs:List Value):yw (OJ b e sz v n xs) (fun k=>v.ownBlock=some k):=
 ⟨fun w w' h g=>⟨x9 h.own g fun k hk=>hk,Nat.le_trans h.le g.size⟩,fun w k h hk=>(h.own.lt k hk).2⟩
theorem at_rows0{P:Program}{Q:Exit→Act→World→Prop}{c:Cf}{a:Act}{w:World}:At P Q { c with rows:=[] } a w↔At P Q c a w:=⟨fun h=>⟨h.out⟩,fun h=>⟨h.out⟩⟩
theorem SI.norow{J J':World→Prop}{F F':Nat→Prop}{ds:List Deferred}{β:Nat→Nat}{c:Cf}{a:Act}{w w':World}(I:SI J F ds β c a w)(hJ:J' w')(v:Value):SI J' F' ds β { xa c v with rows:=[] } (a.put (yu c) v) w':=by
 refine⟨za7 I.fr (yu c) (some (Sum.inl v)),?_,hJ,fun p hp=>(by cases hp),fun p hp=>(by cases hp),fun p hp=>(by cases hp),fun p hp=>(by cases hp),zag I.ids (yu c) (by intro i o h;cases h)⟩;unfold Act.put;split<;>exact I.df
def kOf:Code→List Ki→Option (List Ki)
 | .loop _,ks=>some ks
 | .seq x y,ks=>(kOf x (Sum.inl y::ks)).or (kOf y ks)
 | .block id x,ks=>kOf x (Sum.inr id::ks)
 | .cond _ x y,ks=>(kOf x ks).or (kOf y ks)
 | _,_=>none
theorem take_of{n:Nat}(hn8:n≤8)(hrec:∀ m,n=m+1→TakeC m):TakeC n:=by
 intro g w K pv ps s lf hr hSR hK hps hpl hsl hlf;have hlt:=hr.lt;have hsz:=zn s;obtain⟨adp,capp,rfl,hmp⟩:=hSR
 have key:=inR (P:=prog) (hl:=by intro p hp;simp only[List.mem_singleton]at hp;subst hp;exact Nat.one_pos) (J:=WJ w g n (.slice none 0 0) [] [] noK) (F:=WJF w g (.slice none 0 0) noK) (β:=fun _=>g) (w:=w) (f:=47) (fn:=Tryz.f47) [Sum.inl (.slice adp ps.length capp),Sum.inl (str s),Sum.inr (0,0)] (rows:=[(0,#[Z lf])]) (nx:=1) (Rt:=TakeP n g w ps s lf) func47 (WJ.start _ _ _) (by intro p hp;simp only[List.mem_singleton]at hp;subst hp;exact hr) (by intro p hp;exact WJ.not) (by intro p hp q hq hpq;simp only[List.mem_singleton]at hp hq;subst hp;subst hq;exact absurd rfl hpq)
 refine key fun a I=>?_;rcases Nat.lt_or_ge lf ps.length with hlen | hlen
 ·refine goQ [lS underlying22 (ad:=adp) (n:=ps.length) (cap:=capp) rfl,ksZ lf ps.length ((lf:Int)-ps.length),klT ((lf:Int)-ps.length) 0] (WJ.rs _ _ _ _ _ _ _) I fun β a w1 I hb=>?_;exact zh (v:=.tuple #[.slice none 0 0,.bool false]) I ⟨I.hJ.ro.gr,.inl ⟨by rw[tk_eq,if_pos hlen],rfl⟩⟩
 refine goQ [lS underlying22 (ad:=adp) (n:=ps.length) (cap:=capp) rfl,ksZ lf ps.length (lf-ps.length:Nat),bO .lss 3 (zf (x:=(lf-ps.length:Nat)) (y:=0) (b:=false) (by simp))] (WJ.rs _ _ _ _ _ _ _) I fun β a w1 I hb=>?_;have hb0:β 0=g:=agr hb 0 rfl;have htk:tk n ps s lf=tkG (yf n) (tkS n) s ps 0 (lf-ps.length):=by rw[tk_eq,if_neg (by omega)]
 let St:Nat→Act→World→Prop:=fun k a w'=>∃(i lf1:Nat) (β:Nat→Nat) (u:Nat→Value) (ad:Option Addr) (cap:Nat) (X:List (Int×Nat×ByteArray×Value)) (ts:List (TT n)) (K':Nat→Prop),k=ps.length-i∧i≤ps.length∧β 0=g∧X.length=i∧lf1≤lf ∧
  tkG (yf n) (tkS n) s ps 0 (lf-ps.length)=(tkG (yf n) (tkS n) s (ps.drop i) i lf1).map (fun y=>(ts++y.1,y.2)) ∧
  SI (WJ w g n (.slice ad i cap) X ts K') (WJF w g (.slice ad i cap) K') [] β (cfC (zc Tryz.f47) (zl (zg 169 taK) u 0 (taV (.slice adp ps.length capp) s (.slice ad i cap) i)) [(0,#[Z lf1])] 1) a w'
 refine lpM (zc Tryz.f47) St ps.length ?_ ?_
 ·obtain⟨u,Iu⟩:=I.scr (zc Tryz.f47) (zg 169 taK) (taV (.slice adp ps.length capp) s (.slice none 0 0) 0) [(0,#[Z (lf-ps.length:Nat)])] 1;exact⟨0,lf-ps.length,β,u,none,0,[],[],noK,by omega,Nat.zero_le _,hb0,rfl,by omega,by simp,Iu⟩
 rintro k a3 w3 ⟨i,lf1,β3,u,ad,cap,X,ts,K',rfl,hi,hb3,hXi,hlf1,hgo,I⟩;refine zv (tm:=zl (zg 169 taK) u 0 (taV (.slice adp ps.length capp) s (.slice ad i cap) i)) (rows:=[(0,#[Z lf1])]) (nx:=1) ?_;rcases Nat.lt_or_ge i ps.length with hil|hil
 case inr=>
  obtain rfl:i=ps.length:=by omega
  refine goQ [lS underlying22 (ad:=adp) (n:=ps.length) (cap:=capp) rfl,bO .lss 3 (zf (x:=ps.length) (y:=ps.length) (b:=false) (by simp))] (WJ.rs _ _ _ _ _ _ _) I fun β4 a4 w4 I hb4=>?_;have hb40:β4 0=g:=agr hb4 0 hb3;refine xg 0 ?_;refine goQ [] (WJ.rs _ _ _ _ _ _ _) (I.exit _) fun β5 a5 w5 I hb5=>?_;have hb50:β5 0=g:=agr hb5 0 hb40;rw[List.drop_length]at hgo
  refine zh (v:=.tuple #[.slice ad ps.length cap,.bool true]) I ⟨I.hJ.ro.gr,.inr ⟨ts,lf1,_,fun k=>K' k∨(Value.slice ad ps.length cap).ownBlock=some k,by rw[htk,hgo];simp[tkG],hlf1,rfl,I.rowG 0 hb50 (r:=#[Z lf1]),fun k hk=>?_,LAf_own I.hJ.ro.own (fun k hk=>.inr hk) (I.hJ.inn.mono fun k hk=>.inl hk)⟩⟩;rcases hk with hk | hk
  ·exact⟨(I.hJ.kb k hk).1,(I.hJ.kb k hk).2.1⟩
  ·exact I.hJ.ro.own.lt k hk
 obtain⟨q,hqi⟩:∃ q,ps[i]? = some q:=⟨_,List.getElem?_eq_getElem hil⟩
 obtain⟨gp,offp,rfl,hKp,hcp⟩:=hmp i q hqi;obtain⟨hgpg,hgpl⟩:=hK gp hKp;obtain⟨hpt,hql⟩:=hps q (List.mem_of_getElem? hqi);have hld:∀ w',zi (fun k=>k≠g) w w'→(loadVar 9 ⟨gp,offp+i*1,none⟩).run prog w'=.ok (str q) w':=fun w' hg=>(hcp.keep (hg.block gp hgpl hgpg)).text
 rw[tkG_step hqi]at hgo;have hnone:tk1 (yf n) (tkS n) s q i lf1=none→tk n ps s lf=none:=fun h=>by rw[htk,hgo,h];rfl
 have hmul:IntKind.i64.wrap (32*(i:Int))=((32*i:Nat):Int):=by rw[wz (by omega) (by omega)];omega
 have hadd:IntKind.i64.wrap ((i:Int)+1)=((i+1:Nat):Int):=by rw[wz (by omega) (by omega)];omega
 have hnext:∀{tm:TT n} {lf2:Nat} {β:Nat→Nat} {a:Act} {w':World} {c:Cf} {ad8:Option Addr} {cap8:Nat} {X8:List (Int×Nat×ByteArray×Value)} {K8:Nat→Prop},tk1 (yf n) (tkS n) s q i lf1=some (tm,lf2)→lf2≤lf→β 0=g→X8.length=i+1→SI (WJ w g n (.slice ad8 (i+1) cap8) X8 (ts++[tm]) K8) (WJF w g (.slice ad8 (i+1) cap8) K8) [] β c a w'→vf (zg 169 taK) 0 c.tm=vf (zg 169 taK) 0 (taV (.slice (some ⟨gp,offp,none⟩) ps.length capp) s (.slice ad8 (i+1) cap8) (i+1))→[(0,#[Z lf2])].map (fun p=>y9 c.rows p.1)=[(0,#[Z lf2])].map (fun p=>some p.2)→∃ j,j<ps.length-i∧St j a w':=by
  intro tm lf2 β a w' c ad8 cap8 X8 K8 h1 h2 hb hX I hdr hrw;obtain⟨u',Iu⟩:=I.scr (zc Tryz.f47) (zg 169 taK) (taV (.slice (some ⟨gp,offp,none⟩) ps.length capp) s (.slice ad8 (i+1) cap8) (i+1)) [(0,#[Z lf2])] 1 hdr hrw;refine⟨ps.length-(i+1),by omega,i+1,lf2,β,u',ad8,cap8,X8,ts++[tm],K8,rfl,hil,hb,hX,h2,?_,Iu⟩;rw[hgo,h1,Option.bind_some,Option.map_map]
  congr 1
  funext y;simp
 rcases Nat.lt_or_ge s.length (32*i+32)with h32|h32
 ·refine goQ [lS underlying22 (ad:=some ⟨gp,offp,none⟩) (n:=ps.length) (cap:=capp) rfl,klT i ps.length,bO .mul 3 (yo (x:=32) (y:=i) hmul),lO underlying9 (b:=⟨s.toArray⟩) (n:=s.length) (by rw[hsz]),ksZ s.length 32 ((s.length:Int)-32),kgT (32*i:Nat) ((s.length:Int)-32)] (WJ.rs _ _ _ _ _ _ _) I fun β4 a4 w4 I hb4=>?_;exact qc (qb (v:=.tuple #[.slice none 0 0,.bool false]) I ⟨I.hJ.ro.gr,.inl ⟨hnone (by unfold tk1;rw[if_neg (by omega)]),rfl⟩⟩)
 by_cases hq1:q=[110]
 ·obtain⟨nn,hnn⟩:∃ nn,nm ((s.drop (32*i)).take 32)=nn:=⟨_,rfl⟩
  have hl32:((s.drop (32*i)).take 32).length≤32:=by rw[List.length_take];omega
  have hslice:(s.take (32*i+32)).drop (32*i)=(s.drop (32*i)).take 32:=by rw[List.drop_take,Nat.add_sub_cancel_left]
  have hrdc:∀ w,Calls prog 51 #[str ((s.take (32*i+32)).drop (32*i))] w fun e w'=>e=.returned (.tuple #[U nn,Z 0])∧Below w.heap.size w w':=fun w=>by rw[hslice,← hnn];exact rreadL _ hl32 w
  refine goT (T:=fun w'=>zi (fun k=>k≠g) w w') [lS underlying22 (ad:=some ⟨gp,offp,none⟩) (n:=ps.length) (cap:=capp) rfl,klT i ps.length,bO .mul 3 (yo (x:=32) (y:=i) hmul),lO underlying9 (b:=⟨s.toArray⟩) (n:=s.length) (by rw[hsz]),ksZ s.length 32 ((s.length:Int)-32),kgF (32*i:Nat) ((s.length:Int)-32),iA 22 underlying22 (sz:=1) (by kernel_rfl) (g:=gp) (off:=offp) (n:=ps.length) (cap:=capp) hil,ldA 9 hld,bO .eql 9 (yt (a:=q) (b:=[110]) (q:=true) (decide_eq_true hq1)),bO .mul 3 (yo (x:=32) (y:=i) hmul),bO .mul 3 (yo (x:=32) (y:=i) hmul),kaZ (32*i:Nat) 32 (32*i+32:Nat),sLH 9 (p:=str s) (l:=Z (32*i:Nat)) (m:=Z (32*i+32:Nat)) (v:=str ((s.take (32*i+32)).drop (32*i))) (vc (by omega) h32),kC func51 hrdc,dO 59 [1] (bd_num nn)] (WJ.rs _ _ _ _ _ _ _) (fun _ h=>h.ro.gr) I fun β4 a4 w4 I hb4=>?_
  have hb40:β4 0=g:=agr hb4 0 hb3;have htk1:tk1 (yf n) (tkS n) s q i lf1=some ((0,nn,⟨#[]⟩,yf n),lf1):=by unfold tk1;rw[if_pos h32,if_pos hq1,hnn]
  refine app_term (tm:=(0,nn,⟨#[]⟩,yf n)) (K1:=noK) (lo:=0) (adl:=none) (ml:=0) (capl:=0) (I.also ⟨fun k h=>h.elim,LAf.nil _ _ _⟩ fun p hp h=>h) hXi (by omega) (fun k h=>h.elim) fun ad8 cap8 a8 w8 I=>?_;refine goQ [bO .add 3 (zw (x:=i) (y:=1) hadd)] (WJ.rs _ _ _ _ _ _ _) I fun β9 a9 w9 I hb9=>?_;exact xc (hnext htk1 hlf1 (agr hb9 0 hb40) (by simp[hXi]) I (by kernel_rfl) (by kernel_rfl))
 have htk0:tk1 (yf n) (tkS n) s q i lf1=(rdC s (32*i) s.length).bind fun p=>(rdC s p 16384).bind fun m=>if q=[116]then(if m≤(s.drop (p+32)).length then some ((1,0,⟨((s.drop (p+32)).take m).toArray⟩,yf n),lf1)else none)else if 64<m∨(q.head? = some 40∧m≠(inr_ q).length)then none else(tkS n (ke q m) (s.drop (p+32)) lf1).map fun x=>((2,0,⟨#[]⟩,x.1),x.2):=by unfold tk1;rw[if_pos h32,if_neg hq1]
 cases hc1:rdC s (32*i) s.length with
 | none=>
  have hs1:∀ w,Calls prog 77 #[str s,Z (32*i:Nat),Z s.length] w fun e w'=>e=.returned (Z (-1))∧Below w.heap.size w w':=fun w=>by have:=zdf (s:=s) (p:=32*i) (most:=s.length) (by omega) (by omega) (by omega) w;rw[hc1]at this;exact this
  refine goT (T:=fun w'=>zi (fun k=>k≠g) w w') [lS underlying22 (ad:=some ⟨gp,offp,none⟩) (n:=ps.length) (cap:=capp) rfl,klT i ps.length,bO .mul 3 (yo (x:=32) (y:=i) hmul),lO underlying9 (b:=⟨s.toArray⟩) (n:=s.length) (by rw[hsz]),ksZ s.length 32 ((s.length:Int)-32),kgF (32*i:Nat) ((s.length:Int)-32),iA 22 underlying22 (sz:=1) (by kernel_rfl) (g:=gp) (off:=offp) (n:=ps.length) (cap:=capp) hil,ldA 9 hld,bO .eql 9 (yt (a:=q) (b:=[110]) (q:=false) (decide_eq_false hq1)),bO .mul 3 (yo (x:=32) (y:=i) hmul),lO underlying9 (b:=⟨s.toArray⟩) (n:=s.length) (by rw[hsz]),kC func77 hs1,bO .lss 3 (zf (x:=(-1)) (y:=0) (b:=true) (by decide))] (WJ.rs _ _ _ _ _ _ _) (fun _ h=>h.ro.gr) I fun β4 a4 w4 I hb4=>?_
  exact qc (qb (v:=.tuple #[.slice none 0 0,.bool false]) I ⟨I.hJ.ro.gr,.inl ⟨hnone (by rw[htk0,hc1];rfl),rfl⟩⟩)
 | some p=>
 obtain⟨_,_,hple⟩:=vo hc1;have hs1:∀ w,Calls prog 77 #[str s,Z (32*i:Nat),Z s.length] w fun e w'=>e=.returned (Z p)∧Below w.heap.size w w':=fun w=>by have:=zdf (s:=s) (p:=32*i) (most:=s.length) (by omega) (by omega) (by omega) w;rw[hc1]at this;exact this
 rw[hc1,Option.bind_some]at htk0;cases hc2:rdC s p 16384 with
 | none=>
  have hs2:∀ w,Calls prog 77 #[str s,Z p,Z (16384:Nat)] w fun e w'=>e=.returned (Z (-1))∧Below w.heap.size w w':=fun w=>by have:=zdf (s:=s) (p:=p) (most:=16384) (by omega) (by omega) (by omega) w;rw[hc2]at this;exact this
  refine goT (T:=fun w'=>zi (fun k=>k≠g) w w') [lS underlying22 (ad:=some ⟨gp,offp,none⟩) (n:=ps.length) (cap:=capp) rfl,klT i ps.length,bO .mul 3 (yo (x:=32) (y:=i) hmul),lO underlying9 (b:=⟨s.toArray⟩) (n:=s.length) (by rw[hsz]),ksZ s.length 32 ((s.length:Int)-32),kgF (32*i:Nat) ((s.length:Int)-32),iA 22 underlying22 (sz:=1) (by kernel_rfl) (g:=gp) (off:=offp) (n:=ps.length) (cap:=capp) hil,ldA 9 hld,bO .eql 9 (yt (a:=q) (b:=[110]) (q:=false) (decide_eq_false hq1)),bO .mul 3 (yo (x:=32) (y:=i) hmul),lO underlying9 (b:=⟨s.toArray⟩) (n:=s.length) (by rw[hsz]),kC func77 hs1,bO .lss 3 (zf (x:=p) (y:=0) (b:=false) (by simp)),kC func77 hs2,bO .lss 3 (zf (x:=(-1)) (y:=0) (b:=true) (by decide))] (WJ.rs _ _ _ _ _ _ _) (fun _ h=>h.ro.gr) I fun β4 a4 w4 I hb4=>?_
  exact qc (qb (v:=.tuple #[.slice none 0 0,.bool false]) I ⟨I.hJ.ro.gr,.inl ⟨hnone (by rw[htk0,hc2];rfl),rfl⟩⟩)
 | some m=>
 obtain⟨hp32,_,hmle⟩:=vo hc2;have hs2:∀ w,Calls prog 77 #[str s,Z p,Z (16384:Nat)] w fun e w'=>e=.returned (Z m)∧Below w.heap.size w w':=fun w=>by have:=zdf (s:=s) (p:=p) (most:=16384) (by omega) (by omega) (by omega) w;rw[hc2]at this;exact this
 rw[hc2,Option.bind_some]at htk0;obtain⟨s2,hs2e⟩:∃ s2,s.drop (p+32)=s2:=⟨_,rfl⟩
 have hs2l:s2.length≤s.length:=by rw[← hs2e,List.length_drop];omega
 have hfrom:∀ w,(Instr.sliceAt 9 (str s) (some (Z (p+32:Nat))) none none).run prog w=.ok (str s2) w:=fun w=>by rw[← hs2e];exact v8 (by omega) w
 rw[hs2e]at htk0;by_cases hq2:q=[116]
 ·rw[if_pos hq2]at htk0;rcases Nat.lt_or_ge s2.length m with hms|hms
  ·refine goT (T:=fun w'=>zi (fun k=>k≠g) w w') [lS underlying22 (ad:=some ⟨gp,offp,none⟩) (n:=ps.length) (cap:=capp) rfl,klT i ps.length,bO .mul 3 (yo (x:=32) (y:=i) hmul),lO underlying9 (b:=⟨s.toArray⟩) (n:=s.length) (by rw[hsz]),ksZ s.length 32 ((s.length:Int)-32),kgF (32*i:Nat) ((s.length:Int)-32),iA 22 underlying22 (sz:=1) (by kernel_rfl) (g:=gp) (off:=offp) (n:=ps.length) (cap:=capp) hil,ldA 9 hld,bO .eql 9 (yt (a:=q) (b:=[110]) (q:=false) (decide_eq_false hq1)),bO .mul 3 (yo (x:=32) (y:=i) hmul),lO underlying9 (b:=⟨s.toArray⟩) (n:=s.length) (by rw[hsz]),kC func77 hs1,bO .lss 3 (zf (x:=p) (y:=0) (b:=false) (by simp)),kC func77 hs2,bO .lss 3 (zf (x:=m) (y:=0) (b:=false) (by simp)),kaZ p 32 (p+32:Nat),sO 9 (p:=str s) (l:=Z (p+32:Nat)) (v:=str s2) hfrom,iA 22 underlying22 (sz:=1) (by kernel_rfl) (g:=gp) (off:=offp) (n:=ps.length) (cap:=capp) hil,ldA 9 hld,bO .eql 9 (yt (a:=q) (b:=[116]) (q:=true) (decide_eq_true hq2)),lO underlying9 (b:=⟨s2.toArray⟩) (n:=s2.length) (by rw[zn]),kgT m s2.length] (WJ.rs _ _ _ _ _ _ _) (fun _ h=>h.ro.gr) I fun β4 a4 w4 I hb4=>?_
   exact qc (qb (v:=.tuple #[.slice none 0 0,.bool false]) I ⟨I.hJ.ro.gr,.inl ⟨hnone (by rw[htk0,if_neg (by omega)]),rfl⟩⟩)
  ·refine goT (T:=fun w'=>zi (fun k=>k≠g) w w') [lS underlying22 (ad:=some ⟨gp,offp,none⟩) (n:=ps.length) (cap:=capp) rfl,klT i ps.length,bO .mul 3 (yo (x:=32) (y:=i) hmul),lO underlying9 (b:=⟨s.toArray⟩) (n:=s.length) (by rw[hsz]),ksZ s.length 32 ((s.length:Int)-32),kgF (32*i:Nat) ((s.length:Int)-32),iA 22 underlying22 (sz:=1) (by kernel_rfl) (g:=gp) (off:=offp) (n:=ps.length) (cap:=capp) hil,ldA 9 hld,bO .eql 9 (yt (a:=q) (b:=[110]) (q:=false) (decide_eq_false hq1)),bO .mul 3 (yo (x:=32) (y:=i) hmul),lO underlying9 (b:=⟨s.toArray⟩) (n:=s.length) (by rw[hsz]),kC func77 hs1,bO .lss 3 (zf (x:=p) (y:=0) (b:=false) (by simp)),kC func77 hs2,bO .lss 3 (zf (x:=m) (y:=0) (b:=false) (by simp)),kaZ p 32 (p+32:Nat),sO 9 (p:=str s) (l:=Z (p+32:Nat)) (v:=str s2) hfrom,iA 22 underlying22 (sz:=1) (by kernel_rfl) (g:=gp) (off:=offp) (n:=ps.length) (cap:=capp) hil,ldA 9 hld,bO .eql 9 (yt (a:=q) (b:=[116]) (q:=true) (decide_eq_true hq2)),lO underlying9 (b:=⟨s2.toArray⟩) (n:=s2.length) (by rw[zn]),kgF m s2.length,sT 9 (p:=str s2) (l:=Z m) (v:=str (s2.take m)) (to_run hms),dO 59 [0,2] (bd_txt (s2.take m))] (WJ.rs _ _ _ _ _ _ _) (fun _ h=>h.ro.gr) I fun β4 a4 w4 I hb4=>?_
   have hb40:β4 0=g:=agr hb4 0 hb3;rw[if_pos hms]at htk0;refine app_term (tm:=(1,0,⟨(s2.take m).toArray⟩,yf n)) (K1:=noK) (lo:=0) (adl:=none) (ml:=0) (capl:=0) (I.also ⟨fun k h=>h.elim,LAf.nil _ _ _⟩ fun p hp h=>h) hXi (by omega) (fun k h=>h.elim) fun ad8 cap8 a8 w8 I=>?_;refine goQ [bO .add 3 (zw (x:=i) (y:=1) hadd)] (WJ.rs _ _ _ _ _ _ _) I fun β9 a9 w9 I hb9=>?_;exact xc (hnext htk0 hlf1 (agr hb9 0 hb40) (by simp[hXi]) I (by kernel_rfl) (by kernel_rfl))
 rw[if_neg hq2]at htk0
 refine goT (T:=fun w'=>zi (fun k=>k≠g) w w') [lS underlying22 (ad:=some ⟨gp,offp,none⟩) (n:=ps.length) (cap:=capp) rfl,klT i ps.length,bO .mul 3 (yo (x:=32) (y:=i) hmul),lO underlying9 (b:=⟨s.toArray⟩) (n:=s.length) (by rw[hsz]),ksZ s.length 32 ((s.length:Int)-32),kgF (32*i:Nat) ((s.length:Int)-32),iA 22 underlying22 (sz:=1) (by kernel_rfl) (g:=gp) (off:=offp) (n:=ps.length) (cap:=capp) hil,ldA 9 hld,bO .eql 9 (yt (a:=q) (b:=[110]) (q:=false) (decide_eq_false hq1)),bO .mul 3 (yo (x:=32) (y:=i) hmul),lO underlying9 (b:=⟨s.toArray⟩) (n:=s.length) (by rw[hsz]),kC func77 hs1,bO .lss 3 (zf (x:=p) (y:=0) (b:=false) (by simp)),kC func77 hs2,bO .lss 3 (zf (x:=m) (y:=0) (b:=false) (by simp)),kaZ p 32 (p+32:Nat),sO 9 (p:=str s) (l:=Z (p+32:Nat)) (v:=str s2) hfrom,iA 22 underlying22 (sz:=1) (by kernel_rfl) (g:=gp) (off:=offp) (n:=ps.length) (cap:=capp) hil,ldA 9 hld,bO .eql 9 (yt (a:=q) (b:=[116]) (q:=false) (decide_eq_false hq2))] (WJ.rs _ _ _ _ _ _ _) (fun _ h=>h.ro.gr) I fun β4 a4 w4 I hb4=>?_
 have hb40:β4 0=g:=agr hb4 0 hb3;obtain⟨mm,b,gq,inn,rfl,rfl,hbk,hg1,hpart,hinr,hinn,hone⟩:=hpt.lst hn8 hq1 hq2;obtain⟨ft,hft⟩:∃ ft,((b::gq).drop 1).dropLast=ft:=⟨_,rfl⟩
 have hmid:((b::gq).take gq.length).drop 1=ft:=by rw[mid_inner hg1,hft]
 rw[hft]at hpart;rw[List.length_cons]at hql;have hftl:ft.length≤1000:=by rw[← hmid,List.length_drop,List.length_take,List.length_cons];omega
 have hsz4:a4.tmps.size=169:=by rw[I.fr];kernel_rfl
 have hrl:∀ p∈[(0,#[Z lf1])],β4 p.1<w4.heap.size:=fun p hp=>by
  rw[List.mem_singleton]at hp;subst hp;rw[hb40];exact Nat.lt_of_lt_of_le hlt I.hJ.ro.gr.size
 have hsl4:∀ w,(Instr.sliceAt 9 (str (b::gq)) (some (Z (1:Nat))) (some (Z gq.length)) none).run prog w=.ok (str ft) w:=fun w=>by rw[← hmid];exact vc hg1 (by rw[List.length_cons];omega) w
 refine dwS (T:=fun w'=>zi (fun k=>k≠g) w w') [(11,none),(12,none),(13,none),(14,some (.bool true)),(15,none)] [iA 22 underlying22 (sz:=1) (by kernel_rfl) (g:=gp) (off:=offp) (n:=ps.length) (cap:=capp) hil,ldA 9 hld,iA 22 underlying22 (sz:=1) (by kernel_rfl) (g:=gp) (off:=offp) (n:=ps.length) (cap:=capp) hil,ldA 9 hld,lO underlying9 (b:=⟨(b::gq).toArray⟩) (n:=((gq.length+1:Nat):Int)) (by rw[zn,List.length_cons]),ksZ (gq.length+1:Nat) 1 gq.length,sLH 9 (p:=str (b::gq)) (l:=Z (1:Nat)) (m:=Z gq.length) (v:=str ft) hsl4]
  (fun j v w'=>(j=11∨j=12→∃ vi,v=.tuple #[vi,.bool true]∧SRn w4.heap.size inn vi w')∧(j=13∨j=15→SRn w4.heap.size inn v w')) ?_ (WJ.rs _ _ _ _ _ _ _) (fun _ h=>h.ro.gr) I ?_ ?_
 ·intro j v w' w'' h hb;refine⟨fun hj=>?_,fun hj=>(h.2 hj).below hb⟩;obtain⟨vi,q1,q2⟩:=h.1 hj;exact⟨vi,q1,q2.below hb⟩
 ·intro p hp o ho za vs a' w' hF hrd hbw hV hev;simp only[List.mem_cons,List.not_mem_nil,or_false]at hp;rcases hp with rfl|rfl|rfl|rfl|rfl
  ·obtain⟨o1,o2,o3⟩:=ym (x:=.call ⟨.value (.func 46),#[.tmp 110],#[9]⟩) (d:=some 111) ho (by kernel_rfl);have q1:a'.eval (.tmp 110)=str ft:=hev (.tmp 110) (Sum.inl (str ft)) (by kernel_rfl);refine callG o1 o3 func46 (by kernel_rfl) (by kernel_rfl) (args:=#[str ft]) (by rw[show(#[Operand.tmp 110]:Array Operand).map a'.eval=#[a'.eval (.tmp 110)] by simp,q1]) ?_;refine(parts_any ft hftl w').mono fun e w2 he=>?_;obtain⟨hb2,he⟩:=he;rcases he with⟨hn,rfl⟩ | ⟨qs,v,hqs,rfl,hov⟩
   ·rw[hpart]at hn;cases hn
   ·rw[hpart]at hqs;cases hqs;refine⟨_,rfl,fun u hu=>(by cases hu),⟨fun _=>⟨v,rfl,_,fun k hk=>?_,SR.own hov⟩,fun h=>(by rcases h with h | h<;>cases h)⟩,hb2⟩;have:=hov.lt k hk;have:=hbw.size;omega
  ·obtain⟨o1,o2,o3⟩:=ym (x:=.move (.tmp 111)) (d:=some 99) ho (by kernel_rfl);have hl:=zk (ops:=z9 _) (i:=12) (j:=11) (by kernel_rfl) hrd;have q1:a'.eval (.tmp 111)=vs 11:=hF.new (i:=11) (by kernel_rfl) (by omega) hl;refine yq ?_ (moveG o1 o3 q1);rintro a2 w2 ⟨rfl,rfl⟩;exact⟨vs 11,rfl,fun u hu=>(by cases hu),⟨fun _=>(hV (11,none) (by simp) hl).1 (.inl rfl),fun h=>(by rcases h with h | h<;>cases h)⟩,Below.refl _ _⟩
  ·obtain⟨o1,o2,o3⟩:=ym (x:=.extract (.tmp 99) 0) (d:=some 112) ho (by kernel_rfl);have hl:=zk (ops:=z9 _) (i:=13) (j:=12) (by kernel_rfl) hrd;obtain⟨vi,hvi,hsr⟩:=(hV (12,none) (by simp) hl).1 (.inr rfl);have q1:a'.eval (.tmp 99)=.tuple #[vi,.bool true]:=(hF.new (i:=12) (by kernel_rfl) (by omega) hl).trans hvi;refine yq ?_ (extrG o1 o3 q1 (v:=vi) rfl);rintro a2 w2 ⟨rfl,rfl⟩;exact⟨vi,rfl,fun u hu=>(by cases hu),⟨fun h=>(by rcases h with h | h<;>cases h),fun _=>hsr⟩,Below.refl _ _⟩
  ·obtain⟨o1,o2,o3⟩:=ym (x:=.extract (.tmp 99) 1) (d:=some 113) ho (by kernel_rfl);have hl:=zk (ops:=z9 _) (i:=14) (j:=12) (by kernel_rfl) hrd;obtain⟨vi,hvi,hsr⟩:=(hV (12,none) (by simp) hl).1 (.inr rfl);have q1:a'.eval (.tmp 99)=.tuple #[vi,.bool true]:=(hF.new (i:=12) (by kernel_rfl) (by omega) hl).trans hvi;refine yq ?_ (extrG o1 o3 q1 (v:=.bool true) rfl);rintro a2 w2 ⟨rfl,rfl⟩;exact⟨.bool true,rfl,fun u hu=>(by cases hu;rfl),⟨fun h=>(by rcases h with h | h<;>cases h),fun h=>(by rcases h with h | h<;>cases h)⟩,Below.refl _ _⟩
  ·obtain⟨o1,o2,o3⟩:=ym (x:=.assign (.tmp 112)) (d:=some 15) ho (by kernel_rfl);have hl:=zk (ops:=z9 _) (i:=15) (j:=13) (by kernel_rfl) hrd;have q1:a'.eval (.tmp 112)=vs 13:=hF.new (i:=13) (by kernel_rfl) (by omega) hl;refine yq ?_ (asgnG o1 o3 q1);rintro a2 w2 ⟨rfl,rfl⟩;exact⟨vs 13,rfl,fun u hu=>(by cases hu),⟨fun h=>(by rcases h with h | h<;>cases h),fun _=>(hV (13,none) (by simp) hl).2 (.inl rfl)⟩,Below.refl _ _⟩
 intro vs a5 w5 hV I;obtain⟨Kn,hKi,hSRi⟩:=(hV (15,none) (by simp) (of_decide_eq_true (by kernel_rfl))).2 (.inr rfl);clear hV;obtain⟨adi,capi,hv15,hmi⟩:=id hSRi;rw[hv15]at hSRi;obtain⟨vs',hvs⟩:∃ vs':Nat→Value,vs=fun j=>if j=15 then Value.slice adi inn.length capi else vs' j:=⟨vs,funext fun j=>by
  by_cases h:j=15
  ·rw[if_pos h,h];exact hv15
  ·rw[if_neg h]⟩
 subst hvs;clear hv15;have I2:=I.alsoK (J':=SJ Kn (.slice adi inn.length capi) inn) (F':=Kn) ⟨fun k hk=>(hKi k hk).2,hSRi⟩ [(0,#[Z lf1])] (fun p hp h=>by have h1:=hrl p hp;have h2:=(hKi _ h).1;omega) (by kernel_rfl);have hinl:∀ p∈inn,Pt mm p∧p.length≤1000:=fun p hp=>⟨hinn p hp,by have h1:=flat_mem hp;rw[← (zar hpart).1]at h1;omega⟩
 have fin:∀{KS:List Ki} {β:Nat→Nat} {a:Act} {wb:World} {c:Cf},m≤64→(b=40→inn.length=m)→SI (fun w'=>WJ w g (mm+1) (.slice ad i cap) X ts K' w'∧SJ Kn (.slice adi inn.length capi) inn w') (fun k=>WJF w g (.slice ad i cap) K' k∨Kn k) [] β c a wb→β 0=g→loopQ c=some (yn Tryz.f47,(kOf (zc Tryz.f47) []).getD [])→vf (zg 169 tbK) 0 c.tm=vf (zg 169 tbK) 0 (tbV (.slice (some ⟨gp,offp,none⟩) ps.length capp) s (.slice ad i cap) i m s2 (.slice adi inn.length capi) (.slice none 0 0) 0)→[(0,#[Z lf1])].map (fun p=>y9 c.rows p.1)=[(0,#[Z lf1])].map (fun p=>some p.2) →
   At prog (Exit.then (fun a' w'=>∃ j,j<ps.length-i∧St j a' w') (QK prog (bodyPost prog Tryz.f47 (TakeP (mm+1) g w ps s lf)) KS)) c a wb:=by
  intro KS β a wb c hm64 hm40 I hbb hlq hdr hrw;obtain⟨EL,hEL⟩:∃ EL,ke (b::gq) m=EL:=⟨_,rfl⟩
  have hEL40:b=40→EL=inn:=fun h=>by rw[← hEL];unfold ke;rw[if_pos (by rw[h];rfl),hinr]
  have hEL91:b=91→∃ p,inn=[p]∧EL=List.replicate m p:=fun h=>by
   obtain⟨p,hp⟩:=hone h;refine⟨p,hp,?_⟩;rw[← hEL];unfold ke;rw[if_neg (by rw[h];simp),hinr,hp];rfl
  have hELl:EL.length=m:=by
   rcases hbk with h|h
   ·rw[hEL40 h];exact hm40 h
   ·obtain⟨p,_,h2⟩:=hEL91 h;rw[h2,List.length_replicate]
  have hELm:∀ e∈EL,Pt mm e∧e.length≤1000:=fun e he=>by
   rcases hbk with h|h
   ·rw[hEL40 h]at he;exact hinl e he
   ·obtain⟨p,h1,h2⟩:=hEL91 h;rw[h2]at he;rw[List.eq_of_mem_replicate he];exact hinl p (by rw[h1];exact List.mem_cons_self)
  have hFlt:∀ k,(WJF w g (.slice ad i cap) K' k∨Kn k)→k<wb.heap.size:=fun k hk=>(((WJ.rs _ _ _ _ _ _ _).both (SJ.rs _ _ _))).lt wb k I.hJ hk
  have hszb:=I.hJ.1.ro.gr.size
  let St2:Nat→Act→World→Prop:=fun k a w'=>∃(j:Nat) (β:Nat→Nat) (u:Nat→Value) (ade:Option Addr) (cape:Nat),k=m-j∧j≤m∧β 0=g ∧
   SI (fun w'=>(WJ w g (mm+1) (.slice ad i cap) X ts K' w'∧SJ Kn (.slice adi inn.length capi) inn w')∧OJ wb.heap.size 9 1 (.slice ade j cape) j ((EL.take j).map str) w') (fun k=>(WJF w g (.slice ad i cap) K' k∨Kn k)∨Value.ownBlock (.slice ade j cape)=some k) [] β (cfC (yn Tryz.f47) (zl (zg 169 tbK) u 0 (tbV (.slice (some ⟨gp,offp,none⟩) ps.length capp) s (.slice ad i cap) i m s2 (.slice adi inn.length capi) (.slice ade j cape) j)) [(0,#[Z lf1])] 1) a w'
  refine lpN (yn Tryz.f47) ((kOf (zc Tryz.f47) []).getD []) St2 m ?_ ?_ hlq
  ·obtain⟨u,Iu⟩:=I.scr (yn Tryz.f47) (zg 169 tbK) (tbV (.slice (some ⟨gp,offp,none⟩) ps.length capp) s (.slice ad i cap) i m s2 (.slice adi inn.length capi) (.slice none 0 0) 0) [(0,#[Z lf1])] 1 hdr hrw;exact⟨0,β,u,none,0,by omega,Nat.zero_le _,hbb,Iu.alsoK (J':=OJ wb.heap.size 9 1 (.slice none 0 0) 0 []) (F':=fun k=>Value.ownBlock (.slice none 0 0)=some k) ⟨World.ownsRow_nil _ _ _ _,Nat.le_refl _⟩ [(0,#[Z lf1])] (fun p hp h=>by cases h) rfl⟩
  rintro k a6 w6 ⟨j,β6,u,ade,cape,rfl,hj,hb6,Ij⟩;refine zv (tm:=zl (zg 169 tbK) u 0 (tbV (.slice (some ⟨gp,offp,none⟩) ps.length capp) s (.slice ad i cap) i m s2 (.slice adi inn.length capi) (.slice ade j cape) j)) (rows:=[(0,#[Z lf1])]) (nx:=1) ?_;rcases Nat.lt_or_ge j m with hjm|hjm
  ·obtain⟨e,he⟩:∃ e,EL[j]? = some e:=⟨_,List.getElem?_eq_getElem (by omega)⟩
   have htke:(EL.take j).map str++[str e]=(EL.take (j+1)).map str:=by rw[List.take_add_one,he,List.map_append];rfl
   rcases hbk with rfl|rfl
   ·have hje:inn[j]? = some e:=by rw[← hEL40 rfl];exact he
    have hjl:j<inn.length:=(List.getElem?_eq_some_iff.1 hje).1;obtain⟨gi,offi,rfl,_,_⟩:=hmi j e hje;have hldi:∀ w',((WJ w g (mm+1) (.slice ad i cap) X ts K' w'∧SJ Kn (.slice (some ⟨gi,offi,none⟩) inn.length capi) inn w')∧OJ wb.heap.size 9 1 (.slice ade j cape) j ((EL.take j).map str) w')→(loadVar 9 ⟨gi,offi+j*1,none⟩).run prog w'=.ok (str e) w':=fun w' h=>by
     obtain⟨ad',cap',hv,hm'⟩:=h.1.2.sr;cases hv;obtain⟨g',off',h1,_,hc'⟩:=hm' j e hje;cases h1;exact hc'.text
    have hld3:∀ w',((WJ w g (mm+1) (.slice ad i cap) X ts K' w'∧SJ Kn (.slice (some ⟨gi,offi,none⟩) inn.length capi) inn w')∧OJ wb.heap.size 9 1 (.slice ade j cape) j ((EL.take j).map str) w')→(loadVar 9 ⟨gp,offp+i*1,none⟩).run prog w'=.ok (str (40::gq)) w':=fun w' h=>hld w' h.1.1.ro.gr
    refine goT (T:=fun w'=>(WJ w g (mm+1) (.slice ad i cap) X ts K' w'∧SJ Kn (.slice (some ⟨gi,offi,none⟩) inn.length capi) inn w')∧OJ wb.heap.size 9 1 (.slice ade j cape) j ((EL.take j).map str) w') [klT j m,iA 22 underlying22 (sz:=1) (by kernel_rfl) (g:=gp) (off:=offp) (n:=ps.length) (cap:=capp) hil,ldA 9 hld3,iO 9 (p:=str (40::gq)) (i:=Z (0:Nat)) (v:=.int .u8 (40:UInt8).toNat) (zr rfl),bO .eql 5 (zq (x:=40) (y:=40) (q:=true) (by decide)),iA 22 underlying22 (sz:=1) (by kernel_rfl) (g:=gi) (off:=offi) (n:=inn.length) (cap:=capi) (i:=j) hjl,ldA 9 hldi] (((WJ.rs _ _ _ _ _ _ _).both (SJ.rs _ _ _)).both (OJ.rs _ _ _ _ _ _)) (fun _ h=>h) Ij fun β7 a7 w7 I hb7=>?_
    have hb70:β7 0=g:=agr hb7 0 hb6;refine bslQ (ss:=[(0,Sum.inl (str e))]) I (bs_str _ w7) ?_;have I8:=I.alloc (((WJ.rs _ _ _ _ _ _ _).both (SJ.rs _ _ _)).both (OJ.rs _ _ _ _ _ _)) (.cells #[str e] 9) (.slice (some ⟨w7.heap.size,0,none⟩) 1 1);obtain⟨inf,hi1,hi2,hi3,hi4⟩:=hI9;obtain⟨v',w9,hr9,ho9,hg9⟩:=km underlying22 hi1 hi2 hi3 hi4 rfl (by decide) (by decide) I8.hJ.2.own I8.hJ.2.le ⟨w7.heap.size,0,none⟩ [str e] rfl (xu w7 #[str e] 9) (by intro u hu;rw[List.mem_singleton]at hu;subst hu;rfl) (by omega);rw[htke]at ho9;obtain⟨ad9,cap9,rfl⟩:=z4 ho9
    refine appQ (ss:=[Sum.inl (.slice ade j cape),Sum.inl (.slice (some ⟨w7.heap.size,0,none⟩) 1 1)]) I8 hr9 ?_;have hkeep:WJ w g (mm+1) (.slice ad i cap) X ts K' w9∧SJ Kn (.slice (some ⟨gi,offi,none⟩) inn.length capi) inn w9:=((WJ.rs _ _ _ _ _ _ _).both (SJ.rs _ _ _)).loc _ _ I8.hJ.1 ⟨hg9.gr.os,hg9.gr.tape,hg9.gr.output,hg9.gr.size,fun k hk hF=>hg9.gr.block k hk fun e=>by have h1:=hFlt k hF;have h2:=(I8.hJ.2.own.lt k e.symm).1;omega⟩
    have I9:SI (fun w'=>(WJ w g (mm+1) (.slice ad i cap) X ts K' w'∧SJ Kn (.slice (some ⟨gi,offi,none⟩) inn.length capi) inn w')∧OJ wb.heap.size 9 1 (.slice ad9 (j+1) cap9) (j+1) ((EL.take (j+1)).map str) w') (fun k=>(WJF w g (.slice ad i cap) K' k∨Kn k)∨Value.ownBlock (.slice ad9 (j+1) cap9)=some k) [] β7 _ _ w9:=I8.moved ⟨hg9.gr.os,hg9.gr.tape,hg9.gr.output,hg9.gr.size,fun k hk hn=>hg9.gr.block k hk fun e=>hn (.inr e.symm)⟩ ⟨hkeep,ho9,Nat.le_trans I8.hJ.2.le hg9.gr.size⟩ (fun k hk h=>by
     rcases h with h|h
     ·exact .inl h
     ·rcases hg9.nb k h with h4|h4
      ·exact .inr h4
      ·omega) (.slice ad9 (j+1) cap9)
    refine goQ [kaZ j 1 (j+1:Nat)] (((WJ.rs _ _ _ _ _ _ _).both (SJ.rs _ _ _)).both (OJ.rs _ _ _ _ _ _)) I9 fun β10 a10 w10 I hb10=>?_;obtain⟨u',Iu⟩:=I.scr (yn Tryz.f47) (zg 169 tbK) (tbV (.slice (some ⟨gp,offp,none⟩) ps.length capp) s (.slice ad i cap) i m s2 (.slice (some ⟨gi,offi,none⟩) inn.length capi) (.slice ad9 (j+1) cap9) (j+1)) [(0,#[Z lf1])] 1;exact xc ⟨m-(j+1),by omega,j+1,β10,u',ad9,cap9,rfl,hjm,agr hb10 0 hb70,Iu⟩
   ·obtain⟨p1,hp1,hEL1⟩:=hEL91 rfl;have hje:inn[0]? = some e:=by
     rw[hEL1]at he;rw[List.eq_of_mem_replicate (List.mem_of_getElem? he),hp1];rfl
    have hjl:0<inn.length:=(List.getElem?_eq_some_iff.1 hje).1;obtain⟨gi,offi,rfl,_,_⟩:=hmi 0 e hje;have hldi:∀ w',((WJ w g (mm+1) (.slice ad i cap) X ts K' w'∧SJ Kn (.slice (some ⟨gi,offi,none⟩) inn.length capi) inn w')∧OJ wb.heap.size 9 1 (.slice ade j cape) j ((EL.take j).map str) w')→(loadVar 9 ⟨gi,offi+0*1,none⟩).run prog w'=.ok (str e) w':=fun w' h=>by
     obtain⟨ad',cap',hv,hm'⟩:=h.1.2.sr;cases hv;obtain⟨g',off',h1,_,hc'⟩:=hm' 0 e hje;cases h1;exact hc'.text
    have hld3:∀ w',((WJ w g (mm+1) (.slice ad i cap) X ts K' w'∧SJ Kn (.slice (some ⟨gi,offi,none⟩) inn.length capi) inn w')∧OJ wb.heap.size 9 1 (.slice ade j cape) j ((EL.take j).map str) w')→(loadVar 9 ⟨gp,offp+i*1,none⟩).run prog w'=.ok (str (91::gq)) w':=fun w' h=>hld w' h.1.1.ro.gr
    refine goT (T:=fun w'=>(WJ w g (mm+1) (.slice ad i cap) X ts K' w'∧SJ Kn (.slice (some ⟨gi,offi,none⟩) inn.length capi) inn w')∧OJ wb.heap.size 9 1 (.slice ade j cape) j ((EL.take j).map str) w') [klT j m,iA 22 underlying22 (sz:=1) (by kernel_rfl) (g:=gp) (off:=offp) (n:=ps.length) (cap:=capp) hil,ldA 9 hld3,iO 9 (p:=str (91::gq)) (i:=Z (0:Nat)) (v:=.int .u8 (91:UInt8).toNat) (zr rfl),bO .eql 5 (zq (x:=91) (y:=40) (q:=false) (by decide)),iA 22 underlying22 (sz:=1) (by kernel_rfl) (g:=gi) (off:=offi) (n:=inn.length) (cap:=capi) (i:=0) hjl,ldA 9 hldi] (((WJ.rs _ _ _ _ _ _ _).both (SJ.rs _ _ _)).both (OJ.rs _ _ _ _ _ _)) (fun _ h=>h) Ij fun β7 a7 w7 I hb7=>?_
    have hb70:β7 0=g:=agr hb7 0 hb6;refine bslQ (ss:=[(0,Sum.inl (str e))]) I (bs_str _ w7) ?_;have I8:=I.alloc (((WJ.rs _ _ _ _ _ _ _).both (SJ.rs _ _ _)).both (OJ.rs _ _ _ _ _ _)) (.cells #[str e] 9) (.slice (some ⟨w7.heap.size,0,none⟩) 1 1);obtain⟨inf,hi1,hi2,hi3,hi4⟩:=hI9;obtain⟨v',w9,hr9,ho9,hg9⟩:=km underlying22 hi1 hi2 hi3 hi4 rfl (by decide) (by decide) I8.hJ.2.own I8.hJ.2.le ⟨w7.heap.size,0,none⟩ [str e] rfl (xu w7 #[str e] 9) (by intro u hu;rw[List.mem_singleton]at hu;subst hu;rfl) (by omega);rw[htke]at ho9;obtain⟨ad9,cap9,rfl⟩:=z4 ho9
    refine appQ (ss:=[Sum.inl (.slice ade j cape),Sum.inl (.slice (some ⟨w7.heap.size,0,none⟩) 1 1)]) I8 hr9 ?_;have hkeep:WJ w g (mm+1) (.slice ad i cap) X ts K' w9∧SJ Kn (.slice (some ⟨gi,offi,none⟩) inn.length capi) inn w9:=((WJ.rs _ _ _ _ _ _ _).both (SJ.rs _ _ _)).loc _ _ I8.hJ.1 ⟨hg9.gr.os,hg9.gr.tape,hg9.gr.output,hg9.gr.size,fun k hk hF=>hg9.gr.block k hk fun e=>by have h1:=hFlt k hF;have h2:=(I8.hJ.2.own.lt k e.symm).1;omega⟩
    have I9:SI (fun w'=>(WJ w g (mm+1) (.slice ad i cap) X ts K' w'∧SJ Kn (.slice (some ⟨gi,offi,none⟩) inn.length capi) inn w')∧OJ wb.heap.size 9 1 (.slice ad9 (j+1) cap9) (j+1) ((EL.take (j+1)).map str) w') (fun k=>(WJF w g (.slice ad i cap) K' k∨Kn k)∨Value.ownBlock (.slice ad9 (j+1) cap9)=some k) [] β7 _ _ w9:=I8.moved ⟨hg9.gr.os,hg9.gr.tape,hg9.gr.output,hg9.gr.size,fun k hk hn=>hg9.gr.block k hk fun e=>hn (.inr e.symm)⟩ ⟨hkeep,ho9,Nat.le_trans I8.hJ.2.le hg9.gr.size⟩ (fun k hk h=>by
     rcases h with h|h
     ·exact .inl h
     ·rcases hg9.nb k h with h4|h4
      ·exact .inr h4
      ·omega) (.slice ad9 (j+1) cap9)
    refine goQ [kaZ j 1 (j+1:Nat)] (((WJ.rs _ _ _ _ _ _ _).both (SJ.rs _ _ _)).both (OJ.rs _ _ _ _ _ _)) I9 fun β10 a10 w10 I hb10=>?_;obtain⟨u',Iu⟩:=I.scr (yn Tryz.f47) (zg 169 tbK) (tbV (.slice (some ⟨gp,offp,none⟩) ps.length capp) s (.slice ad i cap) i m s2 (.slice (some ⟨gi,offi,none⟩) inn.length capi) (.slice ad9 (j+1) cap9) (j+1)) [(0,#[Z lf1])] 1;exact xc ⟨m-(j+1),by omega,j+1,β10,u',ad9,cap9,rfl,hjm,agr hb10 0 hb70,Iu⟩
  ·obtain rfl:j=m:=by omega
   refine goQ [bO .lss 3 (zf (x:=j) (y:=j) (b:=false) (by simp))] (((WJ.rs _ _ _ _ _ _ _).both (SJ.rs _ _ _)).both (OJ.rs _ _ _ _ _ _)) Ij fun β7 a7 w7 I hb7=>?_;refine xg 2 ?_;refine goQ [] (((WJ.rs _ _ _ _ _ _ _).both (SJ.rs _ _ _)).both (OJ.rs _ _ _ _ _ _)) (I.exit _) fun β8 a8 w8 I hb8=>?_;have hb80:β8 0=g:=agr hb8 0 (agr hb7 0 hb6);have hrow8:=I.rowG 0 hb80 (r:=#[Z lf1]);have hown8:=I.hJ.2.own;rw[List.take_of_length_le (by omega)]at hown8;have hgr8:=I.hJ.1.1.ro.gr
   have hSRe:SR (fun k=>Value.ownBlock (.slice ade j cape)=some k) w8 (.slice ade j cape) EL:=SR.own (b:=wb.heap.size) (by rw[hELl];exact hown8);have hcall:=hrec mm rfl hrow8 hSRe (fun k hk=>⟨fun e=>(by have:=(hown8.lt k hk).1;omega),(hown8.lt k hk).2⟩) hELm (by omega) (show s2.length<100000000 by omega) (show lf1<100000000 by omega);refine yp (ss:=[Sum.inl (.slice ade j cape),Sum.inl (str s2),Sum.inr (0,0)]) func47 I ?_
   have hargs:([Sum.inl (.slice ade j cape),Sum.inl (str s2),Sum.inr (0,0)].map (up β8)).toArray=#[.slice ade j cape,str s2,ye g]:=by simp only[List.map_cons,List.map_nil,up,hb80]
   rw[hargs];have hno:¬ (64<j∨((b::gq).head? = some 40∧j≠(inr_ (b::gq)).length)):=by
    rintro(h|⟨h1,h2⟩)
    ·omega
    ·rw[hinr]at h2;simp only[List.head?_cons,Option.some.injEq]at h1;exact h2 (hm40 h1).symm
   rw[if_neg hno]at htk0;refine hcall.mono fun e w9 he=>?_;obtain⟨hg9,he⟩:=he;rcases he with⟨hn,rfl⟩ | ⟨ts2,lf2,v2,K2,htk2,hl2,rfl,hr9,hK2,hL2⟩
   ·have hN:tk1 (yf (mm+1)) (tkS (mm+1)) s (b::gq) i lf1=none:=by
     rw[htk0];show Option.map _ (tk mm (ke (b::gq) j) s2 lf1)=none;rw[hEL,hn];rfl
    refine at_rows0.1 ?_;refine goQ [uO .not (p:=.bool false) (v:=.bool true) (by intros;rfl)] (RO.rs w g 59 7 (.slice none 0 0) 0 []) (I.norow (J':=RO w g 59 7 (.slice none 0 0) 0 []) (F':=ROF w g (.slice none 0 0)) (w':=w9) ⟨hgr8.trans hg9,World.ownsRow_nil _ _ _ _⟩ (.tuple #[.slice none 0 0,.bool false])) fun β10 a10 w10 I hb10=>?_;exact qc (qb (v:=.tuple #[.slice none 0 0,.bool false]) I ⟨I.hJ.gr,.inl ⟨hnone hN,rfl⟩⟩)
   ·have hN:tk1 (yf (mm+1)) (tkS (mm+1)) s (b::gq) i lf1=some ((2,0,⟨#[]⟩,ts2),lf2):=by
     rw[htk0];show Option.map _ (tk mm (ke (b::gq) j) s2 lf1)=_;rw[hEL,htk2];rfl
    obtain⟨adl,ml,capl,rfl⟩:=hL2.slice;have hsz8:=hgr8.size;have hownX:=I.hJ.1.1.ro.own;refine(vp (id:=0) (r:=#[Z lf2])).1 ?_;have I9:SI (fun w'=>WJ w g (mm+1) (.slice ad i cap) X ts K' w'∧LK K2 w8.heap.size (mm+1) (.slice adl ml capl) ts2 w') (fun k=>WJF w g (.slice ad i cap) K' k∨K2 k) [] β8 _ _ w9:=I.rowed (id:=0) (r0:=#[Z lf1]) (by kernel_rfl) ⟨hg9.os,hg9.tape,hg9.output,hg9.size,fun k hk hn=>hg9.block k hk (by rw[← hb80];exact hn.2)⟩ (by rw[hb80];exact hr9) ⟨WJ.grow hlt I.hJ.1.1 hg9,hK2,hL2⟩ (fun k hk h=>by
     rcases h with h|h
     ·exact .inl (.inl h)
     ·have:=(hK2 k h).1;omega) (.tuple #[.slice adl ml capl,.bool true])
    refine goQ [uO .not (p:=.bool true) (v:=.bool false) (by intros;rfl),dO 59 [0,3] (bd_lst2 adl ml capl)] ((WJ.rs _ _ _ _ _ _ _).both (LK.rs _ _ _ _ _)) I9 fun β10 a10 w10 I hb10=>?_;have hb100:β10 0=g:=agr hb10 0 hb80;refine app_term (n:=mm+1) (tm:=((2,0,⟨#[]⟩,ts2):TT (mm+1))) (K1:=K2) (lo:=w8.heap.size) (adl:=adl) (ml:=ml) (capl:=capl) I hXi (by omega) (fun k hk=>⟨by have:=(hK2 k hk).1;omega,fun e=>by have h1:=(hownX.lt k e).2;have h2:=(hK2 k hk).1;omega⟩) fun ad8 cap8 a11 w11 I=>?_;refine goQ [bO .add 3 (zw (x:=i) (y:=1) hadd)] (WJ.rs _ _ _ _ _ _ _) I fun β12 a12 w12 I hb12=>?_
    exact xc (hnext hN (by omega) (agr hb12 0 hb100) (by simp[hXi]) I (by kernel_rfl) (by kernel_rfl))
 rcases Nat.lt_or_ge 64 m with h64|h64
 ·refine goQ [kgT m 64] ((WJ.rs _ _ _ _ _ _ _).both (SJ.rs _ _ _)) I2 fun β6 a6 w6 I hb6=>?_;exact qc (qb (v:=.tuple #[.slice none 0 0,.bool false]) I ⟨I.hJ.1.ro.gr,.inl ⟨hnone (by rw[htk0,if_pos (.inl h64)]),rfl⟩⟩)
 rcases hbk with rfl|rfl
 ·by_cases hml:m=inn.length
  ·refine goT (T:=fun w'=>zi (fun k=>k≠g) w w') [kgF m 64,iA 22 underlying22 (sz:=1) (by kernel_rfl) (g:=gp) (off:=offp) (n:=ps.length) (cap:=capp) hil,ldA 9 hld,iO 9 (p:=str (40::gq)) (i:=Z (0:Nat)) (v:=.int .u8 (40:UInt8).toNat) (zr rfl),bO .eql 5 (zq (x:=40) (y:=40) (q:=true) (by decide)),lS underlying22 (ad:=adi) (n:=inn.length) (cap:=capi) rfl,bO .neq 3 (yk (x:=m) (y:=inn.length) (b:=false) (by simp[hml]))] ((WJ.rs _ _ _ _ _ _ _).both (SJ.rs _ _ _)) (fun _ h=>h.1.ro.gr) I2 fun β6 a6 w6 I hb6=>?_
   exact fin h64 (fun _=>hml.symm) I (agr hb6 0 hb40) (by kernel_rfl) (by kernel_rfl) (by kernel_rfl)
  ·refine goT (T:=fun w'=>zi (fun k=>k≠g) w w') [kgF m 64,iA 22 underlying22 (sz:=1) (by kernel_rfl) (g:=gp) (off:=offp) (n:=ps.length) (cap:=capp) hil,ldA 9 hld,iO 9 (p:=str (40::gq)) (i:=Z (0:Nat)) (v:=.int .u8 (40:UInt8).toNat) (zr rfl),bO .eql 5 (zq (x:=40) (y:=40) (q:=true) (by decide)),lS underlying22 (ad:=adi) (n:=inn.length) (cap:=capi) rfl,knT m inn.length] ((WJ.rs _ _ _ _ _ _ _).both (SJ.rs _ _ _)) (fun _ h=>h.1.ro.gr) I2 fun β6 a6 w6 I hb6=>?_
   exact qc (qb (v:=.tuple #[.slice none 0 0,.bool false]) I ⟨I.hJ.1.ro.gr,.inl ⟨hnone (by rw[htk0,if_pos (.inr ⟨rfl,by rw[hinr];exact hml⟩)]),rfl⟩⟩)
 ·refine goT (T:=fun w'=>zi (fun k=>k≠g) w w') [kgF m 64,iA 22 underlying22 (sz:=1) (by kernel_rfl) (g:=gp) (off:=offp) (n:=ps.length) (cap:=capp) hil,ldA 9 hld,iO 9 (p:=str (91::gq)) (i:=Z (0:Nat)) (v:=.int .u8 (91:UInt8).toNat) (zr rfl),bO .eql 5 (zq (x:=91) (y:=40) (q:=false) (by decide))] ((WJ.rs _ _ _ _ _ _ _).both (SJ.rs _ _ _)) (fun _ h=>h.1.ro.gr) I2 fun β6 a6 w6 I hb6=>?_;exact fin h64 (fun h=>by cases h) I (agr hb6 0 hb40) (by kernel_rfl) (by kernel_rfl) (by kernel_rfl)
theorem takes_any(n:Nat):n≤8→TakeC n:=by
 induction n with
 | zero=>exact fun h=>take_of h fun m e=>by cases e
 | succ n ih=>exact fun h=>take_of h fun m e=>by cases e;exact ih (by omega)
theorem run_quoZ{x y z:Int}(hy:y≠0)(h:IntKind.i64.wrap (x.tdiv y)=z)(o1 o2:Operand)(w:World):(do eqGuard .quo 3 o1 o2 (Z x) (Z y);binOp .quo 3 (Z x) (Z y):Sem Value).run prog w=.ok (Z z) w:=by
 simp[go_sem,h,hy]
theorem tkG_tot{n:Nat}(h1:∀{q s:List UInt8} {i lf:Nat} {t:TT n} {lf':Nat},tk1 (yf n) (tkS n) s q i lf=some (t,lf')→tot n t.2.2.2+lf'=lf):∀(ps:List (List UInt8)) {s:List UInt8} {i lf:Nat} {ts:List (TT n)} {lf':Nat},tkG (yf n) (tkS n) s ps i lf=some (ts,lf')→sub_ n ts+lf'=lf
 | [],s,i,lf,ts,lf',h=>by cases h;exact Nat.zero_add _
 | q::ps,s,i,lf,ts,lf',h=>by
  unfold tkG at h;cases hx:tk1 (yf n) (tkS n) s q i lf with
  | none=>rw[hx]at h;cases h
  | some x=>
   obtain⟨t,lf1⟩:=x;rw[hx,Option.bind_some]at h;cases hy:tkG (yf n) (tkS n) s ps (i+1) lf1 with
   | none=>rw[hy]at h;cases h
   | some y=>
    obtain⟨ts',lf2⟩:=y;rw[hy]at h;cases h;have a1:=h1 hx;have a2:=tkG_tot h1 ps hy;show sub_ n (t::ts')+lf2=lf;have hsb:sub_ n (t::ts')=tot n t.2.2.2+sub_ n ts':=by unfold sub_;rw[List.map_cons,List.sum_cons]
    omega
theorem tk1_tot{n:Nat}(hs:∀{ps:List (List UInt8)} {s:List UInt8} {lf:Nat} {x:TL n} {lf':Nat},tkS n ps s lf=some (x,lf')→tot n x+lf'=lf){q s:List UInt8}{i lf:Nat}{t:TT n}{lf':Nat}(h:tk1 (yf n) (tkS n) s q i lf=some (t,lf')):tot n t.2.2.2+lf'=lf:=by
 have nil0:tot n (yf n)=0:=by cases n<;>rfl
 unfold tk1 at h;split at h
 case isFalse=>cases h
 split at h
 ·cases h;show tot n (yf n)+lf=lf;omega
 ·cases hc:rdC s (32*i) s.length with
  | none=>rw[hc]at h;cases h
  | some p=>
   rw[hc,Option.bind_some]at h;cases hd:rdC s p 16384 with
   | none=>rw[hd]at h;cases h
   | some m=>
    rw[hd,Option.bind_some]at h;split at h
    ·split at h
     ·cases h;show tot n (yf n)+lf=lf;omega
     ·cases h
    ·split at h
     ·cases h
     ·cases hx:tkS n (ke q m) (s.drop (p+32)) lf with
      | none=>rw[hx]at h;cases h
      | some x=>
       obtain⟨x,lf1⟩:=x;rw[hx]at h;cases h;exact hs hx
theorem tk_tot(n:Nat):∀{ps:List (List UInt8)} {s:List UInt8} {lf:Nat} {ts:List (TT n)} {lf':Nat},tk n ps s lf=some (ts,lf')→tot (n+1) ts+lf'≤lf+(ts.length-ps.length):=by
 have fin:∀{n:Nat},(∀{ps:List (List UInt8)} {s:List UInt8} {lf:Nat} {x:TL n} {lf':Nat},tkS n ps s lf=some (x,lf')→tot n x+lf'=lf)→∀{ps:List (List UInt8)} {s:List UInt8} {lf:Nat} {ts:List (TT n)} {lf':Nat},tk n ps s lf=some (ts,lf')→ts.length=ps.length∧tot (n+1) ts+lf'=lf:=by
  intro n hs ps s lf ts lf' h;rw[tk_eq]at h;split at h
  ·cases h
  ·next hle=>
   have h1:=tkG_tot (fun h=>tk1_tot hs h) ps h;have hl:∀(ps:List (List UInt8)) {i lf:Nat} {ts:List (TT n)} {lf':Nat},tkG (yf n) (tkS n) s ps i lf=some (ts,lf')→ts.length=ps.length:=by
    intro ps
    induction ps with
    | nil=>intro i lf ts lf' h;cases h;rfl
    | cons q ps ih=>
     intro i lf ts lf' h;unfold tkG at h;cases hx:tk1 (yf n) (tkS n) s q i lf with
     | none=>rw[hx]at h;cases h
     | some x=>
      rw[hx,Option.bind_some]at h;cases hy:tkG (yf n) (tkS n) s ps (i+1) x.2 with
      | none=>rw[hy]at h;cases h
      | some y=>
       rw[hy]at h;cases h;have:=ih hy;show(x.1::y.1).length=_;rw[List.length_cons,this,List.length_cons]
   have h2:=hl ps h;have htot:tot (n+1) ts=ts.length+sub_ n ts:=rfl;exact⟨h2,by omega⟩
 have all:∀ n,∀{ps:List (List UInt8)} {s:List UInt8} {lf:Nat} {x:TL n} {lf':Nat},tkS n ps s lf=some (x,lf')→tot n x+lf'=lf:=by
  intro n
  induction n with
  | zero=>intro ps s lf x lf' h;cases h
  | succ n ih=>intro ps s lf x lf' h;exact(fin ih h).2
 intro ps s lf ts lf' h;have:=fin (all n) h;omega
theorem tok_fit:∀(n:Nat) {sl:List (ST n)} {ts:List (TT n)},qy (xh n) sl ts→tok (n+1) ts:=by
 have key:∀(n:Nat) {s:ST n} {t:TT n},xh n s t→t.2.2.1.size≤20000∧t.2.1<W∧tok n t.2.2.2:=by
  intro n
  induction n with
  | zero=>
   intro s t h;rcases h with⟨_,_,h,h2,_⟩|⟨_,_,h,h2,_⟩|h
   ·exact⟨by rw[h2];exact Nat.zero_le _,h,trivial⟩
   ·exact⟨by omega,by rw[h];decide,trivial⟩
   ·exact h.elim
  | succ n ih=>
   intro s t h;obtain⟨k,u,x,l⟩:=t;rcases h with⟨_,_,h,h2,hl⟩|⟨_,_,h,h2,hl⟩|⟨_,_,h,h2,l',hi,hr⟩
   ·simp only at hl h2;subst hl h2;exact⟨Nat.zero_le _,h,fun t ht=>by cases ht⟩
   ·simp only at hl h2;subst hl;exact⟨by show x.size≤20000;omega,by rw[h];decide,fun t ht=>by cases ht⟩
   ·simp only at h2;subst h2;obtain⟨r1,r2⟩:=za2.1 hr;refine⟨Nat.zero_le _,by rw[h];decide,fun t ht=>?_⟩;obtain⟨i,hit⟩:=List.mem_iff_getElem?.1 (show @Membership.mem (TT n) (List (TT n)) _ l t from ht);obtain⟨s',hs'⟩:∃ s',l'[i]? = some s':=⟨_,List.getElem?_eq_getElem (by rw[r1];exact(List.getElem?_eq_some_iff.1 hit).1)⟩
    exact ih (r2 i s' t hs' hit)
 intro n sl ts hf t ht;obtain⟨r1,r2⟩:=za2.1 hf;obtain⟨i,hit⟩:=List.mem_iff_getElem?.1 (show @Membership.mem (TT n) (List (TT n)) _ ts t from ht);obtain⟨s',hs'⟩:∃ s',sl[i]? = some s':=⟨_,List.getElem?_eq_getElem (by rw[r1];exact(List.getElem?_eq_some_iff.1 hit).1)⟩
 exact key n (r2 i s' t hs' hit)
theorem zcy{f S:List UInt8}(hf:f.length≤1000)(hS:S.length≤20000)(w:World) :
  Calls prog 18 #[str f,str S] w fun e w'=>Below w.heap.size w w'∧((∃ ts v K,rdecM f S=some ts∧e=.returned (.tuple #[v,Z 0])∧(∀ k,K k→w.heap.size≤k∧k<w'.heap.size)∧LAf K w' 9 v ts)∨(rdecM f S=none∧e=.returned (.tuple #[.slice none 0 0,Z 2]))):=by
 have hsz:=zn S;refine inZ func18 fun a I=>?_;refine goZ [] I fun β a w1 I hb=>?_;have hsz1:=I.hJ.size;refine yp (ss:=[Sum.inl (str f)]) func46 I ?_;refine(parts_any f hf w1).mono fun e w2 he=>?_;obtain⟨hb2,h2⟩:=he;rcases h2 with⟨hn,rfl⟩ | ⟨ps,v,hps,rfl,ho⟩
 ·refine goZ [uO .not (p:=.bool false) (v:=.bool true) (by intros;rfl)] (I.moved (zi.of_below hb2) (I.hJ.trans (hb2.mono hsz1)) (fun _ _ h=>h) (.tuple #[.slice none 0 0,.bool false])) fun β3 a w3 I hb3=>?_;exact zh (v:=.tuple #[.slice none 0 0,Z 2]) I ⟨I.hJ,.inr ⟨by unfold rdecM;rw[hn];rfl,rfl⟩⟩
 obtain⟨adp,capp,rfl⟩:=z4 ho;obtain⟨hfl,hpt⟩:=zar hps;have hpl:∀ q∈ps,Pt 8 q∧q.length≤1000:=fun q hq=>⟨hpt q hq,by have:=flat_mem hq;rw[← hfl]at this;omega⟩
 have hplen:ps.length≤1000:=by have:=zc5 hpt;rw[← hfl]at this;omega
 have hR:rdecM f S=(tk 8 ps S (S.length/32)).bind fun x=>if enc 9 x.1=S then some x.1 else none:=by unfold rdecM;rw[hps];rfl
 have I2:SI (EO w 9 1 (.slice adp ps.length capp) ps.length (ps.map str)) (EF w (.slice adp ps.length capp)) [] β _ _ w2:=I.moved (zi.of_below hb2) ⟨I.hJ.trans (hb2.mono hsz1),owns_base ho hsz1⟩ (fun k hk h=>by
   rcases h with h|h
   ·exact h
   ·have:=(ho.lt k h).1;omega) (.tuple #[.slice adp ps.length capp,.bool true])
 refine goQ [uO .not (p:=.bool true) (v:=.bool false) (by intros;rfl),lO underlying9 (b:=⟨S.toArray⟩) (n:=S.length) (by rw[hsz]),bO .quo 3 (run_quoZ (x:=S.length) (y:=32) (z:=(S.length/32:Nat)) (by decide) (by rw[Int.tdiv_eq_ediv_of_nonneg (by omega),wz (by omega) (by omega)];omega))] (EO.rs _ _ _ _ _ _) I2 fun β3 a w3 I hb3=>?_;have hrow:=I.rowAt 0 (r:=#[Z (S.length/32:Nat)]);have hd0:=I.disG 0 (r:=#[Z (S.length/32:Nat)]);have hown:=I.hJ.own;have hsz3:=I.hJ.bw.size;have hg0:w.heap.size≤β3 0:=Nat.le_of_not_lt fun h=>hd0 (.inl h)
 have hcall:=takes_any 8 (Nat.le_refl _) hrow (SR.own hown) (fun k hk=>⟨fun e=>hd0 (.inr (e ▸ hk)),(hown.lt k hk).2⟩) hpl (by omega) (show S.length<100000000 by omega) (show S.length/32<100000000 by omega);refine yp (ss:=[Sum.inl (.slice adp ps.length capp),Sum.inl (str S),Sum.inr (0,0)]) func47 I ?_;refine hcall.mono fun e w4 he=>?_;obtain⟨hg4,he⟩:=he;have hbw4:Below w.heap.size w w4:=⟨hg4.os.trans I.hJ.bw.os,hg4.tape.trans I.hJ.bw.tape,hg4.output.trans I.hJ.bw.output,Nat.le_trans hsz3 hg4.size,fun k hk=>(hg4.block k (Nat.lt_of_lt_of_le hk hsz3) (by omega)).trans (I.hJ.bw.block k hk)⟩
 rcases he with⟨hn,rfl⟩|⟨ts,lf',v2,K2,htk,hl2,rfl,hr4,hK2,hL2⟩
 ·refine at_rows0.1 ?_;refine goZ [uO .not (p:=.bool false) (v:=.bool true) (by intros;rfl)] (I.norow (J':=Below w.heap.size w) (F':=(· < w.heap.size)) (w':=w4) hbw4 (.tuple #[.slice none 0 0,.bool false])) fun β5 a w5 I hb5=>?_;exact zh (v:=.tuple #[.slice none 0 0,Z 2]) I ⟨I.hJ,.inr ⟨by rw[hR,hn];rfl,rfl⟩⟩
 rw[htk,Option.bind_some]at hR;obtain⟨adl,ml,capl,rfl⟩:=hL2.slice;have hfitR:=tk_fit 8 (Nat.le_refl _) hpt htk;have hll:=qr hfitR;rw[List.length_map]at hll;have htot:tot 9 ts+lf'≤S.length/32+(ts.length-ps.length):=tk_tot 8 htk;have hbound:=zdg 9 ts (tok_fit 8 hfitR);have htot2:tot 9 ts≤S.length/32:=by omega
 have hE:∀ w',(Below w.heap.size w w'∧LK K2 w.heap.size 9 (.slice adl ml capl) ts w')→Calls prog 30 #[.slice adl ml capl] w' fun e w''=>e=.returned (str (enc 9 ts))∧Below w'.heap.size w' w'':=fun w' h=>zcq 9 h.2.la.la (by omega) w' (Below.refl _ _)
 refine at_rows0.1 ?_;have I4:=I.norow (J':=fun w'=>Below w.heap.size w w'∧LK K2 w.heap.size 9 (.slice adl ml capl) ts w') (F':=fun k=>k<w.heap.size∨K2 k) (w':=w4) ⟨hbw4,fun k hk=>⟨Nat.le_trans hsz3 (hK2 k hk).1,(hK2 k hk).2⟩,hL2⟩ (.tuple #[.slice adl ml capl,.bool true]);by_cases heq:enc 9 ts=S
 ·refine goT (T:=fun w'=>Below w.heap.size w w'∧LK K2 w.heap.size 9 (.slice adl ml capl) ts w') [uO .not (p:=.bool true) (v:=.bool false) (by intros;rfl),cA func30 hE,bO .neq 9 (qa (a:=enc 9 ts) (b:=S) (q:=false) (by simp[heq]))] ((zj w).both (LK.rs _ _ _ _ _)) (fun _ h=>h) I4 fun β5 a w5 I hb5=>?_;exact zh (v:=.tuple #[.slice adl ml capl,Z 0]) I ⟨I.hJ.1,.inl ⟨ts,_,K2,by rw[hR,if_pos heq],rfl,I.hJ.2.kb,I.hJ.2.la⟩⟩
 ·refine goT (T:=fun w'=>Below w.heap.size w w'∧LK K2 w.heap.size 9 (.slice adl ml capl) ts w') [uO .not (p:=.bool true) (v:=.bool false) (by intros;rfl),cA func30 hE,bO .neq 9 (qa (a:=enc 9 ts) (b:=S) (q:=true) (by simp[heq]))] ((zj w).both (LK.rs _ _ _ _ _)) (fun _ h=>h) I4 fun β5 a w5 I hb5=>?_;exact zh (v:=.tuple #[.slice none 0 0,Z 2]) I ⟨I.hJ.1,.inr ⟨by rw[hR,if_neg heq],rfl⟩⟩
end Go.Proofs.YtdeompgdhaomgaaGreatDoor
