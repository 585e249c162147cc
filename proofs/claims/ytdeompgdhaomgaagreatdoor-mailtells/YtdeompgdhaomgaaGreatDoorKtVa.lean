/- Out of Va. -/
import Derived.Test.YtdeompgdhaomgaaGreatDoorKtWk
namespace Go.Proofs.YtdeompgdhaomgaaGreatDoor
open Tryz
set_option linter.unusedVariables false
set_option maxRecDepth 100000
set_option maxHeartbeats 4000000
def ky (p:List UInt8→Nat) (e:Option UInt8):Nat→List UInt8→Option (List (List UInt8)×List UInt8)
 | 0,f=>if f=[]∨f.head? = e then some ([],f)else none
 | F+1,f=>if f=[]∨f.head? = e then some ([],f)else if p f=0 then none else(ky p e F (f.drop (p f))).map fun x=>(f.take (p f)::x.1,x.2)
def clo (b:UInt8):UInt8:=if b=91 then 93 else 41
def brk (p:List UInt8→Nat) (b:UInt8) (g:List UInt8):Nat:=match ky p (some (clo b)) g.length g with
 | none=>0
 | some (ps,rest)=>if rest=[]∨(b=91∧ps.length≠1)then 0 else ps.flatten.length+2
def prt:Nat→List UInt8→Nat
 | 0,f=>match f with
  | []=>0
  | b::_=>if b=110∨b=116 then 1 else 0
 | n+1,f=>match f with
  | []=>0
  | b::g=>if b=110∨b=116 then 1 else if b=40∨b=91 then brk (prt n) b g else 0
def Pt:Nat→List UInt8→Prop
 | 0,q=>q=[110]∨q=[116]
 | n+1,q=>q=[110]∨q=[116]∨(∃ ps:List (List UInt8),(∀ p∈ps,Pt n p)∧q=40::(ps.flatten++[41]))∨∃ p:List UInt8,Pt n p∧q=91::(p++[93])
theorem Pt.num(n:Nat):Pt n [110]:=by cases n<;>exact .inl rfl
theorem Pt.txt(n:Nat):Pt n [116]:=by
 cases n with
 | zero=>exact .inr rfl
 | succ n=>exact .inr (.inl rfl)
theorem Pt.tup(n:Nat)(ps:List (List UInt8))(h:∀ p∈ps,Pt n p):Pt (n+1) (40::(ps.flatten++[41])):=.inr (.inr (.inl ⟨ps,h,rfl⟩))
theorem Pt.arr(n:Nat)(p:List UInt8)(h:Pt n p):Pt (n+1) (91::(p++[93])):=.inr (.inr (.inr ⟨p,h,rfl⟩))
theorem Pt.head{n:Nat}{q:List UInt8}(h:Pt n q):∃ b g,q=b::g∧(b=110∨b=116∨b=40∨b=91):=by
 cases n with
 | zero=>rcases h with rfl | rfl<;>exact⟨_,_,rfl,by decide⟩
 | succ n=>rcases h with rfl | rfl | ⟨ps,h,rfl⟩ | ⟨p,h,rfl⟩<;>exact⟨_,_,rfl,by decide⟩
theorem scan_inv{p:List UInt8→Nat}{e:Option UInt8}(hp:∀ f,p f≤f.length):∀(F:Nat) (f:List UInt8) {ps:List (List UInt8)} {rest:List UInt8},ky p e F f=some (ps,rest) →
  f=ps.flatten++rest∧(rest=[]∨rest.head? = e)∧∀ q∈ps,∃ r,p (q++r)=q.length∧q≠[]
 | 0,f,ps,rest,h=>by
  unfold ky at h;split at h
  ·next hs=>cases h;exact⟨rfl,hs,fun q hq=>by cases hq⟩
  ·cases h
 | F+1,f,ps,rest,h=>by
  unfold ky at h;split at h
  ·next hs=>cases h;exact⟨rfl,hs,fun q hq=>by cases hq⟩
  ·split at h
   ·cases h
   ·next hk=>
    cases hq:ky p e F (f.drop (p f))with
    | none=>rw[hq]at h;cases h
    | some x=>
     rw[hq]at h;obtain⟨ps',rest'⟩:=x;simp only[Option.map_some,Option.some.injEq,Prod.mk.injEq]at h;obtain⟨rfl,rfl⟩:=h;obtain⟨h1,h2,h3⟩:=scan_inv hp F _ hq;have hl:=hp f;refine⟨by rw[List.flatten_cons,List.append_assoc,← h1,List.take_append_drop],h2,fun q hq'=>?_⟩;rcases List.mem_cons.1 hq' with rfl | hq'
     ·refine⟨f.drop (p f),?_,fun h0=>?_⟩
      ·rw[List.take_append_drop,List.length_take];omega
      ·have:=congrArg List.length h0;rw[List.length_take,List.length_nil]at this;omega
     ·exact h3 q hq'
theorem scan_ok{p:List UInt8→Nat}{e:Option UInt8}{tail:List UInt8}(ht:tail=[]∨tail.head? = e):∀(ps:List (List UInt8)) (F:Nat),ps.length≤F→(∀ q∈ps,(∀ r,p (q++r)=q.length)∧q≠[]∧q.head? ≠ e)→ky p e F (ps.flatten++tail)=some (ps,tail)
 | [],F,_,_=>by
  rw[List.flatten_nil,List.nil_append];cases F<;>(unfold ky;rw[if_pos ht])
 | q::ps,0,h,_=>absurd h (by simp)
 | q::ps,F+1,h,hq=>by
  obtain⟨h1,h2,h3⟩:=hq q List.mem_cons_self;obtain⟨b,g,rfl⟩:∃ b g,q=b::g:=by cases q with | nil=>exact absurd rfl h2 | cons b g=>exact⟨b,g,rfl⟩
  have ih:=scan_ok ht ps F (by simpa using h) fun q hq'=>hq q (List.mem_cons_of_mem _ hq')
  rw[List.flatten_cons,List.append_assoc];unfold ky;rw[if_neg (by simpa using h3),h1,if_neg (by simp),List.drop_left,ih,List.take_left];rfl
theorem zc5{n:Nat}:∀{ps:List (List UInt8)},(∀ p∈ps,Pt n p)→ps.length≤ps.flatten.length
 | [],_=>Nat.le_refl _
 | p::ps,h=>by
  have:=zc5 fun q hq=>h q (List.mem_cons_of_mem _ hq)
  obtain⟨b,g,rfl,_⟩:=(h p List.mem_cons_self).head;simp only[List.flatten_cons,List.length_append,List.length_cons];omega
theorem zbf:∀(n:Nat) (f:List UInt8),prt n f≤f.length∧(prt n f≠0→Pt n (f.take (prt n f)))
 | 0,[]=>⟨Nat.le_refl _,fun h=>absurd rfl h⟩
 | 0,b::g=>by
  unfold prt;simp only;split
  ·next h=>
   refine⟨by simp,fun _=>?_⟩;rcases h with rfl | rfl
   ·exact Pt.num 0
   ·exact Pt.txt 0
  ·exact⟨Nat.zero_le _,fun h=>absurd rfl h⟩
 | n+1,[]=>⟨Nat.le_refl _,fun h=>absurd rfl h⟩
 | n+1,b::g=>by
  unfold prt;simp only;split
  ·next h=>
   refine⟨by simp,fun _=>?_⟩;rcases h with rfl | rfl
   ·exact Pt.num _
   ·exact Pt.txt _
  ·split
   ·next hb=>
    unfold brk;cases hq:ky (prt n) (some (clo b)) g.length g with
    | none=>exact⟨Nat.zero_le _,fun h=>absurd rfl h⟩
    | some x=>
     obtain⟨ps,rest⟩:=x;simp only;split
     ·exact⟨Nat.zero_le _,fun h=>absurd rfl h⟩
     ·next hr=>
      obtain⟨h1,h2,h3⟩:=scan_inv (fun f=>(zbf n f).1) _ _ hq;have hr0:rest≠[]:=fun h=>hr (.inl h)
      rcases h2 with h2|h2
      ·exact absurd h2 hr0
      cases rest with
      | nil=>exact absurd rfl hr0
      | cons c rest=>
       simp only[List.head?_cons,Option.some.injEq]at h2;subst h2;have hps:∀ q∈ps,Pt n q:=fun q hq=>by
        obtain⟨r,h4,h5⟩:=h3 q hq;have h6:=(zbf n (q++r)).2 (by rw[h4];simpa using h5);rw[h4,List.take_left]at h6;exact h6
       refine⟨by rw[h1];simp,fun _=>?_⟩;have e:(b::g).take (ps.flatten.length+2)=b::(ps.flatten++[clo b]):=by
        rw[h1,List.take_succ_cons,List.take_length_add_append];rfl
       rw[e];rcases hb with rfl|rfl
       ·exact Pt.tup n ps hps
       ·have hl:ps.length=1:=by
         rcases Nat.decEq ps.length 1 with h|h
         ·exact absurd (.inr ⟨rfl,h⟩) hr
         ·exact h
        match ps,hl with
        | [q],_=>
         have:=Pt.arr n q (hps q List.mem_cons_self);simpa [clo]using this
   ·exact⟨Nat.zero_le _,fun h=>absurd rfl h⟩
theorem pt_prt{n:Nat}{q:List UInt8}(h:Pt n q):∀(m:Nat) (r:List UInt8),n≤m→prt m (q++r)=q.length:=by
 induction n generalizing q with
 | zero=>
  intro m r _;rcases h with rfl|rfl<;>cases m<;>rfl
 | succ n ih=>
  rcases h with rfl|rfl|⟨ps,hps,rfl⟩|⟨p,hp,rfl⟩
  ·intro m r _;cases m<;>rfl
  ·intro m r _;cases m<;>rfl
  ·
   intro m r hm;obtain⟨m,rfl⟩:∃ k,m=k+1:=⟨m-1,by omega⟩
   have hs:=scan_ok (p:=prt m) (e:=some 41) (tail:=41::r) (.inr rfl) ps (ps.flatten++41::r).length (by have:=zc5 hps;rw[List.length_append];omega) fun q hq=>by
    obtain⟨b,g,e,hb⟩:=(hps q hq).head;refine⟨fun r'=>ih (hps q hq) m r' (by omega),by rw[e];simp,?_⟩;rw[e];rcases hb with rfl | rfl | rfl | rfl<;>simp
   have e:(40::(ps.flatten++[41]):List UInt8)++r=40::(ps.flatten++41::r):=by simp
   rw[e];unfold prt;simp only[brk,show clo 40=41 from rfl,hs];simp
  ·
   intro m r hm;obtain⟨m,rfl⟩:∃ k,m=k+1:=⟨m-1,by omega⟩
   have hs:=scan_ok (p:=prt m) (e:=some 93) (tail:=93::r) (.inr rfl) [p] (p++93::r).length (by simp;omega) fun q hq=>by
    rw[List.mem_singleton]at hq;subst hq;obtain⟨b,g,e,hb⟩:=hp.head;refine⟨fun r'=>ih hp m r' (by omega),by rw[e];simp,?_⟩;rw[e];rcases hb with rfl | rfl | rfl | rfl<;>simp
   have e:(91::(p++[93]):List UInt8)++r=91::(p++93::r):=by simp
   rw[List.flatten_cons,List.flatten_nil,List.append_nil]at hs;rw[e];unfold prt;simp only[brk,show clo 91=93 from rfl,hs];simp
theorem Pt.up{n:Nat}{q:List UInt8}(h:Pt n q):∀{m:Nat},n≤m→Pt m q:=by
 intro m hm;have h1:=pt_prt h m [] hm;rw[List.append_nil]at h1;have h2:=(zbf m q).2 (by obtain⟨b,g,rfl,_⟩:=h.head;rw[h1];simp)
 rwa [h1,List.take_length]at h2
def xe (f:List UInt8):Option (List (List UInt8)):=(ky (prt 8) none f.length f).map (·.1)
theorem zar{f:List UInt8}{ps:List (List UInt8)}(h:xe f=some ps):f=ps.flatten∧∀ p∈ps,Pt 8 p:=by
 unfold xe at h;cases hq:ky (prt 8) none f.length f with
 | none=>rw[hq]at h;cases h
 | some x=>
  obtain⟨ps',rest⟩:=x;rw[hq]at h;cases h;obtain⟨h1,h2,h3⟩:=scan_inv (fun f=>(zbf 8 f).1) _ _ hq;have hr:rest=[]:=by
   rcases h2 with h2|h2
   ·exact h2
   ·cases rest with
    | nil=>rfl
    | cons b g=>cases h2
  refine⟨by rw[h1,hr,List.append_nil],fun q hq=>?_⟩;obtain⟨r,h4,h5⟩:=h3 q hq;have h6:=(zbf 8 (q++r)).2 (by rw[h4];simpa using h5);rw[h4,List.take_left]at h6;exact h6
theorem parts_ok{ps:List (List UInt8)}(h:∀ p∈ps,Pt 8 p):xe ps.flatten=some ps:=by
 have hs:=scan_ok (p:=prt 8) (e:=none) (tail:=[]) (.inl rfl) ps ps.flatten.length (zc5 h) fun q hq=>by
  obtain⟨b,g,e,hb⟩:=(h q hq).head;refine⟨fun r'=>pt_prt (h q hq) 8 r' (Nat.le_refl _),by rw[e];simp,by rw[e];simp⟩
 rw[List.append_nil]at hs;unfold xe;rw[hs];rfl
end Go.Proofs.YtdeompgdhaomgaaGreatDoor
