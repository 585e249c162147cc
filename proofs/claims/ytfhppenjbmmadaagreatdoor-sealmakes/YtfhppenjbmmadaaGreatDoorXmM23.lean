namespace Go.Proofs.YtfhppenjbmmadaaGreatDoor
set_option linter.unusedVariables false
set_option maxHeartbeats 8000000
section
def Pp:Nat:=115792089237316195423570985008687907853269984665640564039457584007908834671663
def isP (p:Nat):Prop:=1<p∧∀ d,d∣p→d=1∨d=p
theorem isP.cop{p:Nat}(h:isP p){a:Nat}(ha:¬ p∣a):Nat.Coprime a p:=by
 have h1:=h.2 (Nat.gcd a p) (Nat.gcd_dvd_right a p)
 rcases h1 with h1 | h1
 ·exact h1
 ·exact absurd (h1 ▸ Nat.gcd_dvd_left a p) ha
theorem isP.mul{p:Nat}(h:isP p){a b:Nat}(hab:p∣a*b):p∣a∨p∣b:=by
 by_cases ha:p∣a
 ·exact .inl ha
 ·exact .inr ((h.cop ha).symm.dvd_of_dvd_mul_left hab)
theorem prime_div:∀ n,1<n→∃ r,isP r∧r∣n:=by
 intro n
 induction n using Nat.strongRecOn with
 | _ n ih=>
  intro hn
  by_cases hp:∀ d,d∣n→d=1∨d=n
  ·exact ⟨n,⟨hn,hp⟩,Nat.dvd_refl n⟩
  ·obtain ⟨d,hd⟩:=Classical.not_forall.1 hp
   obtain ⟨hdn,hne⟩:=Classical.not_imp.1 hd
   have h1:d≠1:=fun e=>hne (.inl e)
   have h2:d≠n:=fun e=>hne (.inr e)
   have hpos:0<d:=Nat.pos_of_dvd_of_pos hdn (by omega)
   have hle:=Nat.le_of_dvd (by omega) hdn
   obtain ⟨r,hr,hrd⟩:=ih d (by omega) (by omega)
   exact ⟨r,hr,Nat.dvd_trans hrd hdn⟩
theorem pigeon:∀ (N M:Nat) (f:Nat→Nat),(∀ i,i<N→f i<M)→(∀ i j,i<N→j<N→f i=f j→i=j)→N≤M
 | 0,M,_,_,_=>Nat.zero_le _
 | N+1,0,f,hb,_=>absurd (hb 0 (by omega)) (by omega)
 | N+1,M+1,f,hb,hi=>by
  have h:=pigeon N M (fun i=>if f i=M then f N else f i) (fun i hiN=>?_) (fun i j hi' hj' e=>?_)
  ·omega
  ·split
   ·next e=>
    have h1:=hb N (by omega)
    have h2:f N≠M:=fun e2=>by have:=hi i N (by omega) (by omega) (by omega);omega
    omega
   ·have:=hb i (by omega);omega
  ·by_cases hi1:f i=M
   ·by_cases hj1:f j=M
    ·exact hi i j (by omega) (by omega) (by omega)
    ·rw[if_pos hi1,if_neg hj1] at e
     have:=hi N j (by omega) (by omega) e
     omega
   ·by_cases hj1:f j=M
    ·rw[if_neg hi1,if_pos hj1] at e
     have:=hi i N (by omega) (by omega) e
     omega
    ·rw[if_neg hi1,if_neg hj1] at e
     exact hi i j (by omega) (by omega) e
theorem onto(N:Nat)(f:Nat→Nat)(hb:∀ i,i<N→f i<N)(hi:∀ i j,i<N→j<N→f i=f j→i=j)(y:Nat)(hy:y<N):∃ i,i<N∧f i=y:=by
 apply Classical.byContradiction
 intro hne
 have hno:∀ i,i<N→f i≠y:=fun i h e=>hne ⟨i,h,e⟩
 have h:=pigeon (N+1) N (fun i=>if i<N then f i else y) (fun i h=>?_) (fun i j h1 h2 e=>?_)
 ·omega
 ·split
  ·exact hb i (by assumption)
  ·exact hy
 ·by_cases a:i<N
  ·by_cases b:j<N
   ·rw[if_pos a,if_pos b] at e;exact hi i j a b e
   ·rw[if_pos a,if_neg b] at e;exact absurd e (hno i a)
  ·by_cases b:j<N
   ·rw[if_neg a,if_pos b] at e;exact absurd e.symm (hno j b)
   ·omega
theorem pow_one_mod{a r:Nat}(h:a%r=1%r)(k:Nat):a^k%r=1%r:=by
 rw[Nat.pow_mod,h,← Nat.pow_mod,Nat.one_pow]
theorem least{a r m:Nat}(hm:0<m)(h:a^m%r=1%r):∃ d,0<d∧d≤m∧a^d%r=1%r∧∀ e,0<e→e<d→a^e%r≠1%r:=by
 revert hm h
 induction m using Nat.strongRecOn with
 | _ m ih=>
  intro hm h
  by_cases hx:∃ e,0<e∧e<m∧a^e%r=1%r
  ·obtain ⟨e,h1,h2,h3⟩:=hx
   obtain ⟨d,k1,k2,k3,k4⟩:=ih e h2 h1 h3
   exact ⟨d,k1,by omega,k3,k4⟩
  ·exact ⟨m,hm,Nat.le_refl _,h,fun e h1 h2 h3=>hx ⟨e,h1,h2,h3⟩⟩
theorem least_dvd{a r d m:Nat}(hd:0<d)(h1:a^d%r=1%r)(hl:∀ e,0<e→e<d→a^e%r≠1%r)(hm:a^m%r=1%r):d∣m:=by
 have e:a^m=(a^d)^(m/d)*a^(m%d):=by rw[← Nat.pow_mul,← Nat.pow_add,Nat.div_add_mod]
 rw[e,Nat.mul_mod,pow_one_mod h1,← Nat.mul_mod,Nat.one_mul] at hm
 apply Nat.dvd_of_mod_eq_zero
 apply Classical.byContradiction
 intro hne
 exact hl (m%d) (by omega) (Nat.mod_lt _ hd) hm
theorem dvd_sub_of_mod{a b r:Nat}(hab:a≤b)(h:a%r=b%r):r∣b-a:=by
 have h1:=Nat.div_add_mod a r
 have h2:=Nat.div_add_mod b r
 refine ⟨b/r-a/r,?_⟩
 rw[Nat.mul_sub]
 omega
theorem mod_of_dvd_sub{a b r:Nat}(hab:a≤b)(h:r∣b-a):a%r=b%r:=by
 obtain ⟨k,hk⟩:=h
 rw[show b=a+r*k by omega,Nat.add_mul_mod_self_left]
theorem cancel_mod{a b c r:Nat}(hc:Nat.Coprime c r)(h:c*a%r=c*b%r):a%r=b%r:=by
 rcases Nat.le_total a b with hab | hab
 ·have h1:=dvd_sub_of_mod (Nat.mul_le_mul_left c hab) h
  rw[← Nat.mul_sub] at h1
  exact mod_of_dvd_sub hab (hc.symm.dvd_of_dvd_mul_left h1)
 ·have h1:=dvd_sub_of_mod (Nat.mul_le_mul_left c hab) h.symm
  rw[← Nat.mul_sub] at h1
  exact (mod_of_dvd_sub hab (hc.symm.dvd_of_dvd_mul_left h1)).symm
theorem cop_pow{a r:Nat}(h:Nat.Coprime a r):∀ k,Nat.Coprime (a^k) r
 | 0=>by simp
 | k+1=>by rw[Nat.pow_succ];exact Nat.Coprime.mul_left (cop_pow h k) h
theorem pow_inj{a r d:Nat}(hc:Nat.Coprime a r)(hl:∀ e,0<e→e<d→a^e%r≠1%r):∀ i j,i<d→j<d→a^i%r=a^j%r→i=j:=by
 have key:∀ i j,i<j→j<d→a^i%r≠a^j%r:=by
  intro i j hij hj e
  have e1:a^j=a^i*a^(j-i):=by rw[← Nat.pow_add];congr 1;omega
  rw[e1] at e
  have e2:a^i*1%r=a^i*a^(j-i)%r:=by rw[Nat.mul_one];exact e
  have e3:=cancel_mod (cop_pow hc i) e2
  exact hl (j-i) (by omega) (by omega) e3.symm
 intro i j hi hj e
 rcases Nat.lt_trichotomy i j with h | h | h
 ·exact absurd e (key i j h hj)
 ·exact h
 ·exact absurd e.symm (key j i h hi)
theorem order_le{a r d:Nat}(hr:isP r)(ha:¬ r∣a)(hl:∀ e,0<e→e<d→a^e%r≠1%r):d≤r-1:=by
 have hr1:=hr.1
 have hc:=hr.cop ha
 have hpos:∀ i,0<a^i%r:=by
  intro i
  apply Nat.pos_of_ne_zero
  intro e
  have h1:=Nat.dvd_of_mod_eq_zero e
  have h2:=(cop_pow hc i).symm.eq_one_of_dvd h1
  omega
 refine pigeon d (r-1) (fun i=>a^i%r-1) (fun i _=>?_) (fun i j hi hj e=>?_)
 ·have h1:=Nat.mod_lt (a^i) (show 0<r by omega)
  have h2:=hpos i
  omega
 ·have h1:=hpos i
  have h2:=hpos j
  exact pow_inj hc hl i j hi hj (by omega)
theorem all_in{s:Nat}(hs:isP s):∀ (l:List Nat),(∀ q∈l,isP q)→s∣l.foldr (· * ·) 1→s∈l
 | [],_,h=>by
  have h1:=Nat.le_of_dvd (by decide) h
  have:=hs.1
  simp at h1
  omega
 | q::l,hq,h=>by
  rcases hs.mul (show s∣q*l.foldr (· * ·) 1 from h) with h1 | h1
  ·rcases (hq q (by simp)).2 s h1 with e | e
   ·have:=hs.1;omega
   ·simp[e]
  ·exact List.mem_cons_of_mem _ (all_in hs l (fun x hx=>hq x (by simp[hx])) h1)
theorem self_dvd_pow(a:Nat){k:Nat}(h:0<k):a∣a^k:=⟨a^(k-1),by rw[Nat.mul_comm,← Nat.pow_succ];congr 1;omega⟩
theorem lucas{n a:Nat}(l:List Nat)(hn:1<n)(hl:∀ q∈l,isP q)(hp:l.foldr (· * ·) 1=n-1)(h1:a^(n-1)%n=1)(hg:∀ q∈l,Nat.gcd (a^((n-1)/q)%n+(n-1)) n=1):isP n∧∀ e,0<e→e<n-1→a^e%n≠1:=by
 have main:∀ r,r∣n→1<r→∀ d,0<d→a^d%r=1%r→(∀ e,0<e→e<d→a^e%r≠1%r)→d=n-1:=by
  intro r hrn hr d hd hd1 hdl
  have hn1:a^(n-1)%r=1%r:=by
   have e:a^(n-1)%n%r=1%r:=by rw[h1]
   rwa [Nat.mod_mod_of_dvd _ hrn] at e
  obtain ⟨m,hm⟩:=least_dvd hd hd1 hdl hn1
  have hmpos:0<m:=Nat.pos_of_ne_zero fun e=>by rw[e,Nat.mul_zero] at hm;omega
  by_cases hm1:m=1
  ·rw[hm1,Nat.mul_one] at hm;exact hm.symm
  ·exfalso
   obtain ⟨s,hs,hsm⟩:=prime_div m (by omega)
   have hsin:s∈l:=all_in hs l hl (by rw[hp,hm];exact Nat.dvd_trans hsm (Nat.dvd_mul_left m d))
   obtain ⟨t,rfl⟩:=hsm
   have hs0:0<s:=by have:=hs.1;omega
   have e1:(n-1)/s=d*t:=by
    rw[hm,← Nat.mul_assoc,Nat.mul_comm d s,Nat.mul_assoc,Nat.mul_div_cancel_left _ hs0]
   have e2:a^((n-1)/s)%r=1%r:=by rw[e1,Nat.pow_mul];exact pow_one_mod hd1 t
   have e3:=hg s hsin
   have e4:(a^((n-1)/s)%n+(n-1))%r=0:=by
    rw[Nat.add_mod,Nat.mod_mod_of_dvd _ hrn,e2,← Nat.add_mod,show 1+(n-1)=n by omega]
    exact Nat.mod_eq_zero_of_dvd hrn
   have e5:r∣1:=e3 ▸ Nat.dvd_gcd (Nat.dvd_of_mod_eq_zero e4) hrn
   have:=Nat.le_of_dvd (by decide) e5
   omega
 have hmin:∀ e,0<e→e<n-1→a^e%n≠1:=by
  intro e he1 he2 he3
  obtain ⟨d,k1,k2,k3,k4⟩:=least (r:=n) he1 (by rw[he3,Nat.mod_eq_of_lt hn])
  have:=main n (Nat.dvd_refl n) hn d k1 k3 k4
  omega
 refine ⟨?_,hmin⟩
 obtain ⟨r,hr,hrn⟩:=prime_div n hn
 have hr1:=hr.1
 by_cases hn2:n=2
 ·subst hn2
  have hle:=Nat.le_of_dvd (by decide) hrn
  have:r=2:=by omega
  exact this ▸ hr
 have hn1:a^(n-1)%r=1%r:=by
  have e:a^(n-1)%n%r=1%r:=by rw[h1]
  rwa [Nat.mod_mod_of_dvd _ hrn] at e
 have ha:¬ r∣a:=by
  intro h
  have h2:r∣a^(n-1):=Nat.dvd_trans h (self_dvd_pow a (by omega))
  rw[Nat.mod_eq_zero_of_dvd h2,Nat.mod_eq_of_lt hr1] at hn1
  cases hn1
 obtain ⟨d,k1,k2,k3,k4⟩:=least (show 0<n-1 by omega) hn1
 have hd:=main r hrn hr1 d k1 k3 k4
 have hle:=order_le hr ha k4
 have hrle:=Nat.le_of_dvd (by omega) hrn
 have:r=n:=by omega
 exact this ▸ hr
theorem fermat{p g:Nat}(hp:isP p)(h1:g^(p-1)%p=1)(hl:∀ e,0<e→e<p-1→g^e%p≠1){a:Nat}(ha:¬ p∣a):a^(p-1)%p=1:=by
 have hp1:=hp.1
 have h1m:1%p=1:=Nat.mod_eq_of_lt hp1
 by_cases hp2:p=2
 ·subst hp2
  have:a%2=1:=by omega
  simpa using this
 have hg:¬ p∣g:=by
  intro h
  have h2:p∣g^(p-1):=Nat.dvd_trans h (self_dvd_pow g (by omega))
  rw[Nat.mod_eq_zero_of_dvd h2] at h1
  cases h1
 have hc:=hp.cop hg
 have hl':∀ e,0<e→e<p-1→g^e%p≠1%p:=fun e a b c=>hl e a b (by rw[c,h1m])
 have hpos:∀ i,0<g^i%p:=by
  intro i
  apply Nat.pos_of_ne_zero
  intro e
  have h2:=(cop_pow hc i).symm.eq_one_of_dvd (Nat.dvd_of_mod_eq_zero e)
  omega
 have hapos:0<a%p:=Nat.pos_of_ne_zero fun e=>ha (Nat.dvd_of_mod_eq_zero e)
 have halt:=Nat.mod_lt a (show 0<p by omega)
 obtain ⟨k,hk,hka⟩:=onto (p-1) (fun i=>g^i%p-1) (fun i _=>by have h2:=Nat.mod_lt (g^i) (show 0<p by omega);have h3:=hpos i;show g^i%p-1<p-1;omega)
  (fun i j hi hj e=>by
   have h2:=hpos i
   have h3:=hpos j
   have e':g^i%p-1=g^j%p-1:=e
   exact pow_inj hc hl' i j hi hj (by omega)) (a%p-1) (by omega)
 have hka':g^k%p-1=a%p-1:=hka
 have h4:=hpos k
 have e:a%p=g^k%p:=by omega
 rw[Nat.pow_mod,e,← Nat.pow_mod,← Nat.pow_mul,Nat.mul_comm,Nat.pow_mul]
 have:=pow_one_mod (a:=g^(p-1)) (r:=p) (by rw[h1,h1m]) k
 rw[this,h1m]
end
section
def fo {α:Type} (n:Nat) (k:Nat→α):α:=match n with | 0=>k 0 | m+1=>k (Nat.add m 1)
theorem fo_eq{α:Type}(n:Nat)(k:Nat→α):fo n k=k n:=by cases n<;>rfl
def pmk {α:Type} (n a:Nat):Nat→Nat→(Nat→α)→α
 | 0,_,k=>k 1
 | f+1,e,k=>pmk n a f (e/2) fun h=>match e%2 with | 0=>fo (h*h%n) k | _+1=>fo (h*h%n*a%n) k
theorem pmk_eq{α:Type}{n a:Nat}(hn:1<n):∀ (f e:Nat) (k:Nat→α),e<2^f→pmk n a f e k=k (a^e%n)
 | 0,e,k,h=>by
  have:e=0:=by simpa using h
  subst this
  show k 1=k (a^0%n)
  rw[Nat.pow_zero,Nat.mod_eq_of_lt hn]
 | f+1,e,k,h=>by
  rw[pmk,pmk_eq hn f (e/2) _ (by rw[Nat.pow_succ] at h;omega)]
  have hd:e=e/2+e/2+e%2:=by omega
  have h2:=Nat.mod_lt e (show 0<2 by decide)
  generalize hq:e/2=q at *
  generalize hm:e%2=m at *
  subst hd
  have hm2:m=0∨m=1:=by omega
  rcases hm2 with rfl | rfl
  ·show fo (a^q%n*(a^q%n)%n) k=_
   rw[fo_eq,← Nat.mul_mod,← Nat.pow_add,Nat.add_zero]
  ·show fo (a^q%n*(a^q%n)%n*a%n) k=_
   rw[fo_eq,← Nat.mul_mod,← Nat.pow_add,Nat.mul_mod,Nat.mod_mod,← Nat.mul_mod,← Nat.pow_succ]
def lt (n a:Nat):List Nat→Bool
 | []=>pmk n a 256 (n-1) fun r=>Nat.beq r 1
 | q::l=>match (pmk n a 256 ((n-1)/q) fun r=>Nat.beq (Nat.gcd (r+(n-1)) n) 1) with | true=>lt n a l | false=>false
theorem lt_pow{n a:Nat}(hn:1<n)(h2:n<2^256):∀ l,lt n a l=true→a^(n-1)%n=1
 | [],h=>by
  rw[lt,pmk_eq hn 256 _ _ (by omega)] at h
  exact Nat.eq_of_beq_eq_true h
 | q::l,h=>by
  rw[lt] at h
  split at h
  ·exact lt_pow hn h2 l h
  ·cases h
theorem lt_gcd{n a:Nat}(hn:1<n)(h2:n<2^256):∀ l,lt n a l=true→∀ q∈l,Nat.gcd (a^((n-1)/q)%n+(n-1)) n=1
 | [],_,q,hq=>by cases hq
 | p::l,h,q,hq=>by
  rw[lt] at h
  split at h
  ·next e=>
   rw[pmk_eq hn 256 _ _ (Nat.lt_of_le_of_lt (Nat.div_le_self _ _) (by omega))] at e
   rcases List.mem_cons.1 hq with rfl | hq
   ·exact Nat.eq_of_beq_eq_true e
   ·exact lt_gcd hn h2 l h q hq
  ·cases h
def Prim (n a:Nat):Prop:=isP n∧a^(n-1)%n=1∧∀ e,0<e→e<n-1→a^e%n≠1
theorem luT{n a:Nat}(l:List Nat)(hn:1<n)(h2:n<2^256)(hl:∀ q∈l,isP q)(hp:l.foldr (· * ·) 1=n-1)(ht:lt n a l=true):Prim n a:=
 have h:=lucas l hn hl hp (lt_pow hn h2 l ht) (lt_gcd hn h2 l ht)
 ⟨h.1,lt_pow hn h2 l ht,h.2⟩
theorem all0{P:Nat→Prop}:∀ q∈([]:List Nat),P q:=fun _ h=>by cases h
theorem aC{P:Nat→Prop}{a:Nat}{l:List Nat}(h:P a)(t:∀ q∈l,P q):∀ q∈a::l,P q:=fun q hq=>by
 rcases List.mem_cons.1 hq with rfl | hq
 ·exact h
 ·exact t q hq
theorem pr0:Prim 2 1:=luT [] (by decide +kernel) (by decide +kernel) all0 (by decide +kernel) (by decide +kernel)
theorem pr1:Prim 3 2:=luT [2] (by decide +kernel) (by decide +kernel) (aC pr0.1 all0) (by decide +kernel) (by decide +kernel)
theorem pr2:Prim 7 3:=luT [2,3] (by decide +kernel) (by decide +kernel) (aC pr0.1 (aC pr1.1 all0)) (by decide +kernel) (by decide +kernel)
theorem pr3:Prim 5 2:=luT [2,2] (by decide +kernel) (by decide +kernel) (aC pr0.1 (aC pr0.1 all0)) (by decide +kernel) (by decide +kernel)
theorem pr4:Prim 13441 11:=luT [2,2,2,2,2,2,2,3,5,7] (by decide +kernel) (by decide +kernel) (aC pr0.1 (aC pr0.1 (aC pr0.1 (aC pr0.1 (aC pr0.1 (aC pr0.1 (aC pr0.1 (aC pr1.1 (aC pr3.1 (aC pr2.1 all0)))))))))) (by decide +kernel) (by decide +kernel)
theorem pr5:Prim 29 2:=luT [2,2,7] (by decide +kernel) (by decide +kernel) (aC pr0.1 (aC pr0.1 (aC pr2.1 all0))) (by decide +kernel) (by decide +kernel)
theorem pr6:Prim 31 3:=luT [2,3,5] (by decide +kernel) (by decide +kernel) (aC pr0.1 (aC pr1.1 (aC pr3.1 all0))) (by decide +kernel) (by decide +kernel)
theorem pr7:Prim 11 2:=luT [2,5] (by decide +kernel) (by decide +kernel) (aC pr0.1 (aC pr3.1 all0)) (by decide +kernel) (by decide +kernel)
theorem pr8:Prim 13 2:=luT [2,2,3] (by decide +kernel) (by decide +kernel) (aC pr0.1 (aC pr0.1 (aC pr1.1 all0))) (by decide +kernel) (by decide +kernel)
theorem pr9:Prim 7723 3:=luT [2,3,3,3,11,13] (by decide +kernel) (by decide +kernel) (aC pr0.1 (aC pr1.1 (aC pr1.1 (aC pr1.1 (aC pr7.1 (aC pr8.1 all0)))))) (by decide +kernel) (by decide +kernel)
theorem pr10:Prim 17 3:=luT [2,2,2,2] (by decide +kernel) (by decide +kernel) (aC pr0.1 (aC pr0.1 (aC pr0.1 (aC pr0.1 all0)))) (by decide +kernel) (by decide +kernel)
theorem pr11:Prim 443 2:=luT [2,13,17] (by decide +kernel) (by decide +kernel) (aC pr0.1 (aC pr8.1 (aC pr10.1 all0))) (by decide +kernel) (by decide +kernel)
theorem pr12:Prim 887 5:=luT [2,443] (by decide +kernel) (by decide +kernel) (aC pr0.1 (aC pr11.1 all0)) (by decide +kernel) (by decide +kernel)
theorem pr13:Prim 5323 5:=luT [2,3,887] (by decide +kernel) (by decide +kernel) (aC pr0.1 (aC pr1.1 (aC pr12.1 all0))) (by decide +kernel) (by decide +kernel)
theorem pr14:Prim 131 2:=luT [2,5,13] (by decide +kernel) (by decide +kernel) (aC pr0.1 (aC pr3.1 (aC pr8.1 all0))) (by decide +kernel) (by decide +kernel)
theorem pr15:Prim 2621 2:=luT [2,2,5,131] (by decide +kernel) (by decide +kernel) (aC pr0.1 (aC pr0.1 (aC pr3.1 (aC pr14.1 all0)))) (by decide +kernel) (by decide +kernel)
theorem pr16:Prim 24809 6:=luT [2,2,2,7,443] (by decide +kernel) (by decide +kernel) (aC pr0.1 (aC pr0.1 (aC pr0.1 (aC pr2.1 (aC pr11.1 all0))))) (by decide +kernel) (by decide +kernel)
theorem pr17:Prim 97 5:=luT [2,2,2,2,2,3] (by decide +kernel) (by decide +kernel) (aC pr0.1 (aC pr0.1 (aC pr0.1 (aC pr0.1 (aC pr0.1 (aC pr1.1 all0)))))) (by decide +kernel) (by decide +kernel)
theorem pr18:Prim 971 6:=luT [2,5,97] (by decide +kernel) (by decide +kernel) (aC pr0.1 (aC pr3.1 (aC pr17.1 all0))) (by decide +kernel) (by decide +kernel)
theorem pr19:Prim 1373 2:=luT [2,2,7,7,7] (by decide +kernel) (by decide +kernel) (aC pr0.1 (aC pr0.1 (aC pr2.1 (aC pr2.1 (aC pr2.1 all0))))) (by decide +kernel) (by decide +kernel)
theorem pr20:Prim 13331831 13:=luT [2,5,971,1373] (by decide +kernel) (by decide +kernel) (aC pr0.1 (aC pr3.1 (aC pr18.1 (aC pr19.1 all0)))) (by decide +kernel) (by decide +kernel)
theorem pr21:Prim 173378833005251801 6:=luT [2,2,2,5,5,2621,24809,13331831] (by decide +kernel) (by decide +kernel) (aC pr0.1 (aC pr0.1 (aC pr0.1 (aC pr3.1 (aC pr3.1 (aC pr15.1 (aC pr16.1 (aC pr20.1 all0)))))))) (by decide +kernel) (by decide +kernel)
theorem pr22:Prim 22149492674086928081353 5:=luT [2,2,2,3,5323,173378833005251801] (by decide +kernel) (by decide +kernel) (aC pr0.1 (aC pr0.1 (aC pr0.1 (aC pr1.1 (aC pr13.1 (aC pr21.1 all0)))))) (by decide +kernel) (by decide +kernel)
theorem pr23:Prim 132896956044521568488119 6:=luT [2,3,22149492674086928081353] (by decide +kernel) (by decide +kernel) (aC pr0.1 (aC pr1.1 (aC pr22.1 all0))) (by decide +kernel) (by decide +kernel)
theorem pr24:Prim 271 6:=luT [2,3,3,3,5] (by decide +kernel) (by decide +kernel) (aC pr0.1 (aC pr1.1 (aC pr1.1 (aC pr1.1 (aC pr3.1 all0))))) (by decide +kernel) (by decide +kernel)
theorem pr25:Prim 1627 3:=luT [2,3,271] (by decide +kernel) (by decide +kernel) (aC pr0.1 (aC pr1.1 (aC pr24.1 all0))) (by decide +kernel) (by decide +kernel)
theorem pr26:Prim 41 6:=luT [2,2,2,5] (by decide +kernel) (by decide +kernel) (aC pr0.1 (aC pr0.1 (aC pr0.1 (aC pr3.1 all0)))) (by decide +kernel) (by decide +kernel)
theorem pr27:Prim 83 2:=luT [2,41] (by decide +kernel) (by decide +kernel) (aC pr0.1 (aC pr26.1 all0)) (by decide +kernel) (by decide +kernel)
theorem pr28:Prim 2657 3:=luT [2,2,2,2,2,83] (by decide +kernel) (by decide +kernel) (aC pr0.1 (aC pr0.1 (aC pr0.1 (aC pr0.1 (aC pr0.1 (aC pr27.1 all0)))))) (by decide +kernel) (by decide +kernel)
theorem pr29:Prim 67 2:=luT [2,3,11] (by decide +kernel) (by decide +kernel) (aC pr0.1 (aC pr1.1 (aC pr7.1 all0))) (by decide +kernel) (by decide +kernel)
theorem pr30:Prim 4423 3:=luT [2,3,11,67] (by decide +kernel) (by decide +kernel) (aC pr0.1 (aC pr1.1 (aC pr7.1 (aC pr29.1 all0)))) (by decide +kernel) (by decide +kernel)
theorem pr31:Prim 103 5:=luT [2,3,17] (by decide +kernel) (by decide +kernel) (aC pr0.1 (aC pr1.1 (aC pr10.1 all0))) (by decide +kernel) (by decide +kernel)
theorem pr32:Prim 41201 3:=luT [2,2,2,2,5,5,103] (by decide +kernel) (by decide +kernel) (aC pr0.1 (aC pr0.1 (aC pr0.1 (aC pr0.1 (aC pr3.1 (aC pr3.1 (aC pr31.1 all0))))))) (by decide +kernel) (by decide +kernel)
theorem pr33:Prim 101 2:=luT [2,2,5,5] (by decide +kernel) (by decide +kernel) (aC pr0.1 (aC pr0.1 (aC pr3.1 (aC pr3.1 all0)))) (by decide +kernel) (by decide +kernel)
theorem pr34:Prim 239 7:=luT [2,7,17] (by decide +kernel) (by decide +kernel) (aC pr0.1 (aC pr2.1 (aC pr10.1 all0))) (by decide +kernel) (by decide +kernel)
theorem pr35:Prim 96557 2:=luT [2,2,101,239] (by decide +kernel) (by decide +kernel) (aC pr0.1 (aC pr0.1 (aC pr33.1 (aC pr34.1 all0)))) (by decide +kernel) (by decide +kernel)
theorem pr36:Prim 19 2:=luT [2,3,3] (by decide +kernel) (by decide +kernel) (aC pr0.1 (aC pr1.1 (aC pr1.1 all0))) (by decide +kernel) (by decide +kernel)
theorem pr37:Prim 419 2:=luT [2,11,19] (by decide +kernel) (by decide +kernel) (aC pr0.1 (aC pr7.1 (aC pr36.1 all0))) (by decide +kernel) (by decide +kernel)
theorem pr38:Prim 20113 10:=luT [2,2,2,2,3,419] (by decide +kernel) (by decide +kernel) (aC pr0.1 (aC pr0.1 (aC pr0.1 (aC pr0.1 (aC pr1.1 (aC pr37.1 all0)))))) (by decide +kernel) (by decide +kernel)
theorem pr39:Prim 1206781 10:=luT [2,2,3,5,20113] (by decide +kernel) (by decide +kernel) (aC pr0.1 (aC pr0.1 (aC pr1.1 (aC pr3.1 (aC pr38.1 all0))))) (by decide +kernel) (by decide +kernel)
theorem pr40:Prim 7240687 3:=luT [2,3,1206781] (by decide +kernel) (by decide +kernel) (aC pr0.1 (aC pr1.1 (aC pr39.1 all0))) (by decide +kernel) (by decide +kernel)
theorem pr41:Prim 53 2:=luT [2,2,13] (by decide +kernel) (by decide +kernel) (aC pr0.1 (aC pr0.1 (aC pr8.1 all0))) (by decide +kernel) (by decide +kernel)
theorem pr42:Prim 107590001 3:=luT [2,2,2,2,5,5,5,5,7,29,53] (by decide +kernel) (by decide +kernel) (aC pr0.1 (aC pr0.1 (aC pr0.1 (aC pr0.1 (aC pr3.1 (aC pr3.1 (aC pr3.1 (aC pr3.1 (aC pr2.1 (aC pr5.1 (aC pr41.1 all0))))))))))) (by decide +kernel) (by decide +kernel)
theorem pr43:Prim 255515944373312847190720520512484175977 3:=luT [2,2,2,7,7,11,1627,2657,4423,41201,96557,7240687,107590001] (by decide +kernel) (by decide +kernel) (aC pr0.1 (aC pr0.1 (aC pr0.1 (aC pr2.1 (aC pr2.1 (aC pr7.1 (aC pr25.1 (aC pr28.1 (aC pr30.1 (aC pr32.1 (aC pr35.1 (aC pr40.1 (aC pr42.1 all0))))))))))))) (by decide +kernel) (by decide +kernel)
theorem pr44:Prim 205115282021455665897114700593932402728804164701536103180137503955397371 10:=luT [2,3,5,29,29,31,7723,132896956044521568488119,255515944373312847190720520512484175977] (by decide +kernel) (by decide +kernel) (aC pr0.1 (aC pr1.1 (aC pr3.1 (aC pr5.1 (aC pr5.1 (aC pr6.1 (aC pr9.1 (aC pr23.1 (aC pr43.1 all0))))))))) (by decide +kernel) (by decide +kernel)
theorem pr45:Prim 115792089237316195423570985008687907853269984665640564039457584007908834671663 3:=luT [2,3,7,13441,205115282021455665897114700593932402728804164701536103180137503955397371] (by decide +kernel) (by decide +kernel) (aC pr0.1 (aC pr1.1 (aC pr2.1 (aC pr4.1 (aC pr44.1 all0))))) (by decide +kernel) (by decide +kernel)
theorem pr46:Prim 37 2:=luT [2,2,3,3] (by decide +kernel) (by decide +kernel) (aC pr0.1 (aC pr0.1 (aC pr1.1 (aC pr1.1 all0)))) (by decide +kernel) (by decide +kernel)
theorem pr47:Prim 149 2:=luT [2,2,37] (by decide +kernel) (by decide +kernel) (aC pr0.1 (aC pr0.1 (aC pr46.1 all0))) (by decide +kernel) (by decide +kernel)
theorem pr48:Prim 631 3:=luT [2,3,3,5,7] (by decide +kernel) (by decide +kernel) (aC pr0.1 (aC pr1.1 (aC pr1.1 (aC pr3.1 (aC pr2.1 all0))))) (by decide +kernel) (by decide +kernel)
theorem pr49:Prim 23 5:=luT [2,11] (by decide +kernel) (by decide +kernel) (aC pr0.1 (aC pr7.1 all0)) (by decide +kernel) (by decide +kernel)
theorem pr50:Prim 16699 3:=luT [2,3,11,11,23] (by decide +kernel) (by decide +kernel) (aC pr0.1 (aC pr1.1 (aC pr7.1 (aC pr7.1 (aC pr49.1 all0))))) (by decide +kernel) (by decide +kernel)
theorem pr51:Prim 2861 2:=luT [2,2,5,11,13] (by decide +kernel) (by decide +kernel) (aC pr0.1 (aC pr0.1 (aC pr3.1 (aC pr7.1 (aC pr8.1 all0))))) (by decide +kernel) (by decide +kernel)
theorem pr52:Prim 85831 3:=luT [2,3,5,2861] (by decide +kernel) (by decide +kernel) (aC pr0.1 (aC pr1.1 (aC pr3.1 (aC pr51.1 all0)))) (by decide +kernel) (by decide +kernel)
theorem pr53:Prim 2011 3:=luT [2,3,5,67] (by decide +kernel) (by decide +kernel) (aC pr0.1 (aC pr1.1 (aC pr3.1 (aC pr29.1 all0)))) (by decide +kernel) (by decide +kernel)
theorem pr54:Prim 4681609 23:=luT [2,2,2,3,97,2011] (by decide +kernel) (by decide +kernel) (aC pr0.1 (aC pr0.1 (aC pr0.1 (aC pr1.1 (aC pr17.1 (aC pr53.1 all0)))))) (by decide +kernel) (by decide +kernel)
theorem pr55:Prim 107361793816595537 3:=luT [2,2,2,2,16699,85831,4681609] (by decide +kernel) (by decide +kernel) (aC pr0.1 (aC pr0.1 (aC pr0.1 (aC pr0.1 (aC pr50.1 (aC pr52.1 (aC pr54.1 all0))))))) (by decide +kernel) (by decide +kernel)
theorem pr56:Prim 59 2:=luT [2,29] (by decide +kernel) (by decide +kernel) (aC pr0.1 (aC pr5.1 all0)) (by decide +kernel) (by decide +kernel)
theorem pr57:Prim 4051 10:=luT [2,3,3,3,3,5,5] (by decide +kernel) (by decide +kernel) (aC pr0.1 (aC pr1.1 (aC pr1.1 (aC pr1.1 (aC pr1.1 (aC pr3.1 (aC pr3.1 all0))))))) (by decide +kernel) (by decide +kernel)
theorem pr58:Prim 113 3:=luT [2,2,2,2,7] (by decide +kernel) (by decide +kernel) (aC pr0.1 (aC pr0.1 (aC pr0.1 (aC pr0.1 (aC pr2.1 all0))))) (by decide +kernel) (by decide +kernel)
theorem pr59:Prim 120233 3:=luT [2,2,2,7,19,113] (by decide +kernel) (by decide +kernel) (aC pr0.1 (aC pr0.1 (aC pr0.1 (aC pr2.1 (aC pr36.1 (aC pr58.1 all0)))))) (by decide +kernel) (by decide +kernel)
theorem pr60:Prim 199 3:=luT [2,3,3,11] (by decide +kernel) (by decide +kernel) (aC pr0.1 (aC pr1.1 (aC pr1.1 (aC pr7.1 all0)))) (by decide +kernel) (by decide +kernel)
theorem pr61:Prim 797 2:=luT [2,2,199] (by decide +kernel) (by decide +kernel) (aC pr0.1 (aC pr0.1 (aC pr60.1 all0))) (by decide +kernel) (by decide +kernel)
theorem pr62:Prim 9349 2:=luT [2,2,3,19,41] (by decide +kernel) (by decide +kernel) (aC pr0.1 (aC pr0.1 (aC pr1.1 (aC pr36.1 (aC pr26.1 all0))))) (by decide +kernel) (by decide +kernel)
theorem pr63:Prim 44706919 6:=luT [2,3,797,9349] (by decide +kernel) (by decide +kernel) (aC pr0.1 (aC pr1.1 (aC pr61.1 (aC pr62.1 all0)))) (by decide +kernel) (by decide +kernel)
theorem pr64:Prim 174723607534414371449 3:=luT [2,2,2,17,59,4051,120233,44706919] (by decide +kernel) (by decide +kernel) (aC pr0.1 (aC pr0.1 (aC pr0.1 (aC pr10.1 (aC pr56.1 (aC pr57.1 (aC pr59.1 (aC pr63.1 all0)))))))) (by decide +kernel) (by decide +kernel)
theorem pr65:Prim 109 6:=luT [2,2,3,3,3] (by decide +kernel) (by decide +kernel) (aC pr0.1 (aC pr0.1 (aC pr1.1 (aC pr1.1 (aC pr1.1 all0))))) (by decide +kernel) (by decide +kernel)
theorem pr66:Prim 73 5:=luT [2,2,2,3,3] (by decide +kernel) (by decide +kernel) (aC pr0.1 (aC pr0.1 (aC pr0.1 (aC pr1.1 (aC pr1.1 all0))))) (by decide +kernel) (by decide +kernel)
theorem pr67:Prim 293 2:=luT [2,2,73] (by decide +kernel) (by decide +kernel) (aC pr0.1 (aC pr0.1 (aC pr66.1 all0))) (by decide +kernel) (by decide +kernel)
theorem pr68:Prim 2731 3:=luT [2,3,5,7,13] (by decide +kernel) (by decide +kernel) (aC pr0.1 (aC pr1.1 (aC pr3.1 (aC pr2.1 (aC pr8.1 all0))))) (by decide +kernel) (by decide +kernel)
theorem pr69:Prim 305873 3:=luT [2,2,2,2,7,2731] (by decide +kernel) (by decide +kernel) (aC pr0.1 (aC pr0.1 (aC pr0.1 (aC pr0.1 (aC pr2.1 (aC pr68.1 all0)))))) (by decide +kernel) (by decide +kernel)
theorem pr70:Prim 1409 3:=luT [2,2,2,2,2,2,2,11] (by decide +kernel) (by decide +kernel) (aC pr0.1 (aC pr0.1 (aC pr0.1 (aC pr0.1 (aC pr0.1 (aC pr0.1 (aC pr0.1 (aC pr7.1 all0)))))))) (by decide +kernel) (by decide +kernel)
theorem pr71:Prim 28181 2:=luT [2,2,5,1409] (by decide +kernel) (by decide +kernel) (aC pr0.1 (aC pr0.1 (aC pr3.1 (aC pr70.1 all0)))) (by decide +kernel) (by decide +kernel)
theorem pr72:Prim 545358713 5:=luT [2,2,2,41,59,28181] (by decide +kernel) (by decide +kernel) (aC pr0.1 (aC pr0.1 (aC pr0.1 (aC pr26.1 (aC pr56.1 (aC pr71.1 all0)))))) (by decide +kernel) (by decide +kernel)
theorem pr73:Prim 461 2:=luT [2,2,5,23] (by decide +kernel) (by decide +kernel) (aC pr0.1 (aC pr0.1 (aC pr3.1 (aC pr49.1 all0)))) (by decide +kernel) (by decide +kernel)
theorem pr74:Prim 1871 14:=luT [2,5,11,17] (by decide +kernel) (by decide +kernel) (aC pr0.1 (aC pr3.1 (aC pr7.1 (aC pr10.1 all0)))) (by decide +kernel) (by decide +kernel)
theorem pr75:Prim 1627771 3:=luT [2,3,5,29,1871] (by decide +kernel) (by decide +kernel) (aC pr0.1 (aC pr1.1 (aC pr3.1 (aC pr5.1 (aC pr74.1 all0))))) (by decide +kernel) (by decide +kernel)
theorem pr76:Prim 297159362677 2:=luT [2,2,3,3,11,461,1627771] (by decide +kernel) (by decide +kernel) (aC pr0.1 (aC pr0.1 (aC pr1.1 (aC pr1.1 (aC pr7.1 (aC pr73.1 (aC pr75.1 all0))))))) (by decide +kernel) (by decide +kernel)
theorem pr77:Prim 29047611873442575647497758179 2:=luT [2,293,305873,545358713,297159362677] (by decide +kernel) (by decide +kernel) (aC pr0.1 (aC pr67.1 (aC pr69.1 (aC pr72.1 (aC pr76.1 all0))))) (by decide +kernel) (by decide +kernel)
theorem pr78:Prim 341948486974166000522343609283189 2:=luT [2,2,3,3,3,109,29047611873442575647497758179] (by decide +kernel) (by decide +kernel) (aC pr0.1 (aC pr0.1 (aC pr1.1 (aC pr1.1 (aC pr1.1 (aC pr65.1 (aC pr77.1 all0))))))) (by decide +kernel) (by decide +kernel)
theorem pr79:Prim 115792089237316195423570985008687907852837564279074904382605163141518161494337 7:=luT [2,2,2,2,2,2,3,149,631,107361793816595537,174723607534414371449,341948486974166000522343609283189] (by decide +kernel) (by decide +kernel) (aC pr0.1 (aC pr0.1 (aC pr0.1 (aC pr0.1 (aC pr0.1 (aC pr0.1 (aC pr1.1 (aC pr47.1 (aC pr48.1 (aC pr55.1 (aC pr64.1 (aC pr78.1 all0)))))))))))) (by decide +kernel) (by decide +kernel)
end
end Go.Proofs.YtfhppenjbmmadaaGreatDoor
