import Derived.Test.YtfhppenjbmmadaaGreatDoorXmM38
import Derived.Test.YtfhppenjbmmadaaGreatDoorXmM40
import Derived.Test.YtfhppenjbmmadaaGreatDoorXmM15
import Derived.Test.YtfhppenjbmmadaaGreatDoorXmM17
namespace Go.Proofs.YtfhppenjbmmadaaGreatDoor
set_option linter.unusedVariables false
set_option maxHeartbeats 8000000
section
open Go.RowKit Go.Sort
theorem on_ne:On≠0:=by decide +kernel
theorem On_prim:Prim On 7:=pr79
theorem On_fermat{a:Nat}(ha:¬ On∣a):a^(On-1)%On=1:=fermat On_prim.1 On_prim.2.1 On_prim.2.2 ha
def ivN (a:Nat):Nat:=if On∣a then 0 else a^(On-2)%On
theorem ivN_lt(a:Nat):ivN a<On:=by
 unfold ivN
 split
 ·exact Nat.lt_trans Nat.zero_lt_one On_pos
 ·exact Nat.mod_lt _ (Nat.lt_trans Nat.zero_lt_one On_pos)
theorem ivN_mul{a:Nat}(h:¬ On∣a):a*ivN a%On=1:=by
 unfold ivN
 rw[if_neg h,Nat.mul_mod_mod,← Nat.pow_succ',Nat.succ_eq_add_one,show (On-2)+1=On-1 by have:=On_pos;omega]
 exact On_fermat h
theorem IV_ivN(a:Nat):IV a On (ivN a) (decide (¬ On∣a)):=by
 by_cases h:On∣a
 ·have e:ivN a=0:=by unfold ivN;rw[if_pos h]
  rw[e,decide_eq_false (fun q=>q h)]
  refine IV.none fun hg=>?_
  have hd:On∣Nat.gcd On a:=Nat.dvd_gcd (Nat.dvd_refl _) h
  rw[hg] at hd
  have:=Nat.le_of_dvd (by decide) hd
  have:=On_pos
  omega
 ·rw[decide_eq_true h]
  exact ⟨fun _=>⟨On_pos,ivN_lt a,ivN_mul h⟩,fun q=>by cases q⟩
section
variable [NeZero On]
def co (c:Nat):Fin On:=Fin.ofNat On c
theorem co_mod(c:Nat):co (c%On)=co c:=by unfold co;apply Fin.ext;simp[Fin.ofNat]
theorem co_add(a b:Nat):co (a+b)=co a+co b:=by unfold co;apply Fin.ext;simp[Fin.ofNat,Fin.add_def]
theorem co_mul(a b:Nat):co (a*b)=co a*co b:=by unfold co;apply Fin.ext;simp[Fin.ofNat,Fin.mul_def,Nat.mul_mod]
theorem co_zero:co 0=0:=by unfold co;apply Fin.ext;simp[Fin.ofNat]
theorem co_one:co 1=1:=by unfold co;rfl
theorem co_eq{a b:Nat}(h:co a=co b):a%On=b%On:=by
 have:=congrArg Fin.val h
 simpa [co,Fin.ofNat] using this
theorem co_of{a b:Nat}(h:a%On=b%On):co a=co b:=by rw[← co_mod a,← co_mod b,h]
theorem co_dvd{a:Nat}(h:co a=0):On∣a:=by
 rw[← co_zero] at h
 have:=co_eq h
 rw[Nat.zero_mod] at this
 exact Nat.dvd_of_mod_eq_zero this
theorem dvd_co{a:Nat}(h:On∣a):co a=0:=by
 rw[← co_zero]
 exact co_of (by rw[Nat.mod_eq_zero_of_dvd h,Nat.zero_mod])
theorem co_neg{a:Nat}(h:a≤On):co (On-a) = - co a:=by
 have h1:co (On-a)+co a=0:=by rw[← co_add,Nat.sub_add_cancel h];exact dvd_co (Nat.dvd_refl _)
 grind
theorem co_iv{a:Nat}(h:co a≠0):co (ivN a)*co a=1:=by
 have h1:=ivN_mul (a:=a) (fun hd=>h (dvd_co hd))
 have h2:co (a*ivN a)=co 1:=co_of (by rw[h1,Nat.mod_eq_of_lt On_pos])
 rw[co_mul,co_one] at h2
 grind
theorem co_fit{a:Nat}(h:fitB a=true):co a≠0:=fun h0=>by
 obtain ⟨h1,h2⟩:=fit_lt h
 have:=Nat.le_of_dvd h1 (co_dvd h0)
 omega
theorem rec_co{s m e r d i:Fin On}(hi:i*r=1)(hs:s*m=e+r*d):s*i*m + - e*i=d:=by grind
theorem co_negm(e:Nat):co (On-e%On) = - co e:=by
 rw[co_neg (Nat.le_of_lt (Nat.mod_lt _ (Nat.lt_trans Nat.zero_lt_one On_pos))),co_mod]
end
section
variable [NeZero Pp]
def recP (L:Pt) (r q e:Nat):Pt:=padd ivF (mulP (q*ivN r%On) L) (mulP ((On-e%On)*ivN r%On) Gp')
end
section
variable [NeZero On] [NeZero Pp]
theorem mulP_co{P:Pt}(hP:onP P){a b:Nat}(h:co a=co b):mulP a P=mulP b P:=by
 rw[← mulP_mod hP (all_order hP) a,← mulP_mod hP (all_order hP) b,co_eq h]
theorem recP_key{m r q d e:Nat}(hr:co r≠0)(hs:co q*co m=co e+co r*co d):recP (mulP m Gp') r q e=mulP d Gp':=by
 unfold recP
 rw[← mulP_mul G_on,← mulP_add G_on]
 refine mulP_co G_on ?_
 rw[co_add,co_mul,co_mod,co_mod,co_mul,co_mul,co_negm]
 exact rec_co (co_iv hr) hs
end
end
section
open Go.RowKit Go.Sort
theorem On0:0<On:=Nat.lt_trans Nat.zero_lt_one On_pos
theorem mod_W(x:Nat):x%On<W:=Nat.lt_trans (Nat.mod_lt _ On0) On_W
theorem minv_any(a:Nat)(ha:a<W):Ds 100 #[U a,U On] (.tuple #[U (ivN a),.bool (decide (¬ On∣a))]):=fun w=>
 (inv_any a On ha On_W w).mono fun e w' h=>by
  obtain ⟨⟨x,ok,h1,h2,h3⟩,hb⟩:=h
  obtain ⟨rfl,rfl⟩:=h1.unique (IV_ivN a)
  exact ⟨h3,hb⟩
theorem rminv_any(a:Nat)(ha:a<W):Ds 40 #[U a,U On] (.tuple #[U (ivN a),.bool (decide (¬ On∣a))]):=fun w=>
 (rinv_any a On ha On_W w).mono fun e w' h=>by
  obtain ⟨⟨x,ok,h1,h2,h3⟩,hb⟩:=h
  obtain ⟨rfl,rfl⟩:=h1.unique (IV_ivN a)
  exact ⟨h3,hb⟩
theorem madd_any(a b:Nat)(ha:a<W)(hb:b<W):Ds 143 #[U a,U b,U On] (U ((a+b)%On)):=by
 have h:=fun w=>addmod_any a b On ha hb On_W w
 rw[rm_pos _ On0] at h
 exact h
theorem mmul_any(a b:Nat)(ha:a<W)(hb:b<W):Ds 105 #[U a,U b,U On] (U (a*b%On)):=by
 have h:=fun w=>mulmod_any a b On ha hb On_W w
 rw[rm_pos _ On0] at h
 exact h
theorem rmadd_any(a b:Nat)(ha:a<W)(hb:b<W):Ds 34 #[U a,U b,U On] (U ((a+b)%On)):=by
 have h:=fun w=>raddmod_any a b On ha hb On_W w
 rw[rm_pos _ On0] at h
 exact h
theorem rmmul_any(a b:Nat)(ha:a<W)(hb:b<W):Ds 86 #[U a,U b,U On] (U (a*b%On)):=by
 have h:=fun w=>rmulmod_any a b On ha hb On_W w
 rw[rm_pos _ On0] at h
 exact h
theorem splus_any(a b:Nat)(ha:a<W)(hb:b<W):Ds 111 #[U a,U b] (U ((a+b)%On)):=fun w=>splus_raw a b On _ order_any (madd_any a b ha hb) w
theorem stimes_any(a b:Nat)(ha:a<W)(hb:b<W):Ds 55 #[U a,U b] (U (a*b%On)):=fun w=>stimes_raw a b On _ order_any (mmul_any a b ha hb) w
theorem rstimes_any(a b:Nat)(ha:a<W)(hb:b<W):Ds 41 #[U a,U b] (U (a*b%On)):=fun w=>rstimes_raw a b On _ rorder_any (rmmul_any a b ha hb) w
theorem of_0:Ds 66 #[.int .u64 0] (U 0):=fun w=>of_any 0 (by decide) w
theorem byOrder_any(a:Nat)(ha:a<W):Ds 62 #[U a] (U (a%On)):=by
 have h:=splus_any a 0 ha zero_lt_W
 rw[Nat.add_zero] at h
 exact fun w=>byOrder_raw a 0 _ of_0 h w
theorem sneg_any(a:Nat)(ha:a<W):Ds 56 #[U a] (U (On-a%On)):=by
 have h:Ds 106 #[U On,U (a%On)] (.tuple #[U (subW On (a%On)),.bool (unW On (a%On))]):=fun w=>sub_any On (a%On) On_W (mod_W a) w
 have e:subW On (a%On)=On-a%On:=by
  unfold subW
  rw[show On+W-a%On=(On-a%On)+W by have:=Nat.mod_lt a On0;omega,Nat.add_mod_right]
  exact Nat.mod_eq_of_lt (Nat.lt_of_le_of_lt (Nat.sub_le _ _) On_W)
 rw[e] at h
 exact fun w=>sneg_raw a _ On _ _ order_any (byOrder_any a ha) h w
theorem neg_W(x:Nat):On-x<W:=Nat.lt_of_le_of_lt (Nat.sub_le _ _) On_W
theorem iv_W(x:Nat):ivN x<W:=Nat.lt_trans (ivN_lt x) On_W
theorem sinv_any(a:Nat)(ha:a<W):Ds 53 #[U a] (U (ivN a)):=fun w=>sinv_raw a On _ _ order_any (minv_any a ha) w
def hO:Nat:=On/2
theorem hO_eq:shrW On 1=hO:=by decide +kernel
theorem hO_W:hO<W:=by decide +kernel
theorem On_hO:On=2*hO+1:=by decide +kernel
theorem shalf_any:Ds 94 #[] (U hO):=by
 have h:Ds 122 #[U On,.int .u64 1] (U (shrW On 1)):=fun w=>shr_any On 1 On_W w
 rw[hO_eq] at h
 exact fun w=>shalf_raw On _ order_any h w
theorem rshalf_any:Ds 43 #[] (U hO):=by
 have h:Ds 87 #[U On,.int .u64 1] (U (shrW On 1)):=fun w=>rshr_any On 1 On_W w
 rw[hO_eq] at h
 exact fun w=>rshalf_raw On _ rorder_any h w
theorem inside_any(a:Nat)(ha:a<W):Ds 70 #[U a] (.bool (fitB a)):=fun w=>inside_raw a _ (fit_any a ha) w
theorem sodd_any(x:Nat):Ds 72 #[U x] (.bool (decide (x%2=1))):=fun w=>sodd_raw x _ _ (odd_bits x) (odd_eq x) w
theorem cmp_le(a b:Nat):decide (cmpN a b≤0)=decide (a≤b):=by
 unfold cmpN
 by_cases h1:a<b
 ·simp[h1];omega
 ·by_cases h2:b<a
  ·simp[h1,h2]
  ·simp[h1,h2];omega
theorem cmp_le_iff(a b:Nat):cmpN a b≤0↔a≤b:=by
 have:=cmp_le a b
 simpa using this
def sfitB (r s:Nat):Bool:=fitB r&&(fitB s&&decide (s≤hO))
theorem sfit_any(r s:Nat)(o:Bool)(hr:r<W)(hs:s<W):Ds 51 #[A9 r s o] (.bool (sfitB r s)):=by
 have h1:=inside_any r hr
 have h2:=inside_any s hs
 have hC:Ds 93 #[U s,U hO] (.int .i64 (cmpN s hO)):=fun w=>cmp_any s hO hs hO_W w
 unfold sfitB
 cases e1:fitB r with
 | false=>rw[e1] at h1;exact fun w=>sfit_r r s o h1 w
 | true=>
  cases e2:fitB s with
  | false=>rw[e1] at h1;rw[e2] at h2;exact fun w=>sfit_s r s o h1 h2 w
  | true=>rw[e1] at h1;rw[e2] at h2;exact fun w=>sfit_c r s hO o _ _ (cmp_le s hO) h1 h2 shalf_any hC w
def shN (e d k r:Nat):Nat:=ivN k*((e+r*d%On)%On)%On
theorem share_any(e d k r:Nat)(he:e<W)(hd:d<W)(hk:k<W)(hr:r<W):Ds 69 #[U e,U d,U k,U r] (U (shN e d k r)):=fun w=>
 share_raw e d k r _ _ _ _ (sinv_any k hk) (stimes_any r d hr hd) (splus_any e _ he (mod_W _)) (stimes_any _ _ (iv_W k) (mod_W _)) w
def lowS (s:Nat):Nat:=if s≤hO then s else On-s
def lowO (s:Nat) (o:Bool):Bool:=if s≤hO then o else !o
theorem lowered_any(r s:Nat)(o:Bool)(hs:s<On):Ds 71 #[A9 r s o] (A9 r (lowS s) (lowO s o)):=by
 have hC:Ds 93 #[U s,U hO] (.int .i64 (cmpN s hO)):=fun w=>cmp_any s hO (Nat.lt_trans hs On_W) hO_W w
 unfold lowS lowO
 by_cases h:s≤hO
 ·rw[if_pos h,if_pos h]
  exact fun w=>lowered_low r s hO 0 o _ ((cmp_le_iff _ _).2 h) shalf_any hC w
 ·rw[if_neg h,if_neg h]
  have hN:=sneg_any s (Nat.lt_trans hs On_W)
  rw[Nat.mod_eq_of_lt hs] at hN
  exact fun w=>lowered_high r s hO _ o _ (fun q=>h ((cmp_le_iff _ _).1 q)) shalf_any hC hN w
abbrev nD (s:ByteArray):Nat:=rdN s s.size
theorem nD_W(s:ByteArray)(h:s.size=32):nD s<W:=rd_ltW s s.size (by omega)
theorem snum_any(s:ByteArray)(h:s.size=32):Ds 30 #[.string s] (.tuple #[U (nD s),.int .i64 0]):=fun w=>
 number_yes s _ (by rw[h];rfl) (fun w=>read_any s (by omega) w) w
theorem snum_err(s:ByteArray)(h:¬ s.size=32):Ds 30 #[.string s] (.tuple #[U 0,.int .i64 2]):=fun w=>
 number_no s _ rfl (by omega) w
theorem rnumber_any(s:ByteArray)(h:s.size=32):Ds 35 #[.string s] (U (nD s)):=fun w=>
 rnumber_raw s _ 0 (fun w=>rread_any s (by omega) w) w
section
variable [NeZero Pp]
theorem lift_ex{x:Nat}{odd:Bool}(h:isR x=true):∃ (hx:x<Pp) (y:Fin Pp),liftX x=x∧liftY x odd=y.val∧y*y=(⟨x,hx⟩:Fin Pp)*⟨x,hx⟩*⟨x,hx⟩+7:=by
 obtain ⟨hx,e1,e2,oL⟩:=lift_on (odd:=odd) h
 generalize liftF ⟨x,hx⟩ odd=y at *
 exact ⟨hx,y,e1,e2,oL⟩
def liP (r:Nat) (o:Bool):Pt:=some (cf r,cf (liftY r o))
theorem cf_lt{x:Nat}(hx:x<Pp):cf x=(⟨x,hx⟩:Fin Pp):=cf_val ⟨x,hx⟩
theorem liP_on{r:Nat}{o:Bool}(h:isR r=true):onP (liP r o)∧vP (liP r o)=A9 (liftX r) (liftY r o) false:=by
 obtain ⟨hx,y,h1,h2,h3⟩:=lift_ex (odd:=o) h
 have e:liP r o=some (⟨r,hx⟩,y):=by unfold liP;rw[h2,cf_val,cf_lt hx]
 rw[e,h1,h2,vP_eq]
 exact ⟨h3,rfl⟩
def reE (s:ByteArray) (r q:Nat) (o:Bool):Int:=if s.size=32 then (if sfitB r q=true then (if isR r=true then (if pN (recP (liP r o) r q (nD s))=true then 4 else 0) else 4) else 4) else 2
def reX (s:ByteArray) (r q:Nat) (o:Bool):Nat:=if reE s r q o=0 then pX (recP (liP r o) r q (nD s)) else 0
def reY (s:ByteArray) (r q:Nat) (o:Bool):Nat:=if reE s r q o=0 then pY (recP (liP r o) r q (nD s)) else 0
theorem recover_any(s:ByteArray)(r q:Nat)(o:Bool)(hr:r<W)(hq:q<W):Ds 16 #[.string s,A9 r q o] (.tuple #[A9 (reX s r q o) (reY s r q o) false,.int .i64 (reE s r q o)]):=by
 unfold reX reY
 generalize he:reE s r q o=ev
 unfold reE at he
 have hF:=sfit_any r q o hr hq
 have hL:=lift_any r o hr
 by_cases h1:s.size=32
 ·rw[if_pos h1] at he
  have hN:=snum_any s h1
  cases h2:sfitB r q with
  | false=>
   rw[h2] at hF he
   rw[if_neg (by simp)] at he
   subst he
   exact fun w=>recover_b s r q (nD s) o hN hF w
  | true=>
   rw[h2] at hF he
   rw[if_pos rfl] at he
   cases h3:isR r with
   | false=>
    rw[h3] at he hL
    rw[if_neg (by simp)] at he
    subst he
    exact fun w=>recover_c s r q (nD s) o _ _ _ hN hF hL w
   | true=>
    rw[h3] at he hL
    rw[if_pos rfl] at he
    obtain ⟨p1,p2⟩:=liP_on (o:=o) h3
    have hS:=csum_any p1 G_on (q*ivN r%On) ((On-nD s%On)*ivN r%On) (mod_W _) (mod_W _)
    rw[p2,vG,show padd ivF (mulP (q*ivN r%On) (liP r o)) (mulP ((On-nD s%On)*ivN r%On) Gp')=recP (liP r o) r q (nD s) from rfl,vP_eq] at hS
    cases h4:pN (recP (liP r o) r q (nD s)) with
    | true=>
     rw[h4] at he hS
     rw[if_pos rfl] at he
     subst he
     exact fun w=>recover_d s r q (nD s) o _ _ _ _ _ _ Gx Gy _ _ false false hN hF hL (sinv_any r hr) (stimes_any q _ hq (iv_W r)) (sneg_any _ (nD_W s h1)) (stimes_any _ _ (neg_W _) (iv_W r)) base_any hS w
    | false=>
     rw[h4] at he hS
     rw[if_neg (by simp)] at he
     subst he
     exact fun w=>recover_e s r q (nD s) o _ _ _ _ _ _ Gx Gy _ _ false false hN hF hL (sinv_any r hr) (stimes_any q _ hq (iv_W r)) (sneg_any _ (nD_W s h1)) (stimes_any _ _ (neg_W _) (iv_W r)) base_any hS w
 ·rw[if_neg h1] at he
  subst he
  exact fun w=>recover_a s r q o (snum_err s h1) w
def whoT (s:ByteArray) (r q:Nat) (o:Bool):ByteArray:=if reE s r q o=0 then adr (reX s r q o) (reY s r q o) false else { data:=#[] }
theorem swho_any(s:ByteArray)(r q:Nat)(o:Bool)(hr:r<W)(hq:q<W):DoesT 18 #[.string s,A9 r q o] (.tuple #[.string (whoT s r q o),.int .i64 (reE s r q o)]):=by
 have hR:=recover_any s r q o hr hq
 unfold whoT
 by_cases h:reE s r q o=0
 ·rw[if_pos h]
  rw[h] at hR ⊢
  exact fun w ht=>swho_yes s r q o _ _ _ _ hR (addr_any _ _ _) w ht
 ·rw[if_neg h]
  exact fun w ht=>swho_no s r q o _ _ _ _ h hR w ht
end
end
end Go.Proofs.YtfhppenjbmmadaaGreatDoor
