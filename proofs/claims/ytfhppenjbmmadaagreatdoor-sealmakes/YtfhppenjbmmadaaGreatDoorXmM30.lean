import Derived.Test.YtfhppenjbmmadaaGreatDoorXmM26
import Derived.Test.YtfhppenjbmmadaaGreatDoorXmM29
import Derived.Test.YtfhppenjbmmadaaGreatDoorXmM13
namespace Go.Proofs.YtfhppenjbmmadaaGreatDoor
set_option linter.unusedVariables false
set_option maxHeartbeats 8000000
section
open Go.RowKit Go.Sort
theorem val_cf'[NeZero Pp](n:Nat):(cf n).val=n%Pp:=by unfold cf;simp[Fin.ofNat]
theorem pn_ne:Pp≠0:=by decide +kernel
def pX:Pt→Nat
 | none=>0
 | some (x,_)=>x.val
def pY:Pt→Nat
 | none=>0
 | some (_,y)=>y.val
def pN:Pt→Bool
 | none=>true
 | some _=>false
theorem vP_eq(P:Pt):vP P=A9 (pX P) (pY P) (pN P):=by cases P<;>rfl
theorem pX_lt(P:Pt):pX P<W:=by
 cases P with
 | none=>exact Nat.lt_of_le_of_lt (Nat.zero_le _) Pp_lt
 | some p=>exact fw p.1
theorem wrap_n(n:Nat)(hn:n≤256):IntKind.i64.wrap ((n:Int)-1)=(n:Int)-1:=by
 unfold IntKind.wrap
 simp[IntKind.bits,IntKind.signed]
 omega
theorem bv_bt(e i:Nat):(((e/2^i%2:Nat):Int) == 1)=e.testBit i:=by
 rw[Nat.testBit_eq_decide_div_mod_eq,Bool.eq_iff_iff]
 simp only[beq_iff_eq,decide_eq_true_eq]
 omega
theorem div_odd(e i:Nat)(h:e/2^i%2=1):e/2^i=e/2^(i+1)+e/2^(i+1)+1:=by rw[Nat.pow_succ,← Nat.div_div_eq_div_mul];omega
theorem div_even(e i:Nat)(h:¬ e/2^i%2=1):e/2^i=e/2^(i+1)+e/2^(i+1):=by rw[Nat.pow_succ,← Nat.div_div_eq_div_mul];omega
theorem sq_mul(q a:Nat):q%Pp*(q%Pp)%Pp*a%Pp=q*q*a%Pp:=by rw[← Nat.mul_mod,Nat.mod_mul_mod]
theorem rpow_any(a e:Nat)(ha:a<W)(he:e<W):Ds 107 #[U a,U e] (U (a^e%Pp)):=by
 have hn:e<2^bitsN e:=bitsN_lt e he
 have hN:bitsN e≤256:=bitsN_le e 256 (by rw[← W_pow];exact he)
 have h:=rpower_raw (fun i=>e.testBit i) (fun i=>e/2^i%2) e (bitsN e) hN (wrap_n _ hN) (fun w=>rbits_any e w) (fun i hi=>fun w=>bit_any e i (by omega) w) (bv_bt e) a
  (fun j=>a^(e/2^j)%Pp) (fun i=>a^(e/2^(i+1))%Pp*(a^(e/2^(i+1))%Pp)%Pp)
  (by show a^(e/2^bitsN e)%Pp=1;rw[Nat.div_eq_of_lt hn,Nat.pow_zero,one_mod])
  (fun i hi=>rtimes_any _ _ (pw_lt _) (pw_lt _))
  (fun i hi hb=>by
   have k:=rtimes_any (a^(e/2^(i+1))%Pp*(a^(e/2^(i+1))%Pp)%Pp) a (pw_lt _) ha
   have hb':e.testBit i=true:=hb
   rw[Nat.testBit_eq_decide_div_mod_eq,decide_eq_true_eq] at hb'
   have e2:a^(e/2^(i+1))%Pp*(a^(e/2^(i+1))%Pp)%Pp*a%Pp=a^(e/2^i)%Pp:=by
    rw[sq_mul,div_odd e i hb']
    generalize e/2^(i+1)=m
    rw[Nat.pow_succ,Nat.pow_add]
   rw[e2] at k
   exact k)
  (fun i hi hb=>by
   have hb':¬ e.testBit i=true:=by rw[hb];decide
   rw[Nat.testBit_eq_decide_div_mod_eq,decide_eq_true_eq] at hb'
   show a^(e/2^i)%Pp=a^(e/2^(i+1))%Pp*(a^(e/2^(i+1))%Pp)%Pp
   rw[div_even e i hb']
   generalize e/2^(i+1)=m
   rw[Nat.pow_add,Nat.mul_mod])
 simp only[Nat.pow_zero,Nat.div_one] at h
 exact h
section
variable [NeZero Pp]
theorem hinv(z:Fin Pp):Ds 131 #[U z.val] (U (ivF z).val):=by
 have h:=inverse_any' z.val (fw z)
 unfold ivF
 rw[val_cf']
 exact h
theorem pnt_any(a:T3p):Ds 101 #[vT a] (vP (nrm ivF a)):=point_any hinv a
def dblT (t:T3p):Nat→T3p
 | 0=>t
 | i+1=>J3 (dblT t i) (dblT t i)
def accN (e:Nat) (t:T3p) (l:List Nat):T3p:=l.foldl (fun s x=>if e.testBit x then J3 s (dblT t x) else s) nou
theorem accN_snoc(e:Nat)(t:T3p)(l:List Nat)(x:Nat):accN e t (l++[x])=if e.testBit x then J3 (accN e t l) (dblT t x) else accN e t l:=by simp[accN]
theorem times_any(e:Nat)(he:e<W)(t:T3p):Ds 103 #[U e,vT t] (vT (accN e t (List.range (bitsN e)))):=by
 have hN:bitsN e≤256:=bitsN_le e 256 (by rw[← W_pow];exact he)
 have h:=fun w=>times_raw (fun i=>(dblT t i).1.val) (fun i=>(dblT t i).2.1.val) (fun i=>(dblT t i).2.2.val) (bitsN e) e hN
  (fun l=>(accN e t (l.map (·.1))).1.val) (fun l=>(accN e t (l.map (·.1))).2.1.val) (fun l=>(accN e t (l.map (·.1))).2.2.val) (fun i=>e.testBit i)
  nought_any (fun w=>bits_any e w) (fun i hi=>pbit_any e i (by omega)) (fun i=>joined_any (dblT t i) (dblT t i))
  (fun pre x hx=>by
   have hx':e.testBit x.1=true:=hx
   have k:=joined_any (accN e t (pre.map (·.1))) (dblT t x.1)
   have e1:J3 (accN e t (pre.map (·.1))) (dblT t x.1)=accN e t ((pre++[x]).map (·.1)):=by
    rw[List.map_append]
    exact ((accN_snoc e t _ x.1).trans (if_pos hx')).symm
   rw[e1] at k
   exact k)
  (fun pre x hx=>by
   have hx':¬ e.testBit x.1=true:=by rw[hx];decide
   have e1:accN e t ((pre++[x]).map (·.1))=accN e t (pre.map (·.1)):=by
    rw[List.map_append]
    exact (accN_snoc e t _ x.1).trans (if_neg hx')
   simp only[e1,and_self]) w
 simp only[allB_map] at h
 exact h
theorem dblT_ok{t:T3p}(h1:onT t)(h2:nzT t):∀ i,onT (dblT t i)∧nzT (dblT t i)∧nrm ivF (dblT t i)=mulP (2^i) (nrm ivF t)
 | 0=>⟨h1,h2,by
  obtain ⟨l,_,_,hp⟩:=of_nrm fc h1 h2
  exact (mulP_one hp).symm⟩
 | i+1=>by
  obtain ⟨a,b,c⟩:=dblT_ok h1 h2 i
  obtain ⟨x,y,z⟩:=J3_ok a b a b
  obtain ⟨l,_,_,hp⟩:=of_nrm fc h1 h2
  refine ⟨x,y,?_⟩
  show nrm ivF (J3 (dblT t i) (dblT t i))=_
  rw[z,c,← mulP_add hp,Nat.pow_succ,Nat.mul_two]
theorem accN_ok(e:Nat){t:T3p}(h1:onT t)(h2:nzT t):∀ k,onT (accN e t (List.range k))∧nzT (accN e t (List.range k))∧nrm ivF (accN e t (List.range k))=mulP (e%2^k) (nrm ivF t)
 | 0=>⟨spr_on (P:=none) trivial,spr_nz fc none,by
  rw[Nat.pow_zero,Nat.mod_one]
  exact nrm_spr fc none⟩
 | k+1=>by
  obtain ⟨a,b,c⟩:=accN_ok e h1 h2 k
  obtain ⟨x,y,z⟩:=dblT_ok h1 h2 k
  obtain ⟨l,_,_,hp⟩:=of_nrm fc h1 h2
  rw[List.range_succ,accN_snoc,mod_succ_bit]
  by_cases hb:e.testBit k=true
  ·rw[if_pos hb,if_pos hb]
   obtain ⟨u,v,q⟩:=J3_ok a b x y
   refine ⟨u,v,?_⟩
   rw[q,c,z,← mulP_add hp]
  ·rw[if_neg hb,if_neg hb]
   exact ⟨a,b,c⟩
theorem timesP{P:Pt}(hP:onP P)(e:Nat)(he:e<W):∃ t,Ds 103 #[U e,vT (spr P)] (vT t)∧onT t∧nzT t∧nrm ivF t=mulP e P:=by
 obtain ⟨a,b,c⟩:=accN_ok e (spr_on hP) (spr_nz fc P) (bitsN e)
 refine ⟨_,times_any e he (spr P),a,b,?_⟩
 rw[c,nrm_spr fc,Nat.mod_eq_of_lt (bitsN_lt e he)]
theorem cmul_any{P:Pt}(hP:onP P)(e:Nat)(he:e<W):Ds 75 #[U e,vP P] (vP (mulP e P)):=by
 obtain ⟨t,h,_,_,hn⟩:=timesP hP e he
 have h1:=spread_any P
 have h3:=pnt_any t
 rw[hn] at h3
 rw[vP_eq] at h1
 rw[vP_eq] at h3
 rw[vP_eq,vP_eq]
 exact fun w=>mul_pt_raw e (pX P) (pY P) (pN P) h1 h h3 w
theorem csum_any{P Q:Pt}(hP:onP P)(hQ:onP Q)(e l:Nat)(he:e<W)(hl:l<W):Ds 54 #[U e,vP P,U l,vP Q] (vP (padd ivF (mulP e P) (mulP l Q))):=by
 obtain ⟨t,h,a1,a2,hn⟩:=timesP hP e he
 obtain ⟨s,k,b1,b2,kn⟩:=timesP hQ l hl
 obtain ⟨_,_,j⟩:=J3_ok a1 a2 b1 b2
 have h1:=spread_any P
 have k1:=spread_any Q
 have h3:=joined_any t s
 have h4:=pnt_any (J3 t s)
 rw[j,hn,kn,vP_eq] at h4
 rw[vP_eq] at h1 k1
 rw[vP_eq,vP_eq,vP_eq]
 exact fun w=>sum_pt_raw e (pX P) (pY P) l (pX Q) (pY Q) (pN P) (pN Q) h1 h k1 k h3 h4 w
end
end
section
open Go.RowKit Go.Sort
section
variable [NeZero Pp]
theorem eqz(z:Fin Pp)(w:World):(Op.equalIn 10000 24 (U z.val) (U 0)).run Tryz.prog w=.ok (decide (z=0)) w:=by
 have he:=eq_any z 0 w
 rw[val_0] at he
 exact he
theorem vT_0:vT ((0,0,0):T3p)=A3 0 0 0:=by show A3 (0:Fin Pp).val (0:Fin Pp).val (0:Fin Pp).val=_;rw[val_0]
theorem double_any(a:T3p):Ds 80 #[vT a] (vT (dblJ a)):=by
 obtain ⟨x,y,z⟩:=a
 by_cases hz:z=0
 ·have e:dblJ (x,y,z)=(0,0,0):=by unfold dblJ;simp only[];rw[if_pos hz]
  rw[e,vT_0]
  exact fun w=>double_z _ _ _ (fun w=>by rw[eqz,decide_eq_true hz]) w
 ·by_cases hy:y=0
  ·have e:dblJ (x,y,z)=(0,0,0):=by unfold dblJ;simp only[];rw[if_neg hz,if_pos hy]
   rw[e,vT_0]
   exact fun w=>double_y _ _ _ (fun w=>by rw[eqz,decide_eq_false hz]) (fun w=>by rw[eqz,decide_eq_true hy]) w
  ·have e:dblJ (x,y,z)=(dX x y,dY x y,y*z+y*z):=by unfold dblJ;simp only[];rw[if_neg hz,if_neg hy]
   rw[e]
   exact fun w=>double_raw _ _ _ (fun w=>by rw[eqz,decide_eq_false hz]) (fun w=>by rw[eqz,decide_eq_false hy]) (rfm_any x x) (rfm_any y y) (rfm_any _ _) (rfm_any x _) (rfa_any _ _) (rfa_any _ _) (rfa_any _ _) (rfa_any _ _) (rfm_any _ _) (rfa_any _ _) (rfs_any _ _)
    (rfa_any _ _) (rfa_any _ _) (rfa_any _ _) (rfs_any _ _) (rfm_any _ _) (rfs_any _ _) (rfm_any y z) (rfa_any _ _) w
theorem cjoin_any(a:T3p)(Q:Pt):Ds 82 #[vT a,vP Q] (vT (joinJ a Q)):=by
 obtain ⟨x,y,z⟩:=a
 cases Q with
 | none=>exact fun w=>join_none x.val y.val z.val 0 0 w
 | some q=>
  obtain ⟨u,v⟩:=q
  have h:=fun w=>cjoin_raw x.val y.val z.val u.val v.val (eqz z) (fun _=>rfm_any z z) (fun _=>rfm_any u _) (fun _=>rfm_any _ z) (fun _=>rfm_any v _) (fun _=>rfs_any _ x) (fun _=>rfs_any _ y) (fun _=>eqz _) (fun _ _=>eqz _) (fun _ _ _=>double_any (x,y,z))
   (fun _ _=>rfm_any _ _) (fun _ _=>rfm_any _ _) (fun _ _=>rfm_any x _) (fun _ _=>rfm_any _ _) (fun _ _=>rfs_any _ _) (fun _ _=>rfa_any _ _) (fun _ _=>rfs_any _ _) (fun _ _=>rfs_any _ _) (fun _ _=>rfm_any _ _) (fun _ _=>rfm_any y _) (fun _ _=>rfs_any _ _) (fun _ _=>rfm_any z _) w
  have e:vT (joinJ (x,y,z) (some (u,v)))=(cond (decide (z=0)) (A3 u.val v.val 1) (cond (decide (jH x z u=0)) (cond (decide (jR y z v=0)) (vT (dblJ (x,y,z))) (A3 0 0 0)) (A3 (jX x (jH x z u) (jR y z v)).val (jY x y (jH x z u) (jR y z v)).val (z*jH x z u).val))):=by
   unfold joinJ
   simp only[]
   by_cases hz:z=0
   ·rw[if_pos hz,decide_eq_true hz];show A3 u.val v.val (1:Fin Pp).val=A3 u.val v.val 1;rw[val_1]
   ·rw[if_neg hz,decide_eq_false hz]
    by_cases hH:jH x z u=0
    ·rw[if_pos hH,decide_eq_true hH]
     by_cases hR:jR y z v=0
     ·rw[if_pos hR,decide_eq_true hR];rfl
     ·rw[if_neg hR,decide_eq_false hR];exact vT_0
    ·rw[if_neg hH,decide_eq_false hH];rfl
  rw[e]
  exact h
theorem flat_any(a:T3p):Ds 83 #[vT a] (vP (flatJ a)):=by
 obtain ⟨x,y,z⟩:=a
 have hp:Ds 107 #[U z.val,U (Pp-2)] (U (ivF z).val):=by
  have k:=rpow_any z.val (Pp-2) (fw z) (Nat.lt_of_le_of_lt (Nat.sub_le _ _) Pp_lt)
  unfold ivF
  rw[val_cf']
  exact k
 have hs:Ds 27 #[U Pp,U 2] (.tuple #[U (Pp-2),.bool (unW Pp 2)]):=by
  have k:Ds 27 #[U Pp,U 2] (.tuple #[U (subW Pp 2),.bool (unW Pp 2)]):=fun w=>rsub_any Pp 2 Pp_lt (by decide +kernel) w
  rw[sub2] at k
  exact k
 have h:=fun w=>flat_raw x.val y.val z.val (eqz z) (fun _=>rprime_any) (fun _=>hs) (fun _=>hp) (fun _=>rfm_any (ivF z) (ivF z)) (fun _=>rfm_any x _) (fun _=>rfm_any _ (ivF z)) (fun _=>rfm_any y _) w
 have e:vP (flatJ (x,y,z))=(cond (decide (z=0)) (A9 0 0 true) (A9 (x*(ivF z*ivF z)).val (y*(ivF z*ivF z*ivF z)).val false)):=by
  unfold flatJ
  simp only[]
  by_cases hz:z=0
  ·rw[if_pos hz,decide_eq_true hz];rfl
  ·rw[if_neg hz,decide_eq_false hz];rfl
 rw[e]
 exact h
theorem flat_0:flatJ ((0,0,0):T3p)=none:=flat_none rfl
def sqJ (st:Nat→T3p→T3p) (n:Nat):Nat→T3p
 | 0=>(0,0,0)
 | m+1=>st (n-m-1) (sqJ st n m)
theorem sqJ_step(st:Nat→T3p→T3p)(n i:Nat)(hi:i<n):sqJ st n (n-i)=st i (sqJ st n (n-(i+1))):=by
 have e:n-i=(n-(i+1))+1:=by omega
 rw[e]
 show st (n-(n-(i+1))-1) _=_
 rw[show n-(n-(i+1))-1=i by omega]
def stM (e:Nat) (P:Pt) (i:Nat) (s:T3p):T3p:=if e.testBit i then joinJ (dblJ s) P else dblJ s
theorem mulP_dbl{P:Pt}(hP:onP P)(e i:Nat):padd ivF (mulP (e/2^(i+1)) P) (mulP (e/2^(i+1)) P)=mulP (e/2^(i+1)+e/2^(i+1)) P:=(mulP_add hP _ _).symm
theorem stM_ok{P:Pt}(hP:onP P)(e n:Nat)(he:e<2^n):∀ i,i≤n→flatJ (sqJ (stM e P) n (n-i))=mulP (e/2^i) P:=by
 suffices h:∀ m i,m+i=n→flatJ (sqJ (stM e P) n (n-i))=mulP (e/2^i) P from fun i hi=>h (n-i) i (by omega)
 intro m
 induction m with
 | zero=>
  intro i hi
  rw[show i=n by omega,Nat.sub_self,Nat.div_eq_of_lt he]
  exact flat_0
 | succ m ih=>
  intro i hi
  have k:=ih (i+1) (by omega)
  rw[sqJ_step _ _ _ (by omega)]
  generalize sqJ (stM e P) n (n-(i+1))=s at *
  have ho:onP (flatJ s):=by rw[k];exact mulP_on hP _
  have kd:=dbl_ok ho
  rw[k,mulP_dbl hP] at kd
  unfold stM
  by_cases hb:e.testBit i=true
  ·rw[if_pos hb,join_ok (by rw[kd];exact mulP_on hP _) hP,kd]
   rw[Nat.testBit_eq_decide_div_mod_eq,decide_eq_true_eq] at hb
   rw[div_odd e i hb]
   rfl
  ·rw[if_neg hb,kd]
   rw[Nat.testBit_eq_decide_div_mod_eq,decide_eq_true_eq] at hb
   rw[div_even e i hb]
theorem rmulP_any{P:Pt}(hP:onP P)(e:Nat)(he:e<W):Ds 38 #[U e,vP P] (vP (mulP e P)):=by
 have hn:e<2^bitsN e:=bitsN_lt e he
 have hN:bitsN e≤256:=bitsN_le e 256 (by rw[← W_pow];exact he)
 have hf:=flat_any (sqJ (stM e P) (bitsN e) (bitsN e-0))
 rw[stM_ok hP e (bitsN e) hn 0 (Nat.zero_le _),Nat.pow_zero,Nat.div_one,vP_eq] at hf
 rw[vP_eq,vP_eq]
 exact fun w=>rmul_raw (fun i=>e.testBit i) (fun i=>e/2^i%2) e (bitsN e) hN (wrap_n _ hN) (fun w=>rbits_any e w) (fun i hi=>fun w=>bit_any e i (by omega) w) (bv_bt e) (pX P) (pY P) (pN P)
  (fun j=>(sqJ (stM e P) (bitsN e) (bitsN e-j)).1.val) (fun j=>(sqJ (stM e P) (bitsN e) (bitsN e-j)).2.1.val) (fun j=>(sqJ (stM e P) (bitsN e) (bitsN e-j)).2.2.val)
  (fun i=>(dblJ (sqJ (stM e P) (bitsN e) (bitsN e-(i+1)))).1.val) (fun i=>(dblJ (sqJ (stM e P) (bitsN e) (bitsN e-(i+1)))).2.1.val) (fun i=>(dblJ (sqJ (stM e P) (bitsN e) (bitsN e-(i+1)))).2.2.val)
  (by show (sqJ (stM e P) (bitsN e) (bitsN e-bitsN e)).1.val=0;rw[Nat.sub_self];exact val_0) (by show (sqJ (stM e P) (bitsN e) (bitsN e-bitsN e)).2.1.val=0;rw[Nat.sub_self];exact val_0) (by show (sqJ (stM e P) (bitsN e) (bitsN e-bitsN e)).2.2.val=0;rw[Nat.sub_self];exact val_0)
  (fun i hi=>double_any _)
  (fun i hi hb=>by
   have hb':e.testBit i=true:=hb
   have k:=cjoin_any (dblJ (sqJ (stM e P) (bitsN e) (bitsN e-(i+1)))) P
   have e1:joinJ (dblJ (sqJ (stM e P) (bitsN e) (bitsN e-(i+1)))) P=sqJ (stM e P) (bitsN e) (bitsN e-i):=by rw[sqJ_step _ _ _ hi];unfold stM;rw[if_pos hb']
   rw[e1,vP_eq] at k
   exact k)
  (fun i hi hb=>by
   have hb':¬ e.testBit i=true:=by rw[hb];decide
   have e1:sqJ (stM e P) (bitsN e) (bitsN e-i)=dblJ (sqJ (stM e P) (bitsN e) (bitsN e-(i+1))):=by
    rw[sqJ_step _ _ _ hi]
    show (if e.testBit i then joinJ (dblJ (sqJ (stM e P) (bitsN e) (bitsN e-(i+1)))) P else dblJ (sqJ (stM e P) (bitsN e) (bitsN e-(i+1))))=_
    rw[if_neg hb']
   simp only[e1,and_self])
  _ _ _ hf w
end
end
section
open Go.RowKit Go.Sort
theorem cmp_neg(a b:Nat):decide (cmpN a b<0)=decide (a<b):=by
 unfold cmpN
 by_cases h1:a<b
 ·simp[h1]
 ·by_cases h2:b<a
  ·simp[h1,h2]
  ·simp[h1,h2]
theorem cmp_neg_iff(a b:Nat):cmpN a b<0↔a<b:=by
 have h:=cmp_neg a b
 exact decide_eq_decide.1 h
theorem W2:(2:Nat)<W:=by decide +kernel
theorem W1:(1:Nat)<W:=by decide +kernel
theorem add1:addW Pp 1=Pp+1:=by decide +kernel
theorem Pp1_lt:Pp+1<W:=by decide +kernel
def Kr:Nat:=(Pp+1)/4
theorem Kr_eq:shrW (Pp+1) 2=Kr:=by decide +kernel
theorem Kr4:Kr+Kr+(Kr+Kr)=(Pp-1)+2:=by decide +kernel
theorem Kr_lt:Kr<W:=by decide +kernel
theorem zero_lt_W:(0:Nat)<W:=by decide +kernel
theorem below_any(x:Nat)(hx:x<W):Ds 95 #[U x] (.bool (decide (x<Pp))):=by
 have h:=fun w=>below_raw x prime_any (fun w=>cmp_any x Pp hx Pp_lt w) w
 rw[cmp_neg] at h
 exact h
theorem l0_odd(x:Nat):l0 x%2=x%2:=by
 unfold l0
 exact Nat.mod_mod_of_dvd x ⟨M/2,by decide +kernel⟩
theorem odd_bits(x:Nat):bits .and .u64 ((l0 x:Nat):Int) (1:Int)=((x%2:Nat):Int):=by
 rw[show (1:Int)=((1:Nat):Int) from rfl,bits_and _ 1 (l0_lt x) (by decide),Nat.and_one_is_mod,l0_odd]
theorem odd_eq(x:Nat):(((x%2:Nat):Int) == 1)=decide (x%2=1):=by
 rw[Bool.eq_iff_iff];simp only[beq_iff_eq,decide_eq_true_eq];omega
theorem isOdd_any(x:Nat):Ds 98 #[U x] (.bool (decide (x%2=1))):=fun w=>isOdd_raw x (odd_bits x) (odd_eq x) w
theorem odd_mod(x:Nat):((l0 x:Nat):Int).tmod 2=((x%2:Nat):Int):=by
 have:=l0_odd x
 rw[Int.tmod_eq_emod_of_nonneg (by omega)]
 omega
theorem U_On:(.agg #[.int .u64 13822214165235122497,.int .u64 13451932020343611451,.int .u64 18446744073709551614,.int .u64 18446744073709551615]:Value)=U On:=by
 have h0:l0 On=13822214165235122497:=by decide +kernel
 have h1:l1 On=13451932020343611451:=by decide +kernel
 have h2:l2 On=18446744073709551614:=by decide +kernel
 have h3:l3 On=18446744073709551615:=by decide +kernel
 unfold U U4
 rw[h0,h1,h2,h3]
 rfl
theorem On_W:On<W:=by decide +kernel
theorem order_any:Ds 68 #[] (U On):=by rw[← U_On];exact fun w=>order_raw w
theorem rorder_any:Ds 28 #[] (U On):=by rw[← U_On];exact fun w=>rorder_raw w
theorem Gx_lt:Gx<Pp:=by decide +kernel
theorem Gy_lt:Gy<Pp:=by decide +kernel
abbrev GV:Value:=.agg #[.int .u64 6481385041966929816,.int .u64 188021827762530521,.int .u64 6170039885052185351,.int .u64 8772561819708210092,.int .u64 11261198710074299576,.int .u64 18237243440184513561,.int .u64 6747795201694173352,.int .u64 5204712524664259685,.bool false]
theorem GV_eq:GV=A9 Gx Gy false:=by
 have h0:l0 Gx=6481385041966929816:=by decide +kernel
 have h1:l1 Gx=188021827762530521:=by decide +kernel
 have h2:l2 Gx=6170039885052185351:=by decide +kernel
 have h3:l3 Gx=8772561819708210092:=by decide +kernel
 have k0:l0 Gy=11261198710074299576:=by decide +kernel
 have k1:l1 Gy=18237243440184513561:=by decide +kernel
 have k2:l2 Gy=6747795201694173352:=by decide +kernel
 have k3:l3 Gy=5204712524664259685:=by decide +kernel
 unfold GV A9 P9
 rw[h0,h1,h2,h3,k0,k1,k2,k3]
 rfl
theorem add_1:Ds 124 #[U Pp,U 1] (.tuple #[U (Pp+1),.bool (ovW Pp 1)]):=by
 have h:Ds 124 #[U Pp,U 1] (.tuple #[U (addW Pp 1),.bool (ovW Pp 1)]):=fun w=>Go.Proofs.YtfhppenjbmmadaaGreatDoor.add_any Pp 1 Pp_lt W1 w
 rw[add1] at h
 exact h
theorem shr_2:Ds 122 #[U (Pp+1),.int .u64 2] (U Kr):=by
 have h:Ds 122 #[U (Pp+1),B 2] (U (shrW (Pp+1) 2)):=fun w=>shr_any (Pp+1) 2 Pp1_lt w
 rw[Kr_eq] at h
 exact h
theorem of_1:Ds 66 #[.int .u64 1] (U 1):=fun w=>of_any 1 (by decide) w
section
variable [NeZero Pp]
def rootF (s:Fin Pp):Fin Pp:=cf (s.val^Kr)
theorem power_root(s:Fin Pp):Ds 125 #[U s.val,U Kr] (U (rootF s).val):=by
 have h:=power_any s.val Kr (fw s) Kr_lt
 unfold rootF
 rw[val_cf']
 exact h
theorem root_any(s:Fin Pp):Ds 96 #[U s.val] (.tuple #[U (if rootF s*rootF s=s then (rootF s).val else 0),.bool (decide (rootF s*rootF s=s))]):=by
 by_cases h:rootF s*rootF s=s
 ·rw[if_pos h,decide_eq_true h]
  exact fun w=>root_yes s.val prime_any of_1 add_1 shr_2 (power_root s) (fm_any _ _) (fun w=>by rw[eq_any,decide_eq_true h]) w
 ·rw[if_neg h,decide_eq_false h]
  exact fun w=>root_no s.val prime_any of_1 add_1 shr_2 (power_root s) (fm_any _ _) (fun w=>by rw[eq_any,decide_eq_false h]) w
def liftF (x:Fin Pp) (odd:Bool):Fin Pp:=if decide ((rootF (x*x*x+7)).val%2=1)=odd then rootF (x*x*x+7) else-rootF (x*x*x+7)
def isR (x:Nat):Bool:=if h:x<Pp then decide (rootF ((⟨x,h⟩:Fin Pp)*⟨x,h⟩*⟨x,h⟩+7)*rootF ((⟨x,h⟩:Fin Pp)*⟨x,h⟩*⟨x,h⟩+7)=(⟨x,h⟩:Fin Pp)*⟨x,h⟩*⟨x,h⟩+7) else false
def liftX (x:Nat):Nat:=if isR x=true then x else 0
def liftY (x:Nat) (odd:Bool):Nat:=if isR x=true then (if h:x<Pp then (liftF ⟨x,h⟩ odd).val else 0) else 0
theorem neg0(y:Fin Pp):Ds 99 #[U 0,U y.val] (U (- y).val):=by
 have h0:=fs_any (0:Fin Pp) y
 rw[val_0,show (0:Fin Pp)-y = - y by grind] at h0
 exact h0
theorem lift_any(x:Nat)(odd:Bool)(hx:x<W):Ds 52 #[U x,.bool odd] (.tuple #[A9 (liftX x) (liftY x odd) false,.bool (isR x)]):=by
 have bx:=below_any x hx
 by_cases h:x<Pp
 ·rw[decide_eq_true h] at bx
  have hr:=root_any ((⟨x,h⟩:Fin Pp)*⟨x,h⟩*⟨x,h⟩+7)
  have hs:=right_any ⟨x,h⟩
  by_cases k:rootF ((⟨x,h⟩:Fin Pp)*⟨x,h⟩*⟨x,h⟩+7)*rootF ((⟨x,h⟩:Fin Pp)*⟨x,h⟩*⟨x,h⟩+7)=(⟨x,h⟩:Fin Pp)*⟨x,h⟩*⟨x,h⟩+7
  ·have e:isR x=true:=by unfold isR;rw[dif_pos h,decide_eq_true k]
   rw[if_pos k,decide_eq_true k] at hr
   have e1:liftX x=x:=by unfold liftX;rw[if_pos e]
   have e2:liftY x odd=(liftF ⟨x,h⟩ odd).val:=by unfold liftY;rw[if_pos e,dif_pos h]
   rw[e,e1,e2]
   unfold liftF
   by_cases ho:decide ((rootF ((⟨x,h⟩:Fin Pp)*⟨x,h⟩*⟨x,h⟩+7)).val%2=1)=odd
   ·rw[if_pos ho]
    exact fun w=>lift_as x odd bx hs hr (isOdd_any _) ho w
   ·rw[if_neg ho]
    exact fun w=>lift_neg x odd bx hs hr (isOdd_any _) ho (neg0 _) w
  ·have e:isR x=false:=by unfold isR;rw[dif_pos h,decide_eq_false k]
   rw[if_neg k,decide_eq_false k] at hr
   have e1:liftX x=0:=by unfold liftX;rw[e];rfl
   have e2:liftY x odd=0:=by unfold liftY;rw[e];rfl
   rw[e,e1,e2]
   exact fun w=>lift_none x odd bx hs hr w
 ·rw[decide_eq_false h] at bx
  have e:isR x=false:=by unfold isR;rw[dif_neg h]
  have e1:liftX x=0:=by unfold liftX;rw[e];rfl
  have e2:liftY x odd=0:=by unfold liftY;rw[e];rfl
  rw[e,e1,e2]
  exact fun w=>lift_high x odd bx w
theorem root_sq(y:Fin Pp):rootF (y*y)*rootF (y*y)=y*y:=by
 have e0:(y*y).val%Pp=y.val*y.val%Pp:=by rw[Fin.val_mul,Nat.mod_mod]
 have e1:rootF (y*y)=cf (y.val^(Kr+Kr)):=by
  unfold rootF
  refine cf_of_mod ?_
  rw[Nat.pow_mod,e0,← Nat.pow_mod,← Nat.pow_two,← Nat.pow_mul,Nat.two_mul]
 rw[e1,← cf_mul,← Nat.pow_add,Kr4,Nat.pow_add]
 by_cases hy:y=0
 ·rw[hy,val_0,show (0:Nat)^(Pp-1)=0 from Nat.zero_pow (by have:=Pp_big;omega),Nat.zero_mul,cf_zero,m_z]
 ·rw[cf_mul,← cf_mod (y.val^(Pp-1)),Pp_fermat (val_nd hy),cf_one,Nat.pow_two,cf_mul,cf_val]
  exact Fin.one_mul _
theorem lift_on{x:Nat}{odd:Bool}(h:isR x=true):∃ hx:x<Pp,liftX x=x∧liftY x odd=(liftF ⟨x,hx⟩ odd).val∧onP (some (⟨x,hx⟩,liftF ⟨x,hx⟩ odd)):=by
 have hx:x<Pp:=by
  refine Decidable.byContradiction fun k=>?_
  unfold isR at h;rw[dif_neg k] at h;cases h
 refine ⟨hx,by unfold liftX;rw[if_pos h],by unfold liftY;rw[if_pos h,dif_pos hx],?_⟩
 have k:=h
 unfold isR at k
 rw[dif_pos hx] at k
 have k2:=of_decide_eq_true k
 show liftF ⟨x,hx⟩ odd*liftF ⟨x,hx⟩ odd=(⟨x,hx⟩:Fin Pp)*⟨x,hx⟩*⟨x,hx⟩+7
 unfold liftF
 split
 ·exact k2
 ·generalize rootF ((⟨x,hx⟩:Fin Pp)*⟨x,hx⟩*⟨x,hx⟩+7)=r at *
  rw[← k2]
  grind
theorem lift_back{x y:Fin Pp}(h:y*y=x*x*x+7):isR x.val=true∧liftF x (decide (y.val%2=1))=y:=by
 have k:=root_sq y
 rw[h] at k
 have e:isR x.val=true:=by
  unfold isR
  rw[dif_pos x.isLt]
  exact decide_eq_true k
 refine ⟨e,?_⟩
 have hy:=y_nz fc h
 rcases sq_eq (k.trans h.symm) with r | r
 ·unfold liftF
  rw[r,if_pos rfl]
 ·unfold liftF
  rw[r,odd_neg hy,if_neg,show - - y=y by grind]
  have:y.val%2=0∨y.val%2=1:=by omega
  rcases this with e | e<;>simp[e]
end
end
end Go.Proofs.YtfhppenjbmmadaaGreatDoor
