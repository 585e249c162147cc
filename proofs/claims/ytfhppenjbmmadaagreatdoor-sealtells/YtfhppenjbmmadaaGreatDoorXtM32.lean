import Derived.Test.YtfhppenjbmmadaaGreatDoorXtM06
namespace Go.Proofs.YtfhppenjbmmadaaGreatDoor
set_option linter.unusedVariables false
set_option maxHeartbeats 8000000
section
open Go.RowKit
theorem xor_lt{a b:Nat}(ha:a<M)(hb:b<M):a ^^^ b<M:=by rw[M_pow] at *;exact Nat.xor_lt_two_pow ha hb
theorem and_lt{a b:Nat}(ha:a<M):a &&& b<M:=Nat.lt_of_le_of_lt Nat.and_le_left ha
theorem or_lt{a b:Nat}(ha:a<M)(hb:b<M):a ||| b<M:=by rw[M_pow] at *;exact Nat.or_lt_two_pow ha hb
def nt (b c:Nat):Nat:=c &&& (M-1-b)
theorem nt_lt{b c:Nat}(hc:c<M):nt b c<M:=and_lt hc
theorem bits_not_and(b c:Nat)(hb:b<M)(hc:c<M):bits .andNot .u64 (c:Int) (b:Int)=((nt b c:Nat):Int):=by
 have hx:nt b c<2^64:=by rw[← M_pow];exact nt_lt hc
 have h1:(BitVec.ofInt 64 (c:Int)).toNat=c:=by
  rw[BitVec.ofInt_natCast,BitVec.toNat_ofNat];exact Nat.mod_eq_of_lt (by unfold M at hc;omega)
 have h2:(BitVec.ofInt 64 (b:Int)).toNat=b:=by
  rw[BitVec.ofInt_natCast,BitVec.toNat_ofNat];exact Nat.mod_eq_of_lt (by unfold M at hb;omega)
 show IntKind.u64.wrap ((BitVec.ofInt 64 (c:Int) &&& ~~~ BitVec.ofInt 64 (b:Int)).toNat:Int)=_
 rw[BitVec.toNat_and,BitVec.toNat_not,h1,h2,IntKind.wrap_u64]
 have e:c &&& (2^64-1-b)=nt b c:=by unfold nt;rw[M_pow]
 rw[e]
 omega
theorem bits_xn(a b c:Nat)(ha:a<M)(hb:b<M)(hc:c<M):bits .xor .u64 (a:Int) (bits .andNot .u64 (c:Int) (b:Int))=((a ^^^ nt b c:Nat):Int):=by
 rw[bits_not_and b c hb hc,bits_xor _ _ ha (nt_lt hc)]
def rt (x k:Nat):Nat:=(x*2^k%M) ||| (x/2^(64-k))
theorem rt_lt{x:Nat}(k:Nat)(hx:x<M):rt x k<M:=or_lt (Nat.mod_lt _ (by decide)) (Nat.lt_of_le_of_lt (Nat.div_le_self _ _) hx)
theorem rt_zero{x:Nat}(hx:x<M):rt x 0=x:=by
 unfold rt
 rw[Nat.pow_zero,Nat.mul_one,Nat.mod_eq_of_lt hx,Nat.sub_zero,← M_pow,Nat.div_eq_of_lt hx,Nat.or_zero]
theorem rt_int(x k:Nat)(hx:x<M):bits .or .u64 (IntKind.u64.wrap ((x:Int)*2^k)) ((x:Int)/2^(64-k))=((rt x k:Nat):Int):=by
 have e1:IntKind.u64.wrap ((x:Int)*2^k)=((x*2^k%M:Nat):Int):=by
  rw[show (x:Int)*2^k=((x*2^k:Nat):Int) by simp]
  generalize x*2^k=y
  simp only[IntKind.wrap_u64];unfold M;omega
 have e2:(x:Int)/2^(64-k)=((x/2^(64-k):Nat):Int):=by simp
 rw[e1,e2,bits_or _ _ (Nat.mod_lt _ (by decide)) (Nat.lt_of_le_of_lt (Nat.div_le_self _ _) hx)]
 rfl
abbrev P25 (f:Nat→Nat):Prop:=∀ i,i<25→f i<M
def n1 (i:Nat):Nat:=i/5*5+(i%5+1)%5
def n2 (i:Nat):Nat:=i/5*5+(i%5+2)%5
def chi (f:Nat→Nat) (i:Nat):Nat:=f i ^^^ nt (f (n1 i)) (f (n2 i))
def col (f:Nat→Nat) (x:Nat):Nat:=f x ^^^ f (x+5) ^^^ f (x+10) ^^^ f (x+15) ^^^ f (x+20)
def dd (f:Nat→Nat) (x:Nat):Nat:=col f ((x+4)%5) ^^^ rt (col f ((x+1)%5)) 1
def theta (f:Nat→Nat) (i:Nat):Nat:=f i ^^^ dd f (i%5)
theorem n1_lt{i:Nat}(h:i<25):n1 i<25:=by unfold n1;omega
theorem n2_lt{i:Nat}(h:i<25):n2 i<25:=by unfold n2;omega
theorem chi_lt{f:Nat→Nat}(h:P25 f):P25 (chi f):=fun i hi=>xor_lt (h i hi) (nt_lt (h _ (n2_lt hi)))
theorem col_lt{f:Nat→Nat}(h:P25 f){x:Nat}(hx:x<5):col f x<M:=
 xor_lt (xor_lt (xor_lt (xor_lt (h _ (by omega)) (h _ (by omega))) (h _ (by omega))) (h _ (by omega))) (h _ (by omega))
theorem dd_lt{f:Nat→Nat}(h:P25 f)(x:Nat):dd f x<M:=xor_lt (col_lt h (by omega)) (rt_lt _ (col_lt h (by omega)))
theorem theta_lt{f:Nat→Nat}(h:P25 f):P25 (theta f):=fun i hi=>xor_lt (h i hi) (dd_lt h _)
end
section
open Go.RowKit
attribute [local go_sem] setCell_drewN
set_option maxRecDepth 100000 in
theorem rot_any(x k:Nat)(hx:x<M)(hk:k<64)(w:World):Calls Tryz.prog 164 #[B x,.int .i64 (k:Int)] w fun e w'=>e=.returned (B (rt x k))∧w'=w:=by
 have ha:bits .and .u64 (k:Int) 63=(k:Int):=by
  have e:=bits_and k 63 (by unfold M;omega) (by decide)
  have e2:k &&& 63=k:=by rw[Nat.and_two_pow_sub_one_eq_mod k 6];omega
  rw[e2] at e
  exact e
 have hr:Hid _:=rt_int x k hx
 clear hx
 go_enter Tryz.func164,Tryz.ntmps164
 go_wp2
 rw[hr.out]
 go_ret
 exact ⟨rfl,rfl⟩
set_option maxRecDepth 100000 in
theorem turn_any(x k:Nat)(hx:x<M)(hk:k<64)(w:World):Calls Tryz.prog 119 #[B x,.int .i64 (k:Int)] w fun e w'=>e=.returned (B (rt x k))∧w'=w:=by
 by_cases h0:k=0
 ·subst h0
  rw[rt_zero hx]
  go_enter Tryz.func119,Tryz.ntmps119
  go_wp2
  go_ret
  exact ⟨rfl,rfl⟩
 ·have hr:Hid _:=rt_int x k hx
  clear hx
  go_enter Tryz.func119,Tryz.ntmps119
  go_wp2
  rw[hr.out]
  go_ret
  exact ⟨rfl,rfl⟩
abbrev z25:Array Value:=#[.int .u64 0,.int .u64 0,.int .u64 0,.int .u64 0,.int .u64 0,.int .u64 0,.int .u64 0,.int .u64 0,.int .u64 0,.int .u64 0,.int .u64 0,.int .u64 0,.int .u64 0,.int .u64 0,.int .u64 0,.int .u64 0,.int .u64 0,.int .u64 0,.int .u64 0,.int .u64 0,.int .u64 0,.int .u64 0,.int .u64 0,.int .u64 0,.int .u64 0]
abbrev A25 (f:Nat→Nat):Value:=.agg (ag .u64 25 f)
theorem upd_at(f:Nat→Nat)(i x j:Nat):upd f i x j=if j=i then x else f j:=rfl
structure SI (f h:Nat→Nat) (j:Nat):Prop where
 hv:∀ i,i<25→h i=if i<5*j then chi f i else 0
theorem SI.step{f h:Nat→Nat}{j:Nat}(hj:j<5)(s:SI f h j):SI f (upd (upd (upd (upd (upd h (5*j) (f (5*j) ^^^ nt (f (5*j+1)) (f (5*j+2)))) (5*j+1) (f (5*j+1) ^^^ nt (f (5*j+2)) (f (5*j+3)))) (5*j+2) (f (5*j+2) ^^^ nt (f (5*j+3)) (f (5*j+4)))) (5*j+3) (f (5*j+3) ^^^ nt (f (5*j+4)) (f (5*j)))) (5*j+4) (f (5*j+4) ^^^ nt (f (5*j)) (f (5*j+1)))) (j+1) where
 hv i hi:=by
  simp only[upd_at]
  have key:∀ m,m<5→i=5*j+m→n1 i=5*j+(m+1)%5∧n2 i=5*j+(m+2)%5:=by
   intro m hm e;subst e;unfold n1 n2
   rw[show (5*j+m)/5=j by omega,show (5*j+m)%5=m by omega]
   omega
  have c:∀ m,m<5→i=5*j+m→chi f i=f (5*j+m) ^^^ nt (f (5*j+(m+1)%5)) (f (5*j+(m+2)%5)):=by
   intro m hm e;obtain ⟨e1,e2⟩:=key m hm e;unfold chi;rw[e1,e2,e]
  by_cases h4:i=5*j+4
  ·rw[if_pos h4,if_pos (by omega),c 4 (by omega) h4];rfl
  by_cases h3:i=5*j+3
  ·rw[if_neg h4,if_pos h3,if_pos (by omega),c 3 (by omega) h3];rfl
  by_cases h2:i=5*j+2
  ·rw[if_neg h4,if_neg h3,if_pos h2,if_pos (by omega),c 2 (by omega) h2]
  by_cases h1:i=5*j+1
  ·rw[if_neg h4,if_neg h3,if_neg h2,if_pos h1,if_pos (by omega),c 1 (by omega) h1]
  by_cases h0:i=5*j
  ·rw[if_neg h4,if_neg h3,if_neg h2,if_neg h1,if_pos h0,if_pos (by omega),c 0 (by omega) h0];rfl
  rw[if_neg h4,if_neg h3,if_neg h2,if_neg h1,if_neg h0,s.hv i hi]
  by_cases hl:i<5*j
  ·rw[if_pos hl,if_pos (by omega)]
  ·rw[if_neg hl,if_neg (by omega)]
theorem HRw.at{w:World}{g n:Nat}{k:IntKind}{f:Nat→Nat}(h:HRw w g (ag k n f)){i:Nat}(hi:i<n):w.cell? ⟨g,i,none⟩=some (.int k (f i:Nat)):=by
 rw[h.cell,agG,if_pos hi]
set_option maxRecDepth 100000 in
theorem sifted_any(f:Nat→Nat)(hf:P25 f)(w:World):Calls Tryz.prog 156 #[A25 f] w fun e w'=>e=.returned (A25 (chi f))∧Below w.heap.size w w':=by
 have S:Hid (SI f (fun _=>0) 0):=⟨fun i _=>by simp⟩
 have G:Hid (P25 f):=hf
 clear hf
 obtain ⟨h',hh⟩:∃ q,q=chi f:=⟨_,rfl⟩
 rw[← hh]
 have HH:Hid _:=hh
 clear hh
 go_enter Tryz.func156,Tryz.ntmps156
 go_wp2
 go_loopw [4] (fun i w'=>∃ (j r nq:Nat) (h:Nat→Nat),j≤5∧r=5*j∧i=.int .i64 (r:Int)∧w'=(((w.alloc (Obj.cells (ag .u64 25 f) 100)).alloc (Obj.cells z25 100)).alloc (Obj.cells (ag .u64 25 h) 100)).drewN nq∧SI f h j) (fun i _=>25-(intOf i).toNat)
 case atStart=>
  exact ⟨0,0,0,fun _=>0,Nat.zero_le _,rfl,rfl,rfl,S.out⟩
 case round=>
  obtain ⟨j,r,nq,h,hj,hr,rfl,rfl,hT⟩:=hrel
  have HT:Hid (SI f h j∧r=5*j):=⟨hT,hr⟩
  clear hT
  by_cases hlt:j<5
  ·have hr20:r≤20:=by omega
   have HJ:Hid (j<5):=hlt
   clear hr hlt hj
   have c0:(ag .u64 25 f)[r]? = some (.int .u64 (f r:Nat)):=by rw[agG,if_pos (by omega)]
   have c1:(ag .u64 25 f)[r+1]? = some (.int .u64 (f (r+1):Nat)):=by rw[agG,if_pos (by omega)]
   have c2:(ag .u64 25 f)[r+2]? = some (.int .u64 (f (r+2):Nat)):=by rw[agG,if_pos (by omega)]
   have c3:(ag .u64 25 f)[r+3]? = some (.int .u64 (f (r+3):Nat)):=by rw[agG,if_pos (by omega)]
   have c4:(ag .u64 25 f)[r+4]? = some (.int .u64 (f (r+4):Nat)):=by rw[agG,if_pos (by omega)]
   have hd:(r:Int)+4<25:=by omega
   have hd0:(r:Int)<25:=by omega
   clear hr20
   have E0:Hid _:=bits_xn _ _ _ (G.out (r) (by omega)) (G.out (r+1) (by omega)) (G.out (r+2) (by omega))
   have E1:Hid _:=bits_xn _ _ _ (G.out (r+1) (by omega)) (G.out (r+2) (by omega)) (G.out (r+3) (by omega))
   have E2:Hid _:=bits_xn _ _ _ (G.out (r+2) (by omega)) (G.out (r+3) (by omega)) (G.out (r+4) (by omega))
   have E3:Hid _:=bits_xn _ _ _ (G.out (r+3) (by omega)) (G.out (r+4) (by omega)) (G.out (r) (by omega))
   have E4:Hid _:=bits_xn _ _ _ (G.out (r+4) (by omega)) (G.out (r) (by omega)) (G.out (r+1) (by omega))
   go_upto_region 5 with fail
   go_region
   have s0:(ag .u64 25 h)[r]? = some (.int .u64 (h (r):Nat)):=by rw[agG,if_pos (by omega)]
   go_upto_region 7 with fail
   rw[(E0).out,ag_set]
   clear s0
   obtain ⟨h0,e0⟩:∃ q,q=upd h (r) (f (r) ^^^ nt (f (r+1)) (f (r+2))):=⟨_,rfl⟩
   rw[← e0]
   have F0:Hid _:=e0
   clear e0
   have s1:(ag .u64 25 h0)[r+1]? = some (.int .u64 (h0 (r+1):Nat)):=by rw[agG,if_pos (by omega)]
   go_upto_region 8 with fail
   rw[(E1).out,ag_set]
   clear s1
   obtain ⟨h1,e1⟩:∃ q,q=upd h0 (r+1) (f (r+1) ^^^ nt (f (r+2)) (f (r+3))):=⟨_,rfl⟩
   rw[← e1]
   have F1:Hid _:=e1
   clear e1
   have s2:(ag .u64 25 h1)[r+2]? = some (.int .u64 (h1 (r+2):Nat)):=by rw[agG,if_pos (by omega)]
   go_upto_region 9 with fail
   rw[(E2).out,ag_set]
   clear s2
   obtain ⟨h2,e2⟩:∃ q,q=upd h1 (r+2) (f (r+2) ^^^ nt (f (r+3)) (f (r+4))):=⟨_,rfl⟩
   rw[← e2]
   have F2:Hid _:=e2
   clear e2
   have s3:(ag .u64 25 h2)[r+3]? = some (.int .u64 (h2 (r+3):Nat)):=by rw[agG,if_pos (by omega)]
   go_upto_region 10 with fail
   rw[(E3).out,ag_set]
   clear s3
   obtain ⟨h3,e3⟩:∃ q,q=upd h2 (r+3) (f (r+3) ^^^ nt (f (r+4)) (f (r))):=⟨_,rfl⟩
   rw[← e3]
   have F3:Hid _:=e3
   clear e3
   have s4:(ag .u64 25 h3)[r+4]? = some (.int .u64 (h3 (r+4):Nat)):=by rw[agG,if_pos (by omega)]
   go_upto_region 4 with fail
   rw[(E4).out,ag_set]
   clear s4
   obtain ⟨h4,e4⟩:∃ q,q=upd h3 (r+4) (f (r+4) ^^^ nt (f (r)) (f (r+1))):=⟨_,rfl⟩
   rw[← e4]
   have F4:Hid _:=e4
   clear e4
   go_wp2
   go_roundw
   case rel=>
    obtain ⟨T,hr⟩:=HT.out
    refine ⟨j+1,r+5,nq+1,_,HJ.out,by omega,by go_num,rfl,?_⟩
    have T2:=T.step HJ.out
    rw[← hr] at T2
    rw[F4.out,F3.out,F2.out,F1.out,F0.out]
    exact T2
   case measure=>simp[intOf];omega
  ·have hjn:j=5:=by omega
   subst hjn
   obtain ⟨T,_⟩:=HT.out
   have e:ag .u64 25 h=ag .u64 25 (chi f):=ag_congr _ _ fun i hi=>by rw[T.hv i hi,if_pos (by omega)]
   rw[e,← HH.out]
   clear e T HT
   subst hr
   clear S
   go_upto_region 11 with fail
   refine wp_region_lit ?_
   refine wpList_vload rfl 100 (.tmp 3) rfl (w.heap.size+1+1) rfl .u64 25 h' (HRw.drewN (HRw.last (by simp)) nq) Tryz.underlying100 (by kernel_rfl) ?_
   intro v hv
   have hsz:=hv.size
   have hsc:=rSv (P:=Tryz.prog) hv (g:=w.heap.size+1) 100 (by kernel_rfl) (StoreTo.drewN (StoreTo.old (o:=Obj.cells (ag .u64 25 h') 100) (StoreTo.last (w:=w.alloc (Obj.cells (ag .u64 25 f) 100)) (c:=z25) (t:=100) (by simp) (by rfl))) nq)
   clear hv
   go_wp2
   exact bodyPost_ret (v:=A25 h') (rC1 (p:=2) (ty:=100) rfl (g:=w.heap.size+1) rfl (HRw.drewN (HRw.old (o:=Obj.cells (ag .u64 25 h') 100) (HRw.last (c:=ag .u64 25 h') (n:=w.heap.size+1) (w:=w.alloc (Obj.cells (ag .u64 25 f) 100)) (t:=100) (by simp))) nq) (agS _ _ _) Tryz.underlying100 (by kernel_rfl)) rfl ⟨rfl,by (repeat (first | exact Below.refl _ _ | apply Below.drew | apply below_drewN | refine bAl ?_ _))⟩
end
section
open Go.RowKit
def tn (i:Nat):Nat:=([0,1,62,28,27,36,44,6,55,20,3,10,43,25,39,41,45,15,21,8,18,2,61,56,14]:List Nat).getD i 0
def pl (i:Nat):Nat:=([0,10,20,5,15,16,1,11,21,6,7,17,2,12,22,23,8,18,3,13,14,24,9,19,4]:List Nat).getD i 0
def src (i:Nat):Nat:=([0,6,12,18,24,3,9,10,16,22,1,7,13,19,20,4,5,11,17,23,2,8,14,15,21]:List Nat).getD i 0
theorem tn_lt:∀ i,i<25→tn i<64:=by decide
theorem pl_lt:∀ i,i<25→pl i<25:=by decide
theorem src_lt:∀ i,i<25→src i<25:=by decide
theorem src_pl:∀ j,j<25→∀ i,i<25→(i=pl j↔src i=j):=by decide
def rho (f:Nat→Nat) (i:Nat):Nat:=rt (f (src i)) (tn (src i))
theorem rho_lt{f:Nat→Nat}(h:P25 f):P25 (rho f):=fun i hi=>rt_lt _ (h _ (src_lt i hi))
structure MV (f h:Nat→Nat) (j:Nat):Prop where
 hv:∀ i,i<25→h i=if src i<j then rho f i else 0
theorem MV.step{f h:Nat→Nat}{j:Nat}(hj:j<25)(s:MV f h j):MV f (upd h (pl j) (rt (f j) (tn j))) (j+1) where
 hv i hi:=by
  rw[upd_at]
  by_cases e:i=pl j
  ·have e2:=(src_pl j hj i hi).1 e
   rw[if_pos e,if_pos (by omega)];unfold rho;rw[e2]
  ·have e2:¬ src i=j:=fun h=>e ((src_pl j hj i hi).2 h)
   rw[if_neg e,s.hv i hi]
   by_cases hl:src i<j
   ·rw[if_pos hl,if_pos (by omega)]
   ·rw[if_neg hl,if_neg (by omega)]
theorem rot_bel(x k:Nat)(hx:x<M)(hk:k<64)(w:World):Calls Tryz.prog 164 #[B x,.int .i64 (k:Int)] w fun e w'=>e=.returned (B (rt x k))∧Below w.heap.size w w':=
 (rot_any x k hx hk w).mono fun e w' ⟨he,hw⟩=>⟨he,hw ▸ Below.refl _ _⟩
def TabRow (w:World) (g:Nat) (c:Array Value):Prop:=∃ t fr,w.heap[g]? = some (.cells c t fr)
theorem TabRow.below{w w':World}{g:Nat}{c:Array Value}(h:TabRow w g c)(hb:Below w.heap.size w w'):TabRow w' g c:=by
 obtain ⟨t,fr,h⟩:=h
 exact ⟨t,fr,by rw[hb.block g (Array.getElem?_eq_some_iff.1 h).1];exact h⟩
theorem TabRow.at{w:World}{g n:Nat}{k:IntKind}{f:Nat→Nat}(h:TabRow w g (ag k n f)){i:Nat}(hi:i<n):w.cell? ⟨g,i,none⟩=some (.int k (f i:Nat)):=by
 obtain ⟨t,fr,h⟩:=h
 rw[cell_of_row w g i _ t fr h,agG,if_pos hi]
structure Tabs (w:World) (mk:Nat→Nat):Prop where
 m:TabRow w 0 (ag .u64 24 mk)
 t:TabRow w 1 (ag .i64 25 tn)
 p:TabRow w 2 (ag .i64 25 pl)
theorem Tabs.below{w w':World}{mk:Nat→Nat}(h:Tabs w mk)(hb:Below w.heap.size w w'):Tabs w' mk:=⟨h.m.below hb,h.t.below hb,h.p.below hb⟩
set_option maxRecDepth 100000 in
theorem moved_any(f mk:Nat→Nat)(hf:P25 f)(w:World)(ht:Tabs w mk):Calls Tryz.prog 157 #[A25 f] w fun e w'=>e=.returned (A25 (rho f))∧Below w.heap.size w w':=by
 have S:Hid (MV f (fun _=>0) 0):=⟨fun i _=>by simp⟩
 obtain ⟨h',hh⟩:∃ q,q=rho f:=⟨_,rfl⟩
 rw[← hh]
 have HH:Hid _:=hh
 clear hh
 have G:Hid (P25 f):=hf
 have HT0:Hid (Tabs w mk):=ht
 clear hf ht
 go_enter Tryz.func157,Tryz.ntmps157
 go_wp2
 go_loopw [5] (fun i w'=>∃ (j:Nat) (h:Nat→Nat),j≤25∧i=.int .i64 (j:Int)∧HRw w' w.heap.size (ag .u64 25 f)∧HRw w' (w.heap.size+1) z25∧HRw w' (w.heap.size+1+1) (ag .u64 25 h)∧Below w.heap.size w w'∧MV f h j) (fun i _=>25-(intOf i).toNat)
 case atStart=>
  exact ⟨0,fun _=>0,Nat.zero_le _,rfl,HRw.old (HRw.old (HRw.last rfl)),HRw.old (HRw.last (by simp)),HRw.last (by simp),by repeat (first | exact Below.refl _ _ | refine bAl ?_ _),S.out⟩
 case round=>
  obtain ⟨j,h,hj,rfl,r1,r2,r3,bel,hT⟩:=hrel
  have R1:Hid (HRw wr w.heap.size (ag .u64 25 f)):=r1
  have R2:Hid (HRw wr (w.heap.size+1) z25):=r2
  have R3:Hid (HRw wr (w.heap.size+1+1) (ag .u64 25 h)):=r3
  have BL:Hid (Below w.heap.size w wr):=bel
  have HT:Hid (MV f h j):=hT
  clear hT r1 r2 r3 bel
  by_cases hlt:j<25
  ·have HJ:Hid (j<25):=hlt
   have hd0:(j:Int)<25:=by omega
   have RT:Hid (Tabs wr mk):=HT0.out.below BL.out
   have d1:=cell_regrown (TabRow.at RT.out.p HJ.out)
   have d2:=cell_regrown (TabRow.at RT.out.t HJ.out)
   have d3:=cell_regrown (HRw.at R1.out HJ.out)
   have hpl:=pl_lt j hlt
   have hp:(pl j:Int)<25:=by omega
   have HP:Hid (pl j<25):=hpl
   have HTN:Hid (tn j<64):=tn_lt j hlt
   clear hlt hj hpl
   generalize hpj:pl j=p at *
   generalize htj:tn j=tj at *
   have HPJ:Hid _:=hpj
   have HTJ:Hid _:=htj
   clear hpj htj
   go_upto_region 5 with fail
   refine wRlb (by kernel_rfl) (by kernel_rfl) (by simp) ?_
   simp only[List.dropLast]
   repeat (go_big_quiet_step (fail))
   go_big_quiet_step ((exact Calls.regrown_of (rot_bel (f j) tj (G.out j HJ.out) HTN.out _)))
   repeat (go_big_quiet_step (fail))
   refine wpQuiet_nil ?_
   intro w5 hw'
   have hb:Below wr.heap.size wr w5:=by obtain ⟨p,rfl⟩:=hw';exact below_regrown _ _ _
   clear hw' d1 d2 d3
   have q1:=HRw.at (R3.out.below hb) HP.out
   have q2:=HRw.frozen (R3.out.below hb) p
   have HB:Hid _:=hb
   clear hb
   refine wpOp_plain rfl rfl ?_
   go_simp
   go_wp2
   go_roundw
   case rel=>
    have hb:=HB.out
    refine ⟨j+1,_,HJ.out,by go_num,?_,?_,?_,?_,HT.out.step HJ.out⟩
    ·rw[HRw.setCell (R3.out.below hb)]
     exact (R1.out.below hb).set_other _ (by omega)
    ·rw[HRw.setCell (R3.out.below hb)]
     exact (R2.out.below hb).set_other _ (by omega)
    ·rw[HRw.setCell (R3.out.below hb),ag_set,HPJ.out,HTJ.out]
     exact (R3.out.below hb).set_same _
    ·rw[HRw.setCell (R3.out.below hb)]
     exact bSR (BL.out.trans (hb.mono BL.out.size)) (by omega) _
   case measure=>simp[intOf];have:=HJ.out;omega
  ·have hjn:j=25:=by omega
   subst hjn
   have T:=HT.out
   have e:ag .u64 25 h=ag .u64 25 (rho f):=ag_congr _ _ fun i hi=>by rw[T.hv i hi,if_pos (src_lt i hi)]
   have R4:Hid (HRw wr (w.heap.size+1+1) (ag .u64 25 h')):=by have:=R3.out;rw[e,← HH.out] at this;exact this
   clear e T HT S R3
   go_upto_region 7 with fail
   refine wp_region_lit ?_
   refine wpList_vload rfl 100 (.tmp 3) rfl (w.heap.size+1+1) rfl .u64 25 h' R4.out Tryz.underlying100 (by kernel_rfl) ?_
   intro v hv
   have hsz:=hv.size
   have hsc:=rSv (P:=Tryz.prog) hv (g:=w.heap.size+1) 100 (by kernel_rfl) (StoreTo.row R2.out (by rfl))
   clear hv
   go_wp2
   exact bodyPost_ret (v:=A25 h') (rC1 (p:=2) (ty:=100) rfl (g:=w.heap.size+1) rfl (HRw.set_same R2.out (ag .u64 25 h')) (agS _ _ _) Tryz.underlying100 (by kernel_rfl)) rfl ⟨rfl,bSR BL.out (by omega) _⟩
end
end Go.Proofs.YtfhppenjbmmadaaGreatDoor
