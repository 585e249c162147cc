/- Laid one behind the other: Hn, Hs, Hm, Hp, Hq. -/
import Derived.Test.YthkpgfbjdabflaaGreatDoorKkGu
namespace Go.Proofs.YthkpgfbjdabflaaGreatDoor
open Go.RowKit Tryz
set_option linter.unusedVariables false
set_option maxRecDepth 100000
set_option maxHeartbeats 4000000
theorem vz{a b:Nat}(ha:a<M)(hb:b<M):a ^^^ b<M:=by rw[zau]at *;exact Nat.xor_lt_two_pow ha hb
theorem and_lt{a b:Nat}(ha:a<M):a &&& b<M:=Nat.lt_of_le_of_lt Nat.and_le_left ha
theorem or_lt{a b:Nat}(ha:a<M)(hb:b<M):a ||| b<M:=by rw[zau]at *;exact Nat.or_lt_two_pow ha hb
def hnt (b c:Nat):Nat:=c &&& (M-1-b)
theorem nt_lt{b c:Nat}(hc:c<M):hnt b c<M:=and_lt hc
theorem bits_not_and(b c:Nat)(hb:b<M)(hc:c<M):bits .andNot .u64 (c:Int) (b:Int)=((hnt b c:Nat):Int):=by
 have hx:hnt b c<2^64:=by rw[← zau];exact nt_lt hc
 have h1:(BitVec.ofInt 64 (c:Int)).toNat=c:=by
  rw[BitVec.ofInt_natCast,BitVec.toNat_ofNat];exact Nat.mod_eq_of_lt (by unfold M at hc;omega)
 have h2:(BitVec.ofInt 64 (b:Int)).toNat=b:=by
  rw[BitVec.ofInt_natCast,BitVec.toNat_ofNat];exact Nat.mod_eq_of_lt (by unfold M at hb;omega)
 show IntKind.u64.wrap ((BitVec.ofInt 64 (c:Int) &&& ~~~ BitVec.ofInt 64 (b:Int)).toNat:Int)=_;rw[BitVec.toNat_and,BitVec.toNat_not,h1,h2,IntKind.wrap_u64];have e:c &&& (2^64-1-b)=hnt b c:=by unfold hnt;rw[zau]
 rw[e];omega
theorem bits_xn(a b c:Nat)(ha:a<M)(hb:b<M)(hc:c<M):bits .xor .u64 (a:Int) (bits .andNot .u64 (c:Int) (b:Int))=((a ^^^ hnt b c:Nat):Int):=by
 rw[bits_not_and b c hb hc,qc _ _ ha (nt_lt hc)]
def rt (x k:Nat):Nat:=(x*2^k%M) ||| (x/2^(64-k))
theorem rt_lt{x:Nat}(k:Nat)(hx:x<M):rt x k<M:=or_lt (Nat.mod_lt _ (by decide)) (Nat.lt_of_le_of_lt (Nat.div_le_self _ _) hx)
theorem rt_int(x k:Nat)(hx:x<M):bits .or .u64 (IntKind.u64.wrap ((x:Int)*2^k)) ((x:Int)/2^(64-k))=((rt x k:Nat):Int):=by
 have e1:IntKind.u64.wrap ((x:Int)*2^k)=((x*2^k%M:Nat):Int):=by
  rw[show(x:Int)*2^k=((x*2^k:Nat):Int) by simp];generalize x*2^k=y;simp only[IntKind.wrap_u64];unfold M;omega
 have e2:(x:Int)/2^(64-k)=((x/2^(64-k):Nat):Int):=by simp
 rw[e1,e2,ke _ _ (Nat.mod_lt _ (by decide)) (Nat.lt_of_le_of_lt (Nat.div_le_self _ _) hx)];rfl
abbrev P25 (f:Nat→Nat):Prop:=∀ i,i<25→f i<M
def n1 (i:Nat):Nat:=i/5*5+(i%5+1)%5
def n2 (i:Nat):Nat:=i/5*5+(i%5+2)%5
def chi (f:Nat→Nat) (i:Nat):Nat:=f i ^^^ hnt (f (n1 i)) (f (n2 i))
def col (f:Nat→Nat) (x:Nat):Nat:=f x ^^^ f (x+5) ^^^ f (x+10) ^^^ f (x+15) ^^^ f (x+20)
def dd (f:Nat→Nat) (x:Nat):Nat:=col f ((x+4)%5) ^^^ rt (col f ((x+1)%5)) 1
def zb0 (f:Nat→Nat) (i:Nat):Nat:=f i ^^^ dd f (i%5)
theorem n2_lt{i:Nat}(h:i<25):n2 i<25:=by unfold n2;omega
theorem chi_lt{f:Nat→Nat}(h:P25 f):P25 (chi f):=fun i hi=>vz (h i hi) (nt_lt (h _ (n2_lt hi)))
theorem col_lt{f:Nat→Nat}(h:P25 f){x:Nat}(hx:x<5):col f x<M:=
 vz (vz (vz (vz (h _ (by omega)) (h _ (by omega))) (h _ (by omega))) (h _ (by omega))) (h _ (by omega))
theorem dd_lt{f:Nat→Nat}(h:P25 f)(x:Nat):dd f x<M:=vz (col_lt h (by omega)) (rt_lt _ (col_lt h (by omega)))
theorem zdt{f:Nat→Nat}(h:P25 f):P25 (zb0 f):=fun i hi=>vz (h i hi) (dd_lt h _)
section
attribute [local go_sem] yy
theorem rot_any(x k:Nat)(hx:x<M)(hk:k<64)(w:World):Calls prog 330 #[B x,.int .i64 (k:Int)] w fun e w'=>e=.returned (B (rt x k))∧w'=w:=by
 have ha:bits .and .u64 (k:Int) 63=(k:Int):=by
  have e:=zbp k 63 (by unfold M;omega) (by decide);have e2:k &&& 63=k:=by rw[Nat.and_two_pow_sub_one_eq_mod k 6];omega
  rw[e2]at e;exact e
 have hr:Hid _:=rt_int x k hx;clear hx
 go_enter func330,ntmps330
 go_wp2
 rw[hr.out]
 go_ret
 exact⟨rfl,rfl⟩
abbrev z25:Array Value:=#[.int .u64 0,.int .u64 0,.int .u64 0,.int .u64 0,.int .u64 0,.int .u64 0,.int .u64 0,.int .u64 0,.int .u64 0,.int .u64 0,.int .u64 0,.int .u64 0,.int .u64 0,.int .u64 0,.int .u64 0,.int .u64 0,.int .u64 0,.int .u64 0,.int .u64 0,.int .u64 0,.int .u64 0,.int .u64 0,.int .u64 0,.int .u64 0,.int .u64 0]
abbrev A25 (f:Nat→Nat):Value:=.agg (ag .u64 25 f)
theorem km(f:Nat→Nat)(i x j:Nat):upd f i x j=if j=i then x else f j:=rfl
structure hSI (f h:Nat→Nat) (j:Nat):Prop where
 hv:∀ i,i<25→h i=if i<5*j then chi f i else 0
theorem hSI.step{f h:Nat→Nat}{j:Nat}(hj:j<5)(s:hSI f h j):hSI f (upd (upd (upd (upd (upd h (5*j) (f (5*j) ^^^ hnt (f (5*j+1)) (f (5*j+2)))) (5*j+1) (f (5*j+1) ^^^ hnt (f (5*j+2)) (f (5*j+3)))) (5*j+2) (f (5*j+2) ^^^ hnt (f (5*j+3)) (f (5*j+4)))) (5*j+3) (f (5*j+3) ^^^ hnt (f (5*j+4)) (f (5*j)))) (5*j+4) (f (5*j+4) ^^^ hnt (f (5*j)) (f (5*j+1)))) (j+1) where
 hv i hi:=by
  simp only[km];have key:∀ m,m<5→i=5*j+m→n1 i=5*j+(m+1)%5∧n2 i=5*j+(m+2)%5:=by
   intro m hm e;subst e;unfold n1 n2;rw[show(5*j+m)/5=j by omega,show(5*j+m)%5=m by omega];omega
  have c:∀ m,m<5→i=5*j+m→chi f i=f (5*j+m) ^^^ hnt (f (5*j+(m+1)%5)) (f (5*j+(m+2)%5)):=by
   intro m hm e;obtain⟨e1,e2⟩:=key m hm e;unfold chi;rw[e1,e2,e]
  by_cases h4:i=5*j+4
  ·rw[if_pos h4,if_pos (by omega),c 4 (by omega) h4];rfl
  by_cases h3:i=5*j+3
  ·rw[if_neg h4,if_pos h3,if_pos (by omega),c 3 (by omega) h3];rfl
  by_cases h2:i=5*j+2
  ·rw[if_neg h4,if_neg h3,if_pos h2,if_pos (by omega),c 2 (by omega) h2]
  by_cases h1:i=5*j+1
  ·rw[if_neg h4,if_neg h3,if_neg h2,if_pos h1,if_pos (by omega),c 1 (by omega) h1]
  by_cases h0:i=5*j
  ·rw[if_neg h4,if_neg h3,if_neg h2,if_neg h1,if_pos h0,if_pos (by omega),c 0 (by omega) h0];rfl
  rw[if_neg h4,if_neg h3,if_neg h2,if_neg h1,if_neg h0,s.hv i hi];by_cases hl:i<5*j
  ·rw[if_pos hl,if_pos (by omega)]
  ·rw[if_neg hl,if_neg (by omega)]
theorem zb.at{w:World}{g n:Nat}{k:IntKind}{f:Nat→Nat}(h:zb w g (ag k n f)){i:Nat}(hi:i<n):w.cell? ⟨g,i,none⟩=some (.int k (f i:Nat)):=by
 rw[h.cell,yd,if_pos hi]
theorem sifted_any(f:Nat→Nat)(hf:P25 f):RT 322 #[A25 f] (A25 (chi f)):=by
 intro w;have S:Hid (hSI f (fun _=>0) 0):=⟨fun i _=>by simp⟩
 have G:Hid (P25 f):=hf;clear hf;obtain⟨h',hh⟩:∃ q,q=chi f:=⟨_,rfl⟩
 rw[← hh];have HH:Hid _:=hh;clear hh
 go_enter func322,ntmps322
 go_wp2
 go_loopw [4] (fun i w'=>∃(j r nq:Nat) (h:Nat→Nat),j≤5∧r=5*j∧i=.int .i64 (r:Int)∧w'=(((w.alloc (Obj.cells (ag .u64 25 f) 203)).alloc (Obj.cells z25 203)).alloc (Obj.cells (ag .u64 25 h) 203)).drewN nq∧hSI f h j) (fun i _=>25-(intOf i).toNat)
 case atStart=>
  exact⟨0,0,0,fun _=>0,Nat.zero_le _,rfl,rfl,rfl,S.out⟩
 case round=>
  obtain⟨j,r,nq,h,hj,hr,rfl,rfl,hT⟩:=hrel;have HT:Hid (hSI f h j∧r=5*j):=⟨hT,hr⟩
  clear hT;by_cases hlt:j<5
  ·have hr20:r≤20:=by omega
   have HJ:Hid (j<5):=hlt;clear hr hlt hj;have c0:(ag .u64 25 f)[r]? = some (.int .u64 (f r:Nat)):=by rw[yd,if_pos (by omega)]
   have c1:(ag .u64 25 f)[r+1]? = some (.int .u64 (f (r+1):Nat)):=by rw[yd,if_pos (by omega)]
   have c2:(ag .u64 25 f)[r+2]? = some (.int .u64 (f (r+2):Nat)):=by rw[yd,if_pos (by omega)]
   have c3:(ag .u64 25 f)[r+3]? = some (.int .u64 (f (r+3):Nat)):=by rw[yd,if_pos (by omega)]
   have c4:(ag .u64 25 f)[r+4]? = some (.int .u64 (f (r+4):Nat)):=by rw[yd,if_pos (by omega)]
   have hd:(r:Int)+4<25:=by omega
   have hd0:(r:Int)<25:=by omega
   clear hr20;have E0:Hid _:=bits_xn _ _ _ (G.out (r) (by omega)) (G.out (r+1) (by omega)) (G.out (r+2) (by omega));have E1:Hid _:=bits_xn _ _ _ (G.out (r+1) (by omega)) (G.out (r+2) (by omega)) (G.out (r+3) (by omega));have E2:Hid _:=bits_xn _ _ _ (G.out (r+2) (by omega)) (G.out (r+3) (by omega)) (G.out (r+4) (by omega));have E3:Hid _:=bits_xn _ _ _ (G.out (r+3) (by omega)) (G.out (r+4) (by omega)) (G.out (r) (by omega));have E4:Hid _:=bits_xn _ _ _ (G.out (r+4) (by omega)) (G.out (r) (by omega)) (G.out (r+1) (by omega))
   go_upto_region 5 with fail
   go_region
   have s0:(ag .u64 25 h)[r]? = some (.int .u64 (h (r):Nat)):=by rw[yd,if_pos (by omega)]
   go_upto_region 7 with fail
   rw[(E0).out,xr];clear s0;obtain⟨h0,e0⟩:∃ q,q=upd h (r) (f (r) ^^^ hnt (f (r+1)) (f (r+2))):=⟨_,rfl⟩
   rw[← e0];have F0:Hid _:=e0;clear e0;have s1:(ag .u64 25 h0)[r+1]? = some (.int .u64 (h0 (r+1):Nat)):=by rw[yd,if_pos (by omega)]
   go_upto_region 8 with fail
   rw[(E1).out,xr];clear s1;obtain⟨h1,e1⟩:∃ q,q=upd h0 (r+1) (f (r+1) ^^^ hnt (f (r+2)) (f (r+3))):=⟨_,rfl⟩
   rw[← e1];have F1:Hid _:=e1;clear e1;have s2:(ag .u64 25 h1)[r+2]? = some (.int .u64 (h1 (r+2):Nat)):=by rw[yd,if_pos (by omega)]
   go_upto_region 9 with fail
   rw[(E2).out,xr];clear s2;obtain⟨h2,e2⟩:∃ q,q=upd h1 (r+2) (f (r+2) ^^^ hnt (f (r+3)) (f (r+4))):=⟨_,rfl⟩
   rw[← e2];have F2:Hid _:=e2;clear e2;have s3:(ag .u64 25 h2)[r+3]? = some (.int .u64 (h2 (r+3):Nat)):=by rw[yd,if_pos (by omega)]
   go_upto_region 10 with fail
   rw[(E3).out,xr];clear s3;obtain⟨h3,e3⟩:∃ q,q=upd h2 (r+3) (f (r+3) ^^^ hnt (f (r+4)) (f (r))):=⟨_,rfl⟩
   rw[← e3];have F3:Hid _:=e3;clear e3;have s4:(ag .u64 25 h3)[r+4]? = some (.int .u64 (h3 (r+4):Nat)):=by rw[yd,if_pos (by omega)]
   go_upto_region 4 with fail
   rw[(E4).out,xr];clear s4;obtain⟨h4,e4⟩:∃ q,q=upd h3 (r+4) (f (r+4) ^^^ hnt (f (r)) (f (r+1))):=⟨_,rfl⟩
   rw[← e4];have F4:Hid _:=e4;clear e4
   go_wp2
   go_roundw
   case rel=>
    obtain⟨T,hr⟩:=HT.out;refine⟨j+1,r+5,nq+1,_,HJ.out,by omega,by go_num,rfl,?_⟩;have T2:=T.step HJ.out;rw[← hr]at T2;rw[F4.out,F3.out,F2.out,F1.out,F0.out];exact T2
   case measure=>simp[intOf];omega
  ·have hjn:j=5:=by omega
   subst hjn;obtain⟨T,_⟩:=HT.out;have e:ag .u64 25 h=ag .u64 25 (chi f):=zbb _ _ fun i hi=>by rw[T.hv i hi,if_pos (by omega)]
   rw[e,← HH.out];clear e T HT;subst hr;clear S
   go_upto_region 11 with fail
   refine wp_region_lit ?_;refine y6 rfl 203 (.tmp 3) rfl (w.heap.size+1+1) rfl .u64 25 h' (zb.drewN (zb.last (by simp)) nq) underlying203 (by kernel_rfl) ?_;intro v hv;have hsz:=hv.size;have hsc:=zu (P:=prog) hv (g:=w.heap.size+1) 203 (by kernel_rfl) (yg.drewN (yg.old (o:=Obj.cells (ag .u64 25 h') 203) (yg.last (w:=w.alloc (Obj.cells (ag .u64 25 f) 203)) (c:=z25) (t:=203) (by simp) (by rfl))) nq);clear hv
   go_wp2
   exact bodyPost_ret (v:=A25 h') (yr (p:=2) (ty:=203) rfl (g:=w.heap.size+1) rfl (zb.drewN (zb.old (o:=Obj.cells (ag .u64 25 h') 203) (zb.last (c:=ag .u64 25 h') (n:=w.heap.size+1) (w:=w.alloc (Obj.cells (ag .u64 25 f) 203)) (t:=203) (by simp))) nq) (yj _ _ _) underlying203 (by kernel_rfl)) rfl ⟨rfl,by(repeat(first|exact Below.refl _ _|apply Below.drew|apply zb7|refine zj ?_ _))⟩
end
def htn (i:Nat):Nat:=([0,1,62,28,27,36,44,6,55,20,3,10,43,25,39,41,45,15,21,8,18,2,61,56,14]:List Nat).getD i 0
def pl (i:Nat):Nat:=([0,10,20,5,15,16,1,11,21,6,7,17,2,12,22,23,8,18,3,13,14,24,9,19,4]:List Nat).getD i 0
def src (i:Nat):Nat:=([0,6,12,18,24,3,9,10,16,22,1,7,13,19,20,4,5,11,17,23,2,8,14,15,21]:List Nat).getD i 0
theorem htn_lt:∀ i,i<25→htn i<64:=by decide
theorem pl_lt:∀ i,i<25→pl i<25:=by decide
theorem src_lt:∀ i,i<25→src i<25:=by decide
theorem src_pl:∀ j,j<25→∀ i,i<25→(i=pl j↔src i=j):=by decide
def rho (f:Nat→Nat) (i:Nat):Nat:=rt (f (src i)) (htn (src i))
theorem rho_lt{f:Nat→Nat}(h:P25 f):P25 (rho f):=fun i hi=>rt_lt _ (h _ (src_lt i hi))
structure MV (f h:Nat→Nat) (j:Nat):Prop where
 hv:∀ i,i<25→h i=if src i<j then rho f i else 0
theorem MV.step{f h:Nat→Nat}{j:Nat}(hj:j<25)(s:MV f h j):MV f (upd h (pl j) (rt (f j) (htn j))) (j+1) where
 hv i hi:=by
  rw[km];by_cases e:i=pl j
  ·have e2:=(src_pl j hj i hi).1 e;rw[if_pos e,if_pos (by omega)];unfold rho;rw[e2]
  ·have e2:¬ src i=j:=fun h=>e ((src_pl j hj i hi).2 h)
   rw[if_neg e,s.hv i hi];by_cases hl:src i<j
   ·rw[if_pos hl,if_pos (by omega)]
   ·rw[if_neg hl,if_neg (by omega)]
theorem rot_bel(x k:Nat)(hx:x<M)(hk:k<64)(w:World):Calls prog 330 #[B x,.int .i64 (k:Int)] w fun e w'=>e=.returned (B (rt x k))∧Below w.heap.size w w':=
 (rot_any x k hx hk w).mono fun e w' ⟨he,hw⟩=>⟨he,hw ▸ Below.refl _ _⟩
def qp (w:World) (g:Nat) (c:Array Value):Prop:=∃ t fr,w.heap[g]? = some (.cells c t fr)
theorem qp.below{w w':World}{g:Nat}{c:Array Value}(h:qp w g c)(hb:Below w.heap.size w w'):qp w' g c:=by
 obtain⟨t,fr,h⟩:=h;exact⟨t,fr,by rw[hb.block g (Array.getElem?_eq_some_iff.1 h).1];exact h⟩
theorem qp.at{w:World}{g n:Nat}{k:IntKind}{f:Nat→Nat}(h:qp w g (ag k n f)){i:Nat}(hi:i<n):w.cell? ⟨g,i,none⟩=some (.int k (f i:Nat)):=by
 obtain⟨t,fr,h⟩:=h;rw[cell_of_row w g i _ t fr h,yd,if_pos hi]
structure Tabs (w:World) (mk:Nat→Nat):Prop where
 m:qp w 4 (ag .u64 24 mk)
 t:qp w 5 (ag .i64 25 htn)
 p:qp w 6 (ag .i64 25 pl)
theorem Tabs.below{w w':World}{mk:Nat→Nat}(h:Tabs w mk)(hb:Below w.heap.size w w'):Tabs w' mk:=⟨h.m.below hb,h.t.below hb,h.p.below hb⟩
theorem moved_any(f mk:Nat→Nat)(hf:P25 f)(w:World)(ht:Tabs w mk):Calls prog 323 #[A25 f] w fun e w'=>e=.returned (A25 (rho f))∧Below w.heap.size w w':=by
 have S:Hid (MV f (fun _=>0) 0):=⟨fun i _=>by simp⟩
 obtain⟨h',hh⟩:∃ q,q=rho f:=⟨_,rfl⟩
 rw[← hh];have HH:Hid _:=hh;clear hh;have G:Hid (P25 f):=hf;have HT0:Hid (Tabs w mk):=ht;clear hf ht
 go_enter func323,ntmps323
 go_wp2
 go_loopw [5] (fun i w'=>∃(j:Nat) (h:Nat→Nat),j≤25∧i=.int .i64 (j:Int)∧zb w' w.heap.size (ag .u64 25 f)∧zb w' (w.heap.size+1) z25∧zb w' (w.heap.size+1+1) (ag .u64 25 h)∧Below w.heap.size w w'∧MV f h j) (fun i _=>25-(intOf i).toNat)
 case atStart=>
  exact⟨0,fun _=>0,Nat.zero_le _,rfl,zb.old (zb.old (zb.last rfl)),zb.old (zb.last (by simp)),zb.last (by simp),by repeat(first | exact Below.refl _ _ | refine zj ?_ _),S.out⟩
 case round=>
  obtain⟨j,h,hj,rfl,r1,r2,r3,bel,hT⟩:=hrel;have R1:Hid (zb wr w.heap.size (ag .u64 25 f)):=r1;have R2:Hid (zb wr (w.heap.size+1) z25):=r2;have R3:Hid (zb wr (w.heap.size+1+1) (ag .u64 25 h)):=r3;have BL:Hid (Below w.heap.size w wr):=bel;have HT:Hid (MV f h j):=hT;clear hT r1 r2 r3 bel;by_cases hlt:j<25
  ·have HJ:Hid (j<25):=hlt;have hd0:(j:Int)<25:=by omega
   have RT:Hid (Tabs wr mk):=HT0.out.below BL.out;have d1:=cell_regrown (qp.at RT.out.p HJ.out);have d2:=cell_regrown (qp.at RT.out.t HJ.out);have d3:=cell_regrown (zb.at R1.out HJ.out);have hpl:=pl_lt j hlt;have hp:(pl j:Int)<25:=by omega
   have HP:Hid (pl j<25):=hpl;have HTN:Hid (htn j<64):=htn_lt j hlt;clear hlt hj hpl;generalize hpj:pl j=p at *;generalize htj:htn j=tj at *;have HPJ:Hid _:=hpj;have HTJ:Hid _:=htj;clear hpj htj
   go_upto_region 5 with fail
   refine qh (by kernel_rfl) (by kernel_rfl) (by simp) ?_;simp only[List.dropLast]
   repeat(go_big_quiet_step (fail))
   go_big_quiet_step ((exact Calls.regrown_of (rot_bel (f j) tj (G.out j HJ.out) HTN.out _)))
   repeat(go_big_quiet_step (fail))
   refine wpQuiet_nil ?_;intro w5 hw';have hb:Below wr.heap.size wr w5:=by obtain⟨p,rfl⟩:=hw';exact below_regrown _ _ _
   clear hw' d1 d2 d3;have q1:=zb.at (R3.out.below hb) HP.out;have q2:=zb.frozen (R3.out.below hb) p;have HB:Hid _:=hb;clear hb;refine zbm rfl rfl ?_
   go_simp
   go_wp2
   go_roundw
   case rel=>
    have hb:=HB.out;refine⟨j+1,_,HJ.out,by go_num,?_,?_,?_,?_,HT.out.step HJ.out⟩
    ·rw[zb.setCell (R3.out.below hb)];exact(R1.out.below hb).set_other _ (by omega)
    ·rw[zb.setCell (R3.out.below hb)];exact(R2.out.below hb).set_other _ (by omega)
    ·rw[zb.setCell (R3.out.below hb),xr,HPJ.out,HTJ.out];exact(R3.out.below hb).set_same _
    ·rw[zb.setCell (R3.out.below hb)];exact zf (BL.out.trans (hb.mono BL.out.size)) (by omega) _
   case measure=>simp[intOf];have:=HJ.out;omega
  ·have hjn:j=25:=by omega
   subst hjn;have T:=HT.out;have e:ag .u64 25 h=ag .u64 25 (rho f):=zbb _ _ fun i hi=>by rw[T.hv i hi,if_pos (src_lt i hi)]
   have R4:Hid (zb wr (w.heap.size+1+1) (ag .u64 25 h')):=by have:=R3.out;rw[e,← HH.out]at this;exact this
   clear e T HT S R3
   go_upto_region 7 with fail
   refine wp_region_lit ?_;refine y6 rfl 203 (.tmp 3) rfl (w.heap.size+1+1) rfl .u64 25 h' R4.out underlying203 (by kernel_rfl) ?_;intro v hv;have hsz:=hv.size;have hsc:=zu (P:=prog) hv (g:=w.heap.size+1) 203 (by kernel_rfl) (yg.row R2.out (by rfl));clear hv
   go_wp2
   exact bodyPost_ret (v:=A25 h') (yr (p:=2) (ty:=203) rfl (g:=w.heap.size+1) rfl (zb.set_same R2.out (ag .u64 25 h')) (yj _ _ _) underlying203 (by kernel_rfl)) rfl ⟨rfl,zf BL.out (by omega) _⟩
abbrev z5:Array Value:=#[.int .u64 0,.int .u64 0,.int .u64 0,.int .u64 0,.int .u64 0]
theorem col_int(f:Nat→Nat)(h:P25 f)(x:Nat)(hx:x<5):bits .xor .u64 (bits .xor .u64 (bits .xor .u64 (bits .xor .u64 (f x:Nat) (f (x+5):Nat)) (f (x+10):Nat)) (f (x+15):Nat)) (f (x+20):Nat)=((col f x:Nat):Int):=by
 rw[qc _ _ (h _ (by omega)) (h _ (by omega)),qc _ _ (vz (h _ (by omega)) (h _ (by omega))) (h _ (by omega)),qc _ _ (vz (vz (h _ (by omega)) (h _ (by omega))) (h _ (by omega))) (h _ (by omega)),qc _ _ (vz (vz (vz (h _ (by omega)) (h _ (by omega))) (h _ (by omega))) (h _ (by omega))) (h _ (by omega))];rfl
theorem dd_int(f:Nat→Nat)(h:P25 f)(x:Nat):bits .xor .u64 (col f ((x+4)%5):Nat) (rt (col f ((x+1)%5)) 1:Nat)=((dd f x:Nat):Int):=by
 rw[qc _ _ (col_lt h (by omega)) (rt_lt _ (col_lt h (by omega)))];rfl
theorem rot_one(x:Nat)(hx:x<M)(w:World):Calls prog 330 #[B x,.int .i64 1] w fun e w'=>e=.returned (B (rt x 1))∧Below w.heap.size w w':=rot_bel x 1 hx (by decide) w
structure hCL (f h:Nat→Nat) (j:Nat):Prop where
 hv:∀ i,i<5→h i=if i<j then col f i else 0
theorem hCL.step{f h:Nat→Nat}{j:Nat}(s:hCL f h j):hCL f (upd h j (col f j)) (j+1) where
 hv i hi:=by
  rw[km];by_cases e:i=j
  ·rw[if_pos e,if_pos (by omega),e]
  ·rw[if_neg e,s.hv i hi];by_cases hl:i<j
   ·rw[if_pos hl,if_pos (by omega)]
   ·rw[if_neg hl,if_neg (by omega)]
structure TI (f h:Nat→Nat) (x m:Nat):Prop where
 hv:∀ i,i<25→h i=if i%5<x∨(i%5=x∧i/5<m)then zb0 f i else f i
theorem TI.step{f h:Nat→Nat}{x m:Nat}(hx:x<5)(hm:m<5)(s:TI f h x m):TI f (upd h (x+5*m) (h (x+5*m) ^^^ dd f x)) x (m+1) where
 hv i hi:=by
  rw[km];by_cases e:i=x+5*m
  ·rw[if_pos e,if_pos (by omega),s.hv (x+5*m) (by omega),if_neg (by omega),e];unfold zb0;rw[show(x+5*m)%5=x by omega]
  ·rw[if_neg e,s.hv i hi];by_cases hl:i%5<x∨(i%5=x∧i/5<m)
   ·rw[if_pos hl,if_pos (by omega)]
   ·rw[if_neg hl,if_neg (by omega)]
theorem TI.next{f h:Nat→Nat}{x:Nat}(s:TI f h x 5):TI f h (x+1) 0 where
 hv i hi:=by
  rw[s.hv i hi];by_cases hl:i%5<x∨(i%5=x∧i/5<5)
  ·rw[if_pos hl,if_pos (by omega)]
  ·rw[if_neg hl,if_neg (by omega)]
theorem TI.lt{f h:Nat→Nat}{x m:Nat}(s:TI f h x m)(hf:P25 f):P25 h:=fun i hi=>by
 rw[s.hv i hi];split
 ·exact zdt hf i hi
 ·exact hf i hi
theorem spread_any(f:Nat→Nat)(hf:P25 f):RT 324 #[A25 f] (A25 (zb0 f)):=by
 intro w;have S:Hid (hCL f (fun _=>0) 0):=⟨fun i _=>by simp⟩
 obtain⟨h',hh⟩:∃ q,q=zb0 f:=⟨_,rfl⟩
 rw[← hh];have HH:Hid _:=hh;clear hh;have G:Hid (P25 f):=hf;clear hf
 go_enter func324,ntmps324
 go_wp2
 go_loopw [8] (fun i w'=>∃(j:Nat) (h:Nat→Nat),j≤5∧i=.int .i64 (j:Int)∧zb w' w.heap.size (ag .u64 25 f)∧zb w' (w.heap.size+1) z25∧zb w' (w.heap.size+1+1) (ag .u64 5 h)∧Below w.heap.size w w'∧hCL f h j) (fun i _=>5-(intOf i).toNat)
 case atStart=>
  exact⟨0,fun _=>0,Nat.zero_le _,rfl,zb.old (zb.old (zb.last rfl)),zb.old (zb.last (by simp)),zb.last (by simp),by repeat(first | exact Below.refl _ _ | refine zj ?_ _),S.out⟩
 case round=>
  obtain⟨j,h,hj,rfl,r1,r2,r3,bel,hT⟩:=hrel;have R1:Hid (zb wr w.heap.size (ag .u64 25 f)):=r1;have R2:Hid (zb wr (w.heap.size+1) z25):=r2;have R3:Hid (zb wr (w.heap.size+1+1) (ag .u64 5 h)):=r3;have BL:Hid (Below w.heap.size w wr):=bel;have HT:Hid (hCL f h j):=hT;clear hT r1 r2 r3 bel;by_cases hlt:j<5
  ·have HJ:Hid (j<5):=hlt;have hd0:(j:Int)<5:=by omega
   have hd1:(j:Int)+20<25:=by omega
   have d1:=cell_regrown (zb.at R1.out (show j<25 by omega));have d2:=cell_regrown (zb.at R1.out (show j+5<25 by omega));have d3:=cell_regrown (zb.at R1.out (show j+10<25 by omega));have d4:=cell_regrown (zb.at R1.out (show j+15<25 by omega));have d5:=cell_regrown (zb.at R1.out (show j+20<25 by omega));have E:Hid _:=col_int f G.out j hlt;clear hlt hj
   go_upto_region 5 with fail
   refine qh (by kernel_rfl) (by kernel_rfl) (by simp) ?_;simp only[List.dropLast]
   repeat(go_big_quiet_step (fail))
   refine wpQuiet_nil ?_;intro w5 hw';have hb:Below wr.heap.size wr w5:=by obtain⟨p,rfl⟩:=hw';exact below_regrown _ _ _
   clear hw' d1 d2 d3 d4 d5;have q1:=zb.at (R3.out.below hb) HJ.out;have q2:=zb.frozen (R3.out.below hb) j;have HB:Hid _:=hb;clear hb;refine zbm rfl rfl ?_
   go_simp
   rw[E.out]
   go_wp2
   go_roundw
   case rel=>
    have hb:=HB.out;refine⟨j+1,_,HJ.out,by go_num,?_,?_,?_,?_,HT.out.step⟩
    ·rw[zb.setCell (R3.out.below hb)];exact(R1.out.below hb).set_other _ (by omega)
    ·rw[zb.setCell (R3.out.below hb)];exact(R2.out.below hb).set_other _ (by omega)
    ·rw[zb.setCell (R3.out.below hb),xr];exact(R3.out.below hb).set_same _
    ·rw[zb.setCell (R3.out.below hb)];exact zf (BL.out.trans (hb.mono BL.out.size)) (by omega) _
   case measure=>simp[intOf];have:=HJ.out;omega
  ·have hjn:j=5:=by omega
   subst hjn;have T:=HT.out;have e:ag .u64 5 h=ag .u64 5 (col f):=zbb _ _ fun i hi=>by rw[T.hv i hi,if_pos hi]
   have R4:Hid (zb wr (w.heap.size+1+1) (ag .u64 5 (col f))):=by have:=R3.out;rw[e]at this;exact this
   clear e T HT S R3 hlt hj;have S2:Hid (TI f f 0 0):=⟨fun i _=>by rw[if_neg (by omega)]⟩
   go_wp2
   go_loopw [37] (fun i w'=>∃(j:Nat) (h:Nat→Nat),j≤5∧i=.int .i64 (j:Int)∧zb w' w.heap.size (ag .u64 25 h)∧zb w' (w.heap.size+1) z25∧zb w' (w.heap.size+1+1) (ag .u64 5 (col f))∧Below w.heap.size w w'∧TI f h j 0) (fun i _=>5-(intOf i).toNat)
   case atStart=>
    exact⟨0,f,Nat.zero_le _,rfl,R1.out,R2.out,R4.out,BL.out,S2.out⟩
   case round=>
    clear R1 R2 R4 BL S2;obtain⟨x,h,hx,rfl,r1,r2,r3,bel,hT⟩:=hrel;have R1:Hid (zb _ w.heap.size (ag .u64 25 h)):=r1;have R2:Hid (zb _ (w.heap.size+1) z25):=r2;have R3:Hid (zb _ (w.heap.size+1+1) (ag .u64 5 (col f))):=r3;have BL:Hid (Below w.heap.size w _):=bel;have HT:Hid (TI f h x 0):=hT;clear hT r1 r2 r3 bel;by_cases hlt:x<5
    ·have HJ:Hid (x<5):=hlt;have hd0:(x:Int)<5:=by omega
     have d1:=cell_regrown (zb.at R3.out (show(x+4)%5<5 by omega));have d2:=cell_regrown (zb.at R3.out (show(x+1)%5<5 by omega));have E:Hid _:=dd_int f G.out x;clear hlt hx
     go_upto_region 10 with fail
     refine wp_region_quiet_below (by kernel_rfl) (by kernel_rfl) ?_
     repeat(go_big_quiet_step (fail))
     go_big_quiet_step ((exact Calls.regrown_of (rot_one (col f ((x+1)%5)) (col_lt G.out (by omega)) _)))
     repeat(go_big_quiet_step (fail))
     rw[E.out];refine wpQuiet_nil ?_;intro w5 hw';have hb:Below wr.heap.size wr w5:=by obtain⟨p,rfl⟩:=hw';exact below_regrown _ _ _
     clear hw' d1 d2;have Q1:Hid (zb w5 w.heap.size (ag .u64 25 h)):=R1.out.below hb;have Q2:Hid (zb w5 (w.heap.size+1) z25):=R2.out.below hb;have Q3:Hid (zb w5 (w.heap.size+1+1) (ag .u64 5 (col f))):=R3.out.below hb;have BM:Hid (Below w.heap.size w w5):=BL.out.trans (hb.mono BL.out.size);clear hb R1 R2 R3 BL;obtain⟨dx,hdx⟩:∃ q,q=dd f x:=⟨_,rfl⟩
     rw[← hdx];have HD:Hid _:=hdx;clear hdx E
     go_wp2
     go_loopw [7] (fun i w'=>∃(m r:Nat) (h:Nat→Nat),m≤5∧r=5*m∧i=.int .i64 (r:Int)∧zb w' w.heap.size (ag .u64 25 h)∧zb w' (w.heap.size+1) z25∧zb w' (w.heap.size+1+1) (ag .u64 5 (col f))∧Below w.heap.size w w'∧TI f h x m) (fun i _=>25-(intOf i).toNat)
     case atStart=>
      exact⟨0,0,h,Nat.zero_le _,rfl,rfl,Q1.out,Q2.out,Q3.out,BM.out,HT.out⟩
     case round=>
      clear Q1 Q2 Q3 BM HT;obtain⟨m,r,h2,hm,hr,rfl,r1,r2,r3,bel,hT⟩:=hrel;have R1:Hid (zb wr w.heap.size (ag .u64 25 h2)):=r1;have R2:Hid (zb wr (w.heap.size+1) z25):=r2;have R3:Hid (zb wr (w.heap.size+1+1) (ag .u64 5 (col f))):=r3;have BL:Hid (Below w.heap.size w wr):=bel;have HT:Hid (TI f h2 x m∧r=5*m):=⟨hT,hr⟩
      clear hT r1 r2 r3 bel;by_cases hlt:m<5
      ·have HM:Hid (m<5):=hlt;have hxx:=HJ.out;have i1:(r:Int)<25:=by omega
       have i2:(x:Int)+(r:Int)<25:=by omega
       have HI:Hid (x+r<25):=by show x+r<25;omega
       clear hr hlt hm hxx;have q1:=zb.at R1.out HI.out;have q2:=zb.frozen R1.out (x+r);have E2:Hid (bits .xor .u64 ((h2 (x+r):Nat):Int) (dx:Int)=((h2 (x+r) ^^^ dx:Nat):Int)):=qc _ _ (HT.out.1.lt G.out _ HI.out) (by rw[HD.out];exact dd_lt G.out x)
       go_upto_region 13 with fail
       rw[E2.out]
       go_wp2
       go_roundw
       case rel=>
        obtain⟨T,hr⟩:=HT.out;refine⟨m+1,r+5,upd h2 (x+r) (h2 (x+r) ^^^ dx),HM.out,by omega,by go_num,?_,?_,?_,?_,?_⟩
        ·rw[zb.setCell R1.out,xr];exact R1.out.set_same _
        ·rw[zb.setCell R1.out];exact R2.out.set_other _ (by omega)
        ·rw[zb.setCell R1.out];exact R3.out.set_other _ (by omega)
        ·rw[zb.setCell R1.out];exact zf BL.out (by omega) _
        ·rw[hr,HD.out];exact T.step HJ.out HM.out
       case measure=>simp[intOf];omega
      ·have hm5:m=5:=by omega
       subst hm5;have hr25:r=25:=by omega
       subst hr25;have hxx:=HJ.out;clear hm hlt hr
       go_wp2
       go_roundw
       case rel=>
        exact⟨x+1,h2,hxx,by go_num,R1.out,R2.out,R3.out,BL.out,HT.out.1.next⟩
       case measure=>simp[intOf];omega
    ·have hx5:x=5:=by omega
     subst hx5;have T:=HT.out;have e:ag .u64 25 h=ag .u64 25 (zb0 f):=zbb _ _ fun i hi=>by rw[T.hv i hi,if_pos (by omega)]
     have R4:Hid (zb wr w.heap.size (ag .u64 25 h')):=by have:=R1.out;rw[e,← HH.out]at this;exact this
     clear e T HT R1 hlt hx
     go_upto_region 16 with fail
     refine wp_region_lit ?_;refine y6 rfl 203 (.tmp 1) rfl w.heap.size rfl .u64 25 h' R4.out underlying203 (by kernel_rfl) ?_;intro v hv;have hsz:=hv.size;have hsc:=zu (P:=prog) hv (g:=w.heap.size+1) 203 (by kernel_rfl) (yg.row R2.out (by rfl));clear hv
     go_wp2
     exact bodyPost_ret (v:=A25 h') (yr (p:=2) (ty:=203) rfl (g:=w.heap.size+1) rfl (zb.set_same R2.out (ag .u64 25 h')) (yj _ _ _) underlying203 (by kernel_rfl)) rfl ⟨rfl,zf BL.out (by omega) _⟩
def ki (i:Nat):Nat:=([1,32898,9223372036854808714,9223372039002292224,32907,2147483649,9223372039002292353,9223372036854808585,138,136,2147516425,2147483658,2147516555,9223372036854775947,9223372036854808713,9223372036854808579,9223372036854808578,9223372036854775936,32778,9223372039002259466,9223372039002292353,9223372036854808704,2147483649,9223372039002292232]:List Nat).getD i 0
theorem ki_lt:∀ i,i<24→ki i<M:=by decide
def rd (f:Nat→Nat) (k:Nat):Nat→Nat:=upd (chi (rho (zb0 f))) 0 (chi (rho (zb0 f)) 0 ^^^ ki k)
def prm (f:Nat→Nat):Nat→Nat→Nat
 | 0=>f
 | k+1=>rd (prm f k) k
theorem rd_lt{f:Nat→Nat}(h:P25 f){k:Nat}(hk:k<24):P25 (rd f k):=fun i hi=>by
 have hc:=chi_lt (rho_lt (zdt h));unfold rd;rw[km];split
 ·exact vz (hc 0 (by decide)) (ki_lt k hk)
 ·exact hc i hi
theorem prm_lt{f:Nat→Nat}(h:P25 f):∀ k,k≤24→P25 (prm f k)
 | 0,_=>h
 | k+1,hk=>rd_lt (prm_lt h k (by omega)) (by omega)
theorem Calls.v25{fn:Nat}{f g:Nat→Nat}{w:World}(h:Calls prog fn #[A25 f] w fun e w'=>e=.returned (A25 g)∧Below w.heap.size w w'){c:Array Value}(hc:IsRow c .u64 25 f) :
  Calls prog fn #[.agg c] w fun e w'=>(∃ c',e=.returned (.agg c')∧IsRow c' .u64 25 g)∧Below w.heap.size w w':=by
 rw[hc.eq];exact h.mono fun e w' ⟨he,hb⟩=>⟨⟨_,he,⟨rfl⟩⟩,hb⟩
theorem permute_any(f:Nat→Nat)(hf:P25 f)(w:World)(ht:Tabs w ki):Calls prog 302 #[A25 f] w fun e w'=>e=.returned (A25 (prm f 24))∧Below w.heap.size w w':=by
 obtain⟨h',hh⟩:∃ q,q=prm f 24:=⟨_,rfl⟩
 rw[← hh];have HH:Hid _:=hh;clear hh;have G:Hid (P25 f):=hf;have HT0:Hid (Tabs w ki):=ht;clear hf ht
 go_enter func302,ntmps302
 go_wp2
 go_loopw [4] (fun i w'=>∃(j:Nat) (h:Nat→Nat),j≤24∧i=.int .i64 (j:Int)∧zb w' w.heap.size (ag .u64 25 h)∧zb w' (w.heap.size+1) z25∧Below w.heap.size w w'∧h=prm f j) (fun i _=>24-(intOf i).toNat)
 case atStart=>
  exact⟨0,f,Nat.zero_le _,rfl,zb.old (zb.last rfl),zb.last (by simp),by repeat(first|exact Below.refl _ _|refine zj ?_ _),rfl⟩
 case round=>
  obtain⟨j,h,hj,rfl,r1,r2,bel,hT⟩:=hrel;have R1:Hid (zb wr w.heap.size (ag .u64 25 h)):=r1;have R2:Hid (zb wr (w.heap.size+1) z25):=r2;have BL:Hid (Below w.heap.size w wr):=bel;have HT:Hid (h=prm f j):=hT;clear hT r1 r2 bel;by_cases hlt:j<24
  ·have HJ:Hid (j<24):=hlt;have hd0:(j:Int)<24:=by omega
   have L:Hid (P25 h):=by have:=prm_lt G.out j (by omega);rw[← HT.out]at this;exact this
   have RT:Hid (Tabs wr ki):=HT0.out.below BL.out;clear hlt hj
   go_upto_region 4 with fail
   refine wp_region_lit ?_;refine y6 rfl 203 (.tmp 1) rfl w.heap.size rfl .u64 25 h R1.out underlying203 (by kernel_rfl) ?_;intro c0 hc0;have C0:Hid _:=hc0;clear hc0
   go_wp2_with fail
   refine(Calls.v25 (spread_any h L.out _) C0.out).mono ?_;rintro e w1 ⟨⟨c1,rfl,hc1⟩,hb1⟩;have C1:Hid _:=hc1;have B1:Hid (Below wr.heap.size wr w1):=hb1;clear hc1 hb1
   go_wp2_with fail
   refine(Calls.v25 (moved_any (zb0 h) ki (zdt L.out) _ (RT.out.below B1.out)) C1.out).mono ?_;rintro e w2 ⟨⟨c2,rfl,hc2⟩,hb2⟩;have C2:Hid _:=hc2;have B2:Hid (Below wr.heap.size wr w2):=B1.out.trans (hb2.mono B1.out.size);clear hc2 hb2 B1
   go_wp2_with fail
   refine(Calls.v25 (sifted_any (rho (zb0 h)) (rho_lt (zdt L.out)) _) C2.out).mono ?_;rintro e w3 ⟨⟨c3,rfl,hc3⟩,hb3⟩;have B3:Hid (Below wr.heap.size wr w3):=B2.out.trans (hb3.mono B2.out.size);have Q1:Hid (zb w3 w.heap.size (ag .u64 25 h)):=R1.out.below B3.out;have Q2:Hid (zb w3 (w.heap.size+1) z25):=R2.out.below B3.out;have QT:Hid (Tabs w3 ki):=RT.out.below B3.out;have BM:Hid (Below w.heap.size w w3):=BL.out.trans (B3.out.mono BL.out.size);have L3:Hid (P25 (chi (rho (zb0 h)))):=chi_lt (rho_lt (zdt L.out));have hsz:=hc3.size
   have hsc:=zu (P:=prog) hc3 (g:=w.heap.size) 203 (by kernel_rfl) (yg.row Q1.out (yj _ _ _));clear hc3 hb3 B2 B3 R1 R2 RT BL C0 C1 C2;obtain⟨h3,hh3⟩:∃ q,q=chi (rho (zb0 h)):=⟨_,rfl⟩
   rw[← hh3]at L3 hsc;have H3:Hid _:=hh3;clear hh3
   go_upto_region 5 with fail
   refine xz _ ?_;intro w4 hw4;have K1:Hid (zb w4 w.heap.size (ag .u64 25 h3)):=by show zb w4 _ _;rw[hw4];exact Q1.out.set_same _
   have K2:Hid (zb w4 (w.heap.size+1) z25):=by show zb w4 _ _;rw[hw4];exact Q2.out.set_other _ (by omega)
   have BN:Hid (Below w.heap.size w w4):=by show Below _ w w4;rw[hw4];exact zf BM.out (Nat.le_refl _) _
   have KT:Hid (Tabs w4 ki):=HT0.out.below BN.out;clear hw4 hsc Q1 Q2 QT BM hsz;have d1:=cell_regrown (zb.at K1.out (show 0<25 by omega));have d2:=cell_regrown (qp.at KT.out.m HJ.out);have E:Hid _:=qc (h3 0) (ki j) (L3.out 0 (by decide)) (ki_lt j HJ.out);refine qh (by kernel_rfl) (by kernel_rfl) (by simp) ?_;simp only[List.dropLast]
   repeat(go_big_quiet_step (fail))
   refine wpQuiet_nil ?_;intro w5 hw';have hb:Below w4.heap.size w4 w5:=by obtain⟨p,rfl⟩:=hw';exact below_regrown _ _ _
   clear hw' d1 d2;have q1:=zb.at (K1.out.below hb) (show 0<25 by omega);have q2:=zb.frozen (K1.out.below hb) 0;have HB:Hid _:=hb;clear hb;refine zbm rfl rfl ?_
   go_simp
   rw[E.out]
   go_wp2
   go_roundw
   case rel=>
    have hb:=HB.out;refine⟨j+1,_,HJ.out,by go_num,?_,?_,?_,rfl⟩
    ·rw[zb.setCell (K1.out.below hb),xr,H3.out,HT.out];exact(K1.out.below hb).set_same _
    ·rw[zb.setCell (K1.out.below hb)];exact(K2.out.below hb).set_other _ (by omega)
    ·rw[zb.setCell (K1.out.below hb)];exact zf (BN.out.trans (hb.mono BN.out.size)) (Nat.le_refl _) _
   case measure=>simp[intOf];have:=HJ.out;omega
  ·have hjn:j=24:=by omega
   subst hjn;have R4:Hid (zb wr w.heap.size (ag .u64 25 h')):=by have:=R1.out;rw[HT.out,← HH.out]at this;exact this
   clear HT R1
   go_upto_region 7 with fail
   refine wp_region_lit ?_;refine y6 rfl 203 (.tmp 1) rfl w.heap.size rfl .u64 25 h' R4.out underlying203 (by kernel_rfl) ?_;intro v hv;have hsz:=hv.size;have hsc:=zu (P:=prog) hv (g:=w.heap.size+1) 203 (by kernel_rfl) (yg.row R2.out (by rfl));clear hv
   go_wp2
   exact bodyPost_ret (v:=A25 h') (yr (p:=2) (ty:=203) rfl (g:=w.heap.size+1) rfl (zb.set_same R2.out (ag .u64 25 h')) (yj _ _ _) underlying203 (by kernel_rfl)) rfl ⟨rfl,zf BL.out (by omega) _⟩
end Go.Proofs.YthkpgfbjdabflaaGreatDoor
