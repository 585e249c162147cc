import Derived.Test.YtfhppenjbmmadaaGreatDoorXtM32
namespace Go.Proofs.YtfhppenjbmmadaaGreatDoor
set_option linter.unusedVariables false
set_option maxHeartbeats 8000000
section
open Go.RowKit
abbrev z5:Array Value:=#[.int .u64 0,.int .u64 0,.int .u64 0,.int .u64 0,.int .u64 0]
theorem col_int(f:Nat→Nat)(h:P25 f)(x:Nat)(hx:x<5):bits .xor .u64 (bits .xor .u64 (bits .xor .u64 (bits .xor .u64 (f x:Nat) (f (x+5):Nat)) (f (x+10):Nat)) (f (x+15):Nat)) (f (x+20):Nat)=((col f x:Nat):Int):=by
 rw[bits_xor _ _ (h _ (by omega)) (h _ (by omega)),bits_xor _ _ (xor_lt (h _ (by omega)) (h _ (by omega))) (h _ (by omega)),bits_xor _ _ (xor_lt (xor_lt (h _ (by omega)) (h _ (by omega))) (h _ (by omega))) (h _ (by omega)),bits_xor _ _ (xor_lt (xor_lt (xor_lt (h _ (by omega)) (h _ (by omega))) (h _ (by omega))) (h _ (by omega))) (h _ (by omega))]
 rfl
theorem dd_int(f:Nat→Nat)(h:P25 f)(x:Nat):bits .xor .u64 (col f ((x+4)%5):Nat) (rt (col f ((x+1)%5)) 1:Nat)=((dd f x:Nat):Int):=by
 rw[bits_xor _ _ (col_lt h (by omega)) (rt_lt _ (col_lt h (by omega)))]
 rfl
theorem rot_one(x:Nat)(hx:x<M)(w:World):Calls Tryz.prog 164 #[B x,.int .i64 1] w fun e w'=>e=.returned (B (rt x 1))∧Below w.heap.size w w':=rot_bel x 1 hx (by decide) w
structure hCL (f h:Nat→Nat) (j:Nat):Prop where
 hv:∀ i,i<5→h i=if i<j then col f i else 0
theorem hCL.step{f h:Nat→Nat}{j:Nat}(s:hCL f h j):hCL f (upd h j (col f j)) (j+1) where
 hv i hi:=by
  rw[upd_at]
  by_cases e:i=j
  ·rw[if_pos e,if_pos (by omega),e]
  ·rw[if_neg e,s.hv i hi]
   by_cases hl:i<j
   ·rw[if_pos hl,if_pos (by omega)]
   ·rw[if_neg hl,if_neg (by omega)]
structure TI (f h:Nat→Nat) (x m:Nat):Prop where
 hv:∀ i,i<25→h i=if i%5<x∨(i%5=x∧i/5<m) then theta f i else f i
theorem TI.step{f h:Nat→Nat}{x m:Nat}(hx:x<5)(hm:m<5)(s:TI f h x m):TI f (upd h (x+5*m) (h (x+5*m) ^^^ dd f x)) x (m+1) where
 hv i hi:=by
  rw[upd_at]
  by_cases e:i=x+5*m
  ·rw[if_pos e,if_pos (by omega),s.hv (x+5*m) (by omega),if_neg (by omega),e]
   unfold theta
   rw[show (x+5*m)%5=x by omega]
  ·rw[if_neg e,s.hv i hi]
   by_cases hl:i%5<x∨(i%5=x∧i/5<m)
   ·rw[if_pos hl,if_pos (by omega)]
   ·rw[if_neg hl,if_neg (by omega)]
theorem TI.next{f h:Nat→Nat}{x:Nat}(s:TI f h x 5):TI f h (x+1) 0 where
 hv i hi:=by
  rw[s.hv i hi]
  by_cases hl:i%5<x∨(i%5=x∧i/5<5)
  ·rw[if_pos hl,if_pos (by omega)]
  ·rw[if_neg hl,if_neg (by omega)]
theorem TI.lt{f h:Nat→Nat}{x m:Nat}(s:TI f h x m)(hf:P25 f):P25 h:=fun i hi=>by
 rw[s.hv i hi];split
 ·exact theta_lt hf i hi
 ·exact hf i hi
set_option maxRecDepth 100000 in
theorem hspread_any(f:Nat→Nat)(hf:P25 f)(w:World):Calls Tryz.prog 158 #[A25 f] w fun e w'=>e=.returned (A25 (theta f))∧Below w.heap.size w w':=by
 have S:Hid (hCL f (fun _=>0) 0):=⟨fun i _=>by simp⟩
 obtain ⟨h',hh⟩:∃ q,q=theta f:=⟨_,rfl⟩
 rw[← hh]
 have HH:Hid _:=hh
 clear hh
 have G:Hid (P25 f):=hf
 clear hf
 go_enter Tryz.func158,Tryz.ntmps158
 go_wp2
 go_loopw [8] (fun i w'=>∃ (j:Nat) (h:Nat→Nat),j≤5∧i=.int .i64 (j:Int)∧HRw w' w.heap.size (ag .u64 25 f)∧HRw w' (w.heap.size+1) z25∧HRw w' (w.heap.size+1+1) (ag .u64 5 h)∧Below w.heap.size w w'∧hCL f h j) (fun i _=>5-(intOf i).toNat)
 case atStart=>
  exact ⟨0,fun _=>0,Nat.zero_le _,rfl,HRw.old (HRw.old (HRw.last rfl)),HRw.old (HRw.last (by simp)),HRw.last (by simp),by repeat (first | exact Below.refl _ _ | refine bAl ?_ _),S.out⟩
 case round=>
  obtain ⟨j,h,hj,rfl,r1,r2,r3,bel,hT⟩:=hrel
  have R1:Hid (HRw wr w.heap.size (ag .u64 25 f)):=r1
  have R2:Hid (HRw wr (w.heap.size+1) z25):=r2
  have R3:Hid (HRw wr (w.heap.size+1+1) (ag .u64 5 h)):=r3
  have BL:Hid (Below w.heap.size w wr):=bel
  have HT:Hid (hCL f h j):=hT
  clear hT r1 r2 r3 bel
  by_cases hlt:j<5
  ·have HJ:Hid (j<5):=hlt
   have hd0:(j:Int)<5:=by omega
   have hd1:(j:Int)+20<25:=by omega
   have d1:=cell_regrown (HRw.at R1.out (show j<25 by omega))
   have d2:=cell_regrown (HRw.at R1.out (show j+5<25 by omega))
   have d3:=cell_regrown (HRw.at R1.out (show j+10<25 by omega))
   have d4:=cell_regrown (HRw.at R1.out (show j+15<25 by omega))
   have d5:=cell_regrown (HRw.at R1.out (show j+20<25 by omega))
   have E:Hid _:=col_int f G.out j hlt
   clear hlt hj
   go_upto_region 5 with fail
   refine wRlb (by kernel_rfl) (by kernel_rfl) (by simp) ?_
   simp only[List.dropLast]
   repeat (go_big_quiet_step (fail))
   refine wpQuiet_nil ?_
   intro w5 hw'
   have hb:Below wr.heap.size wr w5:=by obtain ⟨p,rfl⟩:=hw';exact below_regrown _ _ _
   clear hw' d1 d2 d3 d4 d5
   have q1:=HRw.at (R3.out.below hb) HJ.out
   have q2:=HRw.frozen (R3.out.below hb) j
   have HB:Hid _:=hb
   clear hb
   refine wpOp_plain rfl rfl ?_
   go_simp
   rw[E.out]
   go_wp2
   go_roundw
   case rel=>
    have hb:=HB.out
    refine ⟨j+1,_,HJ.out,by go_num,?_,?_,?_,?_,HT.out.step⟩
    ·rw[HRw.setCell (R3.out.below hb)]
     exact (R1.out.below hb).set_other _ (by omega)
    ·rw[HRw.setCell (R3.out.below hb)]
     exact (R2.out.below hb).set_other _ (by omega)
    ·rw[HRw.setCell (R3.out.below hb),ag_set]
     exact (R3.out.below hb).set_same _
    ·rw[HRw.setCell (R3.out.below hb)]
     exact bSR (BL.out.trans (hb.mono BL.out.size)) (by omega) _
   case measure=>simp[intOf];have:=HJ.out;omega
  ·have hjn:j=5:=by omega
   subst hjn
   have T:=HT.out
   have e:ag .u64 5 h=ag .u64 5 (col f):=ag_congr _ _ fun i hi=>by rw[T.hv i hi,if_pos hi]
   have R4:Hid (HRw wr (w.heap.size+1+1) (ag .u64 5 (col f))):=by have:=R3.out;rw[e] at this;exact this
   clear e T HT S R3 hlt hj
   have S2:Hid (TI f f 0 0):=⟨fun i _=>by rw[if_neg (by omega)]⟩
   go_wp2
   go_loopw [37] (fun i w'=>∃ (j:Nat) (h:Nat→Nat),j≤5∧i=.int .i64 (j:Int)∧HRw w' w.heap.size (ag .u64 25 h)∧HRw w' (w.heap.size+1) z25∧HRw w' (w.heap.size+1+1) (ag .u64 5 (col f))∧Below w.heap.size w w'∧TI f h j 0) (fun i _=>5-(intOf i).toNat)
   case atStart=>
    exact ⟨0,f,Nat.zero_le _,rfl,R1.out,R2.out,R4.out,BL.out,S2.out⟩
   case round=>
    clear R1 R2 R4 BL S2
    obtain ⟨x,h,hx,rfl,r1,r2,r3,bel,hT⟩:=hrel
    have R1:Hid (HRw _ w.heap.size (ag .u64 25 h)):=r1
    have R2:Hid (HRw _ (w.heap.size+1) z25):=r2
    have R3:Hid (HRw _ (w.heap.size+1+1) (ag .u64 5 (col f))):=r3
    have BL:Hid (Below w.heap.size w _):=bel
    have HT:Hid (TI f h x 0):=hT
    clear hT r1 r2 r3 bel
    by_cases hlt:x<5
    ·have HJ:Hid (x<5):=hlt
     have hd0:(x:Int)<5:=by omega
     have d1:=cell_regrown (HRw.at R3.out (show (x+4)%5<5 by omega))
     have d2:=cell_regrown (HRw.at R3.out (show (x+1)%5<5 by omega))
     have E:Hid _:=dd_int f G.out x
     clear hlt hx
     go_upto_region 10 with fail
     refine wp_region_quiet_below (by kernel_rfl) (by kernel_rfl) ?_
     repeat (go_big_quiet_step (fail))
     go_big_quiet_step ((exact Calls.regrown_of (rot_one (col f ((x+1)%5)) (col_lt G.out (by omega)) _)))
     repeat (go_big_quiet_step (fail))
     rw[E.out]
     refine wpQuiet_nil ?_
     intro w5 hw'
     have hb:Below wr.heap.size wr w5:=by obtain ⟨p,rfl⟩:=hw';exact below_regrown _ _ _
     clear hw' d1 d2
     have Q1:Hid (HRw w5 w.heap.size (ag .u64 25 h)):=R1.out.below hb
     have Q2:Hid (HRw w5 (w.heap.size+1) z25):=R2.out.below hb
     have Q3:Hid (HRw w5 (w.heap.size+1+1) (ag .u64 5 (col f))):=R3.out.below hb
     have BM:Hid (Below w.heap.size w w5):=BL.out.trans (hb.mono BL.out.size)
     clear hb R1 R2 R3 BL
     obtain ⟨dx,hdx⟩:∃ q,q=dd f x:=⟨_,rfl⟩
     rw[← hdx]
     have HD:Hid _:=hdx
     clear hdx E
     go_wp2
     go_loopw [7] (fun i w'=>∃ (m r:Nat) (h:Nat→Nat),m≤5∧r=5*m∧i=.int .i64 (r:Int)∧HRw w' w.heap.size (ag .u64 25 h)∧HRw w' (w.heap.size+1) z25∧HRw w' (w.heap.size+1+1) (ag .u64 5 (col f))∧Below w.heap.size w w'∧TI f h x m) (fun i _=>25-(intOf i).toNat)
     case atStart=>
      exact ⟨0,0,h,Nat.zero_le _,rfl,rfl,Q1.out,Q2.out,Q3.out,BM.out,HT.out⟩
     case round=>
      clear Q1 Q2 Q3 BM HT
      obtain ⟨m,r,h2,hm,hr,rfl,r1,r2,r3,bel,hT⟩:=hrel
      have R1:Hid (HRw wr w.heap.size (ag .u64 25 h2)):=r1
      have R2:Hid (HRw wr (w.heap.size+1) z25):=r2
      have R3:Hid (HRw wr (w.heap.size+1+1) (ag .u64 5 (col f))):=r3
      have BL:Hid (Below w.heap.size w wr):=bel
      have HT:Hid (TI f h2 x m∧r=5*m):=⟨hT,hr⟩
      clear hT r1 r2 r3 bel
      by_cases hlt:m<5
      ·have HM:Hid (m<5):=hlt
       have hxx:=HJ.out
       have i1:(r:Int)<25:=by omega
       have i2:(x:Int)+(r:Int)<25:=by omega
       have HI:Hid (x+r<25):=by show x+r<25;omega
       clear hr hlt hm hxx
       have q1:=HRw.at R1.out HI.out
       have q2:=HRw.frozen R1.out (x+r)
       have E2:Hid (bits .xor .u64 ((h2 (x+r):Nat):Int) (dx:Int)=((h2 (x+r) ^^^ dx:Nat):Int)):=bits_xor _ _ (HT.out.1.lt G.out _ HI.out) (by rw[HD.out];exact dd_lt G.out x)
       go_upto_region 13 with fail
       rw[E2.out]
       go_wp2
       go_roundw
       case rel=>
        obtain ⟨T,hr⟩:=HT.out
        refine ⟨m+1,r+5,upd h2 (x+r) (h2 (x+r) ^^^ dx),HM.out,by omega,by go_num,?_,?_,?_,?_,?_⟩
        ·rw[HRw.setCell R1.out,ag_set];exact R1.out.set_same _
        ·rw[HRw.setCell R1.out];exact R2.out.set_other _ (by omega)
        ·rw[HRw.setCell R1.out];exact R3.out.set_other _ (by omega)
        ·rw[HRw.setCell R1.out];exact bSR BL.out (by omega) _
        ·rw[hr,HD.out];exact T.step HJ.out HM.out
       case measure=>simp[intOf];omega
      ·have hm5:m=5:=by omega
       subst hm5
       have hr25:r=25:=by omega
       subst hr25
       have hxx:=HJ.out
       clear hm hlt hr
       go_wp2
       go_roundw
       case rel=>
        exact ⟨x+1,h2,hxx,by go_num,R1.out,R2.out,R3.out,BL.out,HT.out.1.next⟩
       case measure=>simp[intOf];omega
    ·have hx5:x=5:=by omega
     subst hx5
     have T:=HT.out
     have e:ag .u64 25 h=ag .u64 25 (theta f):=ag_congr _ _ fun i hi=>by rw[T.hv i hi,if_pos (by omega)]
     have R4:Hid (HRw wr w.heap.size (ag .u64 25 h')):=by have:=R1.out;rw[e,← HH.out] at this;exact this
     clear e T HT R1 hlt hx
     go_upto_region 16 with fail
     refine wp_region_lit ?_
     refine wpList_vload rfl 100 (.tmp 1) rfl w.heap.size rfl .u64 25 h' R4.out Tryz.underlying100 (by kernel_rfl) ?_
     intro v hv
     have hsz:=hv.size
     have hsc:=rSv (P:=Tryz.prog) hv (g:=w.heap.size+1) 100 (by kernel_rfl) (StoreTo.row R2.out (by rfl))
     clear hv
     go_wp2
     exact bodyPost_ret (v:=A25 h') (rC1 (p:=2) (ty:=100) rfl (g:=w.heap.size+1) rfl (HRw.set_same R2.out (ag .u64 25 h')) (agS _ _ _) Tryz.underlying100 (by kernel_rfl)) rfl ⟨rfl,bSR BL.out (by omega) _⟩
end
section
open Go.RowKit
def ki (i:Nat):Nat:=([1,32898,9223372036854808714,9223372039002292224,32907,2147483649,9223372039002292353,9223372036854808585,138,136,2147516425,2147483658,2147516555,9223372036854775947,9223372036854808713,9223372036854808579,9223372036854808578,9223372036854775936,32778,9223372039002259466,9223372039002292353,9223372036854808704,2147483649,9223372039002292232]:List Nat).getD i 0
theorem ki_lt:∀ i,i<24→ki i<M:=by decide
def rd (f:Nat→Nat) (k:Nat):Nat→Nat:=upd (chi (rho (theta f))) 0 (chi (rho (theta f)) 0 ^^^ ki k)
def prm (f:Nat→Nat):Nat→Nat→Nat
 | 0=>f
 | k+1=>rd (prm f k) k
theorem rd_lt{f:Nat→Nat}(h:P25 f){k:Nat}(hk:k<24):P25 (rd f k):=fun i hi=>by
 have hc:=chi_lt (rho_lt (theta_lt h))
 unfold rd;rw[upd_at];split
 ·exact xor_lt (hc 0 (by decide)) (ki_lt k hk)
 ·exact hc i hi
theorem prm_lt{f:Nat→Nat}(h:P25 f):∀ k,k≤24→P25 (prm f k)
 | 0,_=>h
 | k+1,hk=>rd_lt (prm_lt h k (by omega)) (by omega)
theorem Calls.v25{fn:Nat}{f g:Nat→Nat}{w:World}(h:Calls Tryz.prog fn #[A25 f] w fun e w'=>e=.returned (A25 g)∧Below w.heap.size w w'){c:Array Value}(hc:IsRow c .u64 25 f) :
  Calls Tryz.prog fn #[.agg c] w fun e w'=>(∃ c',e=.returned (.agg c')∧IsRow c' .u64 25 g)∧Below w.heap.size w w':=by
 rw[hc.eq]
 exact h.mono fun e w' ⟨he,hb⟩=>⟨⟨_,he,⟨rfl⟩⟩,hb⟩
set_option maxRecDepth 100000 in
theorem permute_any(f:Nat→Nat)(hf:P25 f)(w:World)(ht:Tabs w ki):Calls Tryz.prog 140 #[A25 f] w fun e w'=>e=.returned (A25 (prm f 24))∧Below w.heap.size w w':=by
 obtain ⟨h',hh⟩:∃ q,q=prm f 24:=⟨_,rfl⟩
 rw[← hh]
 have HH:Hid _:=hh
 clear hh
 have G:Hid (P25 f):=hf
 have HT0:Hid (Tabs w ki):=ht
 clear hf ht
 go_enter Tryz.func140,Tryz.ntmps140
 go_wp2
 go_loopw [4] (fun i w'=>∃ (j:Nat) (h:Nat→Nat),j≤24∧i=.int .i64 (j:Int)∧HRw w' w.heap.size (ag .u64 25 h)∧HRw w' (w.heap.size+1) z25∧Below w.heap.size w w'∧h=prm f j) (fun i _=>24-(intOf i).toNat)
 case atStart=>
  exact ⟨0,f,Nat.zero_le _,rfl,HRw.old (HRw.last rfl),HRw.last (by simp),by repeat (first | exact Below.refl _ _ | refine bAl ?_ _),rfl⟩
 case round=>
  obtain ⟨j,h,hj,rfl,r1,r2,bel,hT⟩:=hrel
  have R1:Hid (HRw wr w.heap.size (ag .u64 25 h)):=r1
  have R2:Hid (HRw wr (w.heap.size+1) z25):=r2
  have BL:Hid (Below w.heap.size w wr):=bel
  have HT:Hid (h=prm f j):=hT
  clear hT r1 r2 bel
  by_cases hlt:j<24
  ·have HJ:Hid (j<24):=hlt
   have hd0:(j:Int)<24:=by omega
   have L:Hid (P25 h):=by have:=prm_lt G.out j (by omega);rw[← HT.out] at this;exact this
   have RT:Hid (Tabs wr ki):=HT0.out.below BL.out
   clear hlt hj
   go_upto_region 4 with fail
   refine wp_region_lit ?_
   refine wpList_vload rfl 100 (.tmp 1) rfl w.heap.size rfl .u64 25 h R1.out Tryz.underlying100 (by kernel_rfl) ?_
   intro c0 hc0
   have C0:Hid _:=hc0
   clear hc0
   go_wp2_with fail
   refine (Calls.v25 (hspread_any h L.out _) C0.out).mono ?_
   rintro e w1 ⟨⟨c1,rfl,hc1⟩,hb1⟩
   have C1:Hid _:=hc1
   have B1:Hid (Below wr.heap.size wr w1):=hb1
   clear hc1 hb1
   go_wp2_with fail
   refine (Calls.v25 (moved_any (theta h) ki (theta_lt L.out) _ (RT.out.below B1.out)) C1.out).mono ?_
   rintro e w2 ⟨⟨c2,rfl,hc2⟩,hb2⟩
   have C2:Hid _:=hc2
   have B2:Hid (Below wr.heap.size wr w2):=B1.out.trans (hb2.mono B1.out.size)
   clear hc2 hb2 B1
   go_wp2_with fail
   refine (Calls.v25 (sifted_any (rho (theta h)) (rho_lt (theta_lt L.out)) _) C2.out).mono ?_
   rintro e w3 ⟨⟨c3,rfl,hc3⟩,hb3⟩
   have B3:Hid (Below wr.heap.size wr w3):=B2.out.trans (hb3.mono B2.out.size)
   have Q1:Hid (HRw w3 w.heap.size (ag .u64 25 h)):=R1.out.below B3.out
   have Q2:Hid (HRw w3 (w.heap.size+1) z25):=R2.out.below B3.out
   have QT:Hid (Tabs w3 ki):=RT.out.below B3.out
   have BM:Hid (Below w.heap.size w w3):=BL.out.trans (B3.out.mono BL.out.size)
   have L3:Hid (P25 (chi (rho (theta h)))):=chi_lt (rho_lt (theta_lt L.out))
   have hsz:=hc3.size
   have hsc:=rSv (P:=Tryz.prog) hc3 (g:=w.heap.size) 100 (by kernel_rfl) (StoreTo.row Q1.out (agS _ _ _))
   clear hc3 hb3 B2 B3 R1 R2 RT BL C0 C1 C2
   obtain ⟨h3,hh3⟩:∃ q,q=chi (rho (theta h)):=⟨_,rfl⟩
   rw[← hh3] at L3 hsc
   have H3:Hid _:=hh3
   clear hh3
   go_upto_region 5 with fail
   refine name_world _ ?_
   intro w4 hw4
   have K1:Hid (HRw w4 w.heap.size (ag .u64 25 h3)):=by show HRw w4 _ _;rw[hw4];exact Q1.out.set_same _
   have K2:Hid (HRw w4 (w.heap.size+1) z25):=by show HRw w4 _ _;rw[hw4];exact Q2.out.set_other _ (by omega)
   have BN:Hid (Below w.heap.size w w4):=by show Below _ w w4;rw[hw4];exact bSR BM.out (Nat.le_refl _) _
   have KT:Hid (Tabs w4 ki):=HT0.out.below BN.out
   clear hw4 hsc Q1 Q2 QT BM hsz
   have d1:=cell_regrown (HRw.at K1.out (show 0<25 by omega))
   have d2:=cell_regrown (TabRow.at KT.out.m HJ.out)
   have E:Hid _:=bits_xor (h3 0) (ki j) (L3.out 0 (by decide)) (ki_lt j HJ.out)
   refine wRlb (by kernel_rfl) (by kernel_rfl) (by simp) ?_
   simp only[List.dropLast]
   repeat (go_big_quiet_step (fail))
   refine wpQuiet_nil ?_
   intro w5 hw'
   have hb:Below w4.heap.size w4 w5:=by obtain ⟨p,rfl⟩:=hw';exact below_regrown _ _ _
   clear hw' d1 d2
   have q1:=HRw.at (K1.out.below hb) (show 0<25 by omega)
   have q2:=HRw.frozen (K1.out.below hb) 0
   have HB:Hid _:=hb
   clear hb
   refine wpOp_plain rfl rfl ?_
   go_simp
   rw[E.out]
   go_wp2
   go_roundw
   case rel=>
    have hb:=HB.out
    refine ⟨j+1,_,HJ.out,by go_num,?_,?_,?_,rfl⟩
    ·rw[HRw.setCell (K1.out.below hb),ag_set,H3.out,HT.out]
     exact (K1.out.below hb).set_same _
    ·rw[HRw.setCell (K1.out.below hb)]
     exact (K2.out.below hb).set_other _ (by omega)
    ·rw[HRw.setCell (K1.out.below hb)]
     exact bSR (BN.out.trans (hb.mono BN.out.size)) (Nat.le_refl _) _
   case measure=>simp[intOf];have:=HJ.out;omega
  ·have hjn:j=24:=by omega
   subst hjn
   have R4:Hid (HRw wr w.heap.size (ag .u64 25 h')):=by have:=R1.out;rw[HT.out,← HH.out] at this;exact this
   clear HT R1
   go_upto_region 7 with fail
   refine wp_region_lit ?_
   refine wpList_vload rfl 100 (.tmp 1) rfl w.heap.size rfl .u64 25 h' R4.out Tryz.underlying100 (by kernel_rfl) ?_
   intro v hv
   have hsz:=hv.size
   have hsc:=rSv (P:=Tryz.prog) hv (g:=w.heap.size+1) 100 (by kernel_rfl) (StoreTo.row R2.out (by rfl))
   clear hv
   go_wp2
   exact bodyPost_ret (v:=A25 h') (rC1 (p:=2) (ty:=100) rfl (g:=w.heap.size+1) rfl (HRw.set_same R2.out (ag .u64 25 h')) (agS _ _ _) Tryz.underlying100 (by kernel_rfl)) rfl ⟨rfl,bSR BL.out (by omega) _⟩
end
end Go.Proofs.YtfhppenjbmmadaaGreatDoor
