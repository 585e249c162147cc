import Derived.Test.YtfhppenjbmmadaaGreatDoorXmM34
import Derived.Deep.OwnRows
namespace Go.Proofs.YtfhppenjbmmadaaGreatDoor
set_option linter.unusedVariables false
set_option maxHeartbeats 8000000
section
open Go.RowKit
def hpN (s:ByteArray):Nat:=s.size+(136-s.size%136)
def pd (s:ByteArray) (i:Nat):Nat:=if i=hpN s-1 then (if i=s.size then 129 else 128) else if i=s.size then 1 else if i<s.size then bt s i else 0
theorem pd_lt(s:ByteArray)(i:Nat):pd s i<256:=by
 unfold pd;split
 ·split<;>decide
 ·split
  ·decide
  ·split
   ·exact bt_lt _ _
   ·decide
theorem tk_congr{f g g':Nat→Nat}:∀ j,(∀ i,i<j→g i=g' i)→tk f g j=tk f g' j
 | 0,_=>rfl
 | j+1,h=>by unfold tk;rw[tk_congr j (fun i hi=>h i (by omega)),h j (by omega)]
def rs (s:ByteArray):Nat→Nat→Nat
 | 0=>fun _=>0
 | m+1=>prm (tk (rs s m) (fun i=>pd s (136*m+i)) 136) 24
theorem rs_succ(s:ByteArray)(m:Nat):rs s (m+1)=prm (tk (rs s m) (fun i=>pd s (136*m+i)) 136) 24:=by rw[rs]
theorem rs_lt(s:ByteArray):∀ m,P25 (rs s m)
 | 0=>fun _ _=>(by decide:(0:Nat)<M)
 | m+1=>by rw[rs_succ];exact prm_lt (tk_lt (rs_lt s m) (fun i _=>pd_lt s _) 136 (Nat.le_refl _)) 24 (Nat.le_refl _)
theorem rs_full(s:ByteArray):∀ m,m≤s.size/136→rs s m=spg (full s m)
 | 0,_=>rfl
 | m+1,hm=>by
  rw[full_succ,spg_snoc,← rs_full s m (by omega),rs_succ]
  refine congrArg (fun g=>prm g 24) (tk_congr 136 fun i hi=>?_)
  unfold pd hpN blk
  rw[if_neg (by omega),if_neg (by omega),if_pos (by omega)]
theorem rs_blks(s:ByteArray):rs s (s.size/136+1)=spg (blks s):=by
 unfold blks
 rw[spg_snoc,← rs_full s _ (Nat.le_refl _),rs_succ]
 refine congrArg (fun g=>prm g 24) (tk_congr 136 fun i hi=>?_)
 show pd s (136*(s.size/136)+i)=hfl (hdr s (136*(s.size/136))) i
 unfold pd hfl hpN
 rw[dr_size,bt_dr]
 by_cases h1:i=135
 ·rw[if_pos (by omega),if_pos h1]
  by_cases h2:135=s.size-136*(s.size/136)
  ·rw[if_pos h2,if_pos (by omega)]
  ·rw[if_neg h2,if_neg (by omega)]
 ·rw[if_neg (by omega),if_neg h1]
  by_cases h2:i=s.size-136*(s.size/136)
  ·rw[if_pos h2,if_pos (by omega)]
  ·rw[if_neg h2,if_neg (by omega)]
   by_cases h3:i<s.size-136*(s.size/136)
   ·rw[if_pos h3,if_pos (by omega)]
   ·rw[if_neg h3,if_neg (by omega)]
theorem made_ag(n:Nat):madeCells #[Value.int .u8 0] n=ag .u8 n (fun _=>0):=by
 apply Array.ext_getElem?
 intro i
 rw[agG]
 unfold madeCells
 simp[Nat.mod_one]
 by_cases h:i<n
 ·rw[Array.getElem?_eq_getElem (by simpa using h),if_pos h];rfl
 ·rw[Array.getElem?_eq_none (by simpa using h),if_neg h];rfl
theorem make_row(n:Nat)(hn:n≤281474976710656)(w:World):(Instr.makeSlice 61 (.int .i64 (n:Int)) (.int .i64 (n:Int))).run Tryz.prog w=.ok (.slice (some ⟨w.heap.size,0,none⟩) n n) (w.alloc (.cells (ag .u8 n fun _=>0) 5)):=by
 rw[← made_ag]
 exact run_make_row' 61 5 (.int .u8 0) 1 Tryz.underlying61 (by kernel_rfl) rfl .i64 .i64 n (by omega) (by omega) w
set_option maxRecDepth 100000 in
theorem rsum_any(s:ByteArray)(hs:s.size≤100000)(w:World):Calls Tryz.prog 36 #[.string s] w fun e w'=>e=.returned (.string (told (spg (blks s))))∧Below w.heap.size w w':=by
 obtain ⟨sr,hh⟩:∃ q,q=told (spg (blks s)):=⟨_,rfl⟩
 rw[← hh]
 obtain ⟨N,hN⟩:∃ n,n=hpN s:=⟨_,rfl⟩
 have HS:Hid (s.size≤100000∧sr=told (spg (blks s))∧N=hpN s):=⟨hs,hh,hN⟩
 have i0:(s.size:Int)≤100000:=by omega
 have i1:(s.size:Int)<(N:Int):=by unfold hpN at hN;omega
 have i2:(N:Int)≤100136:=by unfold hpN at hN;omega
 have hr:(s.size:Int)+(136-(s.size:Int)%136)=(N:Int):=by unfold hpN at hN;omega
 have hm:=fun w=>make_row N (by omega) w
 clear hs hh hN
 go_enter Tryz.func36,Tryz.ntmps36
 go_upto_region 3 with fail
 refine name_world _ ?_
 intro w0 hw0
 have K0:Hid (HRw w0 w.heap.size (ag .u8 N fun _=>0)∧Below w.heap.size w w0∧w0.heap.size=w.heap.size+1):=by
  show _∧_∧_
  rw[hw0]
  exact ⟨HRw.last rfl,bAl (Below.refl _ _) _,by simp⟩
 clear hw0 hm
 have hcp:=copy_row w0 w.heap.size N 3 (fun _=>0) s K0.out.1
 rw[show Nat.min s.size N=s.size from Nat.min_eq_left (by omega)] at hcp
 go_upto_region 4 with fail
 refine name_world _ ?_
 intro w1 hw1
 have K1:Hid (HRw w1 w.heap.size (ag .u8 N (ov s fun _=>0))∧Below w.heap.size w w1∧w1.heap.size=w.heap.size+1):=by
  show _∧_∧_
  rw[hw1]
  exact ⟨K0.out.1.set_same _,bSR K0.out.2.1 (Nat.le_refl _) _,by rw[sSR];exact K0.out.2.2⟩
 clear hw1 hcp K0
 have q1:=HRw.at K1.out.1 (show s.size<N by omega)
 have q2:=HRw.frozen K1.out.1 s.size
 go_upto_region 5 with fail
 refine name_world _ ?_
 intro w2 hw2
 obtain ⟨g2,hg2⟩:∃ q,q=upd (ov s fun _=>0) s.size 1:=⟨_,rfl⟩
 have K2:Hid (HRw w2 w.heap.size (ag .u8 N g2)∧Below w.heap.size w w2∧w2.heap.size=w.heap.size+1):=by
  show _∧_∧_
  rw[hw2,HRw.setCell K1.out.1,hg2,← ag_set]
  exact ⟨K1.out.1.set_same _,bSR K1.out.2.1 (Nat.le_refl _) _,by rw[sSR];exact K1.out.2.2⟩
 have HG2:Hid _:=hg2
 clear hw2 K1 q1 q2 hg2
 obtain ⟨L,hL⟩:∃ l,N=l+1:=⟨N-1,by omega⟩
 have g256:g2 L<256:=by rw[HG2.out,upd_at];split;decide;unfold ov;split;exact bt_lt _ _;exact (by decide:(0:Nat)<256)
 have q1:=HRw.at K2.out.1 (show L<N by omega)
 have q2:=HRw.frozen K2.out.1 L
 have E:Hid _:=or128 (g2 L) g256
 have hL1:(N:Int)-1=(L:Int):=by omega
 have HL:Hid (N=L+1):=hL
 clear g256 hL
 go_upto_region 6 with fail
 rw[E.out]
 refine name_world _ ?_
 intro w3 hw3
 have K3:Hid (HRw w3 w.heap.size (ag .u8 N (pd s))∧Below w.heap.size w w3∧w3.heap.size=w.heap.size+1):=by
  have e:ag .u8 N (upd g2 L (g2 L ||| 128))=ag .u8 N (pd s):=ag_congr _ _ fun i hi=>by
   have hs:=HS.out.2.2
   have hl:=HL.out
   rw[HG2.out,upd_at]
   unfold pd
   by_cases e1:i=L
   ·rw[if_pos e1,if_pos (by omega),upd_at]
    by_cases e2:L=s.size
    ·rw[if_pos e2,if_pos (by omega)];rfl
    ·rw[if_neg e2,if_neg (by omega)];unfold ov;rw[if_neg (by omega)];exact (by decide:(0:Nat) ||| 128=128)
   ·rw[if_neg e1,if_neg (by omega),upd_at]
    by_cases e2:i=s.size
    ·rw[if_pos e2,if_pos e2]
    ·rw[if_neg e2,if_neg e2];rfl
  show _∧_∧_
  rw[hw3,HRw.setCell K2.out.1,ag_set,e]
  exact ⟨K2.out.1.set_same _,bSR K2.out.2.1 (Nat.le_refl _) _,by rw[sSR];exact K2.out.2.2⟩
 clear hw3 K2 q1 q2 E HG2 HL hL1
 have hz3:w3.heap.size=w.heap.size+1:=K3.out.2.2
 go_upto_region 8 with fail
 refine name_world _ ?_
 intro w4 hw4
 have K4:Hid (HRw w4 w.heap.size (ag .u8 N (pd s))∧HRw w4 (w.heap.size+1) (ag .u64 25 fun _=>0)∧Below w.heap.size w w4):=by
  show _∧_∧_
  rw[hw4]
  exact ⟨HRw.old K3.out.1,HRw.last hz3.symm,bAl K3.out.2.1 _⟩
 clear hw4 hz3 K3
 obtain ⟨K,hK⟩:∃ k,k=s.size/136+1:=⟨_,rfl⟩
 have HK:Hid (K=s.size/136+1∧N=136*K):=⟨hK,by have:=HS.out.2.2;unfold hpN at this;omega⟩
 clear hK
 go_loopw [6] (fun i w'=>∃ (m p:Nat) (h:Nat→Nat),m≤K∧p=136*m∧i=.int .i64 (p:Int)∧HRw w' w.heap.size (ag .u8 N (pd s))∧HRw w' (w.heap.size+1) (ag .u64 25 h)∧Below w.heap.size w w'∧h=rs s m) (fun i _=>N-(intOf i).toNat)
 case atStart=>
  exact ⟨0,0,fun _=>0,Nat.zero_le _,rfl,rfl,K4.out.1,K4.out.2.1,K4.out.2.2,rfl⟩
 case round=>
  clear K4
  obtain ⟨m,p,h,hm,hp,rfl,r1,r2,bel,hT⟩:=hrel
  have R1:Hid (HRw wr w.heap.size (ag .u8 N (pd s))):=r1
  have R2:Hid (HRw wr (w.heap.size+1) (ag .u64 25 h)):=r2
  have BL:Hid (Below w.heap.size w wr):=bel
  have HT:Hid (h=rs s m∧p=136*m∧m≤K):=⟨hT,hp,hm⟩
  clear hT r1 r2 bel
  by_cases hlt:p<N
  ·have HP:Hid (m<K∧p+136≤N):=⟨by have:=HK.out.2;omega,by have:=HK.out.2;omega⟩
   have hd0:(p:Int)<(N:Int):=by omega
   have hd1:(p:Int)≤100000:=by have:=HP.out.2;omega
   clear hlt hp hm
   go_upto_region 11 with fail
   go_loopw [7] (fun i w'=>∃ (j:Nat) (h':Nat→Nat),j≤136∧i=.int .i64 (j:Int)∧HRw w' w.heap.size (ag .u8 N (pd s))∧HRw w' (w.heap.size+1) (ag .u64 25 h')∧Below w.heap.size w w'∧h'=tk h (fun i=>pd s (p+i)) j) (fun i _=>136-(intOf i).toNat)
   case atStart=>
    exact ⟨0,h,Nat.zero_le _,rfl,R1.out,R2.out,BL.out,rfl⟩
   case round=>
    obtain ⟨j,h',hj,rfl,r1,r2,bel,hT⟩:=hrel
    have P1:Hid (HRw wr w.heap.size (ag .u8 N (pd s))):=r1
    have P2:Hid (HRw wr (w.heap.size+1) (ag .u64 25 h')):=r2
    have BQ:Hid (Below w.heap.size w wr):=bel
    have HQ:Hid (h'=tk h (fun i=>pd s (p+i)) j):=hT
    clear hT r1 r2 bel
    by_cases hlt:j<136
    ·have HJ:Hid (j<136):=hlt
     have hj0:(j:Int)<136:=by omega
     have g256:=pd_lt s (p+j)
     have i4:((pd s (p+j):Nat):Int)<256:=by omega
     have i5:(j:Int)/8<25:=by omega
     have i6:(p:Int)+(j:Int)<(N:Int):=by have:=HP.out.2;omega
     have d1:=cell_regrown (HRw.at P2.out (show j/8<25 by omega))
     have d2:=cell_regrown (HRw.at P1.out (show p+j<N by have:=HP.out.2;omega))
     have E:Hid _:=take_int (h' (j/8)) (pd s (p+j)) (j%8) (by have:=tk_lt (f:=h) (by rw[HT.out.1];exact rs_lt s m) (fun i _=>pd_lt s (p+i)) j (by omega) (j/8) (by omega);rw[HQ.out];exact this) g256 (Nat.mod_lt _ (by decide))
     clear hlt hj g256
     go_upto_region 13 with fail
     refine wRlb (by kernel_rfl) (by kernel_rfl) (by simp) ?_
     simp only[List.dropLast]
     repeat (go_big_quiet_step (fail))
     refine wpQuiet_nil ?_
     intro w5 hw'
     have hb:Below wr.heap.size wr w5:=by obtain ⟨p,rfl⟩:=hw';exact below_regrown _ _ _
     clear hw' d1 d2
     have q1:=HRw.at (P2.out.below hb) (show j/8<25 by omega)
     have q2:=HRw.frozen (P2.out.below hb) (j/8)
     have HB:Hid _:=hb
     clear hb
     refine wpOp_plain rfl rfl ?_
     go_simp
     rw[show 8*(j%8)=j%8*8 from Nat.mul_comm _ _,E.out]
     go_wp2
     go_roundw
     case rel=>
      have hb:=HB.out
      refine ⟨j+1,_,HJ.out,by go_num,?_,?_,?_,rfl⟩
      ·rw[HRw.setCell (P2.out.below hb)]
       exact (P1.out.below hb).set_other _ (by omega)
      ·rw[HRw.setCell (P2.out.below hb),ag_set,HQ.out]
       exact (P2.out.below hb).set_same _
      ·rw[HRw.setCell (P2.out.below hb)]
       exact bSR (BQ.out.trans (hb.mono BQ.out.size)) (by omega) _
     case measure=>simp[intOf];have:=HJ.out;omega
    ·have hjn:j=136:=by omega
     subst hjn
     have HI:Hid (P25 h'):=by have:=tk_lt (f:=h) (by rw[HT.out.1];exact rs_lt s m) (fun i _=>pd_lt s (p+i)) 136 (Nat.le_refl _);rw[HQ.out];exact this
     clear hlt hj
     go_upto_region 14 with fail
     refine wp_region_lit ?_
     refine wpList_vload rfl 100 (.tmp 5) rfl (w.heap.size+1) rfl .u64 25 h' P2.out Tryz.underlying100 (by kernel_rfl) ?_
     intro c0 hc0
     have C0:Hid _:=hc0
     clear hc0
     go_wp2_with fail
     refine (Calls.v25 (rpermute_any h' HI.out _) C0.out).mono ?_
     rintro e w6 ⟨⟨c1,rfl,hc1⟩,hb1⟩
     have hsz1:=hc1.size
     have hs1:=rSv (P:=Tryz.prog) hc1 (g:=w.heap.size+1) 100 (by kernel_rfl) (StoreTo.row (P2.out.below hb1) (agS _ _ _))
     have HB1:Hid _:=hb1
     clear hc1 hb1
     go_wp2
     go_roundw
     case rel=>
      have hb:=HB1.out
      refine ⟨m+1,p+136,prm h' 24,HP.out.1,by have:=HT.out.2.1;omega,by go_num,(P1.out.below hb).set_other _ (by omega),(P2.out.below hb).set_same _,bSR (BQ.out.trans (hb.mono BQ.out.size)) (by omega) _,?_⟩
      rw[rs_succ,HQ.out,HT.out.1]
      have e:=HT.out.2.1
      rw[e]
     case measure=>simp[intOf];have:=HP.out.2;omega
  ·have hpn:m=K∧p=N:=by have:=HK.out.2;have h2:m=K:=(by omega);subst h2;omega
   obtain ⟨rfl,rfl⟩:=hpn
   have R4:Hid (HRw wr (w.heap.size+1) (ag .u64 25 (spg (blks s)))):=by
    have h2:=R2.out
    rw[HT.out.1,HK.out.1,rs_blks] at h2
    exact h2
   have S:Hid (TD (spg (blks s)) (fun _=>0) 0):=⟨fun i _=>by simp⟩
   have HZ:Hid (w.heap.size+1<wr.heap.size):=R2.out.lt
   clear hlt hp hm R1 R2 HT
   have hm:∀ w:World,(Instr.makeSlice 61 (.int .i64 32) (.int .i64 32)).run Tryz.prog w=.ok (.slice (some ⟨w.heap.size,0,none⟩) 32 32) (w.alloc (.cells (ag .u8 32 fun _=>0) 5)):=fun w=>make_row 32 (by decide) w
   generalize spg (blks s)=f at *
   go_upto_region 17 with fail
   refine name_world _ ?_
   intro w5 hw5
   obtain ⟨g8,hg8⟩:∃ g,g=wr.heap.size:=⟨_,rfl⟩
   have K5:Hid (HRw w5 (w.heap.size+1) (ag .u64 25 f)∧HRw w5 g8 (ag .u8 32 fun _=>0)∧Below w.heap.size w w5∧w.heap.size+1<g8):=by
    show _∧_∧_∧_
    rw[hw5]
    exact ⟨HRw.old R4.out,HRw.last hg8,bAl BL.out _,by rw[hg8];exact HZ.out⟩
   clear hw5 hm R4 BL HZ
   rw[← hg8]
   clear hg8
   go_loopw [9] (fun i w'=>∃ (j:Nat) (h:Nat→Nat),j≤32∧i=.int .i64 (j:Int)∧HRw w' (w.heap.size+1) (ag .u64 25 f)∧HRw w' g8 (ag .u8 32 h)∧Below w.heap.size w w'∧TD f h j) (fun i _=>32-(intOf i).toNat)
   case atStart=>
    exact ⟨0,fun _=>0,Nat.zero_le _,rfl,K5.out.1,K5.out.2.1,K5.out.2.2.1,S.out⟩
   case round=>
    have GG:Hid (w.heap.size+1<g8):=K5.out.2.2.2
    clear S K5
    obtain ⟨j,h,hj,rfl,r1,r2,bel,hT⟩:=hrel
    have P1:Hid (HRw wr (w.heap.size+1) (ag .u64 25 f)):=r1
    have P2:Hid (HRw wr g8 (ag .u8 32 h)):=r2
    have BQ:Hid (Below w.heap.size w wr):=bel
    have HQ:Hid (TD f h j):=hT
    clear hT r1 r2 bel
    by_cases hlt:j<32
    ·have HJ:Hid (j<32):=hlt
     have hd0:(j:Int)<32:=by omega
     have i2:(j:Int)/8<25:=by omega
     have d1:=HRw.at P1.out (show j/8<25 by omega)
     have q1:=HRw.at P2.out hlt
     have q2:=HRw.frozen P2.out j
     clear hlt hj
     go_wp2
     go_roundw
     case rel=>
      have hg:=GG.out
      refine ⟨j+1,_,HJ.out,by go_num,?_,?_,?_,HQ.out.step⟩
      ·rw[HRw.setCell P2.out];exact P1.out.set_other _ (by omega)
      ·rw[HRw.setCell P2.out]
       have ez:=ag_set .u8 32 h j (tb f j)
       rw[← ez]
       have e:((f (j/8):Nat):Int)/2^(8*(j%8))%256=((tb f j:Nat):Int):=by unfold tb;rw[show 8*(j%8)=j%8*8 from Nat.mul_comm _ _];simp
       rw[e]
       exact P2.out.set_same _
      ·rw[HRw.setCell P2.out];exact bSR BQ.out (by omega) _
     case measure=>simp[intOf];have:=HJ.out;omega
    ·have hjn:j=32:=by omega
     subst hjn
     have e:ag .u8 32 h=ag .u8 32 (tb f):=ag_congr _ _ fun i hi=>by rw[HQ.out.hv i hi,if_pos hi]
     have R3:Hid (HRw wr g8 (ag .u8 32 (tb f))):=by have:=P2.out;rw[e] at this;exact this
     have hcv:=hconv32 R3.out
     rw[show strOfNums ((List.range 32).map fun i=>((tb f i:Nat):Int))=sr from HS.out.2.1.symm] at hcv
     clear e HQ P2 hlt hj R3 P1
     go_wp2
     go_ret
     exact ⟨rfl,BQ.out⟩
end
section
open Go.RowKit
def pt (l:List Nat) (i:Nat):Nat:=l.getD i 0
def al (f g:Nat→Nat):Prop:=∀ i,i<25→f i=g i
theorem al_col{f g:Nat→Nat}(h:al f g){x:Nat}(hx:x<5):col f x=col g x:=by
 unfold col;rw[h x (by omega),h (x+5) (by omega),h (x+10) (by omega),h (x+15) (by omega),h (x+20) (by omega)]
theorem al_theta{f g:Nat→Nat}(h:al f g):al (theta f) (theta g):=fun i hi=>by
 unfold theta dd;rw[h i hi,al_col h (show (i%5+4)%5<5 by omega),al_col h (show (i%5+1)%5<5 by omega)]
theorem al_rho{f g:Nat→Nat}(h:al f g):al (rho f) (rho g):=fun i hi=>by
 unfold rho;rw[h _ (src_lt i hi)]
theorem al_chi{f g:Nat→Nat}(h:al f g):al (chi f) (chi g):=fun i hi=>by
 unfold chi;rw[h i hi,h _ (n1_lt hi),h _ (n2_lt hi)]
theorem al_rd{f g:Nat→Nat}(h:al f g)(k:Nat):al (rd f k) (rd g k):=fun i hi=>by
 have hc:=al_chi (al_rho (al_theta h))
 unfold rd;rw[upd_at,upd_at,hc 0 (by decide)]
 split
 ·rfl
 ·exact hc i hi
theorem al.step{f:Nat→Nat}{l l':List Nat}{k:Nat}(h:al (prm f k) (pt l))(e:∀ i,i<25→rd (pt l) k i=pt l' i):al (prm f (k+1)) (pt l'):=fun i hi=>by
 rw[show prm f (k+1)=rd (prm f k) k from rfl,al_rd h k i hi,e i hi]
theorem al_told{f g:Nat→Nat}(h:al f g):told f=told g:=by
 unfold told
 congr 1
 apply List.map_congr_left
 intro i hi
 have:i<32:=by simpa using hi
 unfold tb
 rw[h (i/8) (by omega)]
theorem told_size(f:Nat→Nat):(told f).size=32:=by
 unfold told strOfNums
 show Array.size _=32
 simp
theorem blks_short(s:ByteArray)(h:s.size<136):spg (blks s)=prm (tk (fun _=>0) (hfl s) 136) 24:=by
 unfold blks
 rw[Nat.div_eq_of_lt h,Nat.mul_zero,dr_zero]
 rfl
def zB:ByteArray:={ data:=#[0,0,0,0,0,0,0,0,0,0,0,0,0,0,0,0,0,0,0,0,0,0,0,0,0,0,0,0,0,0,0,1,0,0,0,0,0,0,0,0,0,0,0,0,0,0,0,0,0,0,0,0,0,0,0,0,0,0,0,0,0,0,0,0,0] }
theorem gk0:al (prm (tk (fun _=>0) (hfl zB) 136) 0) (pt [0,0,0,72057594037927936,0,0,0,0,256,0,0,0,0,0,0,0,9223372036854775808,0,0,0,0,0,0,0,0]):=by unfold al;decide +kernel
theorem gk1:al (prm (tk (fun _=>0) (hfl zB) 136) 1) (pt [4508066393358336,0,4508066397552704,1,4194368,1048584,17592454483968,1170935903116329032,17592187092992,1170935903384768576,0,9223372036854874145,262144,65537,9223372036855070752,34360262656,68736270592,0,34377056512,68719476736,2342012545868497024,9223374235878031360,140739635838976,2341874005255913600,9223372036854775808]):=gk0.step (by decide +kernel)
theorem gk2:al (prm (tk (fun _=>0) (hfl zB) 136) 2) (pt [12303880534109958768,292083782990005001,18022080016909607153,10899863987907008530,5154299719817933153,724220838625511747,12367749425005805107,11673672463855376724,738519981696495665,9921735991731977300,2387752446798667832,14994630531056175669,8178915551799271946,11617942757496098897,13893122268036094278,723823918146497745,4355877185065730947,441552893231934240,1948655220139335761,17104799096488758818,14025366702251951256,3178675239992168180,10836329991739612802,14872223115384235260,2656658326393202786]):=gk1.step (by decide +kernel)
theorem gk3:al (prm (tk (fun _=>0) (hfl zB) 136) 3) (pt [12980323303174012220,6433032080899138282,15505871951308521249,8024989768075226065,4070544979410834900,13144412413099056854,12987470527609151976,17160269276283614321,10779719699633257477,11887776832864756352,8970379978798203832,3343050174047355971,1433801132111028083,10291039344866388246,4387647420513373563,9331129620539437258,5757509426980211915,1633825553571746689,1761038231036731220,15022064785377273211,1289711734834219469,813627103600487613,15575873333352893740,2780065832801294881,8621882819995250820]):=gk2.step (by decide +kernel)
theorem gk4:al (prm (tk (fun _=>0) (hfl zB) 136) 4) (pt [3231660092202634880,12671450483077751064,3637167205628830217,17129574890669041748,12117726812082149710,17091664006408342112,8172443194411390354,12429721616001817361,12695767292264620165,13332343516877053624,2042667004765132996,1808541849613068921,15723823835487375153,6336931163189902915,8983003584989259456,8434260952511056408,6899484667101788680,9040956303487413282,16275080637629893709,9655425164088127562,5845165496099048405,10502270971722224724,17413770206794778447,2609529247758680227,3489161244283623412]):=gk3.step (by decide +kernel)
theorem gk5:al (prm (tk (fun _=>0) (hfl zB) 136) 5) (pt [14684862809640892660,148584166795636310,13321435362049383020,2338189651333483118,10849926408966685999,18401039196943086354,9837506272505387340,10707817378661228724,4660123872975013837,3189925885779432550,10319928743080764640,11461290373610361966,15912672122557722713,11841572935020175672,4677864406637197438,2958359521361656504,14637499389970775748,240217624631340997,8999088746814616661,6979506887264058964,17090655590396764337,17882798833574736985,5707104865530045940,15888621337182930245,16671147615828940955]):=gk4.step (by decide +kernel)
theorem gk6:al (prm (tk (fun _=>0) (hfl zB) 136) 6) (pt [8818282352063520986,7843696610917735280,2383828075206512182,7384145739132390564,11710298097103635507,12788691612590647826,14448890427152229651,16783302930533270709,6941544257143733259,4374006168715432936,6397307984611253585,536276151400977046,7142628047297027507,13970710700369756555,3918132199666742413,7659464032867073488,2304562657806057600,10639261201128885095,11096728793184035037,1169790068965452242,7258338666669072934,5677796887132700285,5960294126973904524,2220007971314314777,18094852111951926423]):=gk5.step (by decide +kernel)
theorem gk7:al (prm (tk (fun _=>0) (hfl zB) 136) 7) (pt [2246052716640917355,11672355365646602444,219511479032659320,3779067079702529760,6088230618657431658,3258456059827537606,656733166164566353,8970815460832328663,3385478245671564451,9704788350749184089,8388786513326599619,4953728829159660364,1792644352985069908,10610507969821814138,17565583158191267311,3012639453233888954,9088602840446483843,6447968086478634558,6862286495002651815,13029990185156960808,1194930234099077247,8846336520993527647,13708336349581074368,12620141798784945869,8886044600947132816]):=gk6.step (by decide +kernel)
theorem gk8:al (prm (tk (fun _=>0) (hfl zB) 136) 8) (pt [12018366120294565919,4089007162675029629,8875595202455182374,11568750352190330930,17658025643413428568,18026572602009187284,12827354104953344959,2937154431491857863,589800114003246792,8403956492077538446,11056804194768444665,15591140354989118987,17857339180739060973,17858062659151162674,1143602225646452446,16286935877447314519,4806771854094572899,17009674542746348708,177081410618974641,86364268291755132,10252257655776641460,13224972936214728595,7800447757463676175,5653575697621694624,2358676909507195391]):=gk7.step (by decide +kernel)
theorem gk9:al (prm (tk (fun _=>0) (hfl zB) 136) 9) (pt [5119792418090060845,12993603126319488426,5162007802457563618,12816552465683126967,8530695359626861314,16156641502991499235,8367356852822557087,5585373228552409099,1859798493507989375,11091872523553035832,3537123594118811601,2051702606532793195,10184488346834181686,6966746826003793284,4588958762237274144,4370904796219616367,17408100088993615793,13182441771572285861,12061128177414298301,14997147298956546137,9026190428156941883,13562828285620641991,18136684430839563443,13803818858256366097,15764609044491598069]):=gk8.step (by decide +kernel)
theorem gk10:al (prm (tk (fun _=>0) (hfl zB) 136) 10) (pt [1883271004165603669,6495725024362060776,17203458908353248055,13816380272857717625,172800348031873889,6645641162808241116,15144872325682979521,5136843853322137917,18421310472398703456,8923616281164406954,2561966127676448133,147416877482931870,15671807944851993006,9974007406344594059,10893864069525287619,11343597183318196366,13459909383828497999,15371175662082736508,9195422581340980188,13097329047322815450,14835011393106132506,5598582035567704453,16026667871706047312,3885371503180258098,16015137369960549850]):=gk9.step (by decide +kernel)
theorem gk11:al (prm (tk (fun _=>0) (hfl zB) 136) 11) (pt [16564383618686449326,3873862107413671542,4116384000639562084,2307812413497122973,9838421750843442517,2016627910566465299,15063913240011414081,17822859623757601664,16867228902820742597,6080498981165440254,1168704883197920192,15738504134863453720,12216009655651370793,14187405431210939551,5117100645436613665,10623624666056678605,6133763493659874037,6941357899074689293,1993216137071710673,16705019184320860204,7418311842205020013,8686647859090981738,12224396135678839443,4908739994848999085,2819901091676855348]):=gk10.step (by decide +kernel)
theorem gk12:al (prm (tk (fun _=>0) (hfl zB) 136) 12) (pt [15680703502919364880,12719079331440772624,13873189770653057299,7415131335316132530,9316652360817005797,14659155209130846055,15483111949909356845,5281864786952596243,15897077214539281722,11746384172154521482,11882865125800450076,11224215185457631632,15787103614353407390,11836837859285220753,12378237191870295946,643313439310930044,12834307879726256325,5010252824147630462,15732455671284752562,18040363808284468010,46954548948431147,6727669739396176684,7752964432776831111,3283739255715820553,11925992808202622532]):=gk11.step (by decide +kernel)
theorem gk13:al (prm (tk (fun _=>0) (hfl zB) 136) 13) (pt [3040885662046922298,13744985214676449885,3181855078613118689,255367398385870776,705489127854757234,2252114534546667281,11895173418135381376,18239609920654441210,10396553389136289212,8450154221307308692,7933139338690080973,2180283411646989511,8133939637720217482,1109921113562411946,17831605902211385600,2073101693458941933,11369099539981838771,3180412592854764536,2220118110447322995,18084115575680264409,9395111721181184021,7342597000823370668,3388581172539481429,14385728306593108824,5705249996784964312]):=gk12.step (by decide +kernel)
theorem gk14:al (prm (tk (fun _=>0) (hfl zB) 136) 14) (pt [8063623183681136781,8871712330419267375,2475854330416957421,17424365029986861121,15826965417337612148,9981569419562738945,2452539592673046938,6225939734534669708,4645739555362750590,7726352622938973187,6691346601992367356,15452993920439950454,16215571015276151523,10092068313480495376,6639457467101417049,1727946449445880014,9946076484366365573,8807286046252782195,9487908298956713396,11681269708867218238,14290118619490297119,12048647329961409608,16213328496329094507,4612426792700062248,13252485337577368943]):=gk13.step (by decide +kernel)
theorem gk15:al (prm (tk (fun _=>0) (hfl zB) 136) 15) (pt [3629358284296112501,1847601062823957956,17075650821268731303,4184705872203607620,11465705917854494836,10474485508994796036,12031597104648605721,676352706793271287,6274356303842665713,3985155324662527929,4916698780616220496,2449031215450665418,216834047810213718,2739930958423449228,9068250774164197110,10947191641772089846,12647321775412107916,11044349798153800594,12488340969292640960,5025688685422042899,6857829196343264995,3304938358043075180,5583603792311588363,18374712954530831582,14702060914727712623]):=gk14.step (by decide +kernel)
theorem gk16:al (prm (tk (fun _=>0) (hfl zB) 136) 16) (pt [6251980304670144919,3900464999187342002,9258258659429493361,16004410991071093526,5421361268829790351,9006636069018190886,15373966899440230284,5451524940054727241,11099634647165946463,5575563778528357966,9997243517746887662,13846390644049157000,869345024464196946,10333395547134773279,7779310592010759074,16088742162871442989,5266090409023476963,9438441406584530343,6612946014307191220,14944306200840711644,4009574443836920643,4070203730823266227,10943778489508822055,18236967457269641832,15982080287113039137]):=gk15.step (by decide +kernel)
theorem gk17:al (prm (tk (fun _=>0) (hfl zB) 136) 17) (pt [763663058625725333,4059462133718548772,12565434433759604060,3382379033806750965,11234916058134923307,12719943242413267506,10757436260761424464,964767235182931448,7558725582539942048,16616861549983883482,13030750791266513312,13036606319272701666,14508798509609776289,2447884027755066515,16106974723026435342,3729338673409711891,4672431147368803457,1833413008833937575,5079894481725737957,13459404268576870741,15655602466061325928,14184985182816501047,15646249512842920590,15565263005924993039,5938498361548534857]):=gk16.step (by decide +kernel)
theorem gk18:al (prm (tk (fun _=>0) (hfl zB) 136) 18) (pt [8735156402036908967,2122955547657742311,6574768888638999933,2644199748993005591,14743871922852006939,16513039259910137584,3943719757696886784,7601989333879654940,13561629376133379380,17613533865178716702,80698490721436835,7546019784325718099,8720426032869187492,16112463360828414091,13884650430411817943,9607642415567239256,7939099083254555055,7067570911847618616,6916240726115769301,10909033440622450013,2517194793705052425,12476698877145864733,16565062436680894093,7837233694319456007,6269753900532867679]):=gk17.step (by decide +kernel)
theorem gk19:al (prm (tk (fun _=>0) (hfl zB) 136) 19) (pt [4893176454246869496,11310027423022623059,5983213030851820553,13418804742597658664,16676361939363763603,4181724180133484115,13833399038662693475,2174945335102209022,2574206943478118208,8492000615796415023,6723581058868171620,6871372548817687316,11572598161533224802,6632256322384722582,10126121387220680791,17190543532764340849,15547800979059987573,3566248064269344705,8000562862578281472,14309898127316013288,4680348711188839587,8197799150596732091,11253289734573567807,5757055394759211562,709951780346698108]):=gk18.step (by decide +kernel)
theorem gk20:al (prm (tk (fun _=>0) (hfl zB) 136) 20) (pt [11921809453905833499,8088052769389087544,1279365982876929851,15660925629142049466,3160467780682678242,7247322363968133354,11695937277055519262,14243138450433992306,13330086291995263596,833547165250716191,4312887068183127989,16956814657561438321,12628607980904685637,7565103985726940199,8165488692068457698,4055438111872169606,16245116714348166930,12822261878752402769,6778052931870082622,4151728745634638142,9581963316473760994,9241657761270567823,1534492030218529009,7703890478635216280,9327220298699443140]):=gk19.step (by decide +kernel)
theorem gk21:al (prm (tk (fun _=>0) (hfl zB) 136) 21) (pt [7550092846026188458,14087282965140154682,14832900423486990369,12091454471157673501,4489355387370259825,3825524062820641964,4896053447977710277,10661553741139888739,3223925349389896510,17017752525121236259,5995260074309692097,13823347904381674681,8704074338158398623,4308089688298662667,3556864947375780205,4174432507239055813,4972133503029323321,15740757309142079181,16188077448309590352,13503921401475912126,14746037067042758167,8482321671319560383,545757751151722300,18004595364735435621,16633545090162042673]):=gk20.step (by decide +kernel)
theorem gk22:al (prm (tk (fun _=>0) (hfl zB) 136) 22) (pt [17989839983476192794,4771801528884810749,17310626451267745757,17450091579189020251,6037536181301358452,5719680848779629184,6515379236245545860,17725686970916189783,10554925787927965188,18116687656015309020,11336003337656279085,12448412999806283319,9376212483295903985,6966215956316784681,5414933101255554609,9163842244939478749,1255182482960865699,16580470862587054657,6392129424080200567,2935436819860018331,11552744301457059440,18153751022262698729,13656507772008385378,18314691810240591536,17998230912206641092]):=gk21.step (by decide +kernel)
theorem gk23:al (prm (tk (fun _=>0) (hfl zB) 136) 23) (pt [14086479402829034207,4898423775914099428,17677108759515639890,17949373086693794630,774499687835380922,5862446079122728678,7167217545000862872,9892615640996222776,11578824464323751040,13217716491360230584,2927454592340311466,14495991168921178200,15098750389821014814,739688261409971139,7397550155195005464,7664995813090727971,5316254083538539162,16582302137060324112,11871924660319961925,7297998810976796687,12579125667079537788,5230304833661251813,6502382618084432894,10537921634548249330,11392139071876131211]):=gk22.step (by decide +kernel)
theorem gk24:al (prm (tk (fun _=>0) (hfl zB) 136) 24) (pt [13536709272049924342,15457571919377141968,14977018807086567466,7549815445393217556,51868878424818150,7914739963776763213,698994046117408492,14632818300699931806,4543642288883447160,4554827984449703448,2689018979286997033,11624872190273527942,10385281640575687825,17650664296474224076,914146205779721354,18132576311218663004,12481162218198509597,12417713796856584145,9924568667211041401,5827652917130696088,1540503416034743255,11492267919730283251,7125675099283268332,7982209465332197327,15350355018791810132]):=gk23.step (by decide +kernel)
def zS:ByteArray:={ data:=#[246,184,69,196,92,13,220,187,208,16,135,80,195,83,132,214,42,80,189,222,64,15,217,207,20,152,107,158,37,85,198,104] }
theorem z_sum:told (spg (blks zB))=zS:=by
 rw[blks_short _ (by decide),al_told gk24]
 kernel_rfl
end
end Go.Proofs.YtfhppenjbmmadaaGreatDoor
