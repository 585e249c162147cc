/- Laid one behind the other: Eq, By, Bb, Rd, Re. -/
import Derived.ChangeKeysEq
import Derived.Test.YthkpgfbjdabflaaGreatDoorKkNv
import Derived.WalkSmall
namespace Go.Proofs.YthkpgfbjdabflaaGreatDoor
open Go.RowKit Tryz
set_option linter.unusedVariables false
set_option maxRecDepth 100000
set_option maxHeartbeats 4000000
theorem info22 : Tryz.prog.info? 23 = some ((Tryz.prog.info? 23).getD default) := by kernel_rfl
theorem cells22 : Tryz.prog.cellsOf 23 = 1 := by kernel_rfl
theorem zc3 (a0 a1 a2 a3 b0 b1 b2 b3 : Int) (w : World) :
    (Op.equalIn 10000 45 (I4 a0 a1 a2 a3) (I4 b0 b1 b2 b3)).run Tryz.prog w = .ok (a0 == b0 && (a1 == b1 && (a2 == b2 && a3 == b3))) w := by
  rw [run_equalIn_array w 9999 _ _ Tryz.underlying45 info22, cells22, show List.range 4 = [0, 1, 2, 3] from rfl]
  simp [Op.eqItems, part, isAgg, run_underlying Tryz.underlying23, run_equalIn_int w 9998 23 .u64 .u64 _ _ Tryz.underlying23]
  by_cases h0 : a0 = b0 <;> by_cases h1 : a1 = b1 <;> by_cases h2 : a2 = b2 <;> by_cases h3 : a3 = b3 <;> simp [*]
theorem parts_inj (n m : Nat) (hn : n < W) (hm : m < W) (h0 : l0 n = l0 m) (h1 : l1 n = l1 m) (h2 : l2 n = l2 m) (h3 : l3 n = l3 m) : n = m := by
  rw [← xx n hn, ← xx m hm, h0, h1, h2, h3]
theorem run_eqU (n m : Nat) (hn : n < W) (hm : m < W) (w : World) :
    (Op.equalIn 10000 45 (U n) (U m)).run Tryz.prog w = .ok (decide (n = m)) w := by
  refine (zc3 (l0 n) (l1 n) (l2 n) (l3 n) (l0 m) (l1 m) (l2 m) (l3 m) w).trans ?_
  congr 1
  rw [Bool.eq_iff_iff]
  simp only [Bool.and_eq_true, beq_iff_eq, decide_eq_true_eq]
  constructor
  · rintro ⟨h0, h1, h2, h3⟩
    exact parts_inj n m hn hm (by omega) (by omega) (by omega) (by omega)
  · rintro rfl; exact ⟨rfl, rfl, rfl, rfl⟩
theorem kp (n : Nat) (w : World) : (Op.equalIn 10000 45 (U n) (U n)).run Tryz.prog w = .ok true w := by
  refine (zc3 (l0 n) (l1 n) (l2 n) (l3 n) (l0 n) (l1 n) (l2 n) (l3 n) w).trans ?_
  simp
section
theorem conv32(xs:List Int)(h:xs.length=32)(w:World)(t nb:Nat)(hn:nb=w.heap.size) :
  (convert 53 9 (.slice (some ⟨nb,0,none⟩) 32 32)).run prog (w.alloc (.cells (xs.map (Value.int .u8)).toArray t))=.ok (.string (strOfNums xs)) (w.alloc (.cells (xs.map (Value.int .u8)).toArray t)):=by
 subst hn;refine run_convert_bytes_arg _ 53 5 underlying53 underlying5 _ 0 32 32 xs h (fun i hi=>?_) 9 underlying9;rw[Nat.zero_add,World.cell?_alloc_new];simp[h,hi]
theorem make32(w:World):(Instr.makeSlice 53 (.int .i64 32) (.int .i64 32)).run prog w=.ok (.slice (some ⟨w.heap.size,0,none⟩) 32 32) (w.alloc (.cells #[Value.int .u8 0,Value.int .u8 0,Value.int .u8 0,Value.int .u8 0,Value.int .u8 0,Value.int .u8 0,Value.int .u8 0,Value.int .u8 0,Value.int .u8 0,Value.int .u8 0,Value.int .u8 0,Value.int .u8 0,Value.int .u8 0,Value.int .u8 0,Value.int .u8 0,Value.int .u8 0,Value.int .u8 0,Value.int .u8 0,Value.int .u8 0,Value.int .u8 0,Value.int .u8 0,Value.int .u8 0,Value.int .u8 0,Value.int .u8 0,Value.int .u8 0,Value.int .u8 0,Value.int .u8 0,Value.int .u8 0,Value.int .u8 0,Value.int .u8 0,Value.int .u8 0,Value.int .u8 0] 5)):=by
 have hi:prog.info? 5=some ((prog.info? 5).getD default):=by kernel_rfl
 have hz:((prog.info? 5).getD default).zero=some (.int .u8 0):=by kernel_rfl
 have hs:((prog.info? 5).getD default).size=1:=by kernel_rfl
 have hb:((prog.info? 5).getD default).bytes=1:=by kernel_rfl
 rw[run_make w 53 5 _ _ underlying53 hi hz .i64 .i64 32 32 (by decide) (by decide) (by rw[hb];decide) (by decide),hs]
 have hm:madeCells (Value.int .u8 0).cells (Int.toNat 32*1)=#[Value.int .u8 0,Value.int .u8 0,Value.int .u8 0,Value.int .u8 0,Value.int .u8 0,Value.int .u8 0,Value.int .u8 0,Value.int .u8 0,Value.int .u8 0,Value.int .u8 0,Value.int .u8 0,Value.int .u8 0,Value.int .u8 0,Value.int .u8 0,Value.int .u8 0,Value.int .u8 0,Value.int .u8 0,Value.int .u8 0,Value.int .u8 0,Value.int .u8 0,Value.int .u8 0,Value.int .u8 0,Value.int .u8 0,Value.int .u8 0,Value.int .u8 0,Value.int .u8 0,Value.int .u8 0,Value.int .u8 0,Value.int .u8 0,Value.int .u8 0,Value.int .u8 0,Value.int .u8 0]:=by kernel_rfl
 rw[hm];rfl
attribute [local go_sem] make32
def byteList (a0 a1 a2 a3:Nat):List Int:=[(a3:Int)/72057594037927936%256,(a3:Int)/281474976710656%256,(a3:Int)/1099511627776%256,(a3:Int)/4294967296%256,(a3:Int)/16777216%256,(a3:Int)/65536%256,(a3:Int)/256%256,(a3:Int)%256,(a2:Int)/72057594037927936%256,(a2:Int)/281474976710656%256,(a2:Int)/1099511627776%256,(a2:Int)/4294967296%256,(a2:Int)/16777216%256,(a2:Int)/65536%256,(a2:Int)/256%256,(a2:Int)%256,(a1:Int)/72057594037927936%256,(a1:Int)/281474976710656%256,(a1:Int)/1099511627776%256,(a1:Int)/4294967296%256,(a1:Int)/16777216%256,(a1:Int)/65536%256,(a1:Int)/256%256,(a1:Int)%256,(a0:Int)/72057594037927936%256,(a0:Int)/281474976710656%256,(a0:Int)/1099511627776%256,(a0:Int)/4294967296%256,(a0:Int)/16777216%256,(a0:Int)/65536%256,(a0:Int)/256%256,(a0:Int)%256]
theorem bytes_raw(a0 a1 a2 a3:Nat):RT 47 #[U4 a0 a1 a2 a3] (.string (strOfNums (byteList a0 a1 a2 a3))):=by
 intro w
 have hcv:=conv32 [(a3:Int)/72057594037927936%256,(a3:Int)/281474976710656%256,(a3:Int)/1099511627776%256,(a3:Int)/4294967296%256,(a3:Int)/16777216%256,(a3:Int)/65536%256,(a3:Int)/256%256,(a3:Int)%256,(a2:Int)/72057594037927936%256,(a2:Int)/281474976710656%256,(a2:Int)/1099511627776%256,(a2:Int)/4294967296%256,(a2:Int)/16777216%256,(a2:Int)/65536%256,(a2:Int)/256%256,(a2:Int)%256,(a1:Int)/72057594037927936%256,(a1:Int)/281474976710656%256,(a1:Int)/1099511627776%256,(a1:Int)/4294967296%256,(a1:Int)/16777216%256,(a1:Int)/65536%256,(a1:Int)/256%256,(a1:Int)%256,(a0:Int)/72057594037927936%256,(a0:Int)/281474976710656%256,(a0:Int)/1099511627776%256,(a0:Int)/4294967296%256,(a0:Int)/16777216%256,(a0:Int)/65536%256,(a0:Int)/256%256,(a0:Int)%256] rfl (w.alloc (Obj.cells #[B a0,B a1,B a2,B a3] 45)) 98 (w.heap.size+1) (by simp)
 simp only[List.map_cons,List.map_nil]at hcv;have Hcv:Hid _:=hcv;clear hcv
 go_enter func47,ntmps47
 go_wp2
 refine wp_loop_rounds 33 ?_
 iterate 32(rw[rounds_succ];go_wp2)
 have hcv:=Hcv.out;rw[rounds_succ];go_wp2
 go_ret
 exact⟨rfl,(by repeat(first|exact Below.refl _ _|apply Below.drew|refine Below.alloc ?_ (by simp;try omega) _))⟩
end
def zy (n j:Nat):Nat:=n/2^(8*(31-j))%256
def ky (n:Nat):ByteArray:=strOfNums ((List.range 32).map fun j=>(zy n j:Int))
theorem byte_part(x r:Nat)(hr:r<8):x%M/2^(8*r)%256=x/2^(8*r)%256:=by
 rw[zau,show(64:Nat)=8*r+(64-8*r) by omega,Nat.pow_add,Nat.mod_mul_right_div_self];refine Nat.mod_mod_of_dvd _ ?_;rw[show(256:Nat)=2^8 from rfl];exact Nat.pow_dvd_pow 2 (by omega)
theorem zx(n q r:Nat)(hr:r<8)(x:Nat)(hx:x=n/2^(64*q)%M):(x:Int)/2^(8*r)%256=((n/2^(8*(8*q+r))%256:Nat):Int):=by
 have h:x/2^(8*r)%256=n/2^(8*(8*q+r))%256:=by
  rw[hx,byte_part _ r hr,Nat.div_div_eq_div_mul,← Nat.pow_add,show 64*q+8*r=8*(8*q+r) by omega]
 rw[← h];simp
theorem b_l0(n:Nat):l0 n=n/2^(64*0)%M:=by unfold l0;simp
theorem b_l1(n:Nat):l1 n=n/2^(64*1)%M:=by unfold l1;rw[zau]
theorem b_l2(n:Nat):l2 n=n/2^(64*2)%M:=by unfold l2;rw[MM_pow]
theorem b_l3(n:Nat):l3 n=n/2^(64*3)%M:=by unfold l3;rw[MMM_pow]
theorem by_0(n:Nat):(l0 n:Int)%256=(zy n 31:Int):=by have h:=zx n 0 0 (by decide) (l0 n) (b_l0 n);simpa [zy]using h
theorem by_1(n:Nat):(l0 n:Int)/256%256=(zy n 30:Int):=by have h:=zx n 0 1 (by decide) (l0 n) (b_l0 n);exact h
theorem by_2(n:Nat):(l0 n:Int)/65536%256=(zy n 29:Int):=by have h:=zx n 0 2 (by decide) (l0 n) (b_l0 n);exact h
theorem by_3(n:Nat):(l0 n:Int)/16777216%256=(zy n 28:Int):=by have h:=zx n 0 3 (by decide) (l0 n) (b_l0 n);exact h
theorem by_4(n:Nat):(l0 n:Int)/4294967296%256=(zy n 27:Int):=by have h:=zx n 0 4 (by decide) (l0 n) (b_l0 n);exact h
theorem by_5(n:Nat):(l0 n:Int)/1099511627776%256=(zy n 26:Int):=by have h:=zx n 0 5 (by decide) (l0 n) (b_l0 n);exact h
theorem by_6(n:Nat):(l0 n:Int)/281474976710656%256=(zy n 25:Int):=by have h:=zx n 0 6 (by decide) (l0 n) (b_l0 n);exact h
theorem by_7(n:Nat):(l0 n:Int)/72057594037927936%256=(zy n 24:Int):=by have h:=zx n 0 7 (by decide) (l0 n) (b_l0 n);exact h
theorem by_8(n:Nat):(l1 n:Int)%256=(zy n 23:Int):=by have h:=zx n 1 0 (by decide) (l1 n) (b_l1 n);simpa [zy]using h
theorem by_9(n:Nat):(l1 n:Int)/256%256=(zy n 22:Int):=by have h:=zx n 1 1 (by decide) (l1 n) (b_l1 n);exact h
theorem by_10(n:Nat):(l1 n:Int)/65536%256=(zy n 21:Int):=by have h:=zx n 1 2 (by decide) (l1 n) (b_l1 n);exact h
theorem by_11(n:Nat):(l1 n:Int)/16777216%256=(zy n 20:Int):=by have h:=zx n 1 3 (by decide) (l1 n) (b_l1 n);exact h
theorem by_12(n:Nat):(l1 n:Int)/4294967296%256=(zy n 19:Int):=by have h:=zx n 1 4 (by decide) (l1 n) (b_l1 n);exact h
theorem by_13(n:Nat):(l1 n:Int)/1099511627776%256=(zy n 18:Int):=by have h:=zx n 1 5 (by decide) (l1 n) (b_l1 n);exact h
theorem by_14(n:Nat):(l1 n:Int)/281474976710656%256=(zy n 17:Int):=by have h:=zx n 1 6 (by decide) (l1 n) (b_l1 n);exact h
theorem by_15(n:Nat):(l1 n:Int)/72057594037927936%256=(zy n 16:Int):=by have h:=zx n 1 7 (by decide) (l1 n) (b_l1 n);exact h
theorem by_16(n:Nat):(l2 n:Int)%256=(zy n 15:Int):=by have h:=zx n 2 0 (by decide) (l2 n) (b_l2 n);simpa [zy]using h
theorem by_17(n:Nat):(l2 n:Int)/256%256=(zy n 14:Int):=by have h:=zx n 2 1 (by decide) (l2 n) (b_l2 n);exact h
theorem by_18(n:Nat):(l2 n:Int)/65536%256=(zy n 13:Int):=by have h:=zx n 2 2 (by decide) (l2 n) (b_l2 n);exact h
theorem by_19(n:Nat):(l2 n:Int)/16777216%256=(zy n 12:Int):=by have h:=zx n 2 3 (by decide) (l2 n) (b_l2 n);exact h
theorem by_20(n:Nat):(l2 n:Int)/4294967296%256=(zy n 11:Int):=by have h:=zx n 2 4 (by decide) (l2 n) (b_l2 n);exact h
theorem by_21(n:Nat):(l2 n:Int)/1099511627776%256=(zy n 10:Int):=by have h:=zx n 2 5 (by decide) (l2 n) (b_l2 n);exact h
theorem by_22(n:Nat):(l2 n:Int)/281474976710656%256=(zy n 9:Int):=by have h:=zx n 2 6 (by decide) (l2 n) (b_l2 n);exact h
theorem by_23(n:Nat):(l2 n:Int)/72057594037927936%256=(zy n 8:Int):=by have h:=zx n 2 7 (by decide) (l2 n) (b_l2 n);exact h
theorem by_24(n:Nat):(l3 n:Int)%256=(zy n 7:Int):=by have h:=zx n 3 0 (by decide) (l3 n) (b_l3 n);simpa [zy]using h
theorem by_25(n:Nat):(l3 n:Int)/256%256=(zy n 6:Int):=by have h:=zx n 3 1 (by decide) (l3 n) (b_l3 n);exact h
theorem by_26(n:Nat):(l3 n:Int)/65536%256=(zy n 5:Int):=by have h:=zx n 3 2 (by decide) (l3 n) (b_l3 n);exact h
theorem by_27(n:Nat):(l3 n:Int)/16777216%256=(zy n 4:Int):=by have h:=zx n 3 3 (by decide) (l3 n) (b_l3 n);exact h
theorem by_28(n:Nat):(l3 n:Int)/4294967296%256=(zy n 3:Int):=by have h:=zx n 3 4 (by decide) (l3 n) (b_l3 n);exact h
theorem by_29(n:Nat):(l3 n:Int)/1099511627776%256=(zy n 2:Int):=by have h:=zx n 3 5 (by decide) (l3 n) (b_l3 n);exact h
theorem by_30(n:Nat):(l3 n:Int)/281474976710656%256=(zy n 1:Int):=by have h:=zx n 3 6 (by decide) (l3 n) (b_l3 n);exact h
theorem by_31(n:Nat):(l3 n:Int)/72057594037927936%256=(zy n 0:Int):=by have h:=zx n 3 7 (by decide) (l3 n) (b_l3 n);exact h
theorem byteList_eq(n:Nat):byteList (l0 n) (l1 n) (l2 n) (l3 n)=(List.range 32).map fun j=>(zy n j:Int):=by
 unfold byteList;rw[by_31 n,by_30 n,by_29 n,by_28 n,by_27 n,by_26 n,by_25 n,by_24 n,by_23 n,by_22 n,by_21 n,by_20 n,by_19 n,by_18 n,by_17 n,by_16 n,by_15 n,by_14 n,by_13 n,by_12 n,by_11 n,by_10 n,by_9 n,by_8 n,by_7 n,by_6 n,by_5 n,by_4 n,by_3 n,by_2 n,by_1 n,by_0 n];rfl
theorem za4(n:Nat):RT 47 #[U n] (.string (ky n)):=by
 intro w;have h:=bytes_raw (l0 n) (l1 n) (l2 n) (l3 n) w;rw[byteList_eq]at h;exact h
theorem zab(n:Nat):(ky n).size=32:=by unfold ky;rw[strOfNums_size];simp
section
theorem run_idx(s:ByteArray)(i:Int)(j:Nat)(h:i=j)(hj:j<s.size)(w:World):(Instr.index 9 (.string s) (.int .i64 i)).run prog w=.ok (.int .u8 (s[j].toNat:Nat)) w:=by
 subst h;simp[Instr.index,asIntOf,run_underlying underlying9,hj]
attribute [local go_sem] yy
theorem read_raw(s:ByteArray)(p0 p1 p2 p3 b:Nat→Nat)(hb:∀ k,b k<256)(hs:s.size≤32)(hi:∀ k:Nat,k<s.size→∀ w,(Instr.index 9 (.string s) (.int .i64 ((s.size:Int)-1-(k:Int)))).run prog w=.ok (.int .u8 (b k:Nat)) w)(z0:p0 0=0)(z1:p1 0=0)(z2:p2 0=0)(z3:p3 0=0)(g0:Hid (∀ k:Nat,k<s.size→k/8=0→((p0 (k+1):Nat):Int)=(bits .or .u64 (p0 k) (IntKind.u64.wrap ((b k:Int)*2^(k%8*8))))∧p1 (k+1)=p1 k∧p2 (k+1)=p2 k∧p3 (k+1)=p3 k))(g1:Hid (∀ k:Nat,k<s.size→k/8=1→p0 (k+1)=p0 k∧((p1 (k+1):Nat):Int)=(bits .or .u64 (p1 k) (IntKind.u64.wrap ((b k:Int)*2^(k%8*8))))∧p2 (k+1)=p2 k∧p3 (k+1)=p3 k))(g2:Hid (∀ k:Nat,k<s.size→k/8=2→p0 (k+1)=p0 k∧p1 (k+1)=p1 k∧((p2 (k+1):Nat):Int)=(bits .or .u64 (p2 k) (IntKind.u64.wrap ((b k:Int)*2^(k%8*8))))∧p3 (k+1)=p3 k))(g3:Hid (∀ k:Nat,k<s.size→k/8=3→p0 (k+1)=p0 k∧p1 (k+1)=p1 k∧p2 (k+1)=p2 k∧((p3 (k+1):Nat):Int)=(bits .or .u64 (p3 k) (IntKind.u64.wrap ((b k:Int)*2^(k%8*8)))))):RT 101 #[.string s] (.tuple #[U4 (p0 s.size) (p1 s.size) (p2 s.size) (p3 s.size),.int .i64 0]):=by
 intro w;have Z:Hid (p0 0=0∧p1 0=0∧p2 0=0∧p3 0=0):=⟨z0,z1,z2,z3⟩
 clear z0 z1 z2 z3
 go_enter func101,ntmps101
 go_wp2
 go_loopw [12] (fun i w'=>∃ k:Nat,k≤s.size∧i=.int .i64 k∧∃ nq,w'=((w.alloc (.cells #[.int .u64 0,.int .u64 0,.int .u64 0,.int .u64 0] 45)).alloc (.cells #[B (p0 k),B (p1 k),B (p2 k),B (p3 k)] 45)).drewN nq) (fun i _=>s.size-(intOf i).toNat)
 case atStart=>
  obtain⟨z0,z1,z2,z3⟩:=Z.out;exact⟨0,Nat.zero_le _,rfl,0,by simp only[B,z0,z1,z2,z3];rfl⟩
 case round=>
  obtain⟨k,hk,rfl,nq,rfl⟩:=hrel;by_cases hlt:k<s.size
  ·have hik:=hi k hlt;have hbk:=hb k;have hcase:k/8=0∨k/8=1∨k/8=2∨k/8=3:=by omega
   rcases hcase with hn|hn|hn|hn
   ·have G:=g0.out k hlt hn;have HG:Hid _:=G;clear G;have hq:(k:Int)/8=0:=by omega
    clear hn
    go_wp2
    go_region
    go_wp2
    go_roundw
    case rel=>
     obtain⟨e0,e1,e2,e3⟩:=HG.out;exact⟨k+1,by omega,by go_num,nq+1,by simp only[B,e0,e1,e2,e3]⟩
    case measure=>simp[intOf];omega
   ·have G:=g1.out k hlt hn;have HG:Hid _:=G;clear G;have hq:(k:Int)/8=1:=by omega
    clear hn
    go_wp2
    go_region
    go_wp2
    go_roundw
    case rel=>
     obtain⟨e0,e1,e2,e3⟩:=HG.out;exact⟨k+1,by omega,by go_num,nq+1,by simp only[B,e0,e1,e2,e3]⟩
    case measure=>simp[intOf];omega
   ·have G:=g2.out k hlt hn;have HG:Hid _:=G;clear G;have hq:(k:Int)/8=2:=by omega
    clear hn
    go_wp2
    go_region
    go_wp2
    go_roundw
    case rel=>
     obtain⟨e0,e1,e2,e3⟩:=HG.out;exact⟨k+1,by omega,by go_num,nq+1,by simp only[B,e0,e1,e2,e3]⟩
    case measure=>simp[intOf];omega
   ·have G:=g3.out k hlt hn;have HG:Hid _:=G;clear G;have hq:(k:Int)/8=3:=by omega
    clear hn
    go_wp2
    go_region
    go_wp2
    go_roundw
    case rel=>
     obtain⟨e0,e1,e2,e3⟩:=HG.out;exact⟨k+1,by omega,by go_num,nq+1,by simp only[B,e0,e1,e2,e3]⟩
    case measure=>simp[intOf];omega
  ·have hkk:k=s.size:=by omega
   go_wp2
   subst hkk;exact bodyPost_ret (v:=.tuple #[U4 (p0 s.size) (p1 s.size) (p2 s.size) (p3 s.size),.int .i64 0]) (by simp[results,results101,go_sem]) rfl ⟨rfl,(by repeat(first|exact Below.refl _ _|apply Below.drew|apply zb7|refine zj ?_ _))⟩
end
def btN (s:ByteArray) (k:Nat):Nat:=(s.data.getD (s.size-1-k) 0).toNat
theorem btN_lt(s:ByteArray)(k:Nat):btN s k<256:=UInt8.toNat_lt _
def rdN (s:ByteArray):Nat→Nat
 | 0=>0
 | k+1=>rdN s k+btN s k*2^(8*k)
theorem rdN_lt(s:ByteArray):∀ k,rdN s k<2^(8*k)
 | 0=>by simp[rdN]
 | k+1=>by
  have h:=rdN_lt s k;have hb:=btN_lt s k;rw[rdN,show 8*(k+1)=8*k+8 by omega,Nat.pow_add];have:btN s k*2^(8*k)≤255*2^(8*k):=Nat.mul_le_mul_right _ (by omega);omega
theorem rd_ltW(s:ByteArray)(k:Nat)(hk:k≤32):rdN s k<W:=by
 rw[W_pow];exact Nat.lt_of_lt_of_le (rdN_lt s k) (Nat.pow_le_pow_right (by decide) (by omega))
theorem run_bt(s:ByteArray)(k:Nat)(hk:k<s.size)(w:World):(Instr.index 9 (.string s) (.int .i64 ((s.size:Int)-1-(k:Int)))).run prog w=.ok (.int .u8 (btN s k:Nat)) w:=by
 have hj:s.size-1-k<s.size:=by omega
 have e:btN s k=s[s.size-1-k].toNat:=by
  unfold btN;have hd:s.size-1-k<s.data.size:=hj;rw[Array.getD_eq_getD_getElem?,Array.getElem?_eq_getElem hd];rfl
 rw[run_idx s _ (s.size-1-k) (by omega) hj,e]
theorem or_byte(x b r:Nat)(hx:x<2^(8*r))(hb:b<256)(hr:r<8) :
  bits .or .u64 (x:Int) (IntKind.u64.wrap ((b:Int)*2^(r*8)))=((x+b*2^(8*r):Nat):Int)∧x+b*2^(8*r)<M:=by
 have hM:M=2^(8*r)*2^(64-8*r):=by rw[← Nat.pow_add,show 8*r+(64-8*r)=64 by omega];decide
 have h8:2^8≤2^(64-8*r):=Nat.pow_le_pow_right (by decide) (by omega);have hp:0<2^(8*r):=Nat.two_pow_pos _;have h1:x+b*2^(8*r)<M:=by
  rw[hM];have:b*2^(8*r)≤255*2^(8*r):=Nat.mul_le_mul_right _ (by omega);have:2^(8*r)*256≤2^(8*r)*2^(64-8*r):=Nat.mul_le_mul_left _ h8;omega
 refine⟨?_,h1⟩;have e:x+b*2^(8*r)=x ||| b*2^(8*r):=by
  rw[Nat.add_comm,Nat.mul_comm,Nat.two_pow_add_eq_or_of_lt hx,Nat.or_comm]
 rw[Nat.mul_comm r 8,zbl,Nat.mod_eq_of_lt (by omega:b*2^(8*r)<M),ke _ _ (by omega) (by omega),e]
theorem rd_part(s:ByteArray)(k q:Nat)(hk:k/8=q):rdN s k/M^q<2^(8*(k%8)):=by
 refine Nat.div_lt_of_lt_mul ?_;rw[zau,← Nat.pow_mul,← Nat.pow_add,show 64*q+8*(k%8)=8*k by omega];exact rdN_lt s k
theorem rd_step(s:ByteArray)(k q:Nat)(hk:k/8=q):rdN s (k+1)=rdN s k+btN s k*2^(8*(k%8))*M^q:=by
 rw[rdN,zau,← Nat.pow_mul,Nat.mul_assoc,← Nat.pow_add,show 8*(k%8)+64*q=8*k by omega]
theorem rd_q0(s:ByteArray)(hs:s.size≤32):∀ k:Nat,k<s.size→k/8=0→((l0 (rdN s (k+1)):Nat):Int)=bits .or .u64 (l0 (rdN s k):Nat) (IntKind.u64.wrap ((btN s k:Int)*2^(k%8*8)))∧l1 (rdN s (k+1))=l1 (rdN s k)∧l2 (rdN s (k+1))=l2 (rdN s k)∧l3 (rdN s (k+1))=l3 (rdN s k):=by
 intro k hk hq;have hp:=rd_part s k 0 hq;have hx:l0 (rdN s k)<2^(8*(k%8)):=by
  unfold l0;rw[Nat.pow_zero,Nat.div_one]at hp;exact Nat.lt_of_le_of_lt (Nat.mod_le _ _) hp
 obtain⟨eo,hlt⟩:=or_byte (l0 (rdN s k)) (btN s k) (k%8) hx (btN_lt s k) (by omega);have em:=xx (rdN s k) (rd_ltW s k (by omega));have e:rdN s (k+1)=mk (l0 (rdN s k)+btN s k*2^(8*(k%8))) (l1 (rdN s k)) (l2 (rdN s k)) (l3 (rdN s k)):=by
  rw[rd_step s k 0 hq]
  conv=>lhs;rw[← em]
  rw[Nat.pow_zero];generalize btN s k*2^(8*(k%8))=c;unfold mk;grind
 obtain⟨e0,e1,e2,e3⟩:=zbi _ _ _ _ _ e hlt (yh _) (yn _) (yu _);exact⟨by rw[e0,eo],e1,e2,e3⟩
theorem rd_q1(s:ByteArray)(hs:s.size≤32):∀ k:Nat,k<s.size→k/8=1→l0 (rdN s (k+1))=l0 (rdN s k)∧((l1 (rdN s (k+1)):Nat):Int)=bits .or .u64 (l1 (rdN s k):Nat) (IntKind.u64.wrap ((btN s k:Int)*2^(k%8*8)))∧l2 (rdN s (k+1))=l2 (rdN s k)∧l3 (rdN s (k+1))=l3 (rdN s k):=by
 intro k hk hq;have hp:=rd_part s k 1 hq;have hx:l1 (rdN s k)<2^(8*(k%8)):=by
  unfold l1;rw[Nat.pow_one]at hp;exact Nat.lt_of_le_of_lt (Nat.mod_le _ _) hp
 obtain⟨eo,hlt⟩:=or_byte (l1 (rdN s k)) (btN s k) (k%8) hx (btN_lt s k) (by omega);have em:=xx (rdN s k) (rd_ltW s k (by omega));have e:rdN s (k+1)=mk (l0 (rdN s k)) (l1 (rdN s k)+btN s k*2^(8*(k%8))) (l2 (rdN s k)) (l3 (rdN s k)):=by
  rw[rd_step s k 1 hq]
  conv=>lhs;rw[← em]
  rw[Nat.pow_one];generalize btN s k*2^(8*(k%8))=c;unfold mk;grind
 obtain⟨e0,e1,e2,e3⟩:=zbi _ _ _ _ _ e (yz _) hlt (yn _) (yu _);exact⟨e0,by rw[e1,eo],e2,e3⟩
theorem rd_q2(s:ByteArray)(hs:s.size≤32):∀ k:Nat,k<s.size→k/8=2→l0 (rdN s (k+1))=l0 (rdN s k)∧l1 (rdN s (k+1))=l1 (rdN s k)∧((l2 (rdN s (k+1)):Nat):Int)=bits .or .u64 (l2 (rdN s k):Nat) (IntKind.u64.wrap ((btN s k:Int)*2^(k%8*8)))∧l3 (rdN s (k+1))=l3 (rdN s k):=by
 intro k hk hq;have hp:=rd_part s k 2 hq;have hx:l2 (rdN s k)<2^(8*(k%8)):=by
  unfold l2;rw[show M^2=M*M from by decide]at hp;exact Nat.lt_of_le_of_lt (Nat.mod_le _ _) hp
 obtain⟨eo,hlt⟩:=or_byte (l2 (rdN s k)) (btN s k) (k%8) hx (btN_lt s k) (by omega);have em:=xx (rdN s k) (rd_ltW s k (by omega));have e:rdN s (k+1)=mk (l0 (rdN s k)) (l1 (rdN s k)) (l2 (rdN s k)+btN s k*2^(8*(k%8))) (l3 (rdN s k)):=by
  rw[rd_step s k 2 hq]
  conv=>lhs;rw[← em]
  rw[show M^2=M*M from by decide];generalize btN s k*2^(8*(k%8))=c;unfold mk;grind
 obtain⟨e0,e1,e2,e3⟩:=zbi _ _ _ _ _ e (yz _) (yh _) hlt (yu _);exact⟨e0,e1,by rw[e2,eo],e3⟩
theorem rd_q3(s:ByteArray)(hs:s.size≤32):∀ k:Nat,k<s.size→k/8=3→l0 (rdN s (k+1))=l0 (rdN s k)∧l1 (rdN s (k+1))=l1 (rdN s k)∧l2 (rdN s (k+1))=l2 (rdN s k)∧((l3 (rdN s (k+1)):Nat):Int)=bits .or .u64 (l3 (rdN s k):Nat) (IntKind.u64.wrap ((btN s k:Int)*2^(k%8*8))):=by
 intro k hk hq;have hp:=rd_part s k 3 hq;have hx:l3 (rdN s k)<2^(8*(k%8)):=by
  unfold l3;rw[show M^3=M*M*M from by decide +kernel]at hp;exact Nat.lt_of_le_of_lt (Nat.mod_le _ _) hp
 obtain⟨eo,hlt⟩:=or_byte (l3 (rdN s k)) (btN s k) (k%8) hx (btN_lt s k) (by omega);have em:=xx (rdN s k) (rd_ltW s k (by omega));have e:rdN s (k+1)=mk (l0 (rdN s k)) (l1 (rdN s k)) (l2 (rdN s k)) (l3 (rdN s k)+btN s k*2^(8*(k%8))):=by
  rw[rd_step s k 3 hq]
  conv=>lhs;rw[← em]
  rw[show M^3=M*M*M from by decide +kernel];generalize btN s k*2^(8*(k%8))=c;unfold mk;grind
 obtain⟨e0,e1,e2,e3⟩:=zbi _ _ _ _ _ e (yz _) (yh _) (yn _) hlt;exact⟨e0,e1,e2,by rw[e3,eo]⟩
theorem read_any(s:ByteArray)(hs:s.size≤32)(w:World):Calls prog 101 #[.string s] w fun e w'=>e=.returned (.tuple #[U (rdN s s.size),.int .i64 0])∧Below w.heap.size w w':=
 read_raw s (fun k=>l0 (rdN s k)) (fun k=>l1 (rdN s k)) (fun k=>l2 (rdN s k)) (fun k=>l3 (rdN s k)) (btN s) (btN_lt s) hs (fun k hk w=>run_bt s k hk w) (show l0 0=0 by decide +kernel) (show l1 0=0 by decide +kernel) (show l2 0=0 by decide +kernel) (show l3 0=0 by decide +kernel) (rd_q0 s hs) (rd_q1 s hs) (rd_q2 s hs) (rd_q3 s hs) w
end Go.Proofs.YthkpgfbjdabflaaGreatDoor
