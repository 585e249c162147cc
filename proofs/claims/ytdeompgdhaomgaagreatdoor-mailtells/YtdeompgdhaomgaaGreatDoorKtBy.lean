/- Laid one behind the other: By, Nx, Bb. -/
import Derived.Test.YtdeompgdhaomgaaGreatDoorKtNv
namespace Go.Proofs.YtdeompgdhaomgaaGreatDoor
open Go.RowKit Tryz
set_option linter.unusedVariables false
set_option maxRecDepth 100000
set_option maxHeartbeats 4000000
section
theorem conv32(xs:List Int)(h:xs.length=32)(w:World)(t nb:Nat)(hn:nb=w.heap.size) :
  (convert 104 9 (.slice (some ⟨nb,0,none⟩) 32 32)).run prog (w.alloc (.cells (xs.map (Value.int .u8)).toArray t))=.ok (.string (strOfNums xs)) (w.alloc (.cells (xs.map (Value.int .u8)).toArray t)):=by
 subst hn;refine run_convert_bytes_arg _ 104 5 underlying104 underlying5 _ 0 32 32 xs h (fun i hi=>?_) 9 underlying9;rw[Nat.zero_add,World.cell?_alloc_new];simp[h,hi]
theorem make32(w:World):(Instr.makeSlice 104 (.int .i64 32) (.int .i64 32)).run prog w=.ok (.slice (some ⟨w.heap.size,0,none⟩) 32 32) (w.alloc (.cells #[Value.int .u8 0,Value.int .u8 0,Value.int .u8 0,Value.int .u8 0,Value.int .u8 0,Value.int .u8 0,Value.int .u8 0,Value.int .u8 0,Value.int .u8 0,Value.int .u8 0,Value.int .u8 0,Value.int .u8 0,Value.int .u8 0,Value.int .u8 0,Value.int .u8 0,Value.int .u8 0,Value.int .u8 0,Value.int .u8 0,Value.int .u8 0,Value.int .u8 0,Value.int .u8 0,Value.int .u8 0,Value.int .u8 0,Value.int .u8 0,Value.int .u8 0,Value.int .u8 0,Value.int .u8 0,Value.int .u8 0,Value.int .u8 0,Value.int .u8 0,Value.int .u8 0,Value.int .u8 0] 5)):=by
 have hi:prog.info? 5=some ((prog.info? 5).getD default):=by kernel_rfl
 have hz:((prog.info? 5).getD default).zero=some (.int .u8 0):=by kernel_rfl
 have hs:((prog.info? 5).getD default).size=1:=by kernel_rfl
 have hb:((prog.info? 5).getD default).bytes=1:=by kernel_rfl
 rw[run_make w 104 5 _ _ underlying104 hi hz .i64 .i64 32 32 (by decide) (by decide) (by rw[hb];decide) (by decide),hs]
 have hm:madeCells (Value.int .u8 0).cells (Int.toNat 32*1)=#[Value.int .u8 0,Value.int .u8 0,Value.int .u8 0,Value.int .u8 0,Value.int .u8 0,Value.int .u8 0,Value.int .u8 0,Value.int .u8 0,Value.int .u8 0,Value.int .u8 0,Value.int .u8 0,Value.int .u8 0,Value.int .u8 0,Value.int .u8 0,Value.int .u8 0,Value.int .u8 0,Value.int .u8 0,Value.int .u8 0,Value.int .u8 0,Value.int .u8 0,Value.int .u8 0,Value.int .u8 0,Value.int .u8 0,Value.int .u8 0,Value.int .u8 0,Value.int .u8 0,Value.int .u8 0,Value.int .u8 0,Value.int .u8 0,Value.int .u8 0,Value.int .u8 0,Value.int .u8 0]:=by kernel_rfl
 rw[hm];rfl
attribute [local go_sem] make32
def byteList (a0 a1 a2 a3:Nat):List Int:=[(a3:Int)/72057594037927936%256,(a3:Int)/281474976710656%256,(a3:Int)/1099511627776%256,(a3:Int)/4294967296%256,(a3:Int)/16777216%256,(a3:Int)/65536%256,(a3:Int)/256%256,(a3:Int)%256,(a2:Int)/72057594037927936%256,(a2:Int)/281474976710656%256,(a2:Int)/1099511627776%256,(a2:Int)/4294967296%256,(a2:Int)/16777216%256,(a2:Int)/65536%256,(a2:Int)/256%256,(a2:Int)%256,(a1:Int)/72057594037927936%256,(a1:Int)/281474976710656%256,(a1:Int)/1099511627776%256,(a1:Int)/4294967296%256,(a1:Int)/16777216%256,(a1:Int)/65536%256,(a1:Int)/256%256,(a1:Int)%256,(a0:Int)/72057594037927936%256,(a0:Int)/281474976710656%256,(a0:Int)/1099511627776%256,(a0:Int)/4294967296%256,(a0:Int)/16777216%256,(a0:Int)/65536%256,(a0:Int)/256%256,(a0:Int)%256]
theorem bytes_raw(a0 a1 a2 a3:Nat):RT 120 #[U4 a0 a1 a2 a3] (.string (strOfNums (byteList a0 a1 a2 a3))):=by
 intro w
 have hcv:=conv32 [(a3:Int)/72057594037927936%256,(a3:Int)/281474976710656%256,(a3:Int)/1099511627776%256,(a3:Int)/4294967296%256,(a3:Int)/16777216%256,(a3:Int)/65536%256,(a3:Int)/256%256,(a3:Int)%256,(a2:Int)/72057594037927936%256,(a2:Int)/281474976710656%256,(a2:Int)/1099511627776%256,(a2:Int)/4294967296%256,(a2:Int)/16777216%256,(a2:Int)/65536%256,(a2:Int)/256%256,(a2:Int)%256,(a1:Int)/72057594037927936%256,(a1:Int)/281474976710656%256,(a1:Int)/1099511627776%256,(a1:Int)/4294967296%256,(a1:Int)/16777216%256,(a1:Int)/65536%256,(a1:Int)/256%256,(a1:Int)%256,(a0:Int)/72057594037927936%256,(a0:Int)/281474976710656%256,(a0:Int)/1099511627776%256,(a0:Int)/4294967296%256,(a0:Int)/16777216%256,(a0:Int)/65536%256,(a0:Int)/256%256,(a0:Int)%256] rfl (w.alloc (Obj.cells #[B a0,B a1,B a2,B a3] 57)) 192 (w.heap.size+1) (by simp)
 simp only[List.map_cons,List.map_nil]at hcv;have Hcv:Hid _:=hcv;clear hcv
 go_enter func120,ntmps120
 go_wp2
 refine wp_loop_rounds 33 ?_
 iterate 32(rw[rounds_succ];go_wp2)
 have hcv:=Hcv.out;rw[rounds_succ];go_wp2
 go_ret
 exact⟨rfl,(by repeat(first|exact Below.refl _ _|apply Below.drew|refine Below.alloc ?_ (by simp;try omega) _))⟩
theorem rbytes_raw(a0 a1 a2 a3:Nat):RT 60 #[U4 a0 a1 a2 a3] (.string (strOfNums (byteList a0 a1 a2 a3))):=by
 intro w
 have hcv:=conv32 [(a3:Int)/72057594037927936%256,(a3:Int)/281474976710656%256,(a3:Int)/1099511627776%256,(a3:Int)/4294967296%256,(a3:Int)/16777216%256,(a3:Int)/65536%256,(a3:Int)/256%256,(a3:Int)%256,(a2:Int)/72057594037927936%256,(a2:Int)/281474976710656%256,(a2:Int)/1099511627776%256,(a2:Int)/4294967296%256,(a2:Int)/16777216%256,(a2:Int)/65536%256,(a2:Int)/256%256,(a2:Int)%256,(a1:Int)/72057594037927936%256,(a1:Int)/281474976710656%256,(a1:Int)/1099511627776%256,(a1:Int)/4294967296%256,(a1:Int)/16777216%256,(a1:Int)/65536%256,(a1:Int)/256%256,(a1:Int)%256,(a0:Int)/72057594037927936%256,(a0:Int)/281474976710656%256,(a0:Int)/1099511627776%256,(a0:Int)/4294967296%256,(a0:Int)/16777216%256,(a0:Int)/65536%256,(a0:Int)/256%256,(a0:Int)%256] rfl (w.alloc (Obj.cells #[B a0,B a1,B a2,B a3] 57)) 5 (w.heap.size+1) (by simp)
 simp only[List.map_cons,List.map_nil]at hcv;have Hcv:Hid _:=hcv;clear hcv
 go_enter func60,ntmps60
 go_wp2
 refine wp_loop_rounds 33 ?_
 iterate 32(rw[rounds_succ];go_wp2)
 have hcv:=Hcv.out;rw[rounds_succ];go_wp2
 go_ret
 exact⟨rfl,(by repeat(first|exact Below.refl _ _|apply Below.drew|refine Below.alloc ?_ (by simp;try omega) _))⟩
end
theorem wrap_mul(x r:Nat):IntKind.u64.wrap ((x:Int)*2^r)=((x*2^r%M:Nat):Int):=by
 rw[IntKind.wrap_u64];simp[M]
def yb (n j:Nat):Nat:=n/2^(8*(31-j))%256
def vd (n:Nat):ByteArray:=strOfNums ((List.range 32).map fun j=>(yb n j:Int))
theorem byte_part(x r:Nat)(hr:r<8):x%M/2^(8*r)%256=x/2^(8*r)%256:=by
 rw[M_pow,show(64:Nat)=8*r+(64-8*r) by omega,Nat.pow_add,Nat.mod_mul_right_div_self];refine Nat.mod_mod_of_dvd _ ?_;rw[show(256:Nat)=2^8 from rfl];exact Nat.pow_dvd_pow 2 (by omega)
theorem z5(n q r:Nat)(hr:r<8)(x:Nat)(hx:x=n/2^(64*q)%M):(x:Int)/2^(8*r)%256=((n/2^(8*(8*q+r))%256:Nat):Int):=by
 have h:x/2^(8*r)%256=n/2^(8*(8*q+r))%256:=by
  rw[hx,byte_part _ r hr,Nat.div_div_eq_div_mul,← Nat.pow_add,show 64*q+8*r=8*(8*q+r) by omega]
 rw[← h];simp
theorem b_l0(n:Nat):l0 n=n/2^(64*0)%M:=by unfold l0;simp
theorem b_l1(n:Nat):l1 n=n/2^(64*1)%M:=by unfold l1;rw[M_pow]
theorem b_l2(n:Nat):l2 n=n/2^(64*2)%M:=by unfold l2;rw[MM_pow]
theorem b_l3(n:Nat):l3 n=n/2^(64*3)%M:=by unfold l3;rw[MMM_pow]
theorem by_0(n:Nat):(l0 n:Int)%256=(yb n 31:Int):=by have h:=z5 n 0 0 (by decide) (l0 n) (b_l0 n);simpa [yb]using h
theorem by_1(n:Nat):(l0 n:Int)/256%256=(yb n 30:Int):=by have h:=z5 n 0 1 (by decide) (l0 n) (b_l0 n);exact h
theorem by_2(n:Nat):(l0 n:Int)/65536%256=(yb n 29:Int):=by have h:=z5 n 0 2 (by decide) (l0 n) (b_l0 n);exact h
theorem by_3(n:Nat):(l0 n:Int)/16777216%256=(yb n 28:Int):=by have h:=z5 n 0 3 (by decide) (l0 n) (b_l0 n);exact h
theorem by_4(n:Nat):(l0 n:Int)/4294967296%256=(yb n 27:Int):=by have h:=z5 n 0 4 (by decide) (l0 n) (b_l0 n);exact h
theorem by_5(n:Nat):(l0 n:Int)/1099511627776%256=(yb n 26:Int):=by have h:=z5 n 0 5 (by decide) (l0 n) (b_l0 n);exact h
theorem by_6(n:Nat):(l0 n:Int)/281474976710656%256=(yb n 25:Int):=by have h:=z5 n 0 6 (by decide) (l0 n) (b_l0 n);exact h
theorem by_7(n:Nat):(l0 n:Int)/72057594037927936%256=(yb n 24:Int):=by have h:=z5 n 0 7 (by decide) (l0 n) (b_l0 n);exact h
theorem by_8(n:Nat):(l1 n:Int)%256=(yb n 23:Int):=by have h:=z5 n 1 0 (by decide) (l1 n) (b_l1 n);simpa [yb]using h
theorem by_9(n:Nat):(l1 n:Int)/256%256=(yb n 22:Int):=by have h:=z5 n 1 1 (by decide) (l1 n) (b_l1 n);exact h
theorem by_10(n:Nat):(l1 n:Int)/65536%256=(yb n 21:Int):=by have h:=z5 n 1 2 (by decide) (l1 n) (b_l1 n);exact h
theorem by_11(n:Nat):(l1 n:Int)/16777216%256=(yb n 20:Int):=by have h:=z5 n 1 3 (by decide) (l1 n) (b_l1 n);exact h
theorem by_12(n:Nat):(l1 n:Int)/4294967296%256=(yb n 19:Int):=by have h:=z5 n 1 4 (by decide) (l1 n) (b_l1 n);exact h
theorem by_13(n:Nat):(l1 n:Int)/1099511627776%256=(yb n 18:Int):=by have h:=z5 n 1 5 (by decide) (l1 n) (b_l1 n);exact h
theorem by_14(n:Nat):(l1 n:Int)/281474976710656%256=(yb n 17:Int):=by have h:=z5 n 1 6 (by decide) (l1 n) (b_l1 n);exact h
theorem by_15(n:Nat):(l1 n:Int)/72057594037927936%256=(yb n 16:Int):=by have h:=z5 n 1 7 (by decide) (l1 n) (b_l1 n);exact h
theorem by_16(n:Nat):(l2 n:Int)%256=(yb n 15:Int):=by have h:=z5 n 2 0 (by decide) (l2 n) (b_l2 n);simpa [yb]using h
theorem by_17(n:Nat):(l2 n:Int)/256%256=(yb n 14:Int):=by have h:=z5 n 2 1 (by decide) (l2 n) (b_l2 n);exact h
theorem by_18(n:Nat):(l2 n:Int)/65536%256=(yb n 13:Int):=by have h:=z5 n 2 2 (by decide) (l2 n) (b_l2 n);exact h
theorem by_19(n:Nat):(l2 n:Int)/16777216%256=(yb n 12:Int):=by have h:=z5 n 2 3 (by decide) (l2 n) (b_l2 n);exact h
theorem by_20(n:Nat):(l2 n:Int)/4294967296%256=(yb n 11:Int):=by have h:=z5 n 2 4 (by decide) (l2 n) (b_l2 n);exact h
theorem by_21(n:Nat):(l2 n:Int)/1099511627776%256=(yb n 10:Int):=by have h:=z5 n 2 5 (by decide) (l2 n) (b_l2 n);exact h
theorem by_22(n:Nat):(l2 n:Int)/281474976710656%256=(yb n 9:Int):=by have h:=z5 n 2 6 (by decide) (l2 n) (b_l2 n);exact h
theorem by_23(n:Nat):(l2 n:Int)/72057594037927936%256=(yb n 8:Int):=by have h:=z5 n 2 7 (by decide) (l2 n) (b_l2 n);exact h
theorem by_24(n:Nat):(l3 n:Int)%256=(yb n 7:Int):=by have h:=z5 n 3 0 (by decide) (l3 n) (b_l3 n);simpa [yb]using h
theorem by_25(n:Nat):(l3 n:Int)/256%256=(yb n 6:Int):=by have h:=z5 n 3 1 (by decide) (l3 n) (b_l3 n);exact h
theorem by_26(n:Nat):(l3 n:Int)/65536%256=(yb n 5:Int):=by have h:=z5 n 3 2 (by decide) (l3 n) (b_l3 n);exact h
theorem by_27(n:Nat):(l3 n:Int)/16777216%256=(yb n 4:Int):=by have h:=z5 n 3 3 (by decide) (l3 n) (b_l3 n);exact h
theorem by_28(n:Nat):(l3 n:Int)/4294967296%256=(yb n 3:Int):=by have h:=z5 n 3 4 (by decide) (l3 n) (b_l3 n);exact h
theorem by_29(n:Nat):(l3 n:Int)/1099511627776%256=(yb n 2:Int):=by have h:=z5 n 3 5 (by decide) (l3 n) (b_l3 n);exact h
theorem by_30(n:Nat):(l3 n:Int)/281474976710656%256=(yb n 1:Int):=by have h:=z5 n 3 6 (by decide) (l3 n) (b_l3 n);exact h
theorem by_31(n:Nat):(l3 n:Int)/72057594037927936%256=(yb n 0:Int):=by have h:=z5 n 3 7 (by decide) (l3 n) (b_l3 n);exact h
theorem byteList_eq(n:Nat):byteList (l0 n) (l1 n) (l2 n) (l3 n)=(List.range 32).map fun j=>(yb n j:Int):=by
 unfold byteList;rw[by_31 n,by_30 n,by_29 n,by_28 n,by_27 n,by_26 n,by_25 n,by_24 n,by_23 n,by_22 n,by_21 n,by_20 n,by_19 n,by_18 n,by_17 n,by_16 n,by_15 n,by_14 n,by_13 n,by_12 n,by_11 n,by_10 n,by_9 n,by_8 n,by_7 n,by_6 n,by_5 n,by_4 n,by_3 n,by_2 n,by_1 n,by_0 n];rfl
theorem zdh(n:Nat):RT 120 #[U n] (.string (vd n)):=by
 intro w;have h:=bytes_raw (l0 n) (l1 n) (l2 n) (l3 n) w;rw[byteList_eq]at h;exact h
theorem rbytes_any(n:Nat):RT 60 #[U n] (.string (vd n)):=by
 intro w;have h:=rbytes_raw (l0 n) (l1 n) (l2 n) (l3 n) w;rw[byteList_eq]at h;exact h
theorem vy(n:Nat):(vd n).size=32:=by unfold vd;rw[strOfNums_size];simp
end Go.Proofs.YtdeompgdhaomgaaGreatDoor
