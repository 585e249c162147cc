/- Merged: By, Bb, Sn, Sa. -/
import Derived.Test.YtbfgeinneglpdaaWt
import Derived.Test.YtbfgeinneglpdaaCs
import Derived.Test.YtbfgeinneglpdaaDa
import Derived.Test.YtbfgeinneglpdaaSr
import Derived.Test.YtbfgeinneglpdaaBu
import Derived.Test.YtbfgeinneglpdaaQc
import Derived.Test.YtbfgeinneglpdaaRd2
import Derived.Lib.QuietBelow
import Derived.BigQuiet
/- Contracts of Bytes of layer 1. -/
namespace Go.Proofs.Ytbfgeinneglpdaa
open Go.RowKit
set_option linter.unusedVariables false

theorem conv32 (xs : List Int) (h : xs.length = 32) (w : World) (t nb : Nat) (hn : nb = w.heap.size) :
    (convert 47 9 (.slice (some ⟨nb, 0, none⟩) 32 32)).run Try.prog (w.alloc (.cells (xs.map (Value.int .u8)).toArray t)) = .ok (.string (strOfNums xs)) (w.alloc (.cells (xs.map (Value.int .u8)).toArray t)) := by
  subst hn
  refine run_convert_bytes_arg _ 47 5 Try.underlying47 Try.underlying5 _ 0 32 32 xs h (fun i hi => ?_) 9 Try.underlying9
  rw [Nat.zero_add, World.cell?_alloc_new]
  simp [h, hi]

theorem make32 (w : World) : (Instr.makeSlice 47 (.int .i64 32) (.int .i64 32)).run Try.prog w = .ok (.slice (some ⟨w.heap.size, 0, none⟩) 32 32) (w.alloc (.cells #[Value.int .u8 0, Value.int .u8 0, Value.int .u8 0, Value.int .u8 0, Value.int .u8 0, Value.int .u8 0, Value.int .u8 0, Value.int .u8 0, Value.int .u8 0, Value.int .u8 0, Value.int .u8 0, Value.int .u8 0, Value.int .u8 0, Value.int .u8 0, Value.int .u8 0, Value.int .u8 0, Value.int .u8 0, Value.int .u8 0, Value.int .u8 0, Value.int .u8 0, Value.int .u8 0, Value.int .u8 0, Value.int .u8 0, Value.int .u8 0, Value.int .u8 0, Value.int .u8 0, Value.int .u8 0, Value.int .u8 0, Value.int .u8 0, Value.int .u8 0, Value.int .u8 0, Value.int .u8 0] 5)) := by
  have hi : Try.prog.info? 5 = some ((Try.prog.info? 5).getD default) := by kernel_rfl
  have hz : ((Try.prog.info? 5).getD default).zero = some (.int .u8 0) := by kernel_rfl
  have hs : ((Try.prog.info? 5).getD default).size = 1 := by kernel_rfl
  have hb : ((Try.prog.info? 5).getD default).bytes = 1 := by kernel_rfl
  rw [run_make w 47 5 _ _ Try.underlying47 hi hz .i64 .i64 32 32 (by decide) (by decide) (by rw [hb]; decide) (by decide), hs]
  have hm : madeCells (Value.int .u8 0).cells (Int.toNat 32 * 1) = #[Value.int .u8 0, Value.int .u8 0, Value.int .u8 0, Value.int .u8 0, Value.int .u8 0, Value.int .u8 0, Value.int .u8 0, Value.int .u8 0, Value.int .u8 0, Value.int .u8 0, Value.int .u8 0, Value.int .u8 0, Value.int .u8 0, Value.int .u8 0, Value.int .u8 0, Value.int .u8 0, Value.int .u8 0, Value.int .u8 0, Value.int .u8 0, Value.int .u8 0, Value.int .u8 0, Value.int .u8 0, Value.int .u8 0, Value.int .u8 0, Value.int .u8 0, Value.int .u8 0, Value.int .u8 0, Value.int .u8 0, Value.int .u8 0, Value.int .u8 0, Value.int .u8 0, Value.int .u8 0] := by kernel_rfl
  rw [hm]
  rfl
attribute [local go_sem] make32

def byteList (a0 a1 a2 a3 : Nat) : List Int := [(a3 : Int) / 72057594037927936 % 256, (a3 : Int) / 281474976710656 % 256, (a3 : Int) / 1099511627776 % 256, (a3 : Int) / 4294967296 % 256, (a3 : Int) / 16777216 % 256, (a3 : Int) / 65536 % 256, (a3 : Int) / 256 % 256, (a3 : Int) % 256, (a2 : Int) / 72057594037927936 % 256, (a2 : Int) / 281474976710656 % 256, (a2 : Int) / 1099511627776 % 256, (a2 : Int) / 4294967296 % 256, (a2 : Int) / 16777216 % 256, (a2 : Int) / 65536 % 256, (a2 : Int) / 256 % 256, (a2 : Int) % 256, (a1 : Int) / 72057594037927936 % 256, (a1 : Int) / 281474976710656 % 256, (a1 : Int) / 1099511627776 % 256, (a1 : Int) / 4294967296 % 256, (a1 : Int) / 16777216 % 256, (a1 : Int) / 65536 % 256, (a1 : Int) / 256 % 256, (a1 : Int) % 256, (a0 : Int) / 72057594037927936 % 256, (a0 : Int) / 281474976710656 % 256, (a0 : Int) / 1099511627776 % 256, (a0 : Int) / 4294967296 % 256, (a0 : Int) / 16777216 % 256, (a0 : Int) / 65536 % 256, (a0 : Int) / 256 % 256, (a0 : Int) % 256]

set_option maxRecDepth 100000 in
set_option maxHeartbeats 4000000 in
theorem bytes_raw (a0 a1 a2 a3 : Nat) (w : World) : Calls Try.prog 41 #[U4 a0 a1 a2 a3] w fun e w' => e = .returned (.string (strOfNums (byteList a0 a1 a2 a3))) ∧ Below w.heap.size w w' := by
  have hcv := conv32 [(a3 : Int) / 72057594037927936 % 256, (a3 : Int) / 281474976710656 % 256, (a3 : Int) / 1099511627776 % 256, (a3 : Int) / 4294967296 % 256, (a3 : Int) / 16777216 % 256, (a3 : Int) / 65536 % 256, (a3 : Int) / 256 % 256, (a3 : Int) % 256, (a2 : Int) / 72057594037927936 % 256, (a2 : Int) / 281474976710656 % 256, (a2 : Int) / 1099511627776 % 256, (a2 : Int) / 4294967296 % 256, (a2 : Int) / 16777216 % 256, (a2 : Int) / 65536 % 256, (a2 : Int) / 256 % 256, (a2 : Int) % 256, (a1 : Int) / 72057594037927936 % 256, (a1 : Int) / 281474976710656 % 256, (a1 : Int) / 1099511627776 % 256, (a1 : Int) / 4294967296 % 256, (a1 : Int) / 16777216 % 256, (a1 : Int) / 65536 % 256, (a1 : Int) / 256 % 256, (a1 : Int) % 256, (a0 : Int) / 72057594037927936 % 256, (a0 : Int) / 281474976710656 % 256, (a0 : Int) / 1099511627776 % 256, (a0 : Int) / 4294967296 % 256, (a0 : Int) / 16777216 % 256, (a0 : Int) / 65536 % 256, (a0 : Int) / 256 % 256, (a0 : Int) % 256] rfl (w.alloc (Obj.cells #[B a0, B a1, B a2, B a3] 24)) 58 (w.heap.size + 1) (by simp)
  simp only [List.map_cons, List.map_nil] at hcv
  have Hcv : Hid _ := hcv
  clear hcv
  go_enter Try.func41, Try.ntmps41
  go_wp2
  refine wp_loop_rounds 33 ?_
  iterate 32 (rw [rounds_succ]; go_wp2)
  have hcv := Hcv.out
  rw [rounds_succ]; go_wp2
  go_ret
  exact ⟨rfl, (by repeat (first | exact Below.refl _ _ | apply Below.drew | refine Below.alloc ?_ (by simp; try omega) _))⟩

set_option maxRecDepth 100000 in
set_option maxHeartbeats 4000000 in
theorem rbytes_raw (a0 a1 a2 a3 : Nat) (w : World) : Calls Try.prog 22 #[U4 a0 a1 a2 a3] w fun e w' => e = .returned (.string (strOfNums (byteList a0 a1 a2 a3))) ∧ Below w.heap.size w w' := by
  have hcv := conv32 [(a3 : Int) / 72057594037927936 % 256, (a3 : Int) / 281474976710656 % 256, (a3 : Int) / 1099511627776 % 256, (a3 : Int) / 4294967296 % 256, (a3 : Int) / 16777216 % 256, (a3 : Int) / 65536 % 256, (a3 : Int) / 256 % 256, (a3 : Int) % 256, (a2 : Int) / 72057594037927936 % 256, (a2 : Int) / 281474976710656 % 256, (a2 : Int) / 1099511627776 % 256, (a2 : Int) / 4294967296 % 256, (a2 : Int) / 16777216 % 256, (a2 : Int) / 65536 % 256, (a2 : Int) / 256 % 256, (a2 : Int) % 256, (a1 : Int) / 72057594037927936 % 256, (a1 : Int) / 281474976710656 % 256, (a1 : Int) / 1099511627776 % 256, (a1 : Int) / 4294967296 % 256, (a1 : Int) / 16777216 % 256, (a1 : Int) / 65536 % 256, (a1 : Int) / 256 % 256, (a1 : Int) % 256, (a0 : Int) / 72057594037927936 % 256, (a0 : Int) / 281474976710656 % 256, (a0 : Int) / 1099511627776 % 256, (a0 : Int) / 4294967296 % 256, (a0 : Int) / 16777216 % 256, (a0 : Int) / 65536 % 256, (a0 : Int) / 256 % 256, (a0 : Int) % 256] rfl (w.alloc (Obj.cells #[B a0, B a1, B a2, B a3] 24)) 5 (w.heap.size + 1) (by simp)
  simp only [List.map_cons, List.map_nil] at hcv
  have Hcv : Hid _ := hcv
  clear hcv
  go_enter Try.func22, Try.ntmps22
  go_wp2
  refine wp_loop_rounds 33 ?_
  iterate 32 (rw [rounds_succ]; go_wp2)
  have hcv := Hcv.out
  rw [rounds_succ]; go_wp2
  go_ret
  exact ⟨rfl, (by repeat (first | exact Below.refl _ _ | apply Below.drew | refine Below.alloc ?_ (by simp; try omega) _))⟩

end Go.Proofs.Ytbfgeinneglpdaa

/- Bytes of numbers: what Bytes hands back is the text whose number is the number itself. -/
namespace Go.Proofs.Ytbfgeinneglpdaa
open Go.RowKit
set_option linter.unusedVariables false

def byteFn (n j : Nat) : Nat := n / 2 ^ (8 * (31 - j)) % 256
/-- The text of a number's 32 bytes, the highest first. -/
def strN (n : Nat) : ByteArray := strOfNums ((List.range 32).map fun j => (byteFn n j : Int))
theorem byte_part (x r : Nat) (hr : r < 8) : x % M / 2 ^ (8 * r) % 256 = x / 2 ^ (8 * r) % 256 := by
  rw [M_pow, show (64 : Nat) = 8 * r + (64 - 8 * r) by omega, Nat.pow_add, Nat.mod_mul_right_div_self]
  refine Nat.mod_mod_of_dvd _ ?_
  rw [show (256 : Nat) = 2 ^ 8 from rfl]
  exact Nat.pow_dvd_pow 2 (by omega)
theorem byte_int (n q r : Nat) (hr : r < 8) (x : Nat) (hx : x = n / 2 ^ (64 * q) % M) : (x : Int) / 2 ^ (8 * r) % 256 = ((n / 2 ^ (8 * (8 * q + r)) % 256 : Nat) : Int) := by
  have h : x / 2 ^ (8 * r) % 256 = n / 2 ^ (8 * (8 * q + r)) % 256 := by
    rw [hx, byte_part _ r hr, Nat.div_div_eq_div_mul, ← Nat.pow_add, show 64 * q + 8 * r = 8 * (8 * q + r) by omega]
  rw [← h]; simp
theorem b_l0 (n : Nat) : l0 n = n / 2 ^ (64 * 0) % M := by unfold l0; simp
theorem b_l1 (n : Nat) : l1 n = n / 2 ^ (64 * 1) % M := by unfold l1; rw [M_pow]
theorem b_l2 (n : Nat) : l2 n = n / 2 ^ (64 * 2) % M := by unfold l2; rw [MM_pow]
theorem b_l3 (n : Nat) : l3 n = n / 2 ^ (64 * 3) % M := by unfold l3; rw [MMM_pow]
theorem by_0 (n : Nat) : (l0 n : Int) % 256 = (byteFn n 31 : Int) := by have h := byte_int n 0 0 (by decide) (l0 n) (b_l0 n); simpa [byteFn] using h
theorem by_1 (n : Nat) : (l0 n : Int) / 256 % 256 = (byteFn n 30 : Int) := by have h := byte_int n 0 1 (by decide) (l0 n) (b_l0 n); exact h
theorem by_2 (n : Nat) : (l0 n : Int) / 65536 % 256 = (byteFn n 29 : Int) := by have h := byte_int n 0 2 (by decide) (l0 n) (b_l0 n); exact h
theorem by_3 (n : Nat) : (l0 n : Int) / 16777216 % 256 = (byteFn n 28 : Int) := by have h := byte_int n 0 3 (by decide) (l0 n) (b_l0 n); exact h
theorem by_4 (n : Nat) : (l0 n : Int) / 4294967296 % 256 = (byteFn n 27 : Int) := by have h := byte_int n 0 4 (by decide) (l0 n) (b_l0 n); exact h
theorem by_5 (n : Nat) : (l0 n : Int) / 1099511627776 % 256 = (byteFn n 26 : Int) := by have h := byte_int n 0 5 (by decide) (l0 n) (b_l0 n); exact h
theorem by_6 (n : Nat) : (l0 n : Int) / 281474976710656 % 256 = (byteFn n 25 : Int) := by have h := byte_int n 0 6 (by decide) (l0 n) (b_l0 n); exact h
theorem by_7 (n : Nat) : (l0 n : Int) / 72057594037927936 % 256 = (byteFn n 24 : Int) := by have h := byte_int n 0 7 (by decide) (l0 n) (b_l0 n); exact h
theorem by_8 (n : Nat) : (l1 n : Int) % 256 = (byteFn n 23 : Int) := by have h := byte_int n 1 0 (by decide) (l1 n) (b_l1 n); simpa [byteFn] using h
theorem by_9 (n : Nat) : (l1 n : Int) / 256 % 256 = (byteFn n 22 : Int) := by have h := byte_int n 1 1 (by decide) (l1 n) (b_l1 n); exact h
theorem by_10 (n : Nat) : (l1 n : Int) / 65536 % 256 = (byteFn n 21 : Int) := by have h := byte_int n 1 2 (by decide) (l1 n) (b_l1 n); exact h
theorem by_11 (n : Nat) : (l1 n : Int) / 16777216 % 256 = (byteFn n 20 : Int) := by have h := byte_int n 1 3 (by decide) (l1 n) (b_l1 n); exact h
theorem by_12 (n : Nat) : (l1 n : Int) / 4294967296 % 256 = (byteFn n 19 : Int) := by have h := byte_int n 1 4 (by decide) (l1 n) (b_l1 n); exact h
theorem by_13 (n : Nat) : (l1 n : Int) / 1099511627776 % 256 = (byteFn n 18 : Int) := by have h := byte_int n 1 5 (by decide) (l1 n) (b_l1 n); exact h
theorem by_14 (n : Nat) : (l1 n : Int) / 281474976710656 % 256 = (byteFn n 17 : Int) := by have h := byte_int n 1 6 (by decide) (l1 n) (b_l1 n); exact h
theorem by_15 (n : Nat) : (l1 n : Int) / 72057594037927936 % 256 = (byteFn n 16 : Int) := by have h := byte_int n 1 7 (by decide) (l1 n) (b_l1 n); exact h
theorem by_16 (n : Nat) : (l2 n : Int) % 256 = (byteFn n 15 : Int) := by have h := byte_int n 2 0 (by decide) (l2 n) (b_l2 n); simpa [byteFn] using h
theorem by_17 (n : Nat) : (l2 n : Int) / 256 % 256 = (byteFn n 14 : Int) := by have h := byte_int n 2 1 (by decide) (l2 n) (b_l2 n); exact h
theorem by_18 (n : Nat) : (l2 n : Int) / 65536 % 256 = (byteFn n 13 : Int) := by have h := byte_int n 2 2 (by decide) (l2 n) (b_l2 n); exact h
theorem by_19 (n : Nat) : (l2 n : Int) / 16777216 % 256 = (byteFn n 12 : Int) := by have h := byte_int n 2 3 (by decide) (l2 n) (b_l2 n); exact h
theorem by_20 (n : Nat) : (l2 n : Int) / 4294967296 % 256 = (byteFn n 11 : Int) := by have h := byte_int n 2 4 (by decide) (l2 n) (b_l2 n); exact h
theorem by_21 (n : Nat) : (l2 n : Int) / 1099511627776 % 256 = (byteFn n 10 : Int) := by have h := byte_int n 2 5 (by decide) (l2 n) (b_l2 n); exact h
theorem by_22 (n : Nat) : (l2 n : Int) / 281474976710656 % 256 = (byteFn n 9 : Int) := by have h := byte_int n 2 6 (by decide) (l2 n) (b_l2 n); exact h
theorem by_23 (n : Nat) : (l2 n : Int) / 72057594037927936 % 256 = (byteFn n 8 : Int) := by have h := byte_int n 2 7 (by decide) (l2 n) (b_l2 n); exact h
theorem by_24 (n : Nat) : (l3 n : Int) % 256 = (byteFn n 7 : Int) := by have h := byte_int n 3 0 (by decide) (l3 n) (b_l3 n); simpa [byteFn] using h
theorem by_25 (n : Nat) : (l3 n : Int) / 256 % 256 = (byteFn n 6 : Int) := by have h := byte_int n 3 1 (by decide) (l3 n) (b_l3 n); exact h
theorem by_26 (n : Nat) : (l3 n : Int) / 65536 % 256 = (byteFn n 5 : Int) := by have h := byte_int n 3 2 (by decide) (l3 n) (b_l3 n); exact h
theorem by_27 (n : Nat) : (l3 n : Int) / 16777216 % 256 = (byteFn n 4 : Int) := by have h := byte_int n 3 3 (by decide) (l3 n) (b_l3 n); exact h
theorem by_28 (n : Nat) : (l3 n : Int) / 4294967296 % 256 = (byteFn n 3 : Int) := by have h := byte_int n 3 4 (by decide) (l3 n) (b_l3 n); exact h
theorem by_29 (n : Nat) : (l3 n : Int) / 1099511627776 % 256 = (byteFn n 2 : Int) := by have h := byte_int n 3 5 (by decide) (l3 n) (b_l3 n); exact h
theorem by_30 (n : Nat) : (l3 n : Int) / 281474976710656 % 256 = (byteFn n 1 : Int) := by have h := byte_int n 3 6 (by decide) (l3 n) (b_l3 n); exact h
theorem by_31 (n : Nat) : (l3 n : Int) / 72057594037927936 % 256 = (byteFn n 0 : Int) := by have h := byte_int n 3 7 (by decide) (l3 n) (b_l3 n); exact h
theorem byteList_eq (n : Nat) : byteList (l0 n) (l1 n) (l2 n) (l3 n) = (List.range 32).map fun j => (byteFn n j : Int) := by
  unfold byteList
  rw [by_31 n, by_30 n, by_29 n, by_28 n, by_27 n, by_26 n, by_25 n, by_24 n, by_23 n, by_22 n, by_21 n, by_20 n, by_19 n, by_18 n, by_17 n, by_16 n, by_15 n, by_14 n, by_13 n, by_12 n, by_11 n, by_10 n, by_9 n, by_8 n, by_7 n, by_6 n, by_5 n, by_4 n, by_3 n, by_2 n, by_1 n, by_0 n]
  rfl
theorem bytes_any (n : Nat) (w : World) : Calls Try.prog 41 #[U n] w fun e w' => e = .returned (.string (strN n)) ∧ Below w.heap.size w w' := by
  have h := bytes_raw (l0 n) (l1 n) (l2 n) (l3 n) w; rw [byteList_eq] at h; exact h
theorem rbytes_any (n : Nat) (w : World) : Calls Try.prog 22 #[U n] w fun e w' => e = .returned (.string (strN n)) ∧ Below w.heap.size w w' := by
  have h := rbytes_raw (l0 n) (l1 n) (l2 n) (l3 n) w; rw [byteList_eq] at h; exact h
theorem strN_size (n : Nat) : (strN n).size = 32 := by unfold strN; rw [strOfNums_size]; simp
end Go.Proofs.Ytbfgeinneglpdaa

/- Numbers with signs, told by numbers: negatives, sizes, quotients, order, shifts that keep the sign. No program. -/
namespace Go.Proofs.Ytbfgeinneglpdaa
set_option linter.unusedVariables false

def HW : Nat := 57896044618658097711785492504343953926634992332820282019728792003956564819968
theorem HW_pow : HW = 2 ^ 255 := by decide +kernel
theorem W_HW : W = HW + HW := by decide +kernel
theorem HW_pos : 0 < HW := by decide +kernel
def ng (a : Nat) : Bool := decide (HW ≤ a)
def negW (a : Nat) : Nat := subW 0 a
def tn (a : Nat) (b : Bool) : Nat := if b = true then negW a else a
def ab (a : Nat) : Nat := tn a (ng a)
def sq (a b : Nat) : Nat := tn (ab a / ab b) (ng a != ng b)
def sr (a b : Nat) : Nat := tn (dr 0 (ab a) (ab b)) (ng a)
def ls (a b : Nat) : Bool := if (ng a != ng b) = true then ng a else decide (a < b)
def sar (a n : Nat) : Nat := if ng a = true then notW (shrW (notW a) n) else shrW a n
def upE (k : Nat) : Nat := 8 * (31 - k)
def exW (k a : Nat) : Nat := if k < 31 then sar (shlW a (upE k)) (upE k) else a
def byW (k a : Nat) : Nat := if k < 32 then byteFn a k else 0

theorem negW_lt (a : Nat) : negW a < W := Nat.mod_lt _ W_pos
theorem negW_zero : negW 0 = 0 := by decide +kernel
theorem negW_pos (a : Nat) (h0 : 0 < a) (h : a < W) : negW a = W - a := by
  unfold negW subW
  rw [Nat.zero_add]
  exact Nat.mod_eq_of_lt (by omega)
theorem negW_int (a : Nat) (h : a < W) : ∃ e : Int, (negW a : Int) = e * (W : Int) - a := by
  rcases Nat.eq_zero_or_pos a with h0 | h0
  · subst h0; exact ⟨0, by rw [negW_zero]; simp⟩
  · refine ⟨1, ?_⟩
    rw [negW_pos a h0 h]
    omega
theorem tn_lt (a : Nat) (b : Bool) (h : a < W) : tn a b < W := by
  unfold tn
  split
  · exact negW_lt a
  · exact h
theorem ab_lt (a : Nat) (h : a < W) : ab a < W := tn_lt a _ h
theorem ng_true {a : Nat} (h : ng a = true) : HW ≤ a := of_decide_eq_true h
theorem ng_false {a : Nat} (h : ng a = false) : a < HW := by
  have := of_decide_eq_false h; omega
theorem dr0_lt (a b : Nat) (h : a < W) : dr 0 a b < W := by
  unfold dr
  split
  · exact W_pos
  · rw [Nat.zero_mul, Nat.zero_add]; exact Nat.lt_of_le_of_lt (Nat.mod_le _ _) h
theorem div_lt (a b : Nat) (h : a < W) : a / b < W := Nat.lt_of_le_of_lt (Nat.div_le_self _ _) h
theorem sq_lt (a b : Nat) (ha : a < W) : sq a b < W := tn_lt _ _ (div_lt _ _ (ab_lt a ha))
theorem sr_lt (a b : Nat) (ha : a < W) : sr a b < W := tn_lt _ _ (dr0_lt _ _ (ab_lt a ha))
theorem sar_lt (a n : Nat) (h : a < W) : sar a n < W := by
  unfold sar
  split
  · exact notW_lt _
  · exact shrW_lt a n h
theorem exW_lt (k a : Nat) (h : a < W) : exW k a < W := by
  unfold exW
  split
  · exact sar_lt _ _ (shlW_lt _ _)
  · exact h
theorem byteFn_lt (a k : Nat) : byteFn a k < 256 := Nat.mod_lt _ (by decide)
theorem byW_lt (k a : Nat) : byW k a < 256 := by
  unfold byW
  split
  · exact byteFn_lt a k
  · decide

/-- the highest bit, by the number of bits -/
theorem ng_bits (a : Nat) (h : a < W) : ((bitsN a : Int) = 256) ↔ ng a = true := by
  constructor
  · intro hb
    have hb : bitsN a = 256 := by omega
    have h0 : 0 < a := by
      rcases Nat.eq_zero_or_pos a with h0 | h0
      · subst h0
        have := bitsN_le 0 0 (by decide)
        omega
      · exact h0
    have := (bitsN_spec a h h0).2.2.1
    rw [hb] at this
    exact decide_eq_true (by rw [HW_pow]; exact this)
  · intro hn
    have hn := ng_true hn
    have hp := HW_pos
    obtain ⟨b1, b2, b3, b4⟩ := bitsN_spec a h (by omega)
    rcases Nat.lt_or_ge (bitsN a) 256 with hl | hl
    · exfalso
      have : 2 ^ bitsN a ≤ 2 ^ 255 := Nat.pow_le_pow_right (by decide) (by omega)
      rw [← HW_pow] at this
      omega
    · omega
theorem ng_bit (a : Nat) (h : a < W) : a / 2 ^ 255 % 2 = if ng a = true then 1 else 0 := by
  rw [← HW_pow]
  have hW := W_HW
  have hp := HW_pos
  cases hn : ng a
  · have := ng_false hn
    rw [Nat.div_eq_of_lt this]
    rfl
  · have h1 := ng_true hn
    have : a / HW = 1 := by
      rw [Nat.div_eq_iff hp]
      omega
    rw [this]
    rfl
theorem ng_top (a : Nat) (h : a < W) : l3 a / 9223372036854775808 = if ng a = true then 1 else 0 := by
  have e : l3 a / 9223372036854775808 = a / 2 ^ 255 % 2 := by
    unfold l3
    rw [MMM_pow, show (9223372036854775808 : Nat) = 2 ^ 63 from rfl]
    have hlt : a / 2 ^ 192 < M := by
      rw [Nat.div_lt_iff_lt_mul (by decide)]
      rw [M_pow, ← Nat.pow_add]
      rw [W_pow] at h
      exact h
    rw [Nat.mod_eq_of_lt hlt, Nat.div_div_eq_div_mul, ← Nat.pow_add]
    rw [Nat.mod_eq_of_lt]
    rw [W_pow] at h
    rw [Nat.div_lt_iff_lt_mul (by decide)]
    exact h
  rw [e, ng_bit a h]

/-- a number and its negative -/
theorem neg_add (a : Nat) (h : a < W) : addW a (negW a) = 0 := by
  unfold addW
  rcases Nat.eq_zero_or_pos a with h0 | h0
  · subst h0; decide +kernel
  · rw [negW_pos a h0 h, show a + (W - a) = W by omega, Nat.mod_self]
theorem back_int (q b r a : Nat) (ha : a < W) (k : Int) (h : (q : Int) * b + r = a + k * (W : Int)) : addW (q * b % W) r = a := by
  unfold addW
  rw [Nat.mod_add_mod]
  have hW := W_pos
  have e : (((q * b + r) % W : Nat) : Int) = (a : Int) := by
    have : (((q * b + r : Nat)) : Int) = a + k * (W : Int) := by push_cast; exact h
    rw [Int.natCast_emod, this, Int.add_mul_emod_self_right]
    exact Int.emod_eq_of_lt (by omega) (by omega)
  exact Int.ofNat.inj e
theorem ab_pos (b : Nat) (h : b < W) (h0 : 0 < b) : 0 < ab b := by
  unfold ab tn
  split
  · rw [negW_pos b h0 h]; omega
  · exact h0
theorem ring_ft (V a b nB Q R nQ eb eq : Int) (h1 : nB = eb * V - b) (h2 : nQ = eq * V - Q) (hd : nB * Q + R = a) : nQ * b + R = a + (eq * b - Q * eb) * V := by
  subst h1 h2 hd; grind
theorem ring_tf (V a b nA Q R nQ nR ea eq es : Int) (h1 : nA = ea * V - a) (h2 : nQ = eq * V - Q) (h3 : nR = es * V - R) (hd : b * Q + R = nA) : nQ * b + nR = a + (eq * b + es - ea) * V := by
  have : a = ea * V - (b * Q + R) := by omega
  subst this h2 h3; grind
theorem ring_tt (V a b nA nB Q R nR ea eb es : Int) (h1 : nA = ea * V - a) (h2 : nB = eb * V - b) (h3 : nR = es * V - R) (hd : nB * Q + R = nA) : Q * b + nR = a + (Q * eb + es - ea) * V := by
  have e1 : b = eb * V - nB := by omega
  have e2 : a = ea * V - (nB * Q + R) := by omega
  subst h3 e1 e2; grind
theorem neg_back (a b : Nat) (ha : a < W) (hb : b < W) (h0 : 0 < b) : addW (sq a b * b % W) (sr a b) = a := by
  have hB := ab_pos b hb h0
  have hA := ab_lt a ha
  have hq : ab a / ab b < W := div_lt _ _ hA
  have hr : ab a % ab b < W := Nat.lt_of_le_of_lt (Nat.mod_le _ _) hA
  have hd0 := Nat.div_add_mod (ab a) (ab b)
  have hd : (ab b : Int) * ((ab a / ab b : Nat) : Int) + ((ab a % ab b : Nat) : Int) = (ab a : Int) := by rw [← Int.natCast_mul, ← Int.natCast_add, hd0]
  have er : dr 0 (ab a) (ab b) = ab a % ab b := by unfold dr; rw [if_neg (by omega), Nat.zero_mul, Nat.zero_add]
  obtain ⟨ea, hea⟩ := negW_int a ha
  obtain ⟨eb, heb⟩ := negW_int b hb
  obtain ⟨eq, heq⟩ := negW_int _ hq
  obtain ⟨es, hes⟩ := negW_int _ hr
  unfold sq sr
  rw [er]
  have tT : ∀ x, tn x true = negW x := fun x => by unfold tn; rw [if_pos rfl]
  have tF : ∀ x, tn x false = x := fun x => by unfold tn; rw [if_neg (by decide)]
  generalize ab a / ab b = Q at *
  generalize ab a % ab b = R at *
  cases hna : ng a <;> cases hnb : ng b
  · have e1 : ab a = a := by unfold ab; rw [hna, tF]
    have e2 : ab b = b := by unfold ab; rw [hnb, tF]
    rw [e1, e2] at hd
    rw [show (false != false) = false from rfl, tF, tF]
    exact back_int Q b R a ha 0 (by rw [Int.mul_comm]; omega)
  · have e1 : ab a = a := by unfold ab; rw [hna, tF]
    have e2 : ab b = negW b := by unfold ab; rw [hnb, tT]
    rw [e1, e2] at hd
    rw [show (false != true) = true from rfl, tT, tF]
    exact back_int _ b R a ha _ (ring_ft W a b (negW b) Q R _ eb eq heb heq hd)
  · have e1 : ab a = negW a := by unfold ab; rw [hna, tT]
    have e2 : ab b = b := by unfold ab; rw [hnb, tF]
    rw [e1, e2] at hd
    rw [show (true != false) = true from rfl, tT, tT]
    exact back_int _ b _ a ha _ (ring_tf W a b (negW a) Q R _ _ ea eq es hea heq hes hd)
  · have e1 : ab a = negW a := by unfold ab; rw [hna, tT]
    have e2 : ab b = negW b := by unfold ab; rw [hnb, tT]
    rw [e1, e2] at hd
    rw [show (true != true) = false from rfl, tF, tT]
    exact back_int _ b _ a ha _ (ring_tt W a b (negW a) (negW b) Q R _ ea eb es hea heb hes hd)

/-- just one of less, more, the same -/
theorem ls_self (a : Nat) : ls a a = false := by
  unfold ls
  rw [bne_self_eq_false, if_neg (by decide)]
  exact decide_eq_false (by omega)
theorem dec_one (a b : Nat) (h : a ≠ b) : decide (b < a) = !decide (a < b) := by
  rcases Nat.lt_or_ge a b with h1 | h1
  · rw [decide_eq_true h1, decide_eq_false (by omega)]; rfl
  · rw [decide_eq_true (show b < a by omega), decide_eq_false (by omega)]; rfl
theorem ls_one (a b : Nat) (h : a ≠ b) : ls b a = !ls a b := by
  unfold ls
  cases hna : ng a <;> cases hnb : ng b
  · exact dec_one a b h
  · rfl
  · rfl
  · exact dec_one a b h
theorem ls_signs (a b : Nat) (h : ng a ≠ ng b) : ls a b = ng a := by
  unfold ls
  rw [if_pos (by simp [h])]

/-- a shift up and down again that keeps the sign -/
theorem sar_up (a n : Nat) (hn : n ≤ 256) : shlW (sar (shlW a n) n) n = shlW a n := by
  obtain ⟨V, hV⟩ : ∃ V, W = 2 ^ n * V := ⟨2 ^ (256 - n), by rw [← Nat.pow_add, W_pow]; congr 1; omega⟩
  have hp : 0 < 2 ^ n := Nat.pow_pos (by decide)
  have hy : shlW a n = 2 ^ n * (a % V) := by
    unfold shlW
    rw [hV, Nat.mul_comm a, Nat.mul_mod_mul_left]
  have hW := W_pos
  have hVp : 0 < V := by
    rcases Nat.eq_zero_or_pos V with h | h
    · rw [h, Nat.mul_zero] at hV; omega
    · exact h
  have hz : a % V < V := Nat.mod_lt _ hVp
  rw [hy]
  generalize a % V = z at *
  have hylt : 2 ^ n * z < W := by rw [hV]; exact Nat.mul_lt_mul_of_pos_left hz hp
  unfold sar
  split
  · have e1 : shrW (notW (2 ^ n * z)) n = V - 1 - z := by
      unfold shrW notW
      have : W - 1 - 2 ^ n * z = 2 ^ n * (V - 1 - z) + (2 ^ n - 1) := by
        have h1 : 2 ^ n * (V - 1 - z) + 2 ^ n * (z + 1) = W := by rw [← Nat.mul_add, show V - 1 - z + (z + 1) = V by omega, hV]
        rw [Nat.mul_add, Nat.mul_one] at h1
        omega
      rw [this, Nat.mul_add_div hp, Nat.div_eq_of_lt (by omega), Nat.add_zero]
    rw [e1]
    have hVW : V ≤ W := by rw [hV]; exact Nat.le_mul_of_pos_left _ hp
    have e2 : notW (V - 1 - z) = (W - V) + z := by unfold notW; omega
    rw [e2]
    unfold shlW
    have e3 : W - V = (2 ^ n - 1) * V := by rw [hV, Nat.sub_mul, Nat.one_mul]
    have e4 : (W - V + z) * 2 ^ n = 2 ^ n * z + W * (2 ^ n - 1) := by
      rw [e3, Nat.add_mul, hV, Nat.mul_comm z, Nat.add_comm]
      congr 1
      rw [Nat.mul_right_comm, Nat.mul_comm (2 ^ n - 1), Nat.mul_right_comm]
    rw [e4, Nat.add_mul_mod_self_left, Nat.mod_eq_of_lt hylt]
  · unfold shlW shrW
    rw [Nat.mul_div_cancel_left _ hp, Nat.mul_comm, Nat.mod_eq_of_lt hylt]
theorem exW_up (k a : Nat) (hk : k < 31) : shlW (exW k a) (upE k) = shlW a (upE k) := by
  unfold exW
  rw [if_pos hk]
  exact sar_up a _ (by unfold upE; omega)
theorem exW_in (k a : Nat) (hk : k < 31) : exW k a = sar (shlW a (upE k)) (upE k) := by unfold exW; rw [if_pos hk]
theorem exW_twice (k a : Nat) : exW k (exW k a) = exW k a := by
  by_cases hk : k < 31
  · have h := exW_up k a hk
    rw [exW_in k (exW k a) hk, h, exW_in k a hk]
  · have : ∀ x, exW k x = x := fun x => by unfold exW; rw [if_neg hk]
    rw [this, this]
theorem exW_whole (k a : Nat) (hk : ¬ k < 31) : exW k a = a := by unfold exW; rw [if_neg hk]
theorem byW_in (k a : Nat) (hk : k < 32) : byW k a = byteFn a k := by unfold byW; rw [if_pos hk]

end Go.Proofs.Ytbfgeinneglpdaa

/- Contracts of sign, and of the document's own, told by numbers. -/
namespace Go.Proofs.Ytbfgeinneglpdaa
open Go.RowKit Go.Sort
set_option linter.unusedVariables false
attribute [local go_sem] run_eq4 run_eqU_same

theorem neg_any (a : Nat) (ha : a < W) (w : World) : Calls Try.prog 9 #[U a] w fun e w' => e = .returned (U (negW a)) ∧ Below w.heap.size w w' := by
  exact neg_raw a _ _ (fun w => by have h := sub_any 0 a W_pos ha w; rw [U_zero] at h; exact h) w

theorem rneg_any (a : Nat) (ha : a < W) (w : World) : Calls Try.prog 10 #[U a] w fun e w' => e = .returned (U (negW a)) ∧ Below w.heap.size w w' := by
  exact rneg_raw a _ _ (fun w => by have h := rsub_any 0 a W_pos ha w; rw [U_zero] at h; exact h) w

theorem dec_bits (a : Nat) (h : a < W) : decide ((bitsN a : Int) = 256) = ng a := by
  rw [Bool.eq_iff_iff, decide_eq_true_iff]; exact ng_bits a h
theorem dec_bit (a : Nat) (h : a < W) : decide (((a / 2 ^ 255 % 2 : Nat) : Int) = 1) = ng a := by
  rw [Bool.eq_iff_iff, decide_eq_true_iff, ng_bit a h]
  cases ng a <;> simp
theorem dec_cmp (a b : Nat) : decide (cmpN a b < 0) = decide (a < b) := by
  unfold cmpN
  split
  · rename_i h; rw [decide_eq_true h]; rfl
  · rename_i h
    rw [decide_eq_false h]
    split <;> rfl
theorem low_parts (k m : Nat) (hk : k < W) (h1 : l1 k = 0) (h2 : l2 k = 0) (h3 : l3 k = 0) : k = l0 k := by
  have h := mk_parts k hk
  rw [h1, h2, h3] at h
  unfold mk at h
  simp at h
  exact h.symm

theorem under_any (a : Nat) (ha : a < W) (w : World) : Calls Try.prog 30 #[U a] w fun e w' => e = .returned (.bool (ng a)) ∧ Below w.heap.size w w' := by
  have h := under_raw a _ (bits_any a) w
  rw [dec_bits a ha] at h
  exact h

theorem below_any (a : Nat) (ha : a < W) (w : World) : Calls Try.prog 27 #[U a] w fun e w' => e = .returned (.bool (ng a)) ∧ Below w.heap.size w w' := by
  have h := below_raw a _ (bit_any a 255 (by decide)) w
  rw [dec_bit a ha] at h
  exact h

theorem turned_any (a : Nat) (b : Bool) (ha : a < W) (w : World) : Calls Try.prog 47 #[U a, .bool b] w fun e w' => e = .returned (U (tn a b)) ∧ Below w.heap.size w w' := by
  cases b
  · exact turned_no a w
  · exact turned_yes a _ (neg_any a ha) w

theorem size_any (a : Nat) (ha : a < W) (w : World) : Calls Try.prog 26 #[U a] w fun e w' => e = .returned (U (ab a)) ∧ Below w.heap.size w w' := by
  have hb := below_any a ha
  unfold ab
  cases hn : ng a
  · rw [hn] at hb
    exact size_no a hb w
  · rw [hn] at hb
    exact size_yes a _ hb (rneg_any a ha) w

theorem sdivide_any (a b : Nat) (ha : a < W) (hb : b < W) (w : World) : Calls Try.prog 24 #[U a, U b] w fun e w' => e = .returned (.tuple #[U (sq a b), U (sr a b)]) ∧ Below w.heap.size w w' := by
  exact sdivide_raw a b (ab a) (ab b) (ab a / ab b) (dr 0 (ab a) (ab b)) (sq a b) (sr a b) (ng a) (ng b) (under_any a ha) (under_any b hb) (turned_any a (ng a) ha) (turned_any b (ng b) hb)
    (div_any (ab a) (ab b) (ab_lt a ha) (ab_lt b hb)) (turned_any _ _ (div_lt _ _ (ab_lt a ha))) (turned_any _ _ (dr0_lt _ _ (ab_lt a ha))) w

theorem sdiv_any (a b : Nat) (ha : a < W) (hb : b < W) (w : World) : Calls Try.prog 7 #[U a, U b] w fun e w' => e = .returned (.tuple #[U (sq a b), U (sr a b)]) ∧ Below w.heap.size w w' := by
  exact sdiv_raw a b _ _ (sdivide_any a b ha hb) w

theorem rsdiv_any (a b : Nat) (ha : a < W) (hb : b < W) (w : World) : Calls Try.prog 8 #[U a, U b] w fun e w' => e = .returned (.tuple #[U (sq a b), U (sr a b)]) ∧ Below w.heap.size w w' := by
  have h1 := below_any a ha
  have h2 := below_any b hb
  have h3 := rdiv_any (ab a) (ab b) (ab_lt a ha) (ab_lt b hb)
  have n1 := rneg_any (ab a / ab b) (div_lt _ _ (ab_lt a ha))
  have n2 := rneg_any (dr 0 (ab a) (ab b)) (dr0_lt _ _ (ab_lt a ha))
  unfold sq sr
  cases hp : ng a <;> cases hs : ng b <;> rw [hp] at h1 <;> rw [hs] at h2
  · exact rdiv_ff a b _ _ _ _ (size_any a ha) (size_any b hb) h3 h1 h2 w
  · exact rdiv_ft a b _ _ _ _ _ (size_any a ha) (size_any b hb) h3 h1 h2 n1 w
  · exact rdiv_tf a b _ _ _ _ _ _ (size_any a ha) (size_any b hb) h3 h1 h2 n1 n2 w
  · exact rdiv_tt a b _ _ _ _ _ (size_any a ha) (size_any b hb) h3 h1 h2 n2 w

theorem less_any (a b : Nat) (ha : a < W) (hb : b < W) (w : World) : Calls Try.prog 11 #[U a, U b] w fun e w' => e = .returned (.bool (ls a b)) ∧ Below w.heap.size w w' := by
  have h1 := under_any a ha
  have h2 := under_any b hb
  unfold ls
  rw [← dec_cmp a b]
  cases hp : ng a <;> cases hs : ng b <;> rw [hp] at h1 <;> rw [hs] at h2
  · exact less_ff a b _ h1 h2 (cmp_any a b ha hb) w
  · exact less_ft a b h1 h2 w
  · exact less_tf a b h1 h2 w
  · exact less_tt a b _ h1 h2 (cmp_any a b ha hb) w

theorem rless_any (a b : Nat) (ha : a < W) (hb : b < W) (w : World) : Calls Try.prog 12 #[U a, U b] w fun e w' => e = .returned (.bool (ls a b)) ∧ Below w.heap.size w w' := by
  have h1 := below_any a ha
  have h2 := below_any b hb
  unfold ls
  rw [← dec_cmp a b]
  cases hp : ng a <;> cases hs : ng b <;> rw [hp] at h1 <;> rw [hs] at h2
  · exact rless_ff a b _ h1 h2 (rcmp_any a b ha hb) w
  · exact rless_ft a b h1 h2 w
  · exact rless_tf a b h1 h2 w
  · exact rless_tt a b _ h1 h2 (rcmp_any a b ha hb) w

theorem sar_any (a n : Nat) (ha : a < W) (w : World) : Calls Try.prog 13 #[U a, B n] w fun e w' => e = .returned (U (sar a n)) ∧ Below w.heap.size w w' := by
  have h1 := under_any a ha
  unfold sar
  cases hp : ng a <;> rw [hp] at h1
  · exact sar_no a n _ h1 (shr_any a n ha) w
  · exact sar_yes a n _ _ _ h1 (not_any a ha) (shr_any _ n (notW_lt a)) (not_any _ (shrW_lt _ n (notW_lt a))) w

theorem rsar_any (a n : Nat) (ha : a < W) (w : World) : Calls Try.prog 14 #[U a, B n] w fun e w' => e = .returned (U (sar a n)) ∧ Below w.heap.size w w' := by
  have h1 := below_any a ha
  unfold sar
  cases hp : ng a <;> rw [hp] at h1
  · exact rsar_no a n _ h1 (rshr_any a n ha) w
  · exact rsar_yes a n _ _ _ h1 (rnot_any a ha) (rshr_any _ n (notW_lt a)) (rnot_any _ (shrW_lt _ n (notW_lt a))) w

theorem up_wrap (k : Nat) (h : k < 31) : IntKind.u64.wrap (IntKind.u64.wrap (31 - (k : Int)) * 8) = ((upE k : Nat) : Int) := by
  rw [IntKind.wrap_u64, IntKind.wrap_u64]; unfold upE; omega
theorem up_wrap2 (k : Nat) (h : k < 31) : IntKind.u64.wrap (wrap64 (8 * wrap64 (31 - (k : Int)))) = ((upE k : Nat) : Int) := by
  rw [IntKind.wrap_u64]; unfold upE wrap64; omega
theorem M_lt_W : M ≤ W := by decide +kernel
theorem str_at (n k : Nat) (hk : k < 32) : (strN n)[k]? = some (UInt8.ofNat (byteFn n k)) := by
  have hd : (strN n).data = ((List.range 32).map fun j => UInt8.ofNat (byteFn n j)).toArray := by
    unfold strN strOfNums; simp
  have h2 : k < (strN n).size := by rw [strN_size]; exact hk
  rw [ByteArray.getElem?_lt' _ _ h2]
  congr 1
  have h3 : k < (strN n).data.size := h2
  have e : (strN n)[k]'h2 = (strN n).data[k]'h3 := rfl
  rw [e]
  have e2 : (strN n).data[k]? = some (UInt8.ofNat (byteFn n k)) := by
    rw [hd, List.getElem?_toArray, List.getElem?_map, List.getElem?_range hk]
    rfl
  rw [Array.getElem?_eq_getElem h3] at e2
  exact Option.some.inj e2

theorem idx_str (n k : Nat) (hk : k < 32) (kd : IntKind) (w : World) : (Instr.index 9 (.string (strN n)) (.int kd (k : Int))).run Try.prog w = .ok (.int .u8 ((byteFn n k : Nat) : Int)) w := by
  have h2 : k < (strN n).size := by rw [strN_size]; exact hk
  have h3 : ((strN n)[k]'h2).toNat = byteFn n k := by
    have h := str_at n k hk
    rw [ByteArray.getElem?_lt' _ _ h2] at h
    have := Option.some.inj h
    rw [this]
    have hb := byteFn_lt n k
    simp [UInt8.toNat_ofNat']
    omega
  have h4 := run_index_string (P := Try.prog) w 9 (strN n) kd (k : Int) Try.underlying9
  rw [dif_pos ⟨by omega, by omega⟩] at h4
  rw [h4]
  simp only [Int.toNat_natCast]
  rw [h3]
theorem byte_wrap (n k : Nat) : IntKind.u64.wrap ((byteFn n k : Nat) : Int) = ((byteFn n k : Nat) : Int) := by
  have := byteFn_lt n k
  rw [IntKind.wrap_u64]; omega
theorem U_small (n : Nat) (h : n < 256) : U n = I4 n 0 0 0 := by
  obtain ⟨e0, e1, e2, e3⟩ := of_parts n (Nat.lt_of_lt_of_le h (by decide))
  unfold U
  rw [e0, e1, e2, e3]
  rfl

theorem isb_any (k n : Nat) (hk : k < W) (hn : n < M) (w : World) : Calls Try.prog 37 #[U k, B n] w fun e w' => e = .returned (.bool (decide (k < n))) ∧ Below w.heap.size w w' := by
  have h := isb_raw k n n _ (of_any n hn) (cmp_any k n hk (Nat.lt_of_lt_of_le hn M_lt_W)) w
  rw [dec_cmp] at h
  exact h

theorem ext_any (k a : Nat) (hk : k < W) (ha : a < W) (w : World) : Calls Try.prog 15 #[U k, U a] w fun e w' => e = .returned (U (exW k a)) ∧ Below w.heap.size w w' := by
  have h1 := isb_any k 31 hk (by decide)
  unfold exW
  by_cases h : k < 31
  · rw [decide_eq_true h] at h1
    rw [if_pos h]
    exact ext_yes k a (upE k) _ _ h1 (shl_any a (upE k) ha) (sar_any _ (upE k) (shlW_lt _ _)) (by rw [(of_parts k (Nat.lt_trans h (by decide))).1]; exact up_wrap k h) w
  · rw [decide_eq_false h] at h1
    rw [if_neg h]
    exact ext_no k a h1 w

theorem byte_any (k a : Nat) (hk : k < W) (ha : a < W) (w : World) : Calls Try.prog 17 #[U k, U a] w fun e w' => e = .returned (U (byW k a)) ∧ Below w.heap.size w w' := by
  have h1 := isb_any k 32 hk (by decide)
  unfold byW
  by_cases h : k < 32
  · rw [decide_eq_true h] at h1
    rw [if_pos h]
    exact byte_yes k a (byteFn a k) (strN a) h1 (bytes_any a) (of_any _ (Nat.lt_trans (byteFn_lt a k) (by decide))) (fun w => by rw [(of_parts k (Nat.lt_trans h (by decide))).1]; exact idx_str a k h .u64 w) (byte_wrap a k) w
  · rw [decide_eq_false h] at h1
    rw [if_neg h]
    exact byte_no k a h1 w

theorem small_in (k m : Nat) (hm : m ≤ 32) (h : k < m) (w : World) : Calls Try.prog 39 #[U k, B m] w fun e w' => e = .returned (.tuple #[.int .i64 ((k : Nat) : Int), .bool true]) ∧ Below w.heap.size w w' := by
  obtain ⟨e0, e1, e2, e3⟩ := of_parts k (show k < M from Nat.lt_of_lt_of_le h (Nat.le_trans hm (by decide)))
  have q := small_yes k m e1 e2 e3 (by rw [e0]; omega) (by rw [e0]; unfold wrap64; omega) w
  rw [e0] at q
  exact q
theorem small_out (k m : Nat) (hk : k < W) (h : ¬ k < m) (w : World) : Calls Try.prog 39 #[U k, B m] w fun e w' => e = .returned (.tuple #[.int .i64 0, .bool false]) ∧ Below w.heap.size w w' := by
  by_cases h1 : l1 k = 0
  · by_cases h2 : l2 k = 0
    · by_cases h3 : l3 k = 0
      · exact small_no3 k m h1 h2 h3 (by have := low_parts k m hk h1 h2 h3; omega) w
      · exact small_no2 k m h1 h2 h3 w
    · exact small_no1 k m h1 h2 w
  · exact small_no0 k m h1 w

theorem rext_any (k a : Nat) (hk : k < W) (ha : a < W) (w : World) : Calls Try.prog 16 #[U k, U a] w fun e w' => e = .returned (U (exW k a)) ∧ Below w.heap.size w w' := by
  unfold exW
  by_cases h : k < 31
  · rw [if_pos h]
    exact rext_yes k a k (upE k) _ _ (small_in k 31 (by decide) h) (rshl_any a (upE k) ha) (rsar_any _ (upE k) (shlW_lt _ _)) (up_wrap2 k h) w
  · rw [if_neg h]
    exact rext_no k a (small_out k 31 hk h) w

theorem rbyte_any (k a : Nat) (hk : k < W) (ha : a < W) (w : World) : Calls Try.prog 18 #[U k, U a] w fun e w' => e = .returned (U (byW k a)) ∧ Below w.heap.size w w' := by
  unfold byW
  by_cases h : k < 32
  · rw [if_pos h, U_small _ (byteFn_lt a k)]
    exact rbyte_yes k a k (byteFn a k) (strN a) (small_in k 32 (by decide) h) (rbytes_any a) (idx_str a k h .i64) (byte_wrap a k) w
  · rw [if_neg h]
    exact rbyte_no k a (small_out k 32 hk h) w
end Go.Proofs.Ytbfgeinneglpdaa
