/- Contracts of Bytes of layer 1. -/
import Derived.Test.YtjjiendgmnlokaaDoorKdWt
namespace Go.Proofs.YtjjiendgmnlokaaDoor
open Go.RowKit
set_option linter.unusedVariables false

theorem conv32 (xs : List Int) (h : xs.length = 32) (w : World) (t nb : Nat) (hn : nb = w.heap.size) :
    (convert 58 9 (.slice (some ⟨nb, 0, none⟩) 32 32)).run Tryd.prog (w.alloc (.cells (xs.map (Value.int .u8)).toArray t)) = .ok (.string (strOfNums xs)) (w.alloc (.cells (xs.map (Value.int .u8)).toArray t)) := by
  subst hn
  refine run_convert_bytes_arg _ 58 5 Tryd.underlying58 Tryd.underlying5 _ 0 32 32 xs h (fun i hi => ?_) 9 Tryd.underlying9
  rw [Nat.zero_add, World.cell?_alloc_new]
  simp [h, hi]

theorem make32 (w : World) : (Instr.makeSlice 58 (.int .i64 32) (.int .i64 32)).run Tryd.prog w = .ok (.slice (some ⟨w.heap.size, 0, none⟩) 32 32) (w.alloc (.cells #[Value.int .u8 0, Value.int .u8 0, Value.int .u8 0, Value.int .u8 0, Value.int .u8 0, Value.int .u8 0, Value.int .u8 0, Value.int .u8 0, Value.int .u8 0, Value.int .u8 0, Value.int .u8 0, Value.int .u8 0, Value.int .u8 0, Value.int .u8 0, Value.int .u8 0, Value.int .u8 0, Value.int .u8 0, Value.int .u8 0, Value.int .u8 0, Value.int .u8 0, Value.int .u8 0, Value.int .u8 0, Value.int .u8 0, Value.int .u8 0, Value.int .u8 0, Value.int .u8 0, Value.int .u8 0, Value.int .u8 0, Value.int .u8 0, Value.int .u8 0, Value.int .u8 0, Value.int .u8 0] 5)) := by
  have hi : Tryd.prog.info? 5 = some ((Tryd.prog.info? 5).getD default) := by kernel_rfl
  have hz : ((Tryd.prog.info? 5).getD default).zero = some (.int .u8 0) := by kernel_rfl
  have hs : ((Tryd.prog.info? 5).getD default).size = 1 := by kernel_rfl
  have hb : ((Tryd.prog.info? 5).getD default).bytes = 1 := by kernel_rfl
  rw [run_make w 58 5 _ _ Tryd.underlying58 hi hz .i64 .i64 32 32 (by decide) (by decide) (by rw [hb]; decide) (by decide), hs]
  have hm : madeCells (Value.int .u8 0).cells (Int.toNat 32 * 1) = #[Value.int .u8 0, Value.int .u8 0, Value.int .u8 0, Value.int .u8 0, Value.int .u8 0, Value.int .u8 0, Value.int .u8 0, Value.int .u8 0, Value.int .u8 0, Value.int .u8 0, Value.int .u8 0, Value.int .u8 0, Value.int .u8 0, Value.int .u8 0, Value.int .u8 0, Value.int .u8 0, Value.int .u8 0, Value.int .u8 0, Value.int .u8 0, Value.int .u8 0, Value.int .u8 0, Value.int .u8 0, Value.int .u8 0, Value.int .u8 0, Value.int .u8 0, Value.int .u8 0, Value.int .u8 0, Value.int .u8 0, Value.int .u8 0, Value.int .u8 0, Value.int .u8 0, Value.int .u8 0] := by kernel_rfl
  rw [hm]
  rfl
attribute [local go_sem] make32

def byteList (a0 a1 a2 a3 : Nat) : List Int := [(a3 : Int) / 72057594037927936 % 256, (a3 : Int) / 281474976710656 % 256, (a3 : Int) / 1099511627776 % 256, (a3 : Int) / 4294967296 % 256, (a3 : Int) / 16777216 % 256, (a3 : Int) / 65536 % 256, (a3 : Int) / 256 % 256, (a3 : Int) % 256, (a2 : Int) / 72057594037927936 % 256, (a2 : Int) / 281474976710656 % 256, (a2 : Int) / 1099511627776 % 256, (a2 : Int) / 4294967296 % 256, (a2 : Int) / 16777216 % 256, (a2 : Int) / 65536 % 256, (a2 : Int) / 256 % 256, (a2 : Int) % 256, (a1 : Int) / 72057594037927936 % 256, (a1 : Int) / 281474976710656 % 256, (a1 : Int) / 1099511627776 % 256, (a1 : Int) / 4294967296 % 256, (a1 : Int) / 16777216 % 256, (a1 : Int) / 65536 % 256, (a1 : Int) / 256 % 256, (a1 : Int) % 256, (a0 : Int) / 72057594037927936 % 256, (a0 : Int) / 281474976710656 % 256, (a0 : Int) / 1099511627776 % 256, (a0 : Int) / 4294967296 % 256, (a0 : Int) / 16777216 % 256, (a0 : Int) / 65536 % 256, (a0 : Int) / 256 % 256, (a0 : Int) % 256]

set_option maxRecDepth 100000 in
set_option maxHeartbeats 4000000 in
theorem bytes_raw (a0 a1 a2 a3 : Nat) (w : World) : Calls Tryd.prog 52 #[U4 a0 a1 a2 a3] w fun e w' => e = .returned (.string (strOfNums (byteList a0 a1 a2 a3))) ∧ Below w.heap.size w w' := by
  have hcv := conv32 [(a3 : Int) / 72057594037927936 % 256, (a3 : Int) / 281474976710656 % 256, (a3 : Int) / 1099511627776 % 256, (a3 : Int) / 4294967296 % 256, (a3 : Int) / 16777216 % 256, (a3 : Int) / 65536 % 256, (a3 : Int) / 256 % 256, (a3 : Int) % 256, (a2 : Int) / 72057594037927936 % 256, (a2 : Int) / 281474976710656 % 256, (a2 : Int) / 1099511627776 % 256, (a2 : Int) / 4294967296 % 256, (a2 : Int) / 16777216 % 256, (a2 : Int) / 65536 % 256, (a2 : Int) / 256 % 256, (a2 : Int) % 256, (a1 : Int) / 72057594037927936 % 256, (a1 : Int) / 281474976710656 % 256, (a1 : Int) / 1099511627776 % 256, (a1 : Int) / 4294967296 % 256, (a1 : Int) / 16777216 % 256, (a1 : Int) / 65536 % 256, (a1 : Int) / 256 % 256, (a1 : Int) % 256, (a0 : Int) / 72057594037927936 % 256, (a0 : Int) / 281474976710656 % 256, (a0 : Int) / 1099511627776 % 256, (a0 : Int) / 4294967296 % 256, (a0 : Int) / 16777216 % 256, (a0 : Int) / 65536 % 256, (a0 : Int) / 256 % 256, (a0 : Int) % 256] rfl (w.alloc (Obj.cells #[B a0, B a1, B a2, B a3] 39)) 100 (w.heap.size + 1) (by simp)
  simp only [List.map_cons, List.map_nil] at hcv
  have Hcv : Hid _ := hcv
  clear hcv
  go_enter Tryd.func52, Tryd.ntmps52
  go_wp2
  refine wp_loop_rounds 33 ?_
  iterate 32 (rw [rounds_succ]; go_wp2)
  have hcv := Hcv.out
  rw [rounds_succ]; go_wp2
  go_ret
  exact ⟨rfl, (by repeat (first | exact Below.refl _ _ | apply Below.drew | refine Below.alloc ?_ (by simp; try omega) _))⟩

set_option maxRecDepth 100000 in
set_option maxHeartbeats 4000000 in
theorem rbytes_raw (a0 a1 a2 a3 : Nat) (w : World) : Calls Tryd.prog 18 #[U4 a0 a1 a2 a3] w fun e w' => e = .returned (.string (strOfNums (byteList a0 a1 a2 a3))) ∧ Below w.heap.size w w' := by
  have hcv := conv32 [(a3 : Int) / 72057594037927936 % 256, (a3 : Int) / 281474976710656 % 256, (a3 : Int) / 1099511627776 % 256, (a3 : Int) / 4294967296 % 256, (a3 : Int) / 16777216 % 256, (a3 : Int) / 65536 % 256, (a3 : Int) / 256 % 256, (a3 : Int) % 256, (a2 : Int) / 72057594037927936 % 256, (a2 : Int) / 281474976710656 % 256, (a2 : Int) / 1099511627776 % 256, (a2 : Int) / 4294967296 % 256, (a2 : Int) / 16777216 % 256, (a2 : Int) / 65536 % 256, (a2 : Int) / 256 % 256, (a2 : Int) % 256, (a1 : Int) / 72057594037927936 % 256, (a1 : Int) / 281474976710656 % 256, (a1 : Int) / 1099511627776 % 256, (a1 : Int) / 4294967296 % 256, (a1 : Int) / 16777216 % 256, (a1 : Int) / 65536 % 256, (a1 : Int) / 256 % 256, (a1 : Int) % 256, (a0 : Int) / 72057594037927936 % 256, (a0 : Int) / 281474976710656 % 256, (a0 : Int) / 1099511627776 % 256, (a0 : Int) / 4294967296 % 256, (a0 : Int) / 16777216 % 256, (a0 : Int) / 65536 % 256, (a0 : Int) / 256 % 256, (a0 : Int) % 256] rfl (w.alloc (Obj.cells #[B a0, B a1, B a2, B a3] 39)) 5 (w.heap.size + 1) (by simp)
  simp only [List.map_cons, List.map_nil] at hcv
  have Hcv : Hid _ := hcv
  clear hcv
  go_enter Tryd.func18, Tryd.ntmps18
  go_wp2
  refine wp_loop_rounds 33 ?_
  iterate 32 (rw [rounds_succ]; go_wp2)
  have hcv := Hcv.out
  rw [rounds_succ]; go_wp2
  go_ret
  exact ⟨rfl, (by repeat (first | exact Below.refl _ _ | apply Below.drew | refine Below.alloc ?_ (by simp; try omega) _))⟩

end Go.Proofs.YtjjiendgmnlokaaDoor
