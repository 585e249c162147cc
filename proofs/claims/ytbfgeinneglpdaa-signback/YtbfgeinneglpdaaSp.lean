import Derived.Test.YtbfgeinneglpdaaTk
import Derived.Test.YtbfgeinneglpdaaNx
import Derived.Test.YtbfgeinneglpdaaCa
import Derived.Deep.QuietTactic
import Derived.BigQuiet
namespace Go.Proofs.Ytbfgeinneglpdaa
open Go.RowKit
set_option linter.unusedVariables false
attribute [local go_sem] setCell_drewN

set_option maxRecDepth 100000 in
set_option maxHeartbeats 4000000 in
theorem split_raw (a0 a1 a2 a3 : Nat) (w : World) :
    Calls Try.prog 59 #[U4 a0 a1 a2 a3] w fun e w' =>
      e = .returned (.agg #[.int .u32 ((a0 : Nat) % 4294967296 : Int), .int .u32 ((a0 : Nat) / 4294967296 % 4294967296 : Int), .int .u32 ((a1 : Nat) % 4294967296 : Int), .int .u32 ((a1 : Nat) / 4294967296 % 4294967296 : Int), .int .u32 ((a2 : Nat) % 4294967296 : Int), .int .u32 ((a2 : Nat) / 4294967296 % 4294967296 : Int), .int .u32 ((a3 : Nat) % 4294967296 : Int), .int .u32 ((a3 : Nat) / 4294967296 % 4294967296 : Int)]) ∧ Below w.heap.size w w' := by
  go_enter Try.func59, Try.ntmps59
  go_wp2
  refine wp_loop_rounds 9 ?_
  iterate 8 (rw [rounds_succ]; go_wp2)
  rw [rounds_succ]; go_wp2
  refine bodyPost_ret (v := .agg #[.int .u32 ((a0 : Nat) % 4294967296 : Int), .int .u32 ((a0 : Nat) / 4294967296 % 4294967296 : Int), .int .u32 ((a1 : Nat) % 4294967296 : Int), .int .u32 ((a1 : Nat) / 4294967296 % 4294967296 : Int), .int .u32 ((a2 : Nat) % 4294967296 : Int), .int .u32 ((a2 : Nat) / 4294967296 % 4294967296 : Int), .int .u32 ((a3 : Nat) % 4294967296 : Int), .int .u32 ((a3 : Nat) / 4294967296 % 4294967296 : Int)]) (by simp [results, Try.results59, go_sem]) rfl ⟨rfl, ?_⟩
  (repeat (first | exact Below.refl _ _ | apply Below.drew | refine bel_alloc ?_ _))
theorem dg_parts (n : Nat) : ((l0 n : Nat) % 4294967296 : Int) = (dg n 0 : Nat) ∧ ((l0 n : Nat) / 4294967296 % 4294967296 : Int) = (dg n 1 : Nat) ∧ ((l1 n : Nat) % 4294967296 : Int) = (dg n 2 : Nat) ∧ ((l1 n : Nat) / 4294967296 % 4294967296 : Int) = (dg n 3 : Nat)
    ∧ ((l2 n : Nat) % 4294967296 : Int) = (dg n 4 : Nat) ∧ ((l2 n : Nat) / 4294967296 % 4294967296 : Int) = (dg n 5 : Nat) ∧ ((l3 n : Nat) % 4294967296 : Int) = (dg n 6 : Nat) ∧ ((l3 n : Nat) / 4294967296 % 4294967296 : Int) = (dg n 7 : Nat) := by
  unfold dg
  simp only [show D ^ 0 = 1 from rfl, show D ^ 1 = 4294967296 from rfl, show D ^ 2 = 18446744073709551616 from rfl, show D ^ 3 = 79228162514264337593543950336 by decide +kernel, show D ^ 4 = 340282366920938463463374607431768211456 by decide +kernel, show D ^ 5 = 1461501637330902918203684832716283019655932542976 by decide +kernel, show D ^ 6 = 6277101735386680763835789423207666416102355444464034512896 by decide +kernel, show D ^ 7 = 26959946667150639794667015087019630673637144422540572481103610249216 by decide +kernel]
  unfold l0 l1 l2 l3 M D
  refine ⟨?_, ?_, ?_, ?_, ?_, ?_, ?_, ?_⟩ <;> omega
theorem split_any (n : Nat) (w : World) : Calls Try.prog 59 #[U n] w fun e w' => e = .returned (L8 (dg n)) ∧ Below w.heap.size w w' := by
  have h := split_raw (l0 n) (l1 n) (l2 n) (l3 n) w
  obtain ⟨e0, e1, e2, e3, e4, e5, e6, e7⟩ := dg_parts n
  rw [e0, e1, e2, e3, e4, e5, e6, e7] at h
  exact h
end Go.Proofs.Ytbfgeinneglpdaa
