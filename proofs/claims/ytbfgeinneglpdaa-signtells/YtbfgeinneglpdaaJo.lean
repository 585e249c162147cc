import Derived.Test.YtbfgeinneglpdaaTk
import Derived.Test.YtbfgeinneglpdaaNx
import Derived.Test.YtbfgeinneglpdaaCa
import Derived.Deep.QuietTactic
import Derived.BigQuiet
namespace Go.Proofs.Ytbfgeinneglpdaa
open Go.RowKit
set_option linter.unusedVariables false
attribute [local go_sem] setCell_drewN

set_option maxRecDepth 100000 in
set_option maxHeartbeats 4000000 in
theorem join_raw (b k c : Nat) (f0 f1 f2 f3 f4 f5 f6 f7 : Nat) (w : World) (hb : b < w.heap.size)
    (h1 : w.cell? ⟨b, k + 1, none⟩ = some (.int .u32 (f1 : Nat)))
    (h2 : w.cell? ⟨b, k + 2, none⟩ = some (.int .u32 (f2 : Nat)))
    (h3 : w.cell? ⟨b, k + 3, none⟩ = some (.int .u32 (f3 : Nat)))
    (h4 : w.cell? ⟨b, k + 4, none⟩ = some (.int .u32 (f4 : Nat)))
    (h5 : w.cell? ⟨b, k + 5, none⟩ = some (.int .u32 (f5 : Nat)))
    (h6 : w.cell? ⟨b, k + 6, none⟩ = some (.int .u32 (f6 : Nat)))
    (h7 : w.cell? ⟨b, k + 7, none⟩ = some (.int .u32 (f7 : Nat)))
    (h0 : w.cell? ⟨b, k, none⟩ = some (.int .u32 (f0 : Nat))) :
    Calls Try.prog 64 #[.slice (some ⟨b, k, none⟩) 8 c] w fun e w' =>
      e = .returned (I4 (bits .or .u64 (bits .or .u64 0 (IntKind.u64.wrap (IntKind.u64.wrap ((f0 : Nat) : Int)))) (IntKind.u64.wrap (IntKind.u64.wrap ((f1 : Nat) : Int) * 4294967296))) (bits .or .u64 (bits .or .u64 0 (IntKind.u64.wrap (IntKind.u64.wrap ((f2 : Nat) : Int)))) (IntKind.u64.wrap (IntKind.u64.wrap ((f3 : Nat) : Int) * 4294967296))) (bits .or .u64 (bits .or .u64 0 (IntKind.u64.wrap (IntKind.u64.wrap ((f4 : Nat) : Int)))) (IntKind.u64.wrap (IntKind.u64.wrap ((f5 : Nat) : Int) * 4294967296))) (bits .or .u64 (bits .or .u64 0 (IntKind.u64.wrap (IntKind.u64.wrap ((f6 : Nat) : Int)))) (IntKind.u64.wrap (IntKind.u64.wrap ((f7 : Nat) : Int) * 4294967296)))) ∧ Below w.heap.size w w' := by
  go_enter Try.func64, Try.ntmps64
  go_wp2
  refine wp_loop_rounds 9 ?_
  iterate 8 (rw [rounds_succ]; go_wp2; go_region; go_wp2)
  rw [rounds_succ]; go_wp2
  refine bodyPost_ret (v := (I4 (bits .or .u64 (bits .or .u64 0 (IntKind.u64.wrap (IntKind.u64.wrap ((f0 : Nat) : Int)))) (IntKind.u64.wrap (IntKind.u64.wrap ((f1 : Nat) : Int) * 4294967296))) (bits .or .u64 (bits .or .u64 0 (IntKind.u64.wrap (IntKind.u64.wrap ((f2 : Nat) : Int)))) (IntKind.u64.wrap (IntKind.u64.wrap ((f3 : Nat) : Int) * 4294967296))) (bits .or .u64 (bits .or .u64 0 (IntKind.u64.wrap (IntKind.u64.wrap ((f4 : Nat) : Int)))) (IntKind.u64.wrap (IntKind.u64.wrap ((f5 : Nat) : Int) * 4294967296))) (bits .or .u64 (bits .or .u64 0 (IntKind.u64.wrap (IntKind.u64.wrap ((f6 : Nat) : Int)))) (IntKind.u64.wrap (IntKind.u64.wrap ((f7 : Nat) : Int) * 4294967296))))) (by simp [results, Try.results64, go_sem]) rfl ⟨rfl, ?_⟩
  (repeat (first | exact Below.refl _ _ | apply Below.drew | refine bel_alloc ?_ _))
theorem join_part {x y : Nat} (hx : x < D) (hy : y < D) : bits .or .u64 (bits .or .u64 0 (IntKind.u64.wrap (IntKind.u64.wrap (x : Int)))) (IntKind.u64.wrap (IntKind.u64.wrap (y : Int) * 4294967296)) = ((x + y * D : Nat) : Int) ∧ x + y * D < M := by
  have e1 : IntKind.u64.wrap (IntKind.u64.wrap (x : Int)) = ((x : Nat) : Int) := by simp only [IntKind.wrap_u64]; unfold D at *; omega
  have e2 : IntKind.u64.wrap (IntKind.u64.wrap (y : Int) * 4294967296) = ((y * D : Nat) : Int) := by simp only [IntKind.wrap_u64]; unfold D at *; omega
  have hM : y * D < M := by unfold D M at *; omega
  have hx' : x < M := by unfold D M at *; omega
  have e3 := bits_or 0 x (by decide) hx'
  rw [Nat.zero_or] at e3
  have e4 : bits .or .u64 (0 : Int) (x : Int) = (x : Int) := e3
  rw [e1, e2, e4, bits_or x (y * D) hx' hM]
  have e : x ||| y * D = x + y * D := by
    rw [Nat.or_comm, Nat.mul_comm, show D = 2 ^ 32 from rfl, ← Nat.two_pow_add_eq_or_of_lt (show x < 2 ^ 32 from hx), Nat.add_comm]
  rw [e]
  exact ⟨rfl, by unfold D M at *; omega⟩
theorem vl_mk (f : Nat → Nat) : vl f 0 8 = mk (f 0 + f 1 * D) (f 2 + f 3 * D) (f 4 + f 5 * D) (f 6 + f 7 * D) := by
  simp only [vl, mk, Nat.zero_add]
  rw [← DD]
  simp only [show D ^ 0 = 1 from rfl]
  grind
theorem join_any (b k c : Nat) (f : Nat → Nat) (hf : ∀ i, i < 8 → f i < D) (w : World) (hb : b < w.heap.size) (hc : ∀ i, i < 8 → w.cell? ⟨b, k + i, none⟩ = some (.int .u32 (f i : Nat))) :
    Calls Try.prog 64 #[.slice (some ⟨b, k, none⟩) 8 c] w fun e w' => e = .returned (U (vl f 0 8)) ∧ Below w.heap.size w w' := by
  have h := join_raw b k c (f 0) (f 1) (f 2) (f 3) (f 4) (f 5) (f 6) (f 7) w hb (hc 1 (by decide)) (hc 2 (by decide)) (hc 3 (by decide)) (hc 4 (by decide)) (hc 5 (by decide)) (hc 6 (by decide)) (hc 7 (by decide)) (hc 0 (by decide))
  obtain ⟨a0, b0⟩ := join_part (hf 0 (by decide)) (hf 1 (by decide))
  obtain ⟨a1, b1⟩ := join_part (hf 2 (by decide)) (hf 3 (by decide))
  obtain ⟨a2, b2⟩ := join_part (hf 4 (by decide)) (hf 5 (by decide))
  obtain ⟨a3, b3⟩ := join_part (hf 6 (by decide)) (hf 7 (by decide))
  rw [a0, a1, a2, a3] at h
  have e : U (vl f 0 8) = U4 (f 0 + f 1 * D) (f 2 + f 3 * D) (f 4 + f 5 * D) (f 6 + f 7 * D) := by
    unfold U
    rw [vl_mk, l0_mk _ _ _ _ b0, l1_mk _ _ _ _ b0 b1, l2_mk _ _ _ _ b0 b1 b2, l3_mk _ _ _ _ b0 b1 b2 b3]
  rw [e]
  exact h
end Go.Proofs.Ytbfgeinneglpdaa
