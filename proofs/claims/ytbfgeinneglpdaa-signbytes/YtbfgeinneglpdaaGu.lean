/- Contract of guess. -/
import Derived.Test.YtbfgeinneglpdaaPb
import Derived.Test.YtbfgeinneglpdaaSp
import Derived.Test.YtbfgeinneglpdaaJo
import Derived.Test.YtbfgeinneglpdaaRv
import Derived.Test.YtbfgeinneglpdaaCs
import Derived.Deep.QuietTactic
import Derived.BigQuiet
import Derived.Lib.QuietBelow
import Derived.Deep.DeepCutAuto
import Derived.Deep.Light
import Derived.BigCall
namespace Go.Proofs.Ytbfgeinneglpdaa
open Go.RowKit Go.Sort
set_option linter.unusedVariables false
attribute [local go_sem] setCell_drewN

theorem two_lt {f1 f0 : Nat} (h1 : f1 < D) (h0 : f0 < D) : f1 * D + f0 < M := by unfold D M at *; omega
theorem guess_num {f1 f0 g : Nat} (h1 : f1 < D) (h0 : f0 < D) (hg : 0 < g) (hgD : g < D) :
    min (IntKind.u64.wrap ((bits BinOp.or IntKind.u64 (IntKind.u64.wrap (IntKind.u64.wrap (f1 : Int) * 4294967296)) (IntKind.u64.wrap (f0 : Int))).tdiv (IntKind.u64.wrap (g : Int)))) 4294967295 = ((min ((f1 * D + f0) / g) (D - 1) : Nat) : Int) := by
  have e1 : IntKind.u64.wrap (IntKind.u64.wrap (f1 : Int) * 4294967296) = ((f1 * D : Nat) : Int) := by simp only [IntKind.wrap_u64]; unfold D at *; omega
  have e0 : IntKind.u64.wrap (f0 : Int) = (f0 : Int) := by simp only [IntKind.wrap_u64]; unfold D at *; omega
  have eg : IntKind.u64.wrap (g : Int) = (g : Int) := by simp only [IntKind.wrap_u64]; unfold D at *; omega
  have hM1 : f1 * D < M := by unfold D M at *; omega
  have hM0 : f0 < M := by unfold D M at *; omega
  have hlt := two_lt h1 h0
  rw [e1, e0, eg, bits_or (f1 * D) f0 hM1 hM0]
  have h0' : f0 < 2 ^ 32 := h0
  have e2 := Nat.two_pow_add_eq_or_of_lt h0' f1
  have eD : D = 2 ^ 32 := by decide
  have e : f1 * D ||| f0 = f1 * D + f0 := by rw [Nat.mul_comm, eD]; exact e2.symm
  rw [e, Int.tdiv_eq_ediv_of_nonneg (Int.natCast_nonneg _), show ((f1 * D + f0 : Nat) : Int) / (g : Int) = (((f1 * D + f0) / g : Nat) : Int) from rfl]
  have hq : (f1 * D + f0) / g ≤ f1 * D + f0 := Nat.div_le_self _ _
  generalize (f1 * D + f0) / g = q at *
  generalize f1 * D + f0 = r at *
  clear e2 eD h0' e hM1 hM0 e1 e0
  have ew : IntKind.u64.wrap (q : Int) = (q : Int) := by simp only [IntKind.wrap_u64]; unfold M at *; omega
  rw [ew]
  unfold D
  omega

set_option maxRecDepth 100000 in
set_option maxHeartbeats 4000000 in
theorem guess_raw (f g : Nat → Nat) (k m : Nat) (hn : m < 8) (hk : k + (m + 1) < 17) (hf1 : f (k + (m + 1)) < D) (hf0 : f (k + m) < D) (hg : 0 < g m) (hgD : g m < D) (w : World) :
    Calls Try.prog 61 #[L17 f, L8 g, .int .i64 (k : Int), .int .i64 ((m + 1 : Nat) : Int)] w fun e w' =>
      e = .returned (B (min ((f (k + (m + 1)) * D + f (k + m)) / g m) (D - 1))) ∧ Below w.heap.size w w' := by
  have GN : Hid _ := guess_num hf1 hf0 hg hgD
  have hgz : ¬ IntKind.u64.wrap (g m : Int) = 0 := by simp only [IntKind.wrap_u64]; unfold D at hgD; omega
  clear hg hgD hf1 hf0
  have hc1 : (ag .u32 17 f)[k + (m + 1)]? = some (.int .u32 (f (k + (m + 1)) : Nat)) := by rw [ag_get, if_pos (by omega)]
  have hc2 : (ag .u32 17 f)[k + m]? = some (.int .u32 (f (k + m) : Nat)) := by rw [ag_get, if_pos (by omega)]
  have hc3 : (ag .u32 8 g)[m]? = some (.int .u32 (g m : Nat)) := by rw [ag_get, if_pos (by omega)]
  go_enter Try.func61, Try.ntmps61
  go_wp2
  refine name_world _ ?_
  intro wF hF
  have c1 : wF.cell? ⟨w.heap.size, k + (m + 1), none⟩ = some (.int .u32 (f (k + (m + 1)) : Nat)) := by rw [hF]; go_simp
  have c2 : wF.cell? ⟨w.heap.size, k + m, none⟩ = some (.int .u32 (f (k + m) : Nat)) := by rw [hF]; go_simp
  have c3 : wF.cell? ⟨w.heap.size + 1, m, none⟩ = some (.int .u32 (g m : Nat)) := by rw [hF]; go_simp
  have hBF : Below w.heap.size w wF := by rw [hF]; (repeat (first | exact Below.refl _ _ | apply Below.drew | refine bel_alloc ?_ _))
  clear hF hc1 hc2 hc3
  replace c1 := cell_regrown c1
  replace c2 := cell_regrown c2
  replace c3 := cell_regrown c3
  refine wp_region_quiet_below (by kernel_rfl) (by kernel_rfl) ?_
  repeat (go_big_quiet_step (fail))
  refine wpQuiet_nil ?_
  intro _ hw'
  obtain ⟨⟨dq, osq⟩, hw''⟩ := hw'
  subst hw''
  go_wp2
  refine bodyPost_ret (v := B (min ((f (k + (m + 1)) * D + f (k + m)) / g m) (D - 1))) ?_ rfl ⟨rfl, bel_call hBF (below_regrown wF dq osq)⟩
  simp only [results, Try.results61]
  simp [go_sem]
  exact GN.out
end Go.Proofs.Ytbfgeinneglpdaa
