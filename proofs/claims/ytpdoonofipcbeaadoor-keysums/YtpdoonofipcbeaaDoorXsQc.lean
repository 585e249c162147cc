/- The document's Wide and Mul, told by numbers. -/
import Derived.Test.YtpdoonofipcbeaaDoorXsQb
namespace Go.Proofs.YtpdoonofipcbeaaDoor
open Go.RowKit Go.Sort
set_option linter.unusedVariables false
def dm (a i : Nat) : Nat := a / M ^ i % M
theorem dm_parts (a : Nat) : dm a 0 = l0 a ∧ dm a 1 = l1 a ∧ dm a 2 = l2 a ∧ dm a 3 = l3 a := by
  unfold dm l0 l1 l2 l3
  rw [Nat.pow_zero, Nat.div_one, Nat.pow_one, show M ^ 2 = M * M from by decide +kernel, show M ^ 3 = M * M * M from by decide +kernel]
  exact ⟨rfl, rfl, rfl, rfl⟩
theorem U_dm (a : Nat) : A4 (dm a) = U a := by
  obtain ⟨e0, e1, e2, e3⟩ := dm_parts a
  have : A4 (dm a) = U4 (dm a 0) (dm a 1) (dm a 2) (dm a 3) := rfl
  rw [this, e0, e1, e2, e3]
theorem vm_mk (f : Nat → Nat) (k : Nat) : vm f k 4 = mk (f k) (f (k + 1)) (f (k + 2)) (f (k + 3)) := by
  simp only [vm, mk, Nat.add_zero, Nat.pow_zero, Nat.mul_one, Nat.zero_add, Nat.pow_one]
  rw [show M ^ 2 = M * M from by decide +kernel, show M ^ 3 = M * (M * M) from by decide +kernel]
  generalize M = V
  grind
theorem U_vm (f : Nat → Nat) (k : Nat) (h : ∀ i, i < 4 → f (k + i) < M) : U (vm f k 4) = U4 (f k) (f (k + 1)) (f (k + 2)) (f (k + 3)) := by
  have h0 : f k < M := h 0 (by decide)
  have h1 := h 1 (by decide)
  have h2 := h 2 (by decide)
  have h3 := h 3 (by decide)
  unfold U
  rw [vm_mk, l0_mk _ _ _ _ h0, l1_mk _ _ _ _ h0 h1, l2_mk _ _ _ _ h0 h1 h2, l3_mk _ _ _ _ h0 h1 h2 h3]
theorem vm_dm (a : Nat) (ha : a < W) : vm (dm a) 0 4 = a := by
  obtain ⟨e0, e1, e2, e3⟩ := dm_parts a
  rw [vm_mk, e0, show (0 : Nat) + 1 = 1 from rfl, show (0 : Nat) + 2 = 2 from rfl, show (0 : Nat) + 3 = 3 from rfl, e1, e2, e3]
  exact mk_parts a ha
theorem rwide_any (a b : Nat) (ha : a < W) (hb : b < W) (w : World) :
    Calls Tryd.prog 56 #[U a, U b] w fun e w' => e = .returned (.tuple #[U (a * b / W), U (a * b % W)]) ∧ Below w.heap.size w w' := by
  have h := rwide_raw (dm a) (dm b) (fun i _ => Nat.mod_lt _ M_pos) (fun i _ => Nat.mod_lt _ M_pos) w
  rw [U_dm, U_dm] at h
  refine h.mono ?_
  rintro e w' ⟨⟨f, hO, rfl⟩, hB⟩
  refine ⟨?_, hB⟩
  have hv := hO.hv
  rw [vm_dm a ha, vm_dm b hb] at hv
  have e1 : vm f 0 (4 + 4) / M ^ 4 = vm f (0 + 4) 4 := vm_div (fun i hi => hO.hf _ (by omega))
  have e2 : vm f 0 (4 + 4) % M ^ 4 = vm f 0 4 := vm_mod (fun i hi => hO.hf _ (by omega))
  rw [hv, Nat.zero_add] at e1
  rw [hv] at e2
  rw [W_M, e1, e2, U_vm f 4 (fun i hi => hO.hf _ (by omega)), U_vm f 0 (fun i hi => hO.hf _ (by omega))]
end Go.Proofs.YtpdoonofipcbeaaDoor
