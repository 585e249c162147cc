/- Contract of Wide. -/
import Derived.Test.YtbfgeinneglpdaaPb
import Derived.Test.YtbfgeinneglpdaaSp
import Derived.Test.YtbfgeinneglpdaaJo
import Derived.Test.YtbfgeinneglpdaaRv
import Derived.Deep.DeepCutAuto
import Derived.Deep.Light
import Derived.BigCall
namespace Go.Proofs.Ytbfgeinneglpdaa
open Go.RowKit Go.Sort
set_option linter.unusedVariables false
attribute [local go_sem] setCell_drewN

abbrev z16 : Array Value := #[.int .u32 0, .int .u32 0, .int .u32 0, .int .u32 0, .int .u32 0, .int .u32 0, .int .u32 0, .int .u32 0, .int .u32 0, .int .u32 0, .int .u32 0, .int .u32 0, .int .u32 0, .int .u32 0, .int .u32 0, .int .u32 0]
theorem z16_ag : z16 = ag .u32 16 (fun _ => 0) := rfl
abbrev z8 : Array Value := #[.int .u32 0, .int .u32 0, .int .u32 0, .int .u32 0, .int .u32 0, .int .u32 0, .int .u32 0, .int .u32 0]
theorem num_mac {c x y f : Nat} (hc : c < D) (hx : x < D) (hy : y < D) (hf : f < D) :
    IntKind.u64.wrap ((c : Int) + IntKind.u64.wrap (IntKind.u64.wrap (IntKind.u64.wrap (x : Int) * IntKind.u64.wrap (y : Int)) + IntKind.u64.wrap (f : Int))) = ((c + (x * y + f) : Nat) : Int) ∧ (c + (x * y + f)) / D < D := by
  have h := digit_mul hx hy
  have e1 : IntKind.u64.wrap (x : Int) = (x : Int) := by simp only [IntKind.wrap_u64]; unfold D at *; omega
  have e2 : IntKind.u64.wrap (y : Int) = (y : Int) := by simp only [IntKind.wrap_u64]; unfold D at *; omega
  rw [e1, e2, show (x : Int) * (y : Int) = ((x * y : Nat) : Int) by simp]
  generalize x * y = p at *
  simp only [IntKind.wrap_u64]
  unfold D at *
  refine ⟨by omega, by omega⟩
structure MK (f0 f' X Y : Nat → Nat) (j l c : Nat) : Prop where
  hc : c < D
  hf : ∀ i, i < 16 → f' i < D
  ho : ∀ i, i < j ∨ j + l ≤ i → f' i = f0 i
  hv : vl f' j l + c * D ^ l = vl f0 j l + X j * vl Y 0 l
theorem MK.start {f X Y : Nat → Nat} {j : Nat} (hf : ∀ i, i < 16 → f i < D) : MK f f X Y j 0 0 := ⟨D_pos, hf, fun _ _ => rfl, by simp [vl]⟩
theorem MK.step {f0 f' X Y : Nat → Nat} {j l c : Nat} (h : MK f0 f' X Y j l c) (hc' : (c + (X j * Y l + f' (j + l))) / D < D) :
    MK f0 (upd f' (j + l) ((c + (X j * Y l + f' (j + l))) % D)) X Y j (l + 1) ((c + (X j * Y l + f' (j + l))) / D) where
  hc := hc'
  hf := upd_lt h.hf (Nat.mod_lt _ D_pos)
  ho i hi := by rw [upd_other _ _ _ (by omega)]; exact h.ho i (by omega)
  hv := by
    have e0 := h.ho (j + l) (by omega)
    have hv := h.hv
    rw [vl_upd_top, vl, vl, Nat.zero_add, Nat.pow_succ, ← e0]
    have hm := Nat.div_add_mod (c + (X j * Y l + f' (j + l))) D
    generalize (c + (X j * Y l + f' (j + l))) / D = c' at *
    generalize (c + (X j * Y l + f' (j + l))) % D = r at *
    generalize D ^ l = Pw at *
    have e1 : vl f' j l + r * Pw + c' * (Pw * D) = vl f' j l + (D * c' + r) * Pw := by grind
    rw [e1, hm]
    have e2 : vl f' j l + (c + (X j * Y l + f' (j + l))) * Pw = (vl f' j l + c * Pw) + (X j * Y l + f' (j + l)) * Pw := by grind
    rw [e2, hv]; grind
structure OK (f X Y : Nat → Nat) (j : Nat) : Prop where
  hf : ∀ i, i < 16 → f i < D
  hz : ∀ i, j + 8 ≤ i → f i = 0
  hv : vl f 0 (j + 8) = vl X 0 j * vl Y 0 8
theorem OK.start (X Y : Nat → Nat) : OK (fun _ => 0) X Y 0 := ⟨fun _ _ => D_pos, fun _ _ => rfl, by rw [vl_of_zero (fun _ _ => rfl)]; simp [vl]⟩
theorem OK.step {f f' X Y : Nat → Nat} {j c : Nat} (h : OK f X Y j) (hj : j < 8) (hm : MK f f' X Y j 8 c) : OK (upd f' (j + 8) c) X Y (j + 1) where
  hf := upd_lt hm.hf hm.hc
  hz i hi := by rw [upd_other _ _ _ (by omega), hm.ho i (by omega), h.hz i (by omega)]
  hv := by
    have e1 : vl (upd f' (j + 8) c) 0 (j + 1 + 8) = vl (upd f' (j + 8) c) 0 j + D ^ j * vl (upd f' (j + 8) c) j 9 := by
      rw [show j + 1 + 8 = j + 9 by omega, vl_add, Nat.zero_add]
    have e2 : vl (upd f' (j + 8) c) 0 j = vl f 0 j := vl_congr fun i hi => by rw [upd_other _ _ _ (by omega), hm.ho _ (by omega)]
    have e3 : vl (upd f' (j + 8) c) j 9 = vl f' j 8 + c * D ^ 8 := vl_upd_top f' j 8 c
    have e4 := vl_add f 0 j 8
    rw [Nat.zero_add, h.hv] at e4
    have eX : vl X 0 (j + 1) = vl X 0 j + X j * D ^ j := by rw [vl, Nat.zero_add]
    rw [e1, e2, e3, hm.hv, Nat.mul_add, ← Nat.add_assoc, ← e4, eX]
    clear e1 e2 e3 e4 eX
    generalize vl X 0 j = A
    generalize vl Y 0 8 = Bb
    generalize D ^ j = Pw
    generalize X j = x
    clear hm h
    grind

end Go.Proofs.Ytbfgeinneglpdaa
