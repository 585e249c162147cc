/- Laid one behind the other: Tk, Pb. -/
import Derived.Test.YthkpgfbjdabflaaGreatDoorKrNum
import Derived.Test.YthkpgfbjdabflaaGreatDoorKrNv
import Derived.IntWalk
import Derived.Deep.Draws
import Derived.WalkSmall
import Derived.BigRegion
import Derived.Deep.Cut
namespace Go.Proofs.YthkpgfbjdabflaaGreatDoor
open Go.RowKit
set_option linter.unusedVariables false
abbrev z17 : Array Value := #[.int .u32 0, .int .u32 0, .int .u32 0, .int .u32 0, .int .u32 0, .int .u32 0, .int .u32 0, .int .u32 0, .int .u32 0, .int .u32 0, .int .u32 0, .int .u32 0, .int .u32 0, .int .u32 0, .int .u32 0, .int .u32 0, .int .u32 0]
structure TK (f f' g : Nat → Nat) (d k j c b : Nat) : Prop where
  hc : c < D
  hb : b ≤ 1
  hf : ∀ i, i < 17 → f' i < D
  ho : ∀ i, i < k ∨ k + j ≤ i → f' i = f i
  hv : vl f' k j + d * vl g 0 j = vl f k j + (c + b) * D ^ j
theorem TK.start {f g : Nat → Nat} {d k : Nat} (hf : ∀ i, i < 17 → f i < D) : TK f f g d k 0 0 0 :=
  ⟨D_pos, Nat.zero_le _, hf, fun _ _ => rfl, by simp [vl]⟩
theorem TK.step {f f' g : Nat → Nat} {d k j c b x b' : Nat} (h : TK f f' g d k j c b) (hx : x < D) (hb' : b' ≤ 1) (hc' : (c + d * g j) / D < D)
    (e : x + (c + d * g j) % D + b = f' (k + j) + D * b') : TK f (upd f' (k + j) x) g d k (j + 1) ((c + d * g j) / D) b' where
  hc := hc'
  hb := hb'
  hf := upd_lt h.hf hx
  ho i hi := by rw [upd_other _ _ _ (by omega)]; exact h.ho i (by omega)
  hv := take_step h.hv (by rw [e, h.ho (k + j) (by omega)])
end Go.Proofs.YthkpgfbjdabflaaGreatDoor
namespace Go.Proofs.YthkpgfbjdabflaaGreatDoor
open Go.RowKit
set_option linter.unusedVariables false
attribute [local go_sem] setCell_drewN

structure PK (f f' g : Nat → Nat) (k j c : Nat) : Prop where
  hc : c ≤ 1
  hf : ∀ i, i < 17 → f' i < D
  ho : ∀ i, i < k ∨ k + j ≤ i → f' i = f i
  hv : vl f' k j + c * D ^ j = vl f k j + vl g 0 j
theorem PK.start {f g : Nat → Nat} {k : Nat} (hf : ∀ i, i < 17 → f i < D) : PK f f g k 0 0 :=
  ⟨Nat.zero_le _, hf, fun _ _ => rfl, by simp [vl]⟩
theorem PK.step {f f' g : Nat → Nat} {k j c : Nat} (h : PK f f' g k j c) (hc' : (c + (f' (k + j) + g j)) / D ≤ 1) :
    PK f (upd f' (k + j) ((c + (f' (k + j) + g j)) % D)) g k (j + 1) ((c + (f' (k + j) + g j)) / D) where
  hc := hc'
  hf := upd_lt h.hf (Nat.mod_lt _ D_pos)
  ho i hi := by rw [upd_other _ _ _ (by omega)]; exact h.ho i (by omega)
  hv := by have := put_step h.hv; rw [h.ho (k + j) (by omega)]; exact this
end Go.Proofs.YthkpgfbjdabflaaGreatDoor
