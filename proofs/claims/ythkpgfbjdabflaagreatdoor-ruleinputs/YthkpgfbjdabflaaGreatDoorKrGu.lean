/- Laid one behind the other: Sf, Wd. -/
import Derived.Test.YthkpgfbjdabflaaGreatDoorKrAn
import Derived.Test.YthkpgfbjdabflaaGreatDoorKrNv
import Derived.Deep.QuietTactic
import Derived.BigQuiet
import Derived.Test.YthkpgfbjdabflaaGreatDoorKrLa
import Derived.Lib.QuietBelow
import Derived.Deep.DeepCutAuto
import Derived.Deep.Light
import Derived.BigCall
namespace Go.Proofs.YthkpgfbjdabflaaGreatDoor
open Go.RowKit Go.Sort
set_option linter.unusedVariables false
attribute [local go_sem] setCell_drewN

structure SF (w w' : World) (bo bm hg md : Nat) (f : Nat → Nat) : Prop where
  o : HasRow w' bo (ag .u32 17 f)
  h : HasRow w' w.heap.size #[B (l0 hg), B (l1 hg), B (l2 hg), B (l3 hg)]
  r : HasRow w' (w.heap.size + 1 + 1) z17
  m : HasRow w' bm #[B (l0 md), B (l1 md), B (l2 md), B (l3 md)]
  b : Below w.heap.size w w'
theorem SF.call {w w' w'' : World} {bo bm hg md : Nat} {f : Nat → Nat} (h : SF w w' bo bm hg md f) (hb : Below w'.heap.size w' w'') : SF w w'' bo bm hg md f :=
  ⟨h.o.below hb, h.h.below hb, h.r.below hb, h.m.below hb, h.b.trans (hb.mono h.b.size)⟩
theorem SF.put {w w' : World} {bo bm hg md : Nat} {f : Nat → Nat} (h : SF w w' bo bm hg md f) (hq : w.heap.size + 1 + 1 < bo) (hm : bm < bo) (i x : Nat) : SF w (w'.setCell ⟨bo, i, none⟩ (.int .u32 (x : Nat))) bo bm hg md (upd f i x) := by
  rw [h.o.setCell, ag_set]
  exact ⟨h.o.set_same _, h.h.set_other _ (by omega), h.r.set_other _ (by omega), h.m.set_other _ (by omega), below_setRow h.b (by omega) _⟩
end Go.Proofs.YthkpgfbjdabflaaGreatDoor
namespace Go.Proofs.YthkpgfbjdabflaaGreatDoor
open Go.RowKit Go.Sort
set_option linter.unusedVariables false
attribute [local go_sem] setCell_drewN

structure MK (f0 f' X Y : Nat → Nat) (j l c : Nat) : Prop where
  hc : c < D
  hf : ∀ i, i < 16 → f' i < D
  ho : ∀ i, i < j ∨ j + l ≤ i → f' i = f0 i
  hv : vl f' j l + c * D ^ l = vl f0 j l + X j * vl Y 0 l
theorem MK.start {f X Y : Nat → Nat} {j : Nat} (hf : ∀ i, i < 16 → f i < D) : MK f f X Y j 0 0 := ⟨D_pos, hf, fun _ _ => rfl, by simp [vl]⟩
theorem MK.step {f0 f' X Y : Nat → Nat} {j l c : Nat} (h : MK f0 f' X Y j l c) (hc' : (c + (X j * Y l + f' (j + l))) / D < D) :
    MK f0 (upd f' (j + l) ((c + (X j * Y l + f' (j + l))) % D)) X Y j (l + 1) ((c + (X j * Y l + f' (j + l))) / D) where
  hc := hc'
  hf := upd_lt h.hf (Nat.mod_lt _ D_pos)
  ho i hi := by rw [upd_other _ _ _ (by omega)]; exact h.ho i (by omega)
  hv := by
    have e0 := h.ho (j + l) (by omega)
    have hv := h.hv
    rw [vl_upd_top, vl, vl, Nat.zero_add, Nat.pow_succ, ← e0]
    have hm := Nat.div_add_mod (c + (X j * Y l + f' (j + l))) D
    generalize (c + (X j * Y l + f' (j + l))) / D = c' at *
    generalize (c + (X j * Y l + f' (j + l))) % D = r at *
    generalize D ^ l = Pw at *
    have e1 : vl f' j l + r * Pw + c' * (Pw * D) = vl f' j l + (D * c' + r) * Pw := by grind
    rw [e1, hm]
    have e2 : vl f' j l + (c + (X j * Y l + f' (j + l))) * Pw = (vl f' j l + c * Pw) + (X j * Y l + f' (j + l)) * Pw := by grind
    rw [e2, hv]; grind
structure OK (f X Y : Nat → Nat) (j : Nat) : Prop where
  hf : ∀ i, i < 16 → f i < D
  hz : ∀ i, j + 8 ≤ i → f i = 0
  hv : vl f 0 (j + 8) = vl X 0 j * vl Y 0 8
theorem OK.start (X Y : Nat → Nat) : OK (fun _ => 0) X Y 0 := ⟨fun _ _ => D_pos, fun _ _ => rfl, by rw [vl_of_zero (fun _ _ => rfl)]; simp [vl]⟩
theorem OK.step {f f' X Y : Nat → Nat} {j c : Nat} (h : OK f X Y j) (hj : j < 8) (hm : MK f f' X Y j 8 c) : OK (upd f' (j + 8) c) X Y (j + 1) where
  hf := upd_lt hm.hf hm.hc
  hz i hi := by rw [upd_other _ _ _ (by omega), hm.ho i (by omega), h.hz i (by omega)]
  hv := by
    have e1 : vl (upd f' (j + 8) c) 0 (j + 1 + 8) = vl (upd f' (j + 8) c) 0 j + D ^ j * vl (upd f' (j + 8) c) j 9 := by
      rw [show j + 1 + 8 = j + 9 by omega, vl_add, Nat.zero_add]
    have e2 : vl (upd f' (j + 8) c) 0 j = vl f 0 j := vl_congr fun i hi => by rw [upd_other _ _ _ (by omega), hm.ho _ (by omega)]
    have e3 : vl (upd f' (j + 8) c) j 9 = vl f' j 8 + c * D ^ 8 := vl_upd_top f' j 8 c
    have e4 := vl_add f 0 j 8
    rw [Nat.zero_add, h.hv] at e4
    have eX : vl X 0 (j + 1) = vl X 0 j + X j * D ^ j := by rw [vl, Nat.zero_add]
    rw [e1, e2, e3, hm.hv, Nat.mul_add, ← Nat.add_assoc, ← e4, eX]
    clear e1 e2 e3 e4 eX
    generalize vl X 0 j = A
    generalize vl Y 0 8 = Bb
    generalize D ^ j = Pw
    generalize X j = x
    clear hm h
    grind
end Go.Proofs.YthkpgfbjdabflaaGreatDoor
