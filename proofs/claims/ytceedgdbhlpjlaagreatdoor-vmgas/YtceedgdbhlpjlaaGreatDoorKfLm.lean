/- Out of Lm. -/
import Derived.Test.YtceedgdbhlpjlaaGreatDoorKfLg
import Derived.Test.YtceedgdbhlpjlaaGreatDoorKfDm
import Derived.Test.YtceedgdbhlpjlaaGreatDoorKfDl
import Derived.Test.YtceedgdbhlpjlaaGreatDoorKfLa
import Derived.Deep.QuietTactic
import Derived.Lib.QuietBelow
import Derived.BigQuiet
namespace Go.Proofs.YtceedgdbhlpjlaaGreatDoor
open Go.RowKit Go.Sort
set_option linter.unusedVariables false
structure LW (w w' : World) (bv : Nat) (d m q o v : Nat → Nat) : Prop where
  lv : LV w w' d m q o
  vv : HasRow w' bv (ag .u64 8 v)
  gt : w.heap.size + 1 + 1 + 1 + 1 + 1 < bv
theorem LW.grown {w w' w'' : World} {bv : Nat} {d m q o v : Nat → Nat} (h : LW w w' bv d m q o v) (hb : Below w'.heap.size w' w'') : LW w w'' bv d m q o v :=
  ⟨⟨h.lv.dd.below hb, h.lv.mm.below hb, h.lv.r4.below hb, h.lv.r5.below hb, h.lv.qq.below hb, h.lv.oo.below hb, h.lv.b.trans (hb.mono h.lv.b.size)⟩, h.vv.below hb, h.gt⟩
theorem LW.putV {w w' : World} {bv : Nat} {d m q o v : Nat → Nat} (h : LW w w' bv d m q o v) (i x : Nat) : LW w (w'.setCell ⟨bv, i, none⟩ (.int .u64 (x : Nat))) bv d m q o (upd v i x) := by
  have hg := h.gt
  rw [h.vv.setCell, ag_set]
  exact ⟨⟨h.lv.dd.set_other _ (by omega), h.lv.mm.set_other _ (by omega), h.lv.r4.set_other _ (by omega), h.lv.r5.set_other _ (by omega), h.lv.qq.set_other _ (by omega), h.lv.oo.set_other _ (by omega), below_setRow h.lv.b (by omega) _⟩, h.vv.set_same _, hg⟩
structure LX (w w' : World) (bv bu : Nat) (d m q o v u : Nat → Nat) : Prop where
  lw : LW w w' bv d m q o v
  uu : HasRow w' bu (ag .u64 17 u)
  gu : bv < bu
theorem LX.grown {w w' w'' : World} {bv bu : Nat} {d m q o v u : Nat → Nat} (h : LX w w' bv bu d m q o v u) (hb : Below w'.heap.size w' w'') : LX w w'' bv bu d m q o v u :=
  ⟨h.lw.grown hb, h.uu.below hb, h.gu⟩
/-- The digit that is guessed: what is known of it while it is made less. -/
structure GI (u v : Nat → Nat) (p k g r : Nat) : Prop where
  e : g * v (k + 1) + r = u (p + (k + 2)) * D + u (p + (k + 1))
  q : vl u p (k + 3) / vl v 0 (k + 2) ≤ g
  r : r < D
theorem GI.start {u v : Nat → Nat} {p k : Nat} (hp : p + k ≤ 14) (hf : ∀ i, i < 17 → u i < D) (h0 : 0 < v (k + 1)) (h1 : v (k + 1) < D) :
    GI u v p k ((u (p + (k + 2)) * D + u (p + (k + 1))) / v (k + 1)) ((u (p + (k + 2)) * D + u (p + (k + 1))) % v (k + 1)) where
  e := by rw [Nat.mul_comm, Nat.div_add_mod]
  q := guess_ge (f := u) (g := v) (k := p) (n := k + 2) (fun i hi => hf _ (by omega)) (by omega) h0
  r := Nat.lt_trans (Nat.mod_lt _ h0) h1
theorem GI.lt {u v : Nat → Nat} {p k g r : Nat} (h : GI u v p k g r) (hp : p + k ≤ 14) (hf : ∀ i, i < 17 → u i < D) (h0 : 0 < v (k + 1)) : g < M := by
  have e := h.e
  have a1 := hf (p + (k + 2)) (by omega)
  have a2 := hf (p + (k + 1)) (by omega)
  have h3 : g ≤ g * v (k + 1) := Nat.le_mul_of_pos_right _ h0
  unfold D M at *
  omega
/-- The guess as it is left: at most one too great. -/
structure GF (u v : Nat → Nat) (p k g : Nat) : Prop where
  d : g < D
  q : vl u p (k + 3) / vl v 0 (k + 2) ≤ g
  m : g * vl v 0 (k + 2) < vl u p (k + 3) + vl v 0 (k + 2)
theorem GI.fin {u v : Nat → Nat} {p k g r : Nat} (h : GI u v p k g r) (hv : ∀ i, i < k + 2 → v i < D) (h0 : 0 < v (k + 1)) (h1 : g < D) (h2 : g * v k ≤ r * D + u (p + k)) : GF u v p k g :=
  ⟨h1, h.q, guess_end (f := u) (g := v) (k := p) (n := k) hv h0 h.e h1 h2⟩
theorem LX.putQ {w w' : World} {bv bu : Nat} {d m q o v u : Nat → Nat} (h : LX w w' bv bu d m q o v u) (i x : Nat) : LX w (w'.setCell ⟨w.heap.size + 1 + 1 + 1 + 1, i, none⟩ (.int .u64 (x : Nat))) bv bu d m (upd q i x) o v u := by
  have hg := h.gu
  have hv := h.lw.gt
  rw [h.lw.lv.qq.setCell, ag_set]
  exact ⟨⟨⟨h.lw.lv.dd.set_other _ (by omega), h.lw.lv.mm.set_other _ (by omega), h.lw.lv.r4.set_other _ (by omega), h.lw.lv.r5.set_other _ (by omega), h.lw.lv.qq.set_same _, h.lw.lv.oo.set_other _ (by omega), below_setRow h.lw.lv.b (by omega) _⟩, h.lw.vv.set_other _ (by omega), hv⟩, h.uu.set_other _ (by omega), hg⟩
end Go.Proofs.YtceedgdbhlpjlaaGreatDoor
