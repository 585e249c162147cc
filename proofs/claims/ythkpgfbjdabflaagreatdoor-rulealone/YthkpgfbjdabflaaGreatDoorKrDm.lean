/- Laid one behind the other: Dm, Dv, Da. -/
import Derived.Test.YthkpgfbjdabflaaGreatDoorKrAn
import Derived.Test.YthkpgfbjdabflaaGreatDoorKrNv
import Derived.Deep.QuietTactic
import Derived.BigQuiet
import Derived.Test.YthkpgfbjdabflaaGreatDoorKrLa
import Derived.Lib.QuietBelow
import Derived.Deep.DeepCutAuto
import Derived.Deep.Light
import Derived.BigCall
import Derived.Test.YthkpgfbjdabflaaGreatDoorKrGu
import Derived.WalkMore
namespace Go.Proofs.YthkpgfbjdabflaaGreatDoor
set_option linter.unusedVariables false
structure IN (f f' g : Nat → Nat) (p n d tt : Nat) : Prop where
  hf : ∀ i, i < 17 → f' i < D
  ho : ∀ i, i < p ∨ p + n < i → f' i = f i
  hv : vl f' p (n + 1) + d * vl g 0 n = vl f p (n + 1) + tt * D ^ (n + 1)
  hq : vl f p (n + 1) / vl g 0 n ≤ d
  hd : d < D
theorem IN.gt {f f' g : Nat → Nat} {p n d : Nat} (h : IN f f' g p n d 1) (hV : 0 < vl g 0 n) (hp : p + n < 17) : vl f p (n + 1) / vl g 0 n < d := by
  have h1 : vl f' p (n + 1) < D ^ (n + 1) := vl_lt fun i hi => h.hf _ (by omega)
  have h2 := h.hv
  rw [Nat.div_lt_iff_lt_mul hV]
  omega
/-- t digits are still to come. -/
structure DmI (X V : Nat) (f q : Nat → Nat) (t : Nat) : Prop where
  hf : ∀ i, i < 17 → f i < D
  hqd : ∀ i, i < 16 → q i < D
  hv : X = vl q t (16 - t) * D ^ t * V + vl f 0 17
  hl : vl f t (17 - t) < V
theorem DmI.start {X V : Nat} {f : Nat → Nat} {t : Nat} (ht : t ≤ 16) (hf : ∀ i, i < 17 → f i < D) (hX : vl f 0 17 = X) (hlt : X < V * D ^ t) : DmI X V f (fun _ => 0) t where
  hf := hf
  hqd _ _ := D_pos
  hv := by rw [vl_of_zero (fun _ _ => rfl), Nat.zero_mul, Nat.zero_mul, Nat.zero_add, hX]
  hl := by
    have h := vl_div (f := f) (k := 0) (a := t) (b := 17 - t) (fun i hi => hf _ (by omega))
    rw [show t + (17 - t) = 17 by omega, hX, Nat.zero_add] at h
    rw [← h]
    exact Nat.div_lt_of_lt_mul (by rw [Nat.mul_comm]; exact hlt)
theorem DmI.top {X V : Nat} {f q : Nat → Nat} {p n : Nat} (h : DmI X V f q (p + 1)) (hp : p + n ≤ 16) (hV : V < D ^ n) : ∀ i, p + n < i → i < 17 → f i = 0 := by
  have hl := h.hl
  rw [show 17 - (p + 1) = n + (16 - p - n) by omega, vl_add] at hl
  have h0 : vl f (p + 1 + n) (16 - p - n) = 0 := by
    rcases Nat.eq_zero_or_pos (vl f (p + 1 + n) (16 - p - n)) with h0 | h0
    · exact h0
    · have := Nat.le_mul_of_pos_right (D ^ n) h0
      omega
  intro i hi hi2
  have := vl_zero h0 (i - (p + 1 + n)) (by omega)
  rwa [show p + 1 + n + (i - (p + 1 + n)) = i by omega] at this
theorem step_ring (Q V r A P d : Nat) : Q * (P * D) * V + (A + P * (r + d * V)) = (d + D * Q) * P * V + (A + P * r) := by
  generalize D = B
  have e1 : B * Q * P * V = Q * (P * B) * V := by rw [Nat.mul_comm B Q, Nat.mul_assoc Q B P, Nat.mul_comm B P]
  have e2 : d * P * V = P * (d * V) := by rw [Nat.mul_comm d P, Nat.mul_assoc]
  rw [Nat.add_mul, Nat.add_mul, Nat.mul_add, e1, e2]
  omega
theorem DmI.step {X : Nat} {f f' g q : Nat → Nat} {p n d : Nat} (h : DmI X (vl g 0 n) f q (p + 1)) (hp : p + n ≤ 16) (hV : 0 < vl g 0 n) (hVn : vl g 0 n < D ^ n) (hi : IN f f' g p n d 0) : DmI X (vl g 0 n) f' (upd q p d) p := by
  have hz := h.top hp hVn
  have hn0 : 0 < n := by
    rcases Nat.eq_zero_or_pos n with h0 | h0
    · subst h0; simp [vl] at hV
    · exact h0
  have e0 : vl f' p (n + 1) + d * vl g 0 n = vl f p (n + 1) := by have := hi.hv; rw [Nat.zero_mul] at this; exact this
  obtain ⟨hd, hr⟩ := quot_of hV e0 hi.hq
  have t0 : vl f (p + (n + 1)) (16 - p - n) = 0 := vl_of_zero fun i hi' => hz _ (by omega) (by omega)
  have t1 : vl f' (p + (n + 1)) (16 - p - n) = 0 := vl_of_zero fun i hi' => by rw [hi.ho _ (by omega)]; exact hz _ (by omega) (by omega)
  have w0 : vl f p (17 - p) = vl f p (n + 1) := by rw [show 17 - p = (n + 1) + (16 - p - n) by omega, vl_add, t0, Nat.mul_zero, Nat.add_zero]
  have w1 : vl f' p (17 - p) = vl f' p (n + 1) := by rw [show 17 - p = (n + 1) + (16 - p - n) by omega, vl_add, t1, Nat.mul_zero, Nat.add_zero]
  refine ⟨hi.hf, upd_lt h.hqd hi.hd, ?_, ?_⟩
  · have hX := h.hv
    have s0 := vl_add f 0 p (17 - p)
    have s1 := vl_add f' 0 p (17 - p)
    rw [show p + (17 - p) = 17 by omega, Nat.zero_add] at s0 s1
    have lo : vl f' 0 p = vl f 0 p := vl_congr fun i hi' => hi.ho _ (by omega)
    have qe : vl (upd q p d) p (16 - p) = d + D * vl q (p + 1) (16 - (p + 1)) := by
      rw [show 16 - p = (16 - (p + 1)) + 1 by omega, vl_low, upd_same, vl_upd_above q p d (Nat.lt_succ_self p)]
    rw [hX, s0, s1, lo, w0, w1, qe, ← e0, Nat.pow_succ]
    exact step_ring _ _ _ _ _ _
  · rw [w1, hr]; exact Nat.mod_lt _ hV
end Go.Proofs.YthkpgfbjdabflaaGreatDoor
namespace Go.Proofs.YthkpgfbjdabflaaGreatDoor
open Go.RowKit Go.Sort
set_option linter.unusedVariables false

structure D0 (w w' : World) (hg lw dv : Nat) : Prop where
  h : HasRow w' w.heap.size #[B (l0 hg), B (l1 hg), B (l2 hg), B (l3 hg)]
  l : HasRow w' (w.heap.size + 1) #[B (l0 lw), B (l1 lw), B (l2 lw), B (l3 lw)]
  d : HasRow w' (w.heap.size + 1 + 1) #[B (l0 dv), B (l1 dv), B (l2 dv), B (l3 dv)]
  r1 : HasRow w' (w.heap.size + 1 + 1 + 1) #[.int .u64 0, .int .u64 0, .int .u64 0, .int .u64 0]
  r2 : HasRow w' (w.heap.size + 1 + 1 + 1 + 1) #[.int .u64 0, .int .u64 0, .int .u64 0, .int .u64 0]
  b : Below w.heap.size w w'
theorem D0.call {w w' w'' : World} {hg lw dv : Nat} (h : D0 w w' hg lw dv) (hb : Below w'.heap.size w' w'') : D0 w w'' hg lw dv :=
  ⟨h.h.below hb, h.l.below hb, h.d.below hb, h.r1.below hb, h.r2.below hb, h.b.trans (hb.mono h.b.size)⟩
theorem D0.alloc {w w' : World} {hg lw dv : Nat} (h : D0 w w' hg lw dv) (o : Obj) : D0 w (w'.alloc o) hg lw dv :=
  ⟨h.h.old, h.l.old, h.d.old, h.r1.old, h.r2.old, bel_alloc h.b o⟩
structure DV (w w' : World) (bb bl bq : Nat) (g f q : Nat → Nat) : Prop where
  y : HasRow w' bb (ag .u32 8 g)
  l : HasRow w' bl (ag .u32 17 f)
  q : HasRow w' bq (ag .u32 16 q)
  r1 : HasRow w' (w.heap.size + 1 + 1 + 1) #[.int .u64 0, .int .u64 0, .int .u64 0, .int .u64 0]
  r2 : HasRow w' (w.heap.size + 1 + 1 + 1 + 1) #[.int .u64 0, .int .u64 0, .int .u64 0, .int .u64 0]
  b : Below w.heap.size w w'
structure DB (w : World) (bb bl bq : Nat) : Prop where
  h1 : w.heap.size + 1 + 1 + 1 + 1 < bb
  h2 : bb < bl
  h3 : bl < bq
theorem DV.call {w w' w'' : World} {bb bl bq : Nat} {g f q : Nat → Nat} (h : DV w w' bb bl bq g f q) (hb : Below w'.heap.size w' w'') : DV w w'' bb bl bq g f q :=
  ⟨h.y.below hb, h.l.below hb, h.q.below hb, h.r1.below hb, h.r2.below hb, h.b.trans (hb.mono h.b.size)⟩
theorem DV.left {w w' : World} {bb bl bq : Nat} {g f q : Nat → Nat} (h : DV w w' bb bl bq g f q) (hB : DB w bb bl bq) (f' : Nat → Nat) : DV w (w'.setRow bl (ag .u32 17 f')) bb bl bq g f' q := by
  have h1 := hB.h1; have h2 := hB.h2; have h3 := hB.h3
  exact ⟨h.y.set_other _ (by omega), h.l.set_same _, h.q.set_other _ (by omega), h.r1.set_other _ (by omega), h.r2.set_other _ (by omega), below_setRow h.b (by omega) _⟩
/-- What is known of the divisor. -/
structure DK (X m : Nat) (g : Nat → Nat) : Prop where
  m8 : m < 8
  gd : ∀ i, i < 8 → g i < D
  gt : 0 < g m
theorem DK.V {X m : Nat} {g : Nat → Nat} (h : DK X m g) : 0 < vl g 0 (m + 1) ∧ vl g 0 (m + 1) < D ^ (m + 1) := by
  refine ⟨?_, vl_lt fun i hi => ?_⟩
  · rw [vl, Nat.zero_add]
    have := Nat.mul_pos h.gt (Dp m)
    omega
  · rw [Nat.zero_add]; exact h.gd i (by have := h.m8; omega)
end Go.Proofs.YthkpgfbjdabflaaGreatDoor
namespace Go.Proofs.YthkpgfbjdabflaaGreatDoor
open Go.RowKit Go.Sort
set_option linter.unusedVariables false
def dr (high low m : Nat) : Nat := if m = 0 then 0 else (high * W + low) % m
end Go.Proofs.YthkpgfbjdabflaaGreatDoor
