/- The long division, by numbers: a digit that is guessed too great and mended; the digits one behind the other. -/
import Derived.Test.YtbfgeinneglpdaaPb
namespace Go.Proofs.Ytbfgeinneglpdaa
set_option linter.unusedVariables false
structure IN (f f' g : Nat → Nat) (p n d tt : Nat) : Prop where
  hf : ∀ i, i < 17 → f' i < D
  ho : ∀ i, i < p ∨ p + n < i → f' i = f i
  hv : vl f' p (n + 1) + d * vl g 0 n = vl f p (n + 1) + tt * D ^ (n + 1)
  hq : vl f p (n + 1) / vl g 0 n ≤ d
  hd : d < D
theorem IN.ofTO {f f' g : Nat → Nat} {p n d t : Nat} (h : TO f f' g d p n t) (hq : vl f p (n + 1) / vl g 0 n ≤ d) (hd : d < D) : IN f f' g p n d t := ⟨h.hf, h.ho, h.hv, hq, hd⟩
theorem IN.gt {f f' g : Nat → Nat} {p n d : Nat} (h : IN f f' g p n d 1) (hV : 0 < vl g 0 n) (hp : p + n < 17) : vl f p (n + 1) / vl g 0 n < d := by
  have h1 : vl f' p (n + 1) < D ^ (n + 1) := vl_lt fun i hi => h.hf _ (by omega)
  have h2 := h.hv
  rw [Nat.div_lt_iff_lt_mul hV]
  omega
theorem IN.back {f f' f'' g : Nat → Nat} {p n d t2 : Nat} (h : IN f f' g p n d 1) (hV : 0 < vl g 0 n) (hp : p + n < 17) (h2 : PO f' f'' g p n t2) (ht : t2 ≤ 1) : IN f f'' g p n (d - 1) (1 - t2) where
  hf := h2.hf
  ho i hi := by rw [h2.ho i hi, h.ho i hi]
  hv := by
    have hg := Nat.lt_of_le_of_lt (Nat.zero_le _) (h.gt hV hp)
    obtain ⟨d', rfl⟩ : ∃ d', d = d' + 1 := ⟨d - 1, by omega⟩
    have e1 := h.hv
    have e2 := h2.hv
    rw [Nat.add_sub_cancel]
    rw [Nat.add_mul, Nat.one_mul] at e1
    rcases Nat.lt_or_ge t2 1 with h0 | h0
    · have : t2 = 0 := by omega
      subst this
      rw [Nat.zero_mul] at e2
      omega
    · have : t2 = 1 := by omega
      subst this
      omega
  hq := Nat.le_sub_one_of_lt (h.gt hV hp)
  hd := by have := h.hd; omega
/-- t digits are still to come. -/
structure DI (X V : Nat) (f q : Nat → Nat) (t : Nat) : Prop where
  hf : ∀ i, i < 17 → f i < D
  hqd : ∀ i, i < 16 → q i < D
  hv : X = vl q t (16 - t) * D ^ t * V + vl f 0 17
  hl : vl f t (17 - t) < V
theorem DI.start {X V : Nat} {f : Nat → Nat} {t : Nat} (ht : t ≤ 16) (hf : ∀ i, i < 17 → f i < D) (hX : vl f 0 17 = X) (hlt : X < V * D ^ t) : DI X V f (fun _ => 0) t where
  hf := hf
  hqd _ _ := D_pos
  hv := by rw [vl_of_zero (fun _ _ => rfl), Nat.zero_mul, Nat.zero_mul, Nat.zero_add, hX]
  hl := by
    have h := vl_div (f := f) (k := 0) (a := t) (b := 17 - t) (fun i hi => hf _ (by omega))
    rw [show t + (17 - t) = 17 by omega, hX, Nat.zero_add] at h
    rw [← h]
    exact Nat.div_lt_of_lt_mul (by rw [Nat.mul_comm]; exact hlt)
theorem DI.top {X V : Nat} {f q : Nat → Nat} {p n : Nat} (h : DI X V f q (p + 1)) (hp : p + n ≤ 16) (hV : V < D ^ n) : ∀ i, p + n < i → i < 17 → f i = 0 := by
  have hl := h.hl
  rw [show 17 - (p + 1) = n + (16 - p - n) by omega, vl_add] at hl
  have h0 : vl f (p + 1 + n) (16 - p - n) = 0 := by
    rcases Nat.eq_zero_or_pos (vl f (p + 1 + n) (16 - p - n)) with h0 | h0
    · exact h0
    · have := Nat.le_mul_of_pos_right (D ^ n) h0
      omega
  intro i hi hi2
  have := vl_zero h0 (i - (p + 1 + n)) (by omega)
  rwa [show p + 1 + n + (i - (p + 1 + n)) = i by omega] at this
theorem DI.window {X V : Nat} {f q : Nat → Nat} {p n : Nat} (h : DI X V f q (p + 1)) (hp : p + n ≤ 16) (hV : V < D ^ n) : vl f p (n + 1) < D * V := by
  have hz := h.top hp hV
  have hl := h.hl
  rw [show 17 - (p + 1) = n + (16 - p - n) by omega, vl_add, vl_of_zero (k := p + 1 + n) (fun i hi => hz _ (by omega) (by omega)), Nat.mul_zero, Nat.add_zero] at hl
  rw [vl_low]
  have h1 := h.hf p (by omega)
  have h2 : D * vl f (p + 1) n + D ≤ D * V := by rw [← Nat.mul_succ]; exact Nat.mul_le_mul_left _ hl
  omega
theorem step_ring (Q V r A P d : Nat) : Q * (P * D) * V + (A + P * (r + d * V)) = (d + D * Q) * P * V + (A + P * r) := by
  generalize D = B
  have e1 : B * Q * P * V = Q * (P * B) * V := by rw [Nat.mul_comm B Q, Nat.mul_assoc Q B P, Nat.mul_comm B P]
  have e2 : d * P * V = P * (d * V) := by rw [Nat.mul_comm d P, Nat.mul_assoc]
  rw [Nat.add_mul, Nat.add_mul, Nat.mul_add, e1, e2]
  omega
theorem DI.step {X : Nat} {f f' g q : Nat → Nat} {p n d : Nat} (h : DI X (vl g 0 n) f q (p + 1)) (hp : p + n ≤ 16) (hV : 0 < vl g 0 n) (hVn : vl g 0 n < D ^ n) (hi : IN f f' g p n d 0) : DI X (vl g 0 n) f' (upd q p d) p := by
  have hz := h.top hp hVn
  have hn0 : 0 < n := by
    rcases Nat.eq_zero_or_pos n with h0 | h0
    · subst h0; simp [vl] at hV
    · exact h0
  have e0 : vl f' p (n + 1) + d * vl g 0 n = vl f p (n + 1) := by have := hi.hv; rw [Nat.zero_mul] at this; exact this
  obtain ⟨hd, hr⟩ := quot_of hV e0 hi.hq
  have t0 : vl f (p + (n + 1)) (16 - p - n) = 0 := vl_of_zero fun i hi' => hz _ (by omega) (by omega)
  have t1 : vl f' (p + (n + 1)) (16 - p - n) = 0 := vl_of_zero fun i hi' => by rw [hi.ho _ (by omega)]; exact hz _ (by omega) (by omega)
  have w0 : vl f p (17 - p) = vl f p (n + 1) := by rw [show 17 - p = (n + 1) + (16 - p - n) by omega, vl_add, t0, Nat.mul_zero, Nat.add_zero]
  have w1 : vl f' p (17 - p) = vl f' p (n + 1) := by rw [show 17 - p = (n + 1) + (16 - p - n) by omega, vl_add, t1, Nat.mul_zero, Nat.add_zero]
  refine ⟨hi.hf, upd_lt h.hqd hi.hd, ?_, ?_⟩
  · have hX := h.hv
    have s0 := vl_add f 0 p (17 - p)
    have s1 := vl_add f' 0 p (17 - p)
    rw [show p + (17 - p) = 17 by omega, Nat.zero_add] at s0 s1
    have lo : vl f' 0 p = vl f 0 p := vl_congr fun i hi' => hi.ho _ (by omega)
    have qe : vl (upd q p d) p (16 - p) = d + D * vl q (p + 1) (16 - (p + 1)) := by
      rw [show 16 - p = (16 - (p + 1)) + 1 by omega, vl_low, upd_same, vl_upd_above q p d (Nat.lt_succ_self p)]
    rw [hX, s0, s1, lo, w0, w1, qe, ← e0, Nat.pow_succ]
    exact step_ring _ _ _ _ _ _
  · rw [w1, hr]; exact Nat.mod_lt _ hV
end Go.Proofs.Ytbfgeinneglpdaa
