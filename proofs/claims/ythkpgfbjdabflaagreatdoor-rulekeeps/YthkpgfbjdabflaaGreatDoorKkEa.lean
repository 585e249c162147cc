/- Laid one behind the other: Ea, Eb. -/
import Derived.Test.YthkpgfbjdabflaaGreatDoorKkSTv
namespace Go.Proofs.YthkpgfbjdabflaaGreatDoor
open Go.RowKit Go.Sort Go.Proofs.Tryz
set_option linter.unusedVariables false
set_option maxRecDepth 100000
set_option maxHeartbeats 4000000
/-- A pair of states, as it lies in memory. -/
abbrev prA (f : Fi) (pv : Value) (a : Va) (ea : Value) (b : Va) (eb : Value) (who : Int) : Array Value := #[pv, B f.2.1, .string f.2.2.1, Z f.2.2.2, B a.1, .bool a.2.1, .string a.2.2.1, ea, B b.1, .bool b.2.1, .string b.2.2.1, eb, Z who]
abbrev prV (f : Fi) (pv : Value) (a : Va) (ea : Value) (b : Va) (eb : Value) (who : Int) : Value := .agg (prA f pv a ea b eb who)
structure PrI (w : World) (f : Fi) (pv : Value) (a : Va) (ea : Value) (b : Va) (eb : Value) : Prop where
  sp : PaI w pv f.1
  sa : ExI w ea a.2.2.2
  sb : ExI w eb b.2.2.2
  ta : a.1 < M
  tb : b.1 < M
  xa : okX a.2.2.2
  xb : okX b.2.2.2
  np : f.1.length < 1000000
theorem PrI.below {w w' : World} {f : Fi} {pv : Value} {a : Va} {ea : Value} {b : Va} {eb : Value} (h : PrI w f pv a ea b eb) (hb : Below w.heap.size w w') : PrI w' f pv a ea b eb := ⟨h.sp.below hb, h.sa.below CE.loc hb, h.sb.below CE.loc hb, h.ta, h.tb, h.xa, h.xb, h.np⟩
theorem zaf (q : Bool) (e : Int) (w : World) : Calls Tryz.prog 49 #[.bool q, Z e] w fun r w' => r = .returned (Z (if q = true then 0 else e)) ∧ Below w.heap.size w w' := by
  cases q
  · refine inQ (J := Below w.heap.size w) (F := (· < w.heap.size)) Tryz.func49 (Below.refl _ _) fun a I => ?_
    refine goQ [] (zd w) I fun β1 a1 w1 I hb1 => ?_
    exact zm (v := Z e) I ⟨rfl, I.hJ⟩
  · refine inQ (J := Below w.heap.size w) (F := (· < w.heap.size)) Tryz.func49 (Below.refl _ _) fun a I => ?_
    refine goQ [] (zd w) I fun β1 a1 w1 I hb1 => ?_
    exact zm (v := Z 0) I ⟨rfl, I.hJ⟩
section
variable {w : World} {f : Fi} {pv : Value} {a : Va} {ea : Value} {b : Va} {eb : Value} {who : Int}
def frB (f : Fi) (b : Va) : Bool := decide (b.1 < 2 * f.1.length)
theorem run_lssB {x y : Nat} {q : Bool} (h : decide (x < y) = q) (o1 o2 : Operand) (w : World) : (do eqGuard .lss 23 o1 o2 (B x) (B y); binOp .lss 23 (B x) (B y) : Sem Value).run Tryz.prog w = .ok (.bool q) w := by
  subst h
  simp [go_sem]
theorem first_any (h : PrI w f pv a ea b eb) : Calls Tryz.prog 54 #[prV f pv a ea b eb who] w fun r w' => r = .returned (.bool (frB f b)) ∧ Below w.heap.size w w' := by
  obtain ⟨adp, capp, rfl, _⟩ := id h.sp.2
  have hn := h.np
  have hm := mulB 2 f.1.length (2 * f.1.length) rfl (by unfold M; omega)
  have hl : ∀ q : Bool, frB f b = q → decide (b.1 < 2 * f.1.length) = q := fun q e => e
  obtain ⟨q, hq⟩ : ∃ q, frB f b = q := ⟨_, rfl⟩
  have hl := hl q hq
  rw [hq]
  obtain ⟨ps, no, ap, ti⟩ := f
  obtain ⟨tb, fb, db, xb⟩ := b
  simp only [] at hn hm hl
  refine inQ (J := Below w.heap.size w) (F := (· < w.heap.size)) Tryz.func54 (Below.refl _ _) fun a I => ?_
  refine goQ [lS Tryz.underlying22 (ad := adp) (n := ps.length) (cap := capp) rfl, vO 3 23 (cnv64 ps.length (by omega)), bO .mul 23 hm, bO .lss 23 (run_lssB (x := tb) (y := 2 * ps.length) hl)] (zd w) I fun β1 a1 w1 I hb1 => ?_
  exact zm (v := .bool q) I ⟨rfl, I.hJ⟩
theorem bd28x (ad : Option Addr) (n cap : Nat) (w : World) : (Instr.build 28 (([3] : List Nat).zip [.slice ad n cap]).toArray).run Tryz.prog w = .ok (.agg #[B 0, .bool false, .string eB, .slice ad n cap]) w := by
  kernel_rfl
theorem sameX_any (h : PrI w f pv a ea b eb) : Calls Tryz.prog 53 #[prV f pv a ea b eb who] w fun r w' => r = .returned (.bool (eqX a.2.2.2 b.2.2.2)) ∧ Below w.heap.size w w' := by
  have hs : ∀ w', Below w.heap.size w w' → Calls Tryz.prog 89 #[vaV (0, false, eB, a.2.2.2) ea, vaV (0, false, eB, b.2.2.2) eb] w' fun r w'' => r = .returned (.bool (eqX a.2.2.2 b.2.2.2)) ∧ Below w'.heap.size w' w'' := fun w' hb => by
    have := same_state (w := w') (v := (0, false, eB, a.2.2.2)) (u := (0, false, eB, b.2.2.2)) (h.sa.below CE.loc hb) (h.sb.below CE.loc hb) h.xa
    simpa [eqV] using this
  obtain ⟨adp, capp, rfl, _⟩ := id h.sp.2
  obtain ⟨ada, capa, rfl⟩ := h.sa.slice
  obtain ⟨adb, capb, rfl⟩ := h.sb.slice
  generalize eqX a.2.2.2 b.2.2.2 = q at hs ⊢
  obtain ⟨ps, no, ap, ti⟩ := f
  obtain ⟨ta, fa, da, xa⟩ := a
  obtain ⟨tb, fb, db, xb⟩ := b
  refine inQ (J := Below w.heap.size w) (F := (· < w.heap.size)) Tryz.func53 (Below.refl _ _) fun a I => ?_
  refine goT (T := Below w.heap.size w) [dO 28 [3] (bd28x ada xa.length capa), dO 28 [3] (bd28x adb xb.length capb), cA Tryz.func89 hs] (zd w) (fun _ h => h) I fun β1 a1 w1 I hb1 => ?_
  exact zm (v := .bool q) I ⟨rfl, I.hJ⟩
def nxE (a b : Va) : Int := if decide (b.1 = a.1 + 1) = true then 0 else 11
theorem next_ok (h : PrI w f pv a ea b eb) (ht : a.1 + 1 < M) : Calls Tryz.prog 33 #[prV f pv a ea b eb who] w fun r w' => r = .returned (Z (nxE a b)) ∧ Below w.heap.size w w' := by
  obtain ⟨adp, capp, rfl, _⟩ := id h.sp.2
  obtain ⟨ada, capa, rfl⟩ := h.sa.slice
  obtain ⟨adb, capb, rfl⟩ := h.sb.slice
  have hu := zaf (decide (b.1 = a.1 + 1)) 11
  have hl : ∀ q : Bool, decide (b.1 = a.1 + 1) = q → decide (b.1 = a.1 + 1) = q := fun q e => e
  obtain ⟨q, hq⟩ : ∃ q, decide (b.1 = a.1 + 1) = q := ⟨_, rfl⟩
  have hl := hl q hq
  unfold nxE
  rw [hq] at hu ⊢
  generalize (if q = true then (0 : Int) else 11) = z at hu ⊢
  have had := zcu a.1 1 ht
  obtain ⟨ps, no, ap, ti⟩ := f
  obtain ⟨ta, fa, da, xa⟩ := a
  obtain ⟨tb, fb, db, xb⟩ := b
  simp only [] at had hl
  refine inQ (J := Below w.heap.size w) (F := (· < w.heap.size)) Tryz.func33 (Below.refl _ _) fun a I => ?_
  refine goQ [bO .add 23 had, bO .eql 23 (zdp (x := tb) (y := ta + 1) hl), kC Tryz.func49 hu] (zd w) I fun β1 a1 w1 I hb1 => ?_
  exact zm (v := Z z) I ⟨rfl, I.hJ⟩
def stE (a b : Va) : Int := if (b.2.1 || !a.2.1) = true then 0 else 14
theorem stays_ok (h : PrI w f pv a ea b eb) : Calls Tryz.prog 34 #[prV f pv a ea b eb who] w fun r w' => r = .returned (Z (stE a b)) ∧ Below w.heap.size w w' := by
  obtain ⟨adp, capp, rfl, _⟩ := id h.sp.2
  obtain ⟨ada, capa, rfl⟩ := h.sa.slice
  obtain ⟨adb, capb, rfl⟩ := h.sb.slice
  have hu := fun q => zaf q 14
  obtain ⟨ps, no, ap, ti⟩ := f
  obtain ⟨ta, fa, da, xa⟩ := a
  obtain ⟨tb, fb, db, xb⟩ := b
  cases fb
  · refine inQ (J := Below w.heap.size w) (F := (· < w.heap.size)) Tryz.func34 (Below.refl _ _) fun a I => ?_
    refine goQ [uO .not (p := .bool fa) (v := .bool (!fa)) (by intros; rfl), kC Tryz.func49 (hu (!fa))] (zd w) I fun β1 a1 w1 I hb1 => ?_
    exact zm (v := Z (if (!fa) = true then 0 else 14)) I ⟨by simp [stE], I.hJ⟩
  · refine inQ (J := Below w.heap.size w) (F := (· < w.heap.size)) Tryz.func34 (Below.refl _ _) fun a I => ?_
    refine goQ [kC Tryz.func49 (hu true)] (zd w) I fun β1 a1 w1 I hb1 => ?_
    exact zm (v := Z 0) I ⟨by simp [stE], I.hJ⟩
def koE (a b : Va) : Int := if (eqX a.2.2.2 b.2.2.2 || !b.2.1) = true then 0 else 12
theorem outcome_ok (h : PrI w f pv a ea b eb) : Calls Tryz.prog 36 #[prV f pv a ea b eb who] w fun r w' => r = .returned (Z (koE a b)) ∧ Below w.heap.size w w' := by
  have hs := fun w' (hb : Below w.heap.size w w') => sameX_any (who := who) (h.below hb)
  obtain ⟨adp, capp, rfl, _⟩ := id h.sp.2
  obtain ⟨ada, capa, rfl⟩ := h.sa.slice
  obtain ⟨adb, capb, rfl⟩ := h.sb.slice
  have hu := fun q => zaf q 12
  unfold koE
  generalize eqX a.2.2.2 b.2.2.2 = q at hs ⊢
  obtain ⟨ps, no, ap, ti⟩ := f
  obtain ⟨ta, fa, da, xa⟩ := a
  obtain ⟨tb, fb, db, xb⟩ := b
  cases q
  · refine inQ (J := Below w.heap.size w) (F := (· < w.heap.size)) Tryz.func36 (Below.refl _ _) fun a I => ?_
    refine goT (T := Below w.heap.size w) [cA Tryz.func53 hs, uO .not (p := .bool fb) (v := .bool (!fb)) (by intros; rfl), kC Tryz.func49 (hu (!fb))] (zd w) (fun _ h => h) I fun β1 a1 w1 I hb1 => ?_
    exact zm (v := Z (if (!fb) = true then 0 else 12)) I ⟨by simp, I.hJ⟩
  · refine inQ (J := Below w.heap.size w) (F := (· < w.heap.size)) Tryz.func36 (Below.refl _ _) fun a I => ?_
    refine goT (T := Below w.heap.size w) [cA Tryz.func53 hs, kC Tryz.func49 (hu true)] (zd w) (fun _ h => h) I fun β1 a1 w1 I hb1 => ?_
    exact zm (v := Z 0) I ⟨by simp, I.hJ⟩
def noR (f : Fi) (b : Va) : Bool := b.2.1 || frB f b
theorem norule_ok (h : PrI w f pv a ea b eb) : Calls Tryz.prog 37 #[prV f pv a ea b eb who] w fun r w' => r = .returned (.bool (noR f b)) ∧ Below w.heap.size w w' := by
  have hs := fun w' (hb : Below w.heap.size w w') => first_any (who := who) (h.below hb)
  obtain ⟨adp, capp, rfl, _⟩ := id h.sp.2
  obtain ⟨ada, capa, rfl⟩ := h.sa.slice
  obtain ⟨adb, capb, rfl⟩ := h.sb.slice
  unfold noR
  generalize frB f b = q at hs ⊢
  obtain ⟨ps, no, ap, ti⟩ := f
  obtain ⟨ta, fa, da, xa⟩ := a
  obtain ⟨tb, fb, db, xb⟩ := b
  cases fb
  · refine inQ (J := Below w.heap.size w) (F := (· < w.heap.size)) Tryz.func37 (Below.refl _ _) fun a I => ?_
    refine goT (T := Below w.heap.size w) [cA Tryz.func54 hs] (zd w) (fun _ h => h) I fun β1 a1 w1 I hb1 => ?_
    exact zm (v := .bool q) I ⟨by simp, I.hJ⟩
  · refine inQ (J := Below w.heap.size w) (F := (· < w.heap.size)) Tryz.func37 (Below.refl _ _) fun a I => ?_
    refine goT (T := Below w.heap.size w) [] (zd w) (fun _ h => h) I fun β1 a1 w1 I hb1 => ?_
    exact zm (v := .bool true) I ⟨by simp, I.hJ⟩
def fiE (f : Fi) (a b : Va) : Int := if (fitF f && fitV a && fitV b) = true then 0 else 2
theorem fit_ok (h : PrI w f pv a ea b eb) : Calls Tryz.prog 28 #[prV f pv a ea b eb who] w fun r w' => r = .returned (Z (fiE f a b)) ∧ Below w.heap.size w w' := by
  have h1 := fun w' (hb : Below w.heap.size w w') => fitFixed_any (f := f) (h.below hb).sp
  have h2 := fun w' (hb : Below w.heap.size w w') => zbd (v := a) (h.below hb).sa h.xa
  have h3 := fun w' (hb : Below w.heap.size w w') => zbd (v := b) (h.below hb).sb h.xb
  obtain ⟨adp, capp, rfl, _⟩ := id h.sp.2
  obtain ⟨ada, capa, rfl⟩ := h.sa.slice
  obtain ⟨adb, capb, rfl⟩ := h.sb.slice
  have hu := fun q => zaf q 2
  unfold fiE
  generalize fitF f = q1 at h1 ⊢
  generalize fitV a = q2 at h2 ⊢
  generalize fitV b = q3 at h3 ⊢
  obtain ⟨ps, no, ap, ti⟩ := f
  obtain ⟨ta, fa, da, xa⟩ := a
  obtain ⟨tb, fb, db, xb⟩ := b
  cases q1
  · refine inQ (J := Below w.heap.size w) (F := (· < w.heap.size)) Tryz.func28 (Below.refl _ _) fun a I => ?_
    refine goT (T := Below w.heap.size w) [cA Tryz.func50 h1, kC Tryz.func49 (hu false)] (zd w) (fun _ h => h) I fun β1 a1 w1 I hb1 => ?_
    exact zm (v := Z 2) I ⟨by simp, I.hJ⟩
  cases q2
  · refine inQ (J := Below w.heap.size w) (F := (· < w.heap.size)) Tryz.func28 (Below.refl _ _) fun a I => ?_
    refine goT (T := Below w.heap.size w) [cA Tryz.func50 h1, cA Tryz.func23 h2, kC Tryz.func49 (hu false)] (zd w) (fun _ h => h) I fun β1 a1 w1 I hb1 => ?_
    exact zm (v := Z 2) I ⟨by simp, I.hJ⟩
  · refine inQ (J := Below w.heap.size w) (F := (· < w.heap.size)) Tryz.func28 (Below.refl _ _) fun a I => ?_
    refine goT (T := Below w.heap.size w) [cA Tryz.func50 h1, cA Tryz.func23 h2, cA Tryz.func23 h3, kC Tryz.func49 (hu q3)] (zd w) (fun _ h => h) I fun β1 a1 w1 I hb1 => ?_
    exact zm (v := Z (if q3 = true then 0 else 2)) I ⟨by simp, I.hJ⟩
def kfE (f : Fi) (a b : Va) : Int := if ((decide (b.2.2.1 = a.2.2.1) && eqX a.2.2.2 b.2.2.2 && !b.2.1) || !frB f b) = true then 0 else 12
theorem keeps_ok (h : PrI w f pv a ea b eb) : Calls Tryz.prog 35 #[prV f pv a ea b eb who] w fun r w' => r = .returned (Z (kfE f a b)) ∧ Below w.heap.size w w' := by
  have hs := fun w' (hb : Below w.heap.size w w') => sameX_any (who := who) (h.below hb)
  have hf := fun w' (hb : Below w.heap.size w w') => first_any (who := who) (h.below hb)
  obtain ⟨adp, capp, rfl, _⟩ := id h.sp.2
  obtain ⟨ada, capa, rfl⟩ := h.sa.slice
  obtain ⟨adb, capb, rfl⟩ := h.sb.slice
  have hu := fun q => zaf q 12
  have hd := fun q (e : decide (b.2.2.1 = a.2.2.1) = q) => zay e
  unfold kfE
  generalize eqX a.2.2.2 b.2.2.2 = q at hs ⊢
  generalize frB f b = r at hf ⊢
  obtain ⟨ps, no, ap, ti⟩ := f
  obtain ⟨ta, fa, da, xa⟩ := a
  obtain ⟨tb, fb, db, xb⟩ := b
  by_cases e : db = da
  · have hd := hd true (decide_eq_true e)
    rw [decide_eq_true e]
    cases q
    · refine inQ (J := Below w.heap.size w) (F := (· < w.heap.size)) Tryz.func35 (Below.refl _ _) fun a I => ?_
      refine goT (T := Below w.heap.size w) [bO .eql 9 hd, cA Tryz.func53 hs, cA Tryz.func54 hf, uO .not (p := .bool r) (v := .bool (!r)) (by intros; rfl), kC Tryz.func49 (hu (!r))] (zd w) (fun _ h => h) I fun β1 a1 w1 I hb1 => ?_
      exact zm (v := Z (if (!r) = true then 0 else 12)) I ⟨by simp, I.hJ⟩
    cases fb
    · refine inQ (J := Below w.heap.size w) (F := (· < w.heap.size)) Tryz.func35 (Below.refl _ _) fun a I => ?_
      refine goT (T := Below w.heap.size w) [bO .eql 9 hd, cA Tryz.func53 hs, uO .not (p := .bool false) (v := .bool true) (by intros; rfl), kC Tryz.func49 (hu true)] (zd w) (fun _ h => h) I fun β1 a1 w1 I hb1 => ?_
      exact zm (v := Z 0) I ⟨by simp, I.hJ⟩
    · refine inQ (J := Below w.heap.size w) (F := (· < w.heap.size)) Tryz.func35 (Below.refl _ _) fun a I => ?_
      refine goT (T := Below w.heap.size w) [bO .eql 9 hd, cA Tryz.func53 hs, uO .not (p := .bool true) (v := .bool false) (by intros; rfl), cA Tryz.func54 hf, uO .not (p := .bool r) (v := .bool (!r)) (by intros; rfl), kC Tryz.func49 (hu (!r))] (zd w) (fun _ h => h) I fun β1 a1 w1 I hb1 => ?_
      exact zm (v := Z (if (!r) = true then 0 else 12)) I ⟨by simp, I.hJ⟩
  · have hd := hd false (decide_eq_false e)
    rw [decide_eq_false e]
    refine inQ (J := Below w.heap.size w) (F := (· < w.heap.size)) Tryz.func35 (Below.refl _ _) fun a I => ?_
    refine goT (T := Below w.heap.size w) [bO .eql 9 hd, cA Tryz.func54 hf, uO .not (p := .bool r) (v := .bool (!r)) (by intros; rfl), kC Tryz.func49 (hu (!r))] (zd w) (fun _ h => h) I fun β1 a1 w1 I hb1 => ?_
    exact zm (v := Z (if (!r) = true then 0 else 12)) I ⟨by simp, I.hJ⟩
end
theorem bytes_ok (n : Nat) (w : World) : Calls Tryz.prog 47 #[U n] w fun e w' => e = .returned (str (wb n)) ∧ Below w.heap.size w w' := za4 n w
theorem num_ok (n : Nat) (hn : n < 1000000000000) (w : World) : Calls Tryz.prog 25 #[Z n] w fun e w' => e = .returned (str (wb n)) ∧ Below w.heap.size w w' := by
  have h1 := zcx n (by unfold M; omega)
  have h2 := bytes_ok n
  generalize U n = u at h1 h2
  generalize wb n = s at h2 ⊢
  refine inQ (J := Below w.heap.size w) (F := (· < w.heap.size)) Tryz.func25 (Below.refl _ _) fun a I => ?_
  refine goQ [vO 3 23 (cnv64 n hn), kC Tryz.func48 h1, kC Tryz.func47 h2] (zd w) I fun β1 a1 w1 I hb1 => ?_
  exact zm (v := str s) I ⟨rfl, I.hJ⟩
def mvV (f : Fi) (t : Nat) : Nat := if f.1.length = 0 then 0 else t % f.1.length
theorem run_remB {x y : Nat} (hy : y ≠ 0) (o1 o2 : Operand) (w : World) : (do eqGuard .rem 23 o1 o2 (B x) (B y); binOp .rem 23 (B x) (B y) : Sem Value).run Tryz.prog w = .ok (B (x % y)) w := by
  have e : ((x : Int)).tmod (y : Int) = ((x % y : Nat) : Int) := by rw [Int.tmod_eq_emod_of_nonneg (by omega)]; omega
  simp [go_sem, hy, e]
theorem mover_ok {w : World} {f : Fi} {pv : Value} (hp : PaI w pv f.1) (t : Nat) (hn : f.1.length < 1000000) : Calls Tryz.prog 10 #[fxdV f pv, B t] w fun e w' => e = .returned (Z (mvV f t)) ∧ Below w.heap.size w w' := by
  obtain ⟨adp, capp, rfl, _⟩ := id hp.2
  unfold mvV
  obtain ⟨ps, no, ap, ti⟩ := f
  simp only [] at hn ⊢
  by_cases h0 : ps.length = 0
  · refine inQ (J := Below w.heap.size w) (F := (· < w.heap.size)) Tryz.func10 (Below.refl _ _) fun a I => ?_
    refine goQ [lS Tryz.underlying22 (ad := adp) (n := ps.length) (cap := capp) rfl, bO .eql 3 (y5 (x := ps.length) (y := 0) (b := true) (decide_eq_true (by omega)))] (zd w) I fun β1 a1 w1 I hb1 => ?_
    exact zm (v := Z 0) I ⟨by rw [if_pos h0]; rfl, I.hJ⟩
  · have hlt := Nat.mod_lt t (Nat.pos_of_ne_zero h0)
    have hr := run_remB (x := t) h0
    rw [if_neg h0]
    generalize t % ps.length = q at hr hlt ⊢
    refine inQ (J := Below w.heap.size w) (F := (· < w.heap.size)) Tryz.func10 (Below.refl _ _) fun a I => ?_
    refine goQ [lS Tryz.underlying22 (ad := adp) (n := ps.length) (cap := capp) rfl, bO .eql 3 (y5 (x := ps.length) (y := 0) (b := false) (decide_eq_false (by omega))), lS Tryz.underlying22 (ad := adp) (n := ps.length) (cap := capp) rfl, vO 3 23 (cnv64 ps.length (by omega)), bO .rem 23 hr, vO 23 3 (cnv46 q (by omega))] (zd w) I fun β1 a1 w1 I hb1 => ?_
    exact zm (v := Z q) I ⟨rfl, I.hJ⟩
def inV (a b : Va) (k : Nat) : List UInt8 := if (fitV a && fitV b) = true then wb (wrV a).length ++ wrV a ++ wrV b ++ wb k else []
theorem inV_len (a b : Va) (k : Nat) : (inV a b k).length ≤ 65536 := by
  unfold inV
  split
  · have h1 := wrV_w a
    have h2 := wrV_w b
    simp only [List.length_append, qu]
    omega
  · simp
section
variable {w : World} {f : Fi} {pv : Value} {a : Va} {ea : Value} {b : Va} {eb : Value}
theorem input_ok (h : PrI w f pv a ea b eb) (k : Nat) (hk : k < 1000000000000) : Calls Tryz.prog 12 #[fxdV f pv, vaV a ea, vaV b eb, Z k] w fun r w' => r = .returned (str (inV a b k)) ∧ Below w.heap.size w w' := by
  have h2 := fun w' (hb : Below w.heap.size w w') => zbd (v := a) (h.below hb).sa h.xa
  have h3 := fun w' (hb : Below w.heap.size w w') => zbd (v := b) (h.below hb).sb h.xb
  have w2 := fun w' (hb : Below w.heap.size w w') => write_any (v := a) (h.below hb).sa h.xa h.ta
  have w3 := fun w' (hb : Below w.heap.size w w') => write_any (v := b) (h.below hb).sb h.xb h.tb
  obtain ⟨adp, capp, rfl, _⟩ := id h.sp.2
  obtain ⟨ada, capa, rfl⟩ := h.sa.slice
  obtain ⟨adb, capb, rfl⟩ := h.sb.slice
  have l2 := wrV_w a
  have l3 := wrV_w b
  unfold inV
  generalize fitV a = q2 at h2 ⊢
  generalize fitV b = q3 at h3 ⊢
  generalize wrV a = s2 at w2 l2 ⊢
  generalize wrV b = s3 at w3 l3 ⊢
  have n1 := num_ok s2.length (by omega)
  have n2 := num_ok k hk
  have z1 := qu s2.length
  have z2 := qu k
  generalize wb s2.length = m1 at n1 z1 ⊢
  generalize wb k = m2 at n2 z2 ⊢
  have e1 := zct m1 s2 (by omega)
  have e2 := zct (m1 ++ s2) s3 (by rw [List.length_append]; omega)
  have e3 := zct (m1 ++ s2 ++ s3) m2 (by rw [List.length_append, List.length_append]; omega)
  generalize m1 ++ s2 = c1 at e1 e2 e3 ⊢
  generalize c1 ++ s3 = c2 at e2 e3 ⊢
  generalize c2 ++ m2 = c3 at e3 ⊢
  obtain ⟨ps, no, ap, ti⟩ := f
  obtain ⟨ta, fa, da, xa⟩ := a
  obtain ⟨tb, fb, db, xb⟩ := b
  cases q2
  · refine inQ (J := Below w.heap.size w) (F := (· < w.heap.size)) Tryz.func12 (Below.refl _ _) fun a I => ?_
    refine goT (T := Below w.heap.size w) [cA Tryz.func23 h2, uO .not (p := .bool false) (v := .bool true) (by intros; rfl)] (zd w) (fun _ h => h) I fun β1 a1 w1 I hb1 => ?_
    exact zm (v := str []) I ⟨by simp, I.hJ⟩
  cases q3
  · refine inQ (J := Below w.heap.size w) (F := (· < w.heap.size)) Tryz.func12 (Below.refl _ _) fun a I => ?_
    refine goT (T := Below w.heap.size w) [cA Tryz.func23 h2, uO .not (p := .bool true) (v := .bool false) (by intros; rfl), cA Tryz.func23 h3, uO .not (p := .bool false) (v := .bool true) (by intros; rfl)] (zd w) (fun _ h => h) I fun β1 a1 w1 I hb1 => ?_
    exact zm (v := str []) I ⟨by simp, I.hJ⟩
  · refine inQ (J := Below w.heap.size w) (F := (· < w.heap.size)) Tryz.func12 (Below.refl _ _) fun a I => ?_
    refine goT (T := Below w.heap.size w) [cA Tryz.func23 h2, uO .not (p := .bool true) (v := .bool false) (by intros; rfl), cA Tryz.func23 h3, uO .not (p := .bool true) (v := .bool false) (by intros; rfl), bO .lss 3 (zh (x := k) (y := 0) (b := false) (decide_eq_false (by omega)))] (zd w) (fun _ h => h) I fun β1 a1 w1 I1 hb1 => ?_
    refine dwT (T := Below w.heap.size w) 6 [cA Tryz.func24 w2, cA Tryz.func24 w3] (zd w) (fun _ h => h) zk.post I1 fun a2 w2 I2 => ?_
    refine goT (T := Below w.heap.size w) [lnO s2, kC Tryz.func25 n1, bO .add 9 e1, bO .add 9 e2, kC Tryz.func25 n2, bO .add 9 e3] (zd w) (fun _ h => h) I2 fun β3 a3 w3 I3 hb3 => ?_
    exact zm (v := str c3) I3 ⟨by simp, I3.hJ⟩
end
end Go.Proofs.YthkpgfbjdabflaaGreatDoor
