/- Laid one behind the other: Sn, Sr, Sa. -/
import Derived.Test.YtceedgdbhlpjlaaGreatDoorKfDm
import Derived.Test.YtceedgdbhlpjlaaGreatDoorKfEq
import Derived.Test.YtceedgdbhlpjlaaGreatDoorKfNv
import Derived.Test.YtceedgdbhlpjlaaGreatDoorKfLa
import Derived.Lib.QuietBelow
import Derived.BigQuiet
import Derived.Defers
import Derived.Deep.Cut
import Derived.WalkSmall
import Derived.Test.YtceedgdbhlpjlaaGreatDoorKfBt
import Derived.Test.YtceedgdbhlpjlaaGreatDoorKfQc
import Derived.Test.YtceedgdbhlpjlaaGreatDoorKfRd2
namespace Go.Proofs.YtceedgdbhlpjlaaGreatDoor
set_option linter.unusedVariables false

def HW : Nat := 57896044618658097711785492504343953926634992332820282019728792003956564819968
theorem HW_pow : HW = 2 ^ 255 := by decide +kernel
theorem HW_pos : 0 < HW := by decide +kernel
def ng (a : Nat) : Bool := decide (HW ≤ a)
def negW (a : Nat) : Nat := subW 0 a
def tn (a : Nat) (b : Bool) : Nat := if b = true then negW a else a
def ab (a : Nat) : Nat := tn a (ng a)
def sq (a b : Nat) : Nat := tn (ab a / ab b) (ng a != ng b)
def sr (a b : Nat) : Nat := tn (dr 0 (ab a) (ab b)) (ng a)
def ls (a b : Nat) : Bool := if (ng a != ng b) = true then ng a else decide (a < b)
def sar (a n : Nat) : Nat := if ng a = true then notW (shrW (notW a) n) else shrW a n
def upE (k : Nat) : Nat := 8 * (31 - k)
def exW (k a : Nat) : Nat := if k < 31 then sar (shlW a (upE k)) (upE k) else a
def byW (k a : Nat) : Nat := if k < 32 then byteFn a k else 0
theorem negW_lt (a : Nat) : negW a < W := Nat.mod_lt _ W_pos
theorem tn_lt (a : Nat) (b : Bool) (h : a < W) : tn a b < W := by
  unfold tn
  split
  · exact negW_lt a
  · exact h
theorem ab_lt (a : Nat) (h : a < W) : ab a < W := tn_lt a _ h
theorem ng_true {a : Nat} (h : ng a = true) : HW ≤ a := of_decide_eq_true h
theorem dr0_lt (a b : Nat) (h : a < W) : dr 0 a b < W := by
  unfold dr
  split
  · exact W_pos
  · rw [Nat.zero_mul, Nat.zero_add]; exact Nat.lt_of_le_of_lt (Nat.mod_le _ _) h
theorem div_lt (a b : Nat) (h : a < W) : a / b < W := Nat.lt_of_le_of_lt (Nat.div_le_self _ _) h
theorem sq_lt (a b : Nat) (ha : a < W) : sq a b < W := tn_lt _ _ (div_lt _ _ (ab_lt a ha))
theorem sr_lt (a b : Nat) (ha : a < W) : sr a b < W := tn_lt _ _ (dr0_lt _ _ (ab_lt a ha))
theorem sar_lt (a n : Nat) (h : a < W) : sar a n < W := by
  unfold sar
  split
  · exact notW_lt _
  · exact shrW_lt a n h
theorem exW_lt (k a : Nat) (h : a < W) : exW k a < W := by
  unfold exW
  split
  · exact sar_lt _ _ (shlW_lt _ _)
  · exact h
theorem byteFn_lt (a k : Nat) : byteFn a k < 256 := Nat.mod_lt _ (by decide)
theorem byW_lt (k a : Nat) : byW k a < 256 := by
  unfold byW
  split
  · exact byteFn_lt a k
  · decide
/-- the highest bit, by the number of bits -/
theorem ng_bits (a : Nat) (h : a < W) : ((bitsN a : Int) = 256) ↔ ng a = true := by
  constructor
  · intro hb
    have hb : bitsN a = 256 := by omega
    have h0 : 0 < a := by
      rcases Nat.eq_zero_or_pos a with h0 | h0
      · subst h0
        have := bitsN_le 0 0 (by decide)
        omega
      · exact h0
    have := (bitsN_spec a h h0).2.2.1
    rw [hb] at this
    exact decide_eq_true (by rw [HW_pow]; exact this)
  · intro hn
    have hn := ng_true hn
    have hp := HW_pos
    obtain ⟨b1, b2, b3, b4⟩ := bitsN_spec a h (by omega)
    rcases Nat.lt_or_ge (bitsN a) 256 with hl | hl
    · exfalso
      have : 2 ^ bitsN a ≤ 2 ^ 255 := Nat.pow_le_pow_right (by decide) (by omega)
      rw [← HW_pow] at this
      omega
    · omega
end Go.Proofs.YtceedgdbhlpjlaaGreatDoor
namespace Go.Proofs.YtceedgdbhlpjlaaGreatDoor
open Go.RowKit Go.Sort
set_option linter.unusedVariables false

set_option maxRecDepth 100000 in
set_option maxHeartbeats 4000000 in
theorem neg_raw (a x : Nat) (u : Bool)
    (hc : Does 174 #[I4 0 0 0 0, U a] (.tuple #[U x, .bool u])) (w : World) :
    Calls Tryz.prog 259 #[U a] w fun e w' => e = .returned (U x) ∧ Below w.heap.size w w' := by
  go_enter Tryz.func259, Tryz.ntmps259
  go_wp2_with fail
  refine (hc.out _).mono ?_
  rintro e w1 ⟨rfl, hb1⟩
  have RR : Hid (RB w w1 [(w.heap.size + 1, Zr), (w.heap.size, (Ar a))]) := rbB (rbN (rbN (rb0 w) (by simp)) (by simp)) hb1
  clear hb1
  obtain ⟨q1, q0, _⟩ := RR.out.r.lts
  obtain ⟨c1_0, c1_1, c1_2, c1_3⟩ := HasRow.c4 (RR.out.at 0 rfl)
  obtain ⟨z1_0, z1_1, z1_2, z1_3⟩ := HasRow.z4 (RR.out.at 0 rfl)
  go_wp2
  rw [setc4 (RR.out.at 0 rfl) rfl]
  exact bodyPost_ret (v := U x) (res1 (p := 2) (ty := 38) rfl (g := w.heap.size + 1) rfl (HasRow.old (HasRow.set_same (RR.out.at 0 rfl) _)) rfl Tryz.underlying38 (by kernel_rfl)) rfl ⟨rfl, (bel_alloc (below_setRow RR.out.b (by omega) _) _)⟩
set_option maxRecDepth 100000 in
set_option maxHeartbeats 4000000 in
theorem under_raw (a : Nat) (x : Int)
    (hc : Does 142 #[U a] (.int .i64 x)) (w : World) :
    Calls Tryz.prog 230 #[U a] w fun e w' => e = .returned (.bool (decide (x = 256))) ∧ Below w.heap.size w w' := by
  go_enter Tryz.func230, Tryz.ntmps230
  go_wp2_with fail
  refine (hc.out _).mono ?_
  rintro e w1 ⟨rfl, hb1⟩
  have RR : Hid (RB w w1 [(w.heap.size, (Ar a))]) := rbB (rbN (rb0 w) (by simp)) hb1
  clear hb1
  obtain ⟨q0, _⟩ := RR.out.r.lts
  go_wp2
  go_ret
  exact ⟨rfl, RR.out.b⟩
set_option maxRecDepth 100000 in
set_option maxHeartbeats 4000000 in
theorem turned_yes (a x : Nat)
    (hn : Does 259 #[U a] (U x)) (w : World) :
    Calls Tryz.prog 249 #[U a, .bool true] w fun e w' => e = .returned (U x) ∧ Below w.heap.size w w' := by
  go_enter Tryz.func249, Tryz.ntmps249
  go_wp2_with fail
  refine (hn.out _).mono ?_
  rintro e w1 ⟨rfl, hb1⟩
  have RR : Hid (RB w w1 [(w.heap.size + 1, Zr), (w.heap.size, (Ar a))]) := rbB (rbN (rbN (rb0 w) (by simp)) (by simp)) hb1
  clear hb1
  obtain ⟨q1, q0, _⟩ := RR.out.r.lts
  obtain ⟨c1_0, c1_1, c1_2, c1_3⟩ := HasRow.c4 (RR.out.at 0 rfl)
  obtain ⟨z1_0, z1_1, z1_2, z1_3⟩ := HasRow.z4 (RR.out.at 0 rfl)
  go_wp2
  rw [setc4 (RR.out.at 0 rfl) rfl]
  exact bodyPost_ret (v := U x) (res1 (p := 4) (ty := 38) rfl (g := w.heap.size + 1) rfl (HasRow.set_same (RR.out.at 0 rfl) _) rfl Tryz.underlying38 (by kernel_rfl)) rfl ⟨rfl, (below_setRow RR.out.b (by omega) _)⟩
set_option maxRecDepth 100000 in
set_option maxHeartbeats 4000000 in
theorem turned_no (a : Nat) (w : World) :
    Calls Tryz.prog 249 #[U a, .bool false] w fun e w' => e = .returned (U a) ∧ Below w.heap.size w w' := by
  go_enter Tryz.func249, Tryz.ntmps249
  go_wp2
  exact bodyPost_ret (v := U a) (res1 (p := 4) (ty := 38) rfl (g := w.heap.size + 1) rfl (HasRow.last (by simp)) rfl Tryz.underlying38 (by kernel_rfl)) rfl ⟨rfl, by (repeat (first | exact Below.refl _ _ | apply Below.drew | refine bel_alloc ?_ _ | refine bel_set ?_ (by first | (simp; done) | (simp; omega)) _ | refine bel_call ?_ (by assumption)))⟩
set_option maxRecDepth 100000 in
set_option maxHeartbeats 4000000 in
theorem less_tt (a b : Nat) (c : Int)
    (hp : Does 230 #[U a] (.bool true))
    (hq : Does 230 #[U b] (.bool true))
    (hc : Does 74 #[U a, U b] (.int .i64 c)) (w : World) :
    Calls Tryz.prog 191 #[U a, U b] w fun e w' => e = .returned (.bool (decide (c < 0))) ∧ Below w.heap.size w w' := by
  go_enter Tryz.func191, Tryz.ntmps191
  go_wp2_with fail
  refine name_world _ ?_
  intro wF hF
  have RR : Hid (RB w wF [(w.heap.size + 1, (Ar b)), (w.heap.size, (Ar a))]) := by rw [hF]; exact (rbN (rbN (rb0 w) (by simp)) (by simp))
  clear hF
  obtain ⟨d0_0, d0_1, d0_2, d0_3⟩ := HasRow.rg4 (RR.out.at 1 rfl)
  obtain ⟨d1_0, d1_1, d1_2, d1_3⟩ := HasRow.rg4 (RR.out.at 0 rfl)
  refine wp_region_quiet_below (by kernel_rfl) (by kernel_rfl) ?_
  repeat (go_big_quiet_step (fail))
  go_big_quiet_step ((exact Calls.regrown_of (hp.out _)))
  repeat (go_big_quiet_step (fail))
  go_big_quiet_step ((exact Calls.regrown_of (hq.out _)))
  repeat (go_big_quiet_step (fail))
  refine wpQuiet_nil ?_
  intro w1 hw'
  replace RR := rbB RR (show Below wF.heap.size wF w1 by obtain ⟨p, rfl⟩ := hw'; exact below_regrown _ _ _)
  clear hw' d0_0 d0_1 d0_2 d0_3 d1_0 d1_1 d1_2 d1_3
  clear wF
  obtain ⟨q1, q0, _⟩ := RR.out.r.lts
  obtain ⟨c0_0, c0_1, c0_2, c0_3⟩ := HasRow.c4 (RR.out.at 1 rfl)
  obtain ⟨c1_0, c1_1, c1_2, c1_3⟩ := HasRow.c4 (RR.out.at 0 rfl)
  go_wp2_with fail
  refine (hc.out _).mono ?_
  rintro e w2 ⟨rfl, hb2⟩
  replace RR := rbB RR hb2
  clear hb2 q0 q1 c0_0 c0_1 c0_2 c0_3 c1_0 c1_1 c1_2 c1_3
  obtain ⟨q1, q0, _⟩ := RR.out.r.lts
  go_wp2
  go_ret
  exact ⟨rfl, RR.out.b⟩
set_option maxRecDepth 100000 in
set_option maxHeartbeats 4000000 in
theorem less_tf (a b : Nat)
    (hp : Does 230 #[U a] (.bool true))
    (hq : Does 230 #[U b] (.bool false)) (w : World) :
    Calls Tryz.prog 191 #[U a, U b] w fun e w' => e = .returned (.bool true) ∧ Below w.heap.size w w' := by
  go_enter Tryz.func191, Tryz.ntmps191
  go_wp2_with fail
  refine name_world _ ?_
  intro wF hF
  have RR : Hid (RB w wF [(w.heap.size + 1, (Ar b)), (w.heap.size, (Ar a))]) := by rw [hF]; exact (rbN (rbN (rb0 w) (by simp)) (by simp))
  clear hF
  obtain ⟨d0_0, d0_1, d0_2, d0_3⟩ := HasRow.rg4 (RR.out.at 1 rfl)
  obtain ⟨d1_0, d1_1, d1_2, d1_3⟩ := HasRow.rg4 (RR.out.at 0 rfl)
  refine wp_region_quiet_below (by kernel_rfl) (by kernel_rfl) ?_
  repeat (go_big_quiet_step (fail))
  go_big_quiet_step ((exact Calls.regrown_of (hp.out _)))
  repeat (go_big_quiet_step (fail))
  go_big_quiet_step ((exact Calls.regrown_of (hq.out _)))
  repeat (go_big_quiet_step (fail))
  refine wpQuiet_nil ?_
  intro w1 hw'
  replace RR := rbB RR (show Below wF.heap.size wF w1 by obtain ⟨p, rfl⟩ := hw'; exact below_regrown _ _ _)
  clear hw' d0_0 d0_1 d0_2 d0_3 d1_0 d1_1 d1_2 d1_3
  clear wF
  obtain ⟨q1, q0, _⟩ := RR.out.r.lts
  obtain ⟨c0_0, c0_1, c0_2, c0_3⟩ := HasRow.c4 (RR.out.at 1 rfl)
  obtain ⟨c1_0, c1_1, c1_2, c1_3⟩ := HasRow.c4 (RR.out.at 0 rfl)
  go_wp2_with fail
  refine (hp.out _).mono ?_
  rintro e w2 ⟨rfl, hb2⟩
  replace RR := rbB RR hb2
  clear hb2 q0 q1 c0_0 c0_1 c0_2 c0_3 c1_0 c1_1 c1_2 c1_3
  obtain ⟨q1, q0, _⟩ := RR.out.r.lts
  go_wp2
  go_ret
  exact ⟨rfl, RR.out.b⟩
set_option maxRecDepth 100000 in
set_option maxHeartbeats 4000000 in
theorem less_ft (a b : Nat)
    (hp : Does 230 #[U a] (.bool false))
    (hq : Does 230 #[U b] (.bool true)) (w : World) :
    Calls Tryz.prog 191 #[U a, U b] w fun e w' => e = .returned (.bool false) ∧ Below w.heap.size w w' := by
  go_enter Tryz.func191, Tryz.ntmps191
  go_wp2_with fail
  refine name_world _ ?_
  intro wF hF
  have RR : Hid (RB w wF [(w.heap.size + 1, (Ar b)), (w.heap.size, (Ar a))]) := by rw [hF]; exact (rbN (rbN (rb0 w) (by simp)) (by simp))
  clear hF
  obtain ⟨d0_0, d0_1, d0_2, d0_3⟩ := HasRow.rg4 (RR.out.at 1 rfl)
  obtain ⟨d1_0, d1_1, d1_2, d1_3⟩ := HasRow.rg4 (RR.out.at 0 rfl)
  refine wp_region_quiet_below (by kernel_rfl) (by kernel_rfl) ?_
  repeat (go_big_quiet_step (fail))
  go_big_quiet_step ((exact Calls.regrown_of (hp.out _)))
  repeat (go_big_quiet_step (fail))
  go_big_quiet_step ((exact Calls.regrown_of (hq.out _)))
  repeat (go_big_quiet_step (fail))
  refine wpQuiet_nil ?_
  intro w1 hw'
  replace RR := rbB RR (show Below wF.heap.size wF w1 by obtain ⟨p, rfl⟩ := hw'; exact below_regrown _ _ _)
  clear hw' d0_0 d0_1 d0_2 d0_3 d1_0 d1_1 d1_2 d1_3
  clear wF
  obtain ⟨q1, q0, _⟩ := RR.out.r.lts
  obtain ⟨c0_0, c0_1, c0_2, c0_3⟩ := HasRow.c4 (RR.out.at 1 rfl)
  obtain ⟨c1_0, c1_1, c1_2, c1_3⟩ := HasRow.c4 (RR.out.at 0 rfl)
  go_wp2_with fail
  refine (hp.out _).mono ?_
  rintro e w2 ⟨rfl, hb2⟩
  replace RR := rbB RR hb2
  clear hb2 q0 q1 c0_0 c0_1 c0_2 c0_3 c1_0 c1_1 c1_2 c1_3
  obtain ⟨q1, q0, _⟩ := RR.out.r.lts
  go_wp2
  go_ret
  exact ⟨rfl, RR.out.b⟩
set_option maxRecDepth 100000 in
set_option maxHeartbeats 4000000 in
theorem less_ff (a b : Nat) (c : Int)
    (hp : Does 230 #[U a] (.bool false))
    (hq : Does 230 #[U b] (.bool false))
    (hc : Does 74 #[U a, U b] (.int .i64 c)) (w : World) :
    Calls Tryz.prog 191 #[U a, U b] w fun e w' => e = .returned (.bool (decide (c < 0))) ∧ Below w.heap.size w w' := by
  go_enter Tryz.func191, Tryz.ntmps191
  go_wp2_with fail
  refine name_world _ ?_
  intro wF hF
  have RR : Hid (RB w wF [(w.heap.size + 1, (Ar b)), (w.heap.size, (Ar a))]) := by rw [hF]; exact (rbN (rbN (rb0 w) (by simp)) (by simp))
  clear hF
  obtain ⟨d0_0, d0_1, d0_2, d0_3⟩ := HasRow.rg4 (RR.out.at 1 rfl)
  obtain ⟨d1_0, d1_1, d1_2, d1_3⟩ := HasRow.rg4 (RR.out.at 0 rfl)
  refine wp_region_quiet_below (by kernel_rfl) (by kernel_rfl) ?_
  repeat (go_big_quiet_step (fail))
  go_big_quiet_step ((exact Calls.regrown_of (hp.out _)))
  repeat (go_big_quiet_step (fail))
  go_big_quiet_step ((exact Calls.regrown_of (hq.out _)))
  repeat (go_big_quiet_step (fail))
  refine wpQuiet_nil ?_
  intro w1 hw'
  replace RR := rbB RR (show Below wF.heap.size wF w1 by obtain ⟨p, rfl⟩ := hw'; exact below_regrown _ _ _)
  clear hw' d0_0 d0_1 d0_2 d0_3 d1_0 d1_1 d1_2 d1_3
  clear wF
  obtain ⟨q1, q0, _⟩ := RR.out.r.lts
  obtain ⟨c0_0, c0_1, c0_2, c0_3⟩ := HasRow.c4 (RR.out.at 1 rfl)
  obtain ⟨c1_0, c1_1, c1_2, c1_3⟩ := HasRow.c4 (RR.out.at 0 rfl)
  go_wp2_with fail
  refine (hc.out _).mono ?_
  rintro e w2 ⟨rfl, hb2⟩
  replace RR := rbB RR hb2
  clear hb2 q0 q1 c0_0 c0_1 c0_2 c0_3 c1_0 c1_1 c1_2 c1_3
  obtain ⟨q1, q0, _⟩ := RR.out.r.lts
  go_wp2
  go_ret
  exact ⟨rfl, RR.out.b⟩
set_option maxRecDepth 100000 in
set_option maxHeartbeats 4000000 in
theorem sar_yes (a n x y z : Nat)
    (hp : Does 230 #[U a] (.bool true))
    (h1 : Does 199 #[U a] (U x))
    (h2 : Does 203 #[U x, B n] (U y))
    (h3 : Does 199 #[U y] (U z)) (w : World) :
    Calls Tryz.prog 204 #[U a, B n] w fun e w' => e = .returned (U z) ∧ Below w.heap.size w w' := by
  go_enter Tryz.func204, Tryz.ntmps204
  go_wp2_with fail
  refine (hp.out _).mono ?_
  rintro e w1 ⟨rfl, hb1⟩
  have RR : Hid (RB w w1 [(w.heap.size + 1, Zr), (w.heap.size, (Ar a))]) := rbB (rbN (rbN (rb0 w) (by simp)) (by simp)) hb1
  clear hb1
  obtain ⟨q1, q0, _⟩ := RR.out.r.lts
  obtain ⟨c0_0, c0_1, c0_2, c0_3⟩ := HasRow.c4 (RR.out.at 1 rfl)
  go_wp2_with fail
  refine (h1.out _).mono ?_
  rintro e w2 ⟨rfl, hb2⟩
  replace RR := rbB RR hb2
  clear hb2 q0 q1 c0_0 c0_1 c0_2 c0_3
  obtain ⟨q1, q0, _⟩ := RR.out.r.lts
  go_wp2_with fail
  refine (h2.out _).mono ?_
  rintro e w3 ⟨rfl, hb3⟩
  replace RR := rbB RR hb3
  clear hb3 q0 q1
  obtain ⟨q1, q0, _⟩ := RR.out.r.lts
  go_wp2_with fail
  refine (h3.out _).mono ?_
  rintro e w4 ⟨rfl, hb4⟩
  replace RR := rbB RR hb4
  clear hb4 q0 q1
  obtain ⟨q1, q0, _⟩ := RR.out.r.lts
  obtain ⟨c1_0, c1_1, c1_2, c1_3⟩ := HasRow.c4 (RR.out.at 0 rfl)
  obtain ⟨z1_0, z1_1, z1_2, z1_3⟩ := HasRow.z4 (RR.out.at 0 rfl)
  go_wp2
  rw [setc4 (RR.out.at 0 rfl) rfl]
  exact bodyPost_ret (v := U z) (res1 (p := 4) (ty := 38) rfl (g := w.heap.size + 1) rfl (HasRow.set_same (RR.out.at 0 rfl) _) rfl Tryz.underlying38 (by kernel_rfl)) rfl ⟨rfl, (below_setRow RR.out.b (by omega) _)⟩
set_option maxRecDepth 100000 in
set_option maxHeartbeats 4000000 in
theorem sar_no (a n y : Nat)
    (hp : Does 230 #[U a] (.bool false))
    (h2 : Does 203 #[U a, B n] (U y)) (w : World) :
    Calls Tryz.prog 204 #[U a, B n] w fun e w' => e = .returned (U y) ∧ Below w.heap.size w w' := by
  go_enter Tryz.func204, Tryz.ntmps204
  go_wp2_with fail
  refine (hp.out _).mono ?_
  rintro e w1 ⟨rfl, hb1⟩
  have RR : Hid (RB w w1 [(w.heap.size + 1, Zr), (w.heap.size, (Ar a))]) := rbB (rbN (rbN (rb0 w) (by simp)) (by simp)) hb1
  clear hb1
  obtain ⟨q1, q0, _⟩ := RR.out.r.lts
  obtain ⟨c0_0, c0_1, c0_2, c0_3⟩ := HasRow.c4 (RR.out.at 1 rfl)
  go_wp2_with fail
  refine (h2.out _).mono ?_
  rintro e w2 ⟨rfl, hb2⟩
  replace RR := rbB RR hb2
  clear hb2 q0 q1 c0_0 c0_1 c0_2 c0_3
  obtain ⟨q1, q0, _⟩ := RR.out.r.lts
  obtain ⟨c1_0, c1_1, c1_2, c1_3⟩ := HasRow.c4 (RR.out.at 0 rfl)
  obtain ⟨z1_0, z1_1, z1_2, z1_3⟩ := HasRow.z4 (RR.out.at 0 rfl)
  go_wp2
  rw [setc4 (RR.out.at 0 rfl) rfl]
  exact bodyPost_ret (v := U y) (res1 (p := 4) (ty := 38) rfl (g := w.heap.size + 1) rfl (HasRow.set_same (RR.out.at 0 rfl) _) rfl Tryz.underlying38 (by kernel_rfl)) rfl ⟨rfl, (below_setRow RR.out.b (by omega) _)⟩
set_option maxRecDepth 100000 in
set_option maxHeartbeats 4000000 in
theorem isb_raw (k n m : Nat) (c : Int)
    (h1 : Does 75 #[B n] (U m))
    (h2 : Does 74 #[U k, U m] (.int .i64 c)) (w : World) :
    Calls Tryz.prog 229 #[U k, B n] w fun e w' => e = .returned (.bool (decide (c < 0))) ∧ Below w.heap.size w w' := by
  go_enter Tryz.func229, Tryz.ntmps229
  go_wp2_with fail
  refine name_world _ ?_
  intro wF hF
  have RR : Hid (RB w wF [(w.heap.size, (Ar k))]) := by rw [hF]; exact (rbN (rb0 w) (by simp))
  clear hF
  obtain ⟨d0_0, d0_1, d0_2, d0_3⟩ := HasRow.rg4 (RR.out.at 0 rfl)
  refine wp_region_quiet_below (by kernel_rfl) (by kernel_rfl) ?_
  repeat (go_big_quiet_step (fail))
  go_big_quiet_step ((exact Calls.regrown_of (h1.out _)))
  repeat (go_big_quiet_step (fail))
  go_big_quiet_step ((exact Calls.regrown_of (h2.out _)))
  repeat (go_big_quiet_step (fail))
  refine wpQuiet_nil ?_
  intro w1 hw'
  replace RR := rbB RR (show Below wF.heap.size wF w1 by obtain ⟨p, rfl⟩ := hw'; exact below_regrown _ _ _)
  clear hw' d0_0 d0_1 d0_2 d0_3
  clear wF
  obtain ⟨q0, _⟩ := RR.out.r.lts
  go_wp2
  go_ret
  exact ⟨rfl, RR.out.b⟩
set_option maxRecDepth 100000 in
set_option maxHeartbeats 4000000 in
theorem ext_no (k a : Nat)
    (hb : Does 229 #[U k, B 31] (.bool false)) (w : World) :
    Calls Tryz.prog 187 #[U k, U a] w fun e w' => e = .returned (U a) ∧ Below w.heap.size w w' := by
  go_enter Tryz.func187, Tryz.ntmps187
  go_wp2_with fail
  refine (hb.out _).mono ?_
  rintro e w1 ⟨rfl, hb1⟩
  have RR : Hid (RB w w1 [(w.heap.size + 1 + 1, Zr), (w.heap.size + 1, (Ar a)), (w.heap.size, (Ar k))]) := rbB (rbN (rbN (rbN (rb0 w) (by simp)) (by simp)) (by simp)) hb1
  clear hb1
  obtain ⟨q2, q1, q0, _⟩ := RR.out.r.lts
  obtain ⟨c1_0, c1_1, c1_2, c1_3⟩ := HasRow.c4 (RR.out.at 1 rfl)
  obtain ⟨c2_0, c2_1, c2_2, c2_3⟩ := HasRow.c4 (RR.out.at 0 rfl)
  obtain ⟨z2_0, z2_1, z2_2, z2_3⟩ := HasRow.z4 (RR.out.at 0 rfl)
  go_wp2
  rw [setc4 (RR.out.at 0 rfl) rfl]
  exact bodyPost_ret (v := U a) (res1 (p := 4) (ty := 38) rfl (g := w.heap.size + 1 + 1) rfl (HasRow.set_same (RR.out.at 0 rfl) _) rfl Tryz.underlying38 (by kernel_rfl)) rfl ⟨rfl, (below_setRow RR.out.b (by omega) _)⟩
set_option maxRecDepth 100000 in
set_option maxHeartbeats 4000000 in
theorem ext_yes (k a up y z : Nat)
    (hb : Does 229 #[U k, B 31] (.bool true))
    (h1 : Does 202 #[U a, B up] (U y))
    (h2 : Does 204 #[U y, B up] (U z))
    (he : IntKind.u64.wrap (IntKind.u64.wrap (31 - (l0 k : Int)) * 8) = (up : Int)) (w : World) :
    Calls Tryz.prog 187 #[U k, U a] w fun e w' => e = .returned (U z) ∧ Below w.heap.size w w' := by
  go_enter Tryz.func187, Tryz.ntmps187
  go_wp2_with fail
  refine (hb.out _).mono ?_
  rintro e w1 ⟨rfl, hb1⟩
  have RR : Hid (RB w w1 [(w.heap.size + 1 + 1, Zr), (w.heap.size + 1, (Ar a)), (w.heap.size, (Ar k))]) := rbB (rbN (rbN (rbN (rb0 w) (by simp)) (by simp)) (by simp)) hb1
  clear hb1
  obtain ⟨q2, q1, q0, _⟩ := RR.out.r.lts
  obtain ⟨c0_0, c0_1, c0_2, c0_3⟩ := HasRow.c4 (RR.out.at 2 rfl)
  obtain ⟨c1_0, c1_1, c1_2, c1_3⟩ := HasRow.c4 (RR.out.at 1 rfl)
  go_wp2_with fail
  refine (h1.out _).mono ?_
  rintro e w2 ⟨rfl, hb2⟩
  replace RR := rbB RR hb2
  clear hb2 q0 q1 q2 c0_0 c0_1 c0_2 c0_3 c1_0 c1_1 c1_2 c1_3
  obtain ⟨q2, q1, q0, _⟩ := RR.out.r.lts
  go_wp2_with fail
  refine (h2.out _).mono ?_
  rintro e w3 ⟨rfl, hb3⟩
  replace RR := rbB RR hb3
  clear hb3 q0 q1 q2
  obtain ⟨q2, q1, q0, _⟩ := RR.out.r.lts
  obtain ⟨c2_0, c2_1, c2_2, c2_3⟩ := HasRow.c4 (RR.out.at 0 rfl)
  obtain ⟨z2_0, z2_1, z2_2, z2_3⟩ := HasRow.z4 (RR.out.at 0 rfl)
  go_wp2
  rw [setc4 (RR.out.at 0 rfl) rfl]
  exact bodyPost_ret (v := U z) (res1 (p := 4) (ty := 38) rfl (g := w.heap.size + 1 + 1) rfl (HasRow.set_same (RR.out.at 0 rfl) _) rfl Tryz.underlying38 (by kernel_rfl)) rfl ⟨rfl, (below_setRow RR.out.b (by omega) _)⟩
set_option maxRecDepth 100000 in
set_option maxHeartbeats 4000000 in
theorem byte_no (k a : Nat)
    (hb : Does 229 #[U k, B 32] (.bool false)) (w : World) :
    Calls Tryz.prog 200 #[U k, U a] w fun e w' => e = .returned (I4 0 0 0 0) ∧ Below w.heap.size w w' := by
  go_enter Tryz.func200, Tryz.ntmps200
  go_wp2_with fail
  refine (hb.out _).mono ?_
  rintro e w1 ⟨rfl, hb1⟩
  have RR : Hid (RB w w1 [(w.heap.size + 1 + 1, Zr), (w.heap.size + 1, (Ar a)), (w.heap.size, (Ar k))]) := rbB (rbN (rbN (rbN (rb0 w) (by simp)) (by simp)) (by simp)) hb1
  clear hb1
  obtain ⟨q2, q1, q0, _⟩ := RR.out.r.lts
  obtain ⟨c1_0, c1_1, c1_2, c1_3⟩ := HasRow.c4 (RR.out.at 1 rfl)
  obtain ⟨c2_0, c2_1, c2_2, c2_3⟩ := HasRow.c4 (RR.out.at 0 rfl)
  obtain ⟨z2_0, z2_1, z2_2, z2_3⟩ := HasRow.z4 (RR.out.at 0 rfl)
  go_wp2
  rw [setc4 (RR.out.at 0 rfl) rfl]
  exact bodyPost_ret (v := I4 0 0 0 0) (res1 (p := 4) (ty := 38) rfl (g := w.heap.size + 1 + 1) rfl (HasRow.set_same (RR.out.at 0 rfl) _) rfl Tryz.underlying38 (by kernel_rfl)) rfl ⟨rfl, (below_setRow RR.out.b (by omega) _)⟩
set_option maxRecDepth 100000 in
set_option maxHeartbeats 4000000 in
theorem byte_yes (k a x : Nat) (s : ByteArray)
    (hb : Does 229 #[U k, B 32] (.bool true))
    (h1 : Does 209 #[U a] (.string s))
    (h2 : Does 75 #[B x] (U x))
    (hx : ∀ w, (Instr.index 9 (.string s) (B (l0 k))).run Tryz.prog w = .ok (.int .u8 (x : Int)) w)
    (hw : IntKind.u64.wrap (x : Int) = (x : Int)) (w : World) :
    Calls Tryz.prog 200 #[U k, U a] w fun e w' => e = .returned (U x) ∧ Below w.heap.size w w' := by
  go_enter Tryz.func200, Tryz.ntmps200
  go_wp2_with fail
  refine (hb.out _).mono ?_
  rintro e w1 ⟨rfl, hb1⟩
  have RR : Hid (RB w w1 [(w.heap.size + 1 + 1, Zr), (w.heap.size + 1, (Ar a)), (w.heap.size, (Ar k))]) := rbB (rbN (rbN (rbN (rb0 w) (by simp)) (by simp)) (by simp)) hb1
  clear hb1
  obtain ⟨q2, q1, q0, _⟩ := RR.out.r.lts
  obtain ⟨c0_0, c0_1, c0_2, c0_3⟩ := HasRow.c4 (RR.out.at 2 rfl)
  obtain ⟨c1_0, c1_1, c1_2, c1_3⟩ := HasRow.c4 (RR.out.at 1 rfl)
  obtain ⟨c2_0, c2_1, c2_2, c2_3⟩ := HasRow.c4 (RR.out.at 0 rfl)
  obtain ⟨z2_0, z2_1, z2_2, z2_3⟩ := HasRow.z4 (RR.out.at 0 rfl)
  go_wp2_with fail
  refine name_world _ ?_
  intro wF hF
  replace RR : Hid (RB w wF [(w.heap.size + 1 + 1, Zr), (w.heap.size + 1, (Ar a)), (w.heap.size, (Ar k))]) := by rw [hF]; exact RR
  clear hF q0 q1 q2 c0_0 c0_1 c0_2 c0_3 c1_0 c1_1 c1_2 c1_3 c2_0 c2_1 c2_2 c2_3 z2_0 z2_1 z2_2 z2_3
  obtain ⟨d0_0, d0_1, d0_2, d0_3⟩ := HasRow.rg4 (RR.out.at 2 rfl)
  obtain ⟨d1_0, d1_1, d1_2, d1_3⟩ := HasRow.rg4 (RR.out.at 1 rfl)
  refine wp_region_last_below (by kernel_rfl) (by kernel_rfl) (by simp) ?_
  simp only [List.dropLast]
  repeat (go_big_quiet_step (fail))
  go_big_quiet_step ((exact Calls.regrown_of (h1.out _)))
  repeat (go_big_quiet_step (fail))
  go_big_quiet_step ((exact Calls.regrown_of (h2.out _)))
  repeat (go_big_quiet_step (fail))
  refine wpQuiet_nil ?_
  intro w2 hw'
  replace RR := rbB RR (show Below wF.heap.size wF w2 by obtain ⟨p, rfl⟩ := hw'; exact below_regrown _ _ _)
  clear hw' d0_0 d0_1 d0_2 d0_3 d1_0 d1_1 d1_2 d1_3
  clear wF
  obtain ⟨q2, q1, q0, _⟩ := RR.out.r.lts
  obtain ⟨c2_0, c2_1, c2_2, c2_3⟩ := HasRow.c4 (RR.out.at 0 rfl)
  obtain ⟨z2_0, z2_1, z2_2, z2_3⟩ := HasRow.z4 (RR.out.at 0 rfl)
  refine wpOp_plain rfl rfl ?_
  go_simp
  go_wp2
  rw [setc4 (RR.out.at 0 rfl) rfl]
  exact bodyPost_ret (v := U x) (res1 (p := 4) (ty := 38) rfl (g := w.heap.size + 1 + 1) rfl (HasRow.set_same (RR.out.at 0 rfl) _) rfl Tryz.underlying38 (by kernel_rfl)) rfl ⟨rfl, (below_setRow RR.out.b (by omega) _)⟩
set_option maxRecDepth 100000 in
set_option maxHeartbeats 4000000 in
theorem sdiv_raw (a b q r : Nat)
    (hd : Does 226 #[U a, U b] (.tuple #[U q, U r])) (w : World) :
    Calls Tryz.prog 179 #[U a, U b] w fun e w' => e = .returned (.tuple #[U q, U r]) ∧ Below w.heap.size w w' := by
  go_enter Tryz.func179, Tryz.ntmps179
  go_wp2_with fail
  refine (hd.out _).mono ?_
  rintro e w1 ⟨rfl, hb1⟩
  have RR : Hid (RB w w1 [(w.heap.size + 1 + 1 + 1, Zr), (w.heap.size + 1 + 1, Zr), (w.heap.size + 1, (Ar b)), (w.heap.size, (Ar a))]) := rbB (rbN (rbN (rbN (rbN (rb0 w) (by simp)) (by simp)) (by simp)) (by simp)) hb1
  clear hb1
  obtain ⟨q3, q2, q1, q0, _⟩ := RR.out.r.lts
  obtain ⟨c2_0, c2_1, c2_2, c2_3⟩ := HasRow.c4 (RR.out.at 1 rfl)
  obtain ⟨c3_0, c3_1, c3_2, c3_3⟩ := HasRow.c4 (RR.out.at 0 rfl)
  obtain ⟨z2_0, z2_1, z2_2, z2_3⟩ := HasRow.z4 (RR.out.at 1 rfl)
  obtain ⟨z3_0, z3_1, z3_2, z3_3⟩ := HasRow.z4 (RR.out.at 0 rfl)
  go_wp2
  rw [setc4 (RR.out.at 1 rfl) rfl, setc4 (HasRow.set_other (RR.out.at 0 rfl) _ (by omega)) rfl]
  exact bodyPost_ret (v := .tuple #[U q, U r]) (res2 (p := 4) (q := 5) (ty := 38) (ty2 := 38) rfl (g := w.heap.size + 1 + 1) (g2 := w.heap.size + 1 + 1 + 1) rfl rfl ((HasRow.set_same (RR.out.at 1 rfl) _).set_other _ (by omega)) ((HasRow.set_other (RR.out.at 0 rfl) _ (by omega)).set_same _) rfl rfl Tryz.underlying38 (by kernel_rfl) Tryz.underlying38 (by kernel_rfl)) rfl ⟨rfl, below_setRow (below_setRow RR.out.b (by omega) _) (by omega) _⟩
theorem ob_boolS {o : Oper} {a' : Act} {w' : World} {Q : Exit → Act → World → Prop} (x y : Operand) (ho : o.op = .store 4 x y) {g : Nat} {c : Array Value} {b : Bool}
    (hx : a'.eval x = .pointer (some ⟨g, 0, none⟩)) (hy : a'.eval y = .bool b) (hr : HasRow w' g c) (hn : c.size = 1) : o.wp Tryz.prog a' w' (fun a'' w'' => a'' = a'.put o.dst undef ∧ w'' = w'.setRow g #[.bool b]) Q := by
  have hz := hr.fz 0
  have hc : w'.cell? ⟨g, 0, none⟩ = some c[0] := by rw [hr.cell 0]; simp [hn]
  have e : w'.setCell ⟨g, 0, none⟩ (.bool b) = w'.setRow g #[.bool b] := by
    rw [hr.setCell]
    congr 1
    apply Array.ext
    · simp [hn]
    · intro i h1 h2
      simp [hn] at h1
      subst h1
      simp
  unfold Oper.wp
  have hrun : ∀ ev : Operand → Value, ev x = .pointer (some ⟨g, 0, none⟩) → ev y = .bool b → (execOp ev o).run Tryz.prog w' = .ok .skip (w'.setRow g #[.bool b]) := by
    intro ev hx hy
    simp [execOp, ho, hx, hy, go_sem, hc, hz, e]
  rw [hrun _ hx hy]
  simp [go_sem]
theorem ob_boolF {o : Oper} {a' : Act} {w' : World} {Q : Exit → Act → World → Prop} (x : Operand) (ho : o.op = .load 4 x) {g : Nat} {b : Bool}
    (hx : a'.eval x = .pointer (some ⟨g, 0, none⟩)) (hr : HasRow w' g #[.bool b]) : o.wp Tryz.prog a' w' (fun a'' w'' => a'' = a'.put o.dst (.bool b) ∧ Below w'.heap.size w' w'') Q := by
  have hc : w'.cell? ⟨g, 0, none⟩ = some (.bool b) := hr.cell 0
  have hrun : ∀ ev : Operand → Value, ev x = .pointer (some ⟨g, 0, none⟩) → (execOp ev o).run Tryz.prog w' = .ok (.value (.bool b)) w' := by
    intro ev hx
    simp [execOp, ho, hx, go_sem, hc]
  exact ob_val (hrun _ hx)
set_option maxRecDepth 100000 in
set_option maxHeartbeats 4000000 in
theorem laid_on (q r x y gq g4 g5 gl : Nat) (p s : Bool)
    (ht1 : Does 249 #[U q, .bool (p != s)] (U x))
    (ht2 : Does 249 #[U r, .bool p] (U y)) (u : FrameMode) (w w1 : World)
    (RR : Hid (RB w w1 [(gq, Ar q), (g4, #[.bool p]), (g5, #[.bool s]), (gl, Ar r)]))
    (k0 : w.heap.size ≤ gq) (k1 : w.heap.size ≤ gl) (n1 : gq < gl) (n2 : gl < g4) (n3 : gl < g5) :
    CallsD Tryz.prog 248 #[.pointer (some ⟨gq, 0, none⟩), .pointer (some ⟨g4, 0, none⟩), .pointer (some ⟨g5, 0, none⟩), .pointer (some ⟨gl, 0, none⟩)] u w1 fun e u' w' => u' = u ∧ e = .returned (.tuple #[]) ∧ HasRow w' gq (Ar x) ∧ HasRow w' gl (Ar y) ∧ Below w.heap.size w w' := by
  go_enter_d Tryz.func248, Tryz.ntmps248
  obtain ⟨q3, q2, q1, q0, _⟩ := RR.out.r.lts
  obtain ⟨c3_0, c3_1, c3_2, c3_3⟩ := HasRow.c4 (RR.out.at 0 rfl)
  have c2_0 := HasRow.c1 (RR.out.at 1 rfl)
  have c1_0 := HasRow.c1 (RR.out.at 2 rfl)
  go_wp2_with fail
  refine (ht1.out _).mono ?_
  rintro e w2 ⟨rfl, hb2⟩
  replace RR := rbB RR hb2
  clear hb2 q0 q1 q2 q3 c3_0 c3_1 c3_2 c3_3 c2_0 c1_0
  obtain ⟨q3, q2, q1, q0, _⟩ := RR.out.r.lts
  obtain ⟨c3_0, c3_1, c3_2, c3_3⟩ := HasRow.c4 (RR.out.at 0 rfl)
  obtain ⟨z3_0, z3_1, z3_2, z3_3⟩ := HasRow.z4 (RR.out.at 0 rfl)
  go_upto_region 1 with fail
  refine name_world _ ?_
  intro w3 hF
  rw [setc4 (RR.out.at 0 rfl) rfl] at hF
  replace RR : Hid (RB w w3 [(gq, (Ar x)), (g4, #[.bool p]), (g5, #[.bool s]), (gl, (Ar r))]) := by rw [hF]; exact (rbS RR 0 (Ar x) rfl (by omega) (ApartX.here (Apart.cons (by omega) (Apart.cons (by omega) (Apart.cons (by omega) Apart.nil)))))
  clear hF q0 q1 q2 q3 c3_0 c3_1 c3_2 c3_3 z3_0 z3_1 z3_2 z3_3
  obtain ⟨q3, q2, q1, q0, _⟩ := RR.out.r.lts
  have c2_0 := HasRow.c1 (RR.out.at 1 rfl)
  obtain ⟨c0_0, c0_1, c0_2, c0_3⟩ := HasRow.c4 (RR.out.at 3 rfl)
  go_wp2_with fail
  refine (ht2.out _).mono ?_
  rintro e w4 ⟨rfl, hb4⟩
  replace RR := rbB RR hb4
  clear hb4 q0 q1 q2 q3 c2_0 c0_0 c0_1 c0_2 c0_3
  obtain ⟨q3, q2, q1, q0, _⟩ := RR.out.r.lts
  obtain ⟨c0_0, c0_1, c0_2, c0_3⟩ := HasRow.c4 (RR.out.at 3 rfl)
  obtain ⟨z0_0, z0_1, z0_2, z0_3⟩ := HasRow.z4 (RR.out.at 3 rfl)
  go_wp2
  rw [setc4 (RR.out.at 3 rfl) rfl]
  go_end0
  exact ⟨rfl, HasRow.set_other (RR.out.at 0 rfl) _ (by omega), HasRow.set_same (RR.out.at 3 rfl) _, below_setRow RR.out.b (by omega) _⟩
set_option maxRecDepth 100000 in
set_option maxHeartbeats 4000000 in
theorem sdivide_raw (a b x y q r x' y' : Nat) (p s : Bool)
    (h1 : Does 230 #[U a] (.bool p))
    (h2 : Does 230 #[U b] (.bool s))
    (h3 : Does 249 #[U a, .bool p] (U x))
    (h4 : Does 249 #[U b, .bool s] (U y))
    (h5 : Does 177 #[U x, U y] (.tuple #[U q, U r]))
    (h6 : Does 249 #[U q, .bool (p != s)] (U x'))
    (h7 : Does 249 #[U r, .bool p] (U y')) (w : World) :
    Calls Tryz.prog 226 #[U a, U b] w fun e w' => e = .returned (.tuple #[U x', U y']) ∧ Below w.heap.size w w' := by
  have hmf : ∀ (fn : Fn) (first cap : Array Value) (w : World), (Instr.makeFunc fn first cap).run Tryz.prog w = .ok (.func fn first cap) w := fun _ _ _ _ => rfl
  go_enter_defers Tryz.func226, Tryz.ntmps226
  go_wp2_with fail
  refine name_world _ ?_
  intro wF hF0
  have RR : Hid (RB w wF [(w.heap.size + 1 + 1 + 1, Zr), (w.heap.size + 1 + 1, Zr), (w.heap.size + 1, (Ar b)), (w.heap.size, (Ar a))]) := by rw [hF0]; exact (rbN (rbN (rbN (rbN (rb0 w) (by simp)) (by simp)) (by simp)) (by simp))
  clear hF0
  obtain ⟨q3, q2, q1, q0, _⟩ := RR.out.r.lts
  refine wp_region_told (by kernel_rfl) (by kernel_rfl) (by kernel_rfl) [(w.heap.size, (Ar a)), (w.heap.size + 1, (Ar b)), (w.heap.size + 1 + 1, Zr), (w.heap.size + 1 + 1 + 1, Zr)]
    [sV (U a),
     sV (.bool p),
     sV (U b),
     sV (.bool s),
     sA (fun g => .pointer (some ⟨g, 0, none⟩)) 6 #[.bool false] #[.bool p],
     sA (fun g => .pointer (some ⟨g, 0, none⟩)) 7 #[.bool false] #[.bool s],
     sS 4,
     sS 5]
    (by kernel_rfl) RR.out.b (RowsAt.cons (RR.out.at 3 rfl) (RowsAt.cons (RR.out.at 2 rfl) (RowsAt.cons (RR.out.at 1 rfl) (RowsAt.cons (RR.out.at 0 rfl) RowsAt.nil)))) (StOk.of [] rfl StM.nil)
    (Obs.val (fun a' w' E => ob_row 38 (.tmp 2) rfl (E.old 2 (by kernel_rfl)) (E.row 0 rfl) rfl Tryz.underlying38 (by kernel_rfl))
    (Obs.val (fun a' w' E => ob_call (f := 230) (args := #[U a]) (by simp [opAt, ev (E.new 8 0 (by kernel_rfl) rfl), go_sem]) (h1.out w'))
    (Obs.val (fun a' w' E => ob_row 38 (.tmp 3) rfl (E.old 3 (by kernel_rfl)) (E.row 1 rfl) rfl Tryz.underlying38 (by kernel_rfl))
    (Obs.val (fun a' w' E => ob_call (f := 230) (args := #[U b]) (by simp [opAt, ev (E.new 10 2 (by kernel_rfl) rfl), go_sem]) (h2.out w'))
    (Obs.alloc (fun a' w' E => ob_alloc (t := 4) (by simp [opAt, execOp, go_sem]))
    (Obs.alloc (fun a' w' E => ob_alloc (t := 4) (by simp [opAt, execOp, go_sem]))
    (Obs.sta rfl (fun a' w' g E ha hr => ob_boolS (.tmp 6) (.tmp 9) rfl (ha 6 (by kernel_rfl)) (E.new 9 1 (by kernel_rfl) rfl) hr rfl)
    (Obs.sta rfl (fun a' w' g E ha hr => ob_boolS (.tmp 7) (.tmp 11) rfl (ha 7 (by kernel_rfl)) (E.new 11 3 (by kernel_rfl) rfl) hr rfl)
    Obs.nil)))))))) ?_
  intro bs w1 a2 ha F
  have e : a2 = ({ tmps := #[U a, U b, .pointer (some ⟨w.heap.size, 0, none⟩), .pointer (some ⟨w.heap.size + 1, 0, none⟩), .pointer (some ⟨w.heap.size + 1 + 1, 0, none⟩), .pointer (some ⟨w.heap.size + 1 + 1 + 1, 0, none⟩), .pointer (some ⟨bs 4, 0, none⟩), .pointer (some ⟨bs 5, 0, none⟩), U a, .bool p, U b, .bool s, undef, undef, undef, undef, undef, undef, undef, undef, undef, undef], defers := [] } : Act) := ha.trans (by kernel_rfl)
  subst e
  clear ha
  obtain ⟨h4, X4⟩ := F.al 4 rfl rfl
  obtain ⟨h5, X5⟩ := F.al 5 rfl rfl
  have n4_5 := F.ne 4 5 (by decide) rfl rfl
  replace RR : Hid (RB w w1 [(bs 5, #[.bool s]), (bs 4, #[.bool p]), (w.heap.size + 1 + 1 + 1, Zr), (w.heap.size + 1 + 1, Zr), (w.heap.size + 1, (Ar b)), (w.heap.size, (Ar a))]) := ⟨F.bw, (RowsAt.cons X5 (RowsAt.cons X4 (RowsAt.cons (F.row 3 rfl) (RowsAt.cons (F.row 2 rfl) (RowsAt.cons (F.row 1 rfl) (RowsAt.cons (F.row 0 rfl) RowsAt.nil))))))⟩
  generalize bs 4 = g4 at *
  generalize bs 5 = g5 at *
  have k4_0 := Nat.lt_of_lt_of_le q0 h4
  have k4_1 := Nat.lt_of_lt_of_le q1 h4
  have k4_2 := Nat.lt_of_lt_of_le q2 h4
  have k4_3 := Nat.lt_of_lt_of_le q3 h4
  have k5_0 := Nat.lt_of_lt_of_le q0 h5
  have k5_1 := Nat.lt_of_lt_of_le q1 h5
  have k5_2 := Nat.lt_of_lt_of_le q2 h5
  have k5_3 := Nat.lt_of_lt_of_le q3 h5
  clear F q0 q1 q2 q3 h4 X4 h5 X5
  obtain ⟨q5, q4, q3, q2, q1, q0, _⟩ := RR.out.r.lts
  obtain ⟨c0_0, c0_1, c0_2, c0_3⟩ := HasRow.c4 (RR.out.at 5 rfl)
  obtain ⟨c1_0, c1_1, c1_2, c1_3⟩ := HasRow.c4 (RR.out.at 4 rfl)
  go_wp2_with fail
  refine name_world _ ?_
  intro wF hF0
  replace RR : Hid (RB w wF [(g5, #[.bool s]), (g4, #[.bool p]), (w.heap.size + 1 + 1 + 1, Zr), (w.heap.size + 1 + 1, Zr), (w.heap.size + 1, (Ar b)), (w.heap.size, (Ar a))]) := by rw [hF0]; exact RR
  clear hF0 q0 q1 q2 q3 q4 q5 c0_0 c0_1 c0_2 c0_3 c1_0 c1_1 c1_2 c1_3
  obtain ⟨q5, q4, q3, q2, q1, q0, _⟩ := RR.out.r.lts
  refine wp_region_told (by kernel_rfl) (by kernel_rfl) (by kernel_rfl) [(w.heap.size, (Ar a)), (w.heap.size + 1, (Ar b)), (g4, #[.bool p]), (g5, #[.bool s])]
    [sV (U a),
     sV (.bool p),
     sV (U x),
     sV (U b),
     sV (.bool s),
     sV (U y),
     sV (.tuple #[U q, U r]),
     sV (U q),
     sV (U r),
     sK (w.heap.size + 1 + 1) Zr (Ar q),
     sK (w.heap.size + 1 + 1 + 1) Zr (Ar r)]
    (by kernel_rfl) RR.out.b (RowsAt.cons (RR.out.at 5 rfl) (RowsAt.cons (RR.out.at 4 rfl) (RowsAt.cons (RR.out.at 1 rfl) (RowsAt.cons (RR.out.at 0 rfl) RowsAt.nil)))) (StOk.of [(w.heap.size + 1 + 1, Zr), (w.heap.size + 1 + 1 + 1, Zr)] rfl (StM.cons (RR.out.at 3 rfl) (by omega) (Apart.cons (by omega) (Apart.cons (by omega) (Apart.cons (by omega) (Apart.cons (by omega) Apart.nil)))) (Apart.cons (by omega) Apart.nil) (StM.cons (RR.out.at 2 rfl) (by omega) (Apart.cons (by omega) (Apart.cons (by omega) (Apart.cons (by omega) (Apart.cons (by omega) Apart.nil)))) Apart.nil StM.nil)))
    (Obs.val (fun a' w' E => ob_row 38 (.tmp 2) rfl (E.old 2 (by kernel_rfl)) (E.row 0 rfl) rfl Tryz.underlying38 (by kernel_rfl))
    (Obs.val (fun a' w' E => ob_boolF (.tmp 6) rfl (E.old 6 (by kernel_rfl)) (E.row 2 rfl))
    (Obs.val (fun a' w' E => ob_call (f := 249) (args := #[U a, .bool p]) (by simp [opAt, ev (E.new 13 0 (by kernel_rfl) rfl), ev (E.new 14 1 (by kernel_rfl) rfl), go_sem]) (h3.out w'))
    (Obs.val (fun a' w' E => ob_row 38 (.tmp 3) rfl (E.old 3 (by kernel_rfl)) (E.row 1 rfl) rfl Tryz.underlying38 (by kernel_rfl))
    (Obs.val (fun a' w' E => ob_boolF (.tmp 7) rfl (E.old 7 (by kernel_rfl)) (E.row 3 rfl))
    (Obs.val (fun a' w' E => ob_call (f := 249) (args := #[U b, .bool s]) (by simp [opAt, ev (E.new 16 3 (by kernel_rfl) rfl), ev (E.new 17 4 (by kernel_rfl) rfl), go_sem]) (h4.out w'))
    (Obs.val (fun a' w' E => ob_call (f := 177) (args := #[U x, U y]) (by simp [opAt, ev (E.new 15 2 (by kernel_rfl) rfl), ev (E.new 18 5 (by kernel_rfl) rfl), go_sem]) (h5.out w'))
    (Obs.val (fun a' w' E => ob_val (by simp [opAt, execOp, go_sem, ev (E.new 19 6 (by kernel_rfl) rfl)]))
    (Obs.val (fun a' w' E => ob_val (by simp [opAt, execOp, go_sem, ev (E.new 19 6 (by kernel_rfl) rfl)]))
    (Obs.stk (fun a' w' E hr => ob_store 38 (.tmp 4) (.tmp 20) rfl (E.old 4 (by kernel_rfl)) (E.new 20 7 (by kernel_rfl) rfl) hr rfl rfl (by simp [Value.oneCell']) (by kernel_rfl))
    (Obs.stk (fun a' w' E hr => ob_store 38 (.tmp 5) (.tmp 21) rfl (E.old 5 (by kernel_rfl)) (E.new 21 8 (by kernel_rfl) rfl) hr rfl rfl (by simp [Value.oneCell']) (by kernel_rfl))
    Obs.nil))))))))))) ?_
  intro bs w2 a2 ha F
  have e : a2 = ({ tmps := #[U a, U b, .pointer (some ⟨w.heap.size, 0, none⟩), .pointer (some ⟨w.heap.size + 1, 0, none⟩), .pointer (some ⟨w.heap.size + 1 + 1, 0, none⟩), .pointer (some ⟨w.heap.size + 1 + 1 + 1, 0, none⟩), .pointer (some ⟨g4, 0, none⟩), .pointer (some ⟨g5, 0, none⟩), U a, .bool p, U b, .bool s, .func (.func 248) #[] #[.pointer (some ⟨w.heap.size + 1 + 1, 0, none⟩), .pointer (some ⟨g4, 0, none⟩), .pointer (some ⟨g5, 0, none⟩), .pointer (some ⟨w.heap.size + 1 + 1 + 1, 0, none⟩)], U a, .bool p, U x, U b, .bool s, U y, .tuple #[U q, U r], U q, U r], defers := [{ target := .fn (.func 248) #[.pointer (some ⟨w.heap.size + 1 + 1, 0, none⟩), .pointer (some ⟨g4, 0, none⟩), .pointer (some ⟨g5, 0, none⟩), .pointer (some ⟨w.heap.size + 1 + 1 + 1, 0, none⟩)], args := #[] }] } : Act) := ha.trans (by kernel_rfl)
  subst e
  clear ha
  replace RR : Hid (RB w w2 [(g5, #[.bool s]), (g4, #[.bool p]), (w.heap.size + 1 + 1 + 1, (Ar r)), (w.heap.size + 1 + 1, (Ar q)), (w.heap.size + 1, (Ar b)), (w.heap.size, (Ar a))]) := ⟨F.bw, (RowsAt.cons (F.row 3 rfl) (RowsAt.cons (F.row 2 rfl) (RowsAt.cons (F.sk 10 rfl) (RowsAt.cons (F.sk 9 rfl) (RowsAt.cons (F.row 1 rfl) (RowsAt.cons (F.row 0 rfl) RowsAt.nil))))))⟩
  clear F q0 q1 q2 q3 q4 q5
  obtain ⟨q5, q4, q3, q2, q1, q0, _⟩ := RR.out.r.lts
  go_wp2
  refine leaves_cons (f := 248) (args := #[.pointer (some ⟨w.heap.size + 1 + 1, 0, none⟩), .pointer (some ⟨g4, 0, none⟩), .pointer (some ⟨g5, 0, none⟩), .pointer (some ⟨w.heap.size + 1 + 1 + 1, 0, none⟩)]) (by simp) (by simp [go_sem]) ?_
  refine (laid_on q r x' y' (w.heap.size + 1 + 1) g4 g5 (w.heap.size + 1 + 1 + 1) p s h6 h7 .returning w _ ⟨RR.out.b, RowsAt.cons (RR.out.at 3 rfl) (RowsAt.cons (RR.out.at 1 rfl) (RowsAt.cons (RR.out.at 0 rfl) (RowsAt.cons (RR.out.at 2 rfl) RowsAt.nil)))⟩ (by omega) (by omega) (by omega) (by omega) (by omega)).mono ?_
  rintro e u' w'' ⟨rfl, rfl, X1, X2, X3⟩
  have hr := res2 (P := Tryz.prog) (fn := Tryz.f226) (tmps := #[U a, U b, .pointer (some ⟨w.heap.size, 0, none⟩), .pointer (some ⟨w.heap.size + 1, 0, none⟩), .pointer (some ⟨w.heap.size + 1 + 1, 0, none⟩), .pointer (some ⟨w.heap.size + 1 + 1 + 1, 0, none⟩), .pointer (some ⟨g4, 0, none⟩), .pointer (some ⟨g5, 0, none⟩), U a, .bool p, U b, .bool s, .func (.func 248) #[] #[.pointer (some ⟨w.heap.size + 1 + 1, 0, none⟩), .pointer (some ⟨g4, 0, none⟩), .pointer (some ⟨g5, 0, none⟩), .pointer (some ⟨w.heap.size + 1 + 1 + 1, 0, none⟩)], U a, .bool p, U x, U b, .bool s, U y, .tuple #[U q, U r], U q, U r]) rfl (w := w'') (g := w.heap.size + 1 + 1) (g2 := w.heap.size + 1 + 1 + 1) rfl rfl X1 X2 rfl rfl Tryz.underlying38 (by kernel_rfl) Tryz.underlying38 (by kernel_rfl)
  exact ⟨_, hr, rfl, X3⟩
end Go.Proofs.YtceedgdbhlpjlaaGreatDoor
namespace Go.Proofs.YtceedgdbhlpjlaaGreatDoor
open Go.RowKit Go.Sort
set_option linter.unusedVariables false
attribute [local go_sem] run_eq4 run_eqU_same

theorem neg_any (a : Nat) (ha : a < W) (w : World) : Calls Tryz.prog 259 #[U a] w fun e w' => e = .returned (U (negW a)) ∧ Below w.heap.size w w' := by
  exact neg_raw a _ _ (fun w => by have h := sub_any 0 a W_pos ha w; rw [U_zero] at h; exact h) w
theorem dec_bits (a : Nat) (h : a < W) : decide ((bitsN a : Int) = 256) = ng a := by
  rw [Bool.eq_iff_iff, decide_eq_true_iff]; exact ng_bits a h
theorem dec_cmp (a b : Nat) : decide (cmpN a b < 0) = decide (a < b) := by
  unfold cmpN
  split
  · rename_i h; rw [decide_eq_true h]; rfl
  · rename_i h
    rw [decide_eq_false h]
    split <;> rfl
theorem under_any (a : Nat) (ha : a < W) (w : World) : Calls Tryz.prog 230 #[U a] w fun e w' => e = .returned (.bool (ng a)) ∧ Below w.heap.size w w' := by
  have h := under_raw a _ (bits_any a) w
  rw [dec_bits a ha] at h
  exact h
theorem turned_any (a : Nat) (b : Bool) (ha : a < W) (w : World) : Calls Tryz.prog 249 #[U a, .bool b] w fun e w' => e = .returned (U (tn a b)) ∧ Below w.heap.size w w' := by
  cases b
  · exact turned_no a w
  · exact turned_yes a _ (neg_any a ha) w
theorem sdivide_any (a b : Nat) (ha : a < W) (hb : b < W) (w : World) : Calls Tryz.prog 226 #[U a, U b] w fun e w' => e = .returned (.tuple #[U (sq a b), U (sr a b)]) ∧ Below w.heap.size w w' := by
  exact sdivide_raw a b (ab a) (ab b) (ab a / ab b) (dr 0 (ab a) (ab b)) (sq a b) (sr a b) (ng a) (ng b) (under_any a ha) (under_any b hb) (turned_any a (ng a) ha) (turned_any b (ng b) hb)
    (div_any (ab a) (ab b) (ab_lt a ha) (ab_lt b hb)) (turned_any _ _ (div_lt _ _ (ab_lt a ha))) (turned_any _ _ (dr0_lt _ _ (ab_lt a ha))) w
theorem sdiv_any (a b : Nat) (ha : a < W) (hb : b < W) (w : World) : Calls Tryz.prog 179 #[U a, U b] w fun e w' => e = .returned (.tuple #[U (sq a b), U (sr a b)]) ∧ Below w.heap.size w w' := by
  exact sdiv_raw a b _ _ (sdivide_any a b ha hb) w
theorem less_any (a b : Nat) (ha : a < W) (hb : b < W) (w : World) : Calls Tryz.prog 191 #[U a, U b] w fun e w' => e = .returned (.bool (ls a b)) ∧ Below w.heap.size w w' := by
  have h1 := under_any a ha
  have h2 := under_any b hb
  unfold ls
  rw [← dec_cmp a b]
  cases hp : ng a <;> cases hs : ng b <;> rw [hp] at h1 <;> rw [hs] at h2
  · exact less_ff a b _ h1 h2 (cmp_any a b ha hb) w
  · exact less_ft a b h1 h2 w
  · exact less_tf a b h1 h2 w
  · exact less_tt a b _ h1 h2 (cmp_any a b ha hb) w
theorem sar_any (a n : Nat) (ha : a < W) (w : World) : Calls Tryz.prog 204 #[U a, B n] w fun e w' => e = .returned (U (sar a n)) ∧ Below w.heap.size w w' := by
  have h1 := under_any a ha
  unfold sar
  cases hp : ng a <;> rw [hp] at h1
  · exact sar_no a n _ h1 (shr_any a n ha) w
  · exact sar_yes a n _ _ _ h1 (not_any a ha) (shr_any _ n (notW_lt a)) (not_any _ (shrW_lt _ n (notW_lt a))) w
theorem up_wrap (k : Nat) (h : k < 31) : IntKind.u64.wrap (IntKind.u64.wrap (31 - (k : Int)) * 8) = ((upE k : Nat) : Int) := by
  rw [IntKind.wrap_u64, IntKind.wrap_u64]; unfold upE; omega
theorem M_lt_W : M ≤ W := by decide +kernel
theorem str_at (n k : Nat) (hk : k < 32) : (strN n)[k]? = some (UInt8.ofNat (byteFn n k)) := by
  have hd : (strN n).data = ((List.range 32).map fun j => UInt8.ofNat (byteFn n j)).toArray := by
    unfold strN strOfNums; simp
  have h2 : k < (strN n).size := by rw [strN_size]; exact hk
  rw [ByteArray.getElem?_lt' _ _ h2]
  congr 1
  have h3 : k < (strN n).data.size := h2
  have e : (strN n)[k]'h2 = (strN n).data[k]'h3 := rfl
  rw [e]
  have e2 : (strN n).data[k]? = some (UInt8.ofNat (byteFn n k)) := by
    rw [hd, List.getElem?_toArray, List.getElem?_map, List.getElem?_range hk]
    rfl
  rw [Array.getElem?_eq_getElem h3] at e2
  exact Option.some.inj e2
theorem idx_str (n k : Nat) (hk : k < 32) (kd : IntKind) (w : World) : (Instr.index 9 (.string (strN n)) (.int kd (k : Int))).run Tryz.prog w = .ok (.int .u8 ((byteFn n k : Nat) : Int)) w := by
  have h2 : k < (strN n).size := by rw [strN_size]; exact hk
  have h3 : ((strN n)[k]'h2).toNat = byteFn n k := by
    have h := str_at n k hk
    rw [ByteArray.getElem?_lt' _ _ h2] at h
    have := Option.some.inj h
    rw [this]
    have hb := byteFn_lt n k
    simp [UInt8.toNat_ofNat']
    omega
  have h4 := run_index_string (P := Tryz.prog) w 9 (strN n) kd (k : Int) Tryz.underlying9
  rw [dif_pos ⟨by omega, by omega⟩] at h4
  rw [h4]
  simp only [Int.toNat_natCast]
  rw [h3]
theorem byte_wrap (n k : Nat) : IntKind.u64.wrap ((byteFn n k : Nat) : Int) = ((byteFn n k : Nat) : Int) := by
  have := byteFn_lt n k
  rw [IntKind.wrap_u64]; omega
theorem isb_any (k n : Nat) (hk : k < W) (hn : n < M) (w : World) : Calls Tryz.prog 229 #[U k, B n] w fun e w' => e = .returned (.bool (decide (k < n))) ∧ Below w.heap.size w w' := by
  have h := isb_raw k n n _ (of_any n hn) (cmp_any k n hk (Nat.lt_of_lt_of_le hn M_lt_W)) w
  rw [dec_cmp] at h
  exact h
theorem ext_any (k a : Nat) (hk : k < W) (ha : a < W) (w : World) : Calls Tryz.prog 187 #[U k, U a] w fun e w' => e = .returned (U (exW k a)) ∧ Below w.heap.size w w' := by
  have h1 := isb_any k 31 hk (by decide)
  unfold exW
  by_cases h : k < 31
  · rw [decide_eq_true h] at h1
    rw [if_pos h]
    exact ext_yes k a (upE k) _ _ h1 (shl_any a (upE k) ha) (sar_any _ (upE k) (shlW_lt _ _)) (by rw [(of_parts k (Nat.lt_trans h (by decide))).1]; exact up_wrap k h) w
  · rw [decide_eq_false h] at h1
    rw [if_neg h]
    exact ext_no k a h1 w
theorem byte_any (k a : Nat) (hk : k < W) (ha : a < W) (w : World) : Calls Tryz.prog 200 #[U k, U a] w fun e w' => e = .returned (U (byW k a)) ∧ Below w.heap.size w w' := by
  have h1 := isb_any k 32 hk (by decide)
  unfold byW
  by_cases h : k < 32
  · rw [decide_eq_true h] at h1
    rw [if_pos h]
    exact byte_yes k a (byteFn a k) (strN a) h1 (bytes_any a) (of_any _ (Nat.lt_trans (byteFn_lt a k) (by decide))) (fun w => by rw [(of_parts k (Nat.lt_trans h (by decide))).1]; exact idx_str a k h .u64 w) (byte_wrap a k) w
  · rw [decide_eq_false h] at h1
    rw [if_neg h]
    exact byte_no k a h1 w
end Go.Proofs.YtceedgdbhlpjlaaGreatDoor
