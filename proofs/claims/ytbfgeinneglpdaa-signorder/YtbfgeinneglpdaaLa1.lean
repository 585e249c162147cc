/- Contracts of the document's Digits, Number, top. -/
import Derived.Test.YtbfgeinneglpdaaQa
import Derived.Test.YtbfgeinneglpdaaRz
namespace Go.Proofs.Ytbfgeinneglpdaa
open Go.RowKit Go.Sort
set_option linter.unusedVariables false
attribute [local go_sem] setCell_drewN
abbrev A8 (f : Nat → Nat) : Value := .agg (ag .u64 8 f)
abbrev A16 (f : Nat → Nat) : Value := .agg (ag .u64 16 f)

set_option maxRecDepth 100000 in
set_option maxHeartbeats 4000000 in
theorem digits_raw (a0 a1 a2 a3 : Nat) (w : World) :
    Calls Try.prog 49 #[U4 a0 a1 a2 a3] w fun e w' =>
      e = .returned (.agg #[.int .u64 (bits .and .u64 (a0 : Nat) 4294967295), .int .u64 ((a0 : Nat) / 4294967296 : Int), .int .u64 (bits .and .u64 (a1 : Nat) 4294967295), .int .u64 ((a1 : Nat) / 4294967296 : Int), .int .u64 (bits .and .u64 (a2 : Nat) 4294967295), .int .u64 ((a2 : Nat) / 4294967296 : Int), .int .u64 (bits .and .u64 (a3 : Nat) 4294967295), .int .u64 ((a3 : Nat) / 4294967296 : Int)]) ∧ Below w.heap.size w w' := by
  go_enter Try.func49, Try.ntmps49
  go_wp2
  refine wp_loop_rounds 5 ?_
  iterate 4 (rw [rounds_succ]; go_wp2)
  rw [rounds_succ]; go_wp2
  refine bodyPost_ret (v := .agg #[.int .u64 (bits .and .u64 (a0 : Nat) 4294967295), .int .u64 ((a0 : Nat) / 4294967296 : Int), .int .u64 (bits .and .u64 (a1 : Nat) 4294967295), .int .u64 ((a1 : Nat) / 4294967296 : Int), .int .u64 (bits .and .u64 (a2 : Nat) 4294967295), .int .u64 ((a2 : Nat) / 4294967296 : Int), .int .u64 (bits .and .u64 (a3 : Nat) 4294967295), .int .u64 ((a3 : Nat) / 4294967296 : Int)]) (by simp [results, Try.results49, go_sem]) rfl ⟨rfl, ?_⟩
  (repeat (first | exact Below.refl _ _ | apply Below.drew | refine bel_alloc ?_ _))
theorem digits_any (n : Nat) (w : World) : Calls Try.prog 49 #[U n] w fun e w' => e = .returned (A8 (dg n)) ∧ Below w.heap.size w w' := by
  have h := digits_raw (l0 n) (l1 n) (l2 n) (l3 n) w
  obtain ⟨e0, e1, e2, e3, e4, e5, e6, e7⟩ := dg_parts n
  have b : ∀ x : Nat, x < M → ((x : Nat) / 4294967296 : Int) = ((x : Nat) / 4294967296 % 4294967296 : Int) := fun x hx => by unfold M at hx; omega
  have c : ∀ x : Nat, x < M → bits .and .u64 (x : Int) 4294967295 = ((x : Nat) % 4294967296 : Int) := fun x hx => by rw [num_and hx]; rfl
  rw [b _ (l0_lt n), b _ (l1_lt n), b _ (l2_lt n), b _ (l3_lt n), c _ (l0_lt n), c _ (l1_lt n), c _ (l2_lt n), c _ (l3_lt n), e0, e1, e2, e3, e4, e5, e6, e7] at h
  exact h

set_option maxRecDepth 100000 in
set_option maxHeartbeats 4000000 in
theorem number_raw (f0 f1 f2 f3 f4 f5 f6 f7 : Nat) (w : World) :
    Calls Try.prog 52 #[.agg #[B f0, B f1, B f2, B f3, B f4, B f5, B f6, B f7]] w fun e w' =>
      e = .returned (I4 (bits .or .u64 (bits .and .u64 f0 4294967295) (IntKind.u64.wrap ((f1 : Int) * 4294967296))) (bits .or .u64 (bits .and .u64 f2 4294967295) (IntKind.u64.wrap ((f3 : Int) * 4294967296))) (bits .or .u64 (bits .and .u64 f4 4294967295) (IntKind.u64.wrap ((f5 : Int) * 4294967296))) (bits .or .u64 (bits .and .u64 f6 4294967295) (IntKind.u64.wrap ((f7 : Int) * 4294967296)))) ∧ Below w.heap.size w w' := by
  go_enter Try.func52, Try.ntmps52
  go_wp2
  refine wp_loop_rounds 5 ?_
  iterate 4 (rw [rounds_succ]; go_wp2; go_region; go_wp2)
  rw [rounds_succ]; go_wp2
  refine bodyPost_ret (v := I4 (bits .or .u64 (bits .and .u64 f0 4294967295) (IntKind.u64.wrap ((f1 : Int) * 4294967296))) (bits .or .u64 (bits .and .u64 f2 4294967295) (IntKind.u64.wrap ((f3 : Int) * 4294967296))) (bits .or .u64 (bits .and .u64 f4 4294967295) (IntKind.u64.wrap ((f5 : Int) * 4294967296))) (bits .or .u64 (bits .and .u64 f6 4294967295) (IntKind.u64.wrap ((f7 : Int) * 4294967296)))) (by simp [results, Try.results52, go_sem]) rfl ⟨rfl, ?_⟩
  (repeat (first | exact Below.refl _ _ | apply Below.drew | refine bel_alloc ?_ _))
theorem number_part {x y : Nat} (hx : x < D) (hy : y < D) : bits .or .u64 (bits .and .u64 (x : Int) 4294967295) (IntKind.u64.wrap ((y : Int) * 4294967296)) = ((x + y * D : Nat) : Int) ∧ x + y * D < M := by
  have hx' : x < M := by unfold D M at *; omega
  obtain ⟨j1, j2⟩ := join_part hx hy
  have e1 : bits .and .u64 (x : Int) 4294967295 = (x : Int) := by rw [num_and hx', Nat.mod_eq_of_lt hx]
  have e2 : bits .or .u64 0 (IntKind.u64.wrap (IntKind.u64.wrap (x : Int))) = (x : Int) := by
    have e3 := bits_or 0 x (by decide) hx'
    rw [Nat.zero_or] at e3
    have e4 : IntKind.u64.wrap (IntKind.u64.wrap (x : Int)) = ((x : Nat) : Int) := by simp only [IntKind.wrap_u64]; unfold D at *; omega
    rw [e4]; exact e3
  have e5 : IntKind.u64.wrap (y : Int) = (y : Int) := by simp only [IntKind.wrap_u64]; unfold D at *; omega
  rw [e2, e5] at j1
  rw [e1]
  exact ⟨j1, j2⟩
theorem number_any (f : Nat → Nat) (hf : ∀ i, i < 8 → f i < D) (w : World) : Calls Try.prog 52 #[A8 f] w fun e w' => e = .returned (U (vl f 0 8)) ∧ Below w.heap.size w w' := by
  have h := number_raw (f 0) (f 1) (f 2) (f 3) (f 4) (f 5) (f 6) (f 7) w
  obtain ⟨a0, b0⟩ := number_part (hf 0 (by decide)) (hf 1 (by decide))
  obtain ⟨a1, b1⟩ := number_part (hf 2 (by decide)) (hf 3 (by decide))
  obtain ⟨a2, b2⟩ := number_part (hf 4 (by decide)) (hf 5 (by decide))
  obtain ⟨a3, b3⟩ := number_part (hf 6 (by decide)) (hf 7 (by decide))
  rw [a0, a1, a2, a3] at h
  have e : U (vl f 0 8) = U4 (f 0 + f 1 * D) (f 2 + f 3 * D) (f 4 + f 5 * D) (f 6 + f 7 * D) := by
    unfold U
    rw [vl_mk, l0_mk _ _ _ _ b0, l1_mk _ _ _ _ b0 b1, l2_mk _ _ _ _ b0 b1 b2, l3_mk _ _ _ _ b0 b1 b2 b3]
  rw [e]
  exact h

set_option maxRecDepth 100000 in
set_option maxHeartbeats 4000000 in
theorem top_raw (f : Nat → Nat) (w : World) :
    Calls Try.prog 57 #[A8 f] w fun e w' =>
      (∃ n : Nat, n ≤ 8 ∧ (∀ i, n ≤ i → i < 8 → f i = 0) ∧ (0 < n → f (n - 1) ≠ 0) ∧ e = .returned (.int .i64 (n : Int))) ∧ Below w.heap.size w w' := by
  go_enter Try.func57, Try.ntmps57
  go_wp2
  go_loopw [3] (fun i w' => ∃ (n : Nat), n ≤ 8 ∧ i = .int .i64 (n : Int) ∧ w' = (w.alloc (Obj.cells (ag .u64 8 f) 51)) ∧ (∀ i, n ≤ i → i < 8 → f i = 0)) (fun i _ => (intOf i).toNat)
  case atStart => exact ⟨8, Nat.le_refl _, rfl, rfl, fun i h1 h2 => by omega⟩
  case round =>
    obtain ⟨n, hn, rfl, rfl, hZ⟩ := hrel
    have KZ : Hid _ := hZ
    clear hZ
    rcases n with _ | m
    · go_wp2
      go_ret
      exact ⟨⟨0, by omega, KZ.out, fun h => absurd h (by omega), rfl⟩, (by (repeat (first | exact Below.refl _ _ | refine bel_alloc ?_ _)))⟩
    · have hc : (ag .u64 8 f)[m]? = some (.int .u64 (f m : Nat)) := by rw [ag_get, if_pos (by omega)]
      by_cases h0 : f m = 0
      · have h0' : ((f m : Nat) : Int) = 0 := by omega
        go_wp2
        go_roundw
        case rel => exact ⟨m, by omega, rfl, by first | trivial | rfl, fun i h1 h2 => by
            rcases Nat.lt_or_ge m i with h | h
            · exact KZ.out i (by omega) h2
            · rw [show i = m by omega]; exact h0⟩
        case measure => simp [intOf]; try omega
      · have h0' : ¬ ((f m : Nat) : Int) = 0 := by omega
        go_wp2
        go_ret
        exact ⟨⟨m + 1, hn, KZ.out, fun _ => h0, rfl⟩, (by (repeat (first | exact Below.refl _ _ | refine bel_alloc ?_ _)))⟩
end Go.Proofs.Ytbfgeinneglpdaa
