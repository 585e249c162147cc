/- Contracts of Read of layer 1: over letters for the parts that are read so far. -/
import Derived.Test.YtjjiendgmnlokaaDoorKdRw
import Derived.Test.YtjjiendgmnlokaaDoorKdWt
import Derived.Test.YtjjiendgmnlokaaDoorKdOl
import Derived.Deep.Draws
import Derived.WalkSmall
namespace Go.Proofs.YtjjiendgmnlokaaDoor
open Go.RowKit
set_option linter.unusedVariables false

theorem run_idx (s : ByteArray) (i : Int) (j : Nat) (h : i = j) (hj : j < s.size) (w : World) : (Instr.index 9 (.string s) (.int .i64 i)).run Tryd.prog w = .ok (.int .u8 (s[j].toNat : Nat)) w := by
  subst h
  simp [Instr.index, asIntOf, run_underlying Tryd.underlying9, hj]
attribute [local go_sem] setCell_drewN

set_option maxRecDepth 100000 in
set_option maxHeartbeats 1000000 in
theorem read_raw (s : ByteArray) (p0 p1 p2 p3 b : Nat → Nat) (hb : ∀ k, b k < 256) (hs : s.size ≤ 32)
    (hi : ∀ k : Nat, k < s.size → ∀ w, (Instr.index 9 (.string s) (.int .i64 ((s.size : Int) - 1 - (k : Int)))).run Tryd.prog w = .ok (.int .u8 (b k : Nat)) w)
    (z0 : p0 0 = 0) (z1 : p1 0 = 0) (z2 : p2 0 = 0) (z3 : p3 0 = 0)
    (g0 : Hid (∀ k : Nat, k < s.size → k / 8 = 0 → ((p0 (k + 1) : Nat) : Int) = (bits .or .u64 (p0 k) (IntKind.u64.wrap ((b k : Int) * 2 ^ (k % 8 * 8)))) ∧ p1 (k + 1) = p1 k ∧ p2 (k + 1) = p2 k ∧ p3 (k + 1) = p3 k))
    (g1 : Hid (∀ k : Nat, k < s.size → k / 8 = 1 → p0 (k + 1) = p0 k ∧ ((p1 (k + 1) : Nat) : Int) = (bits .or .u64 (p1 k) (IntKind.u64.wrap ((b k : Int) * 2 ^ (k % 8 * 8)))) ∧ p2 (k + 1) = p2 k ∧ p3 (k + 1) = p3 k))
    (g2 : Hid (∀ k : Nat, k < s.size → k / 8 = 2 → p0 (k + 1) = p0 k ∧ p1 (k + 1) = p1 k ∧ ((p2 (k + 1) : Nat) : Int) = (bits .or .u64 (p2 k) (IntKind.u64.wrap ((b k : Int) * 2 ^ (k % 8 * 8)))) ∧ p3 (k + 1) = p3 k))
    (g3 : Hid (∀ k : Nat, k < s.size → k / 8 = 3 → p0 (k + 1) = p0 k ∧ p1 (k + 1) = p1 k ∧ p2 (k + 1) = p2 k ∧ ((p3 (k + 1) : Nat) : Int) = (bits .or .u64 (p3 k) (IntKind.u64.wrap ((b k : Int) * 2 ^ (k % 8 * 8))))))
    (w : World) : Calls Tryd.prog 56 #[.string s] w fun e w' => e = .returned (.tuple #[U4 (p0 s.size) (p1 s.size) (p2 s.size) (p3 s.size), .int .i64 0]) ∧ Below w.heap.size w w' := by
  have Z : Hid (p0 0 = 0 ∧ p1 0 = 0 ∧ p2 0 = 0 ∧ p3 0 = 0) := ⟨z0, z1, z2, z3⟩
  clear z0 z1 z2 z3
  go_enter Tryd.func56, Tryd.ntmps56
  go_wp2
  go_loopw [12] (fun i w' => ∃ k : Nat, k ≤ s.size ∧ i = .int .i64 k ∧ ∃ nq, w' = ((w.alloc (.cells #[.int .u64 0, .int .u64 0, .int .u64 0, .int .u64 0] 39)).alloc (.cells #[B (p0 k), B (p1 k), B (p2 k), B (p3 k)] 39)).drewN nq) (fun i _ => s.size - (intOf i).toNat)
  case atStart =>
    obtain ⟨z0, z1, z2, z3⟩ := Z.out
    exact ⟨0, Nat.zero_le _, rfl, 0, by simp only [B, z0, z1, z2, z3]; rfl⟩
  case round =>
    obtain ⟨k, hk, rfl, nq, rfl⟩ := hrel
    by_cases hlt : k < s.size
    · have hik := hi k hlt
      have hbk := hb k
      have hcase : k / 8 = 0 ∨ k / 8 = 1 ∨ k / 8 = 2 ∨ k / 8 = 3 := by omega
      rcases hcase with hn | hn | hn | hn
      · have G := g0.out k hlt hn
        have HG : Hid _ := G
        clear G
        have hq : (k : Int) / 8 = 0 := by omega
        clear hn
        go_wp2
        go_region
        go_wp2
        go_roundw
        case rel =>
          obtain ⟨e0, e1, e2, e3⟩ := HG.out
          exact ⟨k + 1, by omega, by go_num, nq + 1, by simp only [B, e0, e1, e2, e3]⟩
        case measure => simp [intOf]; omega
      · have G := g1.out k hlt hn
        have HG : Hid _ := G
        clear G
        have hq : (k : Int) / 8 = 1 := by omega
        clear hn
        go_wp2
        go_region
        go_wp2
        go_roundw
        case rel =>
          obtain ⟨e0, e1, e2, e3⟩ := HG.out
          exact ⟨k + 1, by omega, by go_num, nq + 1, by simp only [B, e0, e1, e2, e3]⟩
        case measure => simp [intOf]; omega
      · have G := g2.out k hlt hn
        have HG : Hid _ := G
        clear G
        have hq : (k : Int) / 8 = 2 := by omega
        clear hn
        go_wp2
        go_region
        go_wp2
        go_roundw
        case rel =>
          obtain ⟨e0, e1, e2, e3⟩ := HG.out
          exact ⟨k + 1, by omega, by go_num, nq + 1, by simp only [B, e0, e1, e2, e3]⟩
        case measure => simp [intOf]; omega
      · have G := g3.out k hlt hn
        have HG : Hid _ := G
        clear G
        have hq : (k : Int) / 8 = 3 := by omega
        clear hn
        go_wp2
        go_region
        go_wp2
        go_roundw
        case rel =>
          obtain ⟨e0, e1, e2, e3⟩ := HG.out
          exact ⟨k + 1, by omega, by go_num, nq + 1, by simp only [B, e0, e1, e2, e3]⟩
        case measure => simp [intOf]; omega
    · have hkk : k = s.size := by omega
      go_wp2
      subst hkk
      exact bodyPost_ret (v := .tuple #[U4 (p0 s.size) (p1 s.size) (p2 s.size) (p3 s.size), .int .i64 0]) (by simp [results, Tryd.results56, go_sem]) rfl ⟨rfl, (by repeat (first | exact Below.refl _ _ | apply Below.drew | apply below_drewN | refine bel_alloc ?_ _))⟩

set_option maxRecDepth 100000 in
set_option maxHeartbeats 1000000 in
theorem read_long (s : ByteArray) (hs : 32 < s.size) (w : World) : Calls Tryd.prog 56 #[.string s] w fun e w' => e = .returned (.tuple #[I4 0 0 0 0, .int .i64 3]) ∧ Below w.heap.size w w' := by
  have hs' : (32 : Int) < (s.size : Int) := by omega
  go_enter Tryd.func56, Tryd.ntmps56
  go_wp2
  exact bodyPost_ret (v := .tuple #[I4 0 0 0 0, .int .i64 3]) (by simp [results, Tryd.results56, go_sem]) rfl ⟨rfl, (by repeat (first | exact Below.refl _ _ | apply Below.drew | apply below_drewN | refine bel_alloc ?_ _))⟩

set_option maxRecDepth 100000 in
set_option maxHeartbeats 1000000 in
theorem rread_raw (s : ByteArray) (p0 p1 p2 p3 b : Nat → Nat) (hb : ∀ k, b k < 256) (hs : s.size ≤ 32)
    (hi : ∀ k : Nat, k < s.size → ∀ w, (Instr.index 9 (.string s) (.int .i64 ((s.size : Int) - 1 - (k : Int)))).run Tryd.prog w = .ok (.int .u8 (b k : Nat)) w)
    (z0 : p0 0 = 0) (z1 : p1 0 = 0) (z2 : p2 0 = 0) (z3 : p3 0 = 0)
    (g0 : Hid (∀ k : Nat, k < s.size → k / 8 = 0 → ((p0 (k + 1) : Nat) : Int) = (bits .or .u64 (p0 k) (IntKind.u64.wrap ((b k : Int) * 2 ^ (k % 8 * 8)))) ∧ p1 (k + 1) = p1 k ∧ p2 (k + 1) = p2 k ∧ p3 (k + 1) = p3 k))
    (g1 : Hid (∀ k : Nat, k < s.size → k / 8 = 1 → p0 (k + 1) = p0 k ∧ ((p1 (k + 1) : Nat) : Int) = (bits .or .u64 (p1 k) (IntKind.u64.wrap ((b k : Int) * 2 ^ (k % 8 * 8)))) ∧ p2 (k + 1) = p2 k ∧ p3 (k + 1) = p3 k))
    (g2 : Hid (∀ k : Nat, k < s.size → k / 8 = 2 → p0 (k + 1) = p0 k ∧ p1 (k + 1) = p1 k ∧ ((p2 (k + 1) : Nat) : Int) = (bits .or .u64 (p2 k) (IntKind.u64.wrap ((b k : Int) * 2 ^ (k % 8 * 8)))) ∧ p3 (k + 1) = p3 k))
    (g3 : Hid (∀ k : Nat, k < s.size → k / 8 = 3 → p0 (k + 1) = p0 k ∧ p1 (k + 1) = p1 k ∧ p2 (k + 1) = p2 k ∧ ((p3 (k + 1) : Nat) : Int) = (bits .or .u64 (p3 k) (IntKind.u64.wrap ((b k : Int) * 2 ^ (k % 8 * 8))))))
    (w : World) : Calls Tryd.prog 38 #[.string s] w fun e w' => e = .returned (.tuple #[U4 (p0 s.size) (p1 s.size) (p2 s.size) (p3 s.size), .int .i64 0]) ∧ Below w.heap.size w w' := by
  have Z : Hid (p0 0 = 0 ∧ p1 0 = 0 ∧ p2 0 = 0 ∧ p3 0 = 0) := ⟨z0, z1, z2, z3⟩
  clear z0 z1 z2 z3
  go_enter Tryd.func38, Tryd.ntmps38
  go_wp2
  go_loopw [6] (fun i w' => ∃ k : Nat, k ≤ s.size ∧ i = .int .i64 k ∧ ∃ nq, w' = ((w.alloc (.cells #[.int .u64 0, .int .u64 0, .int .u64 0, .int .u64 0] 39)).alloc (.cells #[B (p0 k), B (p1 k), B (p2 k), B (p3 k)] 39)).drewN nq) (fun i _ => s.size - (intOf i).toNat)
  case atStart =>
    obtain ⟨z0, z1, z2, z3⟩ := Z.out
    exact ⟨0, Nat.zero_le _, rfl, 0, by simp only [B, z0, z1, z2, z3]; rfl⟩
  case round =>
    obtain ⟨k, hk, rfl, nq, rfl⟩ := hrel
    by_cases hlt : k < s.size
    · have hik := hi k hlt
      have hbk := hb k
      have hcase : k / 8 = 0 ∨ k / 8 = 1 ∨ k / 8 = 2 ∨ k / 8 = 3 := by omega
      rcases hcase with hn | hn | hn | hn
      · have G := g0.out k hlt hn
        have HG : Hid _ := G
        clear G
        have hq : (k : Int) / 8 = 0 := by omega
        clear hn
        go_wp2
        go_region
        go_wp2
        go_roundw
        case rel =>
          obtain ⟨e0, e1, e2, e3⟩ := HG.out
          exact ⟨k + 1, by omega, by go_num, nq + 1, by simp only [B, e0, e1, e2, e3, Nat.mul_comm 8 (k % 8)]⟩
        case measure => simp [intOf]; omega
      · have G := g1.out k hlt hn
        have HG : Hid _ := G
        clear G
        have hq : (k : Int) / 8 = 1 := by omega
        clear hn
        go_wp2
        go_region
        go_wp2
        go_roundw
        case rel =>
          obtain ⟨e0, e1, e2, e3⟩ := HG.out
          exact ⟨k + 1, by omega, by go_num, nq + 1, by simp only [B, e0, e1, e2, e3, Nat.mul_comm 8 (k % 8)]⟩
        case measure => simp [intOf]; omega
      · have G := g2.out k hlt hn
        have HG : Hid _ := G
        clear G
        have hq : (k : Int) / 8 = 2 := by omega
        clear hn
        go_wp2
        go_region
        go_wp2
        go_roundw
        case rel =>
          obtain ⟨e0, e1, e2, e3⟩ := HG.out
          exact ⟨k + 1, by omega, by go_num, nq + 1, by simp only [B, e0, e1, e2, e3, Nat.mul_comm 8 (k % 8)]⟩
        case measure => simp [intOf]; omega
      · have G := g3.out k hlt hn
        have HG : Hid _ := G
        clear G
        have hq : (k : Int) / 8 = 3 := by omega
        clear hn
        go_wp2
        go_region
        go_wp2
        go_roundw
        case rel =>
          obtain ⟨e0, e1, e2, e3⟩ := HG.out
          exact ⟨k + 1, by omega, by go_num, nq + 1, by simp only [B, e0, e1, e2, e3, Nat.mul_comm 8 (k % 8)]⟩
        case measure => simp [intOf]; omega
    · have hkk : k = s.size := by omega
      go_wp2
      subst hkk
      exact bodyPost_ret (v := .tuple #[U4 (p0 s.size) (p1 s.size) (p2 s.size) (p3 s.size), .int .i64 0]) (by simp [results, Tryd.results38, go_sem]) rfl ⟨rfl, (by repeat (first | exact Below.refl _ _ | apply Below.drew | apply below_drewN | refine bel_alloc ?_ _))⟩

set_option maxRecDepth 100000 in
set_option maxHeartbeats 1000000 in
theorem rread_long (s : ByteArray) (hs : 32 < s.size) (w : World) : Calls Tryd.prog 38 #[.string s] w fun e w' => e = .returned (.tuple #[I4 0 0 0 0, .int .i64 3]) ∧ Below w.heap.size w w' := by
  have hs' : (32 : Int) < (s.size : Int) := by omega
  go_enter Tryd.func38, Tryd.ntmps38
  go_wp2
  exact bodyPost_ret (v := .tuple #[I4 0 0 0 0, .int .i64 3]) (by simp [results, Tryd.results38, go_sem]) rfl ⟨rfl, (by repeat (first | exact Below.refl _ _ | apply Below.drew | apply below_drewN | refine bel_alloc ?_ _))⟩

end Go.Proofs.YtjjiendgmnlokaaDoor
