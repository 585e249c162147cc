/- Contracts of Bit, and of the loops of the document's shifts, of layer 1: over letters for the parts that stand so far. -/
import Derived.Test.YthbindnkichimaaXtWt
import Derived.Test.YthbindnkichimaaXtOl
import Derived.Test.YthbindnkichimaaXtMB
import Derived.BigQuiet
import Derived.Deep.Light
namespace Go.Proofs.Ythbindnkichimaa
open Go.RowKit Go.Sort
set_option linter.unusedVariables false

set_option maxRecDepth 100000 in
set_option maxHeartbeats 1000000 in
theorem bit_0_raw (a0 a1 a2 a3 i : Nat) (hi : i ≤ 255) (hq : (i : Int) / 64 = 0) (w : World) : Calls Try.prog 49 #[U4 a0 a1 a2 a3, .int .i64 i] w fun e w' => e = .returned (.int .u64 (bits .and .u64 ((a0 : Int) / 2 ^ (i % 64)) 1)) ∧ Below w.heap.size w w' := by
  go_enter Try.func49, Try.ntmps49
  go_wp2
  go_ret
  exact ⟨rfl, (by repeat (first | exact Below.refl _ _ | apply Below.drew | refine bel_alloc ?_ _))⟩
set_option maxRecDepth 100000 in
set_option maxHeartbeats 1000000 in
theorem bit_1_raw (a0 a1 a2 a3 i : Nat) (hi : i ≤ 255) (hq : (i : Int) / 64 = 1) (w : World) : Calls Try.prog 49 #[U4 a0 a1 a2 a3, .int .i64 i] w fun e w' => e = .returned (.int .u64 (bits .and .u64 ((a1 : Int) / 2 ^ (i % 64)) 1)) ∧ Below w.heap.size w w' := by
  go_enter Try.func49, Try.ntmps49
  go_wp2
  go_ret
  exact ⟨rfl, (by repeat (first | exact Below.refl _ _ | apply Below.drew | refine bel_alloc ?_ _))⟩
set_option maxRecDepth 100000 in
set_option maxHeartbeats 1000000 in
theorem bit_2_raw (a0 a1 a2 a3 i : Nat) (hi : i ≤ 255) (hq : (i : Int) / 64 = 2) (w : World) : Calls Try.prog 49 #[U4 a0 a1 a2 a3, .int .i64 i] w fun e w' => e = .returned (.int .u64 (bits .and .u64 ((a2 : Int) / 2 ^ (i % 64)) 1)) ∧ Below w.heap.size w w' := by
  go_enter Try.func49, Try.ntmps49
  go_wp2
  go_ret
  exact ⟨rfl, (by repeat (first | exact Below.refl _ _ | apply Below.drew | refine bel_alloc ?_ _))⟩
set_option maxRecDepth 100000 in
set_option maxHeartbeats 1000000 in
theorem bit_3_raw (a0 a1 a2 a3 i : Nat) (hi : i ≤ 255) (hq : (i : Int) / 64 = 3) (w : World) : Calls Try.prog 49 #[U4 a0 a1 a2 a3, .int .i64 i] w fun e w' => e = .returned (.int .u64 (bits .and .u64 ((a3 : Int) / 2 ^ (i % 64)) 1)) ∧ Below w.heap.size w w' := by
  go_enter Try.func49, Try.ntmps49
  go_wp2
  go_ret
  exact ⟨rfl, (by repeat (first | exact Below.refl _ _ | apply Below.drew | refine bel_alloc ?_ _))⟩
set_option maxRecDepth 100000 in
set_option maxHeartbeats 4000000 in
theorem rshr_raw (a0 a1 a2 a3 k : Nat) (hk : k ≤ 255) (p0 p1 p2 p3 c : Nat → Nat) (hc : ∀ j, c j < 2)
    (hB : Hid (∀ j : Nat, j + k < 256 → ∀ w, Calls Try.prog 49 #[U4 a0 a1 a2 a3, .int .i64 ((j : Int) + (k : Int))] w fun e w' => e = .returned (B (c j)) ∧ Below w.heap.size w w'))
    (Z : Hid (p0 0 = 0 ∧ p1 0 = 0 ∧ p2 0 = 0 ∧ p3 0 = 0))
    (g0 : Hid (∀ j : Nat, j + k < 256 → j / 64 = 0 → ((p0 (j + 1) : Nat) : Int) = (bits .or .u64 (p0 j) (IntKind.u64.wrap ((c j : Int) * 2 ^ (j % 64)))) ∧ p1 (j + 1) = p1 j ∧ p2 (j + 1) = p2 j ∧ p3 (j + 1) = p3 j))
    (g1 : Hid (∀ j : Nat, j + k < 256 → j / 64 = 1 → p0 (j + 1) = p0 j ∧ ((p1 (j + 1) : Nat) : Int) = (bits .or .u64 (p1 j) (IntKind.u64.wrap ((c j : Int) * 2 ^ (j % 64)))) ∧ p2 (j + 1) = p2 j ∧ p3 (j + 1) = p3 j))
    (g2 : Hid (∀ j : Nat, j + k < 256 → j / 64 = 2 → p0 (j + 1) = p0 j ∧ p1 (j + 1) = p1 j ∧ ((p2 (j + 1) : Nat) : Int) = (bits .or .u64 (p2 j) (IntKind.u64.wrap ((c j : Int) * 2 ^ (j % 64)))) ∧ p3 (j + 1) = p3 j))
    (g3 : Hid (∀ j : Nat, j + k < 256 → j / 64 = 3 → p0 (j + 1) = p0 j ∧ p1 (j + 1) = p1 j ∧ p2 (j + 1) = p2 j ∧ ((p3 (j + 1) : Nat) : Int) = (bits .or .u64 (p3 j) (IntKind.u64.wrap ((c j : Int) * 2 ^ (j % 64))))))
    (w : World) : Calls Try.prog 36 #[U4 a0 a1 a2 a3, B k] w fun e w' => e = .returned (U4 (p0 (256 - k)) (p1 (256 - k)) (p2 (256 - k)) (p3 (256 - k))) ∧ Below w.heap.size w w' := by
  go_enter Try.func36, Try.ntmps36
  go_wp2
  go_loopw [6] (fun i w' => ∃ j : Nat, (j + k ≤ 256) ∧ i = .int .i64 j ∧ w'.cell? ⟨w.heap.size, 0, none⟩ = some (B a0) ∧ w'.cell? ⟨w.heap.size, 1, none⟩ = some (B a1) ∧ w'.cell? ⟨w.heap.size, 2, none⟩ = some (B a2) ∧ w'.cell? ⟨w.heap.size, 3, none⟩ = some (B a3) ∧ w'.cell? ⟨w.heap.size + 1, 0, none⟩ = some (.int .u64 0) ∧ w'.cell? ⟨w.heap.size + 1, 1, none⟩ = some (.int .u64 0) ∧ w'.cell? ⟨w.heap.size + 1, 2, none⟩ = some (.int .u64 0) ∧ w'.cell? ⟨w.heap.size + 1, 3, none⟩ = some (.int .u64 0) ∧ w'.cell? ⟨w.heap.size + 1 + 1, 0, none⟩ = some (B (p0 j)) ∧ w'.cell? ⟨w.heap.size + 1 + 1, 1, none⟩ = some (B (p1 j)) ∧ w'.cell? ⟨w.heap.size + 1 + 1, 2, none⟩ = some (B (p2 j)) ∧ w'.cell? ⟨w.heap.size + 1 + 1, 3, none⟩ = some (B (p3 j)) ∧ (∀ o, w'.frozen? ⟨w.heap.size + 1, o, none⟩ = false) ∧ (∀ o, w'.frozen? ⟨w.heap.size + 1 + 1, o, none⟩ = false) ∧ w.heap.size + 1 + 1 < w'.heap.size ∧ Below w.heap.size w w') (fun i _ => 256 - (intOf i).toNat)
  case atStart =>
    obtain ⟨z0, z1, z2, z3⟩ := Z.out
    refine ⟨0, by omega, rfl, by go_simp, by go_simp, by go_simp, by go_simp, by go_simp, by go_simp, by go_simp, by go_simp, by rw [z0]; go_simp, by rw [z1]; go_simp, by rw [z2]; go_simp, by rw [z3]; go_simp, by intro o; go_simp, by intro o; go_simp, by simp, (by repeat (first | exact Below.refl _ _ | apply Below.drew | refine bel_alloc ?_ _))⟩
  case round =>
    obtain ⟨j, hj, rfl, x0, x1, x2, x3, r0, r1, r2, r3, o0, o1, o2, o3, fr, fo, hz, hbel⟩ := hrel
    rename_i wr _
    by_cases hlt : j + k < 256
    · have hcj := hc j
      have hcase : j / 64 = 0 ∨ j / 64 = 1 ∨ j / 64 = 2 ∨ j / 64 = 3 := by omega
      rcases hcase with hn | hn | hn | hn
      · have G := g0.out j hlt hn
        have HG : Hid _ := G
        clear G
        have hq : (j : Int) / 64 = 0 := by omega
        clear hn
        go_wp2
        have y0 := cell_regrown x0
        have y1 := cell_regrown x1
        have y2 := cell_regrown x2
        have y3 := cell_regrown x3
        have v0 := cell_regrown o0
        have v1 := cell_regrown o1
        have v2 := cell_regrown o2
        have v3 := cell_regrown o3
        refine wp_region_last_below (by kernel_rfl) (by kernel_rfl) (by simp) ?_
        simp only [List.dropLast]
        repeat (go_big_quiet_step (fail))
        go_big_quiet_step (exact Calls.regrown_of (hB.out j hlt _))
        repeat (go_big_quiet_step (fail))
        refine wpQuiet_nil ?_
        intro w' hw'
        obtain ⟨⟨dq, osq⟩, rfl⟩ := hw'
        have hbq := below_regrown wr dq osq
        clear y0 y1 y2 y3 v0 v1 v2 v3
        have cq : ∀ b o, b < wr.heap.size → (grow (redrawn wr dq) osq).cell? ⟨b, o, none⟩ = wr.cell? ⟨b, o, none⟩ := fun b o h => hbq.cell (p := ⟨b, o, none⟩) h
        have fq : ∀ b o, b < wr.heap.size → (grow (redrawn wr dq) osq).frozen? ⟨b, o, none⟩ = wr.frozen? ⟨b, o, none⟩ := fun b o h => hbq.frozen (p := ⟨b, o, none⟩) h
        have y0 := (cq _ _ hz).trans o0
        have y1 := (cq _ _ hz).trans o1
        have y2 := (cq _ _ hz).trans o2
        have y3 := (cq _ _ hz).trans o3
        have yf : ∀ o, (grow (redrawn wr dq) osq).frozen? ⟨w.heap.size + 1 + 1, o, none⟩ = false := fun o => (fq _ o hz).trans (fo o)
        have CQ : Hid _ := cq
        have FQ : Hid _ := fq
        clear cq fq
        generalize grow (redrawn wr dq) osq = w1 at *
        refine wpOp_plain rfl rfl ?_
        go_simp
        go_wp2
        have X0 := (CQ.out _ _ (show w.heap.size < wr.heap.size by omega)).trans x0
        have X1 := (CQ.out _ _ (show w.heap.size < wr.heap.size by omega)).trans x1
        have X2 := (CQ.out _ _ (show w.heap.size < wr.heap.size by omega)).trans x2
        have X3 := (CQ.out _ _ (show w.heap.size < wr.heap.size by omega)).trans x3
        have R0 := (CQ.out _ _ (show w.heap.size + 1 < wr.heap.size by omega)).trans r0
        have R1 := (CQ.out _ _ (show w.heap.size + 1 < wr.heap.size by omega)).trans r1
        have R2 := (CQ.out _ _ (show w.heap.size + 1 < wr.heap.size by omega)).trans r2
        have R3 := (CQ.out _ _ (show w.heap.size + 1 < wr.heap.size by omega)).trans r3
        have RF : ∀ o, w1.frozen? ⟨w.heap.size + 1, o, none⟩ = false := fun o => (FQ.out _ o (show w.heap.size + 1 < wr.heap.size by omega)).trans (fr o)
        have hsz := hbq.size
        go_roundw
        case rel =>
          obtain ⟨e0, e1, e2, e3⟩ := HG.out
          go_light
          exact ⟨j + 1, by omega, by go_num, (by go_simp), (by go_simp), (by go_simp), (by go_simp), (by go_simp), (by go_simp), (by go_simp), (by go_simp), (by simp only [B, e0]; go_simp), (by rw [e1]; go_simp), (by rw [e2]; go_simp), (by rw [e3]; go_simp), (by intro o; go_simp), (by intro o; go_simp), (by simp; omega), bel_set (bel_call hbel hbq) (by simp; omega) _⟩
        case measure => simp [intOf]; omega
      · have G := g1.out j hlt hn
        have HG : Hid _ := G
        clear G
        have hq : (j : Int) / 64 = 1 := by omega
        clear hn
        go_wp2
        have y0 := cell_regrown x0
        have y1 := cell_regrown x1
        have y2 := cell_regrown x2
        have y3 := cell_regrown x3
        have v0 := cell_regrown o0
        have v1 := cell_regrown o1
        have v2 := cell_regrown o2
        have v3 := cell_regrown o3
        refine wp_region_last_below (by kernel_rfl) (by kernel_rfl) (by simp) ?_
        simp only [List.dropLast]
        repeat (go_big_quiet_step (fail))
        go_big_quiet_step (exact Calls.regrown_of (hB.out j hlt _))
        repeat (go_big_quiet_step (fail))
        refine wpQuiet_nil ?_
        intro w' hw'
        obtain ⟨⟨dq, osq⟩, rfl⟩ := hw'
        have hbq := below_regrown wr dq osq
        clear y0 y1 y2 y3 v0 v1 v2 v3
        have cq : ∀ b o, b < wr.heap.size → (grow (redrawn wr dq) osq).cell? ⟨b, o, none⟩ = wr.cell? ⟨b, o, none⟩ := fun b o h => hbq.cell (p := ⟨b, o, none⟩) h
        have fq : ∀ b o, b < wr.heap.size → (grow (redrawn wr dq) osq).frozen? ⟨b, o, none⟩ = wr.frozen? ⟨b, o, none⟩ := fun b o h => hbq.frozen (p := ⟨b, o, none⟩) h
        have y0 := (cq _ _ hz).trans o0
        have y1 := (cq _ _ hz).trans o1
        have y2 := (cq _ _ hz).trans o2
        have y3 := (cq _ _ hz).trans o3
        have yf : ∀ o, (grow (redrawn wr dq) osq).frozen? ⟨w.heap.size + 1 + 1, o, none⟩ = false := fun o => (fq _ o hz).trans (fo o)
        have CQ : Hid _ := cq
        have FQ : Hid _ := fq
        clear cq fq
        generalize grow (redrawn wr dq) osq = w1 at *
        refine wpOp_plain rfl rfl ?_
        go_simp
        go_wp2
        have X0 := (CQ.out _ _ (show w.heap.size < wr.heap.size by omega)).trans x0
        have X1 := (CQ.out _ _ (show w.heap.size < wr.heap.size by omega)).trans x1
        have X2 := (CQ.out _ _ (show w.heap.size < wr.heap.size by omega)).trans x2
        have X3 := (CQ.out _ _ (show w.heap.size < wr.heap.size by omega)).trans x3
        have R0 := (CQ.out _ _ (show w.heap.size + 1 < wr.heap.size by omega)).trans r0
        have R1 := (CQ.out _ _ (show w.heap.size + 1 < wr.heap.size by omega)).trans r1
        have R2 := (CQ.out _ _ (show w.heap.size + 1 < wr.heap.size by omega)).trans r2
        have R3 := (CQ.out _ _ (show w.heap.size + 1 < wr.heap.size by omega)).trans r3
        have RF : ∀ o, w1.frozen? ⟨w.heap.size + 1, o, none⟩ = false := fun o => (FQ.out _ o (show w.heap.size + 1 < wr.heap.size by omega)).trans (fr o)
        have hsz := hbq.size
        go_roundw
        case rel =>
          obtain ⟨e0, e1, e2, e3⟩ := HG.out
          go_light
          exact ⟨j + 1, by omega, by go_num, (by go_simp), (by go_simp), (by go_simp), (by go_simp), (by go_simp), (by go_simp), (by go_simp), (by go_simp), (by rw [e0]; go_simp), (by simp only [B, e1]; go_simp), (by rw [e2]; go_simp), (by rw [e3]; go_simp), (by intro o; go_simp), (by intro o; go_simp), (by simp; omega), bel_set (bel_call hbel hbq) (by simp; omega) _⟩
        case measure => simp [intOf]; omega
      · have G := g2.out j hlt hn
        have HG : Hid _ := G
        clear G
        have hq : (j : Int) / 64 = 2 := by omega
        clear hn
        go_wp2
        have y0 := cell_regrown x0
        have y1 := cell_regrown x1
        have y2 := cell_regrown x2
        have y3 := cell_regrown x3
        have v0 := cell_regrown o0
        have v1 := cell_regrown o1
        have v2 := cell_regrown o2
        have v3 := cell_regrown o3
        refine wp_region_last_below (by kernel_rfl) (by kernel_rfl) (by simp) ?_
        simp only [List.dropLast]
        repeat (go_big_quiet_step (fail))
        go_big_quiet_step (exact Calls.regrown_of (hB.out j hlt _))
        repeat (go_big_quiet_step (fail))
        refine wpQuiet_nil ?_
        intro w' hw'
        obtain ⟨⟨dq, osq⟩, rfl⟩ := hw'
        have hbq := below_regrown wr dq osq
        clear y0 y1 y2 y3 v0 v1 v2 v3
        have cq : ∀ b o, b < wr.heap.size → (grow (redrawn wr dq) osq).cell? ⟨b, o, none⟩ = wr.cell? ⟨b, o, none⟩ := fun b o h => hbq.cell (p := ⟨b, o, none⟩) h
        have fq : ∀ b o, b < wr.heap.size → (grow (redrawn wr dq) osq).frozen? ⟨b, o, none⟩ = wr.frozen? ⟨b, o, none⟩ := fun b o h => hbq.frozen (p := ⟨b, o, none⟩) h
        have y0 := (cq _ _ hz).trans o0
        have y1 := (cq _ _ hz).trans o1
        have y2 := (cq _ _ hz).trans o2
        have y3 := (cq _ _ hz).trans o3
        have yf : ∀ o, (grow (redrawn wr dq) osq).frozen? ⟨w.heap.size + 1 + 1, o, none⟩ = false := fun o => (fq _ o hz).trans (fo o)
        have CQ : Hid _ := cq
        have FQ : Hid _ := fq
        clear cq fq
        generalize grow (redrawn wr dq) osq = w1 at *
        refine wpOp_plain rfl rfl ?_
        go_simp
        go_wp2
        have X0 := (CQ.out _ _ (show w.heap.size < wr.heap.size by omega)).trans x0
        have X1 := (CQ.out _ _ (show w.heap.size < wr.heap.size by omega)).trans x1
        have X2 := (CQ.out _ _ (show w.heap.size < wr.heap.size by omega)).trans x2
        have X3 := (CQ.out _ _ (show w.heap.size < wr.heap.size by omega)).trans x3
        have R0 := (CQ.out _ _ (show w.heap.size + 1 < wr.heap.size by omega)).trans r0
        have R1 := (CQ.out _ _ (show w.heap.size + 1 < wr.heap.size by omega)).trans r1
        have R2 := (CQ.out _ _ (show w.heap.size + 1 < wr.heap.size by omega)).trans r2
        have R3 := (CQ.out _ _ (show w.heap.size + 1 < wr.heap.size by omega)).trans r3
        have RF : ∀ o, w1.frozen? ⟨w.heap.size + 1, o, none⟩ = false := fun o => (FQ.out _ o (show w.heap.size + 1 < wr.heap.size by omega)).trans (fr o)
        have hsz := hbq.size
        go_roundw
        case rel =>
          obtain ⟨e0, e1, e2, e3⟩ := HG.out
          go_light
          exact ⟨j + 1, by omega, by go_num, (by go_simp), (by go_simp), (by go_simp), (by go_simp), (by go_simp), (by go_simp), (by go_simp), (by go_simp), (by rw [e0]; go_simp), (by rw [e1]; go_simp), (by simp only [B, e2]; go_simp), (by rw [e3]; go_simp), (by intro o; go_simp), (by intro o; go_simp), (by simp; omega), bel_set (bel_call hbel hbq) (by simp; omega) _⟩
        case measure => simp [intOf]; omega
      · have G := g3.out j hlt hn
        have HG : Hid _ := G
        clear G
        have hq : (j : Int) / 64 = 3 := by omega
        clear hn
        go_wp2
        have y0 := cell_regrown x0
        have y1 := cell_regrown x1
        have y2 := cell_regrown x2
        have y3 := cell_regrown x3
        have v0 := cell_regrown o0
        have v1 := cell_regrown o1
        have v2 := cell_regrown o2
        have v3 := cell_regrown o3
        refine wp_region_last_below (by kernel_rfl) (by kernel_rfl) (by simp) ?_
        simp only [List.dropLast]
        repeat (go_big_quiet_step (fail))
        go_big_quiet_step (exact Calls.regrown_of (hB.out j hlt _))
        repeat (go_big_quiet_step (fail))
        refine wpQuiet_nil ?_
        intro w' hw'
        obtain ⟨⟨dq, osq⟩, rfl⟩ := hw'
        have hbq := below_regrown wr dq osq
        clear y0 y1 y2 y3 v0 v1 v2 v3
        have cq : ∀ b o, b < wr.heap.size → (grow (redrawn wr dq) osq).cell? ⟨b, o, none⟩ = wr.cell? ⟨b, o, none⟩ := fun b o h => hbq.cell (p := ⟨b, o, none⟩) h
        have fq : ∀ b o, b < wr.heap.size → (grow (redrawn wr dq) osq).frozen? ⟨b, o, none⟩ = wr.frozen? ⟨b, o, none⟩ := fun b o h => hbq.frozen (p := ⟨b, o, none⟩) h
        have y0 := (cq _ _ hz).trans o0
        have y1 := (cq _ _ hz).trans o1
        have y2 := (cq _ _ hz).trans o2
        have y3 := (cq _ _ hz).trans o3
        have yf : ∀ o, (grow (redrawn wr dq) osq).frozen? ⟨w.heap.size + 1 + 1, o, none⟩ = false := fun o => (fq _ o hz).trans (fo o)
        have CQ : Hid _ := cq
        have FQ : Hid _ := fq
        clear cq fq
        generalize grow (redrawn wr dq) osq = w1 at *
        refine wpOp_plain rfl rfl ?_
        go_simp
        go_wp2
        have X0 := (CQ.out _ _ (show w.heap.size < wr.heap.size by omega)).trans x0
        have X1 := (CQ.out _ _ (show w.heap.size < wr.heap.size by omega)).trans x1
        have X2 := (CQ.out _ _ (show w.heap.size < wr.heap.size by omega)).trans x2
        have X3 := (CQ.out _ _ (show w.heap.size < wr.heap.size by omega)).trans x3
        have R0 := (CQ.out _ _ (show w.heap.size + 1 < wr.heap.size by omega)).trans r0
        have R1 := (CQ.out _ _ (show w.heap.size + 1 < wr.heap.size by omega)).trans r1
        have R2 := (CQ.out _ _ (show w.heap.size + 1 < wr.heap.size by omega)).trans r2
        have R3 := (CQ.out _ _ (show w.heap.size + 1 < wr.heap.size by omega)).trans r3
        have RF : ∀ o, w1.frozen? ⟨w.heap.size + 1, o, none⟩ = false := fun o => (FQ.out _ o (show w.heap.size + 1 < wr.heap.size by omega)).trans (fr o)
        have hsz := hbq.size
        go_roundw
        case rel =>
          obtain ⟨e0, e1, e2, e3⟩ := HG.out
          go_light
          exact ⟨j + 1, by omega, by go_num, (by go_simp), (by go_simp), (by go_simp), (by go_simp), (by go_simp), (by go_simp), (by go_simp), (by go_simp), (by rw [e0]; go_simp), (by rw [e1]; go_simp), (by rw [e2]; go_simp), (by simp only [B, e3]; go_simp), (by intro o; go_simp), (by intro o; go_simp), (by simp; omega), bel_set (bel_call hbel hbq) (by simp; omega) _⟩
        case measure => simp [intOf]; omega
    · have hjj : j = 256 - k := by omega
      go_wp2
      subst hjj
      exact bodyPost_ret (v := U4 (p0 (256 - k)) (p1 (256 - k)) (p2 (256 - k)) (p3 (256 - k))) (by simp [results, Try.results36, go_sem, r0, r1, r2, r3]) rfl ⟨rfl, by repeat (first | exact hbel | apply Below.drew | refine bel_set ?_ (by simp; try omega) _)⟩
end Go.Proofs.Ythbindnkichimaa
