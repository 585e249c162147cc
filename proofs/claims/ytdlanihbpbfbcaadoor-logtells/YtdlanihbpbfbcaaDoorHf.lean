/- Contract of filled. -/
import Derived.Test.YtdlanihbpbfbcaaDoorHk
import Derived.Lib.BufferWrite
namespace Go.Proofs.YtdlanihbpbfbcaaDoor
open Go.RowKit Go.Lib
set_option linter.unusedVariables false
theorem zero31 (w : World) : (zeroValue 46).run Tryd.prog w = .ok (B136 (fun _ => 0)) w := by kernel_rfl
/-- The byte of a text at a place; nought behind its end. -/
def bt (s : ByteArray) (i : Nat) : Nat := (s.data.toList.getD i 0).toNat
theorem bt_lt (s : ByteArray) (i : Nat) : bt s i < 256 := UInt8.toNat_lt _
/-- A text laid over the head of a row. -/
def ov (s : ByteArray) (q : Nat → Nat) (i : Nat) : Nat := if i < s.size then bt s i else q i
theorem copy_row (w : World) (g n ty : Nat) (q : Nat → Nat) (s : ByteArray) (h : HasRow w g (ag .u8 n q)) :
    (Builtin.copy_ #[41, 9] ty #[.slice (some ⟨g, 0, none⟩) n n, .string s]).run Tryd.prog w = .ok (.int .i64 (Nat.min s.size n : Nat)) (w.setRow g (ag .u8 n (ov s q))) := by
  obtain ⟨t, hg⟩ := h
  have hsz : s.data.toList.length = s.size := (Go.Lib.size_eq s).symm
  have hst := run_storeCells_at Tryd.prog g 0 t ((s.data.toList.map fun b : UInt8 => Value.int IntKind.u8 (b.toNat : Int)).take (Nat.min s.size n)) 0 (ag .u8 n q) w hg
    (by rw [List.length_take, List.length_map, hsz, ag_size]; simp only [Nat.min_def]; split <;> split <;> omega)
    (fun v hv => by
      have hv' := List.mem_of_mem_take hv
      obtain ⟨b, _, rfl⟩ := List.mem_map.1 hv'
      rfl)
  have hrow : ((ag .u8 n q).toList.take (0 + 0) ++ (s.data.toList.map fun b : UInt8 => Value.int IntKind.u8 (b.toNat : Int)).take (Nat.min s.size n) ++ (ag .u8 n q).toList.drop (0 + 0 + ((s.data.toList.map fun b : UInt8 => Value.int IntKind.u8 (b.toNat : Int)).take (Nat.min s.size n)).length)).toArray = ag .u8 n (ov s q) := by
    apply Array.ext_getElem?
    intro i
    have hlen : ((s.data.toList.map fun b : UInt8 => Value.int IntKind.u8 (b.toNat : Int)).take (Nat.min s.size n)).length = Nat.min s.size n := by
      rw [List.length_take, List.length_map, hsz]; simp only [Nat.min_def]; split <;> split <;> omega
    rw [hlen, ag_get]
    simp only [Nat.add_zero, Nat.zero_add, List.take_zero, List.nil_append, List.getElem?_toArray, List.getElem?_append, hlen]
    unfold ov
    by_cases h1 : i < Nat.min s.size n
    · have h2 : i < n := Nat.lt_of_lt_of_le h1 (Nat.min_le_right _ _)
      have h3 : i < s.size := Nat.lt_of_lt_of_le h1 (Nat.min_le_left _ _)
      rw [if_pos h1, if_pos h2, if_pos h3, List.getElem?_take, if_pos h1, List.getElem?_map]
      have h4 : i < s.data.toList.length := by omega
      unfold bt
      rw [List.getD_eq_getElem?_getD, List.getElem?_eq_getElem h4]
      rfl
    · rw [if_neg h1, List.getElem?_drop, show Nat.min s.size n + (i - Nat.min s.size n) = i by omega, Array.getElem?_toList, ag_get]
      by_cases h2 : i < n
      · have h3 : ¬ i < s.size := fun h => h1 (by simp only [Nat.min_def]; split <;> omega)
        rw [if_pos h2, if_pos h2, if_neg h3]
      · rw [if_neg h2, if_neg h2]
  rw [hrow] at hst
  have hs : (Tryd.prog.info? 5).map (·.size) = some 1 := by kernel_rfl
  cases hq : Tryd.prog.info? 5 with
  | none => simp [hq] at hs
  | some i =>
    simp [Builtin.copy_, run_underlying Tryd.underlying41, Builtin.lenOf, Builtin.firstCells, sizeOf, typeInfo, hq]
    rw [hst]
    simp [Result.andThen, goInt]

/-- The last block of a text that is shorter than one. -/
def fl (s : ByteArray) (i : Nat) : Nat := if i = 135 then (if 135 = s.size then 129 else 128) else if i = s.size then 1 else if i < s.size then bt s i else 0
theorem or128 : ∀ x : Nat, x < 256 → bits .or .u8 (x : Int) 128 = ((x ||| 128 : Nat) : Int) := by decide +kernel

set_option maxRecDepth 100000 in
set_option maxHeartbeats 4000000 in
theorem filled_any (s : ByteArray) (hs : s.size < 136) (w : World) : Calls Tryd.prog 27 #[.string s] w fun e w' => e = .returned (B136 (fl s)) ∧ Below w.heap.size w w' := by
  obtain ⟨h', hh⟩ : ∃ q, q = fl s := ⟨_, rfl⟩
  rw [← hh]
  have HH : Hid _ := hh
  clear hh
  have hz := fun w => zero31 w
  have HS : Hid (s.size < 136) := hs
  have i0 : (s.size : Int) < 136 := by omega
  clear hs
  go_enter Tryd.func27, Tryd.ntmps27
  go_upto_region 2 with fail
  refine name_world _ ?_
  intro w0 hw0
  have K1 : Hid (HasRow w0 w.heap.size (ag .u8 136 (fun _ => 0)) ∧ HasRow w0 (w.heap.size + 1) (ag .u8 136 (fun _ => 0)) ∧ Below w.heap.size w w0) := by
    show _ ∧ _
    rw [hw0]
    exact ⟨HasRow.old (HasRow.last rfl), HasRow.last (by simp), by repeat (first | exact Below.refl _ _ | refine bel_alloc ?_ _)⟩
  clear hw0 hz
  have hcp := copy_row w0 (w.heap.size + 1) 136 3 (fun _ => 0) s K1.out.2.1
  rw [show Nat.min s.size 136 = s.size from Nat.min_eq_left (by have := HS.out; omega)] at hcp
  go_upto_region 3 with fail
  refine name_world _ ?_
  intro w1 hw1
  have K2 : Hid (HasRow w1 w.heap.size (ag .u8 136 (fun _ => 0)) ∧ HasRow w1 (w.heap.size + 1) (ag .u8 136 (ov s fun _ => 0)) ∧ Below w.heap.size w w1) := by
    show _ ∧ _
    rw [hw1]
    exact ⟨K1.out.1.set_other _ (by omega), K1.out.2.1.set_same _, below_setRow K1.out.2.2 (by omega) _⟩
  clear hw1 hcp K1
  have q1 := HasRow.at K2.out.2.1 HS.out
  have q2 := HasRow.frozen K2.out.2.1 s.size
  go_upto_region 4 with fail
  refine name_world _ ?_
  intro w2 hw2
  obtain ⟨g2, hg2⟩ : ∃ q, q = upd (ov s fun _ => 0) s.size 1 := ⟨_, rfl⟩
  have K3 : Hid (HasRow w2 w.heap.size (ag .u8 136 (fun _ => 0)) ∧ HasRow w2 (w.heap.size + 1) (ag .u8 136 g2) ∧ Below w.heap.size w w2) := by
    show _ ∧ _
    rw [hw2, HasRow.setCell K2.out.2.1, hg2, ← ag_set]
    exact ⟨K2.out.1.set_other _ (by omega), K2.out.2.1.set_same _, below_setRow K2.out.2.2 (by omega) _⟩
  have HG2 : Hid _ := hg2
  clear hw2 K2 q1 q2 hg2
  have g256 : g2 135 < 256 := by rw [HG2.out, upd_at]; split; · decide
                                 unfold ov; split; · exact bt_lt _ _
                                 decide
  have q1 := HasRow.at K3.out.2.1 (show 135 < 136 by omega)
  have q2 := HasRow.frozen K3.out.2.1 135
  have E : Hid _ := or128 (g2 135) g256
  clear g256
  go_upto_region 5 with fail
  rw [E.out]
  refine name_world _ ?_
  intro w3 hw3
  have K4 : Hid (HasRow w3 w.heap.size (ag .u8 136 (fun _ => 0)) ∧ HasRow w3 (w.heap.size + 1) (ag .u8 136 h') ∧ Below w.heap.size w w3) := by
    have e : ag .u8 136 (upd g2 135 (g2 135 ||| 128)) = ag .u8 136 h' := ag_congr _ _ fun i hi => by
      have hs := HS.out
      rw [HH.out, HG2.out, upd_at]
      unfold fl
      by_cases e1 : i = 135
      · rw [if_pos e1, if_pos e1, upd_at]
        by_cases e2 : 135 = s.size
        · rw [if_pos e2, if_pos e2]; rfl
        · rw [if_neg e2, if_neg e2]; unfold ov; rw [if_neg (by omega)]; rfl
      · rw [if_neg e1, if_neg e1, upd_at]
        by_cases e2 : i = s.size
        · rw [if_pos e2, if_pos e2]
        · rw [if_neg e2, if_neg e2]; rfl
    show _ ∧ _
    rw [hw3, HasRow.setCell K3.out.2.1, ag_set, e]
    exact ⟨K3.out.1.set_other _ (by omega), K3.out.2.1.set_same _, below_setRow K3.out.2.2 (by omega) _⟩
  clear hw3 K3 q1 q2 E
  refine wp_region_lit ?_
  refine wpList_vload rfl 46 (.tmp 3) rfl (w.heap.size + 1) rfl .u8 136 h' K4.out.2.1 Tryd.underlying46 (by kernel_rfl) ?_
  intro v hv
  have hsz := hv.size
  have hsc := run_storeCells_v (P := Tryd.prog) hv (g := w.heap.size) 46 (by kernel_rfl) (StoreTo.row K4.out.1 (ag_size _ _ _))
  clear hv
  go_wp2
  exact bodyPost_ret (v := B136 h') (results_cell1 (p := 2) (ty := 46) rfl (g := w.heap.size) rfl (HasRow.set_same K4.out.1 (ag .u8 136 h')) (ag_size _ _ _) Tryd.underlying46 (by kernel_rfl)) rfl ⟨rfl, below_setRow K4.out.2.2 (Nat.le_refl _) _⟩
end Go.Proofs.YtdlanihbpbfbcaaDoor
