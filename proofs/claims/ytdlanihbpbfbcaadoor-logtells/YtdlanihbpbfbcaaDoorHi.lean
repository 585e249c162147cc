/- The iterator of a text's blocks. -/
import Derived.RangeFuncNested
import Derived.RangeFuncBound
import Derived.RangeFuncCalls
import Derived.RangeFuncLeaves
import Derived.Shelf.Abstract
import Derived.Shelf.RegionOpen
import Derived.WalkKit
import Derived.OwnWalkIn
import Derived.TacticsInMore
import Derived.LoopNIn
import Derived.LoopIn
import Derived.Test.YtdlanihbpbfbcaaDoorHf
namespace Go.Proofs.YtdlanihbpbfbcaaDoor
open Go.RowKit Go.Shelf
set_option linter.unusedVariables false
attribute [local go_sem] Oper.semAt_some

theorem opIn_load {F : Fence} {n : Nat} {P : Program} {o : Oper} {a : Act} {w : World} {K : Act → World → Prop} {Q : Exit → Act → World → Prop} (ty : TypeId) (x : Operand) (ho : o.op = .load ty x)
    (g : Nat) (hx : a.eval x = .pointer (some ⟨g, 0, none⟩)) (k : IntKind) (m : Nat) (f : Nat → Nat) {e : TypeId} (hr : HasRow w g (ag k m f))
    (hu : P.underlying ty = some (.array m e)) (hi : (P.info? ty).map (·.size) = some m)
    (h : K (a.put o.dst (.agg (ag k m f))) w) : o.wpIn F n P a w K Q := by
  unfold Oper.wpIn
  refine ⟨by simp [Oper.about, ho], ?_⟩
  rw [Oper.semAt_plain F _ _ (by rw [ho]; intro c hc'; cases hc')]
  have hl := run_load_to (P := P) ty hu hi hr
  unfold execOp
  simp only [ho, hx, Instr.loadAt, Instr.sureAddr, Sem.run_bind, Sem.run_pure, Result.andThen_ok, hl]
  exact h

/-- What is left of a text behind m bytes. -/
def dr (s : ByteArray) (m : Nat) : ByteArray := s.extract m s.size
theorem dr_size (s : ByteArray) (m : Nat) : (dr s m).size = s.size - m := by unfold dr; rw [ByteArray.size_extract]; omega
theorem dr_data (s : ByteArray) (m : Nat) : (dr s m).data = s.data.extract m s.data.size := by
  unfold dr; rw [ByteArray.data_extract]; rfl
theorem dr_zero (s : ByteArray) : dr s 0 = s := by
  apply ByteArray.ext
  rw [dr_data]; simp
theorem dr_dr (s : ByteArray) (m k : Nat) : (dr s m).extract k (dr s m).size = dr s (m + k) := by
  apply ByteArray.ext
  rw [dr_data, ByteArray.data_extract, dr_data, Array.extract_extract, dr_size]
  have : s.size = s.data.size := rfl
  rw [this]
  congr 1
  omega
theorem bt_dr (s : ByteArray) (m i : Nat) : bt (dr s m) i = bt s (m + i) := by
  unfold bt
  congr 1
  rw [List.getD_eq_getElem?_getD, List.getD_eq_getElem?_getD, Array.getElem?_toList, Array.getElem?_toList, dr_data, Array.getElem?_extract]
  split
  · rfl
  · rw [Array.getElem?_eq_none (by omega)]
abbrev BA := { g : Nat → Nat // ∀ i, g i < 256 }
theorem fl_lt (s : ByteArray) (i : Nat) : fl s i < 256 := by
  unfold fl; split
  · split <;> decide
  · split
    · decide
    · split
      · exact bt_lt _ _
      · decide
def blk (s : ByteArray) (k : Nat) : BA := ⟨fun i => bt s (136 * k + i), fun i => bt_lt _ _⟩
def lst (s : ByteArray) : BA := ⟨fl s, fl_lt s⟩
/-- A text's blocks. -/
def full (s : ByteArray) (k : Nat) : List BA := (List.range k).map (blk s)
theorem full_succ (s : ByteArray) (k : Nat) : full s (k + 1) = full s k ++ [blk s k] := by simp [full, List.range_succ]
def blks (s : ByteArray) : List BA := full s (s.size / 136) ++ [lst (dr s (136 * (s.size / 136)))]
def strLen : Value → Nat
  | .string s => s.size
  | _ => 0

set_option maxRecDepth 100000 in
set_option maxHeartbeats 4000000 in
theorem blocks1_in (n : Nat) (hn : 1 ≤ n) (l Bs : Nat) (s : ByteArray) (J Jx : List BA → World → Prop)
    (hJa : ∀ pre W W', J pre W → Below W.heap.size W W' → J pre W')
    (hY : ∀ pre x W, J pre W → pre.length < s.size / 136 + 1 → YieldAt Fence.wide (n - 1) Tryd.prog l #[B136 x.1] W fun e W' =>
      (e = .returned (.bool true) ∧ J (pre ++ [x]) W' ∧ KeepsWalks W W') ∨ (e = .returned (.bool false) ∧ Jx (pre ++ [x]) W'))
    (W : World) (hBs : W.cell? ⟨Bs, 0, none⟩ = some (.string s)) (h0 : J [] W) :
    CallsIn Fence.wide n Tryd.prog 26 #[.func (.yield l) #[] #[], .pointer (some ⟨Bs, 0, none⟩)] W fun e W' => (∃ v, e = .returned v) ∧
      ((∃ ys, ys = blks s ∧ J ys W') ∨ (∃ pre, True ∧ Jx pre W')) := by
  have hz := fun w => zero31 w
  have HY : Hid _ := hY
  have HJa : Hid _ := hJa
  clear hY hJa
  refine callsIn_of_wp Tryd.func26 rfl trivial ?_ rfl
  simp only [Tryd.ntmps26, List.size_toArray, List.length_cons, List.length_nil, Nat.reduceAdd, Nat.reduceSub, Array.replicate_succ, Array.replicate_zero, List.push_toArray, List.append_toArray, List.nil_append, List.cons_append]
  gi_wp2
  gi_loopw [3] (fun p wr => ∃ k, k ≤ s.size / 136 ∧ p = .string (dr s (136 * k)) ∧ J (full s k) wr) (fun p _ => strLen p)
  case atStart =>
    exact ⟨0, Nat.zero_le _, by rw [Nat.mul_zero, dr_zero], h0⟩
  case round =>
    obtain ⟨k, hk, rfl, hJ⟩ := hrel
    have HJ : Hid (J (full s k) wr) := hJ
    clear hJ
    obtain ⟨lf, hlf⟩ : ∃ q, q = dr s (136 * k) := ⟨_, rfl⟩
    have hsz : lf.size = s.size - 136 * k := by rw [hlf]; exact dr_size s (136 * k)
    rw [← hlf]
    by_cases hlt : k < s.size / 136
    · have h136 : 136 ≤ lf.size := by omega
      have h136i : (136 : Int) ≤ (lf.size : Int) := by omega
      obtain ⟨bf, hbf⟩ : ∃ q : BA, q = blk s k := ⟨_, rfl⟩
      have hcp := copy_row (wr.alloc (Obj.cells (ag .u8 136 fun _ => 0) 46)) wr.heap.size 136 3 (fun _ => 0) lf (HasRow.last rfl)
      rw [show Nat.min lf.size 136 = 136 from Nat.min_eq_right h136] at hcp
      have e : ag .u8 136 (ov lf fun _ => 0) = ag .u8 136 bf.1 := ag_congr _ _ fun i hi => by
        unfold ov; rw [if_pos (by omega), hlf, hbf]; exact bt_dr s (136 * k) i
      rw [e] at hcp
      clear e
      obtain ⟨w1, hw1⟩ : ∃ q, q = (wr.alloc (Obj.cells (ag .u8 136 fun _ => 0) 46)).setRow wr.heap.size (ag .u8 136 bf.1) := ⟨_, rfl⟩
      rw [← hw1] at hcp
      have R1 : Hid (HasRow w1 wr.heap.size (ag .u8 136 bf.1)) := by show HasRow w1 _ _; rw [hw1]; exact (HasRow.last (c := ag .u8 136 fun _ => 0) (t := 46) rfl).set_same _
      have B1 : Below wr.heap.size wr w1 := by rw [hw1]; exact below_setRow (bel_alloc (Below.refl _ _) _) (Nat.le_refl _) _
      obtain ⟨fn, tmps, assign, body, hy, hR⟩ := HY.out (full s k) bf w1 (HJa.out _ _ _ HJ.out B1) (by simp [full]; omega)
      have HB : Hid (bf = blk s k ∧ lf = dr s (136 * k) ∧ k < s.size / 136) := ⟨hbf, hlf, hlt⟩
      clear hw1 B1 hbf hlf hlt hk hsz h136
      generalize bf.1 = g at *
      gi_wp2
      refine opIn_load 46 (.tmp 4) rfl wr.heap.size rfl .u8 136 g R1.out Tryd.underlying46 (by kernel_rfl) ?_
      gi_wp2
      refine hR.mono ?_
      rintro e W3 (⟨rfl, hJ3, hk3⟩ | ⟨rfl, hJx3⟩)
      · have HJ3 : Hid _ := hJ3
        clear hJ3 hk3 hy hR hcp
        gi_wp2
        go_roundw
        case rel =>
          obtain ⟨e1, e2, e3⟩ := HB.out
          refine ⟨k + 1, e3, ?_, ?_⟩
          · rw [e2, dr_dr, Nat.mul_succ]
          · rw [full_succ, ← e1]; exact HJ3.out
        case measure =>
          show (lf.extract 136 lf.size).size < lf.size
          rw [ByteArray.size_extract]; omega
      · gi_wp2
        refine bodyPost_ret (results_none rfl _ _ _) rfl ?_
        exact ⟨⟨_, rfl⟩, .inr ⟨_, trivial, hJx3⟩⟩
    · have hk2 : k = s.size / 136 := by omega
      have h136 : lf.size < 136 := by omega
      have h136i : ¬ (136 : Int) ≤ (lf.size : Int) := by omega
      have HC : Hid (∀ w, Calls Tryd.prog 27 #[.string lf] w fun e w' => e = .returned (B136 (fl lf)) ∧ Below w.heap.size w w') := fun w => filled_any lf h136 w
      have HB : Hid (k = s.size / 136 ∧ lf = dr s (136 * k)) := ⟨hk2, hlf⟩
      clear hk2 h136 hlf hlt hk hsz
      gi_wp2_with fail
      refine ⟨trivial, (callsIn_wide.2 (HC.out _)).mono ?_⟩
      rintro e w1 ⟨rfl, hb1⟩
      obtain ⟨fn, tmps, assign, body, hy, hR⟩ := HY.out (full s k) (lst lf) w1 (HJa.out _ _ _ HJ.out hb1) (by have := HB.out.1; simp [full]; omega)
      dsimp only [lst] at hy
      clear hb1
      gi_wp2
      refine hR.mono ?_
      rintro e W3 (⟨rfl, hJ3, hk3⟩ | ⟨rfl, hJx3⟩)
      · gi_wp2
        go_end0
        refine ⟨⟨_, rfl⟩, .inl ⟨_, rfl, ?_⟩⟩
        obtain ⟨e1, e2⟩ := HB.out
        unfold blks
        rw [← e1, ← e2]
        exact hJ3
      · gi_wp2
        go_end0
        exact ⟨⟨_, rfl⟩, .inr ⟨_, trivial, hJx3⟩⟩
end Go.Proofs.YtdlanihbpbfbcaaDoor
