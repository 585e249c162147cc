/- Contracts of the steps of the long division: the divisor taken off, put back, a digit guessed. -/
import Derived.Test.YtbfgeinneglpdaaAn
import Derived.Test.YtbfgeinneglpdaaRw
import Derived.Deep.Draws
import Derived.WalkSmall
import Derived.BigRegion
import Derived.Deep.Cut
namespace Go.Proofs.Ytbfgeinneglpdaa
open Go.RowKit
set_option linter.unusedVariables false
abbrev L17 (f : Nat → Nat) : Value := .agg (ag .u32 17 f)
abbrev L8 (f : Nat → Nat) : Value := .agg (ag .u32 8 f)
abbrev z17 : Array Value := #[.int .u32 0, .int .u32 0, .int .u32 0, .int .u32 0, .int .u32 0, .int .u32 0, .int .u32 0, .int .u32 0, .int .u32 0, .int .u32 0, .int .u32 0, .int .u32 0, .int .u32 0, .int .u32 0, .int .u32 0, .int .u32 0, .int .u32 0]
theorem ag17 (h : Nat → Nat) : ag .u32 17 h = #[.int .u32 (h 0 : Nat), .int .u32 (h 1 : Nat), .int .u32 (h 2 : Nat), .int .u32 (h 3 : Nat), .int .u32 (h 4 : Nat), .int .u32 (h 5 : Nat), .int .u32 (h 6 : Nat), .int .u32 (h 7 : Nat), .int .u32 (h 8 : Nat), .int .u32 (h 9 : Nat), .int .u32 (h 10 : Nat), .int .u32 (h 11 : Nat), .int .u32 (h 12 : Nat), .int .u32 (h 13 : Nat), .int .u32 (h 14 : Nat), .int .u32 (h 15 : Nat), .int .u32 (h 16 : Nat)] := rfl
theorem ag8 (h : Nat → Nat) : ag .u32 8 h = #[.int .u32 (h 0 : Nat), .int .u32 (h 1 : Nat), .int .u32 (h 2 : Nat), .int .u32 (h 3 : Nat), .int .u32 (h 4 : Nat), .int .u32 (h 5 : Nat), .int .u32 (h 6 : Nat), .int .u32 (h 7 : Nat)] := rfl

structure TK (f f' g : Nat → Nat) (d k j c b : Nat) : Prop where
  hc : c < D
  hb : b ≤ 1
  hf : ∀ i, i < 17 → f' i < D
  ho : ∀ i, i < k ∨ k + j ≤ i → f' i = f i
  hv : vl f' k j + d * vl g 0 j = vl f k j + (c + b) * D ^ j
theorem TK.start {f g : Nat → Nat} {d k : Nat} (hf : ∀ i, i < 17 → f i < D) : TK f f g d k 0 0 0 :=
  ⟨D_pos, Nat.zero_le _, hf, fun _ _ => rfl, by simp [vl]⟩
theorem TK.step {f f' g : Nat → Nat} {d k j c b x b' : Nat} (h : TK f f' g d k j c b) (hx : x < D) (hb' : b' ≤ 1) (hc' : (c + d * g j) / D < D)
    (e : x + (c + d * g j) % D + b = f' (k + j) + D * b') : TK f (upd f' (k + j) x) g d k (j + 1) ((c + d * g j) / D) b' where
  hc := hc'
  hb := hb'
  hf := upd_lt h.hf hx
  ho i hi := by rw [upd_other _ _ _ (by omega)]; exact h.ho i (by omega)
  hv := take_step h.hv (by rw [e, h.ho (k + j) (by omega)])
/-- What is left behind all steps: the divisor is taken off digit times, with a borrow t at the top. -/
structure TO (f f' g : Nat → Nat) (d k n t : Nat) : Prop where
  hf : ∀ i, i < 17 → f' i < D
  ho : ∀ i, i < k ∨ k + n < i → f' i = f i
  hv : vl f' k (n + 1) + d * vl g 0 n = vl f k (n + 1) + t * D ^ (n + 1)
theorem TK.stop {f f' g : Nat → Nat} {d k n c b x t : Nat} (h : TK f f' g d k n c b) (hx : x < D)
    (e : x + c + b = f' (k + n) + D * t) : TO f (upd f' (k + n) x) g d k n t where
  hf := upd_lt h.hf hx
  ho i hi := by rw [upd_other _ _ _ (by omega)]; exact h.ho i (by omega)
  hv := take_end h.hv (by rw [← h.ho (k + n) (by omega)]; omega)

set_option maxRecDepth 100000 in
set_option maxHeartbeats 4000000 in
theorem take_raw (f g : Nat → Nat) (d k n : Nat) (hn : n ≤ 8) (hk : k + n < 17) (hd : d < D) (hf : ∀ i, i < 17 → f i < D) (hg : ∀ i, i < 8 → g i < D) (w : World) :
    Calls Try.prog 62 #[L17 f, L8 g, B d, .int .i64 (k : Int), .int .i64 (n : Int)] w fun e w' =>
      (∃ f' t, e = .returned (.tuple #[L17 f', .bool (decide (t = 0))]) ∧ t ≤ 1 ∧ TO f f' g d k n t) ∧ Below w.heap.size w w' := by
  have S : Hid (TK f f g d k 0 0 0) := TK.start hf
  have G : Hid (d < D ∧ ∀ i, i < 8 → g i < D) := ⟨hd, hg⟩
  clear hf hd hg
  go_enter Try.func62, Try.ntmps62
  go_wp2
  go_loopw [12, 13, 18] (fun c b i w' => ∃ (j cn bn : Nat) (f' : Nat → Nat), j ≤ n ∧ i = .int .i64 (j : Int) ∧ c = B cn ∧ b = B bn ∧ w' = (((w.alloc (Obj.cells (ag IntKind.u32 17 f') 69)).alloc (Obj.cells (ag IntKind.u32 8 g) 66)).alloc
      (Obj.cells z17 69)) ∧ TK f f' g d k j cn bn) (fun _ _ i _ => n - (intOf i).toNat)
  case atStart =>
    exact ⟨0, 0, 0, f, Nat.zero_le _, rfl, rfl, rfl, rfl, S.out⟩
  case round =>
    obtain ⟨j, cn, bn, f', hj, rfl, rfl, rfl, rfl, hT⟩ := hrel
    have HT : Hid _ := hT
    clear hT
    by_cases hlt : j < n
    · have hc1 : (ag .u32 17 f')[k + j]? = some (.int .u32 (f' (k + j) : Nat)) := by rw [ag_get, if_pos (by omega)]
      have hc2 : (ag .u32 8 g)[j]? = some (.int .u32 (g j : Nat)) := by rw [ag_get, if_pos (by omega)]
      go_wp2
      go_roundw
      case rel =>
        have T := HT.out
        obtain ⟨gd, gg⟩ := G.out
        obtain ⟨e1, e2, e3⟩ := num_mul T.hc gd (gg j (by omega))
        obtain ⟨y, e4, e5, e6⟩ := num_less (T.hf (k + j) (by omega)) (Nat.mod_lt (cn + d * g j) D_pos) T.hb
        refine ⟨j + 1, (cn + d * g j) / D, y / 9223372036854775808, upd f' (k + j) (y % D), by omega, by go_num, ?_, ?_, ?_, T.step (Nat.mod_lt _ D_pos) e6 e3 e5⟩
        · rw [e1, cast_div]
        · rw [e1, num_and e2, e4, cast_div63]
        · rw [e1, num_and e2, e4, cast_mod, ag_set]
      case measure => simp [intOf]; omega
    · have hjn : j = n := by omega
      subst hjn
      have hc1 : (ag .u32 17 f')[k + j]? = some (.int .u32 (f' (k + j) : Nat)) := by rw [ag_get, if_pos (by omega)]
      go_upto_region 13 with fail
      have T := HT.out
      obtain ⟨y, e4, e5, e6⟩ := num_less (T.hf (k + j) (by omega)) T.hc T.hb
      rw [e4, cast_mod, ag_set]
      have F : Hid (TO f (upd f' (k + j) (y % D)) g d k j (y / 9223372036854775808)) := T.stop (Nat.mod_lt _ D_pos) e5
      have E6 : Hid (y / 9223372036854775808 ≤ 1) := e6
      clear e4 e5 e6 T HT hc1 S
      generalize upd f' (k + j) (y % D) = h at *
      refine wp_region_lit ?_
      refine wpList_vload rfl 69 (.tmp 5) rfl w.heap.size rfl .u32 17 h (HasRow.old (HasRow.old (HasRow.last rfl))) Try.underlying69 (by kernel_rfl) ?_
      intro v hv
      have HV : Hid _ := hv
      have hsz := hv.size
      have hsc := run_storeCells_v (P := Try.prog) hv (g := w.heap.size + 1 + 1) 69 (by kernel_rfl) (StoreTo.last (w := (w.alloc (Obj.cells (ag IntKind.u32 17 h) 69)).alloc (Obj.cells (ag IntKind.u32 8 g) 66)) (c := z17) (t := 69) (by simp) (by rfl))
      clear hv
      go_wp2
      have hld := run_load_to (P := Try.prog) (k := .u32) (f := h) 69 Try.underlying69 (by kernel_rfl) (HasRow.last (w := (w.alloc (Obj.cells (ag IntKind.u32 17 h) 69)).alloc (Obj.cells (ag IntKind.u32 8 g) 66)) (t := 69) (n := w.heap.size + 1 + 1) (by simp))
      refine bodyPost_ret (v := .tuple #[L17 h, .bool (decide (y / 9223372036854775808 = 0))]) ?_ rfl ⟨⟨h, _, rfl, E6.out, F.out⟩, ?_⟩
      · rw [results_cell_tmp rfl]
        simp [asAddr, Result.andThen, hld]
        rw [Bool.eq_iff_iff]
        simp
        omega
      · (repeat (first | exact Below.refl _ _ | apply Below.drew | refine bel_alloc ?_ _))
end Go.Proofs.Ytbfgeinneglpdaa
