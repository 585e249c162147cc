/- Raw walks of loops, over letters. -/
import Derived.Test.YtpdoonofipcbeaaDoorXsMC
import Derived.Test.YtpdoonofipcbeaaDoorXsQc
import Derived.Test.YtpdoonofipcbeaaDoorXsEq
import Derived.WalkSmall
import Derived.Deep.Cut
import Derived.Deep.Light
namespace Go.Proofs.YtpdoonofipcbeaaDoor
open Go.RowKit Go.Sort
set_option linter.unusedVariables false
set_option maxRecDepth 100000 in
set_option maxHeartbeats 4000000 in
theorem power_raw (A O : Nat → Nat) (bt : Nat → Bool) (e n : Nat) (hN : n ≤ 256)
    (h1 : Does 31 #[(.int .u64 1)] (U (O 0))) (hn : Does 70 #[U e] (.int .i64 (n : Int))) (hb : ∀ i, i < n → Does 71 #[U e, .int .i64 (i : Int)] (.bool (bt i)))
    (hA : ∀ i, Does 67 #[U (A i), U (A i)] (U (A (i + 1)))) (hO : ∀ i, i < n → bt i = true → Does 67 #[U (O i), U (A i)] (U (O (i + 1)))) (hO2 : ∀ i, i < n → bt i = false → O (i + 1) = O i)
    (w : World) : Calls Tryd.prog 84 #[(U (A 0)), (U e)] w fun e w' => e = .returned (U (O n)) ∧ Below w.heap.size w w' := by
  go_enter Tryd.func84, Tryd.ntmps84
  go_upto_region 1 with fail
  refine name_world _ ?_
  intro wF hF0
  have RR : Hid (RB w wF [(w.heap.size + 1 + 1, Zr), (w.heap.size + 1, (Ar e)), (w.heap.size, (Ar (A 0)))]) := by rw [hF0]; exact (rbN (rbN (rbN (rb0 w) (by simp)) (by simp)) (by simp))
  clear hF0
  obtain ⟨q2, q1, q0, qT⟩ := RR.out.r.lts
  refine wp_region_told (by kernel_rfl) (by kernel_rfl) (by kernel_rfl) [(w.heap.size, (Ar (A 0))), (w.heap.size + 1, (Ar e)), (w.heap.size + 1 + 1, Zr)]
    [sV (U (O 0)),
     sA (fun g => .pointer (some ⟨g, 0, none⟩)) 2 Zr (Ar (O 0)),
     sS 1]
    (by kernel_rfl) RR.out.b (RowsAt.cons (RR.out.at 2 rfl) (RowsAt.cons (RR.out.at 1 rfl) (RowsAt.cons (RR.out.at 0 rfl) RowsAt.nil))) (StOk.of [] rfl StM.nil)
    (Obs.val (fun a' w' E => ob_fcall 31 _ _ rfl (am1 (evc a' (.int .u64 1))) (fc31 _ _) (h1.out w'))
    (Obs.alloc (fun a' w' E => ob_alloc (t := 24) (by simp [opAt, execOp, go_sem]))
    (Obs.sta rfl (fun a' w' g E ha hr => ob_storea 24 (.tmp 5) (.tmp 7) rfl (ha 5 (by kernel_rfl)) (E.new (v := (U (O 0))) 7 0 (by kernel_rfl) rfl) rfl hr (by kernel_rfl) (Nat.le_of_ble_eq_true rfl) (by kernel_rfl) rfl)
    Obs.nil))) ?_
  intro bs w1 aZ haZ F
  have eZ : aZ = ({ tmps := #[(U (A 0)), (U e), (PT w.heap.size), (PT (w.heap.size + 1)), (PT (w.heap.size + 1 + 1)), (PT ((bs 1))), undef, (U (O 0)), undef, undef, undef, undef, undef, undef, undef, undef, undef, undef, undef, undef, undef, undef, undef, undef], defers := [] } : Act) := haZ.trans (by kernel_rfl)
  subst eZ
  clear haZ
  obtain ⟨h1, X1⟩ := F.al 1 rfl rfl
  replace RR : Hid (RB w w1 [((bs 1), (Ar (O 0))), (w.heap.size + 1 + 1, Zr), (w.heap.size + 1, (Ar e)), (w.heap.size, (Ar (A 0)))]) := ⟨F.bw, (RowsAt.cons X1 (RowsAt.cons (F.row 2 rfl) (RowsAt.cons (F.row 1 rfl) (RowsAt.cons (F.row 0 rfl) RowsAt.nil))))⟩
  generalize bs 1 = g1_1 at *
  have k1_1_0 := Nat.lt_of_lt_of_le q0 h1
  have k1_1_1 := Nat.lt_of_lt_of_le q1 h1
  have k1_1_2 := Nat.lt_of_lt_of_le q2 h1
  clear F qT q0 q1 q2 h1 X1
  clear wF
  go_upto_region 2 with fail
  obtain ⟨q3, q2, q1, q0, qT⟩ := RR.out.r.lts
  refine wp_region_told (by kernel_rfl) (by kernel_rfl) (by kernel_rfl) [(w.heap.size, (Ar (A 0))), (w.heap.size + 1, (Ar e)), (w.heap.size + 1 + 1, Zr), (g1_1, (Ar (O 0)))]
    [sV (U e),
     sV (.int .i64 n),
     sV (.int .i64 0)]
    (by kernel_rfl) RR.out.b (RowsAt.cons (RR.out.at 3 rfl) (RowsAt.cons (RR.out.at 2 rfl) (RowsAt.cons (RR.out.at 1 rfl) (RowsAt.cons (RR.out.at 0 rfl) RowsAt.nil)))) (StOk.of [] rfl StM.nil)
    (Obs.val (fun a' w' E => ob_loada 24 (.tmp 3) rfl (E.old 3 (by kernel_rfl)) (E.row (g := w.heap.size + 1) (c := (Ar e)) 1 rfl) Tryd.underlying24 rfl (by kernel_rfl) rfl)
    (Obs.val (fun a' w' E => ob_fcall 70 _ _ rfl (am1 (E.new (v := (U e)) 8 0 (by kernel_rfl) rfl)) (fc70 _ _) (hn.out w'))
    (Obs.val (fun a' w' E => ob_move (.const (.int .i64 0)) rfl (evc a' (.int .i64 0)))
    Obs.nil))) ?_
  intro bs w2 aZ haZ F
  have eZ : aZ = ({ tmps := #[(U (A 0)), (U e), (PT w.heap.size), (PT (w.heap.size + 1)), (PT (w.heap.size + 1 + 1)), (PT g1_1), undef, (U (O 0)), (U e), (.int .i64 n), (.int .i64 0), undef, undef, undef, undef, undef, undef, undef, undef, undef, undef, undef, undef, undef], defers := [] } : Act) := haZ.trans (by kernel_rfl)
  subst eZ
  clear haZ
  replace RR : Hid (RB w w2 [(g1_1, (Ar (O 0))), (w.heap.size + 1 + 1, Zr), (w.heap.size + 1, (Ar e)), (w.heap.size, (Ar (A 0)))]) := ⟨F.bw, (RowsAt.cons (F.row 3 rfl) (RowsAt.cons (F.row 2 rfl) (RowsAt.cons (F.row 1 rfl) (RowsAt.cons (F.row 0 rfl) RowsAt.nil))))⟩
  clear F qT q0 q1 q2 q3
  go_wp2
  go_loopw [10] (fun v w' => ∃ i : Nat, i ≤ n ∧ v = .int .i64 (i : Int) ∧ RB w w' [(g1_1, (Ar (O i))), (w.heap.size + 1 + 1, Zr), (w.heap.size + 1, (Ar e)), (w.heap.size, (Ar (A i)))]) (fun v _ => n - (intOf v).toNat)
  case atStart => exact ⟨0, Nat.zero_le _, rfl, RR.out⟩
  case round =>
    clear RR
    obtain ⟨i, hi, rfl, rr⟩ := hrel
    have RR : Hid (RB w wr [(g1_1, (Ar (O i))), (w.heap.size + 1 + 1, Zr), (w.heap.size + 1, (Ar e)), (w.heap.size, (Ar (A i)))]) := rr
    clear rr
    by_cases hlt : i < n
    · have hd : (i : Int) < (n : Int) := by omega
      have hd2 : ¬ (n : Int) ≤ (i : Int) := by omega
      have hd3 : (i : Int) < 256 := by omega
      go_upto_region 5 with fail
      obtain ⟨q3, q2, q1, q0, qT⟩ := RR.out.r.lts
      refine wp_region_told (by kernel_rfl) (by kernel_rfl) (by kernel_rfl) [(w.heap.size, (Ar (A i))), (w.heap.size + 1, (Ar e)), (w.heap.size + 1 + 1, Zr), (g1_1, (Ar (O i)))]
        [sV (U e),
         sV (.int .i64 i),
         sV (.bool (bt i))]
        (by kernel_rfl) RR.out.b (RowsAt.cons (RR.out.at 3 rfl) (RowsAt.cons (RR.out.at 2 rfl) (RowsAt.cons (RR.out.at 1 rfl) (RowsAt.cons (RR.out.at 0 rfl) RowsAt.nil)))) (StOk.of [] rfl StM.nil)
        (Obs.val (fun a' w' E => ob_loada 24 (.tmp 3) rfl (E.old 3 (by kernel_rfl)) (E.row (g := w.heap.size + 1) (c := (Ar e)) 1 rfl) Tryd.underlying24 rfl (by kernel_rfl) rfl)
        (Obs.val (fun a' w' E => ob_move (.tmp 6) rfl (E.old 6 (by kernel_rfl)))
        (Obs.val (fun a' w' E => ob_fcall 71 _ _ rfl (am2 (E.new (v := (U e)) 13 0 (by kernel_rfl) rfl) (E.new (v := (.int .i64 i)) 14 1 (by kernel_rfl) rfl)) (fc71 _ _) ((hb i hlt).out w'))
        Obs.nil))) ?_
      intro bs w3 aZ haZ F
      have eZ : aZ = ({ tmps := #[(U (A 0)), (U e), (PT w.heap.size), (PT (w.heap.size + 1)), (PT (w.heap.size + 1 + 1)), (PT g1_1), (.int .i64 i), (U (O 0)), (U e), (.int .i64 n), (.int .i64 i), (.bool true), (.int .i64 i), (U e), (.int .i64 i), (.bool (bt i)), u16, u17, u18, u19, u20, u21, u22, undef], defers := [] } : Act) := haZ.trans (by kernel_rfl)
      subst eZ
      clear haZ
      replace RR : Hid (RB w w3 [(g1_1, (Ar (O i))), (w.heap.size + 1 + 1, Zr), (w.heap.size + 1, (Ar e)), (w.heap.size, (Ar (A i)))]) := ⟨F.bw, (RowsAt.cons (F.row 3 rfl) (RowsAt.cons (F.row 2 rfl) (RowsAt.cons (F.row 1 rfl) (RowsAt.cons (F.row 0 rfl) RowsAt.nil))))⟩
      clear F qT q0 q1 q2 q3
      cases hbt : bt i with
      | true =>
        go_upto_region 6 with fail
        obtain ⟨q3, q2, q1, q0, qT⟩ := RR.out.r.lts
        refine wp_region_told (by kernel_rfl) (by kernel_rfl) (by kernel_rfl) [(w.heap.size, (Ar (A i))), (w.heap.size + 1, (Ar e)), (w.heap.size + 1 + 1, Zr)]
          [sV (U (O i)),
           sV (U (A i)),
           sV (U (O (i + 1))),
           sK (g1_1) (Ar (O i)) (Ar (O (i + 1)))]
          (by kernel_rfl) RR.out.b (RowsAt.cons (RR.out.at 3 rfl) (RowsAt.cons (RR.out.at 2 rfl) (RowsAt.cons (RR.out.at 1 rfl) RowsAt.nil))) (StOk.of [(g1_1, (Ar (O i)))] rfl (StM.cons (RR.out.at 0 rfl) (by omega) (Apart.cons (by omega) (Apart.cons (by omega) (Apart.cons (by omega) Apart.nil))) Apart.nil StM.nil))
          (Obs.val (fun a' w' E => ob_loada 24 (.tmp 5) rfl (E.old 5 (by kernel_rfl)) (E.skb (g := g1_1) (i := (Ar (O i))) (e := (Ar (O (i + 1)))) 3 rfl (by kernel_rfl)) Tryd.underlying24 rfl (by kernel_rfl) rfl)
          (Obs.val (fun a' w' E => ob_loada 24 (.tmp 2) rfl (E.old 2 (by kernel_rfl)) (E.row (g := w.heap.size) (c := (Ar (A i))) 0 rfl) Tryd.underlying24 rfl (by kernel_rfl) rfl)
          (Obs.val (fun a' w' E => ob_fcall 67 _ _ rfl (am2 (E.new (v := (U (O i))) 16 0 (by kernel_rfl) rfl) (E.new (v := (U (A i))) 17 1 (by kernel_rfl) rfl)) (fc67 _ _) ((hO i hlt hbt).out w'))
          (Obs.stk (fun a' w' E hr => ob_storea 24 (.tmp 5) (.tmp 18) rfl (E.old 5 (by kernel_rfl)) (E.new (v := (U (O (i + 1)))) 18 2 (by kernel_rfl) rfl) rfl hr (by kernel_rfl) (Nat.le_of_ble_eq_true rfl) (by kernel_rfl) rfl)
          Obs.nil)))) ?_
        intro bs w4 aZ haZ F
        have eZ : aZ = ({ tmps := #[(U (A 0)), (U e), (PT w.heap.size), (PT (w.heap.size + 1)), (PT (w.heap.size + 1 + 1)), (PT g1_1), (.int .i64 i), (U (O 0)), (U e), (.int .i64 n), (.int .i64 i), (.bool true), (.int .i64 i), (U e), (.int .i64 i), (.bool true), (U (O i)), (U (A i)), (U (O (i + 1))), u19, u20, u21, u22, undef], defers := [] } : Act) := haZ.trans (by kernel_rfl)
        subst eZ
        clear haZ
        replace RR : Hid (RB w w4 [(g1_1, (Ar (O (i + 1)))), (w.heap.size + 1 + 1, Zr), (w.heap.size + 1, (Ar e)), (w.heap.size, (Ar (A i)))]) := ⟨F.bw, (RowsAt.cons (F.sk 3 rfl) (RowsAt.cons (F.row 2 rfl) (RowsAt.cons (F.row 1 rfl) (RowsAt.cons (F.row 0 rfl) RowsAt.nil))))⟩
        clear F qT q0 q1 q2 q3
        go_upto_region 7 with fail
        obtain ⟨q3, q2, q1, q0, qT⟩ := RR.out.r.lts
        refine wp_region_told (by kernel_rfl) (by kernel_rfl) (by kernel_rfl) [(w.heap.size + 1, (Ar e)), (w.heap.size + 1 + 1, Zr), (g1_1, (Ar (O (i + 1))))]
          [sV (U (A i)),
           sV (U (A i)),
           sV (U (A (i + 1))),
           sK (w.heap.size) (Ar (A i)) (Ar (A (i + 1)))]
          (by kernel_rfl) RR.out.b (RowsAt.cons (RR.out.at 2 rfl) (RowsAt.cons (RR.out.at 1 rfl) (RowsAt.cons (RR.out.at 0 rfl) RowsAt.nil))) (StOk.of [(w.heap.size, (Ar (A i)))] rfl (StM.cons (RR.out.at 3 rfl) (by omega) (Apart.cons (by omega) (Apart.cons (by omega) (Apart.cons (by omega) Apart.nil))) Apart.nil StM.nil))
          (Obs.val (fun a' w' E => ob_loada 24 (.tmp 2) rfl (E.old 2 (by kernel_rfl)) (E.skb (g := w.heap.size) (i := (Ar (A i))) (e := (Ar (A (i + 1)))) 3 rfl (by kernel_rfl)) Tryd.underlying24 rfl (by kernel_rfl) rfl)
          (Obs.val (fun a' w' E => ob_loada 24 (.tmp 2) rfl (E.old 2 (by kernel_rfl)) (E.skb (g := w.heap.size) (i := (Ar (A i))) (e := (Ar (A (i + 1)))) 3 rfl (by kernel_rfl)) Tryd.underlying24 rfl (by kernel_rfl) rfl)
          (Obs.val (fun a' w' E => ob_fcall 67 _ _ rfl (am2 (E.new (v := (U (A i))) 19 0 (by kernel_rfl) rfl) (E.new (v := (U (A i))) 20 1 (by kernel_rfl) rfl)) (fc67 _ _) ((hA i).out w'))
          (Obs.stk (fun a' w' E hr => ob_storea 24 (.tmp 2) (.tmp 21) rfl (E.old 2 (by kernel_rfl)) (E.new (v := (U (A (i + 1)))) 21 2 (by kernel_rfl) rfl) rfl hr (by kernel_rfl) (Nat.le_of_ble_eq_true rfl) (by kernel_rfl) rfl)
          Obs.nil)))) ?_
        intro bs w5 aZ haZ F
        have eZ : aZ = ({ tmps := #[(U (A 0)), (U e), (PT w.heap.size), (PT (w.heap.size + 1)), (PT (w.heap.size + 1 + 1)), (PT g1_1), (.int .i64 i), (U (O 0)), (U e), (.int .i64 n), (.int .i64 i), (.bool true), (.int .i64 i), (U e), (.int .i64 i), (.bool true), (U (O i)), (U (A i)), (U (O (i + 1))), (U (A i)), (U (A i)), (U (A (i + 1))), u22, undef], defers := [] } : Act) := haZ.trans (by kernel_rfl)
        subst eZ
        clear haZ
        replace RR : Hid (RB w w5 [(g1_1, (Ar (O (i + 1)))), (w.heap.size + 1 + 1, Zr), (w.heap.size + 1, (Ar e)), (w.heap.size, (Ar (A (i + 1))))]) := ⟨F.bw, (RowsAt.cons (F.row 2 rfl) (RowsAt.cons (F.row 1 rfl) (RowsAt.cons (F.row 0 rfl) (RowsAt.cons (F.sk 3 rfl) RowsAt.nil))))⟩
        clear F qT q0 q1 q2 q3
        go_wp2
        go_roundw
        case rel => exact ⟨i + 1, hlt, by go_num, RR.out⟩
        case measure => simp [intOf]; omega
      | false =>
        go_upto_region 7 with fail
        obtain ⟨q3, q2, q1, q0, qT⟩ := RR.out.r.lts
        refine wp_region_told (by kernel_rfl) (by kernel_rfl) (by kernel_rfl) [(w.heap.size + 1, (Ar e)), (w.heap.size + 1 + 1, Zr), (g1_1, (Ar (O i)))]
          [sV (U (A i)),
           sV (U (A i)),
           sV (U (A (i + 1))),
           sK (w.heap.size) (Ar (A i)) (Ar (A (i + 1)))]
          (by kernel_rfl) RR.out.b (RowsAt.cons (RR.out.at 2 rfl) (RowsAt.cons (RR.out.at 1 rfl) (RowsAt.cons (RR.out.at 0 rfl) RowsAt.nil))) (StOk.of [(w.heap.size, (Ar (A i)))] rfl (StM.cons (RR.out.at 3 rfl) (by omega) (Apart.cons (by omega) (Apart.cons (by omega) (Apart.cons (by omega) Apart.nil))) Apart.nil StM.nil))
          (Obs.val (fun a' w' E => ob_loada 24 (.tmp 2) rfl (E.old 2 (by kernel_rfl)) (E.skb (g := w.heap.size) (i := (Ar (A i))) (e := (Ar (A (i + 1)))) 3 rfl (by kernel_rfl)) Tryd.underlying24 rfl (by kernel_rfl) rfl)
          (Obs.val (fun a' w' E => ob_loada 24 (.tmp 2) rfl (E.old 2 (by kernel_rfl)) (E.skb (g := w.heap.size) (i := (Ar (A i))) (e := (Ar (A (i + 1)))) 3 rfl (by kernel_rfl)) Tryd.underlying24 rfl (by kernel_rfl) rfl)
          (Obs.val (fun a' w' E => ob_fcall 67 _ _ rfl (am2 (E.new (v := (U (A i))) 19 0 (by kernel_rfl) rfl) (E.new (v := (U (A i))) 20 1 (by kernel_rfl) rfl)) (fc67 _ _) ((hA i).out w'))
          (Obs.stk (fun a' w' E hr => ob_storea 24 (.tmp 2) (.tmp 21) rfl (E.old 2 (by kernel_rfl)) (E.new (v := (U (A (i + 1)))) 21 2 (by kernel_rfl) rfl) rfl hr (by kernel_rfl) (Nat.le_of_ble_eq_true rfl) (by kernel_rfl) rfl)
          Obs.nil)))) ?_
        intro bs w4 aZ haZ F
        have eZ : aZ = ({ tmps := #[(U (A 0)), (U e), (PT w.heap.size), (PT (w.heap.size + 1)), (PT (w.heap.size + 1 + 1)), (PT g1_1), (.int .i64 i), (U (O 0)), (U e), (.int .i64 n), (.int .i64 i), (.bool true), (.int .i64 i), (U e), (.int .i64 i), (.bool false), u16, u17, u18, (U (A i)), (U (A i)), (U (A (i + 1))), u22, undef], defers := [] } : Act) := haZ.trans (by kernel_rfl)
        subst eZ
        clear haZ
        replace RR : Hid (RB w w4 [(g1_1, (Ar (O i))), (w.heap.size + 1 + 1, Zr), (w.heap.size + 1, (Ar e)), (w.heap.size, (Ar (A (i + 1))))]) := ⟨F.bw, (RowsAt.cons (F.row 2 rfl) (RowsAt.cons (F.row 1 rfl) (RowsAt.cons (F.row 0 rfl) (RowsAt.cons (F.sk 3 rfl) RowsAt.nil))))⟩
        clear F qT q0 q1 q2 q3
        go_wp2
        go_roundw
        case rel => exact ⟨i + 1, hlt, by go_num, (by have h := RR.out; rw [← hO2 i hlt hbt] at h; exact h)⟩
        case measure => simp [intOf]; omega
    · have hin : n = i := by omega
      subst hin
      clear hlt hi
      go_upto_region 9 with fail
      obtain ⟨q3, q2, q1, q0, qT⟩ := RR.out.r.lts
      refine wp_region_told (by kernel_rfl) (by kernel_rfl) (by kernel_rfl) [(w.heap.size, (Ar (A n))), (w.heap.size + 1, (Ar e)), (g1_1, (Ar (O n)))]
        [sV (U (O n)),
         sK (w.heap.size + 1 + 1) Zr (Ar (O n))]
        (by kernel_rfl) RR.out.b (RowsAt.cons (RR.out.at 3 rfl) (RowsAt.cons (RR.out.at 2 rfl) (RowsAt.cons (RR.out.at 0 rfl) RowsAt.nil))) (StOk.of [(w.heap.size + 1 + 1, Zr)] rfl (StM.cons (RR.out.at 1 rfl) (by omega) (Apart.cons (by omega) (Apart.cons (by omega) (Apart.cons (by omega) Apart.nil))) Apart.nil StM.nil))
        (Obs.val (fun a' w' E => ob_loada 24 (.tmp 5) rfl (E.old 5 (by kernel_rfl)) (E.row (g := g1_1) (c := (Ar (O n))) 2 rfl) Tryd.underlying24 rfl (by kernel_rfl) rfl)
        (Obs.stk (fun a' w' E hr => ob_storea 24 (.tmp 4) (.tmp 23) rfl (E.old 4 (by kernel_rfl)) (E.new (v := (U (O n))) 23 0 (by kernel_rfl) rfl) rfl hr (by kernel_rfl) (Nat.le_of_ble_eq_true rfl) (by kernel_rfl) rfl)
        Obs.nil)) ?_
      intro bs w3 aZ haZ F
      have eZ : aZ = ({ tmps := #[(U (A 0)), (U e), (PT w.heap.size), (PT (w.heap.size + 1)), (PT (w.heap.size + 1 + 1)), (PT g1_1), u6, (U (O 0)), (U e), (.int .i64 n), (.int .i64 n), (.bool false), u12, u13, u14, u15, u16, u17, u18, u19, u20, u21, u22, (U (O n))], defers := [] } : Act) := haZ.trans (by kernel_rfl)
      subst eZ
      clear haZ
      replace RR : Hid (RB w w3 [(g1_1, (Ar (O n))), (w.heap.size + 1 + 1, (Ar (O n))), (w.heap.size + 1, (Ar e)), (w.heap.size, (Ar (A n)))]) := ⟨F.bw, (RowsAt.cons (F.row 2 rfl) (RowsAt.cons (F.sk 1 rfl) (RowsAt.cons (F.row 1 rfl) (RowsAt.cons (F.row 0 rfl) RowsAt.nil))))⟩
      clear F qT q0 q1 q2 q3
      go_wp2
      exact bodyPost_ret (v := (U (O n))) (resA (p := 4) (ty := 24) rfl (g := w.heap.size + 1 + 1) rfl (RR.out.at 1 rfl) Tryd.underlying24 rfl (by kernel_rfl)) rfl ⟨rfl, RR.out.b⟩
set_option maxRecDepth 100000 in
set_option maxHeartbeats 4000000 in
theorem rpower_raw (bt : Nat → Bool) (bv : Nat → Nat) (e n : Nat) (hN : n ≤ 256) (hw : IntKind.i64.wrap ((n : Int) - 1) = (n : Int) - 1)
    (hn : Does 50 #[U e] (.int .i64 (n : Int))) (hb : ∀ i, i < n → Does 52 #[U e, .int .i64 (i : Int)] (B (bv i))) (hq : ∀ i, (((bv i : Nat) : Int) == 1) = bt i)
    (a : Nat) (O D : Nat → Nat) (h1 : O n = 1) (hS : ∀ i, i < n → Does 36 #[U (O (i + 1)), U (O (i + 1))] (U (D i))) (hM : ∀ i, i < n → bt i = true → Does 36 #[U (D i), U a] (U (O i))) (hK : ∀ i, i < n → bt i = false → O i = D i)
    (w : World) : Calls Tryd.prog 64 #[(U a), (U e)] w fun e w' => e = .returned (U (O 0)) ∧ Below w.heap.size w w' := by
  go_enter Tryd.func64, Tryd.ntmps64
  go_upto_region 1 with fail
  refine name_world _ ?_
  intro wF hF0
  have RR : Hid (RB w wF [(w.heap.size + 1 + 1, Zr), (w.heap.size + 1, (Ar e)), (w.heap.size, (Ar a))]) := by rw [hF0]; exact (rbN (rbN (rbN (rb0 w) (by simp)) (by simp)) (by simp))
  clear hF0
  obtain ⟨q2, q1, q0, qT⟩ := RR.out.r.lts
  refine wp_region_told (by kernel_rfl) (by kernel_rfl) (by kernel_rfl) [(w.heap.size, (Ar a)), (w.heap.size + 1, (Ar e)), (w.heap.size + 1 + 1, Zr)]
    [sV (U 1),
     sA (fun g => .pointer (some ⟨g, 0, none⟩)) 2 Zr (Ar 1),
     sS 1]
    (by kernel_rfl) RR.out.b (RowsAt.cons (RR.out.at 2 rfl) (RowsAt.cons (RR.out.at 1 rfl) (RowsAt.cons (RR.out.at 0 rfl) RowsAt.nil))) (StOk.of [] rfl StM.nil)
    (Obs.val (fun a' w' E => ob_build 24 _ rfl (pm4 (evc a' (.int .u64 1)) (evc a' (.int .u64 0)) (evc a' (.int .u64 0)) (evc a' (.int .u64 0))) (bdk1 w'))
    (Obs.alloc (fun a' w' E => ob_alloc (t := 24) (by simp [opAt, execOp, go_sem]))
    (Obs.sta rfl (fun a' w' g E ha hr => ob_storea 24 (.tmp 5) (.tmp 7) rfl (ha 5 (by kernel_rfl)) (E.new (v := (U 1)) 7 0 (by kernel_rfl) rfl) rfl hr (by kernel_rfl) (Nat.le_of_ble_eq_true rfl) (by kernel_rfl) rfl)
    Obs.nil))) ?_
  intro bs w1 aZ haZ F
  have eZ : aZ = ({ tmps := #[(U a), (U e), (PT w.heap.size), (PT (w.heap.size + 1)), (PT (w.heap.size + 1 + 1)), (PT ((bs 1))), undef, (U 1), undef, undef, undef, undef, undef, undef, undef, undef, undef, undef, undef, undef, undef, undef, undef, undef, undef, undef], defers := [] } : Act) := haZ.trans (by kernel_rfl)
  subst eZ
  clear haZ
  obtain ⟨h1, X1⟩ := F.al 1 rfl rfl
  replace RR : Hid (RB w w1 [((bs 1), (Ar 1)), (w.heap.size + 1 + 1, Zr), (w.heap.size + 1, (Ar e)), (w.heap.size, (Ar a))]) := ⟨F.bw, (RowsAt.cons X1 (RowsAt.cons (F.row 2 rfl) (RowsAt.cons (F.row 1 rfl) (RowsAt.cons (F.row 0 rfl) RowsAt.nil))))⟩
  generalize bs 1 = g1_1 at *
  have k1_1_0 := Nat.lt_of_lt_of_le q0 h1
  have k1_1_1 := Nat.lt_of_lt_of_le q1 h1
  have k1_1_2 := Nat.lt_of_lt_of_le q2 h1
  clear F qT q0 q1 q2 h1 X1
  clear wF
  go_upto_region 2 with fail
  obtain ⟨q3, q2, q1, q0, qT⟩ := RR.out.r.lts
  refine wp_region_told (by kernel_rfl) (by kernel_rfl) (by kernel_rfl) [(w.heap.size, (Ar a)), (w.heap.size + 1, (Ar e)), (w.heap.size + 1 + 1, Zr), (g1_1, (Ar 1))]
    [sV (U e),
     sV (.int .i64 n),
     sV (.int .i64 ((n : Int) - 1)),
     sV (.int .i64 ((n : Int) - 1))]
    (by kernel_rfl) RR.out.b (RowsAt.cons (RR.out.at 3 rfl) (RowsAt.cons (RR.out.at 2 rfl) (RowsAt.cons (RR.out.at 1 rfl) (RowsAt.cons (RR.out.at 0 rfl) RowsAt.nil)))) (StOk.of [] rfl StM.nil)
    (Obs.val (fun a' w' E => ob_loada 24 (.tmp 3) rfl (E.old 3 (by kernel_rfl)) (E.row (g := w.heap.size + 1) (c := (Ar e)) 1 rfl) Tryd.underlying24 rfl (by kernel_rfl) rfl)
    (Obs.val (fun a' w' E => ob_fcall 50 _ _ rfl (am1 (E.new (v := (U e)) 8 0 (by kernel_rfl) rfl)) (fc50 _ _) (hn.out w'))
    (Obs.val (fun a' w' E => ob_binOp .sub 3 (.tmp 9) (.const (.int .i64 1)) 3 rfl (E.new (v := (.int .i64 n)) 9 1 (by kernel_rfl) rfl) (evc a' (.int .i64 1)) (by simp [go_sem, hw]))
    (Obs.val (fun a' w' E => ob_assign (.tmp 10) rfl (E.new (v := (.int .i64 ((n : Int) - 1))) 10 2 (by kernel_rfl) rfl))
    Obs.nil)))) ?_
  intro bs w2 aZ haZ F
  have eZ : aZ = ({ tmps := #[(U a), (U e), (PT w.heap.size), (PT (w.heap.size + 1)), (PT (w.heap.size + 1 + 1)), (PT g1_1), (.int .i64 ((n : Int) - 1)), (U 1), (U e), (.int .i64 n), (.int .i64 ((n : Int) - 1)), undef, undef, undef, undef, undef, undef, undef, undef, undef, undef, undef, undef, undef, undef, undef], defers := [] } : Act) := haZ.trans (by kernel_rfl)
  subst eZ
  clear haZ
  replace RR : Hid (RB w w2 [(g1_1, (Ar 1)), (w.heap.size + 1 + 1, Zr), (w.heap.size + 1, (Ar e)), (w.heap.size, (Ar a))]) := ⟨F.bw, (RowsAt.cons (F.row 3 rfl) (RowsAt.cons (F.row 2 rfl) (RowsAt.cons (F.row 1 rfl) (RowsAt.cons (F.row 0 rfl) RowsAt.nil))))⟩
  clear F qT q0 q1 q2 q3
  go_wp2
  go_loopw [6] (fun v w' => ∃ j : Nat, j ≤ n ∧ v = .int .i64 ((j : Int) - 1) ∧ RB w w' [(g1_1, (Ar (O j))), (w.heap.size + 1 + 1, Zr), (w.heap.size + 1, (Ar e)), (w.heap.size, (Ar a))]) (fun v _ => ((intOf v) + 1).toNat)
  case atStart => exact ⟨n, Nat.le_refl _, rfl, by rw [h1]; exact RR.out⟩
  case round =>
    clear RR
    obtain ⟨j, hj, rfl, rr⟩ := hrel
    cases j with
    | succ i =>
      have RR : Hid (RB w wr [(g1_1, (Ar (O (i + 1)))), (w.heap.size + 1 + 1, Zr), (w.heap.size + 1, (Ar e)), (w.heap.size, (Ar a))]) := rr
      clear rr
      rw [show (((i + 1 : Nat) : Int) - 1) = (i : Int) by omega]
      have hlt : i < n := by omega
      have hd : (i : Int) < 256 := by omega
      have hd2 : (0 : Int) ≤ (i : Int) := by omega
      go_upto_region 5 with fail
      obtain ⟨q3, q2, q1, q0, qT⟩ := RR.out.r.lts
      refine wp_region_told (by kernel_rfl) (by kernel_rfl) (by kernel_rfl) [(w.heap.size, (Ar a)), (w.heap.size + 1, (Ar e)), (w.heap.size + 1 + 1, Zr)]
        [sV (U (O (i + 1))),
         sV (U (O (i + 1))),
         sV (U (D i)),
         sK (g1_1) (Ar (O (i + 1))) (Ar (D i))]
        (by kernel_rfl) RR.out.b (RowsAt.cons (RR.out.at 3 rfl) (RowsAt.cons (RR.out.at 2 rfl) (RowsAt.cons (RR.out.at 1 rfl) RowsAt.nil))) (StOk.of [(g1_1, (Ar (O (i + 1))))] rfl (StM.cons (RR.out.at 0 rfl) (by omega) (Apart.cons (by omega) (Apart.cons (by omega) (Apart.cons (by omega) Apart.nil))) Apart.nil StM.nil))
        (Obs.val (fun a' w' E => ob_loada 24 (.tmp 5) rfl (E.old 5 (by kernel_rfl)) (E.skb (g := g1_1) (i := (Ar (O (i + 1)))) (e := (Ar (D i))) 3 rfl (by kernel_rfl)) Tryd.underlying24 rfl (by kernel_rfl) rfl)
        (Obs.val (fun a' w' E => ob_loada 24 (.tmp 5) rfl (E.old 5 (by kernel_rfl)) (E.skb (g := g1_1) (i := (Ar (O (i + 1)))) (e := (Ar (D i))) 3 rfl (by kernel_rfl)) Tryd.underlying24 rfl (by kernel_rfl) rfl)
        (Obs.val (fun a' w' E => ob_fcall 36 _ _ rfl (am2 (E.new (v := (U (O (i + 1)))) 15 0 (by kernel_rfl) rfl) (E.new (v := (U (O (i + 1)))) 16 1 (by kernel_rfl) rfl)) (fc36 _ _) ((hS i hlt).out w'))
        (Obs.stk (fun a' w' E hr => ob_storea 24 (.tmp 5) (.tmp 17) rfl (E.old 5 (by kernel_rfl)) (E.new (v := (U (D i))) 17 2 (by kernel_rfl) rfl) rfl hr (by kernel_rfl) (Nat.le_of_ble_eq_true rfl) (by kernel_rfl) rfl)
        Obs.nil)))) ?_
      intro bs w3 aZ haZ F
      have eZ : aZ = ({ tmps := #[(U a), (U e), (PT w.heap.size), (PT (w.heap.size + 1)), (PT (w.heap.size + 1 + 1)), (PT g1_1), (.int .i64 i), (U 1), (U e), (.int .i64 n), (.int .i64 ((n : Int) - 1)), (.int .i64 i), (.bool true), u13, u14, (U (O (i + 1))), (U (O (i + 1))), (U (D i)), u18, u19, u20, u21, u22, u23, u24, undef], defers := [] } : Act) := haZ.trans (by kernel_rfl)
      subst eZ
      clear haZ
      replace RR : Hid (RB w w3 [(g1_1, (Ar (D i))), (w.heap.size + 1 + 1, Zr), (w.heap.size + 1, (Ar e)), (w.heap.size, (Ar a))]) := ⟨F.bw, (RowsAt.cons (F.sk 3 rfl) (RowsAt.cons (F.row 2 rfl) (RowsAt.cons (F.row 1 rfl) (RowsAt.cons (F.row 0 rfl) RowsAt.nil))))⟩
      clear F qT q0 q1 q2 q3
      go_upto_region 6 with fail
      obtain ⟨q3, q2, q1, q0, qT⟩ := RR.out.r.lts
      refine wp_region_told (by kernel_rfl) (by kernel_rfl) (by kernel_rfl) [(w.heap.size, (Ar a)), (w.heap.size + 1, (Ar e)), (w.heap.size + 1 + 1, Zr), (g1_1, (Ar (D i)))]
        [sV (U e),
         sV (.int .i64 i),
         sV (B (bv i)),
         sV (.bool (bt i))]
        (by kernel_rfl) RR.out.b (RowsAt.cons (RR.out.at 3 rfl) (RowsAt.cons (RR.out.at 2 rfl) (RowsAt.cons (RR.out.at 1 rfl) (RowsAt.cons (RR.out.at 0 rfl) RowsAt.nil)))) (StOk.of [] rfl StM.nil)
        (Obs.val (fun a' w' E => ob_loada 24 (.tmp 3) rfl (E.old 3 (by kernel_rfl)) (E.row (g := w.heap.size + 1) (c := (Ar e)) 1 rfl) Tryd.underlying24 rfl (by kernel_rfl) rfl)
        (Obs.val (fun a' w' E => ob_move (.tmp 6) rfl (E.old 6 (by kernel_rfl)))
        (Obs.val (fun a' w' E => ob_fcall 52 _ _ rfl (am2 (E.new (v := (U e)) 18 0 (by kernel_rfl) rfl) (E.new (v := (.int .i64 i)) 19 1 (by kernel_rfl) rfl)) (fc52 _ _) ((hb i hlt).out w'))
        (Obs.val (fun a' w' E => ob_binOp .eql 22 (.tmp 20) (.const (.int .u64 1)) 22 rfl (E.new (v := (B (bv i))) 20 2 (by kernel_rfl) rfl) (evc a' (.int .u64 1)) (by simp [go_sem, hq i]))
        Obs.nil)))) ?_
      intro bs w4 aZ haZ F
      have eZ : aZ = ({ tmps := #[(U a), (U e), (PT w.heap.size), (PT (w.heap.size + 1)), (PT (w.heap.size + 1 + 1)), (PT g1_1), (.int .i64 i), (U 1), (U e), (.int .i64 n), (.int .i64 ((n : Int) - 1)), (.int .i64 i), (.bool true), u13, u14, (U (O (i + 1))), (U (O (i + 1))), (U (D i)), (U e), (.int .i64 i), (B (bv i)), (.bool (bt i)), u22, u23, u24, undef], defers := [] } : Act) := haZ.trans (by kernel_rfl)
      subst eZ
      clear haZ
      replace RR : Hid (RB w w4 [(g1_1, (Ar (D i))), (w.heap.size + 1 + 1, Zr), (w.heap.size + 1, (Ar e)), (w.heap.size, (Ar a))]) := ⟨F.bw, (RowsAt.cons (F.row 3 rfl) (RowsAt.cons (F.row 2 rfl) (RowsAt.cons (F.row 1 rfl) (RowsAt.cons (F.row 0 rfl) RowsAt.nil))))⟩
      clear F qT q0 q1 q2 q3
      cases hbt : bt i with
      | true =>
        go_upto_region 7 with fail
        obtain ⟨q3, q2, q1, q0, qT⟩ := RR.out.r.lts
        refine wp_region_told (by kernel_rfl) (by kernel_rfl) (by kernel_rfl) [(w.heap.size, (Ar a)), (w.heap.size + 1, (Ar e)), (w.heap.size + 1 + 1, Zr)]
          [sV (U (D i)),
           sV (U a),
           sV (U (O i)),
           sK (g1_1) (Ar (D i)) (Ar (O i))]
          (by kernel_rfl) RR.out.b (RowsAt.cons (RR.out.at 3 rfl) (RowsAt.cons (RR.out.at 2 rfl) (RowsAt.cons (RR.out.at 1 rfl) RowsAt.nil))) (StOk.of [(g1_1, (Ar (D i)))] rfl (StM.cons (RR.out.at 0 rfl) (by omega) (Apart.cons (by omega) (Apart.cons (by omega) (Apart.cons (by omega) Apart.nil))) Apart.nil StM.nil))
          (Obs.val (fun a' w' E => ob_loada 24 (.tmp 5) rfl (E.old 5 (by kernel_rfl)) (E.skb (g := g1_1) (i := (Ar (D i))) (e := (Ar (O i))) 3 rfl (by kernel_rfl)) Tryd.underlying24 rfl (by kernel_rfl) rfl)
          (Obs.val (fun a' w' E => ob_loada 24 (.tmp 2) rfl (E.old 2 (by kernel_rfl)) (E.row (g := w.heap.size) (c := (Ar a)) 0 rfl) Tryd.underlying24 rfl (by kernel_rfl) rfl)
          (Obs.val (fun a' w' E => ob_fcall 36 _ _ rfl (am2 (E.new (v := (U (D i))) 22 0 (by kernel_rfl) rfl) (E.new (v := (U a)) 23 1 (by kernel_rfl) rfl)) (fc36 _ _) ((hM i hlt hbt).out w'))
          (Obs.stk (fun a' w' E hr => ob_storea 24 (.tmp 5) (.tmp 24) rfl (E.old 5 (by kernel_rfl)) (E.new (v := (U (O i))) 24 2 (by kernel_rfl) rfl) rfl hr (by kernel_rfl) (Nat.le_of_ble_eq_true rfl) (by kernel_rfl) rfl)
          Obs.nil)))) ?_
        intro bs w5 aZ haZ F
        have eZ : aZ = ({ tmps := #[(U a), (U e), (PT w.heap.size), (PT (w.heap.size + 1)), (PT (w.heap.size + 1 + 1)), (PT g1_1), (.int .i64 i), (U 1), (U e), (.int .i64 n), (.int .i64 ((n : Int) - 1)), (.int .i64 i), (.bool true), u13, u14, (U (O (i + 1))), (U (O (i + 1))), (U (D i)), (U e), (.int .i64 i), (B (bv i)), (.bool true), (U (D i)), (U a), (U (O i)), undef], defers := [] } : Act) := haZ.trans (by kernel_rfl)
        subst eZ
        clear haZ
        replace RR : Hid (RB w w5 [(g1_1, (Ar (O i))), (w.heap.size + 1 + 1, Zr), (w.heap.size + 1, (Ar e)), (w.heap.size, (Ar a))]) := ⟨F.bw, (RowsAt.cons (F.sk 3 rfl) (RowsAt.cons (F.row 2 rfl) (RowsAt.cons (F.row 1 rfl) (RowsAt.cons (F.row 0 rfl) RowsAt.nil))))⟩
        clear F qT q0 q1 q2 q3
        go_wp2
        go_roundw
        case rel => exact ⟨i, by omega, by go_num, RR.out⟩
        case measure => first | (simp [intOf]; done) | (simp [intOf]; omega)
      | false =>
        go_wp2
        go_roundw
        case rel => exact ⟨i, by omega, by go_num, by have h := RR.out; rw [← hK i hlt hbt] at h; exact h⟩
        case measure => first | (simp [intOf]; done) | (simp [intOf]; omega)
    | zero =>
      have RR : Hid (RB w wr [(g1_1, (Ar (O 0))), (w.heap.size + 1 + 1, Zr), (w.heap.size + 1, (Ar e)), (w.heap.size, (Ar a))]) := rr
      clear rr
      rw [show (((0 : Nat) : Int) - 1) = -1 by omega]
      go_upto_region 8 with fail
      obtain ⟨q3, q2, q1, q0, qT⟩ := RR.out.r.lts
      refine wp_region_told (by kernel_rfl) (by kernel_rfl) (by kernel_rfl) [(w.heap.size, (Ar a)), (w.heap.size + 1, (Ar e)), (g1_1, (Ar (O 0)))]
        [sV (U (O 0)),
         sK (w.heap.size + 1 + 1) Zr (Ar (O 0))]
        (by kernel_rfl) RR.out.b (RowsAt.cons (RR.out.at 3 rfl) (RowsAt.cons (RR.out.at 2 rfl) (RowsAt.cons (RR.out.at 0 rfl) RowsAt.nil))) (StOk.of [(w.heap.size + 1 + 1, Zr)] rfl (StM.cons (RR.out.at 1 rfl) (by omega) (Apart.cons (by omega) (Apart.cons (by omega) (Apart.cons (by omega) Apart.nil))) Apart.nil StM.nil))
        (Obs.val (fun a' w' E => ob_loada 24 (.tmp 5) rfl (E.old 5 (by kernel_rfl)) (E.row (g := g1_1) (c := (Ar (O 0))) 2 rfl) Tryd.underlying24 rfl (by kernel_rfl) rfl)
        (Obs.stk (fun a' w' E hr => ob_storea 24 (.tmp 4) (.tmp 25) rfl (E.old 4 (by kernel_rfl)) (E.new (v := (U (O 0))) 25 0 (by kernel_rfl) rfl) rfl hr (by kernel_rfl) (Nat.le_of_ble_eq_true rfl) (by kernel_rfl) rfl)
        Obs.nil)) ?_
      intro bs w3 aZ haZ F
      have eZ : aZ = ({ tmps := #[(U a), (U e), (PT w.heap.size), (PT (w.heap.size + 1)), (PT (w.heap.size + 1 + 1)), (PT g1_1), (.int .i64 (-1)), (U 1), (U e), (.int .i64 n), (.int .i64 ((n : Int) - 1)), (.int .i64 (-1)), (.bool false), u13, u14, u15, u16, u17, u18, u19, u20, u21, u22, u23, u24, (U (O 0))], defers := [] } : Act) := haZ.trans (by kernel_rfl)
      subst eZ
      clear haZ
      replace RR : Hid (RB w w3 [(g1_1, (Ar (O 0))), (w.heap.size + 1 + 1, (Ar (O 0))), (w.heap.size + 1, (Ar e)), (w.heap.size, (Ar a))]) := ⟨F.bw, (RowsAt.cons (F.row 2 rfl) (RowsAt.cons (F.sk 1 rfl) (RowsAt.cons (F.row 1 rfl) (RowsAt.cons (F.row 0 rfl) RowsAt.nil))))⟩
      clear F qT q0 q1 q2 q3
      go_wp2
      exact bodyPost_ret (v := (U (O 0))) (resA (p := 4) (ty := 24) rfl (g := w.heap.size + 1 + 1) rfl (RR.out.at 1 rfl) Tryd.underlying24 rfl (by kernel_rfl)) rfl ⟨rfl, RR.out.b⟩
end Go.Proofs.YtpdoonofipcbeaaDoor
