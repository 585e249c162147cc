/- The program's accounts in which one has another amount; Give and Take. -/
import Derived.Test.YtpjplicioidknaaJj
namespace Go.Proofs.Ytpjplicioidknaa
open Go.RowKit Go.Sort
set_option linter.unusedVariables false
set_option maxRecDepth 100000
theorem lay3 (w : World) (o : Obj) : Below w.heap.size w (w.alloc o) := below_alloc w o
set_option maxHeartbeats 4000000 in
theorem with_any {w : World} {x y : ByteArray} {n : Nat} {v : Value} {l A B : List Co} {v0 : Nat} (h : CoI w v l) (hc : capOk v) (hl : l.length ≤ 1000) (D : Dec l (x, y) A B v0) (hn : n < W) : Calls Try.prog 32 #[v, coV (x, y, n)] w fun e w' => ∃ v' K1, e = .returned v' ∧ FJ w K1 v' (A ++ own (x, y) n ++ B) w' := by
  have hF := fun (w' : World) (hb : Below w.heap.size w w') => find_any (h.below C6.loc hb) (by omega) D
  obtain ⟨ad, cap, hv⟩ := h.slice
  subst hv
  have hc : l.length ≤ cap := hc
  have hAl : A.length ≤ l.length := by rw [D.len]; omega
  have hA : l.take A.length = A := by rw [D.eq, List.append_assoc, List.take_left]
  have hB0 : v0 = 0 → l.drop A.length = B := fun e => by subst e; rw [D.eq, own_zero, List.append_nil, List.drop_left]
  have hB1 : v0 ≠ 0 → (l.drop A.length).drop 1 = B := fun e => by rw [D.eq, own_pos e, List.append_assoc, List.drop_left]; rfl
  have cA_ := coi_take h A.length hAl
  rw [hA] at cA_
  have cB_ := coi_drop h hc A.length
  have hlen := D.len
  have hB1000 : B.length ≤ 1000 := by omega
  have sl1 := sl_to ad l.length cap A.length (by omega)
  have sl2 := sl_from ad l.length cap A.length hAl
  have hm0 : n ≠ 0 → own (x, y) n = [(x, y, n)] := fun e => own_pos e
  refine inQ (J := Below w.heap.size w) (F := (· < w.heap.size)) Try.func32 (Below.refl _ _) fun a I => ?_

  by_cases hv0 : v0 = 0
  · rw [decide_eq_false (not_not_intro hv0)] at hF
    by_cases hn0 : n = 0
    · rw [if_pos hv0] at hlen
      have cB := cB_
      rw [hB0 hv0] at cB
      have hbl : l.length - A.length = B.length := by omega
      rw [hbl] at cB sl2
      generalize adF ad cap A.length = adB at cB sl2
      generalize cap - A.length = capB at cB sl2
      clear cB_ hB0 hB1 hlen
      refine goT (T := Below w.heap.size w) [cA Try.func28 hF] (nonR w) (fun _ h => h) I fun β1 a1 w1 I hb1 => ?_
      refine dwT (T := Below w.heap.size w) 6 [sT 22 sl1, sO 22 sl2] (nonR w) (fun _ h => h) PanOk.post I fun a2 w2 I => ?_
      refine goQ [dO 27 [] bd_Uz, bO .neq 27 (neqU_run hn W_pos (b := false) (decide_eq_false (not_not_intro hn0)))] (nonR w) I fun β3 a3 w3 I hb3 => ?_
      refine bslQ (ss := [(0, Sum.inl (.slice ad A.length cap)), (1, Sum.inl (.slice none 0 0)), (2, Sum.inl (.slice adB B.length capB))]) I (bs64_3 ad none A.length cap 0 0 adB B.length capB w3) ?_
      have I6 := I.alloc (nonR w) (.cells #[.slice ad A.length cap, .slice none 0 0, .slice adB B.length capB] 22) (.slice (some ⟨w3.heap.size, 0, none⟩) 3 3)
      have bw6 := I6.hJ
      have hC := concat_any (g := w3.heap.size) [(ad, cap, A), (none, 0, []), (adB, capB, B)] (by simp) (HasRow.last rfl) (fun t ht => (by simp only [List.mem_cons, List.not_mem_nil, or_false] at ht; rcases ht with rfl | rfl | rfl; exact cA_.below C6.loc bw6; exact coi_nil _; exact cB.below C6.loc bw6)) (fun t ht => by simp only [List.mem_cons, List.not_mem_nil, or_false] at ht; rcases ht with rfl | rfl | rfl; exact Nat.le_trans hAl hl; simp; exact hB1000)
      have hout : ([(ad, cap, A), (none, 0, []), (adB, capB, B)].flatMap fun t : Tri => t.2.2) = A ++ own (x, y) n ++ B := by rw [hn0, own_zero]; simp
      rw [hout] at hC
      refine mcall (f := 41) (ss := [Sum.inl (.slice (some ⟨w3.heap.size, 0, none⟩) 3 3)]) Try.func41 I6 (hC.mono fun e w7 he => ?_)
      obtain ⟨v', K1, rfl, hj⟩ := he
      refine goQ [] (FJ.rs w K1 v' _) (I6.fj hj bw6 (fun k h => h) v') fun β8 a8 w8 I8 hb8 => ?_
      exact outQ (v := v') I8 ⟨v', K1, rfl, I8.hJ⟩
    · rw [if_pos hv0] at hlen
      have cB := cB_
      rw [hB0 hv0] at cB
      have hbl : l.length - A.length = B.length := by omega
      rw [hbl] at cB sl2
      generalize adF ad cap A.length = adB at cB sl2
      generalize cap - A.length = capB at cB sl2
      clear cB_ hB0 hB1 hlen
      refine goT (T := Below w.heap.size w) [cA Try.func28 hF] (nonR w) (fun _ h => h) I fun β1 a1 w1 I hb1 => ?_
      refine dwT (T := Below w.heap.size w) 6 [sT 22 sl1, sO 22 sl2] (nonR w) (fun _ h => h) PanOk.post I fun a2 w2 I => ?_
      refine goQ [dO 27 [] bd_Uz, bO .neq 27 (neqU_run hn W_pos (b := true) (decide_eq_true hn0))] (nonR w) I fun β3 a3 w3 I hb3 => ?_
      refine bslQ (ss := [(0, Sum.inl (coV (x, y, n)))]) I (bs22_1 (x, y, n) w3) ?_
      have I4 := I.lay (nonR w) (.cells (co6 (x, y, n)).toArray 41) (.slice (some ⟨w3.heap.size, 0, none⟩) 1 1)
      have R4 := (nonR w).lay w3.heap.size (.cells (co6 (x, y, n)).toArray 41)
      obtain ⟨g3, hg3⟩ : ∃ g, w3.heap.size = g := ⟨_, rfl⟩
      rw [hg3] at I4 R4 ⊢
      refine goQ [] R4 I4 fun β5 a5 w5 I5 hb5 => ?_
      refine bslQ (ss := [(0, Sum.inl (.slice ad A.length cap)), (1, Sum.inl (.slice (some ⟨g3, 0, none⟩) 1 1)), (2, Sum.inl (.slice adB B.length capB))]) I5 (bs64_3 ad (some ⟨g3, 0, none⟩) A.length cap 1 1 adB B.length capB w5) ?_
      have I6 := I5.alloc R4 (.cells #[.slice ad A.length cap, .slice (some ⟨g3, 0, none⟩) 1 1, .slice adB B.length capB] 22) (.slice (some ⟨w5.heap.size, 0, none⟩) 3 3)
      have bw6 := I6.hJ.1
      have hC := concat_any (g := w5.heap.size) [(ad, cap, A), (some ⟨g3, 0, none⟩, 1, [(x, y, n)]), (adB, capB, B)] (by simp) (HasRow.last rfl) (fun t ht => (by simp only [List.mem_cons, List.not_mem_nil, or_false] at ht; rcases ht with rfl | rfl | rfl; exact cA_.below C6.loc bw6; exact coi_one I6.hJ.2 hn; exact cB.below C6.loc bw6)) (fun t ht => by simp only [List.mem_cons, List.not_mem_nil, or_false] at ht; rcases ht with rfl | rfl | rfl; exact Nat.le_trans hAl hl; simp; exact hB1000)
      have hout : ([(ad, cap, A), (some ⟨g3, 0, none⟩, 1, [(x, y, n)]), (adB, capB, B)].flatMap fun t : Tri => t.2.2) = A ++ own (x, y) n ++ B := by rw [hm0 hn0]; simp
      rw [hout] at hC
      refine mcall (f := 41) (ss := [Sum.inl (.slice (some ⟨w5.heap.size, 0, none⟩) 3 3)]) Try.func41 I6 (hC.mono fun e w7 he => ?_)
      obtain ⟨v', K1, rfl, hj⟩ := he
      refine goQ [] (FJ.rs w K1 v' _) (I6.fj hj bw6 (fun k h => .inl h) v') fun β8 a8 w8 I8 hb8 => ?_
      exact outQ (v := v') I8 ⟨v', K1, rfl, I8.hJ⟩
  · rw [decide_eq_true hv0] at hF
    by_cases hn0 : n = 0
    · rw [if_neg hv0] at hlen
      have cB := coi_drop (l := l.drop A.length) (cap := cap - A.length) (ad := adF ad cap A.length) (by rw [List.length_drop]; exact cB_) (by rw [List.length_drop]; omega) 1
      rw [hB1 hv0, List.length_drop] at cB
      have hbl : l.length - A.length - 1 = B.length := by omega
      have sl3 := sl_from (adF ad cap A.length) (l.length - A.length) (cap - A.length) 1 (by omega)
      rw [hbl] at cB sl3
      generalize adF (adF ad cap A.length) (cap - A.length) 1 = adB at cB sl3
      generalize cap - A.length - 1 = capB at cB sl3
      generalize adF ad cap A.length = ad2 at sl2 sl3
      generalize l.length - A.length = nB at sl2 sl3
      generalize cap - A.length = cp2 at sl2 sl3
      clear cB_ hB0 hB1 hlen
      refine goT (T := Below w.heap.size w) [cA Try.func28 hF] (nonR w) (fun _ h => h) I fun β1 a1 w1 I hb1 => ?_
      refine dwT (T := Below w.heap.size w) 6 [sT 22 sl1, sO 22 sl2] (nonR w) (fun _ h => h) PanOk.post I fun a2 w2 I => ?_
      refine goQ [sO 22 sl3, dO 27 [] bd_Uz, bO .neq 27 (neqU_run hn W_pos (b := false) (decide_eq_false (not_not_intro hn0)))] (nonR w) I fun β3 a3 w3 I hb3 => ?_
      refine bslQ (ss := [(0, Sum.inl (.slice ad A.length cap)), (1, Sum.inl (.slice none 0 0)), (2, Sum.inl (.slice adB B.length capB))]) I (bs64_3 ad none A.length cap 0 0 adB B.length capB w3) ?_
      have I6 := I.alloc (nonR w) (.cells #[.slice ad A.length cap, .slice none 0 0, .slice adB B.length capB] 22) (.slice (some ⟨w3.heap.size, 0, none⟩) 3 3)
      have bw6 := I6.hJ
      have hC := concat_any (g := w3.heap.size) [(ad, cap, A), (none, 0, []), (adB, capB, B)] (by simp) (HasRow.last rfl) (fun t ht => (by simp only [List.mem_cons, List.not_mem_nil, or_false] at ht; rcases ht with rfl | rfl | rfl; exact cA_.below C6.loc bw6; exact coi_nil _; exact cB.below C6.loc bw6)) (fun t ht => by simp only [List.mem_cons, List.not_mem_nil, or_false] at ht; rcases ht with rfl | rfl | rfl; exact Nat.le_trans hAl hl; simp; exact hB1000)
      have hout : ([(ad, cap, A), (none, 0, []), (adB, capB, B)].flatMap fun t : Tri => t.2.2) = A ++ own (x, y) n ++ B := by rw [hn0, own_zero]; simp
      rw [hout] at hC
      refine mcall (f := 41) (ss := [Sum.inl (.slice (some ⟨w3.heap.size, 0, none⟩) 3 3)]) Try.func41 I6 (hC.mono fun e w7 he => ?_)
      obtain ⟨v', K1, rfl, hj⟩ := he
      refine goQ [] (FJ.rs w K1 v' _) (I6.fj hj bw6 (fun k h => h) v') fun β8 a8 w8 I8 hb8 => ?_
      exact outQ (v := v') I8 ⟨v', K1, rfl, I8.hJ⟩
    · rw [if_neg hv0] at hlen
      have cB := coi_drop (l := l.drop A.length) (cap := cap - A.length) (ad := adF ad cap A.length) (by rw [List.length_drop]; exact cB_) (by rw [List.length_drop]; omega) 1
      rw [hB1 hv0, List.length_drop] at cB
      have hbl : l.length - A.length - 1 = B.length := by omega
      have sl3 := sl_from (adF ad cap A.length) (l.length - A.length) (cap - A.length) 1 (by omega)
      rw [hbl] at cB sl3
      generalize adF (adF ad cap A.length) (cap - A.length) 1 = adB at cB sl3
      generalize cap - A.length - 1 = capB at cB sl3
      generalize adF ad cap A.length = ad2 at sl2 sl3
      generalize l.length - A.length = nB at sl2 sl3
      generalize cap - A.length = cp2 at sl2 sl3
      clear cB_ hB0 hB1 hlen
      refine goT (T := Below w.heap.size w) [cA Try.func28 hF] (nonR w) (fun _ h => h) I fun β1 a1 w1 I hb1 => ?_
      refine dwT (T := Below w.heap.size w) 6 [sT 22 sl1, sO 22 sl2] (nonR w) (fun _ h => h) PanOk.post I fun a2 w2 I => ?_
      refine goQ [sO 22 sl3, dO 27 [] bd_Uz, bO .neq 27 (neqU_run hn W_pos (b := true) (decide_eq_true hn0))] (nonR w) I fun β3 a3 w3 I hb3 => ?_
      refine bslQ (ss := [(0, Sum.inl (coV (x, y, n)))]) I (bs22_1 (x, y, n) w3) ?_
      have I4 := I.lay (nonR w) (.cells (co6 (x, y, n)).toArray 41) (.slice (some ⟨w3.heap.size, 0, none⟩) 1 1)
      have R4 := (nonR w).lay w3.heap.size (.cells (co6 (x, y, n)).toArray 41)
      obtain ⟨g3, hg3⟩ : ∃ g, w3.heap.size = g := ⟨_, rfl⟩
      rw [hg3] at I4 R4 ⊢
      refine goQ [] R4 I4 fun β5 a5 w5 I5 hb5 => ?_
      refine bslQ (ss := [(0, Sum.inl (.slice ad A.length cap)), (1, Sum.inl (.slice (some ⟨g3, 0, none⟩) 1 1)), (2, Sum.inl (.slice adB B.length capB))]) I5 (bs64_3 ad (some ⟨g3, 0, none⟩) A.length cap 1 1 adB B.length capB w5) ?_
      have I6 := I5.alloc R4 (.cells #[.slice ad A.length cap, .slice (some ⟨g3, 0, none⟩) 1 1, .slice adB B.length capB] 22) (.slice (some ⟨w5.heap.size, 0, none⟩) 3 3)
      have bw6 := I6.hJ.1
      have hC := concat_any (g := w5.heap.size) [(ad, cap, A), (some ⟨g3, 0, none⟩, 1, [(x, y, n)]), (adB, capB, B)] (by simp) (HasRow.last rfl) (fun t ht => (by simp only [List.mem_cons, List.not_mem_nil, or_false] at ht; rcases ht with rfl | rfl | rfl; exact cA_.below C6.loc bw6; exact coi_one I6.hJ.2 hn; exact cB.below C6.loc bw6)) (fun t ht => by simp only [List.mem_cons, List.not_mem_nil, or_false] at ht; rcases ht with rfl | rfl | rfl; exact Nat.le_trans hAl hl; simp; exact hB1000)
      have hout : ([(ad, cap, A), (some ⟨g3, 0, none⟩, 1, [(x, y, n)]), (adB, capB, B)].flatMap fun t : Tri => t.2.2) = A ++ own (x, y) n ++ B := by rw [hm0 hn0]; simp
      rw [hout] at hC
      refine mcall (f := 41) (ss := [Sum.inl (.slice (some ⟨w5.heap.size, 0, none⟩) 3 3)]) Try.func41 I6 (hC.mono fun e w7 he => ?_)
      obtain ⟨v', K1, rfl, hj⟩ := he
      refine goQ [] (FJ.rs w K1 v' _) (I6.fj hj bw6 (fun k h => .inl h) v') fun β8 a8 w8 I8 hb8 => ?_
      exact outQ (v := v') I8 ⟨v', K1, rfl, I8.hJ⟩
end Go.Proofs.Ytpjplicioidknaa
