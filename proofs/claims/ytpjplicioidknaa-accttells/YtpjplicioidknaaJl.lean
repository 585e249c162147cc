/- The program's Give and Take. -/
import Derived.Test.YtpjplicioidknaaJk
namespace Go.Proofs.Ytpjplicioidknaa
open Go.RowKit Go.Sort
set_option linter.unusedVariables false
set_option maxRecDepth 100000
/-- What Give and Take leave, and what they say. -/
def gvP (l A B : List Co) (x y : ByteArray) (v0 n : Nat) : List Co × Int := if nmB x y = false then (l, 2) else if W ≤ smN l y + n then (l, 7) else (A ++ own (x, y) (v0 + n) ++ B, 0)
def tkP (l A B : List Co) (x y : ByteArray) (v0 n : Nat) : List Co × Int := if nmB x y = false then (l, 2) else if v0 < n then (l, 16) else (A ++ own (x, y) (v0 - n) ++ B, 0)
theorem bd41_3 (x y : ByteArray) (n : Nat) (w : World) : (Instr.build 41 (([0, 1, 2] : List Nat).zip [.string x, .string y, U n]).toArray).run Try.prog w = .ok (coV (x, y, n)) w := by
  unfold U coV co6
  simp only []
  generalize l0 n = n0
  generalize l1 n = n1
  generalize l2 n = n2
  generalize l3 n = n3
  kernel_rfl
theorem Dec.le_sum {l A B : List Co} {x y : ByteArray} {v : Nat} (D : Dec l (x, y) A B v) : v ≤ smN l y := by rw [D.sum, if_pos rfl]; omega
theorem sumOk {l : List Co} (hf : Fit l) (s : ByteArray) : smV l s = .tuple #[U (smN l s), .bool true] := if_pos (hf.sm s)
set_option maxHeartbeats 4000000 in
theorem give_any {w : World} {x y : ByteArray} {n : Nat} {v : Value} {l A B : List Co} {v0 : Nat} (h : CoI w v l) (hc : capOk v) (hf : Fit l) (hl : l.length ≤ 900) (D : Dec l (x, y) A B v0) (hn : n < W) :
    Calls Try.prog 15 #[v, .string x, .string y, U n] w fun e w' => ∃ v' K1, e = .returned (.tuple #[v', Z (gvP l A B x y v0 n).2]) ∧ FJ w K1 v' (gvP l A B x y v0 n).1 w' := by
  have hS := fun (w' : World) (hb : Below w.heap.size w w') => sum_any (h.below C6.loc hb) y (by omega)
  rw [sumOk hf y] at hS
  have hG := fun (w' : World) (hb : Below w.heap.size w w') => get_any (h.below C6.loc hb) (by omega) D
  have hN := named_any x y
  have hsm := hf.sm y
  have hv0 := D.le_sum
  have hlen := D.len
  have hCp := fun (w' : World) (hb : Below w.heap.size w w') => copied_any (h.below C6.loc hb) (by omega)
  have hWt := fun (m : Nat) (hm : m < W) (w' : World) (hb : Below w.heap.size w w') => with_any (n := m) (h.below C6.loc hb) hc (by omega) D hm
  unfold gvP
  refine inQ (J := Below w.heap.size w) (F := (· < w.heap.size)) Try.func15 (Below.refl _ _) fun a I => ?_
  cases hq : nmB x y with
  | false =>
    rw [hq] at hN
    rw [if_pos rfl]
    refine goQ [kC Try.func29 hN, ntO false] (nonR w) I fun β1 a1 w1 I hb1 => ?_
    refine mcall (f := 30) (ss := [Sum.inl v]) Try.func30 I ((hCp w1 I.hJ).mono fun e w2 he => ?_)
    obtain ⟨v', K1, rfl, hj⟩ := he
    refine goQ [] (FJ.rs w K1 v' l) (I.fj hj I.hJ (fun k h => h) v') fun β3 a3 w3 I hb3 => ?_
    exact outQ (v := .tuple #[v', Z 2]) I ⟨v', K1, rfl, I.hJ⟩
  | true =>
    rw [hq] at hN
    rw [if_neg (by simp)]
    have hO := isOver_any (smN l y) n hsm hn
    obtain ⟨S, hSe⟩ : ∃ S, smN l y = S := ⟨_, rfl⟩
    rw [hSe] at hS hO hsm hv0 ⊢
    by_cases ho : W ≤ S + n
    · rw [show ovW S n = true from decide_eq_true ho] at hO
      rw [if_pos ho]
      refine goT (T := Below w.heap.size w) [kC Try.func29 hN, ntO true, cA Try.func9 hS, ntO true, kC Try.func31 hO] (nonR w) (fun _ h => h) I fun β1 a1 w1 I hb1 => ?_
      refine mcall (f := 30) (ss := [Sum.inl v]) Try.func30 I ((hCp w1 I.hJ).mono fun e w2 he => ?_)
      obtain ⟨v', K1, rfl, hj⟩ := he
      refine goQ [] (FJ.rs w K1 v' l) (I.fj hj I.hJ (fun k h => h) v') fun β3 a3 w3 I hb3 => ?_
      exact outQ (v := .tuple #[v', Z 7]) I ⟨v', K1, rfl, I.hJ⟩
    · rw [show ovW S n = false from decide_eq_false ho] at hO
      rw [if_neg ho]
      have hv0W : v0 < W := by omega
      have hA := addOk add_any hv0W hn (by omega)
      have hm : v0 + n < W := by omega
      obtain ⟨m, hme⟩ : ∃ m, v0 + n = m := ⟨_, rfl⟩
      rw [hme] at hA hm ⊢
      have hWt := hWt m hm
      have hol : (A ++ own (x, y) m ++ B).length ≤ 1000 := by
        rw [List.length_append, List.length_append, own_len]
        split <;> omega
      refine goT (T := Below w.heap.size w) [kC Try.func29 hN, ntO true, cA Try.func9 hS, ntO true, kC Try.func31 hO] (nonR w) (fun _ h => h) I fun β1 a1 w1 I hb1 => ?_
      refine dwA (T := Below w.heap.size w) 9 10 12 43 m [cA Try.func13 hG, kC Try.func22 hA] (nonR w) (fun _ h => h) I fun b vs β2 a2 w2 hag I => ?_
      refine goQ [dO 41 [0, 1, 2] (bd41_3 x y m)] (nonR w) I fun β3 a3 w3 I hb3 => ?_
      refine mcall (f := 32) (ss := [Sum.inl v, Sum.inl (coV (x, y, m))]) Try.func32 I ((hWt w3 I.hJ).mono fun e w4 he => ?_)
      obtain ⟨v', K1, rfl, hj⟩ := he
      obtain ⟨ad, cp, hv'⟩ := hj.sl.slice
      generalize A ++ own (x, y) m ++ B = out at *
      subst hv'
      refine goQ [lnC ad out.length cp, bO .gtr 3 (run_gtrZ (x := out.length) (y := 1000) (b := false) (decide_eq_false (by omega)))] (FJ.rs w K1 _ out) (I.fj hj I.hJ (fun k h => h) _) fun β5 a5 w5 I hb5 => ?_
      exact outQ (v := .tuple #[.slice ad out.length cp, Z 0]) I ⟨_, K1, rfl, I.hJ⟩
set_option maxHeartbeats 4000000 in
theorem take_any {w : World} {x y : ByteArray} {n : Nat} {v : Value} {l A B : List Co} {v0 : Nat} (h : CoI w v l) (hc : capOk v) (hf : Fit l) (hl : l.length ≤ 900) (D : Dec l (x, y) A B v0) (hn : n < W) :
    Calls Try.prog 17 #[v, .string x, .string y, U n] w fun e w' => ∃ v' K1, e = .returned (.tuple #[v', Z (tkP l A B x y v0 n).2]) ∧ FJ w K1 v' (tkP l A B x y v0 n).1 w' := by
  have hG := fun (w' : World) (hb : Below w.heap.size w w') => get_any (h.below C6.loc hb) (by omega) D
  have hN := named_any x y
  have hsm := hf.sm y
  have hv0 := D.le_sum
  have hCp := fun (w' : World) (hb : Below w.heap.size w w') => copied_any (h.below C6.loc hb) (by omega)
  have hWt := fun (m : Nat) (hm : m < W) (w' : World) (hb : Below w.heap.size w w') => with_any (n := m) (h.below C6.loc hb) hc (by omega) D hm
  have hv0W : v0 < W := by omega
  have hA := sub_any v0 n hv0W hn
  unfold tkP
  refine inQ (J := Below w.heap.size w) (F := (· < w.heap.size)) Try.func17 (Below.refl _ _) fun a I => ?_
  cases hq : nmB x y with
  | false =>
    rw [hq] at hN
    rw [if_pos rfl]
    refine goQ [kC Try.func29 hN, ntO false] (nonR w) I fun β1 a1 w1 I hb1 => ?_
    refine mcall (f := 30) (ss := [Sum.inl v]) Try.func30 I ((hCp w1 I.hJ).mono fun e w2 he => ?_)
    obtain ⟨v', K1, rfl, hj⟩ := he
    refine goQ [] (FJ.rs w K1 v' l) (I.fj hj I.hJ (fun k h => h) v') fun β3 a3 w3 I hb3 => ?_
    exact outQ (v := .tuple #[v', Z 2]) I ⟨v', K1, rfl, I.hJ⟩
  | true =>
    rw [hq] at hN
    rw [if_neg (by simp)]
    by_cases ho : v0 < n
    · rw [show unW v0 n = true from decide_eq_true ho] at hA
      rw [if_pos ho]
      generalize subW v0 n = m at hA
      refine goQ [kC Try.func29 hN, ntO true] (nonR w) I fun β1 a1 w1 I hb1 => ?_
      refine dwA (T := Below w.heap.size w) 9 10 10 25 m [cA Try.func13 hG, kC Try.func34 hA] (nonR w) (fun _ h => h) I fun b vs β2 a2 w2 hag I => ?_
      refine goQ [] (nonR w) I fun β3 a3 w3 I hb3 => ?_
      refine mcall (f := 30) (ss := [Sum.inl v]) Try.func30 I ((hCp w3 I.hJ).mono fun e w4 he => ?_)
      obtain ⟨v', K1, rfl, hj⟩ := he
      refine goQ [] (FJ.rs w K1 v' l) (I.fj hj I.hJ (fun k h => h) v') fun β5 a5 w5 I hb5 => ?_
      exact outQ (v := .tuple #[v', Z 16]) I ⟨v', K1, rfl, I.hJ⟩
    · rw [show unW v0 n = false from decide_eq_false ho, show subW v0 n = v0 - n from by unfold subW; rw [show v0 + W - n = v0 - n + W by omega, Nat.add_mod_right, Nat.mod_eq_of_lt (by omega)]] at hA
      rw [if_neg ho]
      have hm : v0 - n < W := by omega
      obtain ⟨m, hme⟩ : ∃ m, v0 - n = m := ⟨_, rfl⟩
      rw [hme] at hA hm ⊢
      have hWt := hWt m hm
      refine goQ [kC Try.func29 hN, ntO true] (nonR w) I fun β1 a1 w1 I hb1 => ?_
      refine dwA (T := Below w.heap.size w) 9 10 10 25 m [cA Try.func13 hG, kC Try.func34 hA] (nonR w) (fun _ h => h) I fun b vs β2 a2 w2 hag I => ?_
      refine goQ [dO 41 [0, 1, 2] (bd41_3 x y m)] (nonR w) I fun β3 a3 w3 I hb3 => ?_
      refine mcall (f := 32) (ss := [Sum.inl v, Sum.inl (coV (x, y, m))]) Try.func32 I ((hWt w3 I.hJ).mono fun e w4 he => ?_)
      obtain ⟨v', K1, rfl, hj⟩ := he
      generalize A ++ own (x, y) m ++ B = out at *
      refine goQ [] (FJ.rs w K1 v' out) (I.fj hj I.hJ (fun k h => h) _) fun β5 a5 w5 I hb5 => ?_
      exact outQ (v := .tuple #[v', Z 0]) I ⟨_, K1, rfl, I.hJ⟩
end Go.Proofs.Ytpjplicioidknaa
