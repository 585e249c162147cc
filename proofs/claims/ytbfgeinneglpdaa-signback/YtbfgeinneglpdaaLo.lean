/- The document's long division, told by numbers. -/
import Derived.Test.YtbfgeinneglpdaaLm
import Derived.Test.YtbfgeinneglpdaaMo
namespace Go.Proofs.Ytbfgeinneglpdaa
open Go.RowKit Go.Sort
set_option linter.unusedVariables false
theorem top_there (f : Nat → Nat) : ∀ N : Nat, ∃ n, n ≤ N ∧ (∀ i, n ≤ i → i < N → f i = 0) ∧ (0 < n → f (n - 1) ≠ 0)
  | 0 => ⟨0, Nat.le_refl _, fun i _ h => by omega, fun h => by omega⟩
  | N + 1 => by
    by_cases h : f N = 0
    · obtain ⟨n, h1, h2, h3⟩ := top_there f N
      refine ⟨n, by omega, fun i hi hi2 => ?_, h3⟩
      by_cases e : i = N
      · subst e; exact h
      · exact h2 i hi (by omega)
    · exact ⟨N + 1, Nat.le_refl _, fun i h1 h2 => by omega, fun _ => h⟩
theorem top_same {f : Nat → Nat} {n m : Nat} (hn : n ≤ 8) (hm : m ≤ 8) (h1 : ∀ i, n ≤ i → i < 8 → f i = 0) (h2 : 0 < n → f (n - 1) ≠ 0) (k1 : ∀ i, m ≤ i → i < 8 → f i = 0) (k2 : 0 < m → f (m - 1) ≠ 0) : n = m := by
  rcases Nat.lt_trichotomy n m with h | h | h
  · exact absurd (h1 (m - 1) (by omega) (by omega)) (k2 (by omega))
  · exact h
  · exact absurd (k1 (n - 1) (by omega) (by omega)) (h2 (by omega))
theorem top_any (f : Nat → Nat) (n : Nat) (hn : n ≤ 8) (h1 : ∀ i, n ≤ i → i < 8 → f i = 0) (h2 : 0 < n → f (n - 1) ≠ 0) (w : World) :
    Calls Try.prog 57 #[A8 f] w fun e w' => e = .returned (.int .i64 (n : Int)) ∧ Below w.heap.size w w' := by
  refine (top_raw f w).mono ?_
  rintro e w' ⟨⟨m, hm, k1, k2, rfl⟩, hb⟩
  rw [top_same hn hm h1 h2 k1 k2]
  exact ⟨rfl, hb⟩
theorem ag_cong {k : IntKind} {n : Nat} {f g : Nat → Nat} (h : ∀ i, i < n → f i = g i) : ag k n f = ag k n g := by
  apply Array.ext_getElem?
  intro i
  rw [ag_get, ag_get]
  by_cases hi : i < n
  · rw [if_pos hi, if_pos hi, h i hi]
  · rw [if_neg hi, if_neg hi]
theorem LR.same {X V : Nat} {q o : Nat → Nat} (h : LR X V q o) : Value.tuple #[A16 q, A8 o] = Value.tuple #[A16 (dg (X / V)), A8 (dg (rm X V))] := by
  have e1 : ag .u64 16 q = ag .u64 16 (dg (X / V)) := ag_cong fun i hi => by rw [← h.vq, dg_vl h.hq hi]
  have e2 : ag .u64 8 o = ag .u64 8 (dg (rm X V)) := ag_cong fun i hi => by unfold rm; rw [← h.vo, dg_vl h.ho hi]
  unfold A16 A8
  rw [e1, e2]
theorem long_any (d m : Nat → Nat) (hd : ∀ i, i < 16 → d i < D) (hm : ∀ i, i < 8 → m i < D) (w : World) :
    Calls Try.prog 50 #[A16 d, A8 m] w fun e w' => e = .returned (.tuple #[A16 (dg (vl d 0 16 / vl m 0 8)), A8 (dg (rm (vl d 0 16) (vl m 0 8)))]) ∧ Below w.heap.size w w' := by
  obtain ⟨n, hn, h1, h2⟩ := top_there m 8
  have ct := fun w => top_any m n hn h1 h2 w
  rcases n with _ | _ | k
  · have e : vl m 0 8 = 0 := vl_of_zero fun i hi => by rw [Nat.zero_add]; exact h1 i (Nat.zero_le _) hi
    rw [e]
    refine (long_zero d m (vl d 0 16) ct w).mono ?_
    rintro e w' ⟨⟨q, o, hL, rfl⟩, hb⟩
    exact ⟨by rw [hL.same], hb⟩
  · have e : vl m 0 8 = m 0 := by rw [vl_cut (f := m) (a := 1) (b := 8) (by omega) h1, vl_one]
    rw [e]
    refine (long_one d m (Nat.pos_of_ne_zero (h2 (by omega))) (hm 0 (by omega)) hd ct w).mono ?_
    rintro e w' ⟨⟨q, o, hL, rfl⟩, hb⟩
    exact ⟨by rw [hL.same], hb⟩
  · refine (long_main d m k (by omega) hd hm (Nat.pos_of_ne_zero (h2 (by omega))) h1 (fun w => ?_) w).mono ?_
    · have h := ct w
      rw [show ((k + 1 + 1 : Nat) : Int) = (k : Int) + 2 by omega] at h
      exact h
    · rintro e w' ⟨⟨q, o, hL, rfl⟩, hb⟩
      exact ⟨by rw [hL.same], hb⟩
end Go.Proofs.Ytbfgeinneglpdaa
