/- Ledgers as lists of allocations: places, amounts, what is told of both calls. No function of the program is named here. -/
import Derived.Test.YtdiblfgnnliifaaPb
namespace Go.Proofs.Ytdiblfgnnliifaa
open Go.RowKit Go.Sort
set_option linter.unusedVariables false
abbrev aD : Al := (⟨#[]⟩, 0, 0, ⟨#[]⟩, ⟨#[]⟩)
/-- The first place of which something is told; the length, if there is none. -/
def ixN (p : Al → Bool) : List Al → Nat
  | [] => 0
  | x :: l => if p x = true then 0 else ixN p l + 1
def ixZ (p : Al → Bool) (l : List Al) : Int := if ixN p l < l.length then (ixN p l : Nat) else -1
theorem ix_le (p : Al → Bool) : ∀ l, ixN p l ≤ l.length
  | [] => Nat.le_refl _
  | x :: l => by
    have := ix_le p l
    unfold ixN
    split
    · exact Nat.zero_le _
    · rw [List.length_cons]; omega
theorem ix_get (p : Al → Bool) : ∀ l, ixN p l < l.length → ∃ x, l[ixN p l]? = some x ∧ p x = true
  | [], h => by simp at h
  | x :: l, h => by
    unfold ixN at h ⊢
    by_cases hx : p x = true
    · rw [if_pos hx]; exact ⟨x, rfl, hx⟩
    · rw [if_neg hx] at h ⊢
      obtain ⟨y, h1, h2⟩ := ix_get p l (by rw [List.length_cons] at h; omega)
      exact ⟨y, by simpa using h1, h2⟩
theorem ix_no (p : Al → Bool) : ∀ l j x, j < ixN p l → l[j]? = some x → p x = false
  | [], j, x, h, hx => by simp at hx
  | y :: l, j, x, h, hx => by
    unfold ixN at h
    by_cases hy : p y = true
    · rw [if_pos hy] at h; omega
    · rw [if_neg hy] at h
      cases j with
      | zero => simp at hx; subst hx; simpa using hy
      | succ j => exact ix_no p l j x (by omega) (by simpa using hx)
theorem ix_is (p : Al → Bool) : ∀ (l : List Al) (i : Nat) (x : Al), l[i]? = some x → p x = true → (∀ j y, j < i → l[j]? = some y → p y = false) → ixN p l = i
  | [], i, x, hx, _, _ => by simp at hx
  | y :: l, 0, x, hx, hp, _ => by
    simp at hx; subst hx
    unfold ixN; rw [if_pos hp]
  | y :: l, i + 1, x, hx, hp, hn => by
    have hy := hn 0 y (by omega) rfl
    have := ix_is p l i x (by simpa using hx) hp (fun j z hj hz => hn (j + 1) z (by omega) (by simpa using hz))
    unfold ixN; rw [if_neg (by rw [hy]; decide), this]
theorem ix_none (p : Al → Bool) : ∀ (l : List Al), (∀ x ∈ l, p x = false) → ixN p l = l.length
  | [], _ => rfl
  | x :: l, h => by
    have := ix_none p l fun y hy => h y (by simp [hy])
    unfold ixN; rw [if_neg (by rw [h x (by simp)]; decide), this]; rfl
theorem ix_map (p : Al → Bool) : ∀ (l m : List Al), l.map p = m.map p → ixN p l = ixN p m
  | [], [], _ => rfl
  | [], y :: m, h => by simp at h
  | x :: l, [], h => by simp at h
  | x :: l, y :: m, h => by
    simp only [List.map_cons, List.cons.injEq] at h
    unfold ixN
    rw [h.1, ix_map p l m h.2]
theorem ix_any (p : Al → Bool) (l : List Al) : decide (0 ≤ ixZ p l) = l.any p := by
  unfold ixZ
  by_cases h : ixN p l < l.length
  · rw [if_pos h]
    obtain ⟨x, h1, h2⟩ := ix_get p l h
    rw [List.any_eq_true.2 ⟨x, List.mem_of_getElem? h1, h2⟩]
    simp
  · rw [if_neg h]
    have hq : l.any p = false := by
      rw [List.any_eq_false]
      intro x hx hp
      obtain ⟨j, hj⟩ := List.mem_iff_getElem?.1 hx
      have := ix_no p l j x (by have := (List.getElem?_eq_some_iff.1 hj).1; omega) hj
      rw [this] at hp; cases hp
    rw [hq]; decide
/-- Whether one is plain, and goes to so and so. -/
def plP (d : ByteArray) (x : Al) : Bool := decide (x.2.2.1 = 0) && decide (x.1 = d)
abbrev pl (l : List Al) (d : ByteArray) : Nat := ixN (plP d) l
def am (l : List Al) (i : Nat) : Nat := (l.getD i aD).2.1
/-- With another amount at a place. -/
def stA (l : List Al) (i n : Nat) : List Al := l.modify i fun x => (x.1, n, x.2.2)
theorem getD_is {α : Type} {l : List α} {i : Nat} {x d : α} (h : l[i]? = some x) : l.getD i d = x := by rw [List.getD_eq_getElem?_getD, h]; rfl
theorem am_is {l : List Al} {i : Nat} {x : Al} (h : l[i]? = some x) : am l i = x.2.1 := by unfold am; rw [getD_is h]
theorem stA_len (l : List Al) (i n : Nat) : (stA l i n).length = l.length := by simp [stA]
theorem stA_get (l : List Al) (i n j : Nat) : (stA l i n)[j]? = if i = j then (l[j]?).map (fun x => (x.1, n, x.2.2)) else l[j]? := by
  unfold stA
  rw [List.getElem?_modify]
  split <;> simp
theorem stA_other (l : List Al) {i j : Nat} (n : Nat) (h : i ≠ j) : (stA l i n)[j]? = l[j]? := by rw [stA_get, if_neg h]
theorem stA_same {l : List Al} {i : Nat} {x : Al} (n : Nat) (h : l[i]? = some x) : (stA l i n)[i]? = some (x.1, n, x.2.2) := by rw [stA_get, if_pos rfl, h]; rfl
theorem am_st (l : List Al) (i n j : Nat) : am (stA l i n) j = if i = j ∧ j < l.length then n else am l j := by
  unfold am
  rw [List.getD_eq_getElem?_getD, stA_get, List.getD_eq_getElem?_getD]
  by_cases h : i = j
  · by_cases hj : j < l.length
    · rw [if_pos h, if_pos ⟨h, hj⟩, List.getElem?_eq_getElem hj]; rfl
    · rw [if_pos h, if_neg (fun q => hj q.2), List.getElem?_eq_none (by omega)]; rfl
  · rw [if_neg h, if_neg (fun q => h q.1)]
theorem stA_pl (l : List Al) (i n : Nat) (d : ByteArray) : pl (stA l i n) d = pl l d := by
  refine ix_map _ _ _ (List.ext_getElem? fun j => ?_)
  rw [List.getElem?_map, List.getElem?_map, stA_get]
  split
  · cases l[j]? with
    | none => rfl
    | some x => rfl
  · rfl
def Lt (l : List Al) : Prop := ∀ x ∈ l, x.2.1 < W
theorem am_lt {l : List Al} (h : Lt l) (i : Nat) : am l i < W := by
  unfold am
  rw [List.getD_eq_getElem?_getD]
  cases hq : l[i]? with
  | none => decide
  | some x => exact h x (List.mem_of_getElem? hq)
theorem stA_lt {l : List Al} (h : Lt l) (i : Nat) {n : Nat} (hn : n < W) : Lt (stA l i n) := fun x hx => by
  obtain ⟨j, hj⟩ := List.mem_iff_getElem?.1 hx
  rw [stA_get] at hj
  split at hj
  · cases hq : l[j]? with
    | none => rw [hq] at hj; cases hj
    | some y => rw [hq] at hj; cases hj; exact hn
  · exact h x (List.mem_of_getElem? hj)
def tot (l : List Al) : Nat := (l.map fun x => x.2.1).sum
theorem tot_st : ∀ (l : List Al) (i n : Nat), i < l.length → tot (stA l i n) + am l i = tot l + n
  | [], i, n, h => by simp at h
  | x :: l, 0, n, _ => by
    show (n + tot l) + x.2.1 = (x.2.1 + tot l) + n
    omega
  | x :: l, i + 1, n, h => by
    have := tot_st l i n (by rw [List.length_cons] at h; omega)
    have e : am (x :: l) (i + 1) = am l i := by simp [am]
    show (x.2.1 + tot (stA l i n)) + _ = (x.2.1 + tot l) + n
    rw [e]; omega
theorem tot_er : ∀ (l : List Al) (i : Nat), i < l.length → tot (l.eraseIdx i) + am l i = tot l
  | [], i, h => by simp at h
  | x :: l, 0, _ => by
    show tot l + x.2.1 = x.2.1 + tot l
    omega
  | x :: l, i + 1, h => by
    have := tot_er l i (by rw [List.length_cons] at h; omega)
    have e : am (x :: l) (i + 1) = am l i := by simp [am]
    show (x.2.1 + tot (l.eraseIdx i)) + _ = x.2.1 + tot l
    rw [e]; omega
theorem tot_app (l m : List Al) : tot (l ++ m) = tot l + tot m := by simp [tot]
/-- Where a place is, once another one is gone. -/
def shK (k j : Nat) : Nat := if j < k then j else j - 1
theorem er_get {l : List Al} {k j : Nat} (h : j ≠ k) : (l.eraseIdx k)[shK k j]? = l[j]? := by
  unfold shK
  rw [List.getElem?_eraseIdx]
  by_cases hj : j < k
  · rw [if_pos hj, if_pos hj]
  · rw [if_neg hj, if_neg (by omega), show j - 1 + 1 = j by omega]
theorem er_back {l : List Al} {k j : Nat} : ∃ i, i ≠ k ∧ j = shK k i ∧ (l.eraseIdx k)[j]? = l[i]? := by
  by_cases hj : j < k
  · refine ⟨j, by omega, ?_, ?_⟩
    · unfold shK; rw [if_pos hj]
    · rw [List.getElem?_eraseIdx, if_pos hj]
  · refine ⟨j + 1, by omega, ?_, ?_⟩
    · unfold shK; rw [if_neg (by omega)]; omega
    · rw [List.getElem?_eraseIdx, if_neg hj]
theorem sh_lt {k i j : Nat} (hi : i ≠ k) (hj : j ≠ k) : shK k i < shK k j ↔ i < j := by
  unfold shK
  split <;> split <;> omega
theorem sh_inj {k i j : Nat} (hi : i ≠ k) (hj : j ≠ k) (h : shK k i = shK k j) : i = j := by
  unfold shK at h
  split at h <;> split at h <;> omega
theorem er_pl {l : List Al} {k : Nat} {x : Al} {d : ByteArray} (hk : l[k]? = some x) (hx : plP d x = false) (h : pl l d < l.length) : pl (l.eraseIdx k) d = shK k (pl l d) := by
  obtain ⟨y, h1, h2⟩ := ix_get _ _ h
  have hne : pl l d ≠ k := fun e => by
    rw [show ixN (plP d) l = k from e, hk] at h1
    cases h1
    rw [hx] at h2; cases h2
  refine ix_is _ _ _ y (by rw [er_get hne]; exact h1) h2 fun j z hj hz => ?_
  obtain ⟨i, hi, rfl, hg⟩ := er_back (l := l) (k := k) (j := j)
  rw [hg] at hz
  exact ix_no _ l i z ((sh_lt hi hne).1 hj) hz
theorem er_st {l : List Al} {k i : Nat} (n : Nat) (h : i ≠ k) : stA (l.eraseIdx k) (shK k i) n = (stA l i n).eraseIdx k := by
  refine List.ext_getElem? fun j => ?_
  obtain ⟨q, hq, rfl, hg⟩ := er_back (l := l) (k := k) (j := j)
  rw [stA_get, hg, er_get hq, stA_get]
  by_cases e : i = q
  · rw [if_pos e, if_pos (by rw [e])]
  · rw [if_neg e, if_neg (fun he => e (sh_inj h hq he))]
theorem er_am {l : List Al} {k j : Nat} (h : j ≠ k) : am (l.eraseIdx k) (shK k j) = am l j := by
  unfold am
  rw [List.getD_eq_getElem?_getD, List.getD_eq_getElem?_getD, er_get h]
/-- Whether a number is a place. -/
def isP (l : List Al) (k : Int) : Bool := decide (0 ≤ k) && decide (k < l.length)
theorem isP_nat {l : List Al} {k : Int} (h : isP l k = true) : ∃ i : Nat, k = i ∧ i < l.length := by
  unfold isP at h
  simp only [Bool.and_eq_true, decide_eq_true_eq] at h
  exact ⟨k.toNat, by omega, by omega⟩
def npP (x : Al) : Bool := decide (x.2.2.1 ≠ 0)
/-- Why shares can't end what is bound at a place, whoever its sides are. -/
def rfE (l : List Al) (k : Int) (s : List Al) : Int :=
  if isP l k = false then 3
  else if (l.getD k.toNat aD).2.2.1 ≠ 1 ∨ s.length ≠ 2 ∨ s.any npP = true then 2
  else if W ≤ am s 0 + am s 1 ∨ am s 0 + am s 1 ≠ am l k.toNat then 16 else 0
abbrev lfD (l : List Al) (k : Nat) : ByteArray := (l.getD k aD).2.2.2.1
abbrev rgD (l : List Al) (k : Nat) : ByteArray := (l.getD k aD).2.2.2.2
/-- Why they can't for their sides. -/
def sdE (l : List Al) (p q a b : Nat) : Int :=
  if l.length ≤ p ∨ l.length ≤ q then 9 else if W ≤ am l p + a then 7 else if W ≤ am (stA l p (am l p + a)) q + b then 7 else 0
def sdL (l : List Al) (p q a b : Nat) : List Al := stA (stA l p (am l p + a)) q (am (stA l p (am l p + a)) q + b)
def rcE (l : List Al) (k : Int) (s : List Al) : Int :=
  if rfE l k s ≠ 0 then rfE l k s else sdE l (pl l (lfD l k.toNat)) (pl l (rgD l k.toNat)) (am s 0) (am s 1)
def rcL (l : List Al) (k : Int) (s : List Al) : List Al :=
  if rcE l k s ≠ 0 then l else (sdL l (pl l (lfD l k.toNat)) (pl l (rgD l k.toNat)) (am s 0) (am s 1)).eraseIdx k.toNat
def kdP (l : List Al) (k : Int) : Bool := npP (l.getD k.toNat aD)
def bdE (l : List Al) (n : Nat) (i j : Int) (a b : Nat) : Int :=
  if isP l i = false ∨ isP l j = false ∨ i = j then 3
  else if n ≠ 32 ∨ kdP l i = true ∨ kdP l j = true then 2
  else if am l i.toNat < a ∨ am l j.toNat < b then 16
  else if W ≤ a + b then 7
  else if 8 ≤ l.length then 8 else 0
def bdL (l : List Al) (ch : ByteArray) (i j a b : Nat) : List Al := stA (stA l i (am l i - a)) j (am l j - b) ++ [(ch, a + b, 1, (l.getD i aD).1, (l.getD j aD).1)]
def bdR (l : List Al) (ch : ByteArray) (i j : Int) (a b : Nat) : List Al := if bdE l ch.size i j a b ≠ 0 then l else bdL l ch i.toNat j.toNat a b
end Go.Proofs.Ytdiblfgnnliifaa
