/- Records: what they are, and how bytes are read as such (no program). -/
import Derived.Test.YtdlanihbpbfbcaaDoorHj
namespace Go.Proofs.YtdlanihbpbfbcaaDoor
open Go.RowKit
set_option linter.unusedVariables false
theorem told_size (f : Nat → Nat) : (told f).size = 32 := by
  unfold told strOfNums
  show Array.size _ = 32
  simp
abbrev Tx : Type := List UInt8
/-- A text's sum. -/
def hsh (l : Tx) : Tx := (told (spg (blks ⟨l.toArray⟩))).data.toList
theorem hsh_len (l : Tx) : (hsh l).length = 32 := told_size _
/-- A length as four bytes. -/
def hd4 (n : Nat) : Tx := [UInt8.ofNat (n / 16777216), UInt8.ofNat (n / 65536), UInt8.ofNat (n / 256), UInt8.ofNat n]
def gb (l : Tx) (i : Nat) : Nat := (l.getD i 0).toNat
theorem gb_lt (l : Tx) (i : Nat) : gb l i < 256 := UInt8.toNat_lt _
theorem gb_get {l : Tx} {i : Nat} (h : i < l.length) : ∃ b, l[i]? = some b ∧ b.toNat = gb l i := ⟨l[i], List.getElem?_eq_getElem h, by unfold gb; rw [List.getD_eq_getElem?_getD, List.getElem?_eq_getElem h]; rfl⟩
/-- The length that bytes begin with. -/
def num4 (s : Tx) : Nat := ((gb s 0 * 256 + gb s 1) * 256 + gb s 2) * 256 + gb s 3
/-- A record. -/
def fr (l : Tx) : Tx := if 65536 < l.length then [] else (hd4 l.length ++ (hsh (hd4 l.length ++ l)).take 4) ++ l
/-- The text of the record that bytes begin with. -/
def rd1 (s : Tx) : Option Tx :=
  if s.length < 8 then none else if 65536 < num4 s then none else if s.length - 8 < num4 s then none
  else if fr ((s.take (8 + num4 s)).drop 8) = s.take (8 + num4 s) then some ((s.take (8 + num4 s)).drop 8) else none
def rdN : Nat → Tx → List Tx
  | 0, _ => []
  | k + 1, s => match rd1 s with
    | none => []
    | some t => t :: rdN k (s.drop (8 + t.length))
/-- All records that bytes begin with. -/
def rdA (s : Tx) : List Tx := rdN s.length s
/-- Where a record begins. -/
def pos (l : List Tx) (i : Nat) : Nat := ((l.take i).map fun t => 8 + t.length).sum
theorem hd4_len (n : Nat) : (hd4 n).length = 4 := rfl
theorem fr_long {l : Tx} (h : 65536 < l.length) : fr l = [] := if_pos h
theorem fr_short {l : Tx} (h : l.length ≤ 65536) : fr l = (hd4 l.length ++ (hsh (hd4 l.length ++ l)).take 4) ++ l := if_neg (by omega)
theorem fr_len {l : Tx} (h : l.length ≤ 65536) : (fr l).length = 8 + l.length := by
  rw [fr_short h]
  simp [hd4_len, hsh_len]
  omega
theorem fr_le (l : Tx) : (fr l).length ≤ 65544 := by
  by_cases h : 65536 < l.length
  · rw [fr_long h]; simp
  · rw [fr_len (by omega)]; omega
theorem fr_drop {l : Tx} (h : l.length ≤ 65536) : (fr l).drop 8 = l := by
  rw [fr_short h]
  have : (hd4 l.length ++ (hsh (hd4 l.length ++ l)).take 4).length = 8 := by simp [hd4_len, hsh_len]
  rw [← this, List.drop_left]
theorem num4_fr {l : Tx} (h : l.length ≤ 65536) (r : Tx) : num4 (fr l ++ r) = l.length := by
  rw [fr_short h]
  unfold num4 gb hd4
  simp only [List.cons_append, List.getD_cons_zero, List.getD_cons_succ, UInt8.toNat_ofNat']
  omega
theorem num4_take (s : Tx) {k : Nat} (h : 4 ≤ k) : num4 (s.take k) = num4 s := by
  unfold num4 gb
  simp only [List.getD_eq_getElem?_getD, List.getElem?_take]
  rw [if_pos (by omega), if_pos (by omega), if_pos (by omega), if_pos (by omega)]
theorem rd1_fr {l : Tx} (h : l.length ≤ 65536) (r : Tx) : rd1 (fr l ++ r) = some l := by
  have e := fr_len h
  have ht : (fr l ++ r).take (8 + l.length) = fr l := by rw [← e, List.take_left]
  unfold rd1
  rw [num4_fr h, ht, fr_drop h, if_neg (by rw [List.length_append]; omega), if_neg (by omega), if_neg (by rw [List.length_append]; omega), if_pos rfl]
theorem rd1_spec {s t : Tx} (h : rd1 s = some t) : s = fr t ++ s.drop (8 + t.length) ∧ t.length ≤ 65536 ∧ 8 + t.length ≤ s.length := by
  unfold rd1 at h
  split at h
  · cases h
  split at h
  · cases h
  split at h
  · cases h
  split at h
  · next h1 h2 h3 h4 =>
    have e := Option.some.inj h
    rw [e] at h4
    have hl : t.length = num4 s := by rw [← e, List.length_drop, List.length_take]; omega
    rw [hl, h4, List.take_append_drop]
    exact ⟨rfl, by omega, by omega⟩
  · cases h
theorem rd1_pre {t : Tx} (h : t.length ≤ 65536) {k : Nat} (hk : k < 8 + t.length) : rd1 ((fr t).take k) = none := by
  have e := fr_len h
  have hl : ((fr t).take k).length = k := by rw [List.length_take]; omega
  unfold rd1
  rw [hl]
  by_cases h8 : k < 8
  · rw [if_pos h8]
  · have := num4_fr h []
    rw [List.append_nil] at this
    rw [if_neg h8, num4_take _ (by omega), this, if_neg (by omega), if_pos (by omega)]
theorem rd1_take {b t : Tx} {c : Nat} (h : rd1 (b.take c) = some t) : rd1 b = some t := by
  obtain ⟨h1, h2, _⟩ := rd1_spec h
  have : b = fr t ++ ((b.take c).drop (8 + t.length) ++ b.drop c) := by rw [← List.append_assoc, ← h1, List.take_append_drop]
  rw [this]
  exact rd1_fr h2 _
theorem rdN_fuel : ∀ (k k' : Nat) (s : Tx), s.length ≤ k → s.length ≤ k' → rdN k s = rdN k' s
  | 0, 0, _, _, _ => rfl
  | 0, k' + 1, s, h, _ => by
    have : s = [] := List.length_eq_zero_iff.1 (by omega)
    subst this
    rfl
  | k + 1, 0, s, _, h => by
    have : s = [] := List.length_eq_zero_iff.1 (by omega)
    subst this
    rfl
  | k + 1, k' + 1, s, h, h' => by
    unfold rdN
    cases hr : rd1 s with
    | none => rfl
    | some t =>
      have := (rd1_spec hr).2.2
      simp only []
      rw [rdN_fuel k k' (s.drop (8 + t.length)) (by rw [List.length_drop]; omega) (by rw [List.length_drop]; omega)]
theorem rdA_none {s : Tx} (h : rd1 s = none) : rdA s = [] := by
  unfold rdA
  cases s with
  | nil => rfl
  | cons x s => rw [List.length_cons]; unfold rdN; rw [h]
theorem rdA_some {s t : Tx} (h : rd1 s = some t) : rdA s = t :: rdA (s.drop (8 + t.length)) := by
  have h8 := (rd1_spec h).2.2
  unfold rdA
  obtain ⟨k, hk⟩ : ∃ k, s.length = k + 1 := ⟨s.length - 1, by omega⟩
  rw [hk]
  conv => lhs; unfold rdN
  rw [h]
  simp only []
  rw [rdN_fuel k _ (s.drop (8 + t.length)) (by rw [List.length_drop]; omega) (Nat.le_refl _)]
theorem pos_zero (l : List Tx) : pos l 0 = 0 := rfl
theorem pos_cons (t : Tx) (l : List Tx) (i : Nat) : pos (t :: l) (i + 1) = 8 + t.length + pos l i := by
  unfold pos
  rw [List.take_succ_cons, List.map_cons, List.sum_cons]
theorem pos_step {l : List Tx} {i : Nat} {t : Tx} (h : l[i]? = some t) : pos l (i + 1) = pos l i + (8 + t.length) := by
  unfold pos
  rw [List.take_add_one, h]
  simp
theorem pos_mono (l : List Tx) {i j : Nat} (h : i ≤ j) : pos l i ≤ pos l j := by
  unfold pos
  obtain ⟨d, rfl⟩ := Nat.exists_eq_add_of_le h
  rw [List.take_add, List.map_append, List.sum_append]
  omega
theorem pos_take (l : List Tx) (j : Nat) : pos (l.take j) (l.take j).length = pos l j := by
  unfold pos
  rw [List.take_length]
/-- Strong induction over the bytes. -/
theorem rd_ind {M : Tx → Prop} (h0 : ∀ s, rd1 s = none → M s) (h1 : ∀ s t, rd1 s = some t → M (s.drop (8 + t.length)) → M s) : ∀ s, M s := by
  have : ∀ n s, s.length ≤ n → M s := fun n => by
    induction n with
    | zero => exact fun s hs => h0 s (by unfold rd1; rw [if_pos (by omega)])
    | succ n ih =>
      intro s hs
      cases hr : rd1 s with
      | none => exact h0 s hr
      | some t =>
        have := (rd1_spec hr).2.2
        exact h1 s t hr (ih _ (by rw [List.length_drop]; omega))
  exact fun s => this _ s (Nat.le_refl _)
theorem rd_at : ∀ (s : Tx) (i : Nat), i ≤ (rdA s).length → rd1 (s.drop (pos (rdA s) i)) = (rdA s)[i]? ∧ pos (rdA s) i ≤ s.length ∧ i ≤ pos (rdA s) i :=
  rd_ind (fun s h i hi => by
    rw [rdA_none h] at hi ⊢
    obtain rfl : i = 0 := by simpa using hi
    rw [pos_zero, List.drop_zero, h]
    exact ⟨rfl, Nat.zero_le _, Nat.zero_le _⟩) (fun s t h ih i hi => by
    rw [rdA_some h] at hi ⊢
    cases i with
    | zero => rw [pos_zero, List.drop_zero, h]; exact ⟨rfl, Nat.zero_le _, Nat.zero_le _⟩
    | succ i =>
      obtain ⟨e1, e2, e3⟩ := ih i (by simpa using hi)
      have h8 := (rd1_spec h).2.2
      rw [pos_cons, ← List.drop_drop, e1]
      rw [List.length_drop] at e2
      exact ⟨rfl, by omega, by omega⟩)
theorem rd_mem : ∀ (s : Tx), ∀ t ∈ rdA s, t.length ≤ 65536 :=
  rd_ind (fun s h t ht => by rw [rdA_none h] at ht; cases ht) (fun s t h ih x hx => by
    rw [rdA_some h] at hx
    rcases List.mem_cons.1 hx with rfl | hx
    · exact (rd1_spec h).2.1
    · exact ih x hx)
/-- The records of some texts, one behind the other. -/
def frs (l : List Tx) : Tx := (l.map fr).flatten
theorem frs_nil : frs [] = [] := rfl
theorem frs_cons (t : Tx) (l : List Tx) : frs (t :: l) = fr t ++ frs l := rfl
theorem frs_snoc (l : List Tx) (t : Tx) : frs (l ++ [t]) = frs l ++ fr t := by unfold frs; simp
theorem frs_take {l : List Tx} {i : Nat} {t : Tx} (h : l[i]? = some t) : frs (l.take (i + 1)) = frs (l.take i) ++ fr t := by
  rw [List.take_add_one, h, Option.toList_some, frs_snoc]
theorem frs_len : ∀ {l : List Tx}, (∀ t ∈ l, t.length ≤ 65536) → (frs l).length = pos l l.length
  | [], _ => rfl
  | t :: l, h => by rw [frs_cons, List.length_append, fr_len (h t (by simp)), frs_len (fun x hx => h x (by simp [hx])), List.length_cons, pos_cons]
theorem frs_le (l : List Tx) : (frs l).length ≤ 65544 * l.length := by
  induction l with
  | nil => simp [frs]
  | cons t l ih =>
    have := fr_le t
    rw [frs_cons, List.length_append, List.length_cons]
    omega
/-- The records of what is told are the bytes told of. -/
theorem rd_begins : ∀ (b : Tx), frs (rdA b) = b.take (pos (rdA b) (rdA b).length) :=
  rd_ind (fun s h => by rw [rdA_none h]; rfl) (fun s t h ih => by
    obtain ⟨h1, h2, h3⟩ := rd1_spec h
    rw [rdA_some h, frs_cons, ih, List.length_cons, pos_cons]
    have e := fr_len h2
    generalize s.drop (8 + t.length) = r at h1 ⊢
    rw [h1, ← e, List.take_length_add_append])
/-- There and back. -/
theorem rd_back (r : Tx) : ∀ (l : List Tx), (∀ t ∈ l, t.length ≤ 65536) → rdA (frs l ++ r) = l ++ rdA r
  | [], _ => rfl
  | t :: l, h => by
    have ht := h t (by simp)
    rw [frs_cons, List.append_assoc, rdA_some (rd1_fr ht _), ← fr_len ht, List.drop_left, rd_back r l fun x hx => h x (by simp [hx])]
    rfl
theorem rd_cut : ∀ (b : Tx) (c : Nat), ∃ j, j ≤ (rdA b).length ∧ rdA (b.take c) = (rdA b).take j :=
  rd_ind (fun b h c => ⟨0, Nat.zero_le _, by
    rw [List.take_zero]
    cases hr : rd1 (b.take c) with
    | none => exact rdA_none hr
    | some t => rw [rd1_take hr] at h; cases h⟩) (fun b t h ih c => by
    cases hr : rd1 (b.take c) with
    | none => exact ⟨0, Nat.zero_le _, rdA_none hr⟩
    | some t' =>
      have := rd1_take hr
      rw [h] at this
      cases this
      have h8 := (rd1_spec hr).2.2
      obtain ⟨j, h1, h2⟩ := ih (c - (8 + t.length))
      refine ⟨j + 1, by rw [rdA_some h, List.length_cons]; omega, ?_⟩
      rw [rdA_some hr, rdA_some h, List.take_succ_cons, ← h2, List.drop_take])
end Go.Proofs.YtdlanihbpbfbcaaDoor
