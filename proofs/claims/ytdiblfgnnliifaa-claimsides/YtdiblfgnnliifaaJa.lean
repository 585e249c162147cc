/- Accounts as lists, without a program: their order, sums, and what changes when one's amount does. -/
import Derived.Test.YtdiblfgnnliifaaNum
import Derived.Sort.Walk0
import Derived.Lib.Bytealg
import Derived.Lib.Strings
namespace Go.Proofs.Ytdiblfgnnliifaa
open Go.Sort
set_option linter.unusedVariables false
abbrev Co : Type := ByteArray × ByteArray × Nat
abbrev Kk : Type := ByteArray × ByteArray
def ky (c : Co) : Kk := (c.1, c.2.1)
def ltB (a b : ByteArray) : Bool := Op.bytesLess a.toList b.toList
theorem ltB_eq (a b : ByteArray) : ltB a b = decide (a.data.toList < b.data.toList) := by
  unfold ltB
  rw [bytesLess_eq, Lib.toList_data, Lib.toList_data]
theorem ba_ext {a b : ByteArray} (h : a.data.toList = b.data.toList) : a = b := by
  apply ByteArray.ext
  exact Array.toList_inj.1 h
theorem ltB_irr (a : ByteArray) : ltB a a = false := by
  rw [ltB_eq, decide_eq_false (fun h => List.lt_irrefl _ h)]
theorem ltB_trans {a b c : ByteArray} (h : ltB a b = true) (k : ltB b c = true) : ltB a c = true := by
  rw [ltB_eq] at *
  exact decide_eq_true (List.lt_trans (of_decide_eq_true h) (of_decide_eq_true k))
theorem cmp_spec : ∀ (x y : List UInt8), (Lib.compareBytes x y < 0 ↔ x < y) ∧ (Lib.compareBytes x y = 0 ↔ x = y) ∧ (0 < Lib.compareBytes x y ↔ y < x)
  | [], [] => by simp [Lib.compareBytes]
  | [], b :: bs => by simp [Lib.compareBytes]
  | a :: xs, [] => by simp [Lib.compareBytes]
  | a :: xs, b :: bs => by
    have ih := cmp_spec xs bs
    unfold Lib.compareBytes
    rw [List.cons_lt_cons_iff, List.cons_lt_cons_iff, List.cons.injEq]
    by_cases h1 : a < b
    · have h2 : ¬ b < a := UInt8.lt_asymm h1
      have h3 : ¬ a = b := fun e => by subst e; exact UInt8.lt_irrefl _ h1
      have h4 : ¬ b = a := fun e => h3 e.symm
      simp [h1, h2, h3, h4]
    · by_cases h2 : b < a
      · have h3 : ¬ a = b := fun e => by subst e; exact UInt8.lt_irrefl _ h2
        have h4 : ¬ b = a := fun e => h3 e.symm
        simp [h1, h2, h3, h4]
      · have h3 : a = b := by
          have q1 : ¬ a.toNat < b.toNat := fun h => h1 (UInt8.lt_iff_toNat_lt.2 h)
          have q2 : ¬ b.toNat < a.toNat := fun h => h2 (UInt8.lt_iff_toNat_lt.2 h)
          exact UInt8.toNat_inj.1 (by omega)
        subst h3
        simpa [h1] using ih
theorem cmp_range : ∀ (x y : List UInt8), Lib.compareBytes x y = -1 ∨ Lib.compareBytes x y = 0 ∨ Lib.compareBytes x y = 1
  | [], [] => by simp [Lib.compareBytes]
  | [], b :: bs => by simp [Lib.compareBytes]
  | a :: xs, [] => by simp [Lib.compareBytes]
  | a :: xs, b :: bs => by
    have ih := cmp_range xs bs
    unfold Lib.compareBytes
    split
    · exact .inl rfl
    · split
      · exact .inr (.inr rfl)
      · exact ih
def cmB (a b : ByteArray) : Int := Lib.compareBytes a.data.toList b.data.toList
theorem cmB_lt (a b : ByteArray) : cmB a b < 0 ↔ ltB a b = true := by rw [ltB_eq, decide_eq_true_eq]; exact (cmp_spec _ _).1
theorem cmB_eq (a b : ByteArray) : cmB a b = 0 ↔ a = b := ⟨fun h => ba_ext ((cmp_spec _ _).2.1.1 h), fun h => (cmp_spec _ _).2.1.2 (by rw [h])⟩
theorem cmB_gt (a b : ByteArray) : 0 < cmB a b ↔ ltB b a = true := by rw [ltB_eq, decide_eq_true_eq]; exact (cmp_spec _ _).2.2
/-- Which of two accounts is ahead. -/
def ltK (a b : Kk) : Bool := ltB a.1 b.1 || (decide (a.1 = b.1) && ltB a.2 b.2)
def cmK (a b : Kk) : Int := if cmB a.1 b.1 ≠ 0 then cmB a.1 b.1 else cmB a.2 b.2
theorem cmK_lt (a b : Kk) : cmK a b < 0 ↔ ltK a b = true := by
  unfold cmK ltK
  have h1 := cmB_lt a.1 b.1
  have h2 := cmB_eq a.1 b.1
  by_cases h : cmB a.1 b.1 = 0
  · rw [if_neg (by simp [h]), cmB_lt]
    have e := h2.1 h
    have : ltB b.1 b.1 = false := ltB_irr _
    simp [this, e]
  · rw [if_pos h, h1]
    have e : ¬ a.1 = b.1 := fun e => h (h2.2 e)
    simp [e]
theorem cmK_eq (a b : Kk) : cmK a b = 0 ↔ a = b := by
  unfold cmK
  have h2 := cmB_eq a.1 b.1
  by_cases h : cmB a.1 b.1 = 0
  · rw [if_neg (by simp [h]), cmB_eq]
    exact ⟨fun e => Prod.ext (h2.1 h) e, fun e => by rw [e]⟩
  · rw [if_pos h]
    exact ⟨fun e => absurd e h, fun e => h2.2 (by rw [e])⟩
theorem cmK_gt (a b : Kk) : 0 < cmK a b ↔ ltK b a = true := by
  unfold cmK ltK
  have h1 := cmB_gt a.1 b.1
  have h2 := cmB_eq a.1 b.1
  by_cases h : cmB a.1 b.1 = 0
  · rw [if_neg (by simp [h]), cmB_gt]
    have e := h2.1 h
    have : ltB b.1 b.1 = false := ltB_irr _
    simp [this, e]
  · rw [if_pos h, h1]
    have e : ¬ b.1 = a.1 := fun e => h (h2.2 e.symm)
    simp [e]
theorem ltK_irr (a : Kk) : ltK a a = false := by
  cases h : ltK a a with
  | false => rfl
  | true => have := (cmK_lt a a).2 h; rw [(cmK_eq a a).2 rfl] at this; omega
theorem ltK_ne {a b : Kk} (h : ltK a b = true) : a ≠ b := fun e => by subst e; rw [ltK_irr] at h; cases h
theorem ltK_asym {a b : Kk} (h : ltK a b = true) : ltK b a = false := by
  cases h2 : ltK b a with
  | false => rfl
  | true => have q1 := (cmK_lt a b).2 h; have q2 := (cmK_gt a b).2 h2; omega
theorem ltK_trans {a b c : Kk} (h : ltK a b = true) (k : ltK b c = true) : ltK a c = true := by
  unfold ltK at *
  simp only [Bool.or_eq_true, Bool.and_eq_true, decide_eq_true_eq] at *
  rcases h with h | ⟨h, h'⟩
  · rcases k with k | ⟨k, k'⟩
    · exact .inl (ltB_trans h k)
    · exact .inl (k ▸ h)
  · rcases k with k | ⟨k, k'⟩
    · exact .inl (h ▸ k)
    · exact .inr ⟨h.trans k, ltB_trans h' k'⟩
theorem ltK_tri (a b : Kk) : ltK a b = true ∨ a = b ∨ ltK b a = true := by
  rcases Int.lt_trichotomy (cmK a b) 0 with h | h | h
  · exact .inl ((cmK_lt a b).1 h)
  · exact .inr (.inl ((cmK_eq a b).1 h))
  · exact .inr (.inr ((cmK_gt a b).1 h))
/-- What an account must be. -/
def okC (c : Co) : Bool := decide (c.1.size = 20) && decide (c.2.1.size = 20) && decide (c.2.2 ≠ 0)
def smN (l : List Co) (s : ByteArray) : Nat := (l.map fun c => if c.2.1 = s then c.2.2 else 0).sum
def risB : List Co → Bool
  | x :: y :: r => ltK (ky x) (ky y) && risB (y :: r)
  | _ => true
theorem risB_iff : ∀ {l : List Co}, risB l = true ↔ ∀ (i : Nat) (x y : Co), l[i]? = some x → l[i + 1]? = some y → ltK (ky x) (ky y) = true
  | [] => ⟨fun _ i x y h => by simp at h, fun _ => rfl⟩
  | [x] => ⟨fun _ i x y h h2 => by simp at h2, fun _ => rfl⟩
  | x :: y :: r => by
    have ih := risB_iff (l := y :: r)
    unfold risB
    rw [Bool.and_eq_true, ih]
    refine ⟨fun ⟨h1, h2⟩ i a b ha hb => ?_, fun h => ⟨h 0 x y rfl rfl, fun i a b ha hb => h (i + 1) a b ha hb⟩⟩
    cases i with
    | zero =>
      simp only [List.getElem?_cons_zero, Option.some.injEq, Nat.zero_add, List.getElem?_cons_succ] at ha hb
      subst ha hb
      exact h1
    | succ i => exact h2 i a b ha hb
abbrev Pw (l : List Co) : Prop := l.Pairwise fun a b => ltK (ky a) (ky b) = true
theorem pw_of : ∀ {l : List Co}, risB l = true → Pw l
  | [], _ => List.Pairwise.nil
  | [x], _ => by simp
  | x :: y :: r, h => by
    unfold risB at h
    rw [Bool.and_eq_true] at h
    have ih := pw_of h.2
    rw [Pw, List.pairwise_cons] at ih ⊢
    refine ⟨fun z hz => ?_, List.pairwise_cons.2 ih⟩
    rcases List.mem_cons.1 hz with rfl | hz
    · exact h.1
    · exact ltK_trans h.1 (ih.1 z hz)
theorem ris_of {l : List Co} (h : Pw l) : risB l = true := by
  refine risB_iff.2 fun i x y hx hy => ?_
  have h1 := (List.getElem?_eq_some_iff.1 hx)
  have h2 := (List.getElem?_eq_some_iff.1 hy)
  obtain ⟨i1, rfl⟩ := h1
  obtain ⟨i2, rfl⟩ := h2
  exact List.pairwise_iff_getElem.1 h i (i + 1) i1 i2 (by omega)
/-- Accounts that can be. -/
def fitL (l : List Co) : Bool := decide (l.length ≤ 1000) && l.all okC && risB l && l.all fun c => decide (smN l c.2.1 < W)
def getN (l : List Co) (k : Kk) : Nat := match l.find? fun c => decide (ky c = k) with
  | some c => c.2.2
  | none => 0
/-- One's account, none if it has nothing. -/
def own (k : Kk) (v : Nat) : List Co := if v = 0 then [] else [(k.1, k.2, v)]
theorem own_zero (k : Kk) : own k 0 = [] := rfl
theorem own_pos {k : Kk} {v : Nat} (h : v ≠ 0) : own k v = [(k.1, k.2, v)] := if_neg h
structure Dec (l : List Co) (k : Kk) (A B : List Co) (v : Nat) : Prop where
  eq : l = A ++ own k v ++ B
  lo : ∀ a ∈ A, ltK (ky a) k = true
  hi : ∀ b ∈ B, ltK k (ky b) = true
theorem own_mem {k : Kk} {v : Nat} {c : Co} (h : c ∈ own k v) : v ≠ 0 ∧ c = (k.1, k.2, v) := by
  unfold own at h
  split at h
  · cases h
  · next hv => exact ⟨hv, List.mem_singleton.1 h⟩
theorem dec_ex : ∀ {l : List Co} (k : Kk), Pw l → (∀ c ∈ l, c.2.2 ≠ 0) → ∃ A B v, Dec l k A B v
  | [], k, _, _ => ⟨[], [], 0, rfl, fun a h => by (cases h), fun a h => by (cases h)⟩
  | c :: l, k, h, hn => by
    rw [Pw, List.pairwise_cons] at h
    rcases ltK_tri (ky c) k with hc | hc | hc
    · obtain ⟨A, B, v, D⟩ := dec_ex k h.2 fun c hc => hn c (List.mem_cons_of_mem _ hc)
      exact ⟨c :: A, B, v, by rw [D.eq]; rfl, fun a ha => by rcases List.mem_cons.1 ha with rfl | ha; exact hc; exact D.lo a ha, D.hi⟩
    · refine ⟨[], l, c.2.2, ?_, fun a h => by (cases h), fun b hb => hc ▸ h.1 b hb⟩
      rw [own_pos (hn c List.mem_cons_self), ← hc]
      rfl
    · refine ⟨[], c :: l, 0, rfl, fun a h => by (cases h), fun b hb => ?_⟩
      rcases List.mem_cons.1 hb with rfl | hb
      · exact hc
      · exact ltK_trans hc (h.1 b hb)
theorem smN_app (a b : List Co) (s : ByteArray) : smN (a ++ b) s = smN a s + smN b s := by unfold smN; rw [List.map_append, List.sum_append]
theorem smN_own (k : Kk) (v : Nat) (s : ByteArray) : smN (own k v) s = if k.2 = s then v else 0 := by
  unfold own
  split
  · next h => subst h; split <;> rfl
  · simp [smN]
theorem Dec.sum {l A B : List Co} {k : Kk} {v : Nat} (D : Dec l k A B v) (s : ByteArray) : smN l s = smN A s + (if k.2 = s then v else 0) + smN B s := by rw [D.eq, smN_app, smN_app, smN_own]
theorem find_none {l : List Co} {k : Kk} (h : ∀ c ∈ l, ky c ≠ k) : (l.find? fun c => decide (ky c = k)) = none := by
  rw [List.find?_eq_none]
  intro c hc
  simpa using h c hc
theorem Dec.get {l A B : List Co} {k : Kk} {v : Nat} (D : Dec l k A B v) : getN l k = v := by
  unfold getN
  rw [D.eq, List.find?_append, List.find?_append, find_none fun c hc => ltK_ne (D.lo c hc), find_none fun c hc e => ltK_ne (D.hi c hc) e.symm]
  by_cases hv : v = 0
  · subst hv; rfl
  · rw [own_pos hv]; simp [ky]
/-- Another amount for one account changes no other one's. -/
theorem get_other {A B : List Co} {k k' : Kk} (v v' : Nat) (h : k' ≠ k) : getN (A ++ own k v ++ B) k' = getN (A ++ own k v' ++ B) k' := by
  have e : ∀ v, ((own k v).find? fun c => decide (ky c = k')) = none := fun v => find_none fun c hc e => by
    obtain ⟨_, rfl⟩ := own_mem hc
    exact h e.symm
  unfold getN
  rw [List.find?_append, List.find?_append, List.find?_append, List.find?_append, e v, e v']
theorem get_in {l : List Co} (h : Pw l) {c : Co} (hc : c ∈ l) (hn : ∀ c ∈ l, c.2.2 ≠ 0) : getN l (ky c) = c.2.2 := by
  obtain ⟨A, B, v, D⟩ := dec_ex (ky c) h hn
  rw [D.get]
  rw [D.eq, List.mem_append, List.mem_append] at hc
  rcases hc with (hc | hc) | hc
  · exact absurd rfl (ltK_ne (D.lo c hc))
  · obtain ⟨_, e⟩ := own_mem hc
    rw [e]
  · exact absurd rfl (ltK_ne (D.hi c hc))
theorem le_smN {l : List Co} {c : Co} (hc : c ∈ l) : c.2.2 ≤ smN l c.2.1 := by
  obtain ⟨a, b, rfl⟩ := List.append_of_mem hc
  rw [smN_app]
  simp only [smN, List.map_cons, List.sum_cons, if_true]
  omega
structure Fit (l : List Co) : Prop where
  len : l.length ≤ 1000
  ok : ∀ c ∈ l, okC c = true
  pw : Pw l
  sm : ∀ s, smN l s < W
theorem fit_iff {l : List Co} : fitL l = true ↔ Fit l := by
  unfold fitL
  simp only [Bool.and_eq_true, decide_eq_true_eq, List.all_eq_true]
  refine ⟨fun ⟨⟨⟨h1, h2⟩, h3⟩, h4⟩ => ⟨h1, h2, pw_of h3, fun s => ?_⟩, fun h => ⟨⟨⟨h.len, h.ok⟩, ris_of h.pw⟩, fun c _ => h.sm _⟩⟩
  by_cases hs : ∃ c ∈ l, c.2.1 = s
  · obtain ⟨c, hc, rfl⟩ := hs
    exact h4 c hc
  · have : smN l s = 0 := by
      unfold smN
      rw [List.sum_eq_zero_iff_forall_eq_nat]
      intro x hx
      obtain ⟨c, hc, rfl⟩ := List.mem_map.1 hx
      rw [if_neg fun e => hs ⟨c, hc, e⟩]
    rw [this]
    exact Nat.lt_of_le_of_lt (Nat.zero_le _) (show 0 < W by decide)
theorem okC_iff {c : Co} : okC c = true ↔ c.1.size = 20 ∧ c.2.1.size = 20 ∧ c.2.2 ≠ 0 := by
  unfold okC
  simp only [Bool.and_eq_true, decide_eq_true_eq]
  exact ⟨fun ⟨⟨a, b⟩, c⟩ => ⟨a, b, c⟩, fun ⟨a, b, c⟩ => ⟨⟨a, b⟩, c⟩⟩
theorem Fit.nz {l : List Co} (h : Fit l) : ∀ c ∈ l, c.2.2 ≠ 0 := fun c hc => (okC_iff.1 (h.ok c hc)).2.2
theorem Fit.dec {l : List Co} (h : Fit l) (k : Kk) : ∃ A B v, Dec l k A B v := dec_ex k h.pw h.nz
theorem Dec.lt {l A B : List Co} {k : Kk} {v : Nat} (D : Dec l k A B v) (h : Fit l) : v < W := by
  have := h.sm k.2
  rw [D.sum, if_pos rfl] at this
  omega
/-- Accounts with another amount for one of them. -/
theorem Dec.fit {l A B : List Co} {k : Kk} {v v' : Nat} (D : Dec l k A B v) (h : Fit l) (h1 : k.1.size = 20) (h2 : k.2.size = 20) (hl : (A ++ own k v' ++ B).length ≤ 1000) (hs : smN A k.2 + v' + smN B k.2 < W) : Fit (A ++ own k v' ++ B) := by
  have hA : ∀ c ∈ A, c ∈ l := fun c hc => by rw [D.eq]; simp [hc]
  have hB : ∀ c ∈ B, c ∈ l := fun c hc => by rw [D.eq]; simp [hc]
  have pl := h.pw
  rw [D.eq, Pw, List.pairwise_append, List.pairwise_append] at pl
  refine ⟨hl, fun c hc => ?_, ?_, fun s => ?_⟩
  · rw [List.mem_append, List.mem_append] at hc
    rcases hc with (hc | hc) | hc
    · exact h.ok c (hA c hc)
    · obtain ⟨hv, rfl⟩ := own_mem hc
      exact okC_iff.2 ⟨h1, h2, hv⟩
    · exact h.ok c (hB c hc)
  · rw [Pw, List.pairwise_append, List.pairwise_append]
    refine ⟨⟨pl.1.1, ?_, fun a ha b hb => ?_⟩, pl.2.1, fun a ha b hb => ?_⟩
    · unfold own; split <;> simp
    · obtain ⟨_, rfl⟩ := own_mem hb
      exact D.lo a ha
    · rw [List.mem_append] at ha
      rcases ha with ha | ha
      · exact ltK_trans (D.lo a ha) (D.hi b hb)
      · obtain ⟨_, rfl⟩ := own_mem ha
        exact D.hi b hb
  · have := h.sm s
    rw [D.sum] at this
    rw [smN_app, smN_app, smN_own]
    by_cases e : k.2 = s
    · subst e; rw [if_pos rfl]; exact hs
    · rw [if_neg e] at this ⊢; exact this
theorem Dec.again {l A B : List Co} {k : Kk} {v : Nat} (D : Dec l k A B v) (v' : Nat) : Dec (A ++ own k v' ++ B) k A B v' := ⟨rfl, D.lo, D.hi⟩
theorem own_len (k : Kk) (v : Nat) : (own k v).length = if v = 0 then 0 else 1 := by unfold own; split <;> rfl
/-- Where a binary search stops. -/
theorem Dec.lo_at {l A B : List Co} {k : Kk} {v : Nat} (D : Dec l k A B v) {i : Nat} {c : Co} (hi : i < A.length) (hc : l[i]? = some c) : 0 < cmK k (ky c) := by
  rw [D.eq, List.append_assoc, List.getElem?_append_left hi] at hc
  exact (cmK_gt _ _).2 (D.lo c (List.mem_of_getElem? hc))
theorem Dec.hi_at {l A B : List Co} {k : Kk} {v : Nat} (D : Dec l k A B v) {i : Nat} {c : Co} (hi : A.length ≤ i) (hc : l[i]? = some c) : cmK k (ky c) ≤ 0 := by
  rw [D.eq, List.append_assoc, List.getElem?_append_right hi] at hc
  have hm := List.mem_of_getElem? hc
  rw [List.mem_append] at hm
  rcases hm with hm | hm
  · obtain ⟨_, rfl⟩ := own_mem hm
    have := (cmK_eq k k).2 rfl
    exact Int.le_of_eq this
  · have := (cmK_lt _ _).2 (D.hi c hm)
    omega
theorem Dec.at {l A B : List Co} {k : Kk} {v : Nat} (D : Dec l k A B v) {c : Co} (hc : l[A.length]? = some c) : decide (cmK k (ky c) = 0) = decide (v ≠ 0) := by
  rw [D.eq, List.append_assoc, List.getElem?_append_right (Nat.le_refl _), Nat.sub_self] at hc
  by_cases hv : v = 0
  · subst hv
    rw [own_zero, List.nil_append] at hc
    have := (cmK_lt _ _).2 (D.hi c (List.mem_of_getElem? hc))
    rw [decide_eq_false (by omega), decide_eq_false (by simp)]
  · rw [own_pos hv] at hc
    simp only [List.cons_append, List.getElem?_cons_zero, Option.some.injEq] at hc
    subst hc
    have e0 : cmK k (ky (k.1, k.2, v)) = 0 := (cmK_eq k k).2 rfl
    rw [decide_eq_true e0, decide_eq_true hv]
theorem Dec.len {l A B : List Co} {k : Kk} {v : Nat} (D : Dec l k A B v) : l.length = A.length + (if v = 0 then 0 else 1) + B.length := by rw [D.eq]; simp [own_len, Nat.add_assoc]
theorem Dec.there {l A B : List Co} {k : Kk} {v : Nat} (D : Dec l k A B v) (hv : v ≠ 0) : l[A.length]? = some (k.1, k.2, v) := by
  rw [D.eq, List.append_assoc, List.getElem?_append_right (Nat.le_refl _), Nat.sub_self, own_pos hv]
  rfl
end Go.Proofs.Ytdiblfgnnliifaa
