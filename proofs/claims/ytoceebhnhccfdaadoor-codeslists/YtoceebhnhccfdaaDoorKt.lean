/- A code as text is the text of that code; no program. -/
import Derived.Test.YtoceebhnhccfdaaDoorKq
namespace Go.Proofs.YtoceebhnhccfdaaDoor
open Go.RowKit Go.Sort Go.Shelf
set_option linter.unusedVariables false
set_option maxRecDepth 100000
def noG (s : List UInt8) : Bool := s.all fun b => !gapB b
theorem wl_word : ∀ (s : List UInt8) (g : UInt8) (r : List UInt8), noG s = true → gapB g = true → wl (s ++ g :: r) = s.length
  | [], g, r, _, hg => by simp [wl, hg]
  | b :: s, g, r, h, hg => by
    simp only [noG, List.all_cons, Bool.and_eq_true, Bool.not_eq_true'] at h
    have := wl_word s g r h.2 hg
    simp only [List.cons_append, wl, h.1, Bool.false_eq_true, if_false, this, List.length_cons]
theorem wd_word (p : Nat) {s : List UInt8} (g : UInt8) (r : List UInt8) (hs : noG s = true) (hne : s ≠ []) (hg : gapB g = true) : wd p (s ++ g :: r) = (p, s) :: wd (p + s.length + 1) r := by
  have hl := wl_word s g r hs hg
  rw [wd_ne (by simp), hl, if_pos (List.length_pos_iff.2 hne), List.take_left]
  have : (s ++ g :: r).drop (s.length + 1) = r := by rw [show s ++ g :: r = (s ++ [g]) ++ r by simp, List.drop_left' (by simp)]
  rw [this]
  rfl
theorem dgO_gap : ∀ n : Fin 16, gapB (dgO n.val) = false ∧ dgv (dgO n.val) = some n.val := by decide +kernel
theorem hexL_noG : ∀ r, noG (hexL r) = true
  | [] => rfl
  | b :: r => by
    have h1 := (dgO_gap ⟨b.toNat / 16, by have := b.toNat_lt; omega⟩).1
    have h2 := (dgO_gap ⟨b.toNat % 16, by omega⟩).1
    have := hexL_noG r
    unfold hexL at this ⊢
    simp only [List.flatMap_cons, hex2, noG, List.all_append, List.all_cons, List.all_nil] at this ⊢
    simp only [] at h1 h2
    simp [h1, h2, this]
theorem uxL_hex : ∀ r, uxL (hexL r) = some r
  | [] => rfl
  | b :: r => by
    have h1 := (dgO_gap ⟨b.toNat / 16, by have := b.toNat_lt; omega⟩).2
    have h2 := (dgO_gap ⟨b.toNat % 16, by omega⟩).2
    have := uxL_hex r
    unfold hexL at this ⊢
    simp only [] at h1 h2
    simp only [List.flatMap_cons, hex2, List.cons_append, List.nil_append, uxL, h1, h2, this]
    have e : 16 * (b.toNat / 16) + b.toNat % 16 = b.toNat := by omega
    rw [e, UInt8.ofNat_toNat]
theorem nm_head : ∀ n : Fin 256, (nmN n.val).head? ≠ some 48 ∧ noG (nmN n.val) = true := by decide +kernel
theorem nm_inj : ∀ n : Fin 256, ∀ m : Fin 256, m.val < n.val → nmN n.val = [] ∨ nmN m.val ≠ nmN n.val := by decide +kernel
theorem op_name (n : Nat) (hn : n < 256) (h : nmN n ≠ []) : opV nmN (nmN n) = (n, true) :=
  opV_hit h hn (fun j hj => (nm_inj ⟨n, hn⟩ ⟨j, by omega⟩ hj).resolve_left h) rfl
theorem op_bare (b : UInt8) : opV nmN ([48, 120] ++ hex2 b) = (0, false) := by
  refine opV_miss fun j hj e => (nm_head ⟨j, hj⟩).1 ?_
  simp only [e]
  rfl
theorem rd_bare (b : UInt8) : rdW ([48, 120] ++ hex2 b) 0 = ([b], 0, true) := by
  have hu := uxL_hex [b]
  have hh : hexL [b] = hex2 b := by simp [hexL]
  rw [hh] at hu
  unfold rdW
  rw [if_neg (by decide), op_bare, if_neg (by simp)]
  have hc : cutP ([48, 120] ++ hex2 b) [48, 120] = (hex2 b, true) := by
    unfold cutP
    rw [if_pos (by simp)]
    simp
  rw [hc]
  simp [hu]
theorem rd_name (n : Nat) (hn : n < 256) (h : nmN n ≠ []) : rdW (nmN n) 0 = ([UInt8.ofNat n], ownN n, true) := by
  unfold rdW
  rw [if_neg (by decide), op_name n hn h, if_pos rfl]
theorem rd_hex (r : List UInt8) (h : r ≠ []) : rdW (hexL r) r.length = (r, 0, true) := by
  unfold rdW
  rw [if_pos (List.length_pos_iff.2 h), uxL_hex]
  simp
theorem bare_as : ∀ (s : List UInt8) (q : Nat) (l rest : List UInt8), ∃ q', asF (wd q (bareL s ++ rest)) l 0 = asF (wd q' rest) (l ++ s) 0
  | [], q, l, rest => ⟨q, by simp [bareL]⟩
  | b :: s, q, l, rest => by
    have hn : noG ([48, 120] ++ hex2 b) = true := by
      have := hexL_noG [b]
      simp only [hexL, List.flatMap_cons, List.flatMap_nil, List.append_nil] at this
      simp only [noG, List.all_append] at this ⊢
      rw [this]
      rfl
    have e : bareL (b :: s) ++ rest = ([48, 120] ++ hex2 b) ++ 10 :: (bareL s ++ rest) := by simp [bareL, bare1]
    obtain ⟨q', h⟩ := bare_as s (q + ([48, 120] ++ hex2 b).length + 1) (l ++ [b]) rest
    refine ⟨q', ?_⟩
    rw [e, wd_word q 10 _ hn (by simp) rfl]
    simp only [asF, rd_bare, if_true]
    rw [h]
    simp
theorem line_as (x : UInt8) (r : List UInt8) (hr : r.length ≤ ownN x.toNat) (q : Nat) (l rest : List UInt8) : ∃ q', asF (wd q (lnL x r ++ rest)) l 0 = asF (wd q' rest) (l ++ x :: r) 0 := by
  unfold lnL
  split
  · exact bare_as (x :: r) q l rest
  · next h1 =>
    have hnm : nmN x.toNat ≠ [] := fun e => h1 (.inl e)
    have hge : ¬ r.length < ownN x.toNat := fun e => h1 (.inr e)
    have hlen : ownN x.toNat = r.length := by omega
    have hng := (nm_head ⟨x.toNat, x.toNat_lt⟩).2
    simp only [] at hng
    have hrd := rd_name x.toNat x.toNat_lt hnm
    rw [UInt8.ofNat_toNat, hlen] at hrd
    split
    · next h2 =>
      subst h2
      refine ⟨q + (nmN x.toNat).length + 1, ?_⟩
      rw [show nmN x.toNat ++ [10] ++ rest = nmN x.toNat ++ 10 :: rest by simp, wd_word q 10 _ hng hnm rfl]
      simp only [asF, hrd, if_true]
      rfl
    · next h2 =>
      refine ⟨q + (nmN x.toNat).length + 1 + (hexL r).length + 1, ?_⟩
      have hhe : hexL r ≠ [] := fun e => by have := hexL_len r; rw [e] at this; simp only [List.length_nil] at this; exact h2 (List.length_eq_zero_iff.1 (by omega))
      rw [show nmN x.toNat ++ [32] ++ hexL r ++ [10] ++ rest = nmN x.toNat ++ 32 :: (hexL r ++ 10 :: rest) by simp, wd_word q 32 _ hng hnm rfl, wd_word _ 10 _ (hexL_noG r) hhe rfl]
      simp only [asF, hrd, if_true, rd_hex r h2]
      simp
theorem pcF_own : ∀ (f p : Nat) (l : List UInt8) (m : Nat × List UInt8), m ∈ pcF f p l → ∃ x r, m.2 = x :: r ∧ r.length ≤ ownN x.toNat
  | 0, p, l, m, h => by cases h
  | f + 1, p, [], m, h => by cases h
  | f + 1, p, b :: r, m, h => by
    simp only [pcF, List.mem_cons] at h
    rcases h with rfl | h
    · exact ⟨b, _, rfl, by rw [List.length_take]; omega⟩
    · exact pcF_own f _ _ m h
theorem lines_as : ∀ (ps : List (Nat × List UInt8)) (q : Nat) (l : List UInt8), (∀ m ∈ ps, ∃ x r, m.2 = x :: r ∧ r.length ≤ ownN x.toNat) → asF (wd q (ps.flatMap lnP)) l 0 = (l ++ ps.flatMap (·.2), 0, none)
  | [], q, l, _ => by simp [wd_nil, asF]
  | m :: ps, q, l, h => by
    obtain ⟨x, r, hm, hr⟩ := h m List.mem_cons_self
    have e : lnP m = lnL x r := by unfold lnP; rw [hm]
    obtain ⟨q', hq⟩ := line_as x r hr q l (ps.flatMap lnP)
    rw [List.flatMap_cons, e, hq, lines_as ps q' _ (fun k hk => h k (List.mem_cons_of_mem _ hk)), List.flatMap_cons, hm]
    simp
theorem pcF_flat : ∀ (f p : Nat) (l : List UInt8), l.length ≤ f → (pcF f p l).flatMap (·.2) = l
  | 0, p, l, h => by
    obtain rfl : l = [] := List.length_eq_zero_iff.1 (by omega)
    rfl
  | f + 1, p, [], _ => rfl
  | f + 1, p, b :: r, h => by
    simp only [pcF, List.flatMap_cons]
    rw [pcF_flat f _ _ (by rw [List.length_drop]; simp only [List.length_cons] at h; omega)]
    simp
theorem as_ls (c : List UInt8) : asV (lsN c) = (c, 0, 0) := by
  unfold asV lsN
  rw [lines_as (pc 0 c) 0 [] (pcF_own _ _ _), List.nil_append]
  unfold pc
  rw [pcF_flat _ _ _ (Nat.le_refl _)]
  simp
end Go.Proofs.YtoceebhnhccfdaaDoor
