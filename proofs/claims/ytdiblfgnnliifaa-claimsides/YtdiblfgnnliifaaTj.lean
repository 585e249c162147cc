/- The program's Bind. -/
import Derived.Test.YtdiblfgnnliifaaTi
namespace Go.Proofs.Ytdiblfgnnliifaa
open Go.RowKit Go.Sort
set_option linter.unusedVariables false
set_option maxRecDepth 100000
/-- Why two places can't be bound, whatever both come to. -/
def bsE (l : List Al) (n : Nat) (i j : Int) (a b : Nat) : Int :=
  if isP l i = false ∨ isP l j = false ∨ i = j then 3
  else if n ≠ 32 ∨ kdP l i = true ∨ kdP l j = true then 2
  else if am l i.toNat < a ∨ am l j.toNat < b then 16 else 0
theorem bdE_is (l : List Al) (n : Nat) (i j : Int) (a b : Nat) : bdE l n i j a b = if bsE l n i j a b ≠ 0 then bsE l n i j a b else if W ≤ a + b then 7 else if 8 ≤ l.length then 8 else 0 := by
  unfold bdE bsE
  by_cases h1 : isP l i = false ∨ isP l j = false ∨ i = j
  · rw [if_pos h1, if_pos h1, if_pos (by decide)]
  · rw [if_neg h1, if_neg h1]
    by_cases h2 : n ≠ 32 ∨ kdP l i = true ∨ kdP l j = true
    · rw [if_pos h2, if_pos h2, if_pos (by decide)]
    · rw [if_neg h2, if_neg h2]
      by_cases h3 : am l i.toNat < a ∨ am l j.toNat < b
      · rw [if_pos h3, if_pos h3, if_pos (by decide)]
      · rw [if_neg h3, if_neg h3]; rfl
theorem sub_mod {n x : Nat} (hn : n < W) (hx : x ≤ n) : (n + W - x) % W = n - x := by
  rw [show n + W - x = (n - x) + W by omega, Nat.add_mod_right, Nat.mod_eq_of_lt (by omega)]
def bdP (l : List Al) (n : Nat) (i j : Int) (a b : Nat) : Nat → Prop
  | 0 => True
  | 1 => isP l i = true ∧ i ≠ j
  | 2 => (isP l i = true ∧ i ≠ j) ∧ isP l j = true
  | 3 => ((isP l i = true ∧ i ≠ j) ∧ isP l j = true) ∧ n = 32 ∧ kdP l i = false
  | 4 => (((isP l i = true ∧ i ≠ j) ∧ isP l j = true) ∧ n = 32 ∧ kdP l i = false) ∧ kdP l j = false
  | 5 => ((((isP l i = true ∧ i ≠ j) ∧ isP l j = true) ∧ n = 32 ∧ kdP l i = false) ∧ kdP l j = false) ∧ a ≤ am l i.toNat
  | _ => bsE l n i j a b = 0
abbrev bdM (l : List Al) (i j a b : Nat) : List Al := stA (stA l i (am l i - a)) j (am l j - b)
def bdO (l : List Al) (i j a b : Nat) : Nat → List Al
  | 0 => l
  | 1 => l
  | 2 => l
  | 3 => l
  | 4 => l
  | 5 => stA l i (am l i - a)
  | _ => bdM l i j a b
abbrev fBd (β : Nat → Nat) : Array Value := #[.func (.func 28) #[] #[ptr0 (β 0), ptr0 (β 7), ptr0 (β 2), ptr0 (β 3)], .func (.func 30) #[] #[ptr0 (β 1), ptr0 (β 0), ptr0 (β 7)], .func (.func 32) #[] #[ptr0 (β 6), ptr0 (β 7), ptr0 (β 8)]]
set_option maxHeartbeats 1000000 in
theorem bd_both {β : Nat → Nat} {w0 : World} {bb : Nat} {K : Nat → Prop} {Fs : List Lf} {vl : Value} {l : List Al} {ch : ByteArray} {i j : Int} {a b : Nat} {g cap n gf q jf : Nat} {w : World} (hn : l.length = n) (H : CR β w0 bb K Fs (bdW vl ch i j a b (.slice (some ⟨g, 0, none⟩) n cap)) [alO (.slice (some ⟨g, 0, none⟩) n cap) l] w)
    (hf : Fs[jf]? = some (fnF gf (fBd β))) (hi : Fs[q]? = some (alF vl l)) (hL : Lt l) (hl : l.length < 1000000000) (ha : a < W) (hb : b < W) :
    Calls Try.prog 24 #[.slice (some ⟨gf, 0, none⟩) 3 3] w fun e w' => e = .returned (Z (bsE l ch.size i j a b)) ∧ (bsE l ch.size i j a b = 0 → CR β w0 bb K Fs (bdW vl ch i j a b (.slice (some ⟨g, 0, none⟩) n cap)) [alO (.slice (some ⟨g, 0, none⟩) n cap) (bdM l i.toNat j.toNat a b)] w') ∧ (bsE l ch.size i j a b ≠ 0 → CR β w0 bb K Fs [(0, #[vl])] [] w') := by
  obtain ⟨E, hE⟩ : ∃ E, bsE l ch.size i j a b = E := ⟨_, rfl⟩
  rw [hE]
  have hE' := hE
  unfold bsE at hE'
  refine (both_any (w := w) (g := gf) (M := 3) (by decide) (fun i => if i = 0 then 28 else if i = 1 then 30 else 32) (fun i => if i = 0 then [ptr0 (β 0), ptr0 (β 7), ptr0 (β 2), ptr0 (β 3)] else if i = 1 then [ptr0 (β 1), ptr0 (β 0), ptr0 (β 7)] else [ptr0 (β 6), ptr0 (β 7), ptr0 (β 8)])
    (fun k w' => bdP l ch.size i j a b k ∧ CR β w0 bb K Fs (bdW vl ch i j a b (.slice (some ⟨g, 0, none⟩) n cap)) [alO (.slice (some ⟨g, 0, none⟩) n cap) (bdO l i.toNat j.toNat a b k)] w') (fun k => CF β K (bdW vl ch i j a b (.slice (some ⟨g, 0, none⟩) n cap)) [alO (.slice (some ⟨g, 0, none⟩) n cap) (bdO l i.toNat j.toNat a b k)]) (fun k => (CR.rs _ _ _ _ _ _ _).and _)
    (fun er w' => er = E ∧ CR β w0 bb K Fs [(0, #[vl])] [] w') (CF β K [(0, #[vl])] []) (fun er => (CR.rs _ _ _ _ _ _ _).and _) (fun t hi2 => ?_) (fun t k w' hi2 hs => ?_) (fun t s w' hi2 hs hS => ?_) ⟨trivial, H⟩).mono fun e w' he => ?_
  · rcases (by omega : t = 0 ∨ t = 1 ∨ t = 2) with rfl | rfl | rfl
    · exact ⟨_, Try.func28, by kernel_rfl, by kernel_rfl⟩
    · exact ⟨_, Try.func30, by kernel_rfl, by kernel_rfl⟩
    · exact ⟨_, Try.func32, by kernel_rfl, by kernel_rfl⟩
  · rcases (by omega : t = 0 ∨ t = 1 ∨ t = 2) with rfl | rfl | rfl
    · exact fn_ld hs.2.g hf rfl
    · exact fn_ld hs.2.g hf rfl
    · exact fn_ld hs.2.g hf rfl
  · rcases (by omega : t = 0 ∨ t = 1 ∨ t = 2) with rfl | rfl | rfl <;> rcases (by omega : s = 0 ∨ s = 1) with rfl | rfl
    · refine (placed0 hS.2 hi).mono fun e w2 he => ?_
      obtain ⟨rfl, hC⟩ := he
      by_cases hz : isP l i = true ∧ i ≠ j
      · have hq : (!isP l i || decide (i = j)) = false := by rw [hz.1, decide_eq_false hz.2]; rfl
        exact .inl ⟨by rw [hq]; rfl, hz, hC⟩
      · have hq : (!isP l i || decide (i = j)) = true := by
          cases hp : isP l i with
          | false => rfl
          | true => rw [decide_eq_true (Classical.not_not.1 fun h => hz ⟨hp, h⟩)]; rfl
        refine .inr ⟨3, by decide, by rw [hq]; rfl, ?_, hC.less _ (by simp)⟩
        rw [← hE', if_pos]
        cases hp : isP l i with
        | false => exact .inl rfl
        | true => exact .inr (.inr (Classical.not_not.1 fun h => hz ⟨hp, h⟩))
    · refine (placed1 hS.2 hi).mono fun e w2 he => ?_
      obtain ⟨rfl, hC⟩ := he
      by_cases hz : isP l j = true ∧ i ≠ j
      · have hq : (!isP l j || decide (i = j)) = false := by rw [hz.1, decide_eq_false hz.2]; rfl
        exact .inl ⟨by rw [hq]; rfl, ⟨hS.1, hz.1⟩, hC⟩
      · have hq : (!isP l j || decide (i = j)) = true := by
          cases hp : isP l j with
          | false => rfl
          | true => rw [decide_eq_true (Classical.not_not.1 fun h => hz ⟨hp, h⟩)]; rfl
        refine .inr ⟨3, by decide, by rw [hq]; rfl, ?_, hC.less _ (by simp)⟩
        rw [← hE', if_pos]
        cases hp : isP l j with
        | false => exact .inr (.inl rfl)
        | true => exact .inr (.inr (Classical.not_not.1 fun h => hz ⟨hp, h⟩))
    · have hP := hS.1.1.1
      obtain ⟨jn, ej, hjl⟩ := isP_nat hP
      have hh := hS.1
      refine (formed0 hS.2 hi ej hjl).mono fun e w2 he => ?_
      obtain ⟨rfl, hC⟩ := he
      have hkd : npP (l.getD jn aD) = kdP l i := by unfold kdP; rw [ej, Int.toNat_natCast]
      rw [hkd]
      rw [if_neg (by rintro (h | h | h) <;> simp_all [bdP])] at hE'
      by_cases hz : ch.size = 32 ∧ kdP l i = false
      · have hq : (decide (ch.size ≠ 32) || kdP l i) = false := by rw [hz.2, decide_eq_false (not_not_intro hz.1)]; rfl
        exact .inl ⟨by rw [hq]; rfl, ⟨hS.1, hz⟩, hC⟩
      · have hq : (decide (ch.size ≠ 32) || kdP l i) = true := by
          by_cases h32 : ch.size = 32
          · cases hk : kdP l i with
            | false => exact absurd ⟨h32, hk⟩ hz
            | true => simp
          · rw [decide_eq_true h32]; rfl
        refine .inr ⟨2, by decide, by rw [hq]; rfl, ?_, hC.less _ (by simp)⟩
        rw [← hE', if_pos]
        by_cases h32 : ch.size = 32
        · cases hk : kdP l i with
          | false => exact absurd ⟨h32, hk⟩ hz
          | true => exact .inr (.inl rfl)
        · exact .inl h32
    · have hP := hS.1.1.2
      obtain ⟨jn, ej, hjl⟩ := isP_nat hP
      have hh := hS.1
      refine (formed1 hS.2 hi ej hjl).mono fun e w2 he => ?_
      obtain ⟨rfl, hC⟩ := he
      have hkd : npP (l.getD jn aD) = kdP l j := by unfold kdP; rw [ej, Int.toNat_natCast]
      rw [hkd]
      rw [if_neg (by rintro (h | h | h) <;> simp_all [bdP])] at hE'
      by_cases hz : ch.size = 32 ∧ kdP l j = false
      · have hq : (decide (ch.size ≠ 32) || kdP l j) = false := by rw [hz.2, decide_eq_false (not_not_intro hz.1)]; rfl
        exact .inl ⟨by rw [hq]; rfl, ⟨hS.1, hz.2⟩, hC⟩
      · have hq : (decide (ch.size ≠ 32) || kdP l j) = true := by
          by_cases h32 : ch.size = 32
          · cases hk : kdP l j with
            | false => exact absurd ⟨h32, hk⟩ hz
            | true => simp
          · rw [decide_eq_true h32]; rfl
        refine .inr ⟨2, by decide, by rw [hq]; rfl, ?_, hC.less _ (by simp)⟩
        rw [← hE', if_pos]
        by_cases h32 : ch.size = 32
        · cases hk : kdP l j with
          | false => exact absurd ⟨h32, hk⟩ hz
          | true => exact .inr (.inr rfl)
        · exact .inl h32
    · obtain ⟨⟨⟨⟨⟨hPi, hij⟩, hPj⟩, h32, hki⟩, hkj⟩, hC0⟩ := hS
      obtain ⟨ni, rfl, hil⟩ := isP_nat hPi
      rw [if_neg (by rintro (h | h | h) <;> simp_all), if_neg (by rintro (h | h | h) <;> simp_all)] at hE'
      subst hn
      refine (take0 hC0 rfl hil hL ha).mono fun e w2 he => ?_
      obtain ⟨rfl, hC⟩ := he
      rw [Int.toNat_natCast] at *
      by_cases ho : am l ni < a
      · refine .inr ⟨16, by decide, by rw [decide_eq_true ho]; rfl, ?_, hC.less _ (by simp)⟩
        rw [← hE', if_pos (.inl ho)]
      · rw [sub_mod (am_lt hL ni) (by omega)] at hC
        exact .inl ⟨by rw [decide_eq_false ho]; rfl, ⟨⟨⟨⟨⟨hPi, hij⟩, hPj⟩, h32, hki⟩, hkj⟩, by rw [Int.toNat_natCast]; omega⟩, hC⟩
    · obtain ⟨⟨⟨⟨⟨⟨hPi, hij⟩, hPj⟩, h32, hki⟩, hkj⟩, hai⟩, hC0⟩ := hS
      obtain ⟨ni, rfl, hil⟩ := isP_nat hPi
      obtain ⟨nj, rfl, hjl⟩ := isP_nat hPj
      rw [if_neg (by rintro (h | h | h) <;> simp_all), if_neg (by rintro (h | h | h) <;> simp_all)] at hE'
      have hC0' : CR β w0 bb K Fs (bdW vl ch ni nj a b (.slice (some ⟨g, 0, none⟩) n cap)) [alO (.slice (some ⟨g, 0, none⟩) n cap) (stA l ni (am l ni - a))] w' := hC0
      have hn2 := stA_len l ni (am l ni - a)
      rw [hn] at hn2
      rw [← hn2] at hC0'
      refine (take1 hC0' rfl (by rw [stA_len]; exact hjl) (stA_lt hL _ (by have := am_lt hL ni; omega)) hb).mono fun e w2 he => ?_
      obtain ⟨rfl, hC⟩ := he
      rw [hn2] at hC
      have hne : am (stA l ni (am l ni - a)) nj = am l nj := by rw [am_st, if_neg (fun h => hij (by rw [h.1]))]
      rw [hne] at hC ⊢
      rw [Int.toNat_natCast, Int.toNat_natCast] at hE'
      rw [Int.toNat_natCast] at hai
      by_cases ho : am l nj < b
      · refine .inr ⟨16, by decide, by rw [decide_eq_true ho]; rfl, ?_, hC.less _ (by simp)⟩
        rw [← hE', if_pos (.inr ho)]
      · rw [sub_mod (am_lt hL nj) (by omega)] at hC
        refine .inl ⟨by rw [decide_eq_false ho]; rfl, ?_, hC⟩
        show bsE l ch.size ni nj a b = 0
        rw [hE, ← hE', if_neg (by omega)]
  · rcases he with ⟨rfl, hS⟩ | ⟨er, her, rfl, rfl, hC⟩
    · have h0 : E = 0 := hE ▸ hS.1
      rw [h0]
      exact ⟨rfl, fun _ => hS.2, fun h => absurd rfl h⟩
    · exact ⟨rfl, fun h => absurd h her, fun _ => hC⟩
end Go.Proofs.Ytdiblfgnnliifaa
