/- WordSize: for every row of terms. -/
import Derived.Test.YtjjiendgmnlokaaDoorKuWp
namespace Go.Proofs.YtjjiendgmnlokaaDoor
open Go.RowKit Go.Sort
set_option linter.unusedVariables false
set_option maxRecDepth 100000
theorem LR.below {w w' : World} (hb : Below w.heap.size w w') : ∀ {n : Nat} {v : Value}, LR w n v → LR w' n v
  | 0, v, h => h
  | n + 1, v, h => by
    obtain ⟨ad, len, cap, hv, hl, ht⟩ := h
    refine ⟨ad, len, cap, hv, hl, fun i hi => ?_⟩
    obtain ⟨g, off, k, u, s, lv, h1, h2, h3, h4, h5⟩ := ht i hi
    exact ⟨g, off, k, u, s, lv, h1, h2.keep (hb.block g h2.lt), h3, h4, LR.below hb h5⟩
theorem enc_ge (n : Nat) (l : TL (n + 1)) : 32 * List.length (α := TT n) l ≤ (enc (n + 1) l).length := by
  have h2 := hd_len (E := enc n) (cnt := cntL n) (l := l) (i := List.length (α := TT n) l) (Nat.le_refl _)
  have e : List.take (List.length (α := TT n) l) l = l := List.take_length
  rw [e] at h2
  simp only [enc, List.length_append]
  omega
theorem few_at {W0 w : World} {v : Value} (h : LR W0 9 v) (hb : Below W0.heap.size W0 w) : Calls Tryd.prog 8 #[v] w fun e w' => Below w.heap.size w w' ∧ ∃ v', e = .returned v' ∧ (v' = .bool false ∨ ∃ l : TL 8, LA W0 8 v l ∧ tok 8 l ∧ tot 8 l ≤ 300 ∧ v' = .bool true) := by
  refine inQ (J := Below w.heap.size w) (F := (· < w.heap.size)) Tryd.func8 (Below.refl _ _) fun a I => ?_
  refine goQ [] (nonR w) I fun β a w1 I hb1 => ?_
  refine bcall [Sum.inl v, Sum.inl (Z (300 : Nat)), Sum.inl (Z (0 : Nat))] Tryd.func19 (nonR w) I _ (size_any 8 0 rfl h 300 (by omega) w1 (hb.trans (I.hJ.mono hb.size))) fun v' w2 hv I => ?_
  rcases hv with rfl | ⟨l, h1, h2, h3, rfl⟩
  · refine goQ [bO .geq 3 (run_geqZ (x := -1) (y := 0) (b := false) (by decide))] (nonR w) I fun β6 a6 w6 I hb6 => ?_
    exact outQ I ⟨I.hJ, _, rfl, .inl rfl⟩
  · refine goQ [bO .geq 3 (run_geqZ (x := tot 8 l) (y := 0) (b := true) (by simp))] (nonR w) I fun β6 a6 w6 I hb6 => ?_
    exact outQ I ⟨I.hJ, _, rfl, .inr ⟨l, h1, h2, h3, rfl⟩⟩
theorem size_walk {w : World} {v : Value} (h : LR w 9 v) : Calls Tryd.prog 6 #[v] w fun e w' => e = .returned (.bool true) ∧ Below w.heap.size w w' := by
  refine inQ (J := Below w.heap.size w) (F := (· < w.heap.size)) Tryd.func6 (Below.refl _ _) fun a I => ?_
  refine goQ [] (nonR w) I fun β a w1 I hb => ?_
  refine bcall [Sum.inl v] Tryd.func8 (nonR w) I _ (few_at h I.hJ) fun v' w2 hv I => ?_
  rcases hv with rfl | ⟨l, h1, h2, h3, rfl⟩
  · refine goQ [uO .not (p := .bool false) (v := .bool true) (by intros; rfl), kC Tryd.func9 awake_any] (nonR w) I fun β6 a6 w6 I hb6 => ?_
    exact outQ (v := .bool true) I ⟨rfl, I.hJ⟩
  · obtain ⟨ad, cap, rfl, _⟩ := id h1
    have hlen := enc_bound 8 l h2
    have hmod := enc_mod 8 l
    have hge : 32 * List.length (α := TT 7) l ≤ (enc 8 l).length := enc_ge 7 l
    have htm : Int.tmod ((enc 8 l).length : Nat) 32 = 0 := by rw [Int.tmod_eq_emod_of_nonneg (by omega)]; omega
    have hsz := str_size (enc 8 l)
    have hE : ∀ w', Below w.heap.size w w' → Calls Tryd.prog 12 #[.slice ad (List.length (α := TT 7) l) cap] w' fun e w'' => e = .returned (str (enc 8 l)) ∧ Below w'.heap.size w' w'' := fun w' hb' =>
      encode_any 8 l (h1.below hb') (by omega)
    refine goT (T := Below w.heap.size w) [uO .not (p := .bool true) (v := .bool false) (by intros; rfl), cA Tryd.func12 hE, lO Tryd.underlying9 (b := ⟨(enc 8 l).toArray⟩) (n := (enc 8 l).length) (by rw [hsz]), bO .rem 3 (run_remZ (x := (enc 8 l).length) (y := 32) (z := 0) (by decide) htm), bO .eql 3 (run_eqlZ (x := 0) (y := 0) (b := true) rfl),
      lO Tryd.underlying9 (b := ⟨(enc 8 l).toArray⟩) (n := (enc 8 l).length) (by rw [hsz]), lS Tryd.underlying22 (ad := ad) (n := List.length (α := TT 7) l) (cap := cap) rfl, bO .mul 3 (run_mulZ (x := 32) (y := List.length (α := TT 7) l) (z := (32 * List.length (α := TT 7) l : Nat)) (by rw [wz (by omega) (by omega)]; omega)), bO .geq 3 (run_geqZ (x := (enc 8 l).length) (y := (32 * List.length (α := TT 7) l : Nat)) (b := true) (by simp; omega)), kC Tryd.func9 awake_any] (nonR w) (fun _ h => h) I fun β6 a6 w6 I hb6 => ?_
    exact outQ (v := .bool true) I ⟨rfl, I.hJ⟩
end Go.Proofs.YtjjiendgmnlokaaDoor
