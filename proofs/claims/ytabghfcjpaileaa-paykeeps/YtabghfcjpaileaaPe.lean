/- The program's Afford, and the document's. -/
import Derived.Test.YtabghfcjpaileaaPd
namespace Go.Proofs.Ytabghfcjpaileaa
open Go.RowKit Go.Sort
set_option linter.unusedVariables false
set_option maxRecDepth 100000
/-- Behind what is told at a function's end. -/
theorem GS.fin {w WR w' : World} {b D : Nat} {K : Nat → Prop} {Fs : List Lf} {O : List Ow} (h : GS w WR b (fun k => k = D) K Fs O w') (hb : w.heap.size ≤ b) (hD : w.heap.size ≤ D) (q : Obj) : GS w w w.heap.size noK (· < w.heap.size) [] O (w'.putObj D q) := by
  have h0 := h.fin0 hb
  have hs : (w'.putObj D q).heap.size = w'.heap.size := by simp [World.putObj]
  have hne : ∀ k, k ≠ D → (w'.putObj D q).heap[k]? = w'.heap[k]? := fun k hk => World.putObj_heap_other hk
  refine ⟨⟨h.bw.os, h.bw.tape, h.bw.output, by rw [hs]; exact h.bw.size, fun k hk => (hne k (by omega)).trans (h.bw.block k hk)⟩, by rw [hs]; exact h0.rs, by rw [hs]; exact h0.bs, fun _ h => h.elim, fun _ h => h.elim, fun k hk => by rw [hs]; exact h0.kb k hk, h0.lo, fun f hf => by (cases hf), fun o ho => ?_, h0.on, h0.ap⟩
  exact owns_grow (F := fun k => k ≠ D) (h0.ow o ho) ⟨rfl, rfl, rfl, by rw [hs]; exact Nat.le_refl _, fun k _ hk => hne k hk⟩ fun k hk => (h.on o ho k hk).2
theorem agL {n m : Nat} {β β' : Nat → Nat} (h : Agree m β β') (hn : decide (n ≤ m) = true := by kernel_rfl) : Agree n β β' := fun i hi => h i (Nat.lt_of_lt_of_le hi (of_decide_eq_true hn))
theorem agT {n : Nat} {β β' β'' : Nat → Nat} (h : Agree n β β') (k : Agree n β' β'') : Agree n β β'' := fun i hi => (k i hi).trans (h i hi)
/-- The rows of a closure. -/
def rwF (gh gl h : Nat) (v : Value) : Lf := ⟨fun K w => K gh ∧ K gl ∧ HasRow w gh (rU h) ∧ HasRow w gl #[v], fun K K' w w' hk H => by
  obtain ⟨h1, h2, ⟨t3, h3⟩, ⟨t4, h4⟩⟩ := H
  exact ⟨(hk gh h1).1, (hk gl h2).1, ⟨t3, (hk gh h1).2.trans h3⟩, ⟨t4, (hk gl h2).2.trans h4⟩⟩⟩
theorem covers_new (h : Nat) (ad : Option Addr) (n cap : Nat) (w : World) : Calls Try.prog 19 #[U h, .slice ad n cap] w fun e w' => ∃ gh gl, e = .returned (.func (.func 29) #[] #[.pointer (some ⟨gh, 0, none⟩), .pointer (some ⟨gl, 0, none⟩)]) ∧ NW w [rwF gh gl h (.slice ad n cap)] w' := by
  refine (covers_any h ad n cap w).mono fun e w' he => ?_
  obtain ⟨gh, gl, rfl, h1, h2, _, h3, h4, hb⟩ := he
  refine ⟨gh, gl, rfl, hb, fun k => k = gh ∨ k = gl, fun k hk => ?_, fun f hf => ?_⟩
  · rcases hk with rfl | rfl
    · exact ⟨h1, h3.lt⟩
    · exact ⟨h2, h4.lt⟩
  · rw [List.mem_singleton.1 hf]
    exact ⟨.inl rfl, .inr rfl, h3, h4⟩
theorem take_get {α : Type} {l : List α} {i : Nat} {x : α} (h : l[i]? = some x) : l.take i ++ [x] = l.take (i + 1) := by rw [List.take_add_one, h]; rfl
set_option maxHeartbeats 4000000 in
theorem afford_any {w : World} {v : Value} {l : List Al} {h : Nat} (hv : AlI w v l) (hl : l.length < 1000000) (hh : h < W) : Calls Try.prog 12 #[U h, v] w fun e w' => ∃ v', e = .returned v' ∧ NW w [nuF v' (cvL h l)] w' := by
  obtain ⟨ad, cap, rfl⟩ := hv.slice
  refine inM (J := GS w w w.heap.size noK (· < w.heap.size) [alF (.slice ad l.length cap) l] []) (F := GF noK (· < w.heap.size) []) 6 Try.func12 (GS.start w fun f hf => by rw [List.mem_singleton.1 hf]; exact hv) fun a I => ?_
  refine goQ [] (GS.rsr _ _ _ _ _ _ _) I fun β1 a1 w1 I hb1 => ?_
  refine mcall (f := 19) (ss := [Sum.inl (U h), Sum.inl (.slice ad l.length cap)]) Try.func19 I ((covers_new h ad l.length cap w1).mono fun e w2 he => ?_)
  obtain ⟨gh, gl, rfl, hn⟩ := he
  obtain ⟨K, I⟩ := I.gs hn (.func (.func 29) #[] #[.pointer (some ⟨gh, 0, none⟩), .pointer (some ⟨gl, 0, none⟩)])
  refine goQ [] (GS.rsr _ _ _ _ _ _ _) (I.nil 24 4) fun β3 a3 w3 I hb3 => ?_
  have hws := I.hJ.bw.size
  refine rangeG 6 (by decide) Try.func29 (covers_seq 5 gh gl h hh (.slice ad l.length cap) l hl) (fun i (s : Option Addr × Nat) => [nuO (.slice s.1 i s.2) ((cvL h l).take i)]) (fun i s => [(0, rU h), (1, #[.slice s.1 i s.2])]) (none, 0) I
    (fun o ho => by rw [List.mem_singleton.1 ho]; exact ⟨rfl, rfl⟩) (fun i s => rfl) (fun i s W Is => ⟨(Is.hJ.atK 0 rfl).2.2.1, (Is.hJ.atK 0 rfl).2.2.2, Is.hJ.at 1 (f := alF (.slice ad l.length cap) l) rfl⟩) (fun i => by kernel_rfl)
    (fun i => (parV [11, 12] (cvE h l i).toList I.cfg.tm).set 7 (some (Sum.inr (2, 0)))) (fun i => [(2, rU (shN h l i (l.getD i aD)))]) 3 (of_decide_eq_true (by kernel_rfl)) ?_ ?_ ?_
  · intro y i W K' a' hi IA hK
    have hA : rfA I.cfg = Code.region 3 (regO Try.f12 3) false := by kernel_rfl
    show (rfA I.cfg).wpIn _ _ _ _ _ _
    rw [hA]
    refine regR IA fun IA => ?_
    refine goQ [] (nonR W) IA fun β4 a4 w4 IB hb4 => ?_
    exact atN (hK β4 a4 w4 _ IB hb4 (by kernel_rfl) (by kernel_rfl) (by kernel_rfl))
  · intro y i s β4 a4 WR Kp hi I4
    obtain ⟨x, hx⟩ : ∃ t, l[i]? = some t := ⟨_, List.getElem?_eq_getElem hi⟩
    have hxD : l.getD i aD = x := by rw [List.getD_eq_getElem?_getD, hx]; rfl
    have hcv := cvL_get h hx
    have htk := take_get hcv
    rw [← hxD] at htk
    obtain ⟨ad', cap'⟩ := s
    have hB : rfB I.cfg = Code.block 1 (.region 4 (regO Try.f12 4) false) := by kernel_rfl
    show (rfB I.cfg).wpIn _ _ _ _ _ _
    rw [hB]
    refine wpIn_block (regR I4 fun I4 => ?_)
    refine goQ [] (GS.rsr _ _ _ _ _ _ _) I4 fun β5 a5 w5 I5 hb5 => ?_
    refine app_nu [] [] (shN h l i (l.getD i aD)) htk I5 (by rw [List.length_take, cvL_len]; omega) (by omega) fun ad8 cap8 a8 w8 I8 => ?_
    refine goQ [] (GS.rsr _ _ _ _ _ _ _) I8 fun β9 a9 w9 I9 hb9 => ?_
    exact atN ⟨rfl, (ad8, cap8), β9, _, agT (agL hb5) (agL hb9), I9, by kernel_rfl⟩
  · intro D W a' s hD hDD I4
    obtain ⟨ad', cap'⟩ := s
    refine atK I4 fun I4 => ?_
    refine goQ [] (GS.rsr _ _ _ _ _ _ _) I4 fun β5 a5 w5 I5 hb5 => ?_
    have hJ := I5.hJ
    rw [← cvL_len h l, List.take_length, cvL_len] at hJ
    exact outM (v := .slice ad' l.length cap') I5 ((hJ.nc D rfl).trans hDD) ⟨_, rfl, (hJ.fin (by omega) (by omega) _).new1 (cvL_lt hh l)⟩
end Go.Proofs.Ytabghfcjpaileaa
