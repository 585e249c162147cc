/- ClaimDoes: for all allocations, numbers and texts. -/
import Derived.Test.YtdiblfgnnliifaaTo
import Derived.Test.YtdiblfgnnliifaaTm
namespace Go.Proofs.Ytdiblfgnnliifaa
open Go.RowKit Go.Sort
set_option linter.unusedVariables false
set_option maxRecDepth 100000
theorem sdL_len (l : List Al) (p q a b : Nat) : (sdL l p q a b).length = l.length := by unfold sdL; rw [stA_len, stA_len]
theorem rcL_len (l : List Al) (k : Int) (s : List Al) : (rcL l k s).length ≤ l.length := by
  unfold rcL
  split
  · exact Nat.le_refl _
  · rw [List.length_eraseIdx, sdL_len]
    split <;> omega
theorem bdR_len (l : List Al) (ch : ByteArray) (i j : Int) (a b : Nat) : (bdR l ch i j a b).length ≤ l.length + 1 := by
  unfold bdR
  split
  · omega
  · unfold bdL
    rw [List.length_append, stA_len, stA_len]
    exact Nat.le_refl _
set_option maxHeartbeats 8000000 in
theorem does_walk {w : World} {v vs : Value} {l s : List Al} {ch : ByteArray} {k i j : Int} {a b : Nat} (hv : AlI w v l) (hs : AlI w vs s) (hcap : ∀ ad cap, v = .slice ad l.length cap → l.length ≤ cap) (ha : a < W) (hb : b < W) : Calls Try.prog 3 #[v, Z k, vs, .string ch, Z i, Z j, U a, U b] w fun e w' => e = .returned (.bool true) ∧ Below w.heap.size w w' := by
  have haw := awake_any
  have hfl := fun (ad : Option Addr) (cap : Nat) (w' : World) => few_any (w := w') ad cap l
  have hfs := fun (ad : Option Addr) (cap : Nat) (w' : World) => few_any (w := w') ad cap s
  obtain ⟨ad, cap, hv0⟩ := hv.slice
  obtain ⟨ads, caps, hs0⟩ := hs.slice
  subst hv0 hs0
  refine inQ (J := GS w w w.heap.size noK (· < w.heap.size) [alF (.slice ad l.length cap) l, alF (.slice ads s.length caps) s] []) (F := GF noK (· < w.heap.size) []) Try.func3 (GS.start w fun f hf => by
    rcases List.mem_cons.1 hf with rfl | hf
    · exact hv
    · rw [List.mem_singleton.1 hf]; exact hs) fun ac I => ?_
  by_cases q1 : l.length ≤ 60
  case neg =>
    rw [decide_eq_false q1] at hfl
    refine goQ [kC Try.func7 (hfl ad cap), ntO false, kC Try.func8 haw] (GS.rsr _ _ _ _ _ _ _) I fun β1 a1 w1 I hb1 => ?_
    exact outQ (v := .bool true) I ⟨rfl, I.hJ.bw⟩
  rw [decide_eq_true q1] at hfl
  by_cases q2 : s.length ≤ 60
  case neg =>
    rw [decide_eq_false q2] at hfs
    refine goQ [kC Try.func7 (hfl ad cap), ntO true, kC Try.func7 (hfs ads caps), ntO false, kC Try.func8 haw] (GS.rsr _ _ _ _ _ _ _) I fun β1 a1 w1 I hb1 => ?_
    exact outQ (v := .bool true) I ⟨rfl, I.hJ.bw⟩
  rw [decide_eq_true q2] at hfs
  refine goQ [kC Try.func7 (hfl ad cap), ntO true, kC Try.func7 (hfs ads caps), ntO true] (GS.rsr _ _ _ _ _ _ _) I fun β1 a1 w1 I hb1 => ?_
  refine mcall (f := 9) (ss := [Sum.inl (.slice ad l.length cap), Sum.inl (Z k), Sum.inl (.slice ads s.length caps)]) Try.func9 I ((reclaim_any (I.hJ.al (i := 0) rfl) (I.hJ.al (i := 1) rfl) (by omega) (by omega) k).mono fun e w2 he => ?_)
  obtain ⟨v1, rfl, hn⟩ := he
  obtain ⟨K2, I⟩ := I.gs hn (.tuple #[v1, Z (rcE l k s)])
  refine goQ [] (GS.rsr _ _ _ _ _ _ _) I fun β3 a3 w3 I hb3 => ?_
  refine mcall (f := 10) (ss := [Sum.inl (.slice ad l.length cap), Sum.inl (Z k), Sum.inl (.slice ads s.length caps)]) Try.func10 I ((rreclaim_any (I.hJ.al (i := 1) rfl) (I.hJ.al (i := 2) rfl) (by omega) (by omega) k hcap).mono fun e w4 he => ?_)
  obtain ⟨v2, rfl, hn⟩ := he
  obtain ⟨K4, I⟩ := I.gsOr (i := 1) rfl hn (.tuple #[v2, Z (rcE l k s)])
  refine goQ [] (GS.rsr _ _ _ _ _ _ _) I fun β5 a5 w5 I hb5 => ?_
  refine mcall (f := 11) (ss := [Sum.inl (.slice ad l.length cap), Sum.inl (.string ch), Sum.inl (Z i), Sum.inl (Z j), Sum.inl (U a), Sum.inl (U b)]) Try.func11 I ((bind_any (I.hJ.al (i := 2) rfl) (by omega) ch i j ha hb).mono fun e w6 he => ?_)
  obtain ⟨v3, rfl, hn⟩ := he
  obtain ⟨K6, I⟩ := I.gs hn (.tuple #[v3, Z (bdE l ch.size i j a b)])
  refine goQ [] (GS.rsr _ _ _ _ _ _ _) I fun β7 a7 w7 I hb7 => ?_
  refine mcall (f := 12) (ss := [Sum.inl (.slice ad l.length cap), Sum.inl (.string ch), Sum.inl (Z i), Sum.inl (Z j), Sum.inl (U a), Sum.inl (U b)]) Try.func12 I ((rbind_any (I.hJ.al (i := 3) rfl) (by omega) ch i j ha hb).mono fun e w8 he => ?_)
  obtain ⟨v4, rfl, hn⟩ := he
  obtain ⟨K8, I⟩ := I.gsOr (i := 3) rfl hn (.tuple #[v4, Z (bdE l ch.size i j a b)])
  have hl1 : (rcL l k s).length < 1000000000 := by
    have h := rcL_len l k s
    omega
  have hl2 : (bdR l ch i j a b).length < 1000000000 := by
    have h := bdR_len l ch i j a b
    omega
  generalize rcL l k s = L1 at *
  generalize bdR l ch i j a b = L2 at *
  generalize rcE l k s = E1 at *
  generalize bdE l ch.size i j a b = E2 at *
  have hS1 := fun (w' : World) (hw : GS w w w.heap.size noK K8 ([alF v4 L2] ++ ([alF v3 L2] ++ ([alF v2 L1] ++ ([alF v1 L1] ++ [alF (.slice ad l.length cap) l, alF (.slice ads s.length caps) s])))) [] w') => same_any (hw.al (i := 3) (v := v1) (l := L1) rfl) (hw.al (i := 2) (v := v2) (l := L1) rfl) hl1
  have hS2 := fun (w' : World) (hw : GS w w w.heap.size noK K8 ([alF v4 L2] ++ ([alF v3 L2] ++ ([alF v2 L1] ++ ([alF v1 L1] ++ [alF (.slice ad l.length cap) l, alF (.slice ads s.length caps) s])))) [] w') => same_any (hw.al (i := 1) (v := v3) (l := L2) rfl) (hw.al (i := 0) (v := v4) (l := L2) rfl) hl2
  rw [decide_eq_true rfl] at hS1 hS2
  refine goT (T := GS w w w.heap.size noK K8 ([alF v4 L2] ++ ([alF v3 L2] ++ ([alF v2 L1] ++ ([alF v1 L1] ++ [alF (.slice ad l.length cap) l, alF (.slice ads s.length caps) s])))) []) [cA Try.func13 hS1, bO .eql 3 (run_eqlZ (x := E1) (y := E1) (b := true) (decide_eq_true rfl)), cA Try.func13 hS2, bO .eql 3 (run_eqlZ (x := E2) (y := E2) (b := true) (decide_eq_true rfl)), kC Try.func8 haw] (GS.rsr _ _ _ _ _ _ _) (fun _ h => h) I fun β9 a9 w9 I hb9 => ?_
  exact outQ (v := .bool true) I ⟨rfl, I.hJ.bw⟩
end Go.Proofs.Ytdiblfgnnliifaa
