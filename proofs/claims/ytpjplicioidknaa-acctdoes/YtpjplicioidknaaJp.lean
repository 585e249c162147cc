/- AcctDoes: for all accounts, texts and numbers. -/
import Derived.Test.YtpjplicioidknaaJo
namespace Go.Proofs.Ytpjplicioidknaa
open Go.RowKit Go.Sort
set_option linter.unusedVariables false
set_option maxRecDepth 100000
set_option maxHeartbeats 4000000 in
theorem does_walk {w : World} {v : Value} {l : List Co} (h : CoI w v l) (hc : capOk v) (x y : ByteArray) (n : Nat) (hn : n < W) : Calls Try.prog 4 #[v, .string x, .string y, U n] w fun e w' => e = .returned (.bool true) ∧ Below w.heap.size w w' := by
  have haw := awake_any
  have hfw := fun (w' : World) (h : HS w (· < w.heap.size) [(v, l)] w') => few_any (h.co (v := v) (l := l) (by simp))
  refine inQ (J := HS w (· < w.heap.size) [(v, l)]) (F := (· < w.heap.size)) Try.func4 (HS.start fun p hp => by rw [List.mem_singleton.1 hp]; exact h) fun a I => ?_
  by_cases q1 : l.length ≤ 100
  · rw [decide_eq_true q1] at hfw
    have hft := fun (w' : World) (h : HS w (· < w.heap.size) [(v, l)] w') => rfit_any (h.co (v := v) (l := l) (by simp)) (by omega)
    cases hq : fitL l with
    | false =>
      rw [hq] at hft
      refine goT (T := HS w (· < w.heap.size) [(v, l)]) [cA Try.func7 hfw, ntO true, cA Try.func12 hft, ntO false, kC Try.func8 haw] (HS.rs _ _ _) (fun _ h => h) I fun β1 a1 w1 I hb1 => ?_
      exact outQ (v := .bool true) I ⟨rfl, I.hJ.bw⟩
    | true =>
      rw [hq] at hft
      have F := fit_iff.1 hq
      obtain ⟨A, B, v0, D⟩ := F.dec (x, y)
      have hgl : (gvP l A B x y v0 n).1.length < 1000000000 := by
        have := D.len
        unfold gvP
        split
        · show l.length < _; omega
        · split
          · show l.length < _; omega
          · show (A ++ own (x, y) (v0 + n) ++ B).length < _
            rw [List.length_append, List.length_append, own_len]; split <;> omega
      have htl : (tkP l A B x y v0 n).1.length < 1000000000 := by
        have := D.len
        unfold tkP
        split
        · show l.length < _; omega
        · split
          · show l.length < _; omega
          · show (A ++ own (x, y) (v0 - n) ++ B).length < _
            rw [List.length_append, List.length_append, own_len]; split <;> omega
      have c1 := fun (w' : World) (h : CoI w' v l) => give_any h hc F (by omega) D hn
      have c2 := fun (K : Nat → Prop) (w' : World) (h : SlI 6 C6 K w' v l) (hk : ∀ k, K k → k < w'.heap.size) => rgive_any h hk F (by omega) D hn
      have c3 := fun (w' : World) (h : CoI w' v l) => take_any h hc F (by omega) D hn
      have c4 := fun (K : Nat → Prop) (w' : World) (h : SlI 6 C6 K w' v l) (hk : ∀ k, K k → k < w'.heap.size) => rtake_any h hk F (by omega) D hn
      generalize (gvP l A B x y v0 n) = G at *
      generalize (tkP l A B x y v0 n) = T at *
      obtain ⟨g, ge⟩ := G
      obtain ⟨t, te⟩ := T
      simp only [] at *
      refine goT (T := HS w (· < w.heap.size) [(v, l)]) [cA Try.func7 hfw, ntO true, cA Try.func12 hft, ntO true] (HS.rs _ _ _) (fun _ h => h) I fun β1 a1 w1 I hb1 => ?_
      refine mcall (f := 15) (ss := [Sum.inl v, Sum.inl (.string x), Sum.inl (.string y), Sum.inl (U n)]) Try.func15 I ((c1 w1 (I.hJ.co (by simp))).mono fun e w2 he => ?_)
      obtain ⟨v1, K1, rfl, hj1⟩ := he
      obtain ⟨K2, I⟩ := I.hs (hj1.toRsL _) (.tuple #[v1, Z ge])
      refine goQ [] (HS.rs _ _ _) I fun β3 a3 w3 I hb3 => ?_
      refine mcall (f := 16) (ss := [Sum.inl v, Sum.inl (.string x), Sum.inl (.string y), Sum.inl (U n)]) Try.func16 I ((c2 K2 w3 (I.hJ.sl (v, l) (by simp)) I.hJ.kb).mono fun e w4 he => ?_)
      obtain ⟨v2, rfl, hj2⟩ := he
      obtain ⟨K4, I⟩ := I.hs hj2 (.tuple #[v2, Z ge])
      refine goQ [] (HS.rs _ _ _) I fun β5 a5 w5 I hb5 => ?_
      refine mcall (f := 17) (ss := [Sum.inl v, Sum.inl (.string x), Sum.inl (.string y), Sum.inl (U n)]) Try.func17 I ((c3 w5 (I.hJ.co (by simp))).mono fun e w6 he => ?_)
      obtain ⟨v3, K5, rfl, hj3⟩ := he
      obtain ⟨K6, I⟩ := I.hs (hj3.toRsL _) (.tuple #[v3, Z te])
      refine goQ [] (HS.rs _ _ _) I fun β7 a7 w7 I hb7 => ?_
      refine mcall (f := 18) (ss := [Sum.inl v, Sum.inl (.string x), Sum.inl (.string y), Sum.inl (U n)]) Try.func18 I ((c4 K6 w7 (I.hJ.sl (v, l) (by simp)) I.hJ.kb).mono fun e w8 he => ?_)
      obtain ⟨v4, rfl, hj4⟩ := he
      obtain ⟨K8, I⟩ := I.hs hj4 (.tuple #[v4, Z te])
      have s1 := fun (w' : World) (h : HS w K8 [(v4, t), (v3, t), (v2, g), (v1, g), (v, l)] w') => same_any (h.co (v := v1) (l := g) (by simp)) (h.co (v := v2) (l := g) (by simp)) hgl
      have s2 := fun (w' : World) (h : HS w K8 [(v4, t), (v3, t), (v2, g), (v1, g), (v, l)] w') => same_any (h.co (v := v3) (l := t) (by simp)) (h.co (v := v4) (l := t) (by simp)) htl
      rw [decide_eq_true rfl] at s1 s2
      refine goT (T := HS w K8 [(v4, t), (v3, t), (v2, g), (v1, g), (v, l)]) [cA Try.func19 s1, bO .eql 3 (run_eqlZ (x := ge) (y := ge) (b := true) (decide_eq_true rfl)), cA Try.func19 s2, bO .eql 3 (run_eqlZ (x := te) (y := te) (b := true) (decide_eq_true rfl)), kC Try.func8 haw] (HS.rs _ _ _) (fun _ h => h) I fun β9 a9 w9 I hb9 => ?_
      exact outQ (v := .bool true) I ⟨rfl, I.hJ.bw⟩
  · rw [decide_eq_false q1] at hfw
    refine goT (T := HS w (· < w.heap.size) [(v, l)]) [cA Try.func7 hfw, ntO false, kC Try.func8 haw] (HS.rs _ _ _) (fun _ h => h) I fun β1 a1 w1 I hb1 => ?_
    exact outQ (v := .bool true) I ⟨rfl, I.hJ.bw⟩
end Go.Proofs.Ytpjplicioidknaa
