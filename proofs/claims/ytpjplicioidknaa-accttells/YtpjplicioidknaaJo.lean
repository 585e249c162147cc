/- Lists that a law holds; the chapter's example. -/
import Derived.Test.YtpjplicioidknaaJn
namespace Go.Proofs.Ytpjplicioidknaa
open Go.RowKit Go.Sort
set_option linter.unusedVariables false
set_option maxRecDepth 100000
/-- What a law holds: lists in blocks of K. -/
structure HS (w0 : World) (K : Nat → Prop) (Ss : List (Value × List Co)) (w : World) : Prop where
  bw : Below w0.heap.size w0 w
  kb : ∀ k, K k → k < w.heap.size
  lo : ∀ k, k < w0.heap.size → K k
  sl : ∀ p ∈ Ss, SlI 6 C6 K w p.1 p.2
theorem HS.rs (w0 : World) (K : Nat → Prop) (Ss : List (Value × List Co)) : Rsrc (HS w0 K Ss) K :=
  ⟨fun a b h g => ⟨⟨g.os.trans h.bw.os, g.tape.trans h.bw.tape, g.output.trans h.bw.output, Nat.le_trans h.bw.size g.size, fun k hk => (g.block k (Nat.lt_of_lt_of_le hk h.bw.size) (h.lo k hk)).trans (h.bw.block k hk)⟩, fun k hk => Nat.lt_of_lt_of_le (h.kb k hk) g.size, h.lo, fun p hp => (h.sl p hp).keep C6.loc fun k hk => ⟨hk, g.block k (h.kb k hk) hk⟩⟩, fun a k h hk => h.kb k hk⟩
theorem HS.co {w0 w : World} {K : Nat → Prop} {Ss : List (Value × List Co)} (h : HS w0 K Ss w) {v : Value} {l : List Co} (hp : (v, l) ∈ Ss) : CoI w v l := (h.sl _ hp).low h.kb
theorem HS.start {w : World} {Ss : List (Value × List Co)} (h : ∀ p ∈ Ss, CoI w p.1 p.2) : HS w (· < w.heap.size) Ss w := ⟨Below.refl _ _, fun _ h => h, fun _ h => h, h⟩
theorem SI.hs {w0 : World} {K : Nat → Prop} {Ss : List (Value × List Co)} {ds : List Deferred} {β : Nat → Nat} {c : Cf} {a : Act} {w w' : World} {v : Value} {l : List Co} (I : SI (HS w0 K Ss) K ds β c a w) (h : RsL K w v l w') (r : Value) : ∃ K', SI (HS w0 K' ((v, l) :: Ss)) K' ds β (nxtQ c r) (a.put (dstQ c) r) w' := by
  obtain ⟨hb, K1, h1, h2⟩ := h
  have hJ := (HS.rs w0 K Ss).loc w w' I.hJ (Grow.of_below hb)
  have e1 : ∀ k, (K k ∨ K1 k) → k < w'.heap.size := fun k hk => by
    rcases hk with hk | hk
    · exact hJ.kb k hk
    · exact (h1 k hk).2
  have e2 : ∀ p ∈ (v, l) :: Ss, SlI 6 C6 (fun k => K k ∨ K1 k) w' p.1 p.2 := fun p hp => by
    rcases List.mem_cons.1 hp with rfl | hp
    · exact h2
    · exact (hJ.sl p hp).keep C6.loc fun k hk => ⟨.inl hk, rfl⟩
  have e3 : ∀ k, k < w.heap.size → (K k ∨ K1 k) → K k := fun k hk hF => by
    rcases hF with hF | hF
    · exact hF
    · have := (h1 k hF).1; omega
  exact ⟨fun k => K k ∨ K1 k, I.moved (Grow.of_below hb) ⟨hJ.bw, e1, fun k hk => .inl (hJ.lo k hk), e2⟩ e3 r⟩
theorem run_eqE {x y : Int} {b : Bool} (h : decide (x = y) = b) (o1 o2 : Operand) (w : World) : (do eqGuard .eql 32 o1 o2 (Z x) (Z y); binOp .eql 32 (Z x) (Z y) : Sem Value).run Try.prog w = .ok (.bool b) w := by subst h; by_cases hx : x = y <;> simp [go_sem, hx]
theorem run_neE {x y : Int} {b : Bool} (h : decide (x ≠ y) = b) (o1 o2 : Operand) (w : World) : (do eqGuard .neq 32 o1 o2 (Z x) (Z y); binOp .neq 32 (Z x) (Z y) : Sem Value).run Try.prog w = .ok (.bool b) w := by subst h; by_cases hx : x = y <;> simp [go_sem, hx]
abbrev aS : ByteArray := ⟨#[97, 97, 97, 97, 97, 98, 98, 98, 98, 98, 99, 99, 99, 99, 99, 100, 100, 100, 100, 100]⟩
theorem bdU2 (w : World) : (Instr.build 27 (([0] : List Nat).zip [.int .u64 2]).toArray).run Try.prog w = .ok (U 2) w := by kernel_rfl
theorem bdU3 (w : World) : (Instr.build 27 (([0] : List Nat).zip [.int .u64 3]).toArray).run Try.prog w = .ok (U 3) w := by kernel_rfl
theorem bdU5 (w : World) : (Instr.build 27 (([0] : List Nat).zip [.int .u64 5]).toArray).run Try.prog w = .ok (U 5) w := by kernel_rfl
theorem fit_own {n : Nat} (h0 : n ≠ 0) (hn : n < W) : Fit (own (aS, aS) n) := by
  have D : Dec [] (aS, aS) [] [] 0 := ⟨rfl, fun a h => by (cases h), fun a h => by (cases h)⟩
  have F : Fit [] := ⟨by simp, fun c h => by (cases h), List.Pairwise.nil, fun s => by show 0 < W; decide⟩
  have := D.fit (v' := n) F rfl rfl (by rw [own_pos h0]; simp) (by simpa [smN] using hn)
  simpa using this
theorem awake_any (w : World) : Calls Try.prog 8 #[] w fun e w' => e = .returned (.bool true) ∧ Below w.heap.size w w' := by
  have hW : (5 : Nat) < W := by decide
  have F0 : Fit [] := ⟨by simp, fun c h => by (cases h), List.Pairwise.nil, fun s => by show 0 < W; decide⟩
  have D0 : Dec [] (aS, aS) [] [] 0 := ⟨rfl, fun a h => by (cases h), fun a h => by (cases h)⟩
  have D5 : Dec (own (aS, aS) 5) (aS, aS) [] [] 5 := ⟨by simp, fun a h => by (cases h), fun a h => by (cases h)⟩
  have D2 : Dec (own (aS, aS) 2) (aS, aS) [] [] 2 := ⟨by simp, fun a h => by (cases h), fun a h => by (cases h)⟩
  have F5 := fit_own (n := 5) (by decide) hW
  have F2 := fit_own (n := 2) (by decide) (by decide)
  have L5 : (own (aS, aS) 5).length ≤ 900 := by rw [own_pos (by decide)]; simp
  have L2 : (own (aS, aS) 2).length ≤ 900 := by rw [own_pos (by decide)]; simp
  have hnm : ¬ nmB aS aS = false := by decide
  have g5 : gvP [] [] [] aS aS 0 5 = (own (aS, aS) 5, 0) := by unfold gvP; rw [if_neg hnm, if_neg (by decide)]; simp
  have t2 : tkP (own (aS, aS) 5) [] [] aS aS 5 3 = (own (aS, aS) 2, 0) := by unfold tkP; rw [if_neg hnm, if_neg (by decide)]; simp
  have t3 : tkP (own (aS, aS) 2) [] [] aS aS 2 3 = (own (aS, aS) 2, 16) := by unfold tkP; rw [if_neg hnm, if_pos (by decide)]
  have c1 := fun (w' : World) => give_any (x := aS) (y := aS) (n := 5) (coi_nil w') (show capOk (.slice none 0 0) from Nat.le_refl _) F0 (by simp) D0 hW
  have c2 := fun (w' : World) (v : Value) (h : CoI w' v (own (aS, aS) 5)) (hc : capOk v) => take_any (x := aS) (y := aS) (n := 3) h hc F5 L5 D5 (by decide)
  have c3 := fun (w' : World) (v : Value) (h : CoI w' v (own (aS, aS) 2)) (hc : capOk v) => take_any (x := aS) (y := aS) (n := 3) h hc F2 L2 D2 (by decide)
  rw [g5] at c1
  rw [t2] at c2
  rw [t3] at c3
  generalize own (aS, aS) 5 = l5 at *
  have hg := fun (w' : World) (v : Value) (h : CoI w' v (own (aS, aS) 2)) => get_any (x := aS) (y := aS) h (by omega) D2
  have hs := fun (w' : World) (v v' : Value) (h : CoI w' v (own (aS, aS) 2)) (h' : CoI w' v' (own (aS, aS) 2)) => same_any h h' (by omega)
  rw [decide_eq_true rfl] at hs
  generalize own (aS, aS) 2 = l2 at *
  refine inQ (J := HS w (· < w.heap.size) []) (F := (· < w.heap.size)) Try.func8 (HS.start fun p h => by (cases h)) fun a I => ?_
  refine goQ [dO 27 [0] bdU5] (HS.rs _ _ _) I fun β1 a1 w1 I hb1 => ?_
  refine mcall (f := 15) (ss := [Sum.inl (.slice none 0 0), Sum.inl (.string aS), Sum.inl (.string aS), Sum.inl (U 5)]) Try.func15 I ((c1 w1).mono fun e w2 he => ?_)
  obtain ⟨v1, K1, rfl, hj1⟩ := he
  obtain ⟨K2, I2⟩ := I.hs (hj1.toRsL _) (.tuple #[v1, Z 0])
  refine goQ [dO 27 [0] bdU3] (HS.rs _ _ _) I2 fun β3 a3 w3 I3 hb3 => ?_
  refine mcall (f := 17) (ss := [Sum.inl v1, Sum.inl (.string aS), Sum.inl (.string aS), Sum.inl (U 3)]) Try.func17 I3 ((c2 w3 v1 (I3.hJ.co (by simp)) hj1.cp).mono fun e w4 he => ?_)
  obtain ⟨v2, K4, rfl, hj2⟩ := he
  obtain ⟨K5, I4⟩ := I3.hs (hj2.toRsL _) (.tuple #[v2, Z 0])
  refine goQ [dO 27 [0] bdU3] (HS.rs _ _ _) I4 fun β5 a5 w5 I5 hb5 => ?_
  refine mcall (f := 17) (ss := [Sum.inl v2, Sum.inl (.string aS), Sum.inl (.string aS), Sum.inl (U 3)]) Try.func17 I5 ((c3 w5 v2 (I5.hJ.co (by simp)) hj2.cp).mono fun e w6 he => ?_)
  obtain ⟨v3, K6, rfl, hj3⟩ := he
  obtain ⟨K7, I6⟩ := I5.hs (hj3.toRsL _) (.tuple #[v3, Z 16])
  have hg' := fun (w' : World) (h : HS w K7 [(v3, l2), (v2, l2), (v1, l5)] w') => hg w' v2 (h.co (by simp))
  have hs' := fun (w' : World) (h : HS w K7 [(v3, l2), (v2, l2), (v1, l5)] w') => hs w' v3 v2 (h.co (by simp)) (h.co (by simp))
  refine goT (T := HS w K7 [(v3, l2), (v2, l2), (v1, l5)]) [bO .eql 32 (run_eqE (x := 0) (y := 0) (b := true) rfl), bO .eql 32 (run_eqE (x := 0) (y := 0) (b := true) rfl), cA Try.func13 hg', dO 27 [0] bdU2, bO .eql 27 (eqU_run (n := 2) (m := 2) (by decide) (by decide) (b := true) rfl), bO .eql 32 (run_eqE (x := 16) (y := 16) (b := true) rfl), cA Try.func19 hs'] (HS.rs _ _ _) (fun _ h => h) I6 fun β8 a8 w8 I8 hb8 => ?_
  exact outQ (v := .bool true) I8 ⟨rfl, I8.hJ.bw⟩
end Go.Proofs.Ytpjplicioidknaa
