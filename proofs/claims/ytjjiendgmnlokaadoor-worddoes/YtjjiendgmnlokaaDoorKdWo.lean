/- Chapter 9's example, played. -/
import Derived.Test.YtjjiendgmnlokaaDoorKdWn
namespace Go.Proofs.YtjjiendgmnlokaaDoor
open Go.RowKit Go.Sort
set_option linter.unusedVariables false
set_option maxRecDepth 100000
abbrev awT : List (Int × Nat × List UInt8) := [(0, 7, []), (1, 0, [97, 98])]
def tl1 (ts : List (Int × Nat × List UInt8)) : TL 1 := ts.map fun t => (t.1, t.2.1, ⟨t.2.2.toArray⟩, ())
abbrev awS : List UInt8 := [0, 0, 0, 0, 0, 0, 0, 0, 0, 0, 0, 0, 0, 0, 0, 0, 0, 0, 0, 0, 0, 0, 0, 0, 0, 0, 0, 0, 0, 0, 0, 7, 0, 0, 0, 0, 0, 0, 0, 0, 0, 0, 0, 0, 0, 0, 0, 0, 0, 0, 0, 0, 0, 0, 0, 0, 0, 0, 0, 0, 0, 0, 0, 64, 0, 0, 0, 0, 0, 0, 0, 0, 0, 0, 0, 0, 0, 0, 0, 0, 0, 0, 0, 0, 0, 0, 0, 0, 0, 0, 0, 0, 0, 0, 0, 2, 97, 98, 0, 0, 0, 0, 0, 0, 0, 0, 0, 0, 0, 0, 0, 0, 0, 0, 0, 0, 0, 0, 0, 0, 0, 0, 0, 0, 0, 0, 0, 0]
theorem awS_eq : enc 1 (tl1 awT) = awS := by kernel_rfl
theorem aw_nt : RdF awS [0, 1] (fun i => if i = 2 then 128 else 64) awT := by
  refine ⟨by decide, by decide, by decide, rfl, fun i hi => ?_, rfl, fun i k t h1 h2 => ?_⟩
  · show (if i = 2 then 128 else 64) ≤ 128
    split <;> omega
  · match i, h1, h2 with
    | 0, h1, h2 =>
      cases h1; cases h2
      exact .inl ⟨rfl, by kernel_rfl, rfl⟩
    | 1, h1, h2 =>
      cases h1; cases h2
      exact .inr ⟨rfl, by kernel_rfl, 2, by kernel_rfl, by decide, by decide, by decide, by kernel_rfl, rfl⟩
    | i + 2, h1, h2 => simp at h1
theorem aw_nn : RdF awS [0, 0] (fun _ => 64) [(0, 7, []), (0, 64, [])] := by
  refine ⟨by decide, by decide, by decide, rfl, fun i hi => (by decide : 64 ≤ 128), rfl, fun i k t h1 h2 => ?_⟩
  match i, h1, h2 with
  | 0, h1, h2 =>
    cases h1; cases h2
    exact .inl ⟨rfl, by kernel_rfl, rfl⟩
  | 1, h1, h2 =>
    cases h1; cases h2
    exact .inl ⟨rfl, by kernel_rfl, rfl⟩
  | i + 2, h1, h2 => simp at h1
theorem LA_own {w : World} {b : Nat} {v : Value} {ts : List (Int × Nat × List UInt8)} (h : w.ownsRow b 41 7 v ts.length (ts.flatMap tc)) : LA w 1 v (tl1 ts) := by
  obtain ⟨ad, cap, rfl⟩ := owns_slice h
  refine ⟨ad, cap, by simp [tl1], fun i t ht => ?_⟩
  rw [tl1, List.getElem?_map] at ht
  cases hq : ts[i]? with
  | none => rw [hq] at ht; cases ht
  | some q =>
    rw [hq] at ht
    cases ht
    have hi : i < ts.length := (List.getElem?_eq_some_iff.1 hq).1
    rcases h.2 with ⟨hv, hn⟩ | ⟨g, cap', cur, hv, hb, hg, hnc, hcm, hcs, hct⟩
    · omega
    · cases hv
      refine ⟨g, 0, .slice none 0 0, rfl, fun j c hc => ?_, none, 0, rfl⟩
      have key : ∀ (l : List (Int × Nat × List UInt8)) (i : Nat), l[i]? = some q → (l.flatMap tc)[i * 7 + j]? = some c := by
        intro l
        induction l with
        | nil => intro i h; simp at h
        | cons x l ih =>
          intro i h
          cases i with
          | zero =>
            simp only [List.getElem?_cons_zero, Option.some.injEq] at h
            subst h
            rw [List.flatMap_cons, Nat.zero_mul, Nat.zero_add, List.getElem?_append_left (by have := (List.getElem?_eq_some_iff.1 hc).1; simpa [cells7] using this)]
            exact hc
          | succ i =>
            rw [List.flatMap_cons, List.getElem?_append_right (by simp; omega)]
            have e : (i + 1) * 7 + j - (tc x).length = i * 7 + j := by simp; omega
            rw [e]
            exact ih i (by simpa using h)
      have := h.cells (g := g) rfl _ _ (key ts i hq)
      rw [add_off, ← Nat.add_assoc] at this
      exact this
theorem bs_two (w : World) : (Instr.buildSlice 22 2 #[(0, .agg (tc (0, 7, [])).toArray), (1, .agg (tc (1, 0, [97, 98])).toArray)]).run Tryd.prog w = .ok (.slice (some ⟨w.heap.size, 0, none⟩) 2 2) (w.alloc (.cells (awT.flatMap tc).toArray 41)) := by
  simp [go_sem]
def sLH {T : World → Prop} (t : Nat) {p l m v : Value} (h : ∀ w, (Instr.sliceAt t p (some l) (some m) none).run Tryd.prog w = .ok v w) : Fa Tryd.prog T :=
  Sum.inr (Sum.inr ⟨fun o => match o with | .slice t' _ (some _) (some _) none => t' == t | _ => false, #[p, l, m], v, true, by
    intro a w oo _ hok hx
    cases hop : oo.op with
    | slice t' x lo hi mx =>
      rw [hop] at hok hx
      cases lo with
      | none => simp at hok
      | some y =>
        cases hi with
        | none => simp at hok
        | some z =>
          cases mx with
          | some z => simp at hok
          | none =>
            simp at hok
            subst hok
            simp [opnds] at hx
            unfold execOp
            simp only [hop, Option.map_some, Option.map_none, hx]
            rw [Sem.run_bind, h, Result.andThen_ok, Sem.run_pure]
    | _ => rw [hop] at hok; simp at hok⟩)
theorem both_run {l : List UInt8} {i j : Nat} (hij : i ≤ j) (hj : j ≤ l.length) (w : World) : (Instr.sliceAt 9 (str l) (some (Z i)) (some (Z j)) none).run Tryd.prog w = .ok (str ((l.take j).drop i)) w := by
  have h1 : (i : Int) ≤ j := by omega
  have h2 : (j : Int) ≤ (⟨l.toArray⟩ : ByteArray).size := by rw [str_size]; omega
  rw [run_sliceAt_string (P := Tryd.prog) w 9 (str l) _ _ _ Tryd.underlying9]
  have := run_slice_string (P := Tryd.prog) w 9 ⟨l.toArray⟩ .i64 .i64 (i : Int) (j : Int) Tryd.underlying9 (by omega) h1 h2
  rw [this, str_extract]
  rfl
theorem bd_U7 (w : World) : (Instr.build 39 (([0] : List Nat).zip [B 7]).toArray).run Tryd.prog w = .ok (U 7) w := by kernel_rfl
theorem own_two (w : World) : (w.alloc (.cells (awT.flatMap tc).toArray 41)).ownsRow w.heap.size 41 7 (.slice (some ⟨w.heap.size, 0, none⟩) 2 2) awT.length (awT.flatMap tc) :=
  ⟨rfl, .inr ⟨w.heap.size, 2, _, rfl, Nat.le_refl _, heap_alloc_last w _, Nat.le_refl _, by decide, rfl, rfl⟩⟩
theorem eqE_run (x y : Int) {q : Bool} (h : decide (x = y) = q) (o1 o2 : Operand) (w : World) : (do eqGuard .eql 25 o1 o2 (Z x) (Z y); binOp .eql 25 (Z x) (Z y) : Sem Value).run Tryd.prog w = .ok (.bool q) w := by
  subst h; by_cases hx : x = y <;> simp [go_sem, hx]
theorem fit_aw : fit 1 (tl1 awT) := by
  refine ⟨by decide, fun t ht => ?_⟩
  have ht' : t ∈ [((0 : Int), 7, (⟨[].toArray⟩ : ByteArray), ()), (1, 0, ⟨[97, 98].toArray⟩, ())] := ht
  rcases List.mem_cons.1 ht' with rfl | ht'
  · exact ⟨by decide, trivial⟩
  · rcases List.mem_cons.1 ht' with rfl | ht'
    · exact ⟨by decide, trivial⟩
    · cases ht'
theorem SI.free {J J' : World → Prop} {F F' : Nat → Prop} {ds : List Deferred} {β : Nat → Nat} {c : Cf} {a : Act} {w w' : World} (I : SI J F ds β c a w) (hJ : J' w') (v : Value) (hr : c.rows = [] := by kernel_rfl) : SI J' F' ds β (nxtQ c v) (a.put (dstQ c) v) w' := by
  have h0 : ∀ p, ¬ p ∈ (nxtQ c v).rows := fun p hp => by
    have : (nxtQ c v).rows = c.rows := rfl
    rw [this, hr] at hp
    cases hp
  refine ⟨putQ_fr I.fr (dstQ c) (some (Sum.inl v)), ?_, hJ, fun p hp => absurd hp (h0 p), fun p hp => absurd hp (h0 p), fun p hp => absurd hp (h0 p), fun p hp => absurd hp (h0 p), idsB_put I.ids (dstQ c) (by intro i o h; cases h)⟩
  cases dstQ c <;> exact I.df
theorem awake_any (w : World) : Calls Tryd.prog 9 #[] w fun e w' => e = .returned (.bool true) ∧ Below w.heap.size w w' := by
  have hS : awS.length = 128 := rfl
  have hsz := str_size awS
  refine inQ (J := Below w.heap.size w) (F := (· < w.heap.size)) Tryd.func9 (Below.refl _ _) fun a I => ?_
  refine goQ [dO 39 [0] bd_U7, dO 41 [1] (bd_num 7), dO 41 [0, 2] (bd_txt [97, 98])] (nonR w) I fun β a w1 I hb => ?_
  refine bslQ (ss := [(0, Sum.inl (.agg (tc (0, 7, [])).toArray)), (1, Sum.inl (.agg (tc (1, 0, [97, 98])).toArray))]) I (bs_two w1) ?_
  have bw2 : Below w.heap.size w (w1.alloc (.cells (awT.flatMap tc).toArray 41)) := I.hJ.trans ((below_alloc w1 _).mono I.hJ.size)
  have ho2 := owns_base (own_two w1) I.hJ.size
  have I2 : SI (EO w 41 7 (.slice (some ⟨w1.heap.size, 0, none⟩) 2 2) 2 (awT.flatMap tc)) (EF w (.slice (some ⟨w1.heap.size, 0, none⟩) 2 2)) [] β _ _ _ := I.moved (Grow.of_below (below_alloc w1 (.cells (awT.flatMap tc).toArray 41))) ⟨bw2, ho2⟩ (fun k hk h => by
      rcases h with h | h
      · exact h
      · simp only [Value.ownBlock, Option.some.injEq] at h
        omega) (.slice (some ⟨w1.heap.size, 0, none⟩) 2 2)
  have hE : ∀ w', EO w 41 7 (.slice (some ⟨w1.heap.size, 0, none⟩) 2 2) 2 (awT.flatMap tc) w' → Calls Tryd.prog 12 #[.slice (some ⟨w1.heap.size, 0, none⟩) 2 2] w' fun e w'' => e = .returned (str awS) ∧ Below w'.heap.size w' w'' := fun w' h => by
    have := encode_any 1 (tl1 awT) (LA_own (ts := awT) h.own) (by rw [awS_eq]; decide)
    rw [awS_eq] at this
    exact this
  refine goT (T := EO w 41 7 (.slice (some ⟨w1.heap.size, 0, none⟩) 2 2) 2 (awT.flatMap tc)) [cA Tryd.func12 hE] (EO.rs _ _ _ _ _ _) (fun _ h => h) I2 fun β3 a w3 I hb3 => ?_
  refine mcall (ss := [Sum.inl (str [110, 116]), Sum.inl (str awS)]) Tryd.func10 I ?_
  refine (decode_flat aw_nt w3).mono fun e w4 he => ?_
  obtain ⟨hb4, h4⟩ := he
  rcases h4 with ⟨_, v4, rfl, ho4⟩ | ⟨hn, _⟩
  · have R4 := (EO.rs w 41 7 (.slice (some ⟨w1.heap.size, 0, none⟩) 2 2) 2 (awT.flatMap tc)).both (EO.rs w3 41 7 v4 2 (awT.flatMap tc))
    have I4 : SI (fun w' => EO w 41 7 (.slice (some ⟨w1.heap.size, 0, none⟩) 2 2) 2 (awT.flatMap tc) w' ∧ EO w3 41 7 v4 2 (awT.flatMap tc) w') (fun k => EF w (.slice (some ⟨w1.heap.size, 0, none⟩) 2 2) k ∨ EF w3 v4 k) [] β3 _ _ w4 := I.free ⟨(EO.rs _ _ _ _ _ _).loc w3 w4 I.hJ (Grow.of_below hb4), ⟨hb4, ho4⟩⟩ (.tuple #[v4, Z 0])
    refine goQ [] R4 I4 fun β5 a w5 I hb5 => ?_
    refine mcall (ss := [Sum.inl (str [110, 110]), Sum.inl (str awS)]) Tryd.func10 I ?_
    refine (decode_flat aw_nn w5).mono fun e w6 he => ?_
    obtain ⟨hb6, h6⟩ := he
    rcases h6 with ⟨hn, _⟩ | ⟨_, v6, rfl⟩
    · exact absurd hn (by decide)
    · have I6 : SI (fun w' => EO w 41 7 (.slice (some ⟨w1.heap.size, 0, none⟩) 2 2) 2 (awT.flatMap tc) w' ∧ EO w3 41 7 v4 2 (awT.flatMap tc) w') (fun k => EF w (.slice (some ⟨w1.heap.size, 0, none⟩) 2 2) k ∨ EF w3 v4 k) [] β5 _ _ w6 := I.free (R4.loc w5 w6 I.hJ (Grow.of_below hb6)) (.tuple #[v6, Z 2])
      have hsm : ∀ w', (EO w 41 7 (.slice (some ⟨w1.heap.size, 0, none⟩) 2 2) 2 (awT.flatMap tc) w' ∧ EO w3 41 7 v4 2 (awT.flatMap tc) w') → Calls Tryd.prog 17 #[v4, .slice (some ⟨w1.heap.size, 0, none⟩) 2 2] w' fun e w'' => e = .returned (.bool true) ∧ Below w'.heap.size w' w'' := fun w' h => by
        have := same_any 1 (LA_own (ts := awT) h.2.own) (LA_own (ts := awT) h.1.own) fit_aw fit_aw w' (Below.refl _ _)
        rw [same_refl] at this
        exact this
      refine goT (T := fun w' => EO w 41 7 (.slice (some ⟨w1.heap.size, 0, none⟩) 2 2) 2 (awT.flatMap tc) w' ∧ EO w3 41 7 v4 2 (awT.flatMap tc) w') [lO Tryd.underlying9 (b := ⟨awS.toArray⟩) (n := 128) (by rw [hsz]; rfl), bO .eql 3 (run_eqlZ (x := 128) (y := 128) (b := true) rfl), iO 9 (p := str awS) (i := Z (31 : Nat)) (v := .int .u8 (7 : UInt8).toNat) (idx_run rfl), bO .eql 5 (eqB_run (x := 7) (y := 7) (q := true) rfl), iO 9 (p := str awS) (i := Z (63 : Nat)) (v := .int .u8 (64 : UInt8).toNat) (idx_run rfl), bO .eql 5 (eqB_run (x := 64) (y := 64) (q := true) rfl), iO 9 (p := str awS) (i := Z (95 : Nat)) (v := .int .u8 (2 : UInt8).toNat) (idx_run rfl), bO .eql 5 (eqB_run (x := 2) (y := 2) (q := true) rfl),
        sLH 9 (p := str awS) (l := Z (96 : Nat)) (m := Z (98 : Nat)) (v := str [97, 98]) (fun w => both_run (l := awS) (i := 96) (j := 98) (by decide) (by decide) w), bO .eql 9 (eqS_run (a := [97, 98]) (b := [97, 98]) (q := true) rfl), bO .eql 25 (eqE_run 0 0 (q := true) rfl), cA Tryd.func17 hsm, bO .eql 25 (eqE_run 2 2 (q := true) rfl)] R4 (fun _ h => h) I6 fun β7 a w7 I hb7 => ?_
      exact outQ (v := .bool true) I ⟨rfl, I.hJ.1.bw⟩
  · exact absurd rfl hn
end Go.Proofs.YtjjiendgmnlokaaDoor
