/- The program's lists laid anew: slices.Grow, slices.Concat. -/
import Derived.Test.YtdiblfgnnliifaaTa
import Derived.Lib.AppendZeros
import Derived.Lib.AppendZerosOnto
import Derived.Laws.OwnMore
namespace Go.Proofs.Ytdiblfgnnliifaa
open Go.RowKit Go.Sort
set_option linter.unusedVariables false
set_option maxRecDepth 100000
abbrev eB : ByteArray := ⟨#[]⟩
/-- Elements laid behind a row of one's own. -/
theorem app_many {w : World} {b : Nat} {v : Value} {n : Nat} {xs : List Value} (h : w.ownsRow b 39 8 v n xs) (hb : b ≤ w.heap.size) (a : Addr) (m c : Nat) (news : List Value) (hl : news.length = m * 8) (hm0 : 0 < m) (hnews : ∀ j u, news[j]? = some u → w.cell? (a.add j) = some u) (h1 : ∀ u ∈ news, u.oneCell' = true) (hn : n + m ≤ 1000000) :
    ∃ v' w', (Builtin.append_ #[22, 22] 22 #[v, .slice (some a) m c]).run Try.prog w = .ok v' w' ∧ w'.ownsRow b 39 8 v' (n + m) (xs ++ news) ∧ Grw v v' w w' := by
  obtain ⟨i, hi, hz, hs, hby⟩ := hI42
  have ht := Try.underlying22
  have hm : n + m ≤ maxLen := by simp only [maxLen]; omega
  have hbb : (n + m) * 88 ≤ 140737488355328 := by omega
  obtain ⟨v', w', hr, ho, hg, _⟩ := run_append_own (P := Try.prog) w b 22 22 39 i _ 8 88 ht hi hz hs hby rfl (by decide) v n xs h a m c news hl hnews h1 hm hbb hb
  refine ⟨v', w', hr, ho, hg, ?_⟩
  rcases h.2 with ⟨rfl, rfl⟩ | ⟨g, cap, cur, rfl, hbg, hgc, hnc, hcm, hcs, htake⟩
  · have hr2 := run_append_nil (P := Try.prog) w 22 22 39 i _ ht hi hz a m c news (by rw [hs]; exact hl) hnews hm0 (by omega) (by rw [hby]; omega)
    rw [hr2] at hr; cases hr
    intro k hk; simp only [Value.ownBlock, Option.some.injEq] at hk; exact .inr (by omega)
  · by_cases hroom : n + m ≤ cap
    · have hfit : n * i.size + news.length ≤ cur.size := by rw [hl, hcs, hs, ← Nat.add_mul]; exact Nat.mul_le_mul_right _ hroom
      have hr2 := run_append_room (P := Try.prog) w 22 22 39 i ht hi g n cap cur hgc a m c news (by rw [hs]; exact hl) hnews h1 hroom hfit
      rw [hr2] at hr; cases hr
      intro k hk; exact .inl hk
    · have hr2 := run_append_grow (P := Try.prog) w 22 22 39 i _ ht hi hz ⟨g, 0, none⟩ n cap xs (by rw [hs]; exact h.1) (h.cells (g := g) rfl) a m c news (by rw [hs]; exact hl) hnews (by omega) (by omega) (by rw [hby]; exact growslice_fits (by omega) hbb)
      rw [hr2] at hr; cases hr
      intro k hk; simp only [Value.ownBlock, Option.some.injEq] at hk; exact .inr (by omega)
theorem app_zero {w : World} {b : Nat} {v : Value} {n : Nat} {xs : List Value} (h : w.ownsRow b 39 8 v n xs) (ad : Option Addr) (c : Nat) : (Builtin.append_ #[22, 22] 22 #[v, .slice ad 0 c]).run Try.prog w = .ok v w := by
  obtain ⟨i, hi, hz, hs, hby⟩ := hI42
  rcases h.2 with ⟨rfl, rfl⟩ | ⟨g, cap, cur, rfl, _, _, hnc, _⟩
  · cases ad <;> simp [Builtin.append_, run_underlying Try.underlying22, sizeOf, typeInfo, hi, Builtin.lenOf, Builtin.firstCells, loadCells, loadCellsFrom]
  · cases ad <;> simp [Builtin.append_, run_underlying Try.underlying22, sizeOf, typeInfo, hi, Builtin.lenOf, Builtin.firstCells, hnc, storeCells, loadCells, loadCellsFrom]
theorem sl_nil (w : World) : (Instr.sliceAt 22 (.slice none 0 0) none (some (Z 0)) none).run Try.prog w = .ok (.slice none 0 0) w := by
  simp [go_sem]
theorem sl_zero (g n cap : Nat) (w : World) : (Instr.sliceAt 22 (.slice (some ⟨g, 0, none⟩) n cap) none (some (Z 0)) none).run Try.prog w = .ok (.slice (some ⟨g, 0, none⟩) 0 cap) w := by
  simp [go_sem]
theorem xgrow_ok (n : Nat) (hn : n ≤ 1000000) (w : World) : Calls Try.prog 37 #[.slice none 0 0, Z n] w fun e w' => ∃ ad cap, e = .returned (.slice ad 0 cap) ∧ RO w w.heap.size 39 8 (.slice ad 0 cap) 0 [] w' := by
  by_cases h0 : n = 0
  · subst h0
    refine inQ (J := RO w w.heap.size 39 8 (.slice none 0 0) 0 []) (F := ROF w w.heap.size (.slice none 0 0)) Try.func37 (RO.start _ _ _ _) fun a I => ?_
    refine goQ [bO .lss 3 (run_lssZ (x := (0 : Nat)) (y := 0) (b := false) rfl), cS Try.underlying22 (ad := none) (n := 0) (cap := 0) rfl, lS Try.underlying22 (ad := none) (n := 0) (cap := 0) rfl, bO .sub 3 (run_subZ (x := (0 : Nat)) (y := (0 : Nat)) (z := 0) (by decide)), bO .sub 3 (run_subZ (x := (0 : Nat)) (y := 0) (z := 0) (by decide)), bO .gtr 3 (run_gtrZ (x := 0) (y := 0) (b := false) rfl)] (RO.rs _ _ _ _ _ _ _) I fun β1 a1 w1 I hb1 => ?_
    exact outQ (v := .slice none 0 0) I ⟨none, 0, rfl, I.hJ⟩
  · refine inQ (J := RO w w.heap.size 39 8 (.slice none 0 0) 0 []) (F := ROF w w.heap.size (.slice none 0 0)) Try.func37 (RO.start _ _ _ _) fun a I => ?_
    refine goQ [bO .lss 3 (run_lssZ (x := n) (y := 0) (b := false) (decide_eq_false (by omega))), cS Try.underlying22 (ad := none) (n := 0) (cap := 0) rfl, lS Try.underlying22 (ad := none) (n := 0) (cap := 0) rfl, bO .sub 3 (run_subZ (x := (0 : Nat)) (y := (0 : Nat)) (z := 0) (by decide)), bO .sub 3 (run_subZ (x := n) (y := 0) (z := n) (by rw [wz (by omega) (by omega)]; omega)), bO .gtr 3 (run_gtrZ (x := n) (y := 0) (b := true) (decide_eq_true (by omega))), cS Try.underlying22 (ad := none) (n := 0) (cap := 0) rfl, sT 22 sl_nil] (RO.rs _ _ _ _ _ _ _) I fun β1 a1 w1 I1 hb1 => ?_
    obtain ⟨i, hi, hz, hs, hby⟩ := hI42
    have hr := Lib.run_append_nil_zeros (P := Try.prog) w1 22 3 22 39 i _ .i64 .i64 Try.underlying22 Try.underlying3 hi hz n (by omega) (by omega) (by omega) (by rw [hby]; omega)
    have hge := grownCap_ge w1 n 0 39
    have hle : grownCap w1 n 0 39 ≤ maxLen := grownCap_le_maxLen w1 n 0 39 (by simp only [maxLen]; omega)
    have hgb : w1.grownBy (w1.drew.alloc (.cells (Builtin.zeroCells (Value.agg #[.string eB, B 0, B 0, B 0, B 0, Z 0, .string eB, .string eB]).cells n ++ Builtin.zeroCells (Value.agg #[.string eB, B 0, B 0, B 0, B 0, Z 0, .string eB, .string eB]).cells (grownCap w1 n 0 39 - n)) 39)) none := ⟨rfl, rfl, rfl, by simp, fun k hk _ => heap_alloc_old w1.drew _ hk⟩
    refine appQ (ts := #[22, 3]) (ty := 22) (ss := [Sum.inl (.slice none 0 0), Sum.inl (Z n)]) I1 hr ?_
    have hsz : w.heap.size ≤ w1.heap.size := I1.hJ.gr.size
    have hgn : (w1.drew.alloc (.cells (Builtin.zeroCells (Value.agg #[.string eB, B 0, B 0, B 0, B 0, Z 0, .string eB, .string eB]).cells n ++ Builtin.zeroCells (Value.agg #[.string eB, B 0, B 0, B 0, B 0, Z 0, .string eB, .string eB]).cells (grownCap w1 n 0 39 - n)) 39)).heap[w1.heap.size]? = _ := heap_alloc_new w1.drew _
    have hcz : (Builtin.zeroCells (Value.agg #[.string eB, B 0, B 0, B 0, B 0, Z 0, .string eB, .string eB]).cells n ++ Builtin.zeroCells (Value.agg #[.string eB, B 0, B 0, B 0, B 0, Z 0, .string eB, .string eB]).cells (grownCap w1 n 0 39 - n)).size = grownCap w1 n 0 39 * 8 := by
      rw [Array.size_append, size_zeroCells, size_zeroCells, ← Nat.add_mul]
      show (n + (grownCap w1 n 0 39 - n)) * 8 = _
      congr 1
      omega
    generalize w1.drew.alloc (.cells (Builtin.zeroCells (Value.agg #[.string eB, B 0, B 0, B 0, B 0, Z 0, .string eB, .string eB]).cells n ++ Builtin.zeroCells (Value.agg #[.string eB, B 0, B 0, B 0, B 0, Z 0, .string eB, .string eB]).cells (grownCap w1 n 0 39 - n)) 39) = w2 at *
    generalize Builtin.zeroCells (Value.agg #[.string eB, B 0, B 0, B 0, B 0, Z 0, .string eB, .string eB]).cells n ++ Builtin.zeroCells (Value.agg #[.string eB, B 0, B 0, B 0, B 0, Z 0, .string eB, .string eB]).cells (grownCap w1 n 0 39 - n) = cur at *
    generalize grownCap w1 n 0 39 = cp at *
    have I2 := I1.moved (J' := RO w w.heap.size 39 8 (.slice (some ⟨w1.heap.size, 0, none⟩) 0 cp) 0 []) (F' := ROF w w.heap.size (.slice (some ⟨w1.heap.size, 0, none⟩) 0 cp)) ⟨hgb.os, hgb.tape, hgb.output, hgb.size, fun k hk _ => hgb.block k hk (by simp)⟩ (I1.hJ.grown ⟨rfl, .inr ⟨w1.heap.size, cp, cur, rfl, hsz, hgn, Nat.zero_le _, hle, hcz, rfl⟩⟩ ⟨hgb, fun k hk => .inr (by simp only [Value.ownBlock, Option.some.injEq] at hk; omega)⟩) (fun k hk h => by
      rcases h with h | h
      · exact .inl h
      · simp only [Value.ownBlock, Option.some.injEq] at h; omega) (.slice (some ⟨w1.heap.size, 0, none⟩) n cp)
    generalize w1.heap.size = gg at *
    refine goQ [lS Try.underlying22 (ad := none) (n := 0) (cap := 0) rfl, sT 22 (sl_zero gg n cp)] (RO.rs _ _ _ _ _ _ _) I2 fun β3 a3 w3 I3 hb3 => ?_
    exact outQ (v := .slice (some ⟨gg, 0, none⟩) 0 cp) I3 ⟨_, _, rfl, I3.hJ⟩
abbrev k1K : List Nat := [0, 2, 3, 9, 10, 11]
abbrev k1V (M : Nat) (v : Value) (n i : Nat) : Vs := frm 36 [(0, Sum.inl v), (2, Sum.inl (.slice none 0 0)), (3, Sum.inl (Z n)), (9, Sum.inl v), (10, Sum.inl (Z M)), (11, Sum.inl (Z i))]
abbrev k2K : List Nat := [0, 2, 6, 25, 26, 27]
abbrev k2V (M : Nat) (v r : Value) (i : Nat) : Vs := frm 36 [(0, Sum.inl v), (2, Sum.inl (.slice none 0 0)), (6, Sum.inl r), (25, Sum.inl v), (26, Sum.inl (Z M)), (27, Sum.inl (Z i))]
set_option maxHeartbeats 2000000 in
theorem concat_raw {w : World} {g M : Nat} (hM : M ≤ 3) (A : Nat → Option Addr) (L Cc : Nat → Nat) (X : Nat → List Value)
    (hrow : ∀ i, i < M → ∀ w', Below w.heap.size w w' → (loadVar 22 ⟨g, 0 + i * 1, none⟩).run Try.prog w' = .ok (.slice (A i) (L i) (Cc i)) w') (hL : ∀ i, L i ≤ 1000)
    (hX : ∀ i, i < M → (X i).length = L i * 8 ∧ (∀ u ∈ X i, u.oneCell' = true) ∧ (L i ≠ 0 → ∃ a : Addr, A i = some a ∧ ∀ w', Below w.heap.size w w' → ∀ j u, (X i)[j]? = some u → w'.cell? (a.add j) = some u)) :
    Calls Try.prog 18 #[.slice (some ⟨g, 0, none⟩) M M] w fun e w' => ∃ ad cap, e = .returned (.slice ad (tlN L M) cap) ∧ RO w w.heap.size 39 8 (.slice ad (tlN L M) cap) (tlN L M) (tlX X M) w' := by
  have hT : ∀ i, i ≤ M → tlN L i ≤ 3000 := fun i hi => by
    have h0 := hL 0
    have h1 := hL 1
    have h2 := hL 2
    match i, Nat.le_trans hi hM with
    | 0, _ => exact Nat.zero_le _
    | 1, _ => show 0 + L 0 ≤ 3000; omega
    | 2, _ => show 0 + L 0 + L 1 ≤ 3000; omega
    | 3, _ => show 0 + L 0 + L 1 + L 2 ≤ 3000; omega
  refine inQ (J := Below w.heap.size w) (F := (· < w.heap.size)) Try.func18 (Below.refl _ _) fun a I => ?_
  refine goQ [lS Try.underlying59 (ad := some ⟨g, 0, none⟩) (n := M) (cap := M) rfl] (nonR w) I fun β1 a1 w1 I1 hb1 => ?_
  refine lpM (bodyLk Try.f18 0) (fun k a w' => ∃ (i : Nat) (β : Nat → Nat) (u : Nat → Value), k = M - i ∧ i ≤ M ∧ SI (Below w.heap.size w) (· < w.heap.size) [] β (cfC (bodyLk Try.f18 0) (fillF (scrF 36 k1K) u 0 (k1V M (.slice (some ⟨g, 0, none⟩) M M) (tlN L i) i)) [] 0) a w') M ?_ ?_
  · obtain ⟨u, Iu⟩ := I1.scr (bodyLk Try.f18 0) (scrF 36 k1K) (k1V M (.slice (some ⟨g, 0, none⟩) M M) (tlN L 0) 0) [] 0
    exact ⟨0, β1, u, rfl, by omega, Iu⟩
  rintro k a2 w2 ⟨i, β2, u, rfl, hi, I2⟩
  refine wp_cfC (tm := fillF (scrF 36 k1K) u 0 (k1V M (.slice (some ⟨g, 0, none⟩) M M) (tlN L i) i)) (rows := []) (nx := 0) ?_
  rcases Nat.lt_or_ge i M with hil | hil
  · have h1 := hT i hi
    have h2 := hT (i + 1) hil
    have e2 : tlN L (i + 1) = tlN L i + L i := rfl
    have hr := hrow i hil
    obtain ⟨t2, ht2⟩ : ∃ t, tlN L (i + 1) = t := ⟨_, rfl⟩
    rw [ht2] at h2 e2
    refine goT (T := Below w.heap.size w) [bO .lss 3 (run_lssZ (x := i) (y := M) (b := true) (decide_eq_true (by omega))), iA 59 Try.underlying59 (sz := 1) (by kernel_rfl) (g := g) (off := 0) (n := M) (cap := M) hil, ldA 22 hr, lS Try.underlying22 (ad := A i) (n := L i) (cap := Cc i) rfl, bO .add 3 (run_addZ (x := tlN L i) (y := L i) (z := t2) (by rw [wz (by omega) (by omega)]; omega)), bO .lss 3 (run_lssZ (x := t2) (y := 0) (b := false) (decide_eq_false (by omega))), bO .add 3 (run_addZ (x := i) (y := 1) (z := (i + 1 : Nat)) (by rw [wz (by omega) (by omega)]; omega))] (nonR w) (fun _ h => h) I2 fun β3 a3 w3 I3 hb3 => ?_
    obtain ⟨u', Iu⟩ := I3.scr (bodyLk Try.f18 0) (scrF 36 k1K) (k1V M (.slice (some ⟨g, 0, none⟩) M M) t2 (i + 1)) [] 0
    exact endL ⟨M - (i + 1), by omega, i + 1, β3, u', rfl, hil, by rw [ht2]; exact Iu⟩
  · obtain rfl : M = i := by omega
    have h2 := hT M (by omega)
    refine goQ [bO .lss 3 (run_lssZ (x := M) (y := M) (b := false) (decide_eq_false (by omega)))] (nonR w) I2 fun β3 a3 w3 I3 hb3 => ?_
    refine endE 0 ?_
    refine goQ [] (nonR w) (I3.exit _) fun β4 a4 w4 I4 hb4 => ?_
    refine mcall (f := 37) (ss := [Sum.inl (.slice none 0 0), Sum.inl (Z (tlN L M))]) Try.func37 I4 ((xgrow_ok (tlN L M) (by omega) w4).mono fun e w5 he => ?_)
    obtain ⟨ad5, cap5, rfl, hro⟩ := he
    have hs4 : w.heap.size ≤ w4.heap.size := I4.hJ.size
    have hro' : RO w w.heap.size 39 8 (.slice ad5 0 cap5) 0 [] w5 := ⟨⟨hro.gr.os.trans I4.hJ.os, hro.gr.tape.trans I4.hJ.tape, hro.gr.output.trans I4.hJ.output, Nat.le_trans I4.hJ.size hro.gr.size, fun k hk _ => (hro.gr.block k (by omega) (by omega)).trans (I4.hJ.block k hk)⟩, own_low hro.own hs4⟩
    have I5 := I4.moved (J' := RO w w.heap.size 39 8 (.slice ad5 0 cap5) 0 []) (F' := ROF w w.heap.size (.slice ad5 0 cap5)) ⟨hro.gr.os, hro.gr.tape, hro.gr.output, hro.gr.size, fun k hk _ => hro.gr.block k hk (by omega)⟩ hro' (fun k hk h => by
      rcases h with h | h
      · exact h.1
      · have := (hro.own.lt k h).1; omega) (.slice ad5 0 cap5)
    refine goQ [lS Try.underlying59 (ad := some ⟨g, 0, none⟩) (n := M) (cap := M) rfl] (RO.rs _ _ _ _ _ _ _) I5 fun β6 a6 w6 I6 hb6 => ?_
    refine lpM (bodyLk Try.f18 1) (fun k a w' => ∃ (i : Nat) (β : Nat → Nat) (u : Nat → Value) (ad : Option Addr) (cap : Nat), k = M - i ∧ i ≤ M ∧ SI (RO w w.heap.size 39 8 (.slice ad (tlN L i) cap) (tlN L i) (tlX X i)) (ROF w w.heap.size (.slice ad (tlN L i) cap)) [] β (cfC (bodyLk Try.f18 1) (fillF (scrF 36 k2K) u 0 (k2V M (.slice (some ⟨g, 0, none⟩) M M) (.slice ad (tlN L i) cap) i)) [] 0) a w') M ?_ ?_
    · obtain ⟨u, Iu⟩ := I6.scr (bodyLk Try.f18 1) (scrF 36 k2K) (k2V M (.slice (some ⟨g, 0, none⟩) M M) (.slice ad5 0 cap5) 0) [] 0
      exact ⟨0, β6, u, ad5, cap5, rfl, by omega, Iu⟩
    rintro k a7 w7 ⟨i, β7, u7, ad, cap, rfl, hi, I7⟩
    refine wp_cfC (tm := fillF (scrF 36 k2K) u7 0 (k2V M (.slice (some ⟨g, 0, none⟩) M M) (.slice ad (tlN L i) cap) i)) (rows := []) (nx := 0) ?_
    rcases Nat.lt_or_ge i M with hil | hil
    · have h1 := hT i hi
      have hr := hrow i hil
      obtain ⟨x1, x2, x3⟩ := hX i hil
      have hLi := hL i
      obtain ⟨t2, ht2⟩ : ∃ t, tlN L (i + 1) = t := ⟨_, rfl⟩
      obtain ⟨X2, hX2⟩ : ∃ t, tlX X (i + 1) = t := ⟨_, rfl⟩
      have e2 : tlN L i + L i = t2 := ht2
      have e3 : tlX X i ++ X i = X2 := hX2
      generalize tlN L i = t1 at *
      generalize tlX X i = X1 at *
      refine goT (T := RO w w.heap.size 39 8 (.slice ad t1 cap) t1 X1) [bO .lss 3 (run_lssZ (x := i) (y := M) (b := true) (decide_eq_true (by omega))), iA 59 Try.underlying59 (sz := 1) (by kernel_rfl) (g := g) (off := 0) (n := M) (cap := M) hil, ldA 22 (fun w' h => hr w' h.bel)] (RO.rs _ _ _ _ _ _ _) (fun _ h => h) I7 fun β8 a8 w8 I8 hb8 => ?_
      have happ : ∃ v' w', (Builtin.append_ #[22, 22] 22 #[.slice ad t1 cap, .slice (A i) (L i) (Cc i)]).run Try.prog w8 = .ok v' w' ∧ w'.ownsRow w.heap.size 39 8 v' t2 X2 ∧ Grw (.slice ad t1 cap) v' w8 w' := by
        by_cases hz : L i = 0
        · refine ⟨.slice ad t1 cap, w8, by rw [hz]; exact app_zero I8.hJ.own (A i) (Cc i), ?_, ⟨⟨rfl, rfl, rfl, Nat.le_refl _, fun _ _ _ => rfl⟩, fun k hk => .inl hk⟩⟩
          have : X i = [] := List.eq_nil_of_length_eq_zero (by rw [x1, hz])
          rw [← e2, ← e3, hz, this, List.append_nil]
          exact I8.hJ.own
        · obtain ⟨aa, hA, hc⟩ := x3 hz
          rw [hA, ← e2, ← e3]
          exact app_many I8.hJ.own I8.hJ.gr.size aa (L i) (Cc i) (X i) x1 (by omega) (hc w8 I8.hJ.bel) x2 (by omega)
      obtain ⟨v', w9, hrn, ho, hg⟩ := happ
      refine appQ (ts := #[22, 22]) (ty := 22) (ss := [Sum.inl (.slice ad t1 cap), Sum.inl (.slice (A i) (L i) (Cc i))]) I8 hrn ?_
      obtain ⟨ad9, cap9, rfl⟩ := owns_slice ho
      have I9 := I8.moved (J' := RO w w.heap.size 39 8 (.slice ad9 t2 cap9) t2 X2) (F' := ROF w w.heap.size (.slice ad9 t2 cap9)) ⟨hg.gr.os, hg.gr.tape, hg.gr.output, hg.gr.size, fun k hk hn => hg.gr.block k hk fun e => hn (.inr e.symm)⟩ (I8.hJ.grown ho hg) (fun k hk h => by
        rcases h with h | h
        · exact .inl h
        · rcases hg.nb k h with h | h
          · exact .inr h
          · omega) (.slice ad9 t2 cap9)
      refine goQ [bO .add 3 (run_addZ (x := i) (y := 1) (z := (i + 1 : Nat)) (by rw [wz (by omega) (by omega)]; omega))] (RO.rs _ _ _ _ _ _ _) I9 fun β10 a10 w10 I10 hb10 => ?_
      obtain ⟨u', Iu⟩ := I10.scr (bodyLk Try.f18 1) (scrF 36 k2K) (k2V M (.slice (some ⟨g, 0, none⟩) M M) (.slice ad9 t2 cap9) (i + 1)) [] 0
      exact endL ⟨M - (i + 1), by omega, i + 1, β10, u', ad9, cap9, rfl, hil, by rw [ht2, hX2]; exact Iu⟩
    · obtain rfl : M = i := by omega
      refine goQ [bO .lss 3 (run_lssZ (x := M) (y := M) (b := false) (decide_eq_false (by omega)))] (RO.rs _ _ _ _ _ _ _) I7 fun β8 a8 w8 I8 hb8 => ?_
      refine endE 2 ?_
      refine goQ [] (RO.rs _ _ _ _ _ _ _) (I8.exit _) fun β9 a9 w9 I9 hb9 => ?_
      exact outQ (v := .slice ad (tlN L M) cap) I9 ⟨_, _, rfl, I9.hJ⟩
theorem flat_len8 : ∀ (l : List Al), (l.map al8).flatten.length = l.length * 8
  | [] => rfl
  | c :: l => by rw [List.map_cons, List.flatten_cons, List.length_append, flat_len8 l, List.length_cons]; show 8 + _ = _; omega
theorem one8 {l : List Al} {u : Value} (h : u ∈ (l.map al8).flatten) : u.oneCell' = true := by
  obtain ⟨y, hy, hu⟩ := List.mem_flatten.1 h
  obtain ⟨c, _, rfl⟩ := List.mem_map.1 hy
  unfold al8 at hu
  simp only [List.mem_cons, List.not_mem_nil, or_false] at hu
  rcases hu with rfl | rfl | rfl | rfl | rfl | rfl | rfl | rfl <;> rfl
theorem ali_lt {w : World} {v : Value} {l : List Al} (h : AlI w v l) {c : Al} (hc : c ∈ l) : c.2.1 < W := by
  obtain ⟨i, hi⟩ := List.getElem?_of_mem hc
  obtain ⟨ad, cap, _, hm⟩ := h
  obtain ⟨g, off, cs, _, _, _, _, hW⟩ := hm i c hi
  exact hW
theorem ali_cells {w : World} {ad : Option Addr} {cap : Nat} {l : List Al} (h : AlI w (.slice ad l.length cap) l) (h0 : l.length ≠ 0) : ∃ a : Addr, ad = some a ∧ ∀ w', Below w.heap.size w w' → ∀ j u, ((l.map al8).flatten)[j]? = some u → w'.cell? (a.add j) = some u := by
  obtain ⟨ad', cap', he, hm⟩ := h
  cases he
  obtain ⟨c0, hc0⟩ : ∃ t, l[0]? = some t := ⟨_, List.getElem?_eq_getElem (by omega)⟩
  obtain ⟨g, off, cs, rfl, hlt, _, _, _⟩ := hm 0 c0 hc0
  refine ⟨⟨g, off, none⟩, rfl, fun w' hb j u hu => ?_⟩
  have hj := (List.getElem?_eq_some_iff.1 hu).1
  rw [flat_len8] at hj
  obtain ⟨x, hx⟩ : ∃ y, l[j / 8]? = some y := ⟨_, List.getElem?_eq_getElem (by omega)⟩
  obtain ⟨g2, off2, cs2, hq, hlt2, hca, rfl, _⟩ := hm (j / 8) x hx
  cases hq
  obtain ⟨c, hc⟩ : ∃ c, (al8 x)[j % 8]? = some c := ⟨_, List.getElem?_eq_getElem (by show j % 8 < 8; omega)⟩
  have hf := flat_sz (sz := 8) (X := l.map al8) (i := j / 8) hc (fun y hy => by obtain ⟨c, _, rfl⟩ := List.mem_map.1 hy; rfl) (by rw [List.getElem?_map, hx]; rfl)
  rw [show j / 8 * 8 + j % 8 = j by omega, hu] at hf
  cases hf
  rw [add_off, show off + j = off + j / 8 * 8 + j % 8 by omega]
  exact hca.keep (hb.block g hlt) _ _ hc
/-- Slices, one beside the other. -/
abbrev Tri : Type := Option Addr × Nat × List Al
abbrev triV (t : Tri) : Value := .slice t.1 t.2.2.length t.2.1
theorem tl_n (T : List Tri) : ∀ i, i ≤ T.length → tlN (fun i => ((T[i]?).map fun t => t.2.2.length).getD 0) i = ((T.take i).flatMap fun t => t.2.2).length
  | 0, _ => rfl
  | i + 1, h => by
    obtain ⟨t, ht⟩ : ∃ t, T[i]? = some t := ⟨_, List.getElem?_eq_getElem (by omega)⟩
    show tlN _ i + _ = _
    rw [tl_n T i (by omega), List.take_add_one, ht]
    simp [ht]
theorem tl_x (T : List Tri) : ∀ i, i ≤ T.length → tlX (fun i => ((T[i]?).map fun t => (t.2.2.map al8).flatten).getD []) i = (((T.take i).flatMap fun t => t.2.2).map al8).flatten
  | 0, _ => rfl
  | i + 1, h => by
    obtain ⟨t, ht⟩ : ∃ t, T[i]? = some t := ⟨_, List.getElem?_eq_getElem (by omega)⟩
    show tlX _ i ++ _ = _
    rw [tl_x T i (by omega), List.take_add_one, ht]
    simp [ht]
theorem concat_any {w : World} {g : Nat} (T : List Tri) (hM : T.length ≤ 3) (hrow : HasRow w g (T.map triV).toArray) (hs : ∀ t ∈ T, AlI w (triV t) t.2.2) (hl : ∀ t ∈ T, t.2.2.length ≤ 1000) :
    Calls Try.prog 18 #[.slice (some ⟨g, 0, none⟩) T.length T.length] w fun e w' => ∃ v, e = .returned v ∧ NW w [alF v (T.flatMap fun t => t.2.2)] w' := by
  have h := concat_raw (w := w) (g := g) (M := T.length) hM (fun i => ((T[i]?).map fun t => t.1).getD none) (fun i => ((T[i]?).map fun t => t.2.2.length).getD 0) (fun i => ((T[i]?).map fun t => t.2.1).getD 0) (fun i => ((T[i]?).map fun t => (t.2.2.map al8).flatten).getD []) (fun i hi w' hb => by
    obtain ⟨t, ht⟩ : ∃ t, T[i]? = some t := ⟨_, List.getElem?_eq_getElem hi⟩
    simp only [ht, Option.map_some, Option.getD_some]
    have := load1 (w := w') (g := g) (o := 0) (cs := T.map triV) (fun j c hc => by rw [(hrow.below hb).cell]; simpa using hc) i (c := triV t) (by rw [List.getElem?_map, ht]; rfl) 22 Try.underlying22 rfl
    rw [Nat.mul_one]
    exact this) (fun i => by
    cases ht : T[i]? with
    | none => exact Nat.zero_le _
    | some t => exact hl t (List.mem_of_getElem? ht)) (fun i hi => by
    obtain ⟨t, ht⟩ : ∃ t, T[i]? = some t := ⟨_, List.getElem?_eq_getElem hi⟩
    simp only [ht, Option.map_some, Option.getD_some]
    exact ⟨flat_len8 _, fun u hu => one8 hu, fun h0 => ali_cells (hs t (List.mem_of_getElem? ht)) h0⟩)
  rw [tl_n T _ (Nat.le_refl _), tl_x T _ (Nat.le_refl _), List.take_length] at h
  refine h.mono fun e w' he => ?_
  obtain ⟨ad, cap, rfl, hro⟩ := he
  have hmem : ∀ c ∈ (T.flatMap fun t => t.2.2), c.2.1 < W := fun c hc => by
    obtain ⟨t, ht, hct⟩ := List.mem_flatMap.1 hc
    exact ali_lt (hs t ht) hct
  generalize (T.flatMap fun t => t.2.2) = out at *
  have Q : QJ C8 w 39 8 (.slice ad out.length cap) (out.map al8) out noK w' := by
    refine ⟨by rw [List.length_map]; exact hro, fun k hk => hk.elim, by simp, fun i x t h1 h2 => ?_⟩
    rw [List.getElem?_map, h2] at h1
    cases h1
    exact ⟨rfl, rfl, hmem t (List.mem_of_getElem? h2)⟩
  refine ⟨_, rfl, hro.bel, fun k => noK k ∨ (Value.slice ad out.length cap).ownBlock = some k, Q.kb2, fun f hf => ?_⟩
  rw [List.mem_singleton.1 hf]
  exact Q.done C8.loc
theorem bs59_1 (ad : Option Addr) (n c : Nat) (w : World) : (Instr.buildSlice 59 1 #[(0, .slice ad n c)]).run Try.prog w = .ok (.slice (some ⟨w.heap.size, 0, none⟩) 1 1) (w.alloc (.cells #[.slice ad n c] 22)) := by kernel_rfl
/-- One list laid anew. -/
theorem concat_one {w : World} {g : Nat} {ad : Option Addr} {cap : Nat} {l : List Al} (hrow : HasRow w g #[.slice ad l.length cap]) (h : AlI w (.slice ad l.length cap) l) (hl : l.length ≤ 1000) : Calls Try.prog 18 #[.slice (some ⟨g, 0, none⟩) 1 1] w fun e w' => ∃ v, e = .returned v ∧ NW w [alF v l] w' := by
  have hC := concat_any (w := w) (g := g) [(ad, cap, l)] (by simp) (by simpa using hrow) (fun t ht => by rw [List.mem_singleton.1 ht]; exact h) (fun t ht => by rw [List.mem_singleton.1 ht]; exact hl)
  have e : ([(ad, cap, l)].flatMap fun t : Tri => t.2.2) = l := by simp
  rw [e] at hC
  exact hC
end Go.Proofs.Ytdiblfgnnliifaa
