/- Laid one behind the other: Ec, Ed. -/
import Derived.Test.YthkpgfbjdabflaaGreatDoorKkEa
import Derived.Lib.AppendZeros
import Derived.Laws.OwnMore
namespace Go.Proofs.YthkpgfbjdabflaaGreatDoor
open Go.RowKit Go.Sort Go.Proofs.Tryz
set_option linter.unusedVariables false
set_option maxRecDepth 100000
set_option maxHeartbeats 4000000
theorem hI43 : ∃ i, Tryz.prog.info? 43 = some i ∧ i.zero = some (.agg #[.string eB, .slice none 0 0]) ∧ i.size = 2 ∧ i.bytes = 40 := info_of (by kernel_rfl)
/-- Elements laid behind a row of one's own. -/
theorem app_many {w : World} {b : Nat} {v : Value} {n : Nat} {xs : List Value} (h : w.ownsRow b 43 2 v n xs) (hb : b ≤ w.heap.size) (a : Addr) (m c : Nat) (news : List Value) (hl : news.length = m * 2) (hm0 : 0 < m) (hnews : ∀ j u, news[j]? = some u → w.cell? (a.add j) = some u) (h1 : ∀ u ∈ news, u.oneCell' = true) (hn : n + m ≤ 1000000) :
    ∃ v' w', (Builtin.append_ #[26, 26] 26 #[v, .slice (some a) m c]).run Tryz.prog w = .ok v' w' ∧ w'.ownsRow b 43 2 v' (n + m) (xs ++ news) ∧ Grw v v' w w' := by
  obtain ⟨i, hi, hz, hs, hby⟩ := hI43
  have ht := Tryz.underlying26
  have hm : n + m ≤ maxLen := by simp only [maxLen]; omega
  have hbb : (n + m) * 40 ≤ 140737488355328 := by omega
  obtain ⟨v', w', hr, ho, hg, _⟩ := run_append_own (P := Tryz.prog) w b 26 26 43 i _ 2 40 ht hi hz hs hby rfl (by decide) v n xs h a m c news hl hnews h1 hm hbb hb
  refine ⟨v', w', hr, ho, hg, ?_⟩
  rcases h.2 with ⟨rfl, rfl⟩ | ⟨g, cap, cur, rfl, hbg, hgc, hnc, hcm, hcs, htake⟩
  · have hr2 := run_append_nil (P := Tryz.prog) w 26 26 43 i _ ht hi hz a m c news (by rw [hs]; exact hl) hnews hm0 (by omega) (by rw [hby]; omega)
    rw [hr2] at hr; cases hr
    intro k hk; simp only [Value.ownBlock, Option.some.injEq] at hk; exact .inr (by omega)
  · by_cases hroom : n + m ≤ cap
    · have hfit : n * i.size + news.length ≤ cur.size := by rw [hl, hcs, hs, ← Nat.add_mul]; exact Nat.mul_le_mul_right _ hroom
      have hr2 := run_append_room (P := Tryz.prog) w 26 26 43 i ht hi g n cap cur hgc a m c news (by rw [hs]; exact hl) hnews h1 hroom hfit
      rw [hr2] at hr; cases hr
      intro k hk; exact .inl hk
    · have hr2 := run_append_grow (P := Tryz.prog) w 26 26 43 i _ ht hi hz ⟨g, 0, none⟩ n cap xs (by rw [hs]; exact h.1) (h.cells (g := g) rfl) a m c news (by rw [hs]; exact hl) hnews (by omega) (by omega) (by rw [hby]; exact growslice_fits (by omega) hbb)
      rw [hr2] at hr; cases hr
      intro k hk; simp only [Value.ownBlock, Option.some.injEq] at hk; exact .inr (by omega)
theorem app_zero {w : World} {b : Nat} {v : Value} {n : Nat} {xs : List Value} (h : w.ownsRow b 43 2 v n xs) (ad : Option Addr) (c : Nat) : (Builtin.append_ #[26, 26] 26 #[v, .slice ad 0 c]).run Tryz.prog w = .ok v w := by
  obtain ⟨i, hi, hz, hs, hby⟩ := hI43
  rcases h.2 with ⟨rfl, rfl⟩ | ⟨g, cap, cur, rfl, _, _, hnc, _⟩
  · cases ad <;> simp [Builtin.append_, run_underlying Tryz.underlying26, sizeOf, typeInfo, hi, Builtin.lenOf, Builtin.firstCells, loadCells, loadCellsFrom]
  · cases ad <;> simp [Builtin.append_, run_underlying Tryz.underlying26, sizeOf, typeInfo, hi, Builtin.lenOf, Builtin.firstCells, hnc, storeCells, loadCells, loadCellsFrom]
def cS {T : World → Prop} {t : Nat} {e : TypeId} (hu : Tryz.prog.underlying t = some (.slice e)) {ad : Option Addr} {n cap : Nat} {z : Int} (h : (cap : Int) = z) : Fa Tryz.prog T := Sum.inr (Sum.inr
  { ok := fun | .call { callee := .builtin .cap, args := _, argTypes := ts } => ts == #[t] | _ => false
    xs := #[.slice ad n cap]
    v := Z z
    fr := true
    h := by
      intro a w oo _ hok hx
      cases hop : oo.op with
      | call cc =>
        obtain ⟨callee, xs, ts⟩ := cc
        rw [hop] at hok hx
        cases callee with
        | builtin b =>
          cases b <;> simp at hok
          subst hok
          simp only [qx] at hx
          have hx2 : xs.map a.eval = #[.slice ad n cap] := by rw [← hx]; apply Array.ext'; simp
          unfold execOp
          simp only [hop, resolve, invoke, Sem.run_bind, Sem.run_pure, Result.andThen_ok, hx2, builtin]
          subst h
          simp [Builtin.cap_, run_underlying hu, goInt]
        | _ => simp at hok
      | _ => rw [hop] at hok; simp at hok })
theorem sl_nil (w : World) : (Instr.sliceAt 26 (.slice none 0 0) none (some (Z 0)) none).run Tryz.prog w = .ok (.slice none 0 0) w := by
  simp [go_sem]
theorem sl_zero (g n cap : Nat) (w : World) : (Instr.sliceAt 26 (.slice (some ⟨g, 0, none⟩) n cap) none (some (Z 0)) none).run Tryz.prog w = .ok (.slice (some ⟨g, 0, none⟩) 0 cap) w := by
  simp [go_sem]
theorem xgrow_ok (n : Nat) (hn : n ≤ 1000000) (w : World) : Calls Tryz.prog 90 #[.slice none 0 0, Z n] w fun e w' => ∃ ad cap, e = .returned (.slice ad 0 cap) ∧ RO w w.heap.size 43 2 (.slice ad 0 cap) 0 [] w' := by
  by_cases h0 : n = 0
  · subst h0
    refine inQ (J := RO w w.heap.size 43 2 (.slice none 0 0) 0 []) (F := ROF w w.heap.size (.slice none 0 0)) Tryz.func90 (RO.start _ _ _ _) fun a I => ?_
    refine goQ [bO .lss 3 (zh (x := (0 : Nat)) (y := 0) (b := false) rfl), cS Tryz.underlying26 (ad := none) (n := 0) (cap := 0) rfl, lS Tryz.underlying26 (ad := none) (n := 0) (cap := 0) rfl, bO .sub 3 (qg (x := (0 : Nat)) (y := (0 : Nat)) (z := 0) (by decide)), bO .sub 3 (qg (x := (0 : Nat)) (y := 0) (z := 0) (by decide)), bO .gtr 3 (yf (x := 0) (y := 0) (b := false) rfl)] (RO.rs _ _ _ _ _ _ _) I fun β1 a1 w1 I hb1 => ?_
    exact zm (v := .slice none 0 0) I ⟨none, 0, rfl, I.hJ⟩
  · refine inQ (J := RO w w.heap.size 43 2 (.slice none 0 0) 0 []) (F := ROF w w.heap.size (.slice none 0 0)) Tryz.func90 (RO.start _ _ _ _) fun a I => ?_
    refine goQ [bO .lss 3 (zh (x := n) (y := 0) (b := false) (decide_eq_false (by omega))), cS Tryz.underlying26 (ad := none) (n := 0) (cap := 0) rfl, lS Tryz.underlying26 (ad := none) (n := 0) (cap := 0) rfl, bO .sub 3 (qg (x := (0 : Nat)) (y := (0 : Nat)) (z := 0) (by decide)), bO .sub 3 (qg (x := n) (y := 0) (z := n) (by rw [wz (by omega) (by omega)]; omega)), bO .gtr 3 (yf (x := n) (y := 0) (b := true) (decide_eq_true (by omega))), cS Tryz.underlying26 (ad := none) (n := 0) (cap := 0) rfl, sT 26 sl_nil] (RO.rs _ _ _ _ _ _ _) I fun β1 a1 w1 I1 hb1 => ?_
    obtain ⟨i, hi, hz, hs, hby⟩ := hI43
    have hr := Lib.run_append_nil_zeros (P := Tryz.prog) w1 26 3 26 43 i _ .i64 .i64 Tryz.underlying26 Tryz.underlying3 hi hz n (by omega) (by omega) (by omega) (by rw [hby]; omega)
    have hge := grownCap_ge w1 n 0 43
    have hle : grownCap w1 n 0 43 ≤ maxLen := grownCap_le_maxLen w1 n 0 43 (by simp only [maxLen]; omega)
    have hgb : w1.grownBy (w1.drew.alloc (.cells (Builtin.zeroCells (Value.agg #[.string eB, .slice none 0 0]).cells n ++ Builtin.zeroCells (Value.agg #[.string eB, .slice none 0 0]).cells (grownCap w1 n 0 43 - n)) 43)) none := ⟨rfl, rfl, rfl, by simp, fun k hk _ => heap_alloc_old w1.drew _ hk⟩
    refine appQ (ts := #[26, 3]) (ty := 26) (ss := [Sum.inl (.slice none 0 0), Sum.inl (Z n)]) I1 hr ?_
    have hsz : w.heap.size ≤ w1.heap.size := I1.hJ.gr.size
    have hgn : (w1.drew.alloc (.cells (Builtin.zeroCells (Value.agg #[.string eB, .slice none 0 0]).cells n ++ Builtin.zeroCells (Value.agg #[.string eB, .slice none 0 0]).cells (grownCap w1 n 0 43 - n)) 43)).heap[w1.heap.size]? = _ := heap_alloc_new w1.drew _
    have hcz : (Builtin.zeroCells (Value.agg #[.string eB, .slice none 0 0]).cells n ++ Builtin.zeroCells (Value.agg #[.string eB, .slice none 0 0]).cells (grownCap w1 n 0 43 - n)).size = grownCap w1 n 0 43 * 2 := by
      rw [Array.size_append, size_zeroCells, size_zeroCells, ← Nat.add_mul]
      show (n + (grownCap w1 n 0 43 - n)) * 2 = _
      congr 1
      omega
    generalize w1.drew.alloc (.cells (Builtin.zeroCells (Value.agg #[.string eB, .slice none 0 0]).cells n ++ Builtin.zeroCells (Value.agg #[.string eB, .slice none 0 0]).cells (grownCap w1 n 0 43 - n)) 43) = w2 at *
    generalize Builtin.zeroCells (Value.agg #[.string eB, .slice none 0 0]).cells n ++ Builtin.zeroCells (Value.agg #[.string eB, .slice none 0 0]).cells (grownCap w1 n 0 43 - n) = cur at *
    generalize grownCap w1 n 0 43 = cp at *
    have I2 := I1.moved (J' := RO w w.heap.size 43 2 (.slice (some ⟨w1.heap.size, 0, none⟩) 0 cp) 0 []) (F' := ROF w w.heap.size (.slice (some ⟨w1.heap.size, 0, none⟩) 0 cp)) ⟨hgb.os, hgb.tape, hgb.output, hgb.size, fun k hk _ => hgb.block k hk (by simp)⟩ (I1.hJ.grown ⟨rfl, .inr ⟨w1.heap.size, cp, cur, rfl, hsz, hgn, Nat.zero_le _, hle, hcz, rfl⟩⟩ ⟨hgb, fun k hk => .inr (by simp only [Value.ownBlock, Option.some.injEq] at hk; omega)⟩) (fun k hk h => by
      rcases h with h | h
      · exact .inl h
      · simp only [Value.ownBlock, Option.some.injEq] at h; omega) (.slice (some ⟨w1.heap.size, 0, none⟩) n cp)
    generalize w1.heap.size = gg at *
    refine goQ [lS Tryz.underlying26 (ad := none) (n := 0) (cap := 0) rfl, sT 26 (sl_zero gg n cp)] (RO.rs _ _ _ _ _ _ _) I2 fun β3 a3 w3 I3 hb3 => ?_
    exact zm (v := .slice (some ⟨gg, 0, none⟩) 0 cp) I3 ⟨_, _, rfl, I3.hJ⟩
def loopsOf : Code → List Code
  | .seq x y => loopsOf x ++ loopsOf y
  | .block _ x => loopsOf x
  | .cond _ x y => loopsOf x ++ loopsOf y
  | .loop x => [x]
  | _ => []
def bodyLk (fn : Func) (k : Nat) : Code := ((loopsOf (fn.body.getD .skip))[k]?).getD .skip
def tlN (L : Nat → Nat) : Nat → Nat
  | 0 => 0
  | n + 1 => tlN L n + L n
def tlX (X : Nat → List Value) : Nat → List Value
  | 0 => []
  | n + 1 => tlX X n ++ X n
theorem own_low {w : World} {b b' e s : Nat} {v : Value} {n : Nat} {xs : List Value} (h : w.ownsRow b e s v n xs) (hb : b' ≤ b) : w.ownsRow b' e s v n xs := by
  refine ⟨h.1, ?_⟩
  rcases h.2 with h2 | ⟨g, cap, cur, h1, h2, h3⟩
  · exact .inl h2
  · exact .inr ⟨g, cap, cur, h1, Nat.le_trans hb h2, h3⟩
theorem RO.bel {wE w : World} {e sz : Nat} {v : Value} {n : Nat} {xs : List Value} (h : RO wE wE.heap.size e sz v n xs w) : Below wE.heap.size wE w := ⟨h.gr.os, h.gr.tape, h.gr.output, h.gr.size, fun k hk => h.gr.block k hk (by omega)⟩
abbrev k1K : List Nat := [0, 2, 3, 9, 10, 11]
abbrev k1V (v : Value) (n i : Nat) : Vs := frm 36 [(0, Sum.inl v), (2, Sum.inl (.slice none 0 0)), (3, Sum.inl (Z n)), (9, Sum.inl v), (10, Sum.inl (Z 2)), (11, Sum.inl (Z i))]
abbrev k2K : List Nat := [0, 2, 6, 25, 26, 27]
abbrev k2V (v r : Value) (i : Nat) : Vs := frm 36 [(0, Sum.inl v), (2, Sum.inl (.slice none 0 0)), (6, Sum.inl r), (25, Sum.inl v), (26, Sum.inl (Z 2)), (27, Sum.inl (Z i))]
theorem concat_raw {w : World} {g : Nat} (A : Nat → Option Addr) (L Cc : Nat → Nat) (X : Nat → List Value)
    (hrow : ∀ i, i < 2 → ∀ w', Below w.heap.size w w' → (loadVar 26 ⟨g, 0 + i * 1, none⟩).run Tryz.prog w' = .ok (.slice (A i) (L i) (Cc i)) w') (hL : ∀ i, L i ≤ 1000)
    (hX : ∀ i, i < 2 → (X i).length = L i * 2 ∧ (∀ u ∈ X i, u.oneCell' = true) ∧ (L i ≠ 0 → ∃ a : Addr, A i = some a ∧ ∀ w', Below w.heap.size w w' → ∀ j u, (X i)[j]? = some u → w'.cell? (a.add j) = some u)) :
    Calls Tryz.prog 55 #[.slice (some ⟨g, 0, none⟩) 2 2] w fun e w' => ∃ ad cap, e = .returned (.slice ad (tlN L 2) cap) ∧ RO w w.heap.size 43 2 (.slice ad (tlN L 2) cap) (tlN L 2) (tlX X 2) w' := by
  have hT : ∀ i, i ≤ 2 → tlN L i ≤ 2000 := fun i hi => by
    have h0 := hL 0
    have h1 := hL 1
    match i, hi with
    | 0, _ => exact Nat.zero_le _
    | 1, _ => show 0 + L 0 ≤ 2000; omega
    | 2, _ => show 0 + L 0 + L 1 ≤ 2000; omega
  refine inQ (J := Below w.heap.size w) (F := (· < w.heap.size)) Tryz.func55 (Below.refl _ _) fun a I => ?_
  refine goQ [lS Tryz.underlying118 (ad := some ⟨g, 0, none⟩) (n := 2) (cap := 2) rfl] (zd w) I fun β1 a1 w1 I1 hb1 => ?_
  refine lpM (bodyLk Tryz.f55 0) (fun k a w' => ∃ (i : Nat) (β : Nat → Nat) (u : Nat → Value), k = 2 - i ∧ i ≤ 2 ∧ SI (Below w.heap.size w) (· < w.heap.size) [] β (cfC (bodyLk Tryz.f55 0) (z6 (zv 36 k1K) u 0 (k1V (.slice (some ⟨g, 0, none⟩) 2 2) (tlN L i) i)) [] 0) a w') 2 ?_ ?_
  · obtain ⟨u, Iu⟩ := I1.scr (bodyLk Tryz.f55 0) (zv 36 k1K) (k1V (.slice (some ⟨g, 0, none⟩) 2 2) (tlN L 0) 0) [] 0
    exact ⟨0, β1, u, rfl, by omega, Iu⟩
  rintro k a2 w2 ⟨i, β2, u, rfl, hi, I2⟩
  refine y7 (tm := z6 (zv 36 k1K) u 0 (k1V (.slice (some ⟨g, 0, none⟩) 2 2) (tlN L i) i)) (rows := []) (nx := 0) ?_
  rcases Nat.lt_or_ge i 2 with hil | hil
  · have h1 := hT i hi
    have h2 := hT (i + 1) hil
    have e2 : tlN L (i + 1) = tlN L i + L i := rfl
    have hr := hrow i hil
    obtain ⟨t2, ht2⟩ : ∃ t, tlN L (i + 1) = t := ⟨_, rfl⟩
    rw [ht2] at h2 e2
    refine goT (T := Below w.heap.size w) [bO .lss 3 (zh (x := i) (y := 2) (b := true) (decide_eq_true (by omega))), iA 118 Tryz.underlying118 (sz := 1) (by kernel_rfl) (g := g) (off := 0) (n := 2) (cap := 2) hil, ldA 26 hr, lS Tryz.underlying26 (ad := A i) (n := L i) (cap := Cc i) rfl, bO .add 3 (zn (x := tlN L i) (y := L i) (z := t2) (by rw [wz (by omega) (by omega)]; omega)), bO .lss 3 (zh (x := t2) (y := 0) (b := false) (decide_eq_false (by omega))), bO .add 3 (zn (x := i) (y := 1) (z := (i + 1 : Nat)) (by rw [wz (by omega) (by omega)]; omega))] (zd w) (fun _ h => h) I2 fun β3 a3 w3 I3 hb3 => ?_
    obtain ⟨u', Iu⟩ := I3.scr (bodyLk Tryz.f55 0) (zv 36 k1K) (k1V (.slice (some ⟨g, 0, none⟩) 2 2) t2 (i + 1)) [] 0
    exact kn ⟨2 - (i + 1), by omega, i + 1, β3, u', rfl, hil, by rw [ht2]; exact Iu⟩
  · obtain rfl : i = 2 := by omega
    have h2 := hT 2 (by omega)
    refine goQ [bO .lss 3 (zh (x := (2 : Nat)) (y := 2) (b := false) rfl)] (zd w) I2 fun β3 a3 w3 I3 hb3 => ?_
    refine kz 0 ?_
    refine goQ [] (zd w) (I3.exit _) fun β4 a4 w4 I4 hb4 => ?_
    refine mcall (f := 90) (ss := [Sum.inl (.slice none 0 0), Sum.inl (Z (tlN L 2))]) Tryz.func90 I4 ((xgrow_ok (tlN L 2) (by omega) w4).mono fun e w5 he => ?_)
    obtain ⟨ad5, cap5, rfl, hro⟩ := he
    have hs4 : w.heap.size ≤ w4.heap.size := I4.hJ.size
    have hro' : RO w w.heap.size 43 2 (.slice ad5 0 cap5) 0 [] w5 := ⟨⟨hro.gr.os.trans I4.hJ.os, hro.gr.tape.trans I4.hJ.tape, hro.gr.output.trans I4.hJ.output, Nat.le_trans I4.hJ.size hro.gr.size, fun k hk _ => (hro.gr.block k (by omega) (by omega)).trans (I4.hJ.block k hk)⟩, own_low hro.own hs4⟩
    have I5 := I4.moved (J' := RO w w.heap.size 43 2 (.slice ad5 0 cap5) 0 []) (F' := ROF w w.heap.size (.slice ad5 0 cap5)) ⟨hro.gr.os, hro.gr.tape, hro.gr.output, hro.gr.size, fun k hk _ => hro.gr.block k hk (by omega)⟩ hro' (fun k hk h => by
      rcases h with h | h
      · exact h.1
      · have := (hro.own.lt k h).1; omega) (.slice ad5 0 cap5)
    refine goQ [lS Tryz.underlying118 (ad := some ⟨g, 0, none⟩) (n := 2) (cap := 2) rfl] (RO.rs _ _ _ _ _ _ _) I5 fun β6 a6 w6 I6 hb6 => ?_
    refine lpM (bodyLk Tryz.f55 1) (fun k a w' => ∃ (i : Nat) (β : Nat → Nat) (u : Nat → Value) (ad : Option Addr) (cap : Nat), k = 2 - i ∧ i ≤ 2 ∧ SI (RO w w.heap.size 43 2 (.slice ad (tlN L i) cap) (tlN L i) (tlX X i)) (ROF w w.heap.size (.slice ad (tlN L i) cap)) [] β (cfC (bodyLk Tryz.f55 1) (z6 (zv 36 k2K) u 0 (k2V (.slice (some ⟨g, 0, none⟩) 2 2) (.slice ad (tlN L i) cap) i)) [] 0) a w') 2 ?_ ?_
    · obtain ⟨u, Iu⟩ := I6.scr (bodyLk Tryz.f55 1) (zv 36 k2K) (k2V (.slice (some ⟨g, 0, none⟩) 2 2) (.slice ad5 0 cap5) 0) [] 0
      exact ⟨0, β6, u, ad5, cap5, rfl, by omega, Iu⟩
    rintro k a7 w7 ⟨i, β7, u7, ad, cap, rfl, hi, I7⟩
    refine y7 (tm := z6 (zv 36 k2K) u7 0 (k2V (.slice (some ⟨g, 0, none⟩) 2 2) (.slice ad (tlN L i) cap) i)) (rows := []) (nx := 0) ?_
    rcases Nat.lt_or_ge i 2 with hil | hil
    · have h1 := hT i hi
      have hr := hrow i hil
      obtain ⟨x1, x2, x3⟩ := hX i hil
      have hLi := hL i
      obtain ⟨t2, ht2⟩ : ∃ t, tlN L (i + 1) = t := ⟨_, rfl⟩
      obtain ⟨X2, hX2⟩ : ∃ t, tlX X (i + 1) = t := ⟨_, rfl⟩
      have e2 : tlN L i + L i = t2 := ht2
      have e3 : tlX X i ++ X i = X2 := hX2
      generalize tlN L i = t1 at *
      generalize tlX X i = X1 at *
      refine goT (T := RO w w.heap.size 43 2 (.slice ad t1 cap) t1 X1) [bO .lss 3 (zh (x := i) (y := 2) (b := true) (decide_eq_true (by omega))), iA 118 Tryz.underlying118 (sz := 1) (by kernel_rfl) (g := g) (off := 0) (n := 2) (cap := 2) hil, ldA 26 (fun w' h => hr w' h.bel)] (RO.rs _ _ _ _ _ _ _) (fun _ h => h) I7 fun β8 a8 w8 I8 hb8 => ?_
      have happ : ∃ v' w', (Builtin.append_ #[26, 26] 26 #[.slice ad t1 cap, .slice (A i) (L i) (Cc i)]).run Tryz.prog w8 = .ok v' w' ∧ w'.ownsRow w.heap.size 43 2 v' t2 X2 ∧ Grw (.slice ad t1 cap) v' w8 w' := by
        by_cases hz : L i = 0
        · refine ⟨.slice ad t1 cap, w8, by rw [hz]; exact app_zero I8.hJ.own (A i) (Cc i), ?_, ⟨⟨rfl, rfl, rfl, Nat.le_refl _, fun _ _ _ => rfl⟩, fun k hk => .inl hk⟩⟩
          have : X i = [] := List.eq_nil_of_length_eq_zero (by rw [x1, hz])
          rw [← e2, ← e3, hz, this, List.append_nil]
          exact I8.hJ.own
        · obtain ⟨aa, hA, hc⟩ := x3 hz
          rw [hA, ← e2, ← e3]
          exact app_many I8.hJ.own I8.hJ.gr.size aa (L i) (Cc i) (X i) x1 (by omega) (hc w8 I8.hJ.bel) x2 (by omega)
      obtain ⟨v', w9, hrn, ho, hg⟩ := happ
      refine appQ (ts := #[26, 26]) (ty := 26) (ss := [Sum.inl (.slice ad t1 cap), Sum.inl (.slice (A i) (L i) (Cc i))]) I8 hrn ?_
      obtain ⟨ad9, cap9, rfl⟩ := yo ho
      have I9 := I8.moved (J' := RO w w.heap.size 43 2 (.slice ad9 t2 cap9) t2 X2) (F' := ROF w w.heap.size (.slice ad9 t2 cap9)) ⟨hg.gr.os, hg.gr.tape, hg.gr.output, hg.gr.size, fun k hk hn => hg.gr.block k hk fun e => hn (.inr e.symm)⟩ (I8.hJ.grown ho hg) (fun k hk h => by
        rcases h with h | h
        · exact .inl h
        · rcases hg.nb k h with h | h
          · exact .inr h
          · omega) (.slice ad9 t2 cap9)
      refine goQ [bO .add 3 (zn (x := i) (y := 1) (z := (i + 1 : Nat)) (by rw [wz (by omega) (by omega)]; omega))] (RO.rs _ _ _ _ _ _ _) I9 fun β10 a10 w10 I10 hb10 => ?_
      obtain ⟨u', Iu⟩ := I10.scr (bodyLk Tryz.f55 1) (zv 36 k2K) (k2V (.slice (some ⟨g, 0, none⟩) 2 2) (.slice ad9 t2 cap9) (i + 1)) [] 0
      exact kn ⟨2 - (i + 1), by omega, i + 1, β10, u', ad9, cap9, rfl, hil, by rw [ht2, hX2]; exact Iu⟩
    · obtain rfl : i = 2 := by omega
      refine goQ [bO .lss 3 (zh (x := (2 : Nat)) (y := 2) (b := false) rfl)] (RO.rs _ _ _ _ _ _ _) I7 fun β8 a8 w8 I8 hb8 => ?_
      refine kz 2 ?_
      refine goQ [] (RO.rs _ _ _ _ _ _ _) (I8.exit _) fun β9 a9 w9 I9 hb9 => ?_
      exact zm (v := .slice ad (tlN L 2) cap) I9 ⟨_, _, rfl, I9.hJ⟩
theorem za1 : ∀ {X : List (List Value)}, (∀ y ∈ X, y.length = 2) → X.flatten.length = X.length * 2
  | [], _ => rfl
  | y :: X, h => by
    have h1 := za1 (X := X) fun z hz => h z (List.mem_cons_of_mem _ hz)
    have h2 := h y List.mem_cons_self
    rw [List.flatten_cons, List.length_append, h1, h2, List.length_cons]
    omega
/-- A row of exits, cell by cell. -/
structure ExC (w : World) (ad : Option Addr) (l : List Ex) (X : List (List Value)) : Prop where
  len : X.length = l.length
  two : ∀ y ∈ X, y.length = 2
  one : ∀ u ∈ X.flatten, u.oneCell' = true
  mem : ∀ (i : Nat) (x : Ex) (cs : List Value), l[i]? = some x → X[i]? = some cs → CE (· < w.heap.size) w x cs
  at_ : l.length ≠ 0 → ∃ a : Addr, ad = some a ∧ ∀ w', Below w.heap.size w w' → ∀ j u, X.flatten[j]? = some u → w'.cell? (a.add j) = some u
theorem ExI.cells {w : World} {ad : Option Addr} {cap : Nat} {l : List Ex} (h : ExI w (.slice ad l.length cap) l) : ∃ X, ExC w ad l X := by
  obtain ⟨ad', cap', he, hm⟩ := h
  cases he
  obtain ⟨X, h1, h2⟩ := pick_list (P := fun i cs => ∃ x, l[i]? = some x ∧ ∃ g off, ad = some ⟨g, off, none⟩ ∧ g < w.heap.size ∧ yi w g (off + i * 2) cs ∧ CE (· < w.heap.size) w x cs) l.length fun i hi => by
    obtain ⟨g, off, cs, q1, q2, q3, q4⟩ := hm i _ (List.getElem?_eq_getElem hi)
    exact ⟨cs, _, List.getElem?_eq_getElem hi, g, off, q1, q2, q3, q4⟩
  have h2l : ∀ y ∈ X, y.length = 2 := fun y hy => by
    obtain ⟨i, hi⟩ := List.getElem?_of_mem hy
    obtain ⟨x, _, g, off, _, _, _, av, rfl, _⟩ := h2 i y hi
    rfl
  refine ⟨X, h1, h2l, fun u hu => ?_, fun i x cs hx hc => ?_, fun h0 => ?_⟩
  · obtain ⟨y, hy, huy⟩ := List.mem_flatten.1 hu
    obtain ⟨i, hi⟩ := List.getElem?_of_mem hy
    obtain ⟨x, _, g, off, _, _, _, av, rfl, hs⟩ := h2 i y hi
    obtain ⟨ad2, cap2, rfl⟩ := hs.slice
    simp only [List.mem_cons, List.not_mem_nil, or_false] at huy
    rcases huy with rfl | rfl <;> rfl
  · obtain ⟨x', hx', g, off, _, _, _, hC⟩ := h2 i cs hc
    rw [hx] at hx'
    cases hx'
    exact hC
  · obtain ⟨cs0, hc0⟩ : ∃ cs, X[0]? = some cs := ⟨_, List.getElem?_eq_getElem (by omega)⟩
    obtain ⟨x, _, g, off, hq, hlt, _, _⟩ := h2 0 cs0 hc0
    refine ⟨⟨g, off, none⟩, hq, fun w' hb j u hu => ?_⟩
    have hj := (List.getElem?_eq_some_iff.1 hu).1
    rw [za1 h2l] at hj
    obtain ⟨y, hy⟩ : ∃ y, X[j / 2]? = some y := ⟨_, List.getElem?_eq_getElem (by omega)⟩
    obtain ⟨x2, _, g2, off2, hq2, hlt2, hca, _⟩ := h2 (j / 2) y hy
    rw [hq] at hq2
    cases hq2
    have hyl := h2l y (List.mem_of_getElem? hy)
    obtain ⟨c, hc⟩ : ∃ c, y[j % 2]? = some c := ⟨_, List.getElem?_eq_getElem (by omega)⟩
    have hf := flat_sz (sz := 2) hc h2l hy
    rw [show j / 2 * 2 + j % 2 = j by omega, hu] at hf
    cases hf
    rw [vh, show off + j = off + j / 2 * 2 + j % 2 by omega]
    exact hca.keep (hb.block g hlt) _ _ hc
/-- What a row that was laid anew has at a place. -/
theorem zec {w : World} {b n cap : Nat} {ad : Option Addr} {X : List (List Value)} (h : w.ownsRow b 43 2 (.slice ad n cap) n X.flatten) (h2 : ∀ y ∈ X, y.length = 2) {i : Nat} {cs : List Value} (hi : X[i]? = some cs) (hn : i < n) : ∃ g, ad = some ⟨g, 0, none⟩ ∧ yi w g (0 + i * 2) cs := by
  rcases h.2 with ⟨he, hz⟩ | ⟨g, cap', cur, he, _, hh, hc, _, hsz, ht⟩
  · omega
  · cases he
    refine ⟨g, rfl, fun j c hcj => ?_⟩
    have hf := flat_sz (sz := 2) hcj h2 hi
    rw [← ht, List.getElem?_take] at hf
    split at hf
    · have hr : zb w g cur := ⟨43, hh⟩
      rw [Nat.zero_add, hr.cell]
      simpa using hf
    · cases hf
def tvN (l : List Ex) (s : ByteArray) : Nat := if qy l s < W then qy l s else 0
def tvB (l : List Ex) (s : ByteArray) : Bool := decide (qy l s < W)
theorem tvN_lt (l : List Ex) (s : ByteArray) : tvN l s < W := by
  unfold tvN
  split
  · assumption
  · unfold W; omega
theorem total_ok {w : World} {ev : Value} {l : List Ex} (h : ExI w ev l) (s : ByteArray) (hok : okX l) : Calls Tryz.prog 56 #[ev, .string s] w fun e w' => e = .returned (.tuple #[U (tvN l s), .bool (tvB l s)]) ∧ Below w.heap.size w w' := by
  have := total_any h s hok.1 hok.2
  unfold totV at this
  unfold tvN tvB
  by_cases hW : qy l s < W
  · rw [if_pos hW] at this ⊢
    rw [decide_eq_true hW]
    exact this
  · rw [if_neg hW] at this ⊢
    rw [decide_eq_false hW]
    exact this
def ktB (l m : List Ex) : Bool := (l ++ m).all fun x => decide (tvN l x.1 = tvN m x.1)
theorem neqU_k {n m : Nat} (hn : n < W) (hm : m < W) {b : Bool} (h : decide (n ≠ m) = b) (x y : Operand) (w : World) : (do eqGuard .neq 45 x y (U n) (U m); binOp .neq 45 (U n) (U m) : Sem Value).run Tryz.prog w = .ok (.bool b) w := by
  have he := run_eqU n m hn hm w
  have hg : (eqGuard .neq 45 x y (U n) (U m)).run Tryz.prog w = .ok () w := by
    unfold eqGuard
    simp [go_sem]
  simp only [Sem.run_bind, hg, Result.andThen_ok]
  unfold binOp Op.equal
  simp only [Sem.run_bind]
  rw [show Op.maxDepth = 10000 from rfl, he]
  subst h
  by_cases hq : n = m <;> simp [go_sem, hq]
theorem bs118 (a b : Option Addr) (n m c d : Nat) (w : World) : (Instr.buildSlice 118 2 #[(0, .slice a n c), (1, .slice b m d)]).run Tryz.prog w = .ok (.slice (some ⟨w.heap.size, 0, none⟩) 2 2) (w.alloc (.cells #[.slice a n c, .slice b m d] 26)) := by
  simp [go_sem]
abbrev kpK : List Nat := [1, 2, 16, 17, 18]
abbrev kpV (v : Value) (n i : Nat) : Vs := frm 44 [(1, Sum.inr (0, 0)), (2, Sum.inl (Z 0)), (16, Sum.inl v), (17, Sum.inl (Z n)), (18, Sum.inl (Z i))]
section
variable {w : World} {f : Fi} {pv : Value} {a : Va} {ea : Value} {b : Va} {eb : Value} {who : Int}
theorem totals_ok (h : PrI w f pv a ea b eb) (hla : a.2.2.2.length ≤ 1000) (hlb : b.2.2.2.length ≤ 1000) : Calls Tryz.prog 38 #[prV f pv a ea b eb who] w fun r w' => r = .returned (Z (if ktB a.2.2.2 b.2.2.2 = true then 0 else 12)) ∧ Below w.heap.size w w' := by
  have hTa := fun s w' (hb : Below w.heap.size w w') => total_ok (h.below hb).sa s h.xa
  have hTb := fun s w' (hb : Below w.heap.size w w') => total_ok (h.below hb).sb s h.xb
  obtain ⟨adp, capp, rfl, _⟩ := id h.sp.2
  obtain ⟨ada, capa, rfl⟩ := h.sa.slice
  obtain ⟨adb, capb, rfl⟩ := h.sb.slice
  obtain ⟨Xa, hXa⟩ := h.sa.cells
  obtain ⟨Xb, hXb⟩ := h.sb.cells
  obtain ⟨ps, no, ap, ti⟩ := f
  obtain ⟨ta, fa, da, xa⟩ := a
  obtain ⟨tb, fb, db, xb⟩ := b
  simp only [] at hla hlb hTa hTb hXa hXb ⊢
  have hpr : ∀ q : Prop, q → q := fun _ h => h
  refine inQ (J := Below w.heap.size w) (F := (· < w.heap.size)) Tryz.func38 (Below.refl _ _) fun a I => ?_
  refine goQ [] (zd w) I fun β1 a1 w1 I1 hb1 => ?_
  refine bslQ (ss := [(0, Sum.inl (.slice ada xa.length capa)), (1, Sum.inl (.slice adb xb.length capb))]) I1 (bs118 ada adb xa.length xb.length capa capb w1) ?_
  have I2 := I1.alloc (zd w) (.cells #[.slice ada xa.length capa, .slice adb xb.length capb] 26) (.slice (some ⟨w1.heap.size, 0, none⟩) 2 2)
  have hrow : zb (w1.alloc (.cells #[.slice ada xa.length capa, .slice adb xb.length capb] 26)) w1.heap.size #[.slice ada xa.length capa, .slice adb xb.length capb] := zb.last rfl
  have hb2 : Below w.heap.size w (w1.alloc (.cells #[.slice ada xa.length capa, .slice adb xb.length capb] 26)) := I2.hJ
  generalize w1.alloc (.cells #[.slice ada xa.length capa, .slice adb xb.length capb] 26) = w2 at *
  generalize w1.heap.size = g at *
  have hcc := concat_raw (w := w2) (g := g) (fun i => if i = 0 then ada else adb) (fun i => if i = 0 then xa.length else xb.length) (fun i => if i = 0 then capa else capb) (fun i => if i = 0 then Xa.flatten else Xb.flatten) (fun i hi w' hb' => by
      have hca : yi w' g 0 [.slice ada xa.length capa, .slice adb xb.length capb] := fun j c hc => by
        have hr := hrow.below hb'
        rw [Nat.zero_add, hr.cell]
        simpa using hc
      match i, hi with
      | 0, _ => exact zb4 hca 0 rfl 26 Tryz.underlying26 rfl
      | 1, _ => exact zb4 hca 1 rfl 26 Tryz.underlying26 rfl) (fun i => by split <;> assumption) (fun i hi => by
      match i, hi with
      | 0, _ => exact ⟨by show Xa.flatten.length = xa.length * 2; rw [za1 hXa.two, hXa.len], hXa.one, fun h0 => (by
          obtain ⟨aa, q1, q2⟩ := hXa.at_ h0
          exact ⟨aa, q1, fun w' hb' => q2 w' (hb2.trans (hb'.mono hb2.size))⟩)⟩
      | 1, _ => exact ⟨by show Xb.flatten.length = xb.length * 2; rw [za1 hXb.two, hXb.len], hXb.one, fun h0 => (by
          obtain ⟨aa, q1, q2⟩ := hXb.at_ h0
          exact ⟨aa, q1, fun w' hb' => q2 w' (hb2.trans (hb'.mono hb2.size))⟩)⟩)
  rw [show tlN (fun i => if i = 0 then xa.length else xb.length) 2 = xa.length + xb.length from by simp [tlN], show tlX (fun i => if i = 0 then Xa.flatten else Xb.flatten) 2 = (Xa ++ Xb).flatten from by simp [tlX]] at hcc
  refine mcall (f := 55) (ss := [Sum.inl (.slice (some ⟨g, 0, none⟩) 2 2)]) Tryz.func55 I2 (hcc.mono fun e w3 he => ?_)
  obtain ⟨ad3, cap3, rfl, hro⟩ := he
  have hs2 : w.heap.size ≤ w2.heap.size := hb2.size
  have hro' : RO w w.heap.size 43 2 (.slice ad3 (xa.length + xb.length) cap3) (xa.length + xb.length) (Xa ++ Xb).flatten w3 := ⟨⟨hro.gr.os.trans hb2.os, hro.gr.tape.trans hb2.tape, hro.gr.output.trans hb2.output, Nat.le_trans hb2.size hro.gr.size, fun k hk _ => (hro.gr.block k (by omega) (by omega)).trans (hb2.block k hk)⟩, own_low hro.own hs2⟩
  have I3 := I2.moved (J' := RO w w.heap.size 43 2 (.slice ad3 (xa.length + xb.length) cap3) (xa.length + xb.length) (Xa ++ Xb).flatten) (F' := ROF w w.heap.size (.slice ad3 (xa.length + xb.length) cap3)) ⟨hro.gr.os, hro.gr.tape, hro.gr.output, hro.gr.size, fun k hk _ => hro.gr.block k hk (by omega)⟩ hro' (fun k hk h => by
      rcases h with h | h
      · exact h.1
      · have := (hro.own.lt k h).1; omega) (.slice ad3 (xa.length + xb.length) cap3)
  have hel : ∀ i, i < xa.length + xb.length → ∃ x, (xa ++ xb)[i]? = some x ∧ ∃ av : Option Addr × Nat × Nat, ∃ gq, ad3 = some ⟨gq, 0, none⟩ ∧ ∀ w', RO w w.heap.size 43 2 (.slice ad3 (xa.length + xb.length) cap3) (xa.length + xb.length) (Xa ++ Xb).flatten w' → (loadVar 43 ⟨gq, 0 + i * 2, none⟩).run Tryz.prog w' = .ok (.agg #[.string x.1, .slice av.1 av.2.1 av.2.2]) w' := fun i hi => by
    have h2 : ∀ y ∈ Xa ++ Xb, y.length = 2 := fun y hy => (List.mem_append.1 hy).elim (hXa.two y) (hXb.two y)
    have hlen : (Xa ++ Xb).length = xa.length + xb.length := by rw [List.length_append, hXa.len, hXb.len]
    obtain ⟨cs, hcs⟩ : ∃ cs, (Xa ++ Xb)[i]? = some cs := ⟨_, List.getElem?_eq_getElem (by omega)⟩
    obtain ⟨x, hx⟩ : ∃ x, (xa ++ xb)[i]? = some x := ⟨_, List.getElem?_eq_getElem (by rw [List.length_append]; omega)⟩
    have hCE : CE (· < w.heap.size) w x cs := by
      by_cases hi2 : i < xa.length
      · rw [List.getElem?_append_left (by rw [hXa.len]; exact hi2)] at hcs
        rw [List.getElem?_append_left hi2] at hx
        exact hXa.mem i x cs hx hcs
      · rw [List.getElem?_append_right (by rw [hXa.len]; omega), hXa.len] at hcs
        rw [List.getElem?_append_right (by omega)] at hx
        exact hXb.mem _ x cs hx hcs
    obtain ⟨av, rfl, hav⟩ := hCE
    obtain ⟨ad4, cap4, rfl⟩ := hav.slice
    obtain ⟨gq, hgq, _⟩ := zec hro'.own h2 hcs hi
    refine ⟨x, hx, ⟨ad4, x.2.length, cap4⟩, gq, hgq, fun w' hw' => ?_⟩
    obtain ⟨gq2, hgq2, hc2⟩ := zec hw'.own h2 hcs hi
    rw [hgq] at hgq2
    cases hgq2
    exact loadEx hc2
  generalize hn3 : xa.length + xb.length = n3 at *
  have hn3l : n3 ≤ 2000 := by omega
  have hlen3 : (xa ++ xb).length = n3 := by rw [List.length_append]; exact hn3
  generalize (Xa ++ Xb).flatten = xs3 at *
  have hkt : ∀ q, ktB xa xb = q → (q = true ↔ ∀ x ∈ xa ++ xb, tvN xa x.1 = tvN xb x.1) := fun q hq => by
    rw [← hq]
    unfold ktB
    rw [List.all_eq_true]
    exact ⟨fun h x hx => of_decide_eq_true (h x hx), fun h x hx => decide_eq_true (h x hx)⟩
  refine goQ [lS Tryz.underlying26 (ad := ad3) (n := n3) (cap := cap3) rfl] (RO.rs _ _ _ _ _ _ _) I3 fun β4 a4 w4 I4 hb4 => ?_
  refine lpM (zo Tryz.f38) (fun k a w' => ∃ (i : Nat) (β : Nat → Nat) (u : Nat → Value), k = n3 - i ∧ i ≤ n3 ∧ (∀ j x, j < i → (xa ++ xb)[j]? = some x → tvN xa x.1 = tvN xb x.1) ∧ SI (RO w w.heap.size 43 2 (.slice ad3 n3 cap3) n3 xs3) (ROF w w.heap.size (.slice ad3 n3 cap3)) [] β (cfC (zo Tryz.f38) (z6 (zv 44 kpK) u 0 (kpV (.slice ad3 n3 cap3) n3 i)) [(0, prA (ps, no, ap, ti) (.slice adp ps.length capp) (ta, fa, da, xa) (.slice ada xa.length capa) (tb, fb, db, xb) (.slice adb xb.length capb) who)] 1) a w') n3 ?_ ?_
  · obtain ⟨u, Iu⟩ := I4.scr (zo Tryz.f38) (zv 44 kpK) (kpV (.slice ad3 n3 cap3) n3 0) [(0, prA (ps, no, ap, ti) (.slice adp ps.length capp) (ta, fa, da, xa) (.slice ada xa.length capa) (tb, fb, db, xb) (.slice adb xb.length capb) who)] 1
    exact ⟨0, β4, u, by omega, Nat.zero_le _, fun j x hj => by omega, Iu⟩
  rintro k a5 w5 ⟨i, β5, u5, rfl, hi, hall, I5⟩
  refine y7 (tm := z6 (zv 44 kpK) u5 0 (kpV (.slice ad3 n3 cap3) n3 i)) (rows := [(0, prA (ps, no, ap, ti) (.slice adp ps.length capp) (ta, fa, da, xa) (.slice ada xa.length capa) (tb, fb, db, xb) (.slice adb xb.length capb) who)]) (nx := 1) ?_
  rcases Nat.lt_or_ge i n3 with hil | hil
  · obtain ⟨⟨sx, lx⟩, hx, ⟨av1, av2, av3⟩, gq, rfl, hld⟩ := hel i hil
    simp only [] at hld
    have hta := fun w' (hr : RO w w.heap.size 43 2 (.slice (some ⟨gq, 0, none⟩) n3 cap3) n3 xs3 w') => hTa sx w' hr.bel
    have htb := fun w' (hr : RO w w.heap.size 43 2 (.slice (some ⟨gq, 0, none⟩) n3 cap3) n3 xs3 w') => hTb sx w' hr.bel
    have e1 := tvN_lt xa sx
    have e2 := tvN_lt xb sx
    obtain ⟨na, hna⟩ : ∃ n, tvN xa sx = n := ⟨_, rfl⟩
    obtain ⟨nb, hnb⟩ : ∃ n, tvN xb sx = n := ⟨_, rfl⟩
    rw [hna] at hta e1
    rw [hnb] at htb e2
    generalize tvB xa sx = qa at hta
    generalize tvB xb sx = qb at htb
    have hneq := fun q (e : decide (na ≠ nb) = q) => neqU_k e1 e2 e
    unfold U at hta htb hneq
    by_cases hab : na = nb
    · have hneq := hneq false (by simp [hab])
      generalize l0 na = a0 at *
      generalize l1 na = a1 at *
      generalize l2 na = a2 at *
      generalize l3 na = a3 at *
      generalize l0 nb = b0 at *
      generalize l1 nb = b1 at *
      generalize l2 nb = b2 at *
      generalize l3 nb = b3 at *
      refine goT (T := RO w w.heap.size 43 2 (.slice (some ⟨gq, 0, none⟩) n3 cap3) n3 xs3) [bO .lss 3 (zh (x := i) (y := n3) (b := true) (decide_eq_true (by omega))), iA 26 Tryz.underlying26 (sz := 2) (by kernel_rfl) (g := gq) (off := 0) (n := n3) (cap := cap3) hil, ldA 43 hld, cA Tryz.func56 hta, cA Tryz.func56 htb, bO .neq 45 hneq, bO .add 3 (zn (x := i) (y := 1) (z := (i + 1 : Nat)) (by rw [wz (by omega) (by omega)]; omega))] (RO.rs _ _ _ _ _ _ _) (fun _ h => h) I5 fun β6 a6 w6 I6 hb6 => ?_
      obtain ⟨u', Iu⟩ := I6.scr (zo Tryz.f38) (zv 44 kpK) (kpV (.slice (some ⟨gq, 0, none⟩) n3 cap3) n3 (i + 1)) [(0, prA (ps, no, ap, ti) (.slice adp ps.length capp) (ta, fa, da, xa) (.slice ada xa.length capa) (tb, fb, db, xb) (.slice adb xb.length capb) who)] 1
      refine kn ⟨n3 - (i + 1), by omega, i + 1, β6, u', rfl, hil, fun j x hj hx2 => ?_, Iu⟩
      rcases Nat.lt_or_ge j i with hji | hji
      · exact hall j x hji hx2
      · obtain rfl : j = i := by omega
        rw [hx] at hx2
        cases hx2
        rw [hna, hnb, hab]
    · have hneq := hneq true (by simp [hab])
      have hkf : ktB xa xb = false := by
        cases hq : ktB xa xb with
        | false => rfl
        | true => exact absurd ((hkt true hq).1 rfl _ (List.mem_of_getElem? hx)) (by rw [hna, hnb]; exact hab)
      rw [hkf]
      generalize l0 na = a0 at *
      generalize l1 na = a1 at *
      generalize l2 na = a2 at *
      generalize l3 na = a3 at *
      generalize l0 nb = b0 at *
      generalize l1 nb = b1 at *
      generalize l2 nb = b2 at *
      generalize l3 nb = b3 at *
      refine goT (T := RO w w.heap.size 43 2 (.slice (some ⟨gq, 0, none⟩) n3 cap3) n3 xs3) [bO .lss 3 (zh (x := i) (y := n3) (b := true) (decide_eq_true (by omega))), iA 26 Tryz.underlying26 (sz := 2) (by kernel_rfl) (g := gq) (off := 0) (n := n3) (cap := cap3) hil, ldA 43 hld, cA Tryz.func56 hta, cA Tryz.func56 htb, bO .neq 45 hneq] (RO.rs _ _ _ _ _ _ _) (fun _ h => h) I5 fun β6 a6 w6 I6 hb6 => ?_
      exact endR (retV (v := Z 12) I6 ⟨rfl, I6.hJ.bel⟩)
  · obtain rfl : i = n3 := by omega
    have hkt1 : ktB xa xb = true := by
      cases hq : ktB xa xb with
      | true => rfl
      | false => exact ((hkt false hq).2 fun x hx => by
          obtain ⟨j, hj⟩ := List.getElem?_of_mem hx
          exact hall j x (by have := (List.getElem?_eq_some_iff.1 hj).1; omega) hj)
    rw [hkt1]
    refine goQ [bO .lss 3 (zh (x := i) (y := i) (b := false) (decide_eq_false (by omega)))] (RO.rs _ _ _ _ _ _ _) I5 fun β6 a6 w6 I6 hb6 => ?_
    refine kz 0 ?_
    refine goQ [] (RO.rs _ _ _ _ _ _ _) (I6.exit _) fun β7 a7 w7 I7 hb7 => ?_
    exact zm (v := Z 0) I7 ⟨rfl, I7.hJ.bel⟩
end
end Go.Proofs.YthkpgfbjdabflaaGreatDoor
