/- Laid one behind the other: STt, STu, STz. -/
import Derived.Test.YthkpgfbjdabflaaGreatDoorKkSTh
namespace Go.Proofs.YthkpgfbjdabflaaGreatDoor
open Go.RowKit Go.Sort Go.Proofs.Tryz
set_option linter.unusedVariables false
set_option maxRecDepth 100000
set_option maxHeartbeats 4000000
theorem run_eq4d (d : Nat) (a0 a1 a2 a3 b0 b1 b2 b3 : Int) (w : World) :
    (Op.equalIn (d + 2) 45 (I4 a0 a1 a2 a3) (I4 b0 b1 b2 b3)).run Tryz.prog w = .ok (a0 == b0 && (a1 == b1 && (a2 == b2 && a3 == b3))) w := by
  rw [run_equalIn_array w (d + 1) _ _ Tryz.underlying45 info22, cells22, show List.range 4 = [0, 1, 2, 3] from rfl]
  simp [Op.eqItems, part, isAgg, run_underlying Tryz.underlying23, run_equalIn_int w d 23 .u64 .u64 _ _ Tryz.underlying23]
  by_cases h0 : a0 = b0 <;> by_cases h1 : a1 = b1 <;> by_cases h2 : a2 = b2 <;> by_cases h3 : a3 = b3 <;> simp [*]
theorem run_eqUd (d n m : Nat) (hn : n < W) (hm : m < W) (w : World) :
    (Op.equalIn (d + 2) 45 (U n) (U m)).run Tryz.prog w = .ok (decide (n = m)) w := by
  refine (run_eq4d d (l0 n) (l1 n) (l2 n) (l3 n) (l0 m) (l1 m) (l2 m) (l3 m) w).trans ?_
  congr 1
  rw [Bool.eq_iff_iff]
  simp only [Bool.and_eq_true, beq_iff_eq, decide_eq_true_eq]
  constructor
  · rintro ⟨h0, h1, h2, h3⟩
    exact parts_inj n m hn hm (by omega) (by omega) (by omega) (by omega)
  · rintro rfl; exact ⟨rfl, rfl, rfl, rfl⟩
theorem beqS (a b : ByteArray) : (a == b) = decide (a = b) := by
  obtain ⟨x⟩ := a
  obtain ⟨y⟩ := b
  show (x == y) = _
  by_cases h : x = y
  · subst h; simp
  · rw [decide_eq_false fun e => h (by injection e)]
    simpa using h
theorem run_eqSd (d : Nat) (a b : ByteArray) (w : World) : (Op.equalIn (d + 1) 9 (.string a) (.string b)).run Tryz.prog w = .ok (decide (a = b)) w := by
  rw [← beqS]
  simp [Op.equalIn, run_underlying Tryz.underlying9]
theorem run_eqZd (d : Nat) (a b : Int) (w : World) : (Op.equalIn (d + 1) 3 (Z a) (Z b)).run Tryz.prog w = .ok (decide (a = b)) w := by
  simp [Op.equalIn, run_underlying Tryz.underlying3]
  by_cases h : a = b <;> simp [h]
theorem info33 : Tryz.prog.info? 45 = some ((Tryz.prog.info? 45).getD default) := by kernel_rfl
theorem size33 : Tryz.prog.cellsOf 45 = 4 := by kernel_rfl
abbrev alR (x0 : ByteArray) (u1 : Nat) (k : Int) (x3 x4 : ByteArray) : Array Value := #[.string x0, B (l0 u1), B (l1 u1), B (l2 u1), B (l3 u1), Z k, .string x3, .string x4]
theorem run_eqAl (x0 : ByteArray) (u1 : Nat) (k : Int) (x3 x4 y0 : ByteArray) (v1 : Nat) (m : Int) (y3 y4 : ByteArray) (hx : u1 < W) (hy : v1 < W) (w : World) : (Op.equalIn 10000 66 (.agg (alR x0 u1 k x3 x4)) (.agg (alR y0 v1 m y3 y4))).run Tryz.prog w = .ok (decide (x0 = y0) && (decide (u1 = v1) && (decide (k = m) && (decide (x3 = y3) && decide (x4 = y4))))) w := by
  have e0 : ∀ w, (Op.equalIn 9999 9 (.string x0) (.string y0)).run Tryz.prog w = .ok (decide (x0 = y0)) w := fun w => run_eqSd 9998 x0 y0 w
  have e1 : ∀ w, (Op.equalIn 9999 45 (U u1) (U v1)).run Tryz.prog w = .ok (decide (u1 = v1)) w := fun w => run_eqUd 9997 u1 v1 hx hy w
  have e2 : ∀ w, (Op.equalIn 9999 3 (Z k) (Z m)).run Tryz.prog w = .ok (decide (k = m)) w := fun w => run_eqZd 9998 k m w
  have e3 : ∀ w, (Op.equalIn 9999 9 (.string x3) (.string y3)).run Tryz.prog w = .ok (decide (x3 = y3)) w := fun w => run_eqSd 9998 x3 y3 w
  have e4 : ∀ w, (Op.equalIn 9999 9 (.string x4) (.string y4)).run Tryz.prog w = .ok (decide (x4 = y4)) w := fun w => run_eqSd 9998 x4 y4 w
  have hs : ∀ w, (sizeOf 45).run Tryz.prog w = .ok 4 w := fun w => by rw [run_sizeOf w info33, size33]
  have p1 : ∀ w, (part 45 (alR x0 u1 k x3 x4) 1).run Tryz.prog w = .ok (U u1) w := fun w => by simp [part, isAgg, run_underlying Tryz.underlying45, hs]
  have p2 : ∀ w, (part 45 (alR y0 v1 m y3 y4) 1).run Tryz.prog w = .ok (U v1) w := fun w => by simp [part, isAgg, run_underlying Tryz.underlying45, hs]
  have r0 : ∀ w, (part 9 (alR x0 u1 k x3 x4) 0).run Tryz.prog w = .ok (.string x0) w := fun w => by simp [part, isAgg, run_underlying Tryz.underlying9]
  have r1 : ∀ w, (part 9 (alR y0 v1 m y3 y4) 0).run Tryz.prog w = .ok (.string y0) w := fun w => by simp [part, isAgg, run_underlying Tryz.underlying9]
  have r2 : ∀ w, (part 3 (alR x0 u1 k x3 x4) 5).run Tryz.prog w = .ok (Z k) w := fun w => by simp [part, isAgg, run_underlying Tryz.underlying3]
  have r3 : ∀ w, (part 3 (alR y0 v1 m y3 y4) 5).run Tryz.prog w = .ok (Z m) w := fun w => by simp [part, isAgg, run_underlying Tryz.underlying3]
  have r4 : ∀ w, (part 9 (alR x0 u1 k x3 x4) 6).run Tryz.prog w = .ok (.string x3) w := fun w => by simp [part, isAgg, run_underlying Tryz.underlying9]
  have r5 : ∀ w, (part 9 (alR y0 v1 m y3 y4) 6).run Tryz.prog w = .ok (.string y3) w := fun w => by simp [part, isAgg, run_underlying Tryz.underlying9]
  have r6 : ∀ w, (part 9 (alR x0 u1 k x3 x4) 7).run Tryz.prog w = .ok (.string x4) w := fun w => by simp [part, isAgg, run_underlying Tryz.underlying9]
  have r7 : ∀ w, (part 9 (alR y0 v1 m y3 y4) 7).run Tryz.prog w = .ok (.string y4) w := fun w => by simp [part, isAgg, run_underlying Tryz.underlying9]
  rw [show (10000 : Nat) = 9999 + 1 from rfl, Op.equalIn]
  simp [run_underlying Tryz.underlying66, e0, e1, e2, e3, e4, p1, p2, r0, r1, r2, r3, r4, r5, r6, r7]
  by_cases h0 : x0 = y0 <;> by_cases h1 : u1 = v1 <;> by_cases h2 : k = m <;> by_cases h3 : x3 = y3 <;> by_cases h4 : x4 = y4 <;> simp [*]
theorem neqA_run {a b : Al} (ha : a.2.1 < W) (hb : b.2.1 < W) {q : Bool} (h : decide (a ≠ b) = q) (x y : Operand) (w : World) : (do eqGuard .neq 66 x y (.agg (al8 a).toArray) (.agg (al8 b).toArray); binOp .neq 66 (.agg (al8 a).toArray) (.agg (al8 b).toArray) : Sem Value).run Tryz.prog w = .ok (.bool q) w := by
  obtain ⟨x0, u1, k, x3, x4⟩ := a
  obtain ⟨y0, v1, m, y3, y4⟩ := b
  have e := run_eqAl x0 u1 k x3 x4 y0 v1 m y3 y4 ha hb w
  have hd : decide ((x0, u1, k, x3, x4) ≠ (y0, v1, m, y3, y4)) = !(decide (x0 = y0) && (decide (u1 = v1) && (decide (k = m) && (decide (x3 = y3) && decide (x4 = y4))))) := by
    by_cases h0 : x0 = y0 <;> by_cases h1 : u1 = v1 <;> by_cases h2 : k = m <;> by_cases h3 : x3 = y3 <;> by_cases h4 : x4 = y4 <;> simp [*]
  rw [← h, hd]
  generalize (decide (x0 = y0) && (decide (u1 = v1) && (decide (k = m) && (decide (x3 = y3) && decide (x4 = y4))))) = r at e ⊢
  have hgt : Tryz.prog.eqGuardType Tryz.prog.depth 59 = false := by kernel_rfl
  have hg : (eqGuard .neq 66 x y (.agg (alR x0 u1 k x3 x4)) (.agg (alR y0 v1 m y3 y4))).run Tryz.prog w = .ok () w := by
    simp [eqGuard]
  have hb2 : (binOp .neq 66 (.agg (alR x0 u1 k x3 x4)) (.agg (alR y0 v1 m y3 y4))).run Tryz.prog w = .ok (.bool !r) w := by
    unfold binOp
    show ((Op.equalIn 10000 66 (.agg (alR x0 u1 k x3 x4)) (.agg (alR y0 v1 m y3 y4)) >>= fun b => pure (.bool !b) : Sem Value)).run Tryz.prog w = _
    rw [Sem.run_bind, e, Result.andThen_ok, Sem.run_pure]
  show (do eqGuard .neq 66 x y (.agg (alR x0 u1 k x3 x4)) (.agg (alR y0 v1 m y3 y4)); binOp .neq 66 (.agg (alR x0 u1 k x3 x4)) (.agg (alR y0 v1 m y3 y4)) : Sem Value).run Tryz.prog w = _
  rw [Sem.run_bind, hg, Result.andThen_ok, hb2]
theorem zc7 {α : Type} {l m : List α} (hl : l.length = m.length) (h : ∀ (j : Nat) x y, l[j]? = some x → m[j]? = some y → x = y) : l = m := by
  refine List.ext_getElem hl fun i h1 h2 => ?_
  exact h i _ _ (List.getElem?_eq_getElem h1) (List.getElem?_eq_getElem h2)
abbrev seK : List Nat := [0, 1, 4, 11, 12, 13]
abbrev seV (a b : Value) (n i : Nat) : Vs := frm 26 [(0, Sum.inl a), (1, Sum.inl b), (4, Sum.inl (.bool false)), (11, Sum.inl a), (12, Sum.inl (Z n)), (13, Sum.inl (Z i))]
theorem equalA_any {w : World} {va vb : Value} {l m : List Al} (ha : AlI w va l) (hb : AlI w vb m) (hl : l.length < 1000000000) : Calls Tryz.prog 164 #[va, vb] w fun e w' => e = .returned (.bool (decide (l = m))) ∧ Below w.heap.size w w' := by
  obtain ⟨ada, capa, rfl, hma⟩ := ha
  obtain ⟨adb, capb, rfl, hmb⟩ := hb
  refine inQ (J := Below w.heap.size w) (F := (· < w.heap.size)) Tryz.func164 (Below.refl _ _) fun a I => ?_
  by_cases hlen : ¬ l.length = m.length
  · refine goQ [lS Tryz.underlying41 (ad := ada) (n := l.length) (cap := capa) rfl, lS Tryz.underlying41 (ad := adb) (n := m.length) (cap := capb) rfl, bO .neq 3 (qf (x := l.length) (y := m.length) (b := true) (by simp; omega))] (zd w) I fun β a w1 I hb => ?_
    exact zm (v := .bool false) I ⟨by rw [decide_eq_false fun e => hlen (by rw [e])], I.hJ⟩
  have hlen := Classical.not_not.1 hlen
  refine goQ [lS Tryz.underlying41 (ad := ada) (n := l.length) (cap := capa) rfl, lS Tryz.underlying41 (ad := adb) (n := m.length) (cap := capb) rfl, bO .neq 3 (qf (x := l.length) (y := m.length) (b := false) (by simp; omega)), lS Tryz.underlying41 (ad := ada) (n := l.length) (cap := capa) rfl] (zd w) I fun β a w1 I hb => ?_
  let St : Nat → Act → World → Prop := fun k a w' => ∃ (i : Nat) (β : Nat → Nat) (u : Nat → Value), k = l.length - i ∧ i ≤ l.length ∧ (∀ (j : Nat) x y, j < i → l[j]? = some x → m[j]? = some y → x = y) ∧
    SI (Below w.heap.size w) (· < w.heap.size) [] β (cfC (zo Tryz.f164) (z6 (zv 26 seK) u 0 (seV (.slice ada l.length capa) (.slice adb m.length capb) l.length i)) [] 0) a w'
  refine lpM (zo Tryz.f164) St l.length ?_ ?_
  · obtain ⟨u, Iu⟩ := I.scr (zo Tryz.f164) (zv 26 seK) (seV (.slice ada l.length capa) (.slice adb m.length capb) l.length 0) [] 0
    exact ⟨0, β, u, by omega, Nat.zero_le _, fun j x y h => absurd h (Nat.not_lt_zero j), Iu⟩
  rintro k a3 w3 ⟨i, β3, u, rfl, hi, hok, I⟩
  refine y7 (tm := z6 (zv 26 seK) u 0 (seV (.slice ada l.length capa) (.slice adb m.length capb) l.length i)) (rows := []) (nx := 0) ?_
  rcases Nat.lt_or_ge i l.length with hil | hil
  · have him : i < m.length := by omega
    obtain ⟨x, h1⟩ : ∃ t, l[i]? = some t := ⟨_, List.getElem?_eq_getElem hil⟩
    obtain ⟨y, h2⟩ : ∃ t, m[i]? = some t := ⟨_, List.getElem?_eq_getElem him⟩
    obtain ⟨ga, offa, cs, rfl, hlt, hca, rfl, hxW⟩ := hma i _ h1
    obtain ⟨gb, offb, cs2, rfl, hlt2, hcb, rfl, hyW⟩ := hmb i _ h2
    have hld : ∀ w', Below w.heap.size w w' → (loadVar 66 ⟨ga, offa + i * 8, none⟩).run Tryz.prog w' = .ok (.agg (al8 x).toArray) w' := fun w' hb => loadAl (hca.keep (hb.block ga hlt))
    have hld2 : ∀ w', Below w.heap.size w w' → (loadVar 66 ⟨gb, offb + i * 8, none⟩).run Tryz.prog w' = .ok (.agg (al8 y).toArray) w' := fun w' hb => loadAl (hcb.keep (hb.block gb hlt2))
    refine goQ [bO .lss 3 (zh (x := i) (y := l.length) (b := true) (by simp; omega))] (zd w) I fun β4 a4 w4 I hb4 => ?_
    by_cases hxy : x = y
    · refine dwT (T := Below w.heap.size w) 9 [iA 41 Tryz.underlying41 (sz := 8) (by kernel_rfl) (g := ga) (off := offa) (n := l.length) (cap := capa) hil, ldA 66 hld, iA 41 Tryz.underlying41 (sz := 8) (by kernel_rfl) (g := gb) (off := offb) (n := m.length) (cap := capb) him, ldA 66 hld2, bO .neq 66 (neqA_run (a := x) (b := y) hxW hyW (q := false) (by simp [hxy]))] (zd w) (fun _ h => h) (zk.then (zk.qk zk.post)) I fun a5 w5 I => ?_
      refine goQ [bO .add 3 (zn (x := i) (y := 1) (z := (i + 1 : Nat)) (by rw [wz (by omega) (by omega)]; omega))] (zd w) I fun β6 a6 w6 I hb6 => ?_
      obtain ⟨u', Iu⟩ := I.scr (zo Tryz.f164) (zv 26 seK) (seV (.slice (some ⟨ga, offa, none⟩) l.length capa) (.slice (some ⟨gb, offb, none⟩) m.length capb) l.length (i + 1)) [] 0
      refine kn ⟨l.length - (i + 1), by omega, i + 1, β6, u', rfl, hil, fun j p q hj hp hq => ?_, Iu⟩
      rcases Nat.lt_or_ge j i with hji | hji
      · exact hok j p q hji hp hq
      · obtain rfl : j = i := by omega
        rw [h1] at hp; rw [h2] at hq; cases hp; cases hq; exact hxy
    · refine dwT (T := Below w.heap.size w) 9 [iA 41 Tryz.underlying41 (sz := 8) (by kernel_rfl) (g := ga) (off := offa) (n := l.length) (cap := capa) hil, ldA 66 hld, iA 41 Tryz.underlying41 (sz := 8) (by kernel_rfl) (g := gb) (off := offb) (n := m.length) (cap := capb) him, ldA 66 hld2, bO .neq 66 (neqA_run (a := x) (b := y) hxW hyW (q := true) (by simp [hxy]))] (zd w) (fun _ h => h) (zk.then (zk.qk zk.post)) I fun a5 w5 I => ?_
      refine goQ [] (zd w) I fun β6 a6 w6 I hb6 => ?_
      refine endR (retV (v := .bool false) I ⟨?_, I.hJ⟩)
      rw [decide_eq_false fun e => hxy ?_]
      rw [e, h2] at h1
      exact (Option.some.inj h1).symm
  · obtain rfl : i = l.length := by omega
    refine goQ [bO .lss 3 (zh (x := l.length) (y := l.length) (b := false) (by simp))] (zd w) I fun β4 a4 w4 I hb4 => ?_
    refine kz 0 ?_
    refine goQ [] (zd w) (I.exit _) fun β5 a5 w5 I hb5 => ?_
    exact zm (v := .bool true) I ⟨by rw [decide_eq_true (zc7 hlen fun j x y hx hy => hok j x y (List.getElem?_eq_some_iff.1 hx).1 hx hy)], I.hJ⟩
theorem sameExit_any {w : World} {sa sb : ByteArray} {va vb : Value} {l m : List Al} (ha : AlI w va l) (hb : AlI w vb m) (hl : l.length < 1000000000) : Calls Tryz.prog 127 #[.agg #[.string sa, va], .agg #[.string sb, vb]] w fun e w' => e = .returned (.bool (decide ((sa, l) = (sb, m)))) ∧ Below w.heap.size w w' := by
  obtain ⟨ada, capa, rfl⟩ := ha.slice
  obtain ⟨adb, capb, rfl⟩ := hb.slice
  refine inQ (J := Below w.heap.size w) (F := (· < w.heap.size)) Tryz.func127 (Below.refl _ _) fun a I => ?_
  by_cases hs : sa = sb
  · have hE : ∀ w', Below w.heap.size w w' → Calls Tryz.prog 164 #[.slice ada l.length capa, .slice adb m.length capb] w' fun e w'' => e = .returned (.bool (decide (l = m))) ∧ Below w'.heap.size w' w'' := fun w' h => equalA_any (ha.below CA.loc h) (hb.below CA.loc h) hl
    refine goT (T := Below w.heap.size w) [bO .eql 9 (zay (a := sa) (b := sb) (q := true) (decide_eq_true hs)), cA Tryz.func164 hE] (zd w) (fun _ h => h) I fun β a w1 I hb => ?_
    exact zm (v := .bool (decide (l = m))) I ⟨by by_cases h : l = m <;> simp [hs, h], I.hJ⟩
  · refine goQ [bO .eql 9 (zay (a := sa) (b := sb) (q := false) (decide_eq_false hs))] (zd w) I fun β a w1 I hb => ?_
    exact zm (v := .bool false) I ⟨by simp [hs], I.hJ⟩
abbrev sfK : List Nat := [0, 1, 2, 6, 15, 16, 17]
abbrev sfV (a b f : Value) (n i : Nat) : Vs := frm 32 [(0, Sum.inl a), (1, Sum.inl b), (2, Sum.inl f), (6, Sum.inl (.bool false)), (15, Sum.inl a), (16, Sum.inl (Z n)), (17, Sum.inl (Z i))]
def decEx (l m : List Ex) : Decidable (l = m) := @instDecidableEqList Ex (@instDecidableEqProd ByteArray (List Al) _ _) l m
def eqX (l m : List Ex) : Bool := @decide (l = m) (decEx l m)
theorem eqX_true {l m : List Ex} (h : l = m) : eqX l m = true := @decide_eq_true (l = m) (decEx l m) h
theorem zek {l m : List Ex} (h : ¬ l = m) : eqX l m = false := @decide_eq_false (l = m) (decEx l m) h
def eqV (v u : Va) : Bool := decide (v.1 = u.1) && decide (v.2.1 = u.2.1) && decide (v.2.2.1 = u.2.2.1) && eqX v.2.2.2 u.2.2.2
theorem equalX_any {w : World} {va vb : Value} {l m : List Ex} (ha : ExI w va l) (hb : ExI w vb m) (hl : okX l) : Calls Tryz.prog 126 #[va, vb, kt 127] w fun e w' => e = .returned (.bool (eqX l m)) ∧ Below w.heap.size w w' := by
  obtain ⟨ada, capa, rfl, hma⟩ := ha
  obtain ⟨adb, capb, rfl, hmb⟩ := hb
  have hll := hl.1
  refine inQ (J := Below w.heap.size w) (F := (· < w.heap.size)) Tryz.func126 (Below.refl _ _) fun a I => ?_
  by_cases hlen : ¬ l.length = m.length
  · refine goQ [lS Tryz.underlying26 (ad := ada) (n := l.length) (cap := capa) rfl, lS Tryz.underlying26 (ad := adb) (n := m.length) (cap := capb) rfl, bO .neq 3 (qf (x := l.length) (y := m.length) (b := true) (by simp; omega))] (zd w) I fun β a w1 I hb => ?_
    exact zm (v := .bool false) I ⟨by rw [zek fun e => hlen (by rw [e])], I.hJ⟩
  have hlen := Classical.not_not.1 hlen
  refine goQ [lS Tryz.underlying26 (ad := ada) (n := l.length) (cap := capa) rfl, lS Tryz.underlying26 (ad := adb) (n := m.length) (cap := capb) rfl, bO .neq 3 (qf (x := l.length) (y := m.length) (b := false) (by simp; omega)), lS Tryz.underlying26 (ad := ada) (n := l.length) (cap := capa) rfl] (zd w) I fun β a w1 I hb => ?_
  let St : Nat → Act → World → Prop := fun k a w' => ∃ (i : Nat) (β : Nat → Nat) (u : Nat → Value), k = l.length - i ∧ i ≤ l.length ∧ (∀ (j : Nat) x y, j < i → l[j]? = some x → m[j]? = some y → x = y) ∧
    SI (Below w.heap.size w) (· < w.heap.size) [] β (cfC (zo Tryz.f126) (z6 (zv 32 sfK) u 0 (sfV (.slice ada l.length capa) (.slice adb m.length capb) (kt 127) l.length i)) [] 0) a w'
  refine lpM (zo Tryz.f126) St l.length ?_ ?_
  · obtain ⟨u, Iu⟩ := I.scr (zo Tryz.f126) (zv 32 sfK) (sfV (.slice ada l.length capa) (.slice adb m.length capb) (kt 127) l.length 0) [] 0
    exact ⟨0, β, u, by omega, Nat.zero_le _, fun j x y h => absurd h (Nat.not_lt_zero j), Iu⟩
  rintro k a3 w3 ⟨i, β3, u, rfl, hi, hok, I⟩
  refine y7 (tm := z6 (zv 32 sfK) u 0 (sfV (.slice ada l.length capa) (.slice adb m.length capb) (kt 127) l.length i)) (rows := []) (nx := 0) ?_
  rcases Nat.lt_or_ge i l.length with hil | hil
  · have him : i < m.length := by omega
    obtain ⟨⟨sx_, xl⟩, h1⟩ : ∃ t, l[i]? = some t := ⟨_, List.getElem?_eq_getElem hil⟩
    obtain ⟨⟨sy_, yl⟩, h2⟩ : ∃ t, m[i]? = some t := ⟨_, List.getElem?_eq_getElem him⟩
    obtain ⟨ga, offa, cs, rfl, hlt, hca, xv, rfl, hX⟩ := hma i _ h1
    obtain ⟨gb, offb, cs2, rfl, hlt2, hcb, yv, rfl, hY⟩ := hmb i _ h2
    have hX : AlI w xv xl := hX
    have hY : AlI w yv yl := hY
    obtain ⟨adx, capx, rfl⟩ := hX.slice
    obtain ⟨ady, capy, rfl⟩ := hY.slice
    have hxl : xl.length < 1000000000 := hl.2 _ (List.mem_of_getElem? h1)
    simp only [] at hca hcb
    have hld : ∀ w', Below w.heap.size w w' → (loadVar 43 ⟨ga, offa + i * 2, none⟩).run Tryz.prog w' = .ok (.agg #[.string sx_, .slice adx xl.length capx]) w' := fun w' hb => loadEx (hca.keep (hb.block ga hlt))
    have hld2 : ∀ w', Below w.heap.size w w' → (loadVar 43 ⟨gb, offb + i * 2, none⟩).run Tryz.prog w' = .ok (.agg #[.string sy_, .slice ady yl.length capy]) w' := fun w' hb => loadEx (hcb.keep (hb.block gb hlt2))
    refine goT (T := Below w.heap.size w) [bO .lss 3 (zh (x := i) (y := l.length) (b := true) (by simp; omega)), iA 26 Tryz.underlying26 (sz := 2) (by kernel_rfl) (g := ga) (off := offa) (n := l.length) (cap := capa) hil, ldA 43 hld, iA 26 Tryz.underlying26 (sz := 2) (by kernel_rfl) (g := gb) (off := offb) (n := m.length) (cap := capb) him, ldA 43 hld2] (zd w) (fun _ h => h) I fun β4 a4 w4 I hb4 => ?_
    refine inY I fun I => ?_
    refine goQ [] (zd w) I fun β4 a4 w4 I hb4 => ?_
    refine bcallX [Sum.inl (.agg #[.string sx_, .slice adx xl.length capx]), Sum.inl (.agg #[.string sy_, .slice ady yl.length capy])] Tryz.func127 (zd w) I (fun v => v = .bool (decide ((sx_, xl) = (sy_, yl)))) ((sameExit_any (hX.below CA.loc I.hJ) (hY.below CA.loc I.hJ) hxl).mono fun e w' h => ⟨h.2, _, h.1, rfl⟩) fun v w5 hv I => ?_
    subst hv
    by_cases hxy : (sx_, xl) = (sy_, yl)
    · rw [decide_eq_true hxy] at I ⊢
      refine goQ [uO .not (p := .bool true) (v := .bool false) (by intros; rfl), bO .add 3 (zn (x := i) (y := 1) (z := (i + 1 : Nat)) (by rw [wz (by omega) (by omega)]; omega))] (zd w) I fun β6 a6 w6 I hb6 => ?_
      obtain ⟨u', Iu⟩ := I.scr (zo Tryz.f126) (zv 32 sfK) (sfV (.slice (some ⟨ga, offa, none⟩) l.length capa) (.slice (some ⟨gb, offb, none⟩) m.length capb) (kt 127) l.length (i + 1)) [] 0
      refine kn ⟨l.length - (i + 1), by omega, i + 1, β6, u', rfl, hil, fun j p q hj hp hq => ?_, Iu⟩
      rcases Nat.lt_or_ge j i with hji | hji
      · exact hok j p q hji hp hq
      · obtain rfl : j = i := by omega
        rw [h1] at hp; rw [h2] at hq; cases hp; cases hq; exact hxy
    · rw [decide_eq_false hxy] at I ⊢
      refine goQ [uO .not (p := .bool false) (v := .bool true) (by intros; rfl)] (zd w) I fun β6 a6 w6 I hb6 => ?_
      refine endR (retV (v := .bool false) I ⟨?_, I.hJ⟩)
      rw [zek fun e => hxy ?_]
      rw [e, h2] at h1
      exact (Option.some.inj h1).symm
  · obtain rfl : i = l.length := by omega
    refine goQ [bO .lss 3 (zh (x := l.length) (y := l.length) (b := false) (by simp))] (zd w) I fun β4 a4 w4 I hb4 => ?_
    refine kz 0 ?_
    refine goQ [] (zd w) (I.exit _) fun β5 a5 w5 I hb5 => ?_
    exact zm (v := .bool true) I ⟨by rw [eqX_true (zc7 hlen fun j x y hx hy => hok j x y (List.getElem?_eq_some_iff.1 hx).1 hx hy)], I.hJ⟩
theorem run_eqlB {x y : Bool} {b : Bool} (h : decide (x = y) = b) (o1 o2 : Operand) (w : World) : (do eqGuard .eql 4 o1 o2 (.bool x) (.bool y); binOp .eql 4 (.bool x) (.bool y) : Sem Value).run Tryz.prog w = .ok (.bool b) w := by
  subst h
  cases x <;> cases y <;> simp [go_sem]
theorem same_state {w : World} {v u : Va} {ev eu : Value} (hv : ExI w ev v.2.2.2) (hu : ExI w eu u.2.2.2) (hok : okX v.2.2.2) : Calls Tryz.prog 89 #[vaV v ev, vaV u eu] w fun e w' => e = .returned (.bool (eqV v u)) ∧ Below w.heap.size w w' := by
  obtain ⟨t1, f1, d1, x1⟩ := v
  obtain ⟨t2, f2, d2, x2⟩ := u
  obtain ⟨ada, capa, rfl⟩ := hv.slice
  obtain ⟨adb, capb, rfl⟩ := hu.slice
  simp only [] at hv hu hok
  refine inQ (J := Below w.heap.size w) (F := (· < w.heap.size)) Tryz.func89 (Below.refl _ _) fun a I => ?_
  by_cases h1 : ¬ t1 = t2
  · refine goQ [bO .eql 23 (zdp (x := t1) (y := t2) (b := false) (decide_eq_false h1))] (zd w) I fun β a w1 I hb => ?_
    exact zm (v := .bool false) I ⟨by unfold eqV; rw [decide_eq_false h1]; rfl, I.hJ⟩
  have h1 := Classical.not_not.1 h1
  by_cases h2 : ¬ f1 = f2
  · refine goQ [bO .eql 23 (zdp (x := t1) (y := t2) (b := true) (decide_eq_true h1)), bO .eql 4 (run_eqlB (x := f1) (y := f2) (b := false) (decide_eq_false h2))] (zd w) I fun β a w1 I hb => ?_
    exact zm (v := .bool false) I ⟨by unfold eqV; rw [decide_eq_false h2, Bool.and_false]; rfl, I.hJ⟩
  have h2 := Classical.not_not.1 h2
  by_cases h3 : ¬ d1 = d2
  · refine goQ [bO .eql 23 (zdp (x := t1) (y := t2) (b := true) (decide_eq_true h1)), bO .eql 4 (run_eqlB (x := f1) (y := f2) (b := true) (decide_eq_true h2)), bO .eql 9 (zay (a := d1) (b := d2) (q := false) (decide_eq_false h3))] (zd w) I fun β a w1 I hb => ?_
    exact zm (v := .bool false) I ⟨by unfold eqV; rw [decide_eq_false h3, Bool.and_false]; rfl, I.hJ⟩
  have h3 := Classical.not_not.1 h3
  refine goQ [bO .eql 23 (zdp (x := t1) (y := t2) (b := true) (decide_eq_true h1)), bO .eql 4 (run_eqlB (x := f1) (y := f2) (b := true) (decide_eq_true h2)), bO .eql 9 (zay (a := d1) (b := d2) (q := true) (decide_eq_true h3))] (zd w) I fun β a w1 I hb => ?_
  refine bcallX [Sum.inl (.slice ada x1.length capa), Sum.inl (.slice adb x2.length capb), Sum.inl (kt 127)] Tryz.func126 (zd w) I (fun v => v = .bool (eqX x1 x2)) ((equalX_any (hv.below CE.loc I.hJ) (hu.below CE.loc I.hJ) hok).mono fun e w' h => ⟨h.2, _, h.1, rfl⟩) fun v w2 hv I => ?_
  subst hv
  refine goQ [] (zd w) I fun β3 a3 w3 I hb3 => ?_
  exact zm (v := .bool (eqX x1 x2)) I ⟨by unfold eqV; rw [decide_eq_true h1, decide_eq_true h2, decide_eq_true h3]; rfl, I.hJ⟩
section
open Go.RowKit Go.Sort Go.ChangeShapes Go.WideShapes Go.ChangeAt
theorem pick_list {α : Type} {P : Nat → α → Prop} : ∀ n : Nat, (∀ i, i < n → ∃ x, P i x) → ∃ l : List α, l.length = n ∧ ∀ i x, l[i]? = some x → P i x
  | 0, _ => ⟨[], rfl, fun i x h => by simp at h⟩
  | n + 1, h => by
    obtain ⟨l, h1, h2⟩ := pick_list n fun i hi => h i (by omega)
    obtain ⟨y, hy⟩ := h n (by omega)
    refine ⟨l ++ [y], by simp [h1], fun i x hx => ?_⟩
    rcases Nat.lt_or_ge i n with hi | hi
    · rw [List.getElem?_append_left (by omega)] at hx
      exact h2 i x hx
    · have hlt := (List.getElem?_eq_some_iff.1 hx).1
      rw [List.length_append, List.length_singleton] at hlt
      obtain rfl : i = n := by omega
      rw [List.getElem?_append_right (by omega), h1, Nat.sub_self] at hx
      simp only [List.getElem?_cons_zero, Option.some.injEq] at hx
      subst hx; exact hy
section
variable {H : Type} {enc : TypeId × Value → H} {w : World} {base : Nat} {spare : Nat → Bool} {held : Bool}
theorem sl_of {α : Type} {t e sz : Nat} (C : Cl α) (hu : Tryz.prog.underlying t = some (.slice e)) (hc : Tryz.prog.cellsOf e = sz) (hs : 0 < sz) (hone : ∀ {fuel : Nat} {cs : List Value} {x : DataW H × List MemPlace}, DataW.trod enc Tryz.prog w base spare held fuel e cs = some x → ∃ y : α, C (· < w.heap.size) w y cs)
    {fuel : Nat} {v : Value} {x : DataW H × List MemPlace} (h : DataW.trod enc Tryz.prog w base spare held fuel t [v] = some x) : ∃ l : List α, SlI sz C (· < w.heap.size) w v l ∧ ∃ ad cap, v = .slice ad l.length cap ∧ l.length ≤ cap := by
  rcases Go.Deep.open_slice hu h with ⟨h0, _⟩ | ⟨a, len, cap, m, k, D, Pl, h0, hb, hl, hm, hmm, _, hx⟩
  · simp only [List.cons.injEq, and_true] at h0
    subst h0
    exact ⟨[], SlI.nil _ _, none, 0, rfl, Nat.le_refl _⟩
  · simp only [List.cons.injEq, and_true] at h0
    subst h0
    have hle : len ≤ m := by rw [hmm]; split <;> omega
    have hat : ∀ i, i < len → ∃ y : α, ∃ cs, cs.length = sz ∧ (∀ j c, cs[j]? = some c → w.cell? ((a.add (i * sz)).add j) = some c) ∧ C (· < w.heap.size) w y cs := by
      intro i hi
      obtain ⟨cs', h1, h2⟩ := hx i (by omega)
      obtain ⟨y, hy⟩ := hone h2
      rw [hc] at h1
      obtain ⟨_, hlen, hcs⟩ := World.cells?_some h1
      refine ⟨y, cs', hlen, fun j c hj => ?_, hy⟩
      rw [hcs j (by have := (List.getElem?_eq_some_iff.1 hj).1; omega)]; exact hj
    obtain ⟨l, hl1, hl2⟩ := pick_list len hat
    subst hl1
    refine ⟨l, ⟨some a, cap, rfl, fun i x hi => ?_⟩, some a, cap, rfl, hl⟩
    have hspot : a.spot = none ∧ a.block < w.heap.size := by
      obtain ⟨y, cs, h1, h2, _⟩ := hat 0 (by have := (List.getElem?_eq_some_iff.1 hi).1; omega)
      obtain ⟨c, hc0⟩ : ∃ c, cs[0]? = some c := ⟨_, List.getElem?_eq_getElem (by omega)⟩
      have := h2 0 c hc0
      simp only [Nat.zero_mul, Addr.add, if_true] at this
      unfold World.cell? at this
      cases hg : w.heap[a.block]? with
      | none => simp [hg] at this
      | some o =>
        refine ⟨?_, (Array.getElem?_eq_some_iff.1 hg).1⟩
        cases hq : a.spot with
        | none => rfl
        | some q => cases o <;> simp [hg, hq] at this
    obtain ⟨cs, h1, h2, h3⟩ := hl2 i x hi
    have ha : a = ⟨a.block, a.off, none⟩ := by cases a; simp only at hspot; rw [hspot.1]
    refine ⟨a.block, a.off, cs, by rw [← ha], hspot.2, fun j c hj => ?_, h3⟩
    have := h2 j c hj
    rw [ha, vh, vh] at this
    exact this
theorem k36 : Tryz.prog.cellsOf 41 = 1 := by kernel_rfl
theorem k38 : Tryz.prog.cellsOf 43 = 2 := by kernel_rfl
theorem k59 : Tryz.prog.cellsOf 66 = 8 := by kernel_rfl
theorem k33 : Tryz.prog.cellsOf 45 = 4 := by kernel_rfl
theorem text_raw {fuel : Nat} {cs : List Value} {x : DataW H × List MemPlace} (h : DataW.trod enc Tryz.prog w base spare held fuel 9 cs = some x) : ∃ y : ByteArray, CS (· < w.heap.size) w y cs := by
  obtain ⟨s, e, _, _⟩ := DataW.trod_string Tryz.underlying9 h
  exact ⟨s, e⟩
theorem al_raw {fuel : Nat} {cs : List Value} {x : DataW H × List MemPlace} (h : DataW.trod enc Tryz.prog w base spare held fuel 66 cs = some x) : ∃ y : Al, CA (· < w.heap.size) w y cs := by
  obtain ⟨xs, n, _, hx, hl, hlen, hf⟩ := DataW.trod_struct Tryz.underlying66 h
  rw [k59] at hl
  match cs, hl with
  | [a0, a1, a2, a3, a4, a5, a6, a7], _ =>
    match xs, hlen with
    | [y0, y1, y2, y3, y4], _ =>
      have h0 : DataW.trod enc Tryz.prog w base spare held n 9 (([a0, a1, a2, a3, a4, a5, a6, a7].drop 0).take (Tryz.prog.cellsOf 9)) = some y0 := hf 0 _ rfl
      have h1 : DataW.trod enc Tryz.prog w base spare held n 45 (([a0, a1, a2, a3, a4, a5, a6, a7].drop 1).take (Tryz.prog.cellsOf 45)) = some y1 := hf 1 _ rfl
      have h2 : DataW.trod enc Tryz.prog w base spare held n 3 (([a0, a1, a2, a3, a4, a5, a6, a7].drop 5).take (Tryz.prog.cellsOf 3)) = some y2 := hf 2 _ rfl
      have h3 : DataW.trod enc Tryz.prog w base spare held n 9 (([a0, a1, a2, a3, a4, a5, a6, a7].drop 6).take (Tryz.prog.cellsOf 9)) = some y3 := hf 3 _ rfl
      have h4 : DataW.trod enc Tryz.prog w base spare held n 9 (([a0, a1, a2, a3, a4, a5, a6, a7].drop 7).take (Tryz.prog.cellsOf 9)) = some y4 := hf 4 _ rfl
      rw [c9] at h0 h3 h4
      rw [k33] at h1
      rw [c3] at h2
      obtain ⟨s0, e0, _, _⟩ := DataW.trod_string Tryz.underlying9 h0
      obtain ⟨u, hu, q1, q2, q3, q4⟩ := num_raw h1
      obtain ⟨k, e2, _, _⟩ := DataW.trod_int Tryz.underlying3 h2
      obtain ⟨s3, e3, _, _⟩ := DataW.trod_string Tryz.underlying9 h3
      obtain ⟨s4, e4, _, _⟩ := DataW.trod_string Tryz.underlying9 h4
      simp only [List.drop_zero, List.take_succ_cons, List.take_zero, List.cons.injEq, and_true] at e0
      simp only [List.drop_succ_cons, List.drop_zero, List.take_succ_cons, List.take_zero, List.cons.injEq, and_true] at e2 e3 e4
      subst e0 q1 q2 q3 q4 e2 e3 e4
      exact ⟨(s0, u, k, s3, s4), rfl, hu⟩
theorem ex_raw {fuel : Nat} {cs : List Value} {x : DataW H × List MemPlace} (h : DataW.trod enc Tryz.prog w base spare held fuel 43 cs = some x) : ∃ y : Ex, CE (· < w.heap.size) w y cs := by
  obtain ⟨xs, n, _, hx, hl, hlen, hf⟩ := DataW.trod_struct Tryz.underlying43 h
  rw [k38] at hl
  match cs, hl with
  | [a0, a1], _ =>
    match xs, hlen with
    | [y0, y1], _ =>
      have h0 : DataW.trod enc Tryz.prog w base spare held n 9 (([a0, a1].drop 0).take (Tryz.prog.cellsOf 9)) = some y0 := hf 0 _ rfl
      have h1 : DataW.trod enc Tryz.prog w base spare held n 41 (([a0, a1].drop 1).take (Tryz.prog.cellsOf 41)) = some y1 := hf 1 _ rfl
      rw [c9] at h0
      rw [k36] at h1
      obtain ⟨s0, e0, _, _⟩ := DataW.trod_string Tryz.underlying9 h0
      simp only [List.drop_zero, List.take_succ_cons, List.take_zero, List.cons.injEq, and_true] at e0
      subst e0
      obtain ⟨l, hl, _⟩ := sl_of CA Tryz.underlying41 k59 (by omega) al_raw h1
      exact ⟨(s0, l), a1, rfl, hl⟩
theorem open_fixed {r : Reach} {b0 : Nat} {v : Value} {d : DataW H} {p : List MemPlace} (hv : Value.okWide Tryz.prog w r b0 25 v) (h : DataW.Trod enc Tryz.prog w base spare held 25 v d p) : ∃ (f : Fi) (pv : Value), v = fxdV f pv ∧ PaI w pv f.1 ∧ f.2.1 < M := by
  obtain ⟨c0, c1, c2, c3, y0, y1, y2, y3, n, rfl, _, _, h0, h1, h2, h3⟩ := Go.Joins.open_agg4 Tryz.underlying25 (by kernel_rfl) (by kernel_rfl) hv h
  obtain ⟨l, hl, hc⟩ := sl_of CS Tryz.underlying22 c9 (by omega) text_raw h0
  obtain ⟨a1, e1, rfl, w1⟩ := DataW.trod_int Tryz.underlying23 h1
  obtain ⟨k1, rfl, g1⟩ := wf_u64 w1
  obtain ⟨s2, e2, _, _⟩ := DataW.trod_string Tryz.underlying9 h2
  obtain ⟨t3, e3, _, _⟩ := DataW.trod_int Tryz.underlying3 h3
  simp only [List.cons.injEq, and_true] at e1 e2 e3
  subst e1 e2 e3
  exact ⟨(l, k1, s2, t3), c0, rfl, ⟨hl, hc⟩, g1⟩
theorem open_var {r : Reach} {b0 : Nat} {v : Value} {d : DataW H} {p : List MemPlace} (hv : Value.okWide Tryz.prog w r b0 28 v) (h : DataW.Trod enc Tryz.prog w base spare held 28 v d p) : ∃ (x : Va) (ev : Value), v = vaV x ev ∧ ExI w ev x.2.2.2 ∧ x.1 < M := by
  obtain ⟨c0, c1, c2, c3, y0, y1, y2, y3, n, rfl, _, _, h0, h1, h2, h3⟩ := Go.Joins.open_agg4 Tryz.underlying28 (by kernel_rfl) (by kernel_rfl) hv h
  obtain ⟨l, hl, hc⟩ := sl_of CE Tryz.underlying26 k38 (by omega) ex_raw h3
  obtain ⟨a1, e1, rfl, w1⟩ := DataW.trod_int Tryz.underlying23 h0
  obtain ⟨k1, rfl, g1⟩ := wf_u64 w1
  obtain ⟨b1, e2, _⟩ := DataW.trod_bool Tryz.underlying4 h1
  obtain ⟨s2, e3, _, _⟩ := DataW.trod_string Tryz.underlying9 h2
  simp only [List.cons.injEq, and_true] at e1 e2 e3
  subst e1 e2 e3
  exact ⟨(k1, b1, s2, l), c3, rfl, hl, g1⟩
end
end
end Go.Proofs.YthkpgfbjdabflaaGreatDoor
