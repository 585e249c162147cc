/- CodesNames. -/
import Derived.Test.YtoceebhnhccfdaaDoorMa
import Derived.Test.YtoceebhnhccfdaaDoorMb
import Derived.Test.YtoceebhnhccfdaaDoorKt
import Derived.Test.YtoceebhnhccfdaaDoorKf
namespace Go.Proofs.YtoceebhnhccfdaaDoor
open Go.RowKit Go.Sort Go.Shelf
set_option linter.unusedVariables false
set_option maxRecDepth 100000
theorem run_neq8 {x y : Int} {b : Bool} (h : decide (x ≠ y) = b) (o1 o2 : Operand) (w : World) : (do eqGuard .neq 5 o1 o2 (.int .u8 x) (.int .u8 y); binOp .neq 5 (.int .u8 x) (.int .u8 y) : Sem Value).run Tryd.prog w = .ok (.bool b) w := by
  subst h
  by_cases hx : x = y
  · simp [go_sem, hx]
  · simp [go_sem, hx]
/-- Rows of bools, one put behind the other. -/
theorem app_bools {w : World} {ad : Addr} {cap : Nat} {l m : List Bool} {g c2 : Nat} {cur : Array Value} {N : Nat} (h : w.ownsRow N 4 1 (.slice (some ad) l.length cap) l.length (l.map Value.bool)) (hN : N ≤ w.heap.size) (h2 : w.heap[g]? = some (.cells cur 4)) (h3 : cur.toList.take m.length = m.map Value.bool) (hl : l.length + m.length < 1000000000) :
    ∃ v' w', (Builtin.append_ #[36, 36] 36 #[.slice (some ad) l.length cap, .slice (some ⟨g, 0, none⟩) m.length c2]).run Tryd.prog w = .ok v' w' ∧ w'.ownsRow N 4 1 v' (l ++ m).length ((l ++ m).map Value.bool) ∧ w.grownBy w' (some ad.block) ∧ ∃ a c, v' = .slice (some a) (l ++ m).length c := by
  obtain ⟨i, hi, hz, h1, hb⟩ := hI4
  have hcells : ∀ j u, (m.map Value.bool)[j]? = some u → w.cell? ((⟨g, 0, none⟩ : Addr).add j) = some u := by
    intro j u hu
    have hj : j < m.length := by have := (List.getElem?_eq_some_iff.1 hu).1; simpa using this
    rw [← h3, List.getElem?_take, if_pos hj] at hu
    have hadd : (⟨g, 0, none⟩ : Addr).add j = ⟨g, 0 + j, none⟩ := by unfold Addr.add; split <;> simp_all
    rw [hadd]
    simp only [World.cell?, h2, Nat.zero_add]
    simpa using hu
  obtain ⟨v', w', hr, ho, hg, hn⟩ := run_append_own (P := Tryd.prog) w N 36 36 4 i (.bool false) 1 1 Tryd.underlying36 hi hz h1 hb rfl Nat.one_pos (.slice (some ad) l.length cap) l.length (l.map Value.bool) h ⟨g, 0, none⟩ m.length c2 (m.map Value.bool) (by simp) hcells (fun u hu => by
    obtain ⟨x, _, rfl⟩ := List.mem_map.1 hu
    rfl) (by simp only [maxLen]; omega) (by omega) hN
  rw [← List.map_append, ← List.length_append] at ho
  refine ⟨v', w', hr, ho, hg, ?_⟩
  rcases ho.2 with ⟨rfl, hz0⟩ | ⟨g', cp, _, rfl, _⟩
  · have := hn.1 rfl
    cases this.1
  · exact ⟨_, _, rfl⟩
theorem owns_BR {w : World} {N : Nat} {a : Addr} {l : List Bool} {cp : Nat} (h : w.ownsRow N 4 1 (.slice (some a) l.length cp) l.length (l.map Value.bool)) : BR w (.slice (some a) l.length cp) l := by
  rcases h.2 with ⟨h1, _⟩ | ⟨g, cap, cur, h1, _, h3, _, _, _, h5⟩
  · cases h1
  · cases h1
    exact ⟨g, cp, cur, rfl, h3, by simpa using h5⟩
theorem dests_BR (c : List UInt8) (hc : c.length < 100000000) (w : World) : Calls Tryd.prog 20 #[str c] w fun e w' => ∃ g, e = .returned (.slice (some ⟨g, 0, none⟩) c.length c.length) ∧ w.heap.size ≤ g ∧ w'.heap[g]? = some (.cells (blC (dsN c)) 4) ∧ RowKit.Below w.heap.size w w' := dests_any c hc w
theorem BR.of {w : World} {g n : Nat} {l : List Bool} (hn : l.length = n) (h : w.heap[g]? = some (.cells (blC l) 4)) : BR w (.slice (some ⟨g, 0, none⟩) n n) l := by
  subst hn
  exact ⟨g, l.length, blC l, rfl, h, by simp only [blC]; rw [List.take_of_length_le (by simp)]⟩
theorem bs_ft (w : World) : (Instr.buildSlice 36 2 #[(0, .bool false), (1, .bool true)]).run Tryd.prog w = .ok (.slice (some ⟨w.heap.size, 0, none⟩) 2 2) (w.alloc (.cells (blC [false, true]) 4)) := by kernel_rfl
/-- What follows a region. -/
def contAt (k : Nat) : Code → List Ki → Option (List Ki)
  | .seq x y, ks => (contAt k x (Sum.inl y :: ks)).or (contAt k y ks)
  | .region id _ _, ks => if id = k then some ks else none
  | .block id x, ks => contAt k x (Sum.inr id :: ks)
  | .cond _ x y, ks => (contAt k x ks).or (contAt k y ks)
  | _, _ => none
def ksAt (fn : Func) (k : Nat) : List Ki := (fn.body.bind (contAt k · [])).getD []
abbrev cfM (fn : Func) (k d : Nat) (tm : Vs) : Cf := { ops := regO fn k, rest := (regO fn k).toList.drop d, ks := ksAt fn k, tm := tm, rows := [], nx := 0, dn := none }
theorem SI.rebaseX {J : World → Prop} {F : Nat → Prop} {ds : List Deferred} {β : Nat → Nat} {c : Cf} {a : Act} {w w' : World} (I : SI J F ds β c a w) (h : c.rows.isEmpty = true := by kernel_rfl) : SI (RowKit.Below w'.heap.size w') (· < w'.heap.size) ds β c a w' := by
  have h2 : c.rows = [] := by simpa using h
  exact I.rebase rfl h2 rfl
/-- A call, its result at hand, what stands told anew from the world behind it. -/
theorem ncall {f : Nat} {fn : Func} (ss : List SV) {J : World → Prop} {F : Nat → Prop} {ds : List Deferred} {β : Nat → Nat} {c : Cf} {a : Act} {w : World} {Q : Exit → Act → World → Prop} {R : Value → World → Prop} (hf : Tryd.prog.funcs[f]? = some fn) (I : SI J F ds β c a w) (h : Calls Tryd.prog f (ss.map (up β)).toArray w fun e w' => ∃ v, e = .returned v ∧ R v w')
    (k : ∀ v w', R v w' → SI (RowKit.Below w'.heap.size w') (· < w'.heap.size) ds β (nxtQ c v) (a.put (dstQ c) v) w' → At Tryd.prog Q (nxtQ c v) (a.put (dstQ c) v) w') (hc : callQ c = some (f, ss) := by kernel_rfl) (hrw : c.rows.isEmpty = true := by kernel_rfl)
    (hb : fn.body.isNone = false := by kernel_rfl) (hn : (fn.name == "runtime.NumGoroutine") = false := by kernel_rfl) : At Tryd.prog Q c a w := by
  refine mcall hf I (h.mono fun e w' he => ?_) hc hb hn
  obtain ⟨v, rfl, hR⟩ := he
  have h2 : c.rows = [] := by simpa using hrw
  have h3 : (nxtQ c v).rows = [] := h2
  have hfr := putQ_fr I.fr (dstQ c) (some (Sum.inl v))
  have hid := idsB_put I.ids (dstQ c) (s := some (Sum.inl v)) (fun i o h => by cases h)
  have hdf : (a.put (dstQ c) v).defers = ds := by cases dstQ c <;> exact I.df
  refine k v w' hR ⟨hfr, hdf, RowKit.Below.refl _ _, ?_, ?_, ?_, ?_, hid⟩ <;> rw [h3] <;> intro p hp <;> cases hp
abbrev nmK : List Nat := [0, 1, 2, 6, 10, 47, 48]
abbrev nmW (n : Nat) (c m : List UInt8) (v : Value) (i : Nat) : Vs := frm 73 [(0, Sum.inl (b8 n)), (1, Sum.inl (str c)), (2, Sum.inl (str m)), (6, Sum.inl (.bool false)), (10, Sum.inl v), (47, Sum.inl (Z c.length)), (48, Sum.inl (Z i))]
abbrev nhK : List Nat := [0, 1, 2, 6, 39]
abbrev nhW (n : Nat) (c m : List UInt8) : Vs := frm 73 [(0, Sum.inl (b8 n)), (1, Sum.inl (str c)), (2, Sum.inl (str m)), (6, Sum.inl (.bool false)), (39, Sum.inl (str c))]
theorem callD (c : List UInt8) (hc : c.length < 100000000) (w : World) : Calls Tryd.prog 20 #[str c] w fun e w' => ∃ v, e = .returned v ∧ ∃ g, v = .slice (some ⟨g, 0, none⟩) c.length c.length ∧ w.heap.size ≤ g ∧ w'.heap[g]? = some (.cells (blC (dsN c)) 4) ∧ RowKit.Below w.heap.size w w' :=
  (dests_any c hc w).mono fun e w' ⟨g, h1, h2⟩ => ⟨_, h1, g, rfl, h2⟩
set_option maxHeartbeats 4000000 in
theorem names_rest {w : World} (hT : Tb w) (n : Nat) (c m : List UInt8) (hc : c.length ≤ 2000) (hm : m.length ≤ 2000) {β : Nat → Nat} {u : Nat → Value} {a : Act} {w1 : World} (I : SI (RowKit.Below w.heap.size w) (· < w.heap.size) [] β (cfM Tryd.f6 7 1 (fillF (scrF 73 nhK) u 0 (nhW n c m))) a w1) :
    At Tryd.prog (bodyPost Tryd.prog Tryd.f6 fun e w' => e = .returned (.bool true) ∧ RowKit.Below w.heap.size w w') (cfM Tryd.f6 7 1 (fillF (scrF 73 nhK) u 0 (nhW n c m))) a w1 := by
  refine ncall (f := 20) [Sum.inl (str c)] Tryd.func20 I (callD c (by omega) w1) fun v w2 hR I2 => ?_
  obtain ⟨g, rfl, hg1, hg2, hbl⟩ := hR
  have B2 : RowKit.Below w.heap.size w w2 := I.hJ.trans (hbl.mono I.hJ.size)
  have hlen := dsN_len c
  have hgl := (Array.getElem?_eq_some_iff.1 hg2).1
  refine goQ [lS Tryd.underlying36 (ad := some ⟨g, 0, none⟩) (n := c.length) (cap := c.length) rfl, lnO c, bO .neq 3 (run_neqZ (x := c.length) (y := c.length) (b := false) (by simp)), lS Tryd.underlying36 (ad := some ⟨g, 0, none⟩) (n := c.length) (cap := c.length) rfl] (nonR w2) I2 fun β a w3 I3 hb => ?_
  let St : Nat → Act → World → Prop := fun k a w' => ∃ (i : Nat) (β : Nat → Nat) (u : Nat → Value), k = c.length - i ∧ i ≤ c.length ∧ SI (RowKit.Below w2.heap.size w2) (· < w2.heap.size) [] β (cfC (bodyL Tryd.f6) (fillF (scrF 73 nmK) u 0 (nmW n c m (.slice (some ⟨g, 0, none⟩) c.length c.length) i)) [] 0) a w'
  refine lpM (bodyL Tryd.f6) St c.length ?_ ?_
  · obtain ⟨u', Iu⟩ := I3.scr (bodyL Tryd.f6) (scrF 73 nmK) (nmW n c m (.slice (some ⟨g, 0, none⟩) c.length c.length) 0) [] 0
    exact ⟨0, β, u', by omega, Nat.zero_le _, Iu⟩
  rintro k a4 w4 ⟨i, β4, u4, rfl, hi, I4⟩
  refine wp_cfC (tm := fillF (scrF 73 nmK) u4 0 (nmW n c m (.slice (some ⟨g, 0, none⟩) c.length c.length) i)) (rows := []) (nx := 0) ?_
  rcases Nat.lt_or_ge i c.length with hil | hil
  · obtain ⟨x, hx⟩ : ∃ x, (dsN c)[i]? = some x := ⟨_, List.getElem?_eq_getElem (by omega)⟩
    have hld : ∀ w', RowKit.Below w2.heap.size w2 w' → (loadVar 4 ⟨g, 0 + i * 1, none⟩).run Tryd.prog w' = .ok (.bool x) w' := fun w' h => bl_load ((h.block g hgl).trans hg2) hx
    have hnext : ∀ (β5 : Nat → Nat) (u5 : Nat → Value) (a5 : Act) (w5 : World), SI (RowKit.Below w2.heap.size w2) (· < w2.heap.size) [] β5 (cfC (bodyL Tryd.f6) (fillF (scrF 73 nmK) u5 0 (nmW n c m (.slice (some ⟨g, 0, none⟩) c.length c.length) (i + 1))) [] 0) a5 w5 → ∃ j, j < c.length - i ∧ St j a5 w5 := fun β5 u5 a5 w5 I5 => ⟨c.length - (i + 1), by omega, i + 1, β5, u5, rfl, hil, I5⟩
    cases x with
    | false =>
      refine goT (T := RowKit.Below w2.heap.size w2) [bO .lss 3 (run_lssZ (x := i) (y := c.length) (b := true) (by simp; omega)), iA 36 Tryd.underlying36 (sz := 1) (by kernel_rfl) (g := g) (off := 0) (n := c.length) (cap := c.length) hil, ldA 4 hld, bO .add 3 (run_addZ (x := i) (y := 1) (z := (i + 1 : Nat)) (by rw [wz (by omega) (by omega)]; omega))] (nonR w2) (fun _ h => h) I4 fun β5 a5 w5 I5 hb5 => ?_
      obtain ⟨u', Iu⟩ := I5.scr (bodyL Tryd.f6) (scrF 73 nmK) (nmW n c m (.slice (some ⟨g, 0, none⟩) c.length c.length) (i + 1)) [] 0
      exact endL (hnext β5 u' a5 w5 Iu)
    | true =>
      have hci : c[i]? = some 91 := by rw [dsN_eq] at hx; exact dsR_true _ _ _ hx
      refine goT (T := RowKit.Below w2.heap.size w2) [bO .lss 3 (run_lssZ (x := i) (y := c.length) (b := true) (by simp; omega)), iA 36 Tryd.underlying36 (sz := 1) (by kernel_rfl) (g := g) (off := 0) (n := c.length) (cap := c.length) hil, ldA 4 hld, iO 9 (p := str c) (i := Z i) (v := b8 91) (idx_run hci), bO .neq 5 (run_neq8 (x := 91) (y := 91) (b := false) (by decide)), bO .add 3 (run_addZ (x := i) (y := 1) (z := (i + 1 : Nat)) (by rw [wz (by omega) (by omega)]; omega))] (nonR w2) (fun _ h => h) I4 fun β5 a5 w5 I5 hb5 => ?_
      obtain ⟨u', Iu⟩ := I5.scr (bodyL Tryd.f6) (scrF 73 nmK) (nmW n c m (.slice (some ⟨g, 0, none⟩) c.length c.length) (i + 1)) [] 0
      exact endL (hnext β5 u' a5 w5 Iu)
  · obtain rfl : i = c.length := by omega
    refine goQ [bO .lss 3 (run_lssZ (x := c.length) (y := c.length) (b := false) (by simp))] (nonR w2) I4 fun β5 a5 w5 I5 hb5 => ?_
    refine endE 0 ?_
    refine goQ [bO .add 9 (addS_run [0, 91] m (by simp; omega))] (nonR w2) (I5.exit _) fun β6 a6 w6 I6 hb6 => ?_
    have B6 : RowKit.Below w.heap.size w w6 := B2.trans (I6.hJ.mono B2.size)
    refine ncall (f := 20) [Sum.inl (str ([0, 91] ++ m))] Tryd.func20 I6 (callD ([0, 91] ++ m) (by simp; omega) w6) fun v w7 hR I7 => ?_
    obtain ⟨gA, rfl, hA1, hA2, hA3⟩ := hR
    have B7 : RowKit.Below w.heap.size w w7 := B6.trans (hA3.mono B6.size)
    have lA := (Array.getElem?_eq_some_iff.1 hA2).1
    generalize hnA : ([0, 91] ++ m).length = nA at *
    refine goQ [] (nonR w7) I7 fun β8 a8 w8 I8 hb8 => ?_
    have B8 : RowKit.Below w.heap.size w w8 := B7.trans (I8.hJ.mono B7.size)
    have hA8 := (I8.hJ.block gA lA).trans hA2
    have lA8 := (Array.getElem?_eq_some_iff.1 hA8).1
    refine bslQ (t := 36) (n := 2) (ss := [(0, Sum.inl (.bool false)), (1, Sum.inl (.bool true))]) I8 (bs_ft w8) ?_
    have I9 := I8.alloc (nonR w7) (.cells (blC [false, true]) 4) (.slice (some ⟨w8.heap.size, 0, none⟩) 2 2)
    have hb9 := below_alloc w8 (.cells (blC [false, true]) 4)
    have hB9 : (w8.alloc (.cells (blC [false, true]) 4)).heap[w8.heap.size]? = some (.cells (blC [false, true]) 4) := heap_alloc_last w8 _
    have hA9 := (hb9.block gA lA8).trans hA8
    have B9 := B8.trans (hb9.mono B8.size)
    have hgB : w.heap.size ≤ w8.heap.size := B8.size
    generalize w8.heap.size = gB at *
    generalize w8.alloc (.cells (blC [false, true]) 4) = w9 at *
    have lB9 := (Array.getElem?_eq_some_iff.1 hB9).1
    have lA9 := (Array.getElem?_eq_some_iff.1 hA9).1
    refine goQ [] (nonR w9) (I9.rebaseX (w' := w9)) fun β10 a10 w10 I10 hb10 => ?_
    have B10 := B9.trans (I10.hJ.mono B9.size)
    have hA10 := (I10.hJ.block gA lA9).trans hA9
    have hB10 := (I10.hJ.block gB lB9).trans hB9
    have lA10 := (Array.getElem?_eq_some_iff.1 hA10).1
    have lB10 := (Array.getElem?_eq_some_iff.1 hB10).1
    refine ncall (f := 20) [Sum.inl (str m)] Tryd.func20 I10 (callD m (by omega) w10) fun v w11 hR I11 => ?_
    obtain ⟨gC, rfl, hC1, hC2, hC3⟩ := hR
    have B11 := B10.trans (hC3.mono B10.size)
    have hA11 := (hC3.block gA lA10).trans hA10
    have hB11 := (hC3.block gB lB10).trans hB10
    have lA11 := (Array.getElem?_eq_some_iff.1 hA11).1
    have lB11 := (Array.getElem?_eq_some_iff.1 hB11).1
    have hlm := dsN_len m
    have hown : w11.ownsRow gB 4 1 (.slice (some ⟨gB, 0, none⟩) [false, true].length 2) [false, true].length ([false, true].map Value.bool) := ⟨rfl, .inr ⟨gB, 2, blC [false, true], rfl, Nat.le_refl _, hB11, Nat.le_refl _, by simp [maxLen], rfl, rfl⟩⟩
    obtain ⟨v', w12, hr12, ho12, hg12, ad', cp', rfl⟩ := app_bools (g := gC) (c2 := m.length) hown (by omega) hC2 (m := dsN m) (by simp only [blC]; rw [List.take_of_length_le (by simp)]) (by rw [hlm]; simp; omega)
    rw [hlm] at hr12
    refine appQ (ss := [Sum.inl (.slice (some ⟨gB, 0, none⟩) 2 2), Sum.inl (.slice (some ⟨gC, 0, none⟩) m.length m.length)]) I11 hr12 ?_
    have I12 := (I11.same (.slice (some ad') ([false, true] ++ dsN m).length cp')).rebaseX (w' := w12)
    have hAB : gA ≠ gB := by omega
    have hA12 : w12.heap[gA]? = some (.cells (blC (dsN ([0, 91] ++ m))) 4) := (hg12.block gA lA11 (by simpa using hAB)).trans hA11
    have B12 : RowKit.Below w.heap.size w w12 := ⟨hg12.os.trans B11.os, hg12.tape.trans B11.tape, hg12.output.trans B11.output, Nat.le_trans B11.size hg12.size, fun k hk => (hg12.block k (Nat.lt_of_lt_of_le hk B11.size) (by simp; omega)).trans (B11.block k hk)⟩
    have hBA : BR w12 (.slice (some ⟨gA, 0, none⟩) nA nA) (dsN ([0, 91] ++ m)) := BR.of (by rw [dsN_len]; exact hnA) hA12
    have hBD := owns_BR ho12
    have heq : dsN ([0, 91] ++ m) = [false, true] ++ dsN m := ds_two m
    have h19 : ∀ w', RowKit.Below w12.heap.size w12 w' → Calls Tryd.prog 19 #[.slice (some ⟨gA, 0, none⟩) nA nA, .slice (some ad') ([false, true] ++ dsN m).length cp'] w' fun e w'' => e = .returned (.bool true) ∧ RowKit.Below w'.heap.size w' w'' := fun w' h => by
      have := bools_any (hBA.below h) (hBD.below h) (by rw [dsN_len]; simp; omega) (by simp [hlm]; omega)
      rw [decide_eq_true heq] at this
      exact this
    have h16 : ∀ w', RowKit.Below w12.heap.size w12 w' → Calls Tryd.prog 16 #[] w' fun e w'' => e = .returned (.bool true) ∧ RowKit.Below w'.heap.size w' w'' := fun w' h => awake_any (hT.below (B12.trans (h.mono B12.size)))
    generalize ([false, true] ++ dsN m).length = nD at *
    refine goT (T := RowKit.Below w12.heap.size w12) [cA Tryd.func19 h19, cA Tryd.func16 h16] (nonR w12) (fun _ h => h) I12 fun β13 a13 w13 I13 hb13 => ?_
    exact outQ (v := .bool true) I13 ⟨rfl, B12.trans (I13.hJ.mono B12.size)⟩
set_option maxHeartbeats 4000000 in
theorem names_walk {w : World} (hT : Tb w) (n : Nat) (hn : n < 256) (c m : List UInt8) : Calls Tryd.prog 6 #[b8 n, str c, str m] w fun e w' => e = .returned (.bool true) ∧ RowKit.Below w.heap.size w w' := by
  have h16 : ∀ w', Tb w' → Calls Tryd.prog 16 #[] w' fun e w'' => e = .returned (.bool true) ∧ RowKit.Below w'.heap.size w' w'' := fun w' h => awake_any h
  have hTT : ∀ w', RowKit.Below w.heap.size w w' → Tb w' := fun _ hb => hT.below hb
  refine inQ (J := RowKit.Below w.heap.size w) (F := (· < w.heap.size)) Tryd.func6 (RowKit.Below.refl _ _) fun a I => ?_
  by_cases hc : 2000 < c.length
  · refine goT (T := Tb) [lnO c, bO .gtr 3 (run_gtrZ (x := c.length) (y := 2000) (b := true) (by simp; omega)), cA Tryd.func16 h16] (nonR w) hTT I fun β a w1 I1 hb => ?_
    exact outQ (v := .bool true) I1 ⟨rfl, I1.hJ⟩
  by_cases hm : 2000 < m.length
  · refine goT (T := Tb) [lnO c, bO .gtr 3 (run_gtrZ (x := c.length) (y := 2000) (b := false) (by simp; omega)), lnO m, bO .gtr 3 (run_gtrZ (x := m.length) (y := 2000) (b := true) (by simp; omega)), cA Tryd.func16 h16] (nonR w) hTT I fun β a w1 I1 hb => ?_
    exact outQ (v := .bool true) I1 ⟨rfl, I1.hJ⟩
  have h12 : ∀ w', Tb w' → Calls Tryd.prog 12 #[b8 n] w' fun e w'' => e = .returned (str (nmN n)) ∧ RowKit.Below w'.heap.size w' w'' := fun w' h => name_any h n hn
  have h10 : ∀ w', Tb w' → Calls Tryd.prog 10 #[str (nmN n)] w' fun e w'' => e = .returned (.tuple #[b8 (opV nmN (nmN n)).1, .bool (opV nmN (nmN n)).2]) ∧ RowKit.Below w'.heap.size w' w'' := fun w' h => op_any h (nmN n)
  have hop := op_name n hn
  generalize opV nmN (nmN n) = ov at *
  generalize nmN n = nm at *
  obtain ⟨on, ob⟩ := ov
  simp only [] at h10
  by_cases hnm : nm = []
  · refine goT (T := Tb) [lnO c, bO .gtr 3 (run_gtrZ (x := c.length) (y := 2000) (b := false) (by simp; omega)), lnO m, bO .gtr 3 (run_gtrZ (x := m.length) (y := 2000) (b := false) (by simp; omega)), cA Tryd.func12 h12, cA Tryd.func10 h10, bO .neq 9 (neS_run (a := nm) (b := []) (q := false) (by simp [hnm]))] (nonR w) hTT I fun β a w1 I1 hb => ?_
    obtain ⟨u, Iu⟩ := I1.scr .skip (scrF 73 nhK) (nhW n c m) [] 0
    exact at_code (names_rest hT n c m (by omega) (by omega) (Iu.cf rfl rfl rfl))
  · have h1 := hop hnm
    simp only [Prod.mk.injEq] at h1
    obtain ⟨rfl, rfl⟩ := h1
    refine goT (T := Tb) [lnO c, bO .gtr 3 (run_gtrZ (x := c.length) (y := 2000) (b := false) (by simp; omega)), lnO m, bO .gtr 3 (run_gtrZ (x := m.length) (y := 2000) (b := false) (by simp; omega)), cA Tryd.func12 h12, cA Tryd.func10 h10, bO .neq 9 (neS_run (a := nm) (b := []) (q := true) (by simp [hnm])), bO .neq 5 (run_neq8 (x := on) (y := on) (b := false) (by simp)), uO .not (p := .bool true) (v := .bool false) run_not] (nonR w) hTT I fun β a w1 I1 hb => ?_
    obtain ⟨u, Iu⟩ := I1.scr .skip (scrF 73 nhK) (nhW on c m) [] 0
    exact at_code (names_rest hT on c m (by omega) (by omega) (Iu.cf rfl rfl rfl))
end Go.Proofs.YtoceebhnhccfdaaDoor
