/- Laid one behind the other: Ej, Ek. -/
import Derived.Test.YthkpgfbjdabflaaGreatDoorKrEh
import Derived.Test.YthkpgfbjdabflaaGreatDoorKrSTv
import Derived.Test.YthkpgfbjdabflaaGreatDoorKrSYh
namespace Go.Proofs.YthkpgfbjdabflaaGreatDoor
open Go.RowKit Go.Sort
set_option linter.unusedVariables false
set_option maxRecDepth 100000
theorem bs52 (ada adb : Option Addr) (na nb ca cb ta tb : Nat) (da db : ByteArray) (fa fb : Bool) (w : World) : (Instr.buildSlice 52 2 #[(0, .agg #[B ta, .bool fa, .string da, .slice ada na ca]), (1, .agg #[B tb, .bool fb, .string db, .slice adb nb cb])]).run Tryz.prog w = .ok (.slice (some ⟨w.heap.size, 0, none⟩) 2 2) (w.alloc (.cells #[B ta, .bool fa, .string da, .slice ada na ca, B tb, .bool fb, .string db, .slice adb nb cb] 28)) := by
  simp [go_sem]
/-- Two states that lie in a row: are there few bytes? -/
theorem few_two {w : World} {f : Fi} {pv : Value} (hp : PaI w pv f.1) {g : Nat} {a b : Va} {ada adb : Option Addr} {ca cb : Nat} (ha : ExI w (.slice ada a.2.2.2.length ca) a.2.2.2) (hb : ExI w (.slice adb b.2.2.2.length cb) b.2.2.2) (hr : HasRow w g #[B a.1, .bool a.2.1, .string a.2.2.1, .slice ada a.2.2.2.length ca, B b.1, .bool b.2.1, .string b.2.2.1, .slice adb b.2.2.2.length cb]) :
    Calls Tryz.prog 8 #[fxdV f pv, .slice (some ⟨g, 0, none⟩) 2 2] w fun e w' => Below w.heap.size w w' ∧ ∃ u, e = .returned u ∧ (u = .bool false ∨ u = .bool true ∧ f.1.length < 20 ∧ fewR a.2.2.2 ∧ fewR b.2.2.2) := by
  refine (few_ok hp (g := g) (cap := 2) (fun i => if i = 0 then a else b) (fun i => if i = 0 then ada else adb) (fun i => if i = 0 then ca else cb) (fun i => by
    by_cases h : i = 0
    · simp only [if_pos h]; exact ha
    · simp only [if_neg h]; exact hb) (fun i hi w' hb' => by
    have hr' := hr.below hb'
    match i, hi with
    | 0, _ => exact loadN Tryz.underlying28 rfl (n := 4) (by kernel_rfl) rfl (cs := [B a.1, .bool a.2.1, .string a.2.2.1, .slice ada a.2.2.2.length ca]) (fun j c hc => by
        have hj := (List.getElem?_eq_some_iff.1 hc).1
        rw [hr'.cell]
        match j, hj, hc with
        | 0, _, hc => exact hc
        | 1, _, hc => exact hc
        | 2, _, hc => exact hc
        | 3, _, hc => exact hc)
    | 1, _ => exact loadN Tryz.underlying28 rfl (n := 4) (by kernel_rfl) rfl (cs := [B b.1, .bool b.2.1, .string b.2.2.1, .slice adb b.2.2.2.length cb]) (fun j c hc => by
        have hj := (List.getElem?_eq_some_iff.1 hc).1
        rw [hr'.cell]
        match j, hj, hc with
        | 0, _, hc => exact hc
        | 1, _, hc => exact hc
        | 2, _, hc => exact hc
        | 3, _, hc => exact hc))).mono fun e w' h => ?_
  obtain ⟨h1, u, h2, h3⟩ := h
  refine ⟨h1, u, h2, h3.imp id fun h => ⟨h.1, h.2.1, h.2.2 0 (by omega), h.2.2 1 (by omega)⟩⟩
theorem fsE_all : ∀ {l : List Int}, fsE l = 0 → ∀ e ∈ l, e = 0 := by
  intro l
  induction l with
  | nil => intro _ e he; cases he
  | cons x r ih =>
    intro h e he
    unfold fsE at h
    split at h
    · next hx =>
      rcases List.mem_cons.1 he with rfl | he
      · exact hx
      · exact ih h e he
    · next hx => exact absurd h hx
theorem fo_zero {f : Fi} {a b : Va} {fE : Fr} (h : foE f a b fE = 0) : e1E f a b = 0 ∧ (noR f b = true ∨ ktB a.2.2.2 b.2.2.2 = true ∧ alE fE = 0) := by
  unfold foE at h
  by_cases h1 : e1E f a b = 0
  · rw [if_pos h1] at h
    refine ⟨h1, ?_⟩
    by_cases h2 : noR f b = true
    · exact .inl h2
    · rw [if_neg h2] at h
      have k := fsE_all h
      have k1 := k _ List.mem_cons_self
      refine .inr ⟨?_, k _ (by simp)⟩
      cases hq : ktB a.2.2.2 b.2.2.2 with
      | true => rfl
      | false => rw [hq] at k1; cases k1
  · rw [if_neg h1] at h
    exact absurd h h1
theorem e1_zero {f : Fi} {a b : Va} (h : e1E f a b = 0) : fiE f a b = 0 ∧ nxE a b = 0 ∧ stE a b = 0 ∧ kfE f a b = 0 ∧ koE a b = 0 := by
  unfold e1E at h
  have k := fsE_all h
  exact ⟨k _ (by simp), k _ (by simp), k _ (by simp), k _ (by simp), k _ (by simp)⟩
theorem alone_eq {f : Fi} {a b : Va} (h : e1E f a b = 0) (hn : noR f b = true) : eqX a.2.2.2 b.2.2.2 = true := by
  obtain ⟨_, _, _, h4, h5⟩ := e1_zero h
  unfold kfE at h4
  unfold koE at h5
  unfold noR at hn
  cases hq : eqX a.2.2.2 b.2.2.2 with
  | true => rfl
  | false =>
    rw [hq] at h4 h5
    cases hb : b.2.1 with
    | true => rw [hb] at h5; simp at h5
    | false =>
      rw [hb] at hn h4
      simp at hn
      rw [hn] at h4
      simp at h4
set_option maxHeartbeats 2000000 in
theorem alone_walk {TT : World → Prop} (hTT : ∀ w w', TT w → Below w.heap.size w w' → TT w') (hA : RunA TT) (hB : RunB TT) {w : World} (ht : TT w) {f : Fi} {pv : Value} (hp : PaI w pv f.1) {a b : Va} {ea eb : Value} (ha : ExI w ea a.2.2.2) (hta : a.1 < M) (hb : ExI w eb b.2.2.2) (htb : b.1 < M) :
    Calls Tryz.prog 6 #[fxdV f pv, vaV a ea, vaV b eb] w fun e w' => e = .returned (.bool true) ∧ Below w.heap.size w w' := by
  have hAw : ∀ w', Below w.heap.size w w' → Calls Tryz.prog 9 #[] w' fun e w'' => e = .returned (.bool true) ∧ Below w'.heap.size w' w'' := fun w' hb => awake_ok hTT hA hB (hTT w w' ht hb)
  obtain ⟨ps, no, ap, ti⟩ := f
  obtain ⟨adp, capp, rfl, _⟩ := id hp.2
  obtain ⟨ada, ca, rfl⟩ := ha.slice
  obtain ⟨adb, cb, rfl⟩ := hb.slice
  obtain ⟨fE, hal, hru⟩ := hB (inV a b (mvV (ps, no, ⟨#[]⟩, ti) b.1)) (inV_len _ _ _)
  have hfol : okX a.2.2.2 → okX b.2.2.2 → ps.length < 1000000 → ∀ w', Below w.heap.size w w' → Calls Tryz.prog 16 #[fxdV (ps, no, ⟨#[]⟩, ti) (.slice adp ps.length capp), vaV a (.slice ada a.2.2.2.length ca), vaV b (.slice adb b.2.2.2.length cb)] w' fun r w'' => r = .returned (Z (foE (ps, no, ⟨#[]⟩, ti) a b fE)) ∧ Below w'.heap.size w' w'' := fun h1 h2 h3 w' hb' => follows_ok (f := (ps, no, ⟨#[]⟩, ti)) ⟨hp.below hb', ha.below CE.loc hb', hb.below CE.loc hb', hta, htb, h1, h2, h3⟩ fE fun _ w2 hb2 => hru w2 (hTT w w2 ht (hb'.trans (hb2.mono hb'.size)))
  have hse : okX a.2.2.2 → ∀ w', Below w.heap.size w w' → Calls Tryz.prog 18 #[.slice ada a.2.2.2.length ca, .slice adb b.2.2.2.length cb] w' fun r w'' => r = .returned (.bool (eqX a.2.2.2 b.2.2.2)) ∧ Below w'.heap.size w' w'' := fun h1 w' hb' => rsame_exits (ha.below CE.loc hb') (hb.below CE.loc hb') h1
  have hfz : foE (ps, no, ⟨#[]⟩, ti) a b fE = 0 → eqX a.2.2.2 b.2.2.2 = true ∧ noR (ps, no, ⟨#[]⟩, ti) b = true := fun h => by
    obtain ⟨h1, h2⟩ := fo_zero h
    rcases h2 with h2 | ⟨_, h2⟩
    · exact ⟨alone_eq h1 h2, h2⟩
    · rw [hal] at h2; cases h2
  generalize foE (ps, no, ⟨#[]⟩, ti) a b fE = fo at hfol hfz
  have hfr : noR (ps, no, ⟨#[]⟩, ti) b = (b.2.1 || decide (b.1 < 2 * ps.length)) := rfl
  rw [hfr] at hfz
  have hmul := fun (h : ps.length < 1000000) => mulB 2 ps.length (2 * ps.length) rfl (by unfold M; omega)
  obtain ⟨ta, fa, da, xa⟩ := a
  obtain ⟨tb, fb, db, xb⟩ := b
  simp only [] at hfol hse hfz ha hb
  refine inQ (J := Below w.heap.size w) (F := (· < w.heap.size)) Tryz.func6 (Below.refl _ _) fun a I => ?_
  refine goQ [] (nonR w) I fun β1 a1 w1 I1 hb1 => ?_
  refine bslQ (ss := [(0, Sum.inl (.agg #[B ta, .bool fa, .string da, .slice ada xa.length ca])), (1, Sum.inl (.agg #[B tb, .bool fb, .string db, .slice adb xb.length cb]))]) I1 (bs52 ada adb xa.length xb.length ca cb ta tb da db fa fb w1) ?_
  have I2 := I1.alloc (nonR w) (.cells #[B ta, .bool fa, .string da, .slice ada xa.length ca, B tb, .bool fb, .string db, .slice adb xb.length cb] 28) (.slice (some ⟨w1.heap.size, 0, none⟩) 2 2)
  have hrow : HasRow (w1.alloc (.cells #[B ta, .bool fa, .string da, .slice ada xa.length ca, B tb, .bool fb, .string db, .slice adb xb.length cb] 28)) w1.heap.size #[B ta, .bool fa, .string da, .slice ada xa.length ca, B tb, .bool fb, .string db, .slice adb xb.length cb] := HasRow.last rfl
  generalize w1.alloc (.cells #[B ta, .bool fa, .string da, .slice ada xa.length ca, B tb, .bool fb, .string db, .slice adb xb.length cb] 28) = w2 at *
  generalize w1.heap.size = g at *
  refine mcall (f := 8) (ss := [Sum.inl (.agg #[.slice adp ps.length capp, B no, str [], Z ti]), Sum.inl (.slice (some ⟨g, 0, none⟩) 2 2)]) Tryz.func8 I2 ((few_two (f := (ps, no, ⟨#[]⟩, ti)) (a := (ta, fa, da, xa)) (b := (tb, fb, db, xb)) (hp.below I2.hJ) (ha.below CE.loc I2.hJ) (hb.below CE.loc I2.hJ) hrow).mono fun r w3 hr => ?_)
  obtain ⟨hb3, u, rfl, hu⟩ := hr
  have I3 := I2.moved (J' := Below w.heap.size w) (F' := (· < w.heap.size)) (Grow.of_below hb3) (I2.hJ.trans (hb3.mono I2.hJ.size)) (fun _ _ h => h) u
  rcases hu with rfl | ⟨rfl, hps, hfa, hfb⟩
  · refine goT (T := Below w.heap.size w) [uO .not (p := .bool false) (v := .bool true) (by intros; rfl), cA Tryz.func9 hAw] (nonR w) (fun _ h => h) I3 fun β4 a4 w4 I4 hb4 => ?_
    exact outQ (v := .bool true) I4 ⟨rfl, I4.hJ⟩
  have hps' : ps.length < 1000000 := by have : ps.length < 20 := hps; omega
  have hfol := hfol hfa.ok hfb.ok hps'
  have hse := hse hfa.ok
  have hmul := hmul hps'
  by_cases hz : fo = 0
  · obtain ⟨hx, hn⟩ := hfz hz
    rw [hx] at hse
    cases fb
    · simp only [Bool.false_or] at hn
      refine goT (T := Below w.heap.size w) [uO .not (p := .bool true) (v := .bool false) (by intros; rfl), cA Tryz.func16 hfol, bO .neq 33 (run_neqE (x := fo) (q := false) (by simp [hz])), lS Tryz.underlying22 (ad := adp) (n := ps.length) (cap := capp) rfl, vO 3 23 (cnv64 ps.length (by omega)), bO .mul 23 hmul, bO .lss 23 (run_lssB (x := tb) (y := 2 * ps.length) hn), cA Tryz.func18 hse, cA Tryz.func9 hAw] (nonR w) (fun _ h => h) I3 fun β4 a4 w4 I4 hb4 => ?_
      exact outQ (v := .bool true) I4 ⟨rfl, I4.hJ⟩
    · refine goT (T := Below w.heap.size w) [uO .not (p := .bool true) (v := .bool false) (by intros; rfl), cA Tryz.func16 hfol, bO .neq 33 (run_neqE (x := fo) (q := false) (by simp [hz])), cA Tryz.func18 hse, cA Tryz.func9 hAw] (nonR w) (fun _ h => h) I3 fun β4 a4 w4 I4 hb4 => ?_
      exact outQ (v := .bool true) I4 ⟨rfl, I4.hJ⟩
  · refine goT (T := Below w.heap.size w) [uO .not (p := .bool true) (v := .bool false) (by intros; rfl), cA Tryz.func16 hfol, bO .neq 33 (run_neqE (x := fo) (q := true) (by simp [hz])), cA Tryz.func9 hAw] (nonR w) (fun _ h => h) I3 fun β4 a4 w4 I4 hb4 => ?_
    exact outQ (v := .bool true) I4 ⟨rfl, I4.hJ⟩
end Go.Proofs.YthkpgfbjdabflaaGreatDoor
namespace Go.Proofs.YthkpgfbjdabflaaGreatDoor
open Go.RowKit Go.Sort
set_option linter.unusedVariables false
set_option maxRecDepth 100000
theorem cnv8U (n : Nat) (h : n < 256) (w : World) : (convert 5 23 (b8 n)).run Tryz.prog w = .ok (B n) w := by
  have : IntKind.u64.wrap (n : Int) = n := by rw [IntKind.wrap_u64]; omega
  simp [go_sem, this]
theorem cut_pieces (m1 x y m2 : List UInt8) (h1 : m1.length = 32) (h2 : m2.length = 32) : (m1 ++ x ++ y ++ m2).length = 64 + x.length + y.length ∧ (m1 ++ x ++ y ++ m2).take 32 = m1 ∧ ((m1 ++ x ++ y ++ m2).take (32 + x.length)).drop 32 = x ∧ ((m1 ++ x ++ y ++ m2).take (32 + x.length + y.length)).drop (32 + x.length) = y ∧ (m1 ++ x ++ y ++ m2).drop (32 + x.length + y.length) = m2 := by
  refine ⟨by simp only [List.length_append]; omega, ?_, ?_, ?_, ?_⟩
  · rw [List.append_assoc, List.append_assoc, ← h1, List.take_left]
  · rw [List.append_assoc (m1 ++ x), show 32 + x.length = (m1 ++ x).length by rw [List.length_append, h1], List.take_left, ← h1, List.drop_left]
  · rw [show 32 + x.length + y.length = (m1 ++ x ++ y).length by simp only [List.length_append]; omega, List.take_left, show 32 + x.length = (m1 ++ x).length by rw [List.length_append, h1], List.drop_left]
  · rw [show 32 + x.length + y.length = (m1 ++ x ++ y).length by simp only [List.length_append]; omega, List.drop_left]
set_option maxHeartbeats 4000000 in
theorem inputs_walk {TT : World → Prop} (hTT : ∀ w w', TT w → Below w.heap.size w w' → TT w') (hA : RunA TT) (hB : RunB TT) {w : World} (ht : TT w) {f : Fi} {pv : Value} (hp : PaI w pv f.1) {a b : Va} {ea eb : Value} (ha : ExI w ea a.2.2.2) (hta : a.1 < M) (hb : ExI w eb b.2.2.2) (htb : b.1 < M) (k : Nat) (hk : k < 256) :
    Calls Tryz.prog 7 #[fxdV f pv, vaV a ea, vaV b eb, b8 k] w fun e w' => e = .returned (.bool true) ∧ Below w.heap.size w w' := by
  have hAw : ∀ w', Below w.heap.size w w' → Calls Tryz.prog 9 #[] w' fun e w'' => e = .returned (.bool true) ∧ Below w'.heap.size w' w'' := fun w' hb => awake_ok hTT hA hB (hTT w w' ht hb)
  obtain ⟨ps, no, ap, ti⟩ := f
  obtain ⟨adp, capp, rfl, _⟩ := id hp.2
  obtain ⟨ada, ca, rfl⟩ := ha.slice
  obtain ⟨adb, cb, rfl⟩ := hb.slice
  have hin : okX a.2.2.2 → okX b.2.2.2 → ps.length < 1000000 → ∀ w', Below w.heap.size w w' → Calls Tryz.prog 12 #[fxdV (ps, no, ap, ti) (.slice adp ps.length capp), vaV a (.slice ada a.2.2.2.length ca), vaV b (.slice adb b.2.2.2.length cb), Z k] w' fun r w'' => r = .returned (str (inV a b k)) ∧ Below w'.heap.size w' w'' := fun h1 h2 h3 w' hb' => input_ok (f := (ps, no, ap, ti)) ⟨hp.below hb', ha.below CE.loc hb', hb.below CE.loc hb', hta, htb, h1, h2, h3⟩ k (by omega)
  have hf1 : okX a.2.2.2 → ∀ w', Below w.heap.size w w' → _ := fun h1 w' hb' => sfitVar_any (v := a) (ha.below CE.loc hb') h1
  have hf2 : okX b.2.2.2 → ∀ w', Below w.heap.size w w' → _ := fun h1 w' hb' => sfitVar_any (v := b) (hb.below CE.loc hb') h1
  have hw1 : okX a.2.2.2 → ∀ w', Below w.heap.size w w' → _ := fun h1 w' hb' => rwrite (v := a) (ha.below CE.loc hb') h1 hta
  have hw2 : okX b.2.2.2 → ∀ w', Below w.heap.size w w' → _ := fun h1 w' hb' => rwrite (v := b) (hb.below CE.loc hb') h1 htb
  have l1 := wrV_w a
  have l2 := wrV_w b
  unfold inV at hin
  generalize fitV a = q1 at *
  generalize fitV b = q2 at *
  generalize wrV a = x at *
  generalize wrV b = y at *
  have hc := cut_pieces (wb x.length) x y (wb k) (wb_len _) (wb_len _)
  have hr1 := rbytes_str x.length
  have hr2 := rbytes_str k
  have hu1 := bd_U x.length (by unfold M; omega)
  have hu2 := bd_U k (by unfold M; omega)
  generalize U x.length = u1 at *
  generalize U k = u2 at *
  generalize wb x.length = m1 at *
  generalize wb k = m2 at *
  obtain ⟨ta, fa, da, xa⟩ := a
  obtain ⟨tb, fb, db, xb⟩ := b
  simp only [] at hin ha hb hf1 hf2 hw1 hw2
  refine inQ (J := Below w.heap.size w) (F := (· < w.heap.size)) Tryz.func7 (Below.refl _ _) fun a I => ?_
  refine goQ [] (nonR w) I fun β1 a1 w1 I1 hb1 => ?_
  refine bslQ (ss := [(0, Sum.inl (.agg #[B ta, .bool fa, .string da, .slice ada xa.length ca])), (1, Sum.inl (.agg #[B tb, .bool fb, .string db, .slice adb xb.length cb]))]) I1 (bs52 ada adb xa.length xb.length ca cb ta tb da db fa fb w1) ?_
  have I2 := I1.alloc (nonR w) (.cells #[B ta, .bool fa, .string da, .slice ada xa.length ca, B tb, .bool fb, .string db, .slice adb xb.length cb] 28) (.slice (some ⟨w1.heap.size, 0, none⟩) 2 2)
  have hrow : HasRow (w1.alloc (.cells #[B ta, .bool fa, .string da, .slice ada xa.length ca, B tb, .bool fb, .string db, .slice adb xb.length cb] 28)) w1.heap.size #[B ta, .bool fa, .string da, .slice ada xa.length ca, B tb, .bool fb, .string db, .slice adb xb.length cb] := HasRow.last rfl
  generalize w1.alloc (.cells #[B ta, .bool fa, .string da, .slice ada xa.length ca, B tb, .bool fb, .string db, .slice adb xb.length cb] 28) = w2 at *
  generalize w1.heap.size = g at *
  refine mcall (f := 8) (ss := [Sum.inl (.agg #[.slice adp ps.length capp, B no, .string ap, Z ti]), Sum.inl (.slice (some ⟨g, 0, none⟩) 2 2)]) Tryz.func8 I2 ((few_two (f := (ps, no, ap, ti)) (a := (ta, fa, da, xa)) (b := (tb, fb, db, xb)) (hp.below I2.hJ) (ha.below CE.loc I2.hJ) (hb.below CE.loc I2.hJ) hrow).mono fun r w3 hr => ?_)
  obtain ⟨hb3, u, rfl, hu⟩ := hr
  have I3 := I2.moved (J' := Below w.heap.size w) (F' := (· < w.heap.size)) (Grow.of_below hb3) (I2.hJ.trans (hb3.mono I2.hJ.size)) (fun _ _ h => h) u
  rcases hu with rfl | ⟨rfl, hps, hfa, hfb⟩
  · refine goT (T := Below w.heap.size w) [uO .not (p := .bool false) (v := .bool true) (by intros; rfl), cA Tryz.func9 hAw] (nonR w) (fun _ h => h) I3 fun β4 a4 w4 I4 hb4 => ?_
    exact outQ (v := .bool true) I4 ⟨rfl, I4.hJ⟩
  have hps' : ps.length < 1000000 := by have : ps.length < 20 := hps; omega
  have hin := hin hfa.ok hfb.ok hps'
  have hf1 := hf1 hfa.ok
  have hf2 := hf2 hfb.ok
  have hw1 := hw1 hfa.ok
  have hw2 := hw2 hfb.ok
  cases q1
  · refine goT (T := Below w.heap.size w) [uO .not (p := .bool true) (v := .bool false) (by intros; rfl), cA Tryz.func20 hf1, uO .not (p := .bool false) (v := .bool true) (by intros; rfl), cA Tryz.func9 hAw] (nonR w) (fun _ h => h) I3 fun β4 a4 w4 I4 hb4 => ?_
    exact outQ (v := .bool true) I4 ⟨rfl, I4.hJ⟩
  cases q2
  · refine goT (T := Below w.heap.size w) [uO .not (p := .bool true) (v := .bool false) (by intros; rfl), cA Tryz.func20 hf1, uO .not (p := .bool true) (v := .bool false) (by intros; rfl), cA Tryz.func20 hf2, uO .not (p := .bool false) (v := .bool true) (by intros; rfl), cA Tryz.func9 hAw] (nonR w) (fun _ h => h) I3 fun β4 a4 w4 I4 hb4 => ?_
    exact outQ (v := .bool true) I4 ⟨rfl, I4.hJ⟩
  rw [show (true && true) = true from rfl, if_pos rfl] at hin
  obtain ⟨c0, c1, c2, c3, c4⟩ := hc
  generalize m1 ++ x ++ y ++ m2 = S at *
  refine goT (T := Below w.heap.size w) [uO .not (p := .bool true) (v := .bool false) (by intros; rfl), cA Tryz.func20 hf1, uO .not (p := .bool true) (v := .bool false) (by intros; rfl), cA Tryz.func20 hf2, uO .not (p := .bool true) (v := .bool false) (by intros; rfl), vO 5 3 (cnv8Z k hk), cA Tryz.func12 hin] (nonR w) (fun _ h => h) I3 fun β4 a4 w4 I4 hb4 => ?_
  refine dwT (T := Below w.heap.size w) 6 [cA Tryz.func21 hw1, cA Tryz.func21 hw2] (nonR w) (fun _ h => h) PanOk.post I4 fun a5 w5 I5 => ?_
  have t1 := to_run (l := S) (k := 32) (by omega)
  have t2 := both_run (l := S) (i := 32) (j := 32 + x.length) (by omega) (by omega)
  have t3 := both_run (l := S) (i := 32 + x.length) (j := 32 + x.length + y.length) (by omega) (by omega)
  have t4 := from_run (l := S) (k := 32 + x.length + y.length) (by omega)
  rw [c1] at t1
  rw [c2] at t2
  rw [c3] at t3
  rw [c4] at t4
  obtain ⟨n1, hn1⟩ : ∃ n, 32 + x.length = n := ⟨_, rfl⟩
  obtain ⟨n2, hn2⟩ : ∃ n, 32 + x.length + y.length = n := ⟨_, rfl⟩
  rw [hn2] at t3 t4
  rw [hn1] at t2 t3
  have ad1 : IntKind.i64.wrap ((32 : Int) + (x.length : Int)) = (n1 : Nat) := by rw [wz (by omega) (by omega)]; omega
  have ad2 : IntKind.i64.wrap ((n1 : Nat) + (y.length : Int)) = (n2 : Nat) := by rw [wz (by omega) (by omega)]; omega
  refine goQ [lnO S, bO .sub 3 (run_subZ (x := S.length) (y := 32) (z := (n2 : Nat)) (by rw [wz (by omega) (by omega)]; omega))] (nonR w) I5 fun β6 a6 w6 I6 hb6 => ?_
  refine dwC (T := Below w.heap.size w) [] [lnO x, bO .add 3 (run_addZ (x := 32) (y := x.length) ad1), lnO y, bO .add 3 (run_addZ (x := n1) (y := y.length) ad2), bO .eql 3 (run_eqlZ (x := n2) (y := n2) (b := true) (decide_eq_true rfl)), sT 9 t1, lnO x, vO 3 23 (cnv64 x.length (by omega)), dO 45 [0] hu1, kC Tryz.func22 hr1, bO .eql 9 (eqS_run (a := m1) (b := m1) (q := true) (decide_eq_true rfl)), lnO x, bO .add 3 (run_addZ (x := 32) (y := x.length) ad1), sLH 9 t2, bO .eql 9 (eqS_run (a := x) (b := x) (q := true) (decide_eq_true rfl)), lnO x, bO .add 3 (run_addZ (x := 32) (y := x.length) ad1), sLH 9 t3, bO .eql 9 (eqS_run (a := y) (b := y) (q := true) (decide_eq_true rfl)), sO 9 t4, vO 5 23 (cnv8U k hk), dO 45 [0] hu2, kC Tryz.func22 hr2, bO .eql 9 (eqS_run (a := m2) (b := m2) (q := true) (decide_eq_true rfl)), cA Tryz.func9 hAw] (fun _ _ _ => True) (fun _ _ => trivial) (fun _ _ _ _ _ _ _ _ _ => trivial) (nonR w) (fun _ h => h) I6 (fun p hp => by cases hp) fun listed vs a7 w7 _ _ I7 => ?_
  refine goQ [] (nonR w) I7 fun β8 a8 w8 I8 hb8 => ?_
  exact outQ (v := .bool true) I8 ⟨rfl, I8.hJ⟩
end Go.Proofs.YthkpgfbjdabflaaGreatDoor
