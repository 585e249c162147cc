/- Laid one behind the other: Vi, Vj, Vk. -/
import Derived.Test.YthkpgfbjdabflaaGreatDoorKrVh
import Derived.Test.YthkpgfbjdabflaaGreatDoorKrGm
namespace Go.Proofs.YthkpgfbjdabflaaGreatDoor
open Go.RowKit Go.Sort
set_option linter.unusedVariables false
set_option maxRecDepth 100000
set_option maxHeartbeats 4000000
section
variable {P : Program} {J : World → Prop} {F : Nat → Prop} {ds : List Deferred} {β : Nat → Nat} {c : Cf} {a : Act} {w : World} {Q : Exit → Act → World → Prop}
/-- The panic that is next. -/
def pnQ (c : Cf) : Option SV := match opAtQ c with
  | some o => match o.op with
    | .panic x => evQ c.tm x
    | _ => none
  | none => none
theorem panQ {t : TypeId} {v : Value} (I : SI J F ds β c a w) (k : Q (.panic [{ v := .iface t v, recovered := false }]) a w) (hc : pnQ c = some (Sum.inl (.iface t v)) := by kernel_rfl) : At P Q c a w := by
  unfold pnQ at hc
  split at hc
  · next o ho =>
    split at hc
    · next x hop =>
      obtain ⟨hd, ⟨rest, hr⟩, hw⟩ := opAtQ_some ho
      refine at_cons hd hr (wantQ_ok I hw) ?_
      have hrun : (execOp a.eval o).run P w = .halt (.panic (.iface t v)) w := by
        unfold execOp
        simp only [hop, evQ_ok I.fr hc, up, Instr.panic]
        rfl
      unfold Oper.wp
      rw [hrun]
      exact panQ_ok k
    · cases hc
  · cases hc
/-- A call that throws. -/
theorem throwX {f : Nat} {fn : Func} (ss : List SV) (hf : P.funcs[f]? = some fn) (I : SI J F ds β c a w) {ch : List PanicEntry} (post : World → Prop)
    (hcall : Calls P f (ss.map (up β)).toArray w fun e w' => e = .panicked ch ∧ post w') (k : ∀ w', post w' → Q (.panic ch) a w')
    (hc : callX c = some (f, ss) := by kernel_rfl) (hbd : fn.body.isNone = false := by kernel_rfl) (hn : (fn.name == "runtime.NumGoroutine") = false := by kernel_rfl) : At P Q c a w := by
  refine mcallX ss hf I (hcall.mono fun e w1 he => ?_) hc hbd hn
  obtain ⟨rfl, hp⟩ := he
  exact k w1 hp
end
def mI {T : World → Prop} (t : Nat) {d : TypeDesc} (hu : Tryz.prog.underlying t = some d) (hd : (match d with | .interface _ => false | _ => true) = true) {x : Value} : Fa Tryz.prog T := Sum.inr (Sum.inr
  { ok := fun | .makeInterface t' _ => t' == t | _ => false
    xs := #[x]
    v := .iface t x
    fr := true
    h := by
      intro a w oo _ hok hx
      cases hop : oo.op with
      | makeInterface t' y =>
        rw [hop] at hok hx
        simp only [beq_iff_eq] at hok
        subst hok
        simp only [opnds, List.map_cons, List.map_nil] at hx
        have hx1 : a.eval y = x := by simpa using hx
        unfold execOp
        simp only [hop, hx1, Instr.makeInterface, Sem.run_bind, run_underlying hu, Result.andThen_ok]
        cases d <;> first | (simp at hd; done) | rfl
      | _ => rw [hop] at hok; simp at hok })
/-- What is thrown. -/
abbrev PEr (e : Int) : List PanicEntry := [{ v := .iface 134 (Z e), recovered := false }]
theorem ask_t (e : Int) (w : World) : Calls Tryz.prog 107 #[.bool true, Z e] w fun r w' => r = .returned TU0 ∧ Below w.heap.size w w' := by
  refine inQ (J := Below w.heap.size w) (F := (· < w.heap.size)) Tryz.func107 (Below.refl _ _) fun a I => ?_
  refine goQ [uO .not (p := .bool true) (v := .bool false) (by intros; rfl)] (nonR w) I fun β a w1 I hb => ?_
  exact out0 I ⟨rfl, I.hJ⟩
theorem ask_f (e : Int) (w : World) : Calls Tryz.prog 107 #[.bool false, Z e] w fun r w' => r = .panicked (PEr e) ∧ Below w.heap.size w w' := by
  refine inQ (J := Below w.heap.size w) (F := (· < w.heap.size)) Tryz.func107 (Below.refl _ _) fun a I => ?_
  refine goQ [uO .not (p := .bool false) (v := .bool true) (by intros; rfl), mI 134 Tryz.underlying134 rfl (x := Z e)] (nonR w) I fun β a w1 I hb => ?_
  exact panQ I ⟨I.df, rfl, I.hJ⟩
theorem MC.below {g : Nat} {v dv : Value} {f : Fr} {w w' : World} (h : MC g v f dv w) (hb : Below w.heap.size w w') : MC g v f dv w' := h.moved (Grow.of_below hb) (owns_grow h.own (Grow.of_below (F := fun _ => True) hb) fun _ _ => trivial) (fun k hk => .inl hk) rfl
theorem MI.below {g : Nat} {v dv : Value} {f : Fr} {op : Nat} {pa : Int} {w w' : World} (h : MI g v f op pa dv w) (hb : Below w.heap.size w w') : MI g v f op pa dv w' := ⟨h.row.below hb, h.c.below hb⟩
def eqF {T : World → Prop} (n j : Nat) (h : n = j) : Fa Tryz.prog T := bO .eql 5 (run_eql8 (x := n) (y := j) (b := true) (decide_eq_true (by omega)))
def neF {T : World → Prop} (n j : Nat) (h : n ≠ j) : Fa Tryz.prog T := bO .eql 5 (run_eql8 (x := n) (y := j) (b := false) (decide_eq_false (by omega)))
section
variable {g : Nat} {v : Value} {f : Fr} {op : Nat} {pa : Int} {dv : Value} {w : World}
theorem ld_op : ∀ w', MI g v f op pa dv w' → (loadVar 5 ⟨g, 0 + 9, none⟩).run Tryz.prog w' = .ok (b8 op) w' := fun w' h => run_lv h.row (by kernel_rfl)
theorem ld_pc : ∀ w', MI g v f op pa dv w' → (loadVar 3 ⟨g, 0 + 0 + 4, none⟩).run Tryz.prog w' = .ok (Z f.pc) w' := fun w' h => run_lv h.row (by kernel_rfl)
theorem ld_code : ∀ w', MI g v f op pa dv w' → (loadVar 9 ⟨g, 0 + 0 + 0, none⟩).run Tryz.prog w' = .ok (str f.code) w' := fun w' h => run_lv h.row (by kernel_rfl)
theorem ld_mem : ∀ w', MI g v f op pa dv w' → (loadVar 9 ⟨g, 0 + 0 + 3, none⟩).run Tryz.prog w' = .ok (str f.mem) w' := fun w' h => run_lv h.row (by kernel_rfl)
theorem ld_st : ∀ w', MI g v f op pa dv w' → (loadVar 61 ⟨g, 0 + 0 + 2, none⟩).run Tryz.prog w' = .ok v w' := fun w' h => run_lv h.row (by kernel_rfl)
theorem next_any (h : MI g v f op pa dv w) (h0 : 0 ≤ f.pc) (hc : f.code.length ≤ 1000000) : Calls Tryz.prog 105 #[ptr0 g] w fun e w' => e = .returned (b8 (opF f)) ∧ Below w.heap.size w w' := by
  obtain ⟨p, hp⟩ : ∃ p : Nat, f.pc = p := ⟨f.pc.toNat, (Int.toNat_of_nonneg h0).symm⟩
  have hT : ∀ w', Below w.heap.size w w' → MI g v f op pa dv w' := fun w' hb => h.below hb
  have hpc := ld_pc (g := g) (v := v) (f := f) (op := op) (pa := pa) (dv := dv)
  have hcd := ld_code (g := g) (v := v) (f := f) (op := op) (pa := pa) (dv := dv)
  rw [hp] at hpc
  have ho : opF f = match f.code[p]? with | some b => b.toNat | none => 0 := by unfold opF; rw [if_neg (by omega), hp, Int.toNat_natCast]; rfl
  rw [ho]
  refine inQ (J := Below w.heap.size w) (F := (· < w.heap.size)) Tryz.func105 (Below.refl _ _) fun a I => ?_
  refine goT (T := MI g v f op pa dv) [ldA 3 hpc, bO .lss 3 (run_lssZ (x := p) (y := 0) (b := false) (decide_eq_false (by omega)))] (nonR w) hT I fun β1 a1 w1 I1 hb1 => ?_
  rcases Nat.lt_or_ge p f.code.length with hl | hl
  · obtain ⟨b, hb⟩ : ∃ b, f.code[p]? = some b := ⟨_, List.getElem?_eq_getElem hl⟩
    rw [hb]
    refine dwT (T := MI g v f op pa dv) 13 [ldA 3 hpc, ldA 9 hcd, lnO f.code, bO .geq 3 (run_geqZ (x := p) (y := f.code.length) (b := false) (decide_eq_false (by omega)))] (nonR w) hT PanOk.post I1 fun a2 w2 I2 => ?_
    refine goQ [] (nonR w) I2 fun β3 a3 w3 I3 hb3 => ?_
    refine dwT (T := MI g v f op pa dv) 12 [ldA 9 hcd, ldA 3 hpc, iO 9 (p := str f.code) (i := Z p) (v := b8 b.toNat) (idx_run hb)] (nonR w) hT PanOk.post I3 fun a4 w4 I4 => ?_
    refine goQ [] (nonR w) I4 fun β5 a5 w5 I5 hb5 => ?_
    exact outQ (v := b8 b.toNat) I5 ⟨rfl, I5.hJ⟩
  · rw [List.getElem?_eq_none hl]
    refine dwT (T := MI g v f op pa dv) 13 [ldA 3 hpc, ldA 9 hcd, lnO f.code, bO .geq 3 (run_geqZ (x := p) (y := f.code.length) (b := true) (decide_eq_true (by omega)))] (nonR w) hT PanOk.post I1 fun a2 w2 I2 => ?_
    refine goQ [] (nonR w) I2 fun β3 a3 w3 I3 hb3 => ?_
    exact outQ (v := b8 0) I3 ⟨rfl, I3.hJ⟩
theorem opP_bd {n : Nat} (h : n < 256) : (opP n).2.1 ≤ 20 ∧ (opP n).2.2.1 ≤ 20 ∧ (opP n).2.2.2 ≤ 100 := by
  have : ∀ k : Fin 256, (opP k.val).2.1 ≤ 20 ∧ (opP k.val).2.2.1 ≤ 20 ∧ (opP k.val).2.2.2 ≤ 100 := by decide +kernel
  exact this ⟨n, h⟩
theorem stk_any (h : MI g v f op pa dv w) (ho : op < 256) (hl : f.st.length ≤ 1000) : Calls Tryz.prog 108 #[ptr0 g] w fun e w' => e = (if f.st.length < (opP op).2.1 ∨ 256 < f.st.length - (opP op).2.1 + (opP op).2.2.1 then .panicked (PEr 19) else .returned TU0) ∧ Below w.heap.size w w' := by
  obtain ⟨ad, cap, rfl⟩ := owns_slice h.c.own
  have hT : ∀ w', Below w.heap.size w w' → MI g (.slice ad f.st.length cap) f op pa dv w' := fun w' hb => h.below hb
  have hop := ld_op (g := g) (v := .slice ad f.st.length cap) (f := f) (op := op) (pa := pa) (dv := dv)
  have hst := ld_st (g := g) (v := .slice ad f.st.length cap) (f := f) (op := op) (pa := pa) (dv := dv)
  have htk := fun w' (h : MI g (.slice ad f.st.length cap) f op pa dv w') => takes_any h.c.tb op ho
  obtain ⟨b1, b2, _⟩ := opP_bd ho
  generalize (opP op).2.1 = t at *
  generalize (opP op).2.2.1 = l at *
  generalize f.st.length = n at *
  refine inQ (J := Below w.heap.size w) (F := (· < w.heap.size)) Tryz.func108 (Below.refl _ _) fun a I => ?_
  refine goT (T := MI g (.slice ad n cap) f op pa dv) [ldA 5 hop, cA Tryz.func140 htk, ldA 61 hst, lS Tryz.underlying61 (ad := ad) (n := n) (cap := cap) (z := n) rfl, bO .sub 3 (run_subZ (x := n) (y := t) (z := (n : Int) - t) (by rw [wzf (by omega) (by omega)]))] (nonR w) hT I fun β1 a1 w1 I1 hb1 => ?_
  by_cases h1 : n < t
  · rw [if_pos (.inl h1)]
    refine goQ [bO .geq 3 (run_geqZ (x := (n : Int) - t) (y := 0) (b := false) (decide_eq_false (by omega)))] (nonR w) I1 fun β2 a2 w2 I2 hb2 => ?_
    exact throwX [Sum.inl (.bool false), Sum.inl (Z 19)] Tryz.func107 I2 (Below w2.heap.size w2) (ask_f 19 w2) fun w3 h3 => ⟨I2.df, rfl, I2.hJ.trans (h3.mono I2.hJ.size)⟩
  by_cases h2 : 256 < n - t + l
  · rw [if_pos (.inr h2)]
    refine goQ [bO .geq 3 (run_geqZ (x := (n : Int) - t) (y := 0) (b := true) (decide_eq_true (by omega))), bO .add 3 (run_addZ (x := (n : Int) - t) (y := l) (z := (n : Int) - t + l) (by rw [wzf (by omega) (by omega)])), bO .leq 3 (run_leqZ (x := (n : Int) - t + l) (y := 256) (b := false) (decide_eq_false (by omega)))] (nonR w) I1 fun β2 a2 w2 I2 hb2 => ?_
    exact throwX [Sum.inl (.bool false), Sum.inl (Z 19)] Tryz.func107 I2 (Below w2.heap.size w2) (ask_f 19 w2) fun w3 h3 => ⟨I2.df, rfl, I2.hJ.trans (h3.mono I2.hJ.size)⟩
  · rw [if_neg (by omega)]
    refine goQ [bO .geq 3 (run_geqZ (x := (n : Int) - t) (y := 0) (b := true) (decide_eq_true (by omega))), bO .add 3 (run_addZ (x := (n : Int) - t) (y := l) (z := (n : Int) - t + l) (by rw [wzf (by omega) (by omega)])), bO .leq 3 (run_leqZ (x := (n : Int) - t + l) (y := 256) (b := true) (decide_eq_true (by omega))), kC Tryz.func107 (ask_t 19)] (nonR w) I1 fun β2 a2 w2 I2 hb2 => ?_
    exact out0 I2 ⟨rfl, I2.hJ⟩
/-- How many numbers an operation that looks at memory, or costs more, takes. -/
theorem tk_of {n k : Nat} (h : n = 32 ∧ k = 2 ∨ n = 243 ∧ k = 2 ∨ n = 253 ∧ k = 2 ∨ n = 55 ∧ k = 3 ∨ n = 57 ∧ k = 3 ∨ n = 81 ∧ k = 1 ∨ n = 82 ∧ k = 2 ∨ n = 83 ∧ k = 2 ∨ n = 10 ∧ k = 2 ∨ n = 86 ∧ k = 1 ∨ n = 87 ∧ k = 2) : (opP n).2.1 = k := by
  rcases h with ⟨rfl, rfl⟩ | ⟨rfl, rfl⟩ | ⟨rfl, rfl⟩ | ⟨rfl, rfl⟩ | ⟨rfl, rfl⟩ | ⟨rfl, rfl⟩ | ⟨rfl, rfl⟩ | ⟨rfl, rfl⟩ | ⟨rfl, rfl⟩ | ⟨rfl, rfl⟩ | ⟨rfl, rfl⟩ <;> decide +kernel
theorem reach_any (h : MI g v f op pa dv w) (ho : op < 256) (hl : f.st.length ≤ 1000) (ht : (opP op).2.1 ≤ f.st.length) : Calls Tryz.prog 141 #[ptr0 g] w fun e w' => e = .returned (.tuple #[U (reaV op f.st).1, U (reaV op f.st).2]) ∧ Below w.heap.size w w' := by
  have hT : ∀ w', Below w.heap.size w w' → MI g v f op pa dv w' := fun w' hb => h.below hb
  have hop := ld_op (g := g) (v := v) (f := f) (op := op) (pa := pa) (dv := dv)
  have htop : ∀ k, k < f.st.length → ∀ w', MI g v f op pa dv w' → Calls Tryz.prog 114 #[ptr0 g, Z k] w' fun e w'' => e = .returned (U (tp f.st k)) ∧ Below w'.heap.size w' w'' := fun k hk w' h => mtop_any h k hk hl
  refine inQ (J := Below w.heap.size w) (F := (· < w.heap.size)) Tryz.func141 (Below.refl _ _) fun a I => ?_
  unfold reaV
  by_cases h1 : op = 32
  · rw [if_pos (by omega)]
    have hk := tk_of (n := op) (k := 2) (by omega)
    have h0 := htop 0 (by omega)
    have h2 := htop 1 (by omega)
    simp only []
    generalize tp f.st 0 = x at *
    generalize tp f.st 1 = y at *
    unfold U at *
    generalize l0 x = x0 at *
    generalize l1 x = x1 at *
    generalize l2 x = x2 at *
    generalize l3 x = x3 at *
    generalize l0 y = y0 at *
    generalize l1 y = y1 at *
    generalize l2 y = y2 at *
    generalize l3 y = y3 at *
    refine goT (T := MI g v f op pa dv) [ldA 5 hop, eqF op 32 h1, cA Tryz.func114 h0, cA Tryz.func114 h2] (nonR w) hT I fun β1 a1 w1 I1 hb1 => ?_
    exact outQ (v := .tuple #[U4 x0 x1 x2 x3, U4 y0 y1 y2 y3]) I1 ⟨rfl, I1.hJ⟩
  by_cases h1 : op = 243
  · rw [if_pos (by omega)]
    have hk := tk_of (n := op) (k := 2) (by omega)
    have h0 := htop 0 (by omega)
    have h2 := htop 1 (by omega)
    simp only []
    generalize tp f.st 0 = x at *
    generalize tp f.st 1 = y at *
    unfold U at *
    generalize l0 x = x0 at *
    generalize l1 x = x1 at *
    generalize l2 x = x2 at *
    generalize l3 x = x3 at *
    generalize l0 y = y0 at *
    generalize l1 y = y1 at *
    generalize l2 y = y2 at *
    generalize l3 y = y3 at *
    refine goT (T := MI g v f op pa dv) [ldA 5 hop, neF op 32 (by omega), eqF op 243 h1, cA Tryz.func114 h0, cA Tryz.func114 h2] (nonR w) hT I fun β1 a1 w1 I1 hb1 => ?_
    exact outQ (v := .tuple #[U4 x0 x1 x2 x3, U4 y0 y1 y2 y3]) I1 ⟨rfl, I1.hJ⟩
  by_cases h1 : op = 253
  · rw [if_pos (by omega)]
    have hk := tk_of (n := op) (k := 2) (by omega)
    have h0 := htop 0 (by omega)
    have h2 := htop 1 (by omega)
    simp only []
    generalize tp f.st 0 = x at *
    generalize tp f.st 1 = y at *
    unfold U at *
    generalize l0 x = x0 at *
    generalize l1 x = x1 at *
    generalize l2 x = x2 at *
    generalize l3 x = x3 at *
    generalize l0 y = y0 at *
    generalize l1 y = y1 at *
    generalize l2 y = y2 at *
    generalize l3 y = y3 at *
    refine goT (T := MI g v f op pa dv) [ldA 5 hop, neF op 32 (by omega), neF op 243 (by omega), eqF op 253 h1, cA Tryz.func114 h0, cA Tryz.func114 h2] (nonR w) hT I fun β1 a1 w1 I1 hb1 => ?_
    exact outQ (v := .tuple #[U4 x0 x1 x2 x3, U4 y0 y1 y2 y3]) I1 ⟨rfl, I1.hJ⟩
  by_cases h1 : op = 55
  · rw [if_neg (by omega), if_pos (by omega)]
    have hk := tk_of (n := op) (k := 3) (by omega)
    have h0 := htop 0 (by omega)
    have h2 := htop 2 (by omega)
    simp only []
    generalize tp f.st 0 = x at *
    generalize tp f.st 2 = y at *
    unfold U at *
    generalize l0 x = x0 at *
    generalize l1 x = x1 at *
    generalize l2 x = x2 at *
    generalize l3 x = x3 at *
    generalize l0 y = y0 at *
    generalize l1 y = y1 at *
    generalize l2 y = y2 at *
    generalize l3 y = y3 at *
    refine goT (T := MI g v f op pa dv) [ldA 5 hop, neF op 32 (by omega), neF op 243 (by omega), neF op 253 (by omega), eqF op 55 h1, cA Tryz.func114 h0, cA Tryz.func114 h2] (nonR w) hT I fun β1 a1 w1 I1 hb1 => ?_
    exact outQ (v := .tuple #[U4 x0 x1 x2 x3, U4 y0 y1 y2 y3]) I1 ⟨rfl, I1.hJ⟩
  by_cases h1 : op = 57
  · rw [if_neg (by omega), if_pos (by omega)]
    have hk := tk_of (n := op) (k := 3) (by omega)
    have h0 := htop 0 (by omega)
    have h2 := htop 2 (by omega)
    simp only []
    generalize tp f.st 0 = x at *
    generalize tp f.st 2 = y at *
    unfold U at *
    generalize l0 x = x0 at *
    generalize l1 x = x1 at *
    generalize l2 x = x2 at *
    generalize l3 x = x3 at *
    generalize l0 y = y0 at *
    generalize l1 y = y1 at *
    generalize l2 y = y2 at *
    generalize l3 y = y3 at *
    refine goT (T := MI g v f op pa dv) [ldA 5 hop, neF op 32 (by omega), neF op 243 (by omega), neF op 253 (by omega), neF op 55 (by omega), eqF op 57 h1, cA Tryz.func114 h0, cA Tryz.func114 h2] (nonR w) hT I fun β1 a1 w1 I1 hb1 => ?_
    exact outQ (v := .tuple #[U4 x0 x1 x2 x3, U4 y0 y1 y2 y3]) I1 ⟨rfl, I1.hJ⟩
  by_cases h1 : op = 81
  · rw [if_neg (by omega), if_neg (by omega), if_pos (by omega)]
    have hk := tk_of (n := op) (k := 1) (by omega)
    have h0 := htop 0 (by omega)
    have h2 := ofV_any 32
    simp only []
    generalize tp f.st 0 = x at *
    unfold U at *
    generalize l0 x = x0 at *
    generalize l1 x = x1 at *
    generalize l2 x = x2 at *
    generalize l3 x = x3 at *
    refine goT (T := MI g v f op pa dv) [ldA 5 hop, neF op 32 (by omega), neF op 243 (by omega), neF op 253 (by omega), neF op 55 (by omega), neF op 57 (by omega), eqF op 81 h1, cA Tryz.func114 h0, kC Tryz.func48 h2] (nonR w) hT I fun β1 a1 w1 I1 hb1 => ?_
    exact outQ (v := .tuple #[U4 x0 x1 x2 x3, U4 32 0 0 0]) I1 ⟨congrArg (fun z => Ending.returned (.tuple #[U4 x0 x1 x2 x3, z])) (by kernel_rfl), I1.hJ⟩
  by_cases h1 : op = 82
  · rw [if_neg (by omega), if_neg (by omega), if_pos (by omega)]
    have hk := tk_of (n := op) (k := 2) (by omega)
    have h0 := htop 0 (by omega)
    have h2 := ofV_any 32
    simp only []
    generalize tp f.st 0 = x at *
    unfold U at *
    generalize l0 x = x0 at *
    generalize l1 x = x1 at *
    generalize l2 x = x2 at *
    generalize l3 x = x3 at *
    refine goT (T := MI g v f op pa dv) [ldA 5 hop, neF op 32 (by omega), neF op 243 (by omega), neF op 253 (by omega), neF op 55 (by omega), neF op 57 (by omega), neF op 81 (by omega), eqF op 82 h1, cA Tryz.func114 h0, kC Tryz.func48 h2] (nonR w) hT I fun β1 a1 w1 I1 hb1 => ?_
    exact outQ (v := .tuple #[U4 x0 x1 x2 x3, U4 32 0 0 0]) I1 ⟨congrArg (fun z => Ending.returned (.tuple #[U4 x0 x1 x2 x3, z])) (by kernel_rfl), I1.hJ⟩
  by_cases h1 : op = 83
  · rw [if_neg (by omega), if_neg (by omega), if_neg (by omega), if_pos (by omega)]
    have hk := tk_of (n := op) (k := 2) (by omega)
    have h0 := htop 0 (by omega)
    have h2 := ofV_any 1
    simp only []
    generalize tp f.st 0 = x at *
    unfold U at *
    generalize l0 x = x0 at *
    generalize l1 x = x1 at *
    generalize l2 x = x2 at *
    generalize l3 x = x3 at *
    refine goT (T := MI g v f op pa dv) [ldA 5 hop, neF op 32 (by omega), neF op 243 (by omega), neF op 253 (by omega), neF op 55 (by omega), neF op 57 (by omega), neF op 81 (by omega), neF op 82 (by omega), eqF op 83 h1, cA Tryz.func114 h0, kC Tryz.func48 h2] (nonR w) hT I fun β1 a1 w1 I1 hb1 => ?_
    exact outQ (v := .tuple #[U4 x0 x1 x2 x3, U4 1 0 0 0]) I1 ⟨congrArg (fun z => Ending.returned (.tuple #[U4 x0 x1 x2 x3, z])) (by kernel_rfl), I1.hJ⟩
  rw [if_neg (by omega), if_neg (by omega), if_neg (by omega), if_neg (by omega)]
  refine goT (T := MI g v f op pa dv) [ldA 5 hop, neF op 32 (by omega), neF op 243 (by omega), neF op 253 (by omega), neF op 55 (by omega), neF op 57 (by omega), neF op 81 (by omega), neF op 82 (by omega), neF op 83 (by omega), dO 45 [] bd45_0, dO 45 [] bd45_0] (nonR w) hT I fun β1 a1 w1 I1 hb1 => ?_
  exact outQ (v := .tuple #[U4 0 0 0 0, U4 0 0 0 0]) I1 ⟨by rw [← U0], I1.hJ⟩
theorem grV_er (m : List UInt8) (a n : Nat) : (growV m a n).2.2 = 0 ∨ (growV m a n).2.2 = 3 := by
  unfold growV
  split
  · exact .inl rfl
  · split
    · exact .inr rfl
    · exact .inl rfl
theorem tp_lt {s : List Nat} (h : ∀ u ∈ s, u < W) (k : Nat) : tp s k < W := by
  unfold tp
  rw [List.getD_eq_getElem?_getD]
  cases hq : s[k]? with
  | none => exact Nat.lt_of_lt_of_le Nat.zero_lt_one (by decide)
  | some u => exact h u (List.mem_of_getElem? hq)
theorem reaV_lt {s : List Nat} (h : ∀ u ∈ s, u < W) (op : Nat) : (reaV op s).1 < W ∧ (reaV op s).2 < W := by
  have hW : 100 < W := by decide
  unfold reaV
  repeat' split
  all_goals first | exact ⟨tp_lt h _, tp_lt h _⟩ | exact ⟨tp_lt h _, by simp only []; omega⟩ | exact ⟨by simp only []; omega, by simp only []; omega⟩
theorem mgrow_any (h : MI g v f op pa dv w) (ho : op < 256) (hl : f.st.length ≤ 1000) (ht : (opP op).2.1 ≤ f.st.length) (hn : ∀ u ∈ f.st, u < W) (hm : f.mem.length ≤ 900000) : Calls Tryz.prog 109 #[ptr0 g] w fun e w' => e = (if (growV f.mem (reaV op f.st).1 (reaV op f.st).2).2.2 ≠ 0 then .panicked (PEr 3) else .returned (.tuple #[str (growV f.mem (reaV op f.st).1 (reaV op f.st).2).1, Z (growV f.mem (reaV op f.st).1 (reaV op f.st).2).2.1])) ∧ Below w.heap.size w w' := by
  have hT : ∀ w', Below w.heap.size w w' → MI g v f op pa dv w' := fun w' hb => h.below hb
  have hme := ld_mem (g := g) (v := v) (f := f) (op := op) (pa := pa) (dv := dv)
  have hre := fun w' (h : MI g v f op pa dv w') => reach_any h ho hl ht
  have hlt := reaV_lt hn op
  generalize (reaV op f.st).1 = x at *
  generalize (reaV op f.st).2 = y at *
  have hgr := grow_any f.mem hm x y hlt.1 hlt.2
  have her := grV_er f.mem x y
  generalize (growV f.mem x y).1 = m1 at *
  generalize (growV f.mem x y).2.1 = m2 at *
  generalize (growV f.mem x y).2.2 = m3 at *
  unfold U at *
  generalize l0 x = x0 at *
  generalize l1 x = x1 at *
  generalize l2 x = x2 at *
  generalize l3 x = x3 at *
  generalize l0 y = y0 at *
  generalize l1 y = y1 at *
  generalize l2 y = y2 at *
  generalize l3 y = y3 at *
  refine inQ (J := Below w.heap.size w) (F := (· < w.heap.size)) Tryz.func109 (Below.refl _ _) fun a I => ?_
  refine goT (T := MI g v f op pa dv) [cA Tryz.func141 hre] (nonR w) hT I fun β1 a1 w1 I1 hb1 => ?_
  refine dwT (T := MI g v f op pa dv) 15 [ldA 9 hme, kC Tryz.func142 hgr] (nonR w) hT PanOk.post I1 fun a2 w2 I2 => ?_
  by_cases h3 : m3 ≠ 0
  · rw [if_pos h3]
    obtain rfl : m3 = 3 := her.resolve_left h3
    refine goQ [bO .eql 33 (p := Z 3) (q := Z 0) (v := .bool false) (by intros; simp [go_sem])] (nonR w) I2 fun β3 a3 w3 I3 hb3 => ?_
    exact throwX [Sum.inl (.bool false), Sum.inl (Z 3)] Tryz.func107 I3 (Below w3.heap.size w3) (ask_f 3 w3) fun w4 h4 => ⟨I3.df, rfl, I3.hJ.trans (h4.mono I3.hJ.size)⟩
  · rw [if_neg h3]
    obtain rfl : m3 = 0 := Decidable.not_not.1 h3
    refine goQ [bO .eql 33 (p := Z 0) (q := Z 0) (v := .bool true) (by intros; simp [go_sem]), kC Tryz.func107 (ask_t 0)] (nonR w) I2 fun β3 a3 w3 I3 hb3 => ?_
    exact outQ (v := .tuple #[str m1, Z m2]) I3 ⟨rfl, I3.hJ⟩
theorem bytesOf_any (n : Nat) (hn : n < W) (w : World) : Calls Tryz.prog 144 #[U n] w fun e w' => e = .returned (Z ((bitsN n + 7) / 8 : Nat)) ∧ Below w.heap.size w w' := by
  have hb := bits_any n
  have hle := bitsN_le n 256 hn
  generalize bitsN n = m at *
  unfold U at *
  generalize l0 n = n0 at *
  generalize l1 n = n1 at *
  generalize l2 n = n2 at *
  generalize l3 n = n3 at *
  refine inQ (J := Below w.heap.size w) (F := (· < w.heap.size)) Tryz.func144 (Below.refl _ _) fun a I => ?_
  refine goQ [kC Tryz.func214 hb, bO .add 3 (run_addZ (x := m) (y := 7) (z := (m + 7 : Nat)) (by rw [wzf (by omega) (by omega)]; omega)), bO .quo 3 (run_quoM (x := (m + 7 : Nat)) (y := 8) (z := ((m + 7) / 8 : Nat)) (by decide) (by rw [Int.tdiv_eq_ediv_of_nonneg (by omega), wzf (by omega) (by omega)]; omega))] (nonR w) I fun β1 a1 w1 I1 hb1 => ?_
  exact outQ (v := Z ((m + 7) / 8 : Nat)) I1 ⟨rfl, I1.hJ⟩
theorem extra_any (h : MI g v f op pa dv w) (ho : op < 256) (hl : f.st.length ≤ 1000) (ht : (opP op).2.1 ≤ f.st.length) (hn : ∀ u ∈ f.st, u < W) (hm1 : op = 32 → tp f.st 1 ≤ 65536) (hm2 : op = 55 ∨ op = 57 → tp f.st 2 ≤ 65536) : Calls Tryz.prog 111 #[ptr0 g] w fun e w' => e = .returned (Z (extV op f.st)) ∧ Below w.heap.size w w' := by
  have hT : ∀ w', Below w.heap.size w w' → MI g v f op pa dv w' := fun w' hb => h.below hb
  have hop := ld_op (g := g) (v := v) (f := f) (op := op) (pa := pa) (dv := dv)
  have htop : ∀ k, k < f.st.length → ∀ w', MI g v f op pa dv w' → Calls Tryz.prog 114 #[ptr0 g, Z k] w' fun e w'' => e = .returned (U (tp f.st k)) ∧ Below w'.heap.size w' w'' := fun k hk w' h => mtop_any h k hk hl
  refine inQ (J := Below w.heap.size w) (F := (· < w.heap.size)) Tryz.func111 (Below.refl _ _) fun a I => ?_
  unfold extV
  by_cases h1 : op = 10
  · rw [if_pos h1]
    have hk := tk_of (n := op) (k := 2) (by omega)
    have h0 := htop 1 (by omega)
    have hx1 := tp_lt hn 1
    generalize tp f.st 1 = x at *
    have hby := bytesOf_any x hx1
    have hle := bitsN_le x 256 hx1
    generalize bitsN x = m at *
    unfold U at *
    generalize l0 x = x0 at *
    generalize l1 x = x1 at *
    generalize l2 x = x2 at *
    generalize l3 x = x3 at *
    refine goT (T := MI g v f op pa dv) [ldA 5 hop, eqF op 10 h1, cA Tryz.func114 h0, kC Tryz.func144 hby, bO .mul 3 (run_mulZ (x := 50) (y := ((m + 7) / 8 : Nat)) (z := 50 * ((m + 7) / 8 : Nat)) (by rw [wzf (by omega) (by omega)]))] (nonR w) hT I fun β1 a1 w1 I1 hb1 => ?_
    exact outQ (v := Z (50 * ((m + 7) / 8 : Nat))) I1 ⟨rfl, I1.hJ⟩
  by_cases h1 : op = 32
  · rw [if_neg (by omega), if_pos h1]
    have hk := tk_of (n := op) (k := 2) (by omega)
    have h0 := htop 1 (by omega)
    have hle := hm1 h1
    generalize tp f.st 1 = x at *
    have hsm := small_any x (by omega)
    have hwd := words_any (x : Int) (by omega) (by omega)
    have hwb := wds_bd (n := (x : Int)) (by omega) (by omega)
    generalize wds (x : Int) = q at *
    unfold U at *
    generalize l0 x = x0 at *
    generalize l1 x = x1 at *
    generalize l2 x = x2 at *
    generalize l3 x = x3 at *
    refine goT (T := MI g v f op pa dv) [ldA 5 hop, neF op 10 (by omega), eqF op 32 h1, cA Tryz.func114 h0, kC Tryz.func146 hsm, kC Tryz.func145 hwd, bO .mul 3 (run_mulZ (x := 6) (y := q) (z := 6 * q) (by rw [wzf (by omega) (by omega)]))] (nonR w) hT I fun β1 a1 w1 I1 hb1 => ?_
    exact outQ (v := Z (6 * q)) I1 ⟨rfl, I1.hJ⟩
  by_cases h1 : op = 55
  · rw [if_neg (by omega), if_neg (by omega), if_pos (.inl h1)]
    have hk := tk_of (n := op) (k := 3) (by omega)
    have h0 := htop 2 (by omega)
    have hle := hm2 (.inl h1)
    generalize tp f.st 2 = x at *
    have hsm := small_any x (by omega)
    have hwd := words_any (x : Int) (by omega) (by omega)
    have hwb := wds_bd (n := (x : Int)) (by omega) (by omega)
    generalize wds (x : Int) = q at *
    unfold U at *
    generalize l0 x = x0 at *
    generalize l1 x = x1 at *
    generalize l2 x = x2 at *
    generalize l3 x = x3 at *
    refine goT (T := MI g v f op pa dv) [ldA 5 hop, neF op 10 (by omega), neF op 32 (by omega), eqF op 55 h1, cA Tryz.func114 h0, kC Tryz.func146 hsm, kC Tryz.func145 hwd, bO .mul 3 (run_mulZ (x := 3) (y := q) (z := 3 * q) (by rw [wzf (by omega) (by omega)]))] (nonR w) hT I fun β1 a1 w1 I1 hb1 => ?_
    exact outQ (v := Z (3 * q)) I1 ⟨rfl, I1.hJ⟩
  by_cases h1 : op = 57
  · rw [if_neg (by omega), if_neg (by omega), if_pos (.inr h1)]
    have hk := tk_of (n := op) (k := 3) (by omega)
    have h0 := htop 2 (by omega)
    have hle := hm2 (.inr h1)
    generalize tp f.st 2 = x at *
    have hsm := small_any x (by omega)
    have hwd := words_any (x : Int) (by omega) (by omega)
    have hwb := wds_bd (n := (x : Int)) (by omega) (by omega)
    generalize wds (x : Int) = q at *
    unfold U at *
    generalize l0 x = x0 at *
    generalize l1 x = x1 at *
    generalize l2 x = x2 at *
    generalize l3 x = x3 at *
    refine goT (T := MI g v f op pa dv) [ldA 5 hop, neF op 10 (by omega), neF op 32 (by omega), neF op 55 (by omega), eqF op 57 h1, cA Tryz.func114 h0, kC Tryz.func146 hsm, kC Tryz.func145 hwd, bO .mul 3 (run_mulZ (x := 3) (y := q) (z := 3 * q) (by rw [wzf (by omega) (by omega)]))] (nonR w) hT I fun β1 a1 w1 I1 hb1 => ?_
    exact outQ (v := Z (3 * q)) I1 ⟨rfl, I1.hJ⟩
  rw [if_neg (by omega), if_neg (by omega), if_neg (by omega)]
  refine goT (T := MI g v f op pa dv) [ldA 5 hop, neF op 10 (by omega), neF op 32 (by omega), neF op 55 (by omega), neF op 57 (by omega)] (nonR w) hT I fun β1 a1 w1 I1 hb1 => ?_
  exact outQ (v := Z 0) I1 ⟨rfl, I1.hJ⟩
theorem jumps_any (h : MI g v f op pa dv w) (ho : op < 256) (hl : f.st.length ≤ 1000) (ht : (opP op).2.1 ≤ f.st.length) (hn : ∀ u ∈ f.st, u < W) : Calls Tryz.prog 112 #[ptr0 g] w fun e w' => e = .returned (.bool (jmpV op f.st)) ∧ Below w.heap.size w w' := by
  have hT : ∀ w', Below w.heap.size w w' → MI g v f op pa dv w' := fun w' hb => h.below hb
  have hop := ld_op (g := g) (v := v) (f := f) (op := op) (pa := pa) (dv := dv)
  have htop : ∀ k, k < f.st.length → ∀ w', MI g v f op pa dv w' → Calls Tryz.prog 114 #[ptr0 g, Z k] w' fun e w'' => e = .returned (U (tp f.st k)) ∧ Below w'.heap.size w' w'' := fun k hk w' h => mtop_any h k hk hl
  refine inQ (J := Below w.heap.size w) (F := (· < w.heap.size)) Tryz.func112 (Below.refl _ _) fun a I => ?_
  unfold jmpV
  by_cases h1 : op = 86
  · rw [decide_eq_true h1, Bool.true_or]
    refine goT (T := MI g v f op pa dv) [ldA 5 hop, eqF op 86 h1] (nonR w) hT I fun β1 a1 w1 I1 hb1 => ?_
    exact outQ (v := .bool true) I1 ⟨rfl, I1.hJ⟩
  rw [decide_eq_false h1, Bool.false_or]
  by_cases h2 : op = 87
  · rw [decide_eq_true h2, Bool.true_and]
    have hk := tk_of (n := op) (k := 2) (by omega)
    have h0 := htop 1 (by omega)
    have hlt := tp_lt hn 1
    generalize tp f.st 1 = x at *
    obtain ⟨q, hq⟩ : ∃ q, decide (x ≠ 0) = q := ⟨_, rfl⟩
    have hne := neqU_run hlt (show 0 < W by decide) hq
    rw [hq]
    rw [U0] at hne
    unfold U at *
    generalize l0 x = x0 at *
    generalize l1 x = x1 at *
    generalize l2 x = x2 at *
    generalize l3 x = x3 at *
    refine goT (T := MI g v f op pa dv) [ldA 5 hop, neF op 86 h1, ldA 5 hop, eqF op 87 h2, cA Tryz.func114 h0, dO 45 [] bd45_0, bO .neq 45 hne] (nonR w) hT I fun β1 a1 w1 I1 hb1 => ?_
    exact outQ (v := .bool q) I1 ⟨rfl, I1.hJ⟩
  · rw [decide_eq_false h2, Bool.false_and]
    refine goT (T := MI g v f op pa dv) [ldA 5 hop, neF op 86 h1, ldA 5 hop, neF op 87 h2] (nonR w) hT I fun β1 a1 w1 I1 hb1 => ?_
    exact outQ (v := .bool false) I1 ⟨rfl, I1.hJ⟩
end
end Go.Proofs.YthkpgfbjdabflaaGreatDoor
namespace Go.Proofs.YthkpgfbjdabflaaGreatDoor
open Go.RowKit Go.Sort
set_option linter.unusedVariables false
set_option maxRecDepth 100000
structure OkR (f : Fr) : Prop extends OkF f where
  pc2 : f.sd = 0 → f.pc ≤ f.code.length + 32
theorem opF_lt (f : Fr) : opF f < 256 := by
  unfold opF
  split
  · decide
  · split
    · exact UInt8.toNat_lt _
    · decide
theorem dst_lt {c : List UInt8} {n : Nat} (h : dstV c n = true) : n < c.length := by
  unfold dstV at h
  rw [List.getD_eq_getElem?_getD] at h
  rcases Nat.lt_or_ge n c.length with h1 | h1
  · exact h1
  · rw [List.getElem?_eq_none (by rw [dsN_len]; exact h1)] at h
    cases h
theorem lim_mono {a b : Int} (h : a ≤ b) : lim a ≤ lim b := by
  unfold lim
  repeat' split
  all_goals omega
theorem cst_mono {a b : Int} (h : a ≤ b) : cst a ≤ cst b := by
  have h1 := lim_mono h
  have h2 := lim_bd a
  have h3 := Int.mul_le_mul h1 h1 h2.1 (Int.le_trans h2.1 h1)
  unfold cst
  generalize lim a * lim a = x at *
  generalize lim b * lim b = y at *
  omega
theorem wds_mono {a b : Int} (h : a ≤ b) : wds a ≤ wds b := by unfold wds; split <;> split <;> omega
theorem grow_cost (m : List UInt8) (a n : Nat) : 0 ≤ (growV m a n).2.1 ∧ (growV m a n).2.1 ≤ 8585216 := by
  unfold growV
  split
  · exact ⟨Int.le_refl 0, show (0 : Int) ≤ 8585216 by decide⟩
  · split
    · exact ⟨Int.le_refl 0, show (0 : Int) ≤ 8585216 by decide⟩
    · simp only []
      have h1 := cst_bd (wds ((fil m (32 * (wds ((a + n : Nat) : Int)).toNat)).length : Int))
      have h2 := cst_bd (wds (m.length : Int))
      have h3 : cst (wds (m.length : Int)) ≤ cst (wds ((fil m (32 * (wds ((a + n : Nat) : Int)).toNat)).length : Int)) := cst_mono (wds_mono (by rw [fil_len]; omega))
      omega
theorem grow_ok {m : List UInt8} {a n : Nat} (h : (growV m a n).2.2 = 0) : n = 0 ∨ a + n ≤ 4096 := by
  unfold growV at h
  split at h
  · next h1 => exact .inl h1
  · split at h
    · cases h
    · next h1 h2 => exact .inr (by omega)
theorem grow_len {m : List UInt8} {a n : Nat} (h : m.length ≤ 4096) (h3 : m.length % 32 = 0) : (growV m a n).1.length ≤ 4096 ∧ (growV m a n).1.length % 32 = 0 ∧ m.length ≤ (growV m a n).1.length := by
  unfold growV
  split
  · exact ⟨h, h3, Nat.le_refl _⟩
  · split
    · exact ⟨h, h3, Nat.le_refl _⟩
    · next h1 h2 =>
      simp only []
      rw [fil_len]
      have := wds_bd (n := ((a + n : Nat) : Int)) (by omega) (by omega)
      obtain ⟨k, hk⟩ : ∃ k : Nat, wds ((a + n : Nat) : Int) = k := ⟨_, (Int.toNat_of_nonneg this.1).symm⟩
      rw [hk] at this ⊢
      rw [Int.toNat_natCast]
      have e : max m.length (32 * k) = m.length ∨ max m.length (32 * k) = 32 * k := by omega
      refine ⟨by omega, ?_, by omega⟩
      rcases e with e | e <;> rw [e] <;> omega
theorem wds_in {n : Nat} (h : n ≤ 65536) : 0 ≤ wds (n : Int) ∧ wds (n : Int) ≤ 2048 := by unfold wds; split <;> omega
theorem ext_bd {op : Nat} {s : List Nat} (hn : ∀ u ∈ s, u < W) (h1 : op = 32 → tp s 1 ≤ 65536) (h2 : op = 55 ∨ op = 57 → tp s 2 ≤ 65536) : 0 ≤ extV op s ∧ extV op s ≤ 100000 := by
  unfold extV
  by_cases q1 : op = 10
  · rw [if_pos q1]
    have := bitsN_le (tp s 1) 256 (tp_lt hn 1)
    omega
  rw [if_neg q1]
  by_cases q2 : op = 32
  · rw [if_pos q2]
    have := wds_in (h1 q2)
    omega
  rw [if_neg q2]
  by_cases q3 : op = 55 ∨ op = 57
  · rw [if_pos q3]
    have := wds_in (h2 q3)
    omega
  · rw [if_neg q3]
    omega
/-- What is known where nothing is wrong. -/
structure Fine (f : Fr) : Prop where
  op : isOp (opF f) = true
  tk : (opP (opF f)).2.1 ≤ f.st.length
  ly : f.st.length - (opP (opF f)).2.1 + (opP (opF f)).2.2.1 ≤ 256
  gr : (growV f.mem (reaV (opF f) f.st).1 (reaV (opF f) f.st).2).2.2 = 0
  gas : gasV (opF f) f ≤ f.gas
  jp : jmpV (opF f) f.st = true → dstV f.code (tp f.st 0) = true
theorem fine_of {f : Fr} (h : errV f = 0) : Fine f := by
  unfold errV at h
  split at h
  · cases h
  next h1 =>
  split at h
  · cases h
  next h2 =>
  split at h
  · cases h
  next h3 =>
  split at h
  · cases h
  next h4 =>
  split at h
  · cases h
  next h5 =>
  refine ⟨by simpa using h1, by omega, by omega, Decidable.not_not.1 h3, by omega, fun hj => ?_⟩
  cases hd : dstV f.code (tp f.st 0) with
  | true => rfl
  | false => exact absurd ⟨hj, hd⟩ h5
section
variable {f : Fr}
theorem small1 (hg : (growV f.mem (reaV (opF f) f.st).1 (reaV (opF f) f.st).2).2.2 = 0) (h : opF f = 32 ∨ opF f = 243 ∨ opF f = 253) : tp f.st 1 ≤ 4096 := by
  have h1 := grow_ok hg
  unfold reaV at h1
  rw [if_pos h] at h1
  simp only [] at h1
  omega
theorem small2 (hg : (growV f.mem (reaV (opF f) f.st).1 (reaV (opF f) f.st).2).2.2 = 0) (h : opF f = 55 ∨ opF f = 57) : tp f.st 2 ≤ 4096 ∧ (tp f.st 2 ≠ 0 → tp f.st 0 ≤ 4096) := by
  have h1 := grow_ok hg
  unfold reaV at h1
  rw [if_neg (by omega), if_pos h] at h1
  simp only [] at h1
  omega
theorem small3 (hg : (growV f.mem (reaV (opF f) f.st).1 (reaV (opF f) f.st).2).2.2 = 0) (h : opF f = 82 ∨ opF f = 83) : tp f.st 0 ≤ 4096 := by
  have h1 := grow_ok hg
  unfold reaV at h1
  rw [if_neg (by omega), if_neg (by omega)] at h1
  rcases h with h | h
  · rw [if_pos (.inr h)] at h1
    simp only [] at h1
    omega
  · rw [if_neg (by omega), if_pos h] at h1
    simp only [] at h1
    omega
theorem gas_bd (hO : OkF f) (hg : (growV f.mem (reaV (opF f) f.st).1 (reaV (opF f) f.st).2).2.2 = 0) : 0 ≤ gasV (opF f) f := by
  have h1 := ext_bd (op := opF f) hO.num (fun h => Nat.le_trans (small1 hg (.inl h)) (by decide)) (fun h => Nat.le_trans (small2 hg h).1 (by decide))
  have h2 := grow_cost f.mem (reaV (opF f) f.st).1 (reaV (opF f) f.st).2
  unfold gasV
  omega
theorem rdy_of (hO : OkR f) (h : Fine f) : Rdy (opF f) (paid f) := by
  have hl := grow_len (a := (reaV (opF f) f.st).1) (n := (reaV (opF f) f.st).2) hO.mem hO.m32
  have hg0 := gas_bd hO.toOkF h.gr
  have hg1 := hO.gas1
  have hp0 := hO.pc0
  have hp1 := hO.pc1
  have hc := hO.code
  have hgg := h.gas
  have hj := h.jp
  refine ⟨hO.code, hO.inp, hO.st, hO.num, Nat.le_trans hl.1 (by decide), ?_, ?_, ?_, ?_, h.tk, fun q => Nat.le_trans (small1 (f := f) h.gr q) (by decide), fun q => ⟨Nat.le_trans (small2 (f := f) h.gr q).1 (by decide), fun q2 => Nat.le_trans ((small2 (f := f) h.gr q).2 q2) (by decide)⟩, fun q => ?_, fun q q2 => ?_⟩
  · show (1 : Int) ≤ f.pc + 1
    omega
  · show f.pc + 1 ≤ (1000000 : Int)
    omega
  · show (0 : Int) ≤ f.gas - gasV (opF f) f
    omega
  · show f.gas - gasV (opF f) f ≤ (100000 : Int)
    omega
  · show tp f.st 0 ≤ 1000000
    rcases q with q | q | q
    · exact Nat.le_trans (small3 h.gr (.inl q)) (by decide)
    · exact Nat.le_trans (small3 h.gr (.inr q)) (by decide)
    · have := dst_lt (hj (by unfold jmpV; simp [q]))
      omega
  · show tp f.st 0 ≤ 1000000
    have q2 : tp f.st 1 ≠ 0 := q2
    have := dst_lt (hj (by unfold jmpV; simp [q, q2]))
    omega
end
end Go.Proofs.YthkpgfbjdabflaaGreatDoor
namespace Go.Proofs.YthkpgfbjdabflaaGreatDoor
open Go.RowKit Go.Sort
set_option linter.unusedVariables false
set_option maxRecDepth 100000
set_option maxHeartbeats 4000000
section
variable {P : Program} {J J' : World → Prop} {F F' : Nat → Prop} {ds : List Deferred} {β : Nat → Nat} {c : Cf} {a : Act} {w : World} {Q : Exit → Act → World → Prop} {g : Nat} {r : Array Value}
/-- A walk that goes on with the first argument's block as row 0. -/
theorem adopt0 (I : SI J F ds β c a w) (hJ : J' w) (hr : HasRow w g r) (hF : ¬ F' g)
    (k : SI J' F' ds (fun _ => g) { c with tm := c.tm.set 0 (some (Sum.inr (0, 0))), rows := [(0, r)], nx := 1 } a w → At P Q { c with tm := c.tm.set 0 (some (Sum.inr (0, 0))), rows := [(0, r)], nx := 1 } a w)
    (hfr : c.tm.map (upO β) = (c.tm.set 0 (some (Sum.inr (0, 0)))).map (upO fun _ => g) := by kernel_rfl) (hids : idsB (c.tm.set 0 (some (Sum.inr (0, 0)))) 1 = true := by kernel_rfl) : At P Q c a w := by
  refine at_code (k ⟨?_, I.df, hJ, ?_, ?_, ?_, ?_, hids⟩) rfl
  · rw [I.fr, hfr]
  · intro p hp; simp only [List.mem_singleton] at hp; subst hp; exact hr
  · intro p hp; simp only [List.mem_singleton] at hp; subst hp; exact hF
  · intro p hp; simp only [List.mem_singleton] at hp; subst hp; exact Nat.one_pos
  · intro p hp q hq hpq; simp only [List.mem_singleton] at hp hq; subst hp; subst hq; exact absurd rfl hpq
end
section
variable {wE : World} {g : Nat} {v0 dv0 v dv : Value} {f : Fr} {op : Nat} {pa : Int} {w : World} {ds : List Deferred} {β : Nat → Nat} {c : Cf} {a : Act} {Q : Exit → Act → World → Prop}
/-- A method that only looks, and throws. -/
theorem tcallM {fn : Nat} {F : Func} {xs : List Value} {ch : List PanicEntry} (hf : Tryz.prog.funcs[fn]? = some F) (I : SI (MS wE g v0 dv0 v f dv) (MF wE g v dv) ds β c a w) (hb : β 0 = g) (hm : MI g v f op pa dv w → Calls Tryz.prog fn (ptr0 g :: xs).toArray w fun e w' => e = .panicked ch ∧ Below w.heap.size w w')
    (k : ∀ w', MP g v0 dv0 wE v f op pa dv w' → Q (.panic ch) a w')
    (hc : callX c = some (fn, Sum.inr (0, 0) :: xs.map Sum.inl) := by kernel_rfl) (hid : rowOf c.rows 0 = some (mrow f v op pa dv) := by kernel_rfl) (hbd : F.body.isNone = false := by kernel_rfl) (hn : (F.name == "runtime.NumGoroutine") = false := by kernel_rfl) : At Tryz.prog Q c a w := by
  refine mcallX (Sum.inr (0, 0) :: xs.map Sum.inl) hf I ?_ hc hbd hn
  have e : ((Sum.inr (0, 0) :: xs.map Sum.inl).map (up β)) = ptr0 g :: xs := by
    simp only [List.map_cons, List.map_map, up, List.cons.injEq, hb]
    exact ⟨trivial, List.map_id _⟩
  rw [e]
  have hmi := I.mi hb hid
  refine (hm hmi).mono fun e w1 he => ?_
  obtain ⟨rfl, hb1⟩ := he
  exact k w1 ⟨hmi.row.below hb1, I.hJ.drew hb1⟩
/-- A call that throws beside a machine. -/
theorem tcallA (e : Int) (I : SI (MS wE g v0 dv0 v f dv) (MF wE g v dv) ds β c a w) (hb : β 0 = g) (k : ∀ w', MP g v0 dv0 wE v f op pa dv w' → Q (.panic (PEr e)) a w')
    (hc : callX c = some (107, [Sum.inl (.bool false), Sum.inl (Z e)]) := by kernel_rfl) (hid : rowOf c.rows 0 = some (mrow f v op pa dv) := by kernel_rfl) : At Tryz.prog Q c a w := by
  have hmi := I.mi hb hid
  exact throwX [Sum.inl (.bool false), Sum.inl (Z e)] Tryz.func107 I (Below w.heap.size w) (ask_f e w) (fun w1 hb1 => k w1 ⟨hmi.row.below hb1, I.hJ.drew hb1⟩) hc
end
/-- What a step leaves. -/
def StepP (g : Nat) (v dv : Value) (w : World) (f : Fr) (e : Ending) (w' : World) : Prop := ∃ v' dv', (errV f = 0 ∧ e = .returned TU0 ∧ MP g v dv w v' (nexV f) (opF f) f.pc dv' w') ∨ (errV f ≠ 0 ∧ e = .panicked (PEr (errV f)) ∧ MP g v dv w v' f (opF f) f.pc dv' w')
end Go.Proofs.YthkpgfbjdabflaaGreatDoor
