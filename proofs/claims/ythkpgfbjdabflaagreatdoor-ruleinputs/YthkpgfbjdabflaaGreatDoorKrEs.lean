/- Laid one behind the other: Es, Et. -/
import Derived.Test.YthkpgfbjdabflaaGreatDoorKrVl
import Derived.Test.YthkpgfbjdabflaaGreatDoorKrEh
namespace Go.Proofs.YthkpgfbjdabflaaGreatDoor
open Go.RowKit Go.Sort
set_option linter.unusedVariables false
set_option maxRecDepth 100000
set_option maxHeartbeats 4000000
def okO (op : Nat) : Bool := op == 0 || op == 82 || op == 95 || op == 96 || op == 243
theorem okO_in {op : Nat} (h : okO op = true) : op = 0 ∨ op = 82 ∨ op = 95 ∨ op = 96 ∨ op = 243 := by
  unfold okO at h
  simp only [Bool.or_eq_true, beq_iff_eq] at h
  omega
theorem okO_op {op : Nat} (h : okO op = true) : isOp op = true := by
  rcases okO_in h with rfl | rfl | rfl | rfl | rfl <;> decide
theorem okO_jmp {op : Nat} (h : okO op = true) {s : List Nat} : jmpV op s = false := by
  rcases okO_in h with rfl | rfl | rfl | rfl | rfl <;> rfl
theorem oper_few {op : Nat} (h : okO op = true) (w : World) : Calls Tryz.prog 106 #[b8 op] w fun e w' => e = .returned (fnV (mF op)) ∧ Below w.heap.size w w' := by
  rcases okO_in h with rfl | rfl | rfl | rfl | rfl
  · exact (opX 131 0 165 Tryz.func131 (tbX 131 0 165 Tryz.func131)) w
  · exact (opX 134 82 199 Tryz.func134 (tbX 134 82 199 Tryz.func134)) w
  · exact ope_r0 95 (by decide) (by decide) w
  · exact ope_r0 96 (by decide) (by decide) w
  · exact ope_243 w
theorem do_few {g : Nat} {f : Fr} {op : Nat} {pa : Int} (ho : okO op = true) (h : Rdy op f) (hpa : pa = f.pc - 1) : ∃ F : Func, Tryz.prog.funcs[mF op]? = some F ∧ F.body.isNone = false ∧ (F.name == "runtime.NumGoroutine") = false ∧ Mth (mF op) g [] f op pa TU0 (doV op f) op pa := by
  rcases okO_in ho with rfl | rfl | rfl | rfl | rfl
  · exact dA Tryz.func165 (do_0 h hpa)
  · exact dA Tryz.func199 (do_82 h hpa)
  · exact dA Tryz.func135 (do_r0 (by decide) (by decide) h)
  · exact dA Tryz.func135 (do_r0 (by decide) (by decide) h)
  · exact dA Tryz.func138 (do_243 h hpa)
theorem runN_succ : ∀ (j : Nat) (f : Fr), (runN j f).sd = 0 → runN (j + 1) f = stepV (runN j f)
  | 0, f, h => by rw [runN_step (show f.sd = 0 from h)]; rfl
  | j + 1, f, h => by
    have hf : f.sd = 0 := by
      cases Decidable.em (f.sd = 0) with
      | inl h => exact h
      | inr h2 => rw [runN_end h2] at h; exact h
    rw [runN_step hf, runN_step hf] at *
    exact runN_succ j (stepV f) h
theorem step_few {g : Nat} {f : Fr} {v dv : Value} {w : World} {op0 : Nat} {pa0 : Int} (hO : OkR f) (hkO : okO (opF f) = true) (h : MI g v f op0 pa0 dv w) : Calls Tryz.prog 78 #[ptr0 g] w (StepP g v dv w f) := by
  have hnx := fun w' (h' : MI g v f op0 pa0 dv w') => next_any h' hO.pc0 (Nat.le_trans hO.code (by decide))
  have hpc := ld_pc (g := g) (v := v) (f := f) (op := op0) (pa := pa0) (dv := dv)
  have hT : ∀ w', Below w.heap.size w w' → MI g v f op0 pa0 dv w' := fun w' hb => h.below hb
  have hop := opF_lt f
  have hgl := h.c.lt
  obtain ⟨op, hopE⟩ : ∃ op, opF f = op := ⟨_, rfl⟩
  have hsd : StepP g v dv w f = fun e w' => ∃ v' dv', (errV f = 0 ∧ e = .returned TU0 ∧ MP g v dv w v' (nexV f) op f.pc dv' w') ∨ (errV f ≠ 0 ∧ e = .panicked (PEr (errV f)) ∧ MP g v dv w v' f op f.pc dv' w') := by unfold StepP; rw [hopE]
  rw [hsd]
  rw [hopE] at hnx hop hkO
  refine inQ (J := Below w.heap.size w) (F := (· < w.heap.size)) Tryz.func78 (Below.refl _ _) fun Az I => ?_
  refine goQ [] (nonR w) I fun βz Ay wz Iz hbz => ?_
  refine dwT (T := MI g v f op0 pa0 dv) 9 [cA Tryz.func105 hnx, ldA 3 hpc] (nonR w) hT PanOk.post Iz fun A0 w0 I0 => ?_
  refine goQ [] (nonR w) I0 fun β1 A1 w1 I1 hb1 => ?_
  have hr1 := (hT w1 I1.hJ).row
  have hs1 := run_svA (P := Tryz.prog) 5 (off := 0 + 9) (v := b8 op) hr1 (by kernel_rfl) (Nat.le_of_ble_eq_true rfl) (by kernel_rfl)
  have e1 : over (mrow f v op0 pa0 dv) (0 + 9) (b8 op).cells = mrow f v op pa0 dv := by kernel_rfl
  rw [e1] at hs1
  refine stoQ (ad := ⟨g, 0 + 9, none⟩) (v := b8 op) I1 hs1 ?_
  have RR : ∀ r, Rsrc (fun w' : World => HasRow w' g r ∧ Grow (fun k => k ≠ g) w w') (fun k => k < w.heap.size) := fun r => ⟨fun x y hx gr => ⟨by
      obtain ⟨t, ht⟩ := hx.1
      exact ⟨t, (gr.block g (HasRow.lt ⟨t, ht⟩) hgl).trans ht⟩, ⟨gr.os.trans hx.2.os, gr.tape.trans hx.2.tape, gr.output.trans hx.2.output, Nat.le_trans hx.2.size gr.size, fun k hk hn => (gr.block k (Nat.lt_of_lt_of_le hk hx.2.size) hk).trans (hx.2.block k hk hn)⟩⟩, fun x k hx hk => Nat.lt_of_lt_of_le hk hx.2.size⟩
  have sg : ∀ (x : World) (r : Array Value), Grow (fun k => k ≠ g) x (x.setRow g r) := fun x r => grow_setRow _ _ _ (fun h => h rfl)
  have I2 : SI (fun w' : World => HasRow w' g (mrow f v op pa0 dv) ∧ Grow (fun k => k ≠ g) w w') (fun k => k < w.heap.size) [] β1 _ _ (w1.setRow g (mrow f v op pa0 dv)) := I1.sto ⟨(sg _ _).os, (sg _ _).tape, (sg _ _).output, (sg _ _).size, fun k hk hn => (sg _ _).block k hk fun e => hn (e ▸ hgl)⟩ ⟨hr1.set_same _, Grow.trans (Grow.of_below I1.hJ) (sg _ _)⟩ (fun _ _ h => h)
  refine goQ [] (RR _) I2 fun β3 A3 w3 I3 hb3 => ?_
  have hr3 := I3.hJ.1
  have hs3 := run_svA (P := Tryz.prog) 3 (off := 0 + 10) (v := Z f.pc) hr3 (by kernel_rfl) (Nat.le_of_ble_eq_true rfl) (by kernel_rfl)
  have e3 : over (mrow f v op pa0 dv) (0 + 10) (Z f.pc).cells = mrow f v op f.pc dv := by kernel_rfl
  rw [e3] at hs3
  refine stoQ (ad := ⟨g, 0 + 10, none⟩) (v := Z f.pc) I3 hs3 ?_
  have I4 : SI (fun w' : World => HasRow w' g (mrow f v op f.pc dv) ∧ Grow (fun k => k ≠ g) w w') (fun k => k < w.heap.size) [] β3 _ _ (w3.setRow g (mrow f v op f.pc dv)) := I3.sto ⟨(sg _ _).os, (sg _ _).tape, (sg _ _).output, (sg _ _).size, fun k hk hn => (sg _ _).block k hk fun e => hn (e ▸ hgl)⟩ ⟨hr3.set_same _, Grow.trans I3.hJ.2 (sg _ _)⟩ (fun _ _ h => h)
  have hgg : GG g v w (w3.setRow g (mrow f v op f.pc dv)) := Grow.mono (I4.hJ.2) fun k hk => hk.1
  have hm4 : MS w g v dv v f dv (w3.setRow g (mrow f v op f.pc dv)) := ⟨h.c.moved hgg (owns_grow h.c.own I4.hJ.2 fun k hk e => by subst e; have := (h.c.own.lt k hk).1; omega) (fun k hk => .inl hk) rfl, hgl, hgg, fun k hk => .inl hk, fun k hk => .inl hk⟩
  refine adopt0 (J' := MS w g v dv v f dv) (F' := MF w g v dv) I4 hm4 I4.hJ.1 h.c.not fun I5 => ?_
  cases hio : isOp op with
  | false => exact absurd (okO_op hkO) (by rw [hio]; decide)
  | true =>
    have hos := oper_few hkO
    obtain ⟨fk, hfk⟩ : ∃ fk, mF op = fk := ⟨_, rfl⟩
    rw [hfk] at hos
    refine goQ [kC Tryz.func106 hos, bO .neq 137 (p := fnV fk) (q := .nilFunc) (v := .bool true) (by intros; kernel_rfl), kC Tryz.func107 (ask_t 21)] (MS.rs _ _ _ _ _ _ _) I5 fun β6 A6 w6 I6 hb6 => ?_
    have hz6 : β6 0 = g := agr hb6 0 rfl
    have hl : f.st.length ≤ 1000 := Nat.le_trans hO.st (by decide)
    have hstk := fun w' (h' : MI g v f op f.pc dv w') => stk_any h' hop hl
    by_cases hb : f.st.length < (opP op).2.1 ∨ 256 < f.st.length - (opP op).2.1 + (opP op).2.2.1
    · have her : errV f = 19 := by unfold errV; rw [hopE, if_neg (by simp [hio]), if_pos hb]
      rw [if_pos hb] at hstk
      exact tcallM (xs := []) (op := op) (pa := f.pc) Tryz.func108 I6 hz6 (hstk w6) fun w7 hp => ⟨I6.df, v, dv, .inr ⟨by rw [her]; decide, by rw [her], hp⟩⟩
    rw [if_neg hb] at hstk
    refine rcallM (xs := []) (op := op) (pa := f.pc) Tryz.func108 I6 hz6 (hstk w6) fun w7 I7 => ?_
    refine goQ [] (MS.rs _ _ _ _ _ _ _) I7 fun β8 A8 w8 I8 hb8 => ?_
    have hz8 : β8 0 = g := agr hb8 0 hz6
    have htk : (opP op).2.1 ≤ f.st.length := by omega
    have hgw := fun w' (h' : MI g v f op f.pc dv w') => mgrow_any h' hop hl htk hO.num (Nat.le_trans hO.mem (by decide))
    have hcost := grow_cost f.mem (reaV op f.st).1 (reaV op f.st).2
    have hpd : paid f = { f with gas := f.gas - gasV op f, mem := (growV f.mem (reaV op f.st).1 (reaV op f.st).2).1, pc := f.pc + 1 } := by unfold paid; rw [hopE]
    have hgd : gasV op f = ((opP op).2.2.2 : Nat) + extV op f.st + (growV f.mem (reaV op f.st).1 (reaV op f.st).2).2.1 := rfl
    by_cases h3 : (growV f.mem (reaV op f.st).1 (reaV op f.st).2).2.2 ≠ 0
    · have her : errV f = 3 := by unfold errV; rw [hopE, if_neg (by simp [hio]), if_neg hb, if_pos h3]
      rw [if_pos h3] at hgw
      exact tcallM (xs := []) (op := op) (pa := f.pc) Tryz.func109 I8 hz8 (hgw w8) fun w9 hp => ⟨I8.df, v, dv, .inr ⟨by rw [her]; decide, by rw [her], hp⟩⟩
    rw [if_neg h3] at hgw
    have h30 : (growV f.mem (reaV op f.st).1 (reaV op f.st).2).2.2 = 0 := Decidable.not_not.1 h3
    have hs1 : op = 32 → tp f.st 1 ≤ 65536 := fun q => Nat.le_trans (small1 (f := f) (by rw [hopE]; exact h30) (by rw [hopE]; exact .inl q)) (by decide)
    have hs2 : op = 55 ∨ op = 57 → tp f.st 2 ≤ 65536 := fun q => Nat.le_trans (small2 (f := f) (by rw [hopE]; exact h30) (by rw [hopE]; exact q)).1 (by decide)
    have hext := ext_bd (op := op) hO.num hs1 hs2
    have hex := fun w' (h' : MI g v f op f.pc dv w') => extra_any h' hop hl htk hO.num hs1 hs2
    have hga := fun w' (h' : Tb w') => gas_any h' op hop
    have hgb := (opP_bd hop).2.2
    have herr : errV f = if f.gas < gasV op f then 18 else if jmpV op f.st = true ∧ dstV f.code (tp f.st 0) = false then 20 else 0 := by unfold errV; rw [hopE, if_neg (by simp [hio]), if_neg hb, if_neg h3]
    have hfin : errV f = 0 → Fine f := fine_of
    generalize (growV f.mem (reaV op f.st).1 (reaV op f.st).2).1 = m1 at *
    generalize (growV f.mem (reaV op f.st).1 (reaV op f.st).2).2.1 = m2 at *
    generalize extV op f.st = xt at *
    generalize (opP op).2.2.2 = bg at *
    generalize gasV op f = gs at *
    refine rcallM (xs := []) (op := op) (pa := f.pc) Tryz.func109 I8 hz8 (hgw w8) fun w9 I9 => ?_
    refine goT (T := Tb) [cA Tryz.func110 hga] (MS.rs _ _ _ _ _ _ _) (fun _ h' => h'.c.tb) I9 fun β10 A10 w10 I10 hb10 => ?_
    have hz10 : β10 0 = g := agr hb10 0 hz8
    refine rcallM (xs := []) (op := op) (pa := f.pc) Tryz.func111 I10 hz10 (hex w10) fun w11 I11 => ?_
    by_cases hg : f.gas < gs
    · have her : errV f = 18 := by rw [herr, if_pos hg]
      refine goQ [bO .add 3 (run_addZ (x := bg) (y := xt) (z := (bg : Int) + xt) (by rw [wzf (by omega) (by omega)])), bO .add 3 (run_addZ (x := (bg : Int) + xt) (y := m2) (z := gs) (by rw [wzf (by omega) (by omega)]; exact hgd.symm)), bO .leq 3 (run_leqZ (x := gs) (y := f.gas) (b := false) (decide_eq_false (by omega)))] (MS.rs _ _ _ _ _ _ _) I11 fun β12 A12 w12 I12 hb12 => ?_
      refine tcallA (op := op) (pa := f.pc) 18 I12 (agr hb12 0 hz10) fun w13 hp => ⟨I12.df, v, dv, .inr ⟨by rw [her]; decide, by rw [her], hp⟩⟩
    rw [if_neg hg] at herr
    refine goQ [bO .add 3 (run_addZ (x := bg) (y := xt) (z := (bg : Int) + xt) (by rw [wzf (by omega) (by omega)])), bO .add 3 (run_addZ (x := (bg : Int) + xt) (y := m2) (z := gs) (by rw [wzf (by omega) (by omega)]; exact hgd.symm)), bO .leq 3 (run_leqZ (x := gs) (y := f.gas) (b := true) (decide_eq_true (by omega))), kC Tryz.func107 (ask_t 18)] (MS.rs _ _ _ _ _ _ _) I11 fun β12 A12 w12 I12 hb12 => ?_
    have hz12 : β12 0 = g := agr hb12 0 hz10
    have hjm := fun w' (h' : MI g v f op f.pc dv w') => jumps_any h' hop hl htk hO.num
    have hgas0 := hO.gas0
    have hgas1 := hO.gas1
    have hpc0 := hO.pc0
    have hpc1 := hO.pc1
    have hcode := hO.code
    have hnex : nexV f = doV op { f with gas := f.gas - gs, mem := m1, pc := f.pc + 1 } := by unfold nexV; rw [hopE, hpd]
    have hdo : errV f = 0 → ∃ Fn : Func, Tryz.prog.funcs[fk]? = some Fn ∧ Fn.body.isNone = false ∧ (Fn.name == "runtime.NumGoroutine") = false ∧ Mth fk g [] { f with gas := f.gas - gs, mem := m1, pc := f.pc + 1 } op f.pc TU0 (nexV f) op f.pc := fun he => by
      have hrd := rdy_of hO (hfin he)
      rw [hopE, hpd] at hrd
      have := do_few (g := g) (pa := f.pc) hkO hrd (by show f.pc = f.pc + 1 - 1; omega)
      rw [hfk, ← hnex] at this
      exact this
    cases hj : jmpV op f.st with
    | false =>
      have her : errV f = 0 := by rw [herr, hj, if_neg (by simp)]
      obtain ⟨Fn, hF1, hF2, hF3, hF4⟩ := hdo her
      rw [hj] at hjm
      refine rcallM (xs := []) (op := op) (pa := f.pc) Tryz.func112 I12 hz12 (hjm w12) fun w13 I13 => ?_
      refine goQ [uO .not (p := .bool false) (v := .bool true) (by intros; rfl), kC Tryz.func107 (ask_t 20), bO .sub 3 (run_subZ (x := f.gas) (y := gs) (z := f.gas - gs) (by rw [wzf (by omega) (by omega)])), bO .add 3 (run_addZ (x := f.pc) (y := 1) (z := f.pc + 1) (by rw [wzf (by omega) (by omega)]))] (MS.rs _ _ _ _ _ _ _) I13 fun β14 A14 w14 I14 hb14 => ?_
      have hz14 : β14 0 = g := agr hb14 0 hz12
      refine inY (I14.fr' { f with gas := f.gas - gs, mem := m1, pc := f.pc + 1 } rfl rfl) fun I15 => ?_
      refine goQ [] (MS.rs _ _ _ _ _ _ _) I15 fun β16 A16 w16 I16 hb16 => ?_
      have hz16 : β16 0 = g := agr hb16 0 hz14
      refine mcallM (xs := []) (op := op) (pa := f.pc) hF1 hF4 I16 hz16 (fun ad cap dv' w17 I17 => ?_) (by kernel_rfl) (by kernel_rfl) hF2 hF3
      refine goQ [] (MS.rs _ _ _ _ _ _ _) I17 fun β18 A18 w18 I18 hb18 => ?_
      exact out0 I18 ⟨_, _, .inl ⟨her, rfl, I18.mp (agr hb18 0 hz16)⟩⟩
    | true => exact absurd hj (by rw [okO_jmp hkO]; decide)
theorem loop_few {g : Nat} {v : Value} {f : Fr} {op : Nat} {pa : Int} {dv : Value} {w : World} (h : MI g v f op pa dv w) (n : Nat) (hS : ∀ j, (runN j f).sd = 0 → OkR (runN j f) ∧ okO (opF (runN j f)) = true) (hm : (runN n f).sd ≠ 0) : Calls Tryz.prog 77 #[ptr0 g] w (WorkP g v dv w (runN n f)) := by
  obtain ⟨ad, cap, rfl⟩ := owns_slice h.c.own
  refine inG (J := MS w g (.slice ad f.st.length cap) dv (.slice ad f.st.length cap) f dv) (F := MF w g (.slice ad f.st.length cap) dv) [] Tryz.func77 h.start h.row h.c.not fun Az I => ?_
  refine goQ [] (MS.rs _ _ _ _ _ _ _) I fun β0 A0 w0 I0 hb0 => ?_
  let St : Nat → Act → World → Prop := fun i a w' => ∃ (f1 : Fr) (ad1 : Option Addr) (cap1 : Nat) (dv1 : Value) (op1 : Nat) (pa1 : Int) (β : Nat → Nat) (u : Nat → Value), (∃ j, j ≤ n ∧ i = n - j ∧ f1 = runN j f) ∧ β 0 = g ∧
    SI (MS w g (.slice ad f.st.length cap) dv (.slice ad1 f1.st.length cap1) f1 dv1) (MF w g (.slice ad1 f1.st.length cap1) dv1) [] β
      (cfC (bodyL Tryz.f77) (fillF (scrF 6 [0]) u 0 (frm 6 [(0, Sum.inr (0, 0))])) [(0, mrow f1 (.slice ad1 f1.st.length cap1) op1 pa1 dv1)] 1) a w'
  refine lpM (bodyL Tryz.f77) St n ?_ ?_
  · obtain ⟨u, Iu⟩ := I0.scr (bodyL Tryz.f77) (scrF 6 [0]) (frm 6 [(0, Sum.inr (0, 0))]) [(0, mrow f (.slice ad f.st.length cap) op pa dv)] 1
    exact ⟨f, ad, cap, dv, op, pa, β0, u, ⟨0, Nat.zero_le _, rfl, rfl⟩, agr hb0 0 rfl, Iu⟩
  rintro i a3 w3 ⟨f1, ad1, cap1, dv1, op1, pa1, β3, u, ⟨j, hj, rfl, hfj⟩, hz3, I3⟩
  have hSj := hS j
  have hnx : f1.sd = 0 → runN (j + 1) f = stepV f1 := fun h => by rw [hfj] at h ⊢; exact runN_succ j f h
  have hjn : f1.sd = 0 → j < n := fun h => by
    rcases Nat.lt_or_ge j n with h2 | h2
    · exact h2
    · obtain rfl : j = n := by omega
      rw [hfj] at h
      exact absurd h hm
  have hrun0 : f1.sd ≠ 0 → f1 = runN n f := fun h => by
    rw [hfj] at h ⊢
    rw [show n = j + (n - j) by omega]
    exact (runN_more j (n - j) h).symm
  rw [← hfj] at hSj
  refine wp_cfC (tm := fillF (scrF 6 [0]) u 0 (frm 6 [(0, Sum.inr (0, 0))])) (rows := [(0, mrow f1 (.slice ad1 f1.st.length cap1) op1 pa1 dv1)]) (nx := 1) ?_
  by_cases hz : f1.sd = 0
  · obtain ⟨hO2, hk2⟩ := hSj hz
    have hnx := hnx hz
    have hjn := hjn hz
    refine goQ [bO .eql 3 (run_eqlZ (x := f1.sd) (y := 0) (b := true) (decide_eq_true hz))] (MS.rs _ _ _ _ _ _ _) I3 fun β4 A4 w4 I4 hb4 => ?_
    have hz4 : β4 0 = g := agr hb4 0 hz3
    have hmi := I4.mi (op := op1) (pa := pa1) hz4
    refine mcallX [Sum.inr (0, 0)] Tryz.func78 I4 ?_
    have ea : ([Sum.inr (0, 0)].map (up β4)).toArray = #[ptr0 g] := by rw [← hz4]; rfl
    rw [ea]
    refine (step_few hO2 hk2 hmi).mono fun e w5 he => ?_
    obtain ⟨v2, dv2, ⟨he0, rfl, hp⟩ | ⟨he0, rfl, hp⟩⟩ := he
    · obtain ⟨ad2, cap2, rfl⟩ := owns_slice hp.s.c.own
      rw [stepV_ok hz he0] at hnx
      generalize nexV f1 = f2 at *
      refine (at_row (id := 0) (r := mrow f2 (.slice ad2 f2.st.length cap2) (opF f1) f1.pc dv2)).1 ?_
      have I5 := I4.mth hz4 hp TU0 (r0 := mrow f1 (.slice ad1 f1.st.length cap1) op1 pa1 dv1) (by kernel_rfl)
      generalize opF f1 = op2 at *
      generalize f1.pc = pa2 at *
      refine goQ [] (MS.rs _ _ _ _ _ _ _) I5 fun β6 A6 w6 I6 hb6 => ?_
      obtain ⟨u', Iu⟩ := I6.scr (bodyL Tryz.f77) (scrF 6 [0]) (frm 6 [(0, Sum.inr (0, 0))]) [(0, mrow f2 (.slice ad2 f2.st.length cap2) op2 pa2 dv2)] 1
      exact endL ⟨n - (j + 1), by omega, f2, ad2, cap2, dv2, op2, pa2, β6, u', ⟨j + 1, hjn, rfl, hnx.symm⟩, agr hb6 0 hz4, Iu⟩
    · rw [stepV_bad hz he0] at hnx
      have hrun : wrgV f1 (errV f1) = runN n f := by
        rw [← hnx, show n = (j + 1) + (n - (j + 1)) by omega]
        exact (runN_more (j + 1) (n - (j + 1)) (by rw [hnx]; show (3 : Int) ≠ 0; decide)).symm
      exact panQ_ok ⟨I4.df, v2, dv2, f1, opF f1, f1.pc, ⟨hp.row, I4.hJ.trans hp.s⟩, .inr ⟨errV f1, rfl, hrun⟩⟩
  · refine goQ [bO .eql 3 (run_eqlZ (x := f1.sd) (y := 0) (b := false) (decide_eq_false hz))] (MS.rs _ _ _ _ _ _ _) I3 fun β4 A4 w4 I4 hb4 => ?_
    have hz4 : β4 0 = g := agr hb4 0 hz3
    have hrun := hrun0 hz
    refine endE 0 ?_
    refine goQ [] (MS.rs _ _ _ _ _ _ _) (I4.exit _) fun β5 A5 w5 I5 hb5 => ?_
    exact out0 I5 ⟨_, _, f1, op1, pa1, I5.mp (agr hb5 0 hz4), .inl ⟨rfl, hrun⟩⟩
/-- A machine that a face has made. -/
theorem run_few (c i : List UInt8) (n : Nat) (gas : Int) (hS : ∀ j, (runN j (beg c i gas)).sd = 0 → OkR (runN j (beg c i gas)) ∧ okO (opF (runN j (beg c i gas))) = true) (hm : (runN n (beg c i gas)).sd ≠ 0) (hlen : (runN n (beg c i gas)).st.length ≤ 1000) (w : World) (hb : Tb w) (hs : Tabs w ki) : Calls Tryz.prog 51 #[str c, str i, Z gas] w fun e w' => ∃ x, e = .returned x ∧ FrO w (runN n (beg c i gas)) x w' := by
  have h7 : 7 ≤ w.heap.size := by
    obtain ⟨t, fr, h⟩ := hs.p
    exact (Array.getElem?_eq_some_iff.1 h).1
  obtain ⟨m, hmx⟩ : ∃ m : Int, (if gas < 0 then (0 : Int) else gas) = m := ⟨_, rfl⟩
  obtain ⟨p, hp⟩ : ∃ p : Int, (if 100000 < m then (100000 : Int) else m) = p := ⟨_, rfl⟩
  have hcl : clampG gas = p := by unfold clampG; rw [hmx, hp]
  have hbg : beg c i gas = ⟨c, i, [], [], 0, p, 0, 0, []⟩ := by unfold beg; rw [hcl]
  rw [hbg] at hS hm hlen ⊢
  generalize hfE : runN n ⟨c, i, [], [], 0, p, 0, 0, []⟩ = fE at hlen ⊢
  refine inQ (J := Below w.heap.size w) (F := (· < w.heap.size)) Tryz.func51 (Below.refl _ _) fun Az I => ?_
  refine goQ [mxO (k := .i64) (x := gas) (y := 0) (z := m) hmx, mnO (x := m) (y := 100000) (z := p) hp, dO 63 [0, 1, 5] (bd63 c i p), dO 102 [0] (bd102 c i [] [] (.slice none 0 0) 0 p 0 0)] (nonR w) I fun β1 A1 w1 I1 hb1 => ?_
  refine mkfX (fn := .func 77) (ss := [Sum.inr (1, 0)]) I1 ?_
  refine goQ [] (nonR w) (I1.same (.func (.func 77) #[] #[ptr0 (β1 1)])) fun β2 A2 w2 I2 hb2 => ?_
  obtain ⟨g, hg⟩ : ∃ g, β1 1 = g := ⟨_, rfl⟩
  have hz2 : β2 1 = g := agr hb2 1 hg
  have hge : ¬ (β2 1 < w.heap.size) := I2.dis _ (rowOf_mem (show rowOf _ 1 = some (mrow ⟨c, i, [], [], 0, p, 0, 0, []⟩ (.slice none 0 0) 0 0 (.slice none 0 0)) by kernel_rfl))
  have hrow := I2.rowG 1 hz2 (r := mrow ⟨c, i, [], [], 0, p, 0, 0, []⟩ (.slice none 0 0) 0 0 (.slice none 0 0))
  rw [hz2] at hge
  have hmi : MI g (.slice none 0 0) ⟨c, i, [], [], 0, p, 0, 0, []⟩ 0 0 (.slice none 0 0) w2 := ⟨hrow, World.ownsRow_nil _ _ _ _, hb.below I2.hJ, hs.below I2.hJ, by omega, hrow.lt, .inl rfl⟩
  have hcat := catch_any hmi fE Tryz.func77 (by kernel_rfl) (by kernel_rfl) #[] #[ptr0 g] fun w3 hb3 hmi3 => by
    have := loop_few hmi3 n hS hm
    rw [hfE] at this
    exact this
  have I2' : SI (RJ w g (.slice none 0 0) ⟨c, i, [], [], 0, p, 0, 0, []⟩ (.slice none 0 0)) (RjF w (.slice none 0 0) (.slice none 0 0)) [] β2 _ A2 w2 := ⟨I2.fr, I2.df, ⟨I2.hJ, hmi.c, by omega⟩, I2.row, fun q hq h => I2.dis q hq (by
    rcases h with h | h | h
    · exact h
    · cases h
    · cases h), I2.lt, I2.inj, I2.ids⟩
  refine mcallX [Sum.inr (1, 0), Sum.inl (.func (.func 77) #[] #[ptr0 (β1 1)])] Tryz.func76 I2' ?_
  have ea : ([Sum.inr (1, 0), Sum.inl (.func (.func 77) #[] #[ptr0 (β1 1)])].map (up β2)).toArray = #[ptr0 g, .func (.func 77) #[] #[ptr0 g]] := by
    rw [hg]
    simp only [List.map_cons, List.map_nil, up]
    rw [hz2]
  rw [ea]
  refine hcat.mono fun e w3 he => ?_
  obtain ⟨rfl, v3, dv3, op3, pa3, hp3⟩ := he
  obtain ⟨ad3, cap3, rfl⟩ := owns_slice hp3.s.c.own
  refine (at_row (id := 1) (r := mrow fE (.slice ad3 fE.st.length cap3) op3 pa3 dv3)).1 ?_
  have I3 := I2'.rj hz2 hp3 TU0 (r0 := mrow ⟨c, i, [], [], 0, p, 0, 0, []⟩ (.slice none 0 0) 0 0 (.slice none 0 0)) (by kernel_rfl)
  refine goQ [] (RJ.rs w h7 _ _ _ _) I3 fun β4 A4 w4 I4 hb4 => ?_
  have hz4 : β4 1 = g := agr hb4 1 hz2
  have hmi4 : MI g (.slice ad3 fE.st.length cap3) fE op3 pa3 dv3 w4 := ⟨I4.rowG 1 hz4, I4.hJ.c⟩
  refine mcallX [Sum.inr (1, 0)] Tryz.func79 I4 ?_
  have eb : ([Sum.inr (1, 0)].map (up β4)).toArray = #[ptr0 g] := by rw [← hz4]; rfl
  rw [eb]
  refine (mtold_any hmi4 hlen).mono fun e w5 he => ?_
  obtain ⟨ad5, cap5, rfl, hp5⟩ := he
  refine (at_row (id := 1) (r := mrow fE (.slice ad5 fE.st.length cap5) op3 pa3 dv3)).1 ?_
  have I5 := I4.rj hz4 hp5 (frV fE (.slice ad5 fE.st.length cap5)) (r0 := mrow fE (.slice ad3 fE.st.length cap3) op3 pa3 dv3) (by kernel_rfl)
  refine goQ [] (RJ.rs w h7 _ _ _ _) I5 fun β6 A6 w6 I6 hb6 => ?_
  exact outQ (v := frV fE (.slice ad5 fE.st.length cap5)) I6 ⟨_, rfl, ad5, cap5, rfl, own_base I6.hJ.c.own (by omega), I6.hJ.bw⟩
end Go.Proofs.YthkpgfbjdabflaaGreatDoor
namespace Go.Proofs.YthkpgfbjdabflaaGreatDoor
open Go.RowKit Go.Sort
set_option linter.unusedVariables false
set_option maxRecDepth 100000
set_option maxHeartbeats 4000000
structure TT (w : World) : Prop where
  tb : Tb w
  ts : Tabs w ki
theorem TT.below {w w' : World} (h : TT w) (hb : Below w.heap.size w w') : TT w' := ⟨h.tb.below hb, h.ts.below hb⟩
theorem frame_ok {c i : List UInt8} {st : List Nat} {m : List UInt8} {pc gas : Int} (hc : c.length ≤ 65536) (hi : i.length ≤ 65536) (h : (decide (st.length ≤ 256) && st.all (fun u => decide (u < W)) && decide (m.length ≤ 4096) && decide (m.length % 32 = 0) && decide (0 ≤ pc) && decide (pc ≤ c.length) && decide (0 ≤ gas) && decide (gas ≤ 100000)) = true) : OkR ⟨c, i, st, m, pc, gas, 0, 0, []⟩ := by
  simp only [Bool.and_eq_true, decide_eq_true_eq, List.all_eq_true] at h
  obtain ⟨⟨⟨⟨⟨⟨⟨h1, h2⟩, h3⟩, h4⟩, h5⟩, h6⟩, h7⟩, h8⟩ := h
  exact ⟨⟨hc, hi, h1, h2, h3, h4, h5, by show pc ≤ (c.length : Int) + 33; omega, h7, h8⟩, fun _ => by show pc ≤ (c.length : Int) + 32; omega⟩
theorem runs_A0 (i : List UInt8) : runN 0 (beg exC i 20000) = ⟨exC, i, [], [], 0, 20000, 0, 0, []⟩ := by kernel_rfl
theorem runs_A1 (i : List UInt8) : runN 1 (beg exC i 20000) = ⟨exC, i, [1], [], 2, 19997, 0, 0, []⟩ := by kernel_rfl
theorem runs_A2 (i : List UInt8) : runN 2 (beg exC i 20000) = ⟨exC, i, [0, 1], [], 3, 19995, 0, 0, []⟩ := by kernel_rfl
theorem runs_A3 (i : List UInt8) : runN 3 (beg exC i 20000) = ⟨exC, i, [], wb 1, 4, 19989, 0, 0, []⟩ := by kernel_rfl
theorem runs_A4 (i : List UInt8) : runN 4 (beg exC i 20000) = ⟨exC, i, [32], wb 1, 6, 19986, 0, 0, []⟩ := by kernel_rfl
theorem runs_A5 (i : List UInt8) : runN 5 (beg exC i 20000) = ⟨exC, i, [0, 32], wb 1, 7, 19984, 0, 0, []⟩ := by kernel_rfl
theorem runs_A6 (i : List UInt8) : runN 6 (beg exC i 20000) = ⟨exC, i, [], wb 1, 8, 19984, 1, 0, wb 1⟩ := by kernel_rfl
theorem runs_B1 (i : List UInt8) : runN 1 (beg [] i 20000) = ⟨[], i, [], [], 1, 20000, 1, 0, []⟩ := by kernel_rfl
theorem one_ne : ¬ (1 : Int) = 0 := by decide
theorem al_1 (i : List UInt8) : alE ⟨exC, i, [], wb 1, 8, 19984, 1, 0, wb 1⟩ = 0 := by
  unfold alE
  rw [decide_eq_true (show (1 : Int) = 1 from rfl), decide_eq_true (show wb 1 = wb 1 from rfl)]
  rfl
theorem al_2 (i : List UInt8) : alE ⟨[], i, [], [], 1, 20000, 1, 0, []⟩ = 12 := by
  unfold alE
  rw [decide_eq_false (show ¬ ([] : List UInt8) = wb 1 by decide +kernel), Bool.and_false]
  rfl
theorem step_A (i : List UInt8) (hi : i.length ≤ 65536) (j : Nat) (hz : (runN j (beg exC i 20000)).sd = 0) : OkR (runN j (beg exC i 20000)) ∧ okO (opF (runN j (beg exC i 20000))) = true := by
  rcases Nat.lt_or_ge j 6 with h | h
  · have : j = 0 ∨ j = 1 ∨ j = 2 ∨ j = 3 ∨ j = 4 ∨ j = 5 := by omega
    rcases this with rfl | rfl | rfl | rfl | rfl | rfl
    · rw [runs_A0]; exact ⟨frame_ok (by decide) hi (by decide +kernel), by kernel_rfl⟩
    · rw [runs_A1]; exact ⟨frame_ok (by decide) hi (by decide +kernel), by kernel_rfl⟩
    · rw [runs_A2]; exact ⟨frame_ok (by decide) hi (by decide +kernel), by kernel_rfl⟩
    · rw [runs_A3]; exact ⟨frame_ok (by decide) hi (by decide +kernel), by kernel_rfl⟩
    · rw [runs_A4]; exact ⟨frame_ok (by decide) hi (by decide +kernel), by kernel_rfl⟩
    · rw [runs_A5]; exact ⟨frame_ok (by decide) hi (by decide +kernel), by kernel_rfl⟩
  · exfalso
    obtain ⟨k, rfl⟩ : ∃ k, j = 6 + k := ⟨j - 6, by omega⟩
    rw [runN_more 6 k (by rw [runs_A6]; exact one_ne), runs_A6] at hz
    exact absurd hz one_ne
theorem step_B (i : List UInt8) (hi : i.length ≤ 65536) (j : Nat) (hz : (runN j (beg [] i 20000)).sd = 0) : OkR (runN j (beg [] i 20000)) ∧ okO (opF (runN j (beg [] i 20000))) = true := by
  rcases Nat.lt_or_ge j 1 with h | h
  · obtain rfl : j = 0 := by omega
    rw [show runN 0 (beg [] i 20000) = ⟨[], i, [], [], 0, 20000, 0, 0, []⟩ by kernel_rfl]
    exact ⟨frame_ok (by decide) hi (by decide +kernel), by kernel_rfl⟩
  · exfalso
    obtain ⟨k, rfl⟩ : ∃ k, j = 1 + k := ⟨j - 1, by omega⟩
    rw [runN_more 1 k (by rw [runs_B1]; exact one_ne), runs_B1] at hz
    exact absurd hz one_ne
theorem run_A : RunA TT := fun i hi => by
  have h1 := step_A i hi
  have h6 := runs_A6 i
  have hr := run_few exC i 6 20000 h1
  rw [h6] at hr
  refine ⟨_, al_1 i, fun w' ht => (hr one_ne (Nat.zero_le _) w' ht.tb ht.ts).mono fun e w'' he => ?_⟩
  obtain ⟨x, rfl, ad, cap, rfl, _, hb⟩ := he
  exact ⟨ad, _, cap, rfl, hb⟩
theorem run_B : RunB TT := fun i hi => by
  have h1 := step_B i hi
  have h6 := runs_B1 i
  have hr := run_few [] i 1 20000 h1
  rw [h6] at hr
  refine ⟨_, al_2 i, fun w' ht => (hr one_ne (Nat.zero_le _) w' ht.tb ht.ts).mono fun e w'' he => ?_⟩
  obtain ⟨x, rfl, ad, cap, rfl, _, hb⟩ := he
  exact ⟨ad, _, cap, rfl, hb⟩
end Go.Proofs.YthkpgfbjdabflaaGreatDoor
