/- Out of Vs. -/
import Derived.Test.YtceedgdbhlpjlaaGreatDoorKfVr
import Derived.Test.YtceedgdbhlpjlaaGreatDoorKfUa
namespace Go.Proofs.YtceedgdbhlpjlaaGreatDoor
open Go.RowKit Go.Sort
set_option linter.unusedVariables false
set_option maxRecDepth 100000
set_option maxHeartbeats 4000000
theorem stepV_end {f : Fr} (h : f.sd ≠ 0) : stepV f = f := by unfold stepV; rw [if_pos h]
theorem runN_snoc : ∀ (n : Nat) (f : Fr), runN (n + 1) f = stepV (runN n f)
  | 0, f => by
    by_cases h : f.sd = 0
    · rw [runN_step h]; rfl
    · rw [runN_end h, runN_end h, stepV_end h]
  | n + 1, f => by
    by_cases h : f.sd = 0
    · rw [runN_step h, runN_step h]
      exact runN_snoc n (stepV f)
    · rw [runN_end h, runN_end h, stepV_end h]
theorem call_run {f : Nat} {fn : Func} {o : Oper} {xs : Array Operand} {ts : Array TypeId} {a : Act} (hop : o.op = .call ⟨.value (.func f), xs, ts⟩) (hf : Tryz.prog.funcs[f]? = some fn) (w : World) (hb : fn.body.isNone = false := by kernel_rfl) (hn : (fn.name == "runtime.NumGoroutine") = false := by kernel_rfl) : (execOp a.eval o).run Tryz.prog w = .ok (.enter f (xs.map a.eval)) w := by
  have h := fv_any (P := Tryz.prog) (a := a) hf hb hn (x := .func f) (cs := #[]) rfl xs ts o.type w
  rw [Array.append_empty] at h
  unfold execOp
  simp only [hop]
  exact h
abbrev frC (f : Fr) (v : Value) : Array Value := #[str f.code, str f.inp, v, str f.mem, Z f.pc, Z f.gas, Z f.sd, Z f.er, str f.out]
theorem folds_walk (c i : List UInt8) (n : Nat) (hn : n < 65536) (w : World) (h : TT w) : Calls Tryz.prog 7 #[str c, str i, h16 n] w fun e w' => e = .returned (.bool true) ∧ Below w.heap.size w w' := by
  have haw := fun w' (h' : TT w') => awake_any w' h'
  have hT : ∀ w', Below w.heap.size w w' → TT w' := fun w' hb => h.below hb
  refine inQ (J := Below w.heap.size w) (F := (· < w.heap.size)) Tryz.func7 (Below.refl _ _) fun Az I => ?_
  by_cases h1 : 1000 < c.length
  · refine goT (T := TT) [lnO c, bO .gtr 3 (run_gtrZ (x := c.length) (y := 1000) (b := true) (decide_eq_true (by omega))), cA Tryz.func9 haw] (nonR w) hT I fun β1 A1 w1 I1 hb1 => ?_
    exact outQ (v := .bool true) I1 ⟨rfl, I1.hJ⟩
  by_cases h2 : 1000 < i.length
  · refine goT (T := TT) [lnO c, bO .gtr 3 (run_gtrZ (x := c.length) (y := 1000) (b := false) (decide_eq_false (by omega))), lnO i, bO .gtr 3 (run_gtrZ (x := i.length) (y := 1000) (b := true) (decide_eq_true (by omega))), cA Tryz.func9 haw] (nonR w) hT I fun β1 A1 w1 I1 hb1 => ?_
    exact outQ (v := .bool true) I1 ⟨rfl, I1.hJ⟩
  have hcn := cnv16 n hn
  have hrn : ((n : Int)).tmod 1000 = ((n % 1000 : Nat) : Int) := rem_nat (m := 1000) (by decide)
  obtain ⟨z, hz⟩ : ∃ z, n % 1000 = z := ⟨_, rfl⟩
  have hzl : z < 1000 := by omega
  rw [hz] at hrn
  have hal0 := beg_alg (c := c) (i := i) (by omega) (by omega) (z : Int)
  have hcl : clampG z = z := clampG_in (by omega) (by omega)
  have hbeg : beg c i z = ⟨c, i, [], [], 0, z, 0, 0, []⟩ := by unfold beg; rw [hcl]
  have halk := fun k => alg_run k hal0
  have hmu : mu (beg c i z) ≤ 1001 := by
    unfold mu
    rw [if_neg (by intro h; exact h rfl)]
    show (clampG z).toNat + 1 ≤ 1001
    rw [hcl]
    omega
  have hend := run_ends 1001 (f := beg c i z) (fun _ => hal0.ok (by show (0 : Int) ≠ 3; decide)) hmu
  have hrv : runV c i z = runN 1001 (beg c i z) := runV_short 1001 (by decide) hend
  have hrun := fun w' (h' : TT w') => run_any c i (by omega) (by omega) z w' h'.tb h'.ts
  rw [hrv] at hrun
  have h0 : runN 0 (beg c i z) = ⟨c, i, [], [], 0, z, 0, 0, []⟩ := hbeg
  generalize hF : (fun k => runN k (beg c i z)) = fk at *
  have hsn : ∀ k, fk (k + 1) = stepV (fk k) := fun k => by rw [← hF]; exact runN_snoc k _
  have hfk : ∀ k, runN k (beg c i z) = fk k := fun k => by rw [← hF]
  rw [hfk] at hend hrun h0
  have halg : ∀ k, Alg (clampG z) (fk k) := fun k => by rw [← hfk]; exact halk k
  clear halk hrv hF hfk
  refine goQ [lnO c, bO .gtr 3 (run_gtrZ (x := c.length) (y := 1000) (b := false) (decide_eq_false (by omega))), lnO i, bO .gtr 3 (run_gtrZ (x := i.length) (y := 1000) (b := false) (decide_eq_false (by omega))), vO 32 3 hcn, bO .rem 3 (run_remZ (x := n) (y := 1000) (z := z) (by decide) hrn), dO 25 [0, 1, 5] (bd25 c i z)] (nonR w) I fun β1 A1 w1 I1 hb1 => ?_
  have I2 : SI (OJ w (.slice none 0 0) (.slice none 0 0) [] []) (OF w (.slice none 0 0) (.slice none 0 0)) [] β1 _ A1 w1 := ⟨I1.fr, I1.df, ⟨I1.hJ, World.ownsRow_nil _ _ _ _, World.ownsRow_nil _ _ _ _⟩, I1.row, fun q hq h => I1.dis q hq (by
    rcases h with h | h | h
    · exact h
    · cases h
    · cases h), I1.lt, I1.inj, I1.ids⟩
  let tmS : Nat → Vs := fun j => frm 44 [(0, Sum.inl (str c)), (1, Sum.inl (str i)), (2, Sum.inl (h16 n)), (7, Sum.inr (0, 0)), (23, Sum.inl (Z (j : Int)))]
  let St : Nat → Act → World → Prop := fun k a w' => ∃ (j : Nat) (f : Fr) (ad : Option Addr) (cap : Nat) (β : Nat → Nat) (u : Nat → Value), k = 1001 - j ∧ j ≤ 1001 ∧ f = fk j ∧
    SI (OJ w (.slice ad f.st.length cap) (.slice none 0 0) f.st []) (OF w (.slice ad f.st.length cap) (.slice none 0 0)) [] β (cfC (bodyL Tryz.f7) (fillF (scrF 44 [0, 1, 2, 7, 23]) u 0 (tmS j)) [(0, frC f (.slice ad f.st.length cap))] 1) a w'
  refine lpM (bodyL Tryz.f7) St 1001 ?_ ?_
  · obtain ⟨u, Iu⟩ := I2.scr (bodyL Tryz.f7) (scrF 44 [0, 1, 2, 7, 23]) (tmS 0) [(0, frC ⟨c, i, [], [], 0, z, 0, 0, []⟩ (.slice none 0 0))] 1
    exact ⟨0, ⟨c, i, [], [], 0, z, 0, 0, []⟩, none, 0, β1, u, rfl, by omega, h0.symm, Iu⟩
  rintro k a3 w3 ⟨j, f, ad, cap, β3, u, rfl, hj, hfj, I3⟩
  have hag := halg j
  rw [← hfj] at hag
  refine wp_cfC (tm := fillF (scrF 44 [0, 1, 2, 7, 23]) u 0 (tmS j)) (rows := [(0, frC f (.slice ad f.st.length cap))]) (nx := 1) ?_
  rcases Nat.lt_or_ge j 1001 with hjl | hjl
  · refine goQ [bO .lss 3 (run_lssZ (x := j) (y := 1001) (b := true) (decide_eq_true (by omega)))] (OJ.rs _ _ _ _ _) I3 fun β4 A4 w4 I4 hb4 => ?_
    refine mcallX [Sum.inl (frV f (.slice ad f.st.length cap))] Tryz.func11 I4 ((stp_any f (.slice ad f.st.length cap) (fun hz0 => hag.ok (by rw [hz0]; decide)) hag.st w4 (h.below I4.hJ.bw) (own_skr I4.hJ.o1)).mono fun e w5 he => ?_)
    obtain ⟨_, rfl, ad5, cap5, rfl, ho5, hb5⟩ := he
    have hfn : stepV f = fk (j + 1) := by rw [hsn, hfj]
    generalize stepV f = f2 at *
    have I5 := I4.oj1 ho5 hb5 (frV f2 (.slice ad5 f2.st.length cap5))
    refine goQ [bO .add 3 (run_addZ (x := j) (y := 1) (z := (j + 1 : Nat)) (by rw [wzf (by omega) (by omega)]; omega))] (OJ.rs _ _ _ _ _) I5 fun β6 A6 w6 I6 hb6 => ?_
    obtain ⟨u', Iu⟩ := I6.scr (bodyL Tryz.f7) (scrF 44 [0, 1, 2, 7, 23]) (tmS (j + 1)) [(0, frC f2 (.slice ad5 f2.st.length cap5))] 1
    exact endL ⟨1001 - (j + 1), by omega, j + 1, f2, ad5, cap5, β6, u', rfl, by omega, hfn, Iu⟩
  obtain rfl : j = 1001 := by omega
  refine goQ [bO .lss 3 (run_lssZ (x := (1001 : Nat)) (y := 1001) (b := false) (decide_eq_false (by omega)))] (OJ.rs _ _ _ _ _) I3 fun β4 A4 w4 I4 hb4 => ?_
  refine endE 0 ?_
  refine goQ [] (OJ.rs _ _ _ _ _) (I4.exit _) fun β5 A5 w5 I5 hb5 => ?_
  rw [← hfj] at hend hrun
  have hT5 : ∀ w', OJ w (.slice ad f.st.length cap) (.slice none 0 0) f.st [] w' → TT w' := fun w' hb => h.below hb.bw
  have hsm := fun w' v' (h1 : SkR w' (.slice ad f.st.length cap) f.st) (h2 : SkR w' v' f.st) => rsame_any f f (.slice ad f.st.length cap) v' hag.num hag.num (Nat.le_trans hag.st (by decide)) w' h1 h2
  rw [samB_eq rfl] at hsm
  have hskr := own_skr I5.hJ.o1
  have hbw5 := I5.hJ.bw
  have hsz5 : A5.tmps.size = 44 := by rw [I5.fr]; kernel_rfl
  refine dwS (T := TT) [(6, none), (7, some (.bool true))] [vO 32 3 hcn, bO .rem 3 (run_remZ (x := n) (y := 1000) (z := z) (by decide) hrn), bO .neq 3 (run_neqZ (x := f.sd) (y := 0) (b := true) (decide_eq_true hend)), cA Tryz.func9 haw]
    (fun q v w' => q = 6 → ∃ ad' cap', v = frV f (.slice ad' f.st.length cap') ∧ SkR w' (.slice ad' f.st.length cap') f.st) (fun q v w' w'' hv hb hq => by
      obtain ⟨ad', cap', e, hs⟩ := hv hq
      exact ⟨ad', cap', e, hs.below hb⟩) (OJ.rs _ _ _ _ _) hT5 I5 ?_ ?_
  · intro p hp o ho listed vs a' w' hF hrd hbw hV hev
    simp only [List.mem_cons, List.not_mem_nil, or_false] at hp
    rcases hp with rfl | rfl
    · obtain ⟨g1, g2, g3⟩ := opD_get (x := .call ⟨.value (.func 14), #[.tmp 29, .tmp 30, .tmp 33], #[9, 9, 3]⟩) (d := some 34) ho (by kernel_rfl)
      have e29 : a'.eval (.tmp 29) = str c := hev (.tmp 29) (Sum.inl (str c)) (by kernel_rfl)
      have e30 : a'.eval (.tmp 30) = str i := hev (.tmp 30) (Sum.inl (str i)) (by kernel_rfl)
      have e33 : a'.eval (.tmp 33) = Z z := hev (.tmp 33) (Sum.inl (Z z)) (by kernel_rfl)
      refine wpG_plain g3 (wp_callG (f := 14) (args := #[str c, str i, Z z]) (by rw [call_run g1 Tryz.func14]; simp only [List.map_toArray, List.map_cons, List.map_nil, e29, e30, e33]) ((hrun w' (h.below (hbw5.trans (hbw.mono hbw5.size)))).mono fun e w6 he => ?_))
      obtain ⟨x, rfl, ad6, cap6, rfl, ho6, hb6⟩ := he
      exact ⟨_, rfl, _, rfl, fun u hu => (by cases hu), fun _ => ⟨ad6, cap6, rfl, own_skr ho6⟩, hb6⟩
    · obtain ⟨g1, g2, g3⟩ := opD_get (x := .call ⟨.value (.func 10), #[.tmp 28, .tmp 34], #[25, 25]⟩) (d := some 35) ho (by kernel_rfl)
      have hl6 := waits_done (ops := opsD _) (i := 7) (j := 6) (by kernel_rfl) hrd
      have e34 : a'.eval (.tmp 34) = vs 6 := hF.new (i := 6) (by kernel_rfl) (by omega) hl6
      obtain ⟨ad6, cap6, e6, hs6⟩ := hV (6, none) (by simp) hl6 rfl
      have e28 : a'.eval (.tmp 28) = frV f (.slice ad f.st.length cap) := hev (.tmp 28) (Sum.inl (frV f (.slice ad f.st.length cap))) (by kernel_rfl)
      rw [e6] at e34
      refine wpG_plain g3 (wp_callG (f := 10) (args := #[frV f (.slice ad f.st.length cap), frV f (.slice ad6 f.st.length cap6)]) (by rw [call_run g1 Tryz.func10]; simp only [List.map_toArray, List.map_cons, List.map_nil, e28, e34]) ((hsm w' _ (hskr.below hbw) hs6).mono fun e w6 he => ?_))
      obtain ⟨rfl, hb6⟩ := he
      exact ⟨_, rfl, _, rfl, fun u hu => (by cases hu; rfl), fun h => (by cases h), hb6⟩
  · intro vs a6 w6 hV I6
    refine goQ [] (OJ.rs _ _ _ _ _) I6 fun β7 A7 w7 I7 hb7 => ?_
    exact outQ (v := .bool true) I7 ⟨rfl, I7.hJ.bw⟩
end Go.Proofs.YtceedgdbhlpjlaaGreatDoor
