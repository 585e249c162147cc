/- Out of Vq. -/
import Derived.Test.YtceedgdbhlpjlaaGreatDoorKfVp
namespace Go.Proofs.YtceedgdbhlpjlaaGreatDoor
open Go.RowKit Go.Sort
set_option linter.unusedVariables false
set_option maxRecDepth 100000
set_option maxHeartbeats 4000000
def shG (n : Int) (f : Fr) : Fr := { f with gas := f.gas + n }
theorem ite_G {p : Prop} [Decidable p] {a b c d : Fr} (G : Fr → Fr) (h1 : p → a = G c) (h2 : ¬ p → b = G d) : (if p then a else b) = G (if p then c else d) := by
  split
  · next h => exact h1 h
  · next h => exact h2 h
theorem doV_gas {op : Nat} (h : op ≠ 90) (f : Fr) (n : Int) : doV op (shG n f) = shG n (doV op f) := by
  unfold doV
  refine ite_G (shG n) (fun q => rfl) fun q0 => ?_
  refine ite_G (shG n) (fun q => rfl) fun q1 => ?_
  refine ite_G (shG n) (fun q => rfl) fun q2 => ?_
  refine ite_G (shG n) (fun q => rfl) fun q3 => ?_
  refine ite_G (shG n) (fun q => rfl) fun q4 => ?_
  refine ite_G (shG n) (fun q => rfl) fun q5 => ?_
  refine ite_G (shG n) (fun q => rfl) fun q6 => ?_
  refine ite_G (shG n) (fun q => rfl) fun q7 => ?_
  refine ite_G (shG n) (fun q => rfl) fun q8 => ?_
  refine ite_G (shG n) (fun q => rfl) fun q9 => ?_
  refine ite_G (shG n) (fun q => rfl) fun q10 => ?_
  refine ite_G (shG n) (fun q => rfl) fun q11 => ?_
  refine ite_G (shG n) (fun q => rfl) fun q12 => ?_
  refine ite_G (shG n) (fun q => rfl) fun q13 => ?_
  refine ite_G (shG n) (fun q => rfl) fun q14 => ?_
  refine ite_G (shG n) (fun q => rfl) fun q15 => ?_
  refine ite_G (shG n) (fun q => absurd q h) fun q16 => ?_
  refine ite_G (shG n) (fun q => rfl) fun q17 => ?_
  refine ite_G (shG n) (fun q => rfl) fun q18 => ?_
  refine ite_G (shG n) (fun q => rfl) fun q19 => ?_
  refine ite_G (shG n) (fun q => rfl) fun q20 => ?_
  refine ite_G (shG n) (fun q => rfl) fun q21 => ?_
  rfl
theorem opF_sh (f : Fr) (n : Int) : opF (shG n f) = opF f := rfl
theorem paid_sh (f : Fr) (n : Int) : paid (shG n f) = shG n (paid f) := by
  unfold paid shG
  simp only [Fr.mk.injEq, true_and, and_true]
  refine ⟨rfl, ?_⟩
  show f.gas + n - gasV (opF f) f = f.gas - gasV (opF f) f + n
  omega
theorem errV_sh {f : Fr} (h : errV f = 0) {n : Int} (hn : 0 ≤ n) : errV (shG n f) = 0 := by
  have hf := fine_of h
  have h1 : isOp (opF (shG n f)) = true := hf.op
  unfold errV
  rw [if_neg (by rw [h1]; decide)]
  rw [if_neg (by have := hf.tk; have := hf.ly; show ¬ (f.st.length < (opP (opF f)).2.1 ∨ 256 < f.st.length - (opP (opF f)).2.1 + (opP (opF f)).2.2.1); omega)]
  rw [if_neg (by have := hf.gr; show ¬ ((growV f.mem (reaV (opF f) f.st).1 (reaV (opF f) f.st).2).2.2 ≠ 0); omega)]
  rw [if_neg (by have := hf.gas; show ¬ (f.gas + n < gasV (opF f) f); omega)]
  rw [if_neg]
  rintro ⟨hj, hd⟩
  have := hf.jp hj
  have hd : dstV f.code (tp f.st 0) = false := hd
  rw [this] at hd
  cases hd
theorem opF_no {f : Fr} (h0 : 0 ≤ f.pc) (h : ∀ b ∈ f.code, b ≠ 90) : opF f ≠ 90 := by
  unfold opF
  rw [if_neg (by omega)]
  split
  · next b hb =>
    have := h b (List.mem_of_getElem? hb)
    intro e
    exact this (UInt8.toNat_inj.1 e)
  · decide
theorem run_sh {G : Int} {n : Int} (hn : 0 ≤ n) : ∀ (m : Nat) {f : Fr}, Alg G f → (∀ b ∈ f.code, b ≠ 90) → (runN m f).sd ≠ 3 → runN m (shG n f) = shG n (runN m f)
  | 0, f, _, _, _ => rfl
  | m + 1, f, ha, hc, h3 => by
    by_cases hz : f.sd = 0
    · have hO := ha.ok (by rw [hz]; decide)
      rw [runN_step hz] at h3 ⊢
      rw [runN_step (show (shG n f).sd = 0 from hz)]
      by_cases he : errV f = 0
      · have hnx := nxt_of hO hz (fine_of he)
        rw [stepV_ok hz he] at h3 ⊢
        rw [stepV_ok (show (shG n f).sd = 0 from hz) (errV_sh he hn)]
        have e : nexV (shG n f) = shG n (nexV f) := by
          unfold nexV
          rw [opF_sh, paid_sh, doV_gas (opF_no hO.pc0 hc)]
        rw [e]
        have ha' := alg_step ha hz
        rw [stepV_ok hz he] at ha'
        exact run_sh hn m ha' (by rw [hnx.code]; exact hc) h3
      · rw [stepV_bad hz he, runN_end (by show (3 : Int) ≠ 0; decide)] at h3
        exact absurd rfl h3
    · rw [runN_end hz, runN_end (show (shG n f).sd ≠ 0 from hz)]
theorem any_byte : ∀ (c : List UInt8) (k : Nat), k ≤ c.length → (∀ i, i < k → c[i]? ≠ some 90) → (k = c.length → ∀ b ∈ c, b ≠ 90) := by
  intro c k hk h e b hb hq
  subst hq
  obtain ⟨i, hi⟩ := List.mem_iff_getElem?.1 hb
  have hl := (List.getElem?_eq_some_iff.1 hi).1
  exact h i (by omega) hi
/-- Two stacks that were handed back. -/
structure OJ (w : World) (v v' : Value) (s s' : List Nat) (w' : World) : Prop where
  bw : Below w.heap.size w w'
  o1 : w'.ownsRow w.heap.size 38 4 v s.length (sC s)
  o2 : w'.ownsRow w.heap.size 38 4 v' s'.length (sC s')
def OF (w : World) (v v' : Value) (k : Nat) : Prop := k < w.heap.size ∨ v.ownBlock = some k ∨ v'.ownBlock = some k
theorem OJ.rs (w : World) (v v' : Value) (s s' : List Nat) : Rsrc (OJ w v v' s s') (OF w v v') := by
  refine ⟨fun x y h gr => ⟨⟨gr.os.trans h.bw.os, gr.tape.trans h.bw.tape, gr.output.trans h.bw.output, Nat.le_trans h.bw.size gr.size, fun k hk => (gr.block k (Nat.lt_of_lt_of_le hk h.bw.size) (.inl hk)).trans (h.bw.block k hk)⟩, owns_grow h.o1 gr fun k hk => .inr (.inl hk), owns_grow h.o2 gr fun k hk => .inr (.inr hk)⟩, fun x k h hk => ?_⟩
  rcases hk with hk | hk | hk
  · exact Nat.lt_of_lt_of_le hk h.bw.size
  · exact (h.o1.lt k hk).2
  · exact (h.o2.lt k hk).2
section
variable {w0 w w' : World} {v v' v2 : Value} {s s' t : List Nat} {ds : List Deferred} {β : Nat → Nat} {c : Cf} {a : Act}
theorem OJ.of_below (h : OJ w0 v v' s s' w) (hb : Below w.heap.size w w') : OJ w0 v v' s s' w' := (OJ.rs _ _ _ _ _).loc _ _ h (Grow.of_below hb)
theorem SI.oj1 (I : SI (OJ w0 v v' s s') (OF w0 v v') ds β c a w) (ho : w'.ownsRow w.heap.size 38 4 v2 t.length (sC t)) (hb : Below w.heap.size w w') (x : Value) : SI (OJ w0 v2 v' t s') (OF w0 v2 v') ds β (nxtQ c x) (a.put (dstQ c) x) w' := by
  have h2 := I.hJ.of_below hb
  refine I.moved (Grow.of_below hb) ⟨h2.bw, own_base ho I.hJ.bw.size, h2.o2⟩ (fun k hk hF => ?_) x
  rcases hF with hF | hF | hF
  · exact .inl hF
  · have := (ho.lt k hF).1; omega
  · exact .inr (.inr hF)
theorem SI.oj2 (I : SI (OJ w0 v v' s s') (OF w0 v v') ds β c a w) (ho : w'.ownsRow w.heap.size 38 4 v2 t.length (sC t)) (hb : Below w.heap.size w w') (x : Value) : SI (OJ w0 v v2 s t) (OF w0 v v2) ds β (nxtQ c x) (a.put (dstQ c) x) w' := by
  have h2 := I.hJ.of_below hb
  refine I.moved (Grow.of_below hb) ⟨h2.bw, h2.o1, own_base ho I.hJ.bw.size⟩ (fun k hk hF => ?_) x
  rcases hF with hF | hF | hF
  · exact .inl hF
  · exact .inr (.inl hF)
  · have := (ho.lt k hF).1; omega
end
theorem gas_walk (c i : List UInt8) (n : Nat) (hn : n < 65536) (m : Nat) (hm : m < 65536) (w : World) (h : TT w) : Calls Tryz.prog 5 #[str c, str i, h16 n, h16 m] w fun e w' => e = .returned (.bool true) ∧ Below w.heap.size w w' := by
  have haw := fun w' (h' : TT w') => awake_any w' h'
  have hT : ∀ w', Below w.heap.size w w' → TT w' := fun w' hb => h.below hb
  refine inQ (J := Below w.heap.size w) (F := (· < w.heap.size)) Tryz.func5 (Below.refl _ _) fun Az I => ?_
  by_cases h1 : 1000 < c.length
  · refine goT (T := TT) [lnO c, bO .gtr 3 (run_gtrZ (x := c.length) (y := 1000) (b := true) (decide_eq_true (by omega))), cA Tryz.func9 haw] (nonR w) hT I fun β1 A1 w1 I1 hb1 => ?_
    exact outQ (v := .bool true) I1 ⟨rfl, I1.hJ⟩
  by_cases h2 : 1000 < i.length
  · refine goT (T := TT) [lnO c, bO .gtr 3 (run_gtrZ (x := c.length) (y := 1000) (b := false) (decide_eq_false (by omega))), lnO i, bO .gtr 3 (run_gtrZ (x := i.length) (y := 1000) (b := true) (decide_eq_true (by omega))), cA Tryz.func9 haw] (nonR w) hT I fun β1 A1 w1 I1 hb1 => ?_
    exact outQ (v := .bool true) I1 ⟨rfl, I1.hJ⟩
  have hcn := cnv16 n hn
  have hcm := cnv16 m hm
  have hrn : ((n : Int)).tmod 3000 = ((n % 3000 : Nat) : Int) := rem_nat (m := 3000) (by decide)
  have hrm : ((m : Int)).tmod 3000 = ((m % 3000 : Nat) : Int) := rem_nat (m := 3000) (by decide)
  obtain ⟨z, hz⟩ : ∃ z, n % 3000 = z := ⟨_, rfl⟩
  obtain ⟨y, hy⟩ : ∃ y, m % 3000 = y := ⟨_, rfl⟩
  have hzl : z < 3000 := by omega
  have hyl : y < 3000 := by omega
  rw [hz] at hrn
  rw [hy] at hrm
  refine goQ [lnO c, bO .gtr 3 (run_gtrZ (x := c.length) (y := 1000) (b := false) (decide_eq_false (by omega))), lnO i, bO .gtr 3 (run_gtrZ (x := i.length) (y := 1000) (b := false) (decide_eq_false (by omega)))] (nonR w) I fun β1 A1 w1 I1 hb1 => ?_
  let tmS : Nat → Vs := fun j => frm 70 [(0, Sum.inl (str c)), (1, Sum.inl (str i)), (2, Sum.inl (h16 n)), (3, Sum.inl (h16 m)), (9, Sum.inl (Z (j : Int)))]
  let St : Nat → Act → World → Prop := fun k a w' => ∃ (j : Nat) (β : Nat → Nat) (u : Nat → Value), k = c.length - j ∧ j ≤ c.length ∧ (∀ i, i < j → c[i]? ≠ some 90) ∧
    SI (Below w.heap.size w) (· < w.heap.size) [] β (cfC (bodyL Tryz.f5) (fillF (scrF 70 [0, 1, 2, 3, 9]) u 0 (tmS j)) [] 0) a w'
  refine lpM (bodyL Tryz.f5) St c.length ?_ ?_
  · obtain ⟨u, Iu⟩ := I1.scr (bodyL Tryz.f5) (scrF 70 [0, 1, 2, 3, 9]) (tmS 0) [] 0
    exact ⟨0, β1, u, by omega, Nat.zero_le _, fun i hi => absurd hi (Nat.not_lt_zero i), Iu⟩
  rintro k a3 w3 ⟨j, β3, u, rfl, hj, hall, I3⟩
  refine wp_cfC (tm := fillF (scrF 70 [0, 1, 2, 3, 9]) u 0 (tmS j)) (rows := []) (nx := 0) ?_
  rcases Nat.lt_or_ge j c.length with hjl | hjl
  · obtain ⟨b, hb⟩ : ∃ b, c[j]? = some b := ⟨_, List.getElem?_eq_getElem hjl⟩
    by_cases hq : b = 90
    · refine goT (T := TT) [lnO c, bO .lss 3 (run_lssZ (x := j) (y := c.length) (b := true) (decide_eq_true (by omega))), iO 9 (p := str c) (i := Z j) (v := b8 b.toNat) (idx_run hb), bO .eql 5 (eqB_run (x := b) (y := 90) (q := true) (decide_eq_true hq)), cA Tryz.func9 haw] (nonR w) hT I3 fun β4 A4 w4 I4 hb4 => ?_
      exact endR (retV (v := .bool true) I4 ⟨rfl, I4.hJ⟩)
    · refine goQ [lnO c, bO .lss 3 (run_lssZ (x := j) (y := c.length) (b := true) (decide_eq_true (by omega))), iO 9 (p := str c) (i := Z j) (v := b8 b.toNat) (idx_run hb), bO .eql 5 (eqB_run (x := b) (y := 90) (q := false) (decide_eq_false hq)), bO .add 3 (run_addZ (x := j) (y := 1) (z := (j + 1 : Nat)) (by rw [wzf (by omega) (by omega)]; omega))] (nonR w) I3 fun β4 A4 w4 I4 hb4 => ?_
      obtain ⟨u', Iu⟩ := I4.scr (bodyL Tryz.f5) (scrF 70 [0, 1, 2, 3, 9]) (tmS (j + 1)) [] 0
      exact endL ⟨c.length - (j + 1), by omega, j + 1, β4, u', rfl, hjl, fun i hi => by
        rcases Nat.lt_or_ge i j with h' | h'
        · exact hall i h'
        · have : i = j := by omega
          subst this
          rw [hb]
          intro e
          exact hq (Option.some.inj e), Iu⟩
  obtain rfl : j = c.length := by omega
  have hno := any_byte c c.length (Nat.le_refl _) hall rfl
  refine goQ [lnO c, bO .lss 3 (run_lssZ (x := c.length) (y := c.length) (b := false) (decide_eq_false (by omega)))] (nonR w) I3 fun β4 A4 w4 I4 hb4 => ?_
  refine endE 0 ?_
  have hal0 := beg_alg (c := c) (i := i) (by omega) (by omega) (z : Int)
  have hal := alg_run 100001 hal0
  have hgr : beg c i ((z : Int) + y) = shG y (beg c i z) := by
    unfold beg shG
    rw [clampG_in (by omega) (by omega), clampG_in (by omega) (by omega)]
  have hsh := fun h3 => run_sh (n := (y : Int)) (by omega) 100001 hal0 (by exact hno) h3
  rw [← hgr] at hsh
  have hend := run_ends 100001 (f := beg c i z) (fun _ => hal0.ok (by show (0 : Int) ≠ 3; decide)) (beg_mu c i z)
  have hal2 := alg_run 100001 (beg_alg (c := c) (i := i) (by omega) (by omega) ((z : Int) + y))
  have r1 := fun w' (h' : TT w') => run_any c i (by omega) (by omega) z w' h'.tb h'.ts
  have r2 := fun w' (h' : TT w') => run_any c i (by omega) (by omega) ((z : Int) + y) w' h'.tb h'.ts
  have v1 : runV c i z = runN 100001 (beg c i z) := rfl
  have v2 : runV c i ((z : Int) + y) = runN 100001 (beg c i ((z : Int) + y)) := rfl
  rw [v1] at r1
  rw [v2] at r2
  generalize runN 100001 (beg c i z) = fA at *
  generalize runN 100001 (beg c i ((z : Int) + y)) = fB at *
  refine goQ [vO 32 3 hcn, bO .rem 3 (run_remZ (x := n) (y := 3000) (z := z) (by decide) hrn), vO 32 3 hcm, bO .rem 3 (run_remZ (x := m) (y := 3000) (z := y) (by decide) hrm)] (nonR w) (I4.exit _) fun β5 A5 w5 I5 hb5 => ?_
  have hF0 : SI (OJ w (.slice none 0 0) (.slice none 0 0) [] []) (OF w (.slice none 0 0) (.slice none 0 0)) [] β5 _ A5 w5 := ⟨I5.fr, I5.df, ⟨I5.hJ, World.ownsRow_nil _ _ _ _, World.ownsRow_nil _ _ _ _⟩, I5.row, fun q hq h => I5.dis q hq (by
    rcases h with h | h | h
    · exact h
    · cases h
    · cases h), I5.lt, I5.inj, I5.ids⟩
  refine mcallX [Sum.inl (str c), Sum.inl (str i), Sum.inl (Z z)] Tryz.func14 hF0 ((r1 w5 (h.below hF0.hJ.bw)).mono fun e w6 he => ?_)
  obtain ⟨_, rfl, ad6, cap6, rfl, ho6, hb6⟩ := he
  have I6 := hF0.oj1 ho6 hb6 (frV fA (.slice ad6 fA.st.length cap6))
  refine goQ [bO .add 3 (run_addZ (x := z) (y := y) (z := (z : Int) + y) (by rw [wzf (by omega) (by omega)]))] (OJ.rs _ _ _ _ _) I6 fun β7 A7 w7 I7 hb7 => ?_
  refine mcallX [Sum.inl (str c), Sum.inl (str i), Sum.inl (Z ((z : Int) + y))] Tryz.func14 I7 ((r2 w7 (h.below I7.hJ.bw)).mono fun e w8 he => ?_)
  obtain ⟨_, rfl, ad8, cap8, rfl, ho8, hb8⟩ := he
  have I8 := I7.oj2 ho8 hb8 (frV fB (.slice ad8 fB.st.length cap8))
  have hT2 : ∀ w', OJ w (.slice ad6 fA.st.length cap6) (.slice ad8 fB.st.length cap8) fA.st fB.st w' → TT w' := fun w' hb => h.below hb.bw
  by_cases h3 : fA.sd = 3
  · refine goT (T := TT) [bO .neq 3 (run_neqZ (x := fA.sd) (y := 1) (b := true) (decide_eq_true (by omega))), bO .neq 3 (run_neqZ (x := fA.sd) (y := 2) (b := true) (decide_eq_true (by omega))), cA Tryz.func9 haw] (OJ.rs _ _ _ _ _) hT2 I8 fun β9 A9 w9 I9 hb9 => ?_
    exact outQ (v := .bool true) I9 ⟨rfl, I9.hJ.bw⟩
  have hfB := hsh h3
  subst hfB
  have hal1 := hal
  have hsm := fun w' (h1 : SkR w' (.slice ad6 fA.st.length cap6) fA.st) (h2 : SkR w' (.slice ad8 fA.st.length cap8) fA.st) => rsame_any fA fA (.slice ad6 fA.st.length cap6) (.slice ad8 fA.st.length cap8) hal1.num hal1.num (Nat.le_trans hal1.st (by decide)) w' h1 h2
  rw [samB_eq rfl] at hsm
  have hsd := hal.sd
  by_cases hs1 : fA.sd = 1
  · refine goQ [bO .neq 3 (run_neqZ (x := fA.sd) (y := 1) (b := false) (decide_eq_false (by omega))), bO .sub 3 (run_subZ (x := fA.gas + y) (y := y) (z := fA.gas) (by have := hal.gas0; have := hal.gas1; have := clampG_bd z; rw [wzf (by omega) (by omega)]; omega))] (OJ.rs _ _ _ _ _) I8 fun β9 A9 w9 I9 hb9 => ?_
    refine mcallX [Sum.inl (frV fA (.slice ad6 fA.st.length cap6)), Sum.inl (frV fA (.slice ad8 fA.st.length cap8))] Tryz.func10 I9 ((hsm w9 (own_skr I9.hJ.o1) (own_skr I9.hJ.o2)).mono fun e w10 he => ?_)
    obtain ⟨rfl, hb10⟩ := he
    have I10 := I9.moved (Grow.of_below hb10) ((OJ.rs _ _ _ _ _).loc _ _ I9.hJ (Grow.of_below hb10)) (fun _ _ h => h) (.bool true)
    refine goT (T := TT) [cA Tryz.func9 haw] (OJ.rs _ _ _ _ _) hT2 I10 fun β11 A11 w11 I11 hb11 => ?_
    exact outQ (v := .bool true) I11 ⟨rfl, I11.hJ.bw⟩
  · refine goQ [bO .neq 3 (run_neqZ (x := fA.sd) (y := 1) (b := true) (decide_eq_true (by omega))), bO .neq 3 (run_neqZ (x := fA.sd) (y := 2) (b := false) (decide_eq_false (by omega))), bO .sub 3 (run_subZ (x := fA.gas + y) (y := y) (z := fA.gas) (by have := hal.gas0; have := hal.gas1; have := clampG_bd z; rw [wzf (by omega) (by omega)]; omega))] (OJ.rs _ _ _ _ _) I8 fun β9 A9 w9 I9 hb9 => ?_
    refine mcallX [Sum.inl (frV fA (.slice ad6 fA.st.length cap6)), Sum.inl (frV fA (.slice ad8 fA.st.length cap8))] Tryz.func10 I9 ((hsm w9 (own_skr I9.hJ.o1) (own_skr I9.hJ.o2)).mono fun e w10 he => ?_)
    obtain ⟨rfl, hb10⟩ := he
    have I10 := I9.moved (Grow.of_below hb10) ((OJ.rs _ _ _ _ _).loc _ _ I9.hJ (Grow.of_below hb10)) (fun _ _ h => h) (.bool true)
    refine goT (T := TT) [cA Tryz.func9 haw] (OJ.rs _ _ _ _ _) hT2 I10 fun β11 A11 w11 I11 hb11 => ?_
    exact outQ (v := .bool true) I11 ⟨rfl, I11.hJ.bw⟩
end Go.Proofs.YtceedgdbhlpjlaaGreatDoor
