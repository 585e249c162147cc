/- Drawn regions that lay two blocks and store into each, whenever. -/
import Derived.Test.YtdiblfgnnliifaaTj
namespace Go.Proofs.Ytdiblfgnnliifaa
open Go.RowKit Go.Sort
set_option linter.unusedVariables false
set_option maxRecDepth 100000
/-- A block is laid by one operation, and stored into by another one. -/
structure PC (w : World) (ia is : Nat) (z r : Array Value) (listed : Array Bool) (vs : Nat → Value) (w' : World) : Prop where
  a : listed.getD is false = true → listed.getD ia false = true
  b : listed.getD ia false = true → ∃ b, vs ia = .pointer (some ⟨b, 0, none⟩) ∧ w.heap.size ≤ b ∧ HasRow w' b (if listed.getD is false = true then r else z)
section
variable {w w' w'' : World} {ia is : Nat} {z r : Array Value} {listed : Array Bool} {vs : Nat → Value}
theorem PC.init (w w1 : World) (ia is n : Nat) (z r : Array Value) (vs : Nat → Value) : PC w ia is z r (Array.replicate n false) vs w1 := by
  have hf : ∀ n j, ¬ (Array.replicate n false).getD j false = true := fun n j h => by
    rw [Array.getD_eq_getD_getElem?, Array.getElem?_replicate] at h
    split at h <;> simp at h
  exact ⟨fun h => absurd h (hf _ _), fun h => absurd h (hf _ _)⟩
theorem set_getD {i j : Nat} (h : i ≠ j) : (listed.setIfInBounds i true).getD j false = listed.getD j false := by
  rw [Array.getD_eq_getD_getElem?, Array.getElem?_setIfInBounds, if_neg h, ← Array.getD_eq_getD_getElem?]
theorem PC.other (h : PC w ia is z r listed vs w') {i : Nat} (h1 : i ≠ ia) (h2 : i ≠ is) (v : Value) (hk : ∀ b, vs ia = .pointer (some ⟨b, 0, none⟩) → listed.getD ia false = true → ∀ c, HasRow w' b c → HasRow w'' b c) : PC w ia is z r (listed.setIfInBounds i true) (fun j => if j = i then v else vs j) w'' := by
  refine ⟨fun h12 => ?_, fun h11 => ?_⟩
  · rw [set_getD h1]; rw [set_getD h2] at h12; exact h.a h12
  · rw [set_getD h1] at h11
    obtain ⟨b5, q1, q2, q3⟩ := h.b h11
    rw [set_getD h2]
    exact ⟨b5, by rw [if_neg (Ne.symm h1)]; exact q1, q2, hk b5 q1 h11 _ q3⟩
theorem PC.laid (h : PC w ia is z r listed vs w') (hne : is ≠ ia) (hlt : ia < listed.size) (hn : ¬ listed.getD ia false = true) {b : Nat} (hb : w.heap.size ≤ b) (hr : HasRow w'' b z) : PC w ia is z r (listed.setIfInBounds ia true) (fun j => if j = ia then .pointer (some ⟨b, 0, none⟩) else vs j) w'' := by
  refine ⟨fun h12 => ?_, fun h11 => ⟨b, by rw [if_pos rfl], hb, ?_⟩⟩
  · rw [set_getD (Ne.symm hne)] at h12
    exact absurd (h.a h12) hn
  · rw [set_getD (Ne.symm hne), if_neg (fun h12 => hn (h.a h12))]
    exact hr
theorem PC.stored (h : PC w ia is z r listed vs w') (hne : is ≠ ia) (hlt : is < listed.size) (hl : listed.getD ia false = true) {b : Nat} (hv : vs ia = .pointer (some ⟨b, 0, none⟩)) (hr : HasRow w'' b r) (v : Value) : PC w ia is z r (listed.setIfInBounds is true) (fun j => if j = is then v else vs j) w'' := by
  obtain ⟨b5, q1, q2, q3⟩ := h.b hl
  refine ⟨fun h12 => ?_, fun h11 => ⟨b, ?_, ?_, ?_⟩⟩
  · rw [set_getD hne]; exact hl
  · rw [if_neg (Ne.symm hne)]; exact hv
  · rw [hv] at q1; cases q1; exact q2
  · have : (listed.setIfInBounds is true).getD is false = true := by
      rw [Array.getD_eq_getD_getElem?, Array.getElem?_setIfInBounds, if_pos rfl, if_pos hlt]; rfl
    rw [if_pos this]; exact hr
theorem PC.row (h : PC w ia is z r listed vs w') (hzr : r.size = z.size) (hl : listed.getD ia false = true) {b : Nat} (hv : vs ia = .pointer (some ⟨b, 0, none⟩)) : w.heap.size ≤ b ∧ ∃ c, HasRow w' b c ∧ c.size = z.size := by
  obtain ⟨b5, q1, q2, q3⟩ := h.b hl
  rw [hv] at q1; cases q1
  refine ⟨q2, _, q3, ?_⟩
  split
  · exact hzr
  · rfl
end
theorem row_ne {w : World} {b b2 : Nat} {c c2 : Array Value} (h : HasRow w b c) (h2 : HasRow w b2 c2) (hs : c.size ≠ c2.size) : b ≠ b2 := fun e => by
  subst e
  obtain ⟨t1, q1⟩ := h
  obtain ⟨t2, q2⟩ := h2
  rw [q1] at q2; cases q2
  exact hs rfl
theorem row_set {w : World} {b b2 : Nat} {c r : Array Value} (h : HasRow w b c) (hne : b ≠ b2) : HasRow (w.setRow b2 r) b c := by
  obtain ⟨t, ht⟩ := h
  exact ⟨t, (setRow_other w b2 b r hne).trans ht⟩
theorem ready_bit {ops : Array Oper} {i : Nat} {listed : Array Bool} (hrd : i ∈ Region.ready .any ops listed) : i < listed.size ∧ ¬ listed.getD i false = true := by
  obtain ⟨hun, o', ho', _⟩ := mem_ready.1 hrd
  have hlt : i < listed.size := by
    rcases Nat.lt_or_ge i listed.size with h | h
    · exact h
    · rw [Array.getD_eq_getD_getElem?, Array.getElem?_eq_none h] at hun; cases hun
  refine ⟨hlt, fun h => ?_⟩
  simp [Array.getD, hlt] at hun h
  rw [hun] at h; cases h
theorem over_all {z r : Array Value} (h : z.size = r.size) : over z 0 r = r := by
  unfold over
  rw [List.take_zero, List.nil_append, Nat.zero_add, List.drop_eq_nil_of_le (by rw [Array.length_toList, h]; exact Nat.le_refl _), List.append_nil]
section
variable {J : World → Prop} {F : Nat → Prop} {ds : List Deferred} {β : Nat → Nat} {c : Cf} {a : Act} {w : World} {Q : Exit → Act → World → Prop}
abbrev vsP (ia ib b b2 : Nat) (vs : Nat → Value) : Nat → Value := fun j => if j = ia then .pointer (some ⟨b, 0, none⟩) else if j = ib then .pointer (some ⟨b2, 0, none⟩) else vs j
theorem dwP {T : World → Prop} (ia is ib js t t2 d d2 x x2 : Nat) (z z2 : Array Value) (v v2 : Value) (fs : List (Fa Try.prog T)) (R : Rsrc J F) (hT : ∀ w, J w → T w) (I : SI J F ds β c a w)
    (k : ∀ (b b2 : Nat) (vs : Nat → Value) β' a' w', Agree c.nx β β' → SI J F ds β' (adC (adC (dsC Try.prog [(ia, none), (is, none), (ib, none), (js, none)] fs c (vsP ia ib b b2 vs)) d v.cells) d2 v2.cells) a' w' → At Try.prog Q (adC (adC (dsC Try.prog [(ia, none), (is, none), (ib, none), (js, none)] fs c (vsP ia ib b b2 vs)) d v.cells) d2 v2.cells) a' w')
    (hne : decide (is ≠ ia ∧ js ≠ ib ∧ ia ≠ ib ∧ ia ≠ js ∧ is ≠ ib ∧ is ≠ js) = true := by kernel_rfl) (hz : zeV Try.prog t = some z := by kernel_rfl) (hz2 : zeV Try.prog t2 = some z2 := by kernel_rfl) (hsz : decide (v.cells.size = z.size ∧ v2.cells.size = z2.size ∧ z.size ≠ z2.size) = true := by kernel_rfl)
    (hi : (Try.prog.info? t).map (·.size) = some v.cells.size := by kernel_rfl) (hi2 : (Try.prog.info? t2).map (·.size) = some v2.cells.size := by kernel_rfl) (ho : v.cells.all (·.oneCell') = true := by kernel_rfl) (ho2 : v2.cells.all (·.oneCell') = true := by kernel_rfl)
    (h1 : ((opsD c)[ia]?).map (fun o => (o.op, o.dst, o.guard)) = some (.alloc t, some d, none) := by kernel_rfl) (h2 : ((opsD c)[is]?).map (fun o => (o.op, o.dst, o.guard)) = some (.store t (.tmp d) (.tmp x), none, none) := by kernel_rfl)
    (g1 : ((opsD c)[ib]?).map (fun o => (o.op, o.dst, o.guard)) = some (.alloc t2, some d2, none) := by kernel_rfl) (g2 : ((opsD c)[js]?).map (fun o => (o.op, o.dst, o.guard)) = some (.store t2 (.tmp d2) (.tmp x2), none, none) := by kernel_rfl)
    (h3 : waitsB (opsD c) is ia = true := by kernel_rfl) (h4 : wr (opsD c) d = some ia := by kernel_rfl) (h5 : evS (opsD c) c.tm ((valsD Try.prog [(ia, none), (is, none), (ib, none), (js, none)] fs c).take is) is (.tmp x) = some (Sum.inl v) := by kernel_rfl) (h6 : decide (d < c.tm.length) = true := by kernel_rfl)
    (g3 : waitsB (opsD c) js ib = true := by kernel_rfl) (g4 : wr (opsD c) d2 = some ib := by kernel_rfl) (g5 : evS (opsD c) c.tm ((valsD Try.prog [(ia, none), (is, none), (ib, none), (js, none)] fs c).take js) js (.tmp x2) = some (Sum.inl v2) := by kernel_rfl) (g6 : decide (d2 < c.tm.length) = true := by kernel_rfl)
    (h7 : decide ((ia < (opsD c).size ∧ is < (opsD c).size) ∧ ib < (opsD c).size ∧ js < (opsD c).size) = true := by kernel_rfl)
    (h8 : ∀ (b b2 : Nat) (vs : Nat → Value), ((dsC Try.prog [(ia, none), (is, none), (ib, none), (js, none)] fs c (vsP ia ib b b2 vs)).tm[d]?).join = some (Sum.inl (.pointer (some ⟨b, 0, none⟩))) := by intro b b2 vs; kernel_rfl)
    (h9 : ∀ (b b2 : Nat) (vs : Nat → Value), ((adC (dsC Try.prog [(ia, none), (is, none), (ib, none), (js, none)] fs c (vsP ia ib b b2 vs)) d v.cells).tm[d2]?).join = some (Sum.inl (.pointer (some ⟨b2, 0, none⟩))) := by intro b b2 vs; kernel_rfl)
    (hs : (dsX Try.prog [(ia, none), (is, none), (ib, none), (js, none)] fs c).isSome = true := by kernel_rfl) (he : (dsX Try.prog [(ia, none), (is, none), (ib, none), (js, none)] fs c).map (fun r => r.2.map (·.1)) = (dsX Try.prog [(ia, none), (is, none), (ib, none), (js, none)] fs c).map (fun r => r.2.map (·.2)) := by kernel_rfl) : At Try.prog Q c a w := by
  obtain ⟨n1, n2, n3, n4, n5, n6⟩ := of_decide_eq_true hne
  obtain ⟨s1, s2, s3⟩ := of_decide_eq_true hsz
  have h6 := of_decide_eq_true h6
  have g6 := of_decide_eq_true g6
  obtain ⟨⟨h7a, h7s⟩, g7a, g7s⟩ := of_decide_eq_true h7
  have hsz : a.tmps.size = c.tm.length := by rw [I.fr]; simp
  refine dwC (T := T) [(ia, none), (is, none), (ib, none), (js, none)] fs (fun listed vs w' => PC w ia is z v.cells listed vs w' ∧ PC w ib js z2 v2.cells listed vs w') (fun w1 hb => ⟨PC.init _ _ _ _ _ _ _ _, PC.init _ _ _ _ _ _ _ _⟩) (fun listed vs w' w'' i u hsp h hb => by
      have hn : i ≠ ia ∧ i ≠ is ∧ i ≠ ib ∧ i ≠ js := by
        unfold spec at hsp
        rw [Option.map_eq_none_iff, List.find?_eq_none] at hsp
        refine ⟨fun e => ?_, fun e => ?_, fun e => ?_, fun e => ?_⟩
        · exact hsp (ia, none) (by simp) (by simp [e])
        · exact hsp (is, none) (by simp) (by simp [e])
        · exact hsp (ib, none) (by simp) (by simp [e])
        · exact hsp (js, none) (by simp) (by simp [e])
      exact ⟨h.1.other hn.1 hn.2.1 u fun b _ _ c hc => hc.below hb, h.2.other hn.2.2.1 hn.2.2.2 u fun b _ _ c hc => hc.below hb⟩) R hT I ?_ ?_ (by kernel_rfl) hs he
  · intro p hp2 o ho' listed vs a' w' hF hrd hbw hC hev
    simp only [List.mem_cons, List.not_mem_nil, or_false] at hp2
    obtain ⟨hlt, hnl⟩ := ready_bit hrd
    rcases hp2 with rfl | rfl | rfl | rfl
    · obtain ⟨o1, o2, o3⟩ := opD_get ho' h1
      exact allocG o1 o3 hz (by kernel_rfl) fun w2 hb2 hr => ⟨_, rfl, fun u hu => (by cases hu), ⟨hC.1.laid n1 hlt hnl hbw.size hr, hC.2.other n3 n4 _ fun b _ _ c hc => hc.below hb2⟩, hb2.mono hbw.size⟩
    · obtain ⟨o1, o2, o3⟩ := opD_get ho' h2
      have hl11 := waits_done (ops := opsD c) (i := is) (j := ia) h3 hrd
      have q1 : a'.eval (.tmp d) = vs ia := hF.new (i := ia) h4 (by omega) hl11
      have q2 : a'.eval (.tmp x) = v := hev (.tmp x) (Sum.inl v) h5
      obtain ⟨b5, e11, g5', hR5⟩ := hC.1.b hl11
      obtain ⟨_, r5, hr5, hz5⟩ := hC.1.row s1 hl11 e11
      refine wpG_plain o3 (Oper.wp_mono ?_ (ob_storea t (.tmp d) (.tmp x) o1 (g := b5) (off := 0) (by rw [q1, e11]) q2 (cs := v.cells) rfl hr5 hi (by rw [hz5, Nat.zero_add, s1]; exact Nat.le_refl _) ho (e := v.cells) (over_all (by rw [hz5, s1]))))
      rintro a2 w2 ⟨rfl, rfl⟩
      refine ⟨undef, rfl, fun u hu => (by cases hu), ⟨hC.1.stored n1 hlt hl11 e11 (hr5.set_same _) undef, hC.2.other n5 n6 undef fun b2 hb2 hl2 c hc => ?_⟩, below_setRow (Below.refl _ _) g5' _⟩
      obtain ⟨_, c2, hc2, hz22⟩ := hC.2.row s2 hl2 hb2
      exact row_set hc (row_ne hc2 hr5 (by rw [hz22, hz5]; exact s3.symm))
    · obtain ⟨o1, o2, o3⟩ := opD_get ho' g1
      exact allocG o1 o3 hz2 (by kernel_rfl) fun w2 hb2 hr => ⟨_, rfl, fun u hu => (by cases hu), ⟨hC.1.other n3.symm n5.symm _ fun b _ _ c hc => hc.below hb2, hC.2.laid n2 hlt hnl hbw.size hr⟩, hb2.mono hbw.size⟩
    · obtain ⟨o1, o2, o3⟩ := opD_get ho' g2
      have hl11 := waits_done (ops := opsD c) (i := js) (j := ib) g3 hrd
      have q1 : a'.eval (.tmp d2) = vs ib := hF.new (i := ib) g4 (by omega) hl11
      have q2 : a'.eval (.tmp x2) = v2 := hev (.tmp x2) (Sum.inl v2) g5
      obtain ⟨b5, e11, g5', hR5⟩ := hC.2.b hl11
      obtain ⟨_, r5, hr5, hz5⟩ := hC.2.row s2 hl11 e11
      refine wpG_plain o3 (Oper.wp_mono ?_ (ob_storea t2 (.tmp d2) (.tmp x2) o1 (g := b5) (off := 0) (by rw [q1, e11]) q2 (cs := v2.cells) rfl hr5 hi2 (by rw [hz5, Nat.zero_add, s2]; exact Nat.le_refl _) ho2 (e := v2.cells) (over_all (by rw [hz5, s2]))))
      rintro a2 w2 ⟨rfl, rfl⟩
      refine ⟨undef, rfl, fun u hu => (by cases hu), ⟨hC.1.other n4.symm n6.symm undef fun b2 hb2 hl2 c hc => ?_, hC.2.stored n2 hlt hl11 e11 (hr5.set_same _) undef⟩, below_setRow (Below.refl _ _) g5' _⟩
      obtain ⟨_, c2, hc2, hz22⟩ := hC.1.row s1 hl2 hb2
      exact row_set hc (row_ne hc2 hr5 (by rw [hz22, hz5]; exact s3))
  · intro listed vs a9 w9 hall hC I9
    obtain ⟨b5, e11, g5', hR5⟩ := hC.1.b (hall ia h7a)
    rw [if_pos (hall is h7s)] at hR5
    obtain ⟨b6, f11, f5, hR6⟩ := hC.2.b (hall ib g7a)
    rw [if_pos (hall js g7s)] at hR6
    have hne := row_ne hR5 hR6 (by rw [s1, s2]; exact s3)
    obtain ⟨vs', rfl⟩ : ∃ vs', vs = vsP ia ib b5 b6 vs' := ⟨vs, funext fun j => by
      unfold vsP
      by_cases hj : j = ia
      · subst hj; rw [if_pos rfl]; exact e11
      · rw [if_neg hj]
        by_cases hj2 : j = ib
        · subst hj2; rw [if_pos rfl]; exact f11
        · rw [if_neg hj2]⟩
    refine adopt d (g := b5) (r := v.cells) I9 (h8 b5 b6 vs') hR5 (fun h => by
      have := R.lt w b5 I.hJ h
      omega) (fun p hp e => by
      have := (I.row p hp).lt
      omega) fun β10 hag hb10 I2 => ?_
    refine adopt d2 (g := b6) (r := v2.cells) I2 (h9 b5 b6 vs') hR6 (fun h => by
      have := R.lt w b6 I.hJ h
      omega) (fun p hp e => by
      rcases List.mem_cons.1 hp with rfl | hp
      · exact hne (hb10.symm.trans e)
      · have h5 := (I.row p hp).lt
        have h6 := hag p.1 (I.lt p hp)
        omega) fun β11 hag2 hb11 I3 => ?_
    exact k b5 b6 vs' β11 a9 w9 (fun i hi => (hag2 i (Nat.lt_succ_of_lt hi)).trans (hag i hi)) I3
end
end Go.Proofs.Ytdiblfgnnliifaa
