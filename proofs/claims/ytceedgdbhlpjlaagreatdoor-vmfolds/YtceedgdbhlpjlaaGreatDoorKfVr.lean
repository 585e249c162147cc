/- Out of Vr. -/
import Derived.Test.YtceedgdbhlpjlaaGreatDoorKfVq
namespace Go.Proofs.YtceedgdbhlpjlaaGreatDoor
open Go.RowKit Go.Sort
set_option linter.unusedVariables false
set_option maxRecDepth 100000
set_option maxHeartbeats 4000000
theorem sC_at (s : List Nat) (q : Nat) (hq : q < 4 * s.length) : (sC s)[q]? = (uc (tp s (s.length - 1 - q / 4)))[q % 4]? := by
  have := sC_get s (s.length - 1 - q / 4) (q % 4) (by omega) (by omega)
  rw [show 4 * (s.length - 1 - (s.length - 1 - q / 4)) + q % 4 = q by omega] at this
  exact this
theorem bsU0 (w : World) : (Instr.buildSlice 22 0 #[]).run Tryz.prog w = .ok (.slice (some ⟨w.heap.size, 0, none⟩) 0 0) (w.alloc (.cells #[] 38)) := by kernel_rfl
theorem sC_one (s : List Nat) : ∀ u ∈ sC s, u.oneCell' = true := by
  intro u hu
  unfold sC at hu
  obtain ⟨n, _, hn⟩ := List.mem_flatMap.1 hu
  simp only [uc, List.mem_cons, List.not_mem_nil, or_false] at hn
  rcases hn with rfl | rfl | rfl | rfl <;> rfl
theorem SI.noRows {J : World → Prop} {F F' : Nat → Prop} {ds : List Deferred} {β : Nat → Nat} {c : Cf} {a : Act} {w : World} (I : SI J F ds β c a w) (hc : c.rows = [] := by kernel_rfl) : SI J F' ds β c a w := ⟨I.fr, I.df, I.hJ, I.row, fun p hp => (by rw [hc] at hp; cases hp), I.lt, I.inj, I.ids⟩
theorem clone_any (v : Value) (s : List Nat) (hs : s.length ≤ 100000) (w : World) (h : SkR w v s) : Calls Tryz.prog 18 #[v] w fun e w' => ∃ ad cap, e = .returned (.slice ad s.length cap) ∧ w'.ownsRow w.heap.size 38 4 (.slice ad s.length cap) s.length (sC s) ∧ Below w.heap.size w w' := by
  obtain ⟨ad, cap, rfl, hr⟩ := h
  refine inQ (J := Below w.heap.size w) (F := (· < w.heap.size)) Tryz.func18 (Below.refl _ _) fun Az I => ?_
  cases ad with
  | none =>
    have hz : s = [] := by
      cases s with
      | nil => rfl
      | cons a s =>
        obtain ⟨b, off, e, _⟩ := hr 0 (by simp)
        cases e
    subst hz
    refine goQ [bO .eql 22 (p := .slice none 0 cap) (q := .slice none 0 0) (v := .bool true) (by intros; kernel_rfl)] (nonR w) I fun β1 A1 w1 I1 hb1 => ?_
    exact outQ (v := .slice none 0 0) I1 ⟨none, 0, rfl, World.ownsRow_nil _ _ _ _, I1.hJ⟩
  | some ad =>
    generalize hn : s.length = n at *
    refine goQ [bO .eql 22 (p := .slice (some ad) n cap) (q := .slice none 0 0) (v := .bool false) (by intros; kernel_rfl)] (nonR w) I fun β1 A1 w1 I1 hb1 => ?_
    refine bslQ (ss := []) I1 (bsU0 w1) ?_
    have hw1 := I1.hJ
    have hbl : Below w1.heap.size w1 (w1.alloc (.cells #[] 38)) := below_alloc _ _
    have ho : (w1.alloc (.cells #[] 38)).ownsRow w.heap.size 38 4 (.slice (some ⟨w1.heap.size, 0, none⟩) 0 0) 0 [] := World.ownsRow_made w1 #[] 0 hw1.size (by decide) rfl
    have I2 : SI (fun w' => Below w.heap.size w w' ∧ w'.ownsRow w.heap.size 38 4 (.slice (some ⟨w1.heap.size, 0, none⟩) 0 0) 0 []) (fun k => k < w.heap.size ∨ k = w1.heap.size) [] β1 _ _ (w1.alloc (.cells #[] 38)) := I1.moved (Grow.of_below hbl) ⟨hw1.trans (hbl.mono hw1.size), ho⟩ (fun k hk h => by
      rcases h with h | h
      · exact h
      · omega) (.slice (some ⟨w1.heap.size, 0, none⟩) 0 0)
    have R2 : Rsrc (fun w' : World => Below w.heap.size w w' ∧ w'.ownsRow w.heap.size 38 4 (.slice (some ⟨w1.heap.size, 0, none⟩) 0 0) 0 []) (fun k => k < w.heap.size ∨ k = w1.heap.size) := ⟨fun x y hx gr => ⟨⟨gr.os.trans hx.1.os, gr.tape.trans hx.1.tape, gr.output.trans hx.1.output, Nat.le_trans hx.1.size gr.size, fun k hk => (gr.block k (Nat.lt_of_lt_of_le hk hx.1.size) (.inl hk)).trans (hx.1.block k hk)⟩, owns_grow hx.2 gr fun k hk => .inr (by have : w1.heap.size = k := Option.some.inj hk; omega)⟩, fun x k hx hk => by
      rcases hk with hk | hk
      · exact Nat.lt_of_lt_of_le hk hx.1.size
      · rw [hk]; exact (hx.2.lt _ rfl).2⟩
    refine goQ [] R2 I2 fun β3 A3 w3 I3 hb3 => ?_
    obtain ⟨iU, hU1, hU2, hU3, hU4⟩ := hIU
    have hnews : ∀ j u, (sC s)[j]? = some u → w3.cell? (ad.add j) = some u := fun j u hj => by
      have hjl : j < 4 * n := by have := (List.getElem?_eq_some_iff.1 hj).1; rw [sC_len] at this; omega
      rw [sC_at s j (by omega), hn] at hj
      obtain ⟨b, off, e, hc⟩ := hr (j / 4) (by omega)
      have e : ad = ⟨b, off, none⟩ := Option.some.inj e
      subst e
      have h1 := hc (j % 4) u hj
      rw [add_off]
      have e2 : off + j = off + j / 4 * 4 + j % 4 := by omega
      rw [e2]
      exact (World.cell?_of_block (a := ⟨b, off + j / 4 * 4 + j % 4, none⟩) (I3.hJ.1.block b (World.block_lt_of_cell? w ⟨b, off + j / 4 * 4 + j % 4, none⟩ h1))).trans h1
    obtain ⟨v', w4, hr4, ho4, hg4, _⟩ := run_append_own (P := Tryz.prog) w3 w.heap.size 22 22 38 iU _ 4 32 Tryz.underlying22 hU1 hU2 hU3 hU4 rfl (by decide) _ 0 [] I3.hJ.2 ad n cap (sC s) (by rw [sC_len]; omega) hnews (sC_one s) (by simp only [maxLen]; omega) (by omega) I3.hJ.1.size
    rw [List.nil_append, Nat.zero_add] at ho4
    obtain ⟨ad4, cap4, rfl⟩ := owns_slice ho4
    refine appQ (ss := [Sum.inl (.slice (some ⟨w1.heap.size, 0, none⟩) 0 0), Sum.inl (.slice (some ad) n cap)]) I3 hr4 ?_
    have hb4 : Below w.heap.size w w4 := ⟨hg4.os.trans I3.hJ.1.os, hg4.tape.trans I3.hJ.1.tape, hg4.output.trans I3.hJ.1.output, Nat.le_trans I3.hJ.1.size hg4.size, fun k hk => (hg4.block k (Nat.lt_of_lt_of_le hk I3.hJ.1.size) (fun e => by have e : k = w1.heap.size := Option.some.inj e; have := hw1.size; omega)).trans (I3.hJ.1.block k hk)⟩
    have I4 := I3.moved (J' := Below w4.heap.size w4) (F' := fun _ => False) ⟨hg4.os, hg4.tape, hg4.output, hg4.size, fun k hk hnn => hg4.block k hk fun e => hnn (.inr (Option.some.inj e))⟩ (Below.refl _ _) (fun k hk h => h.elim) (.slice ad4 n cap4)
    refine goQ [] (nonR w4) (I4.noRows (F' := (· < w4.heap.size))) fun β5 A5 w5 I5 hb5 => ?_
    exact outQ (v := .slice ad4 n cap4) I5 ⟨ad4, cap4, rfl, owns_grow (hn ▸ ho4) (Grow.of_below (F := fun _ => True) I5.hJ) (fun _ _ => trivial), hb4.trans (I5.hJ.mono hb4.size)⟩
/-- A machine that Step makes. -/
theorem stp_any (f : Fr) (v : Value) (hO : f.sd = 0 → OkR f) (hst : f.st.length ≤ 256) (w : World) (h : TT w) (hs : SkR w v f.st) : Calls Tryz.prog 11 #[frV f v] w fun e w' => ∃ x, e = .returned x ∧ FrO w (stepV f) x w' := by
  have h7 : 7 ≤ w.heap.size := by
    obtain ⟨t, fr, h⟩ := h.ts.p
    exact (Array.getElem?_eq_some_iff.1 h).1
  have hs' := hs
  obtain ⟨ad0, cap0, rfl, _⟩ := hs'
  have hlE : (stepV f).st.length ≤ 1000 := by
    by_cases hz : f.sd = 0
    · by_cases he : errV f = 0
      · rw [stepV_ok hz he]
        exact Nat.le_trans ((nxt_of (hO hz) hz (fine_of he)).ok hz).st (by decide)
      · rw [stepV_bad hz he]
        exact Nat.le_trans hst (by decide)
    · have e : stepV f = f := by unfold stepV; rw [if_pos hz]
      rw [e]
      exact Nat.le_trans hst (by decide)
  refine inQ (J := Below w.heap.size w) (F := (· < w.heap.size)) Tryz.func11 (Below.refl _ _) fun Az I => ?_
  refine goQ [dO 41 [0] (bd41 f.code f.inp f.mem f.out (.slice ad0 f.st.length cap0) f.pc f.gas f.sd f.er)] (nonR w) I fun β1 A1 w1 I1 hb1 => ?_
  obtain ⟨g, hg⟩ : ∃ g, β1 2 = g := ⟨_, rfl⟩
  have hr1 := I1.rowG 2 hg (r := mrow f (.slice ad0 f.st.length cap0) 0 0 (.slice none 0 0))
  have hge : ¬ (β1 2 < w.heap.size) := I1.dis _ (rowOf_mem (show rowOf _ 2 = some (mrow f (.slice ad0 f.st.length cap0) 0 0 (.slice none 0 0)) by kernel_rfl))
  rw [hg] at hge
  refine mcallX [Sum.inl (.slice ad0 f.st.length cap0)] Tryz.func18 I1 ((clone_any _ f.st (by omega) w1 (hs.below I1.hJ)).mono fun e w2 he => ?_)
  obtain ⟨ad2, cap2, rfl, ho2, hb2⟩ := he
  have hgl := hr1.lt
  have hbw2 : Below w.heap.size w w2 := I1.hJ.trans (hb2.mono I1.hJ.size)
  have hT2 := h.below hbw2
  have I2 : SI (RJ w g (.slice ad2 f.st.length cap2) f (.slice none 0 0)) (RjF w (.slice ad2 f.st.length cap2) (.slice none 0 0)) [] β1 _ _ w2 := I1.moved (Grow.of_below hb2) ⟨hbw2, ⟨own_base ho2 hgl, hT2.tb, hT2.ts, by omega, Nat.lt_of_lt_of_le hgl hb2.size, .inl rfl⟩, by omega⟩ (fun k hk hF => by
    rcases hF with hF | hF | hF
    · exact hF
    · have := (ho2.lt k hF).1; omega
    · cases hF) (.slice ad2 f.st.length cap2)
  by_cases hz : f.sd = 0
  · refine goQ [bO .eql 3 (run_eqlZ (x := f.sd) (y := 0) (b := true) (decide_eq_true hz))] (RJ.rs w h7 _ _ _ _) I2 fun β3 A3 w3 I3 hb3 => ?_
    have hz3 : β3 2 = g := agr hb3 2 hg
    refine mkfB (fn := .func 20) (ss := [Sum.inr (2, 0)]) (qs := []) I3 ?_
    refine goQ [] (RJ.rs w h7 _ _ _ _) (I3.same (.func (.func 20) #[ptr0 (β3 2)] #[])) fun β4 A4 w4 I4 hb4 => ?_
    have hz4 : β4 2 = g := agr hb4 2 hz3
    have hmi : MI g (.slice ad2 f.st.length cap2) f 0 0 (.slice none 0 0) w4 := ⟨I4.rowG 2 hz4, I4.hJ.c⟩
    have hcat := catch_any hmi (stepV f) Tryz.func20 (by kernel_rfl) (by kernel_rfl) #[ptr0 g] #[] fun w5 hb5 hmi5 => by
      refine (step_any (hO hz) hmi5).mono fun e w6 he => ?_
      obtain ⟨v6, dv6, ⟨e0, rfl, hp⟩ | ⟨e0, rfl, hp⟩⟩ := he
      · exact ⟨v6, dv6, _, _, _, hp, .inl ⟨rfl, (stepV_ok hz e0).symm⟩⟩
      · exact ⟨v6, dv6, _, _, _, hp, .inr ⟨_, rfl, (stepV_bad hz e0).symm⟩⟩
    generalize stepV f = fE at *
    refine mcallX [Sum.inr (2, 0), Sum.inl (.func (.func 20) #[ptr0 (β3 2)] #[])] Tryz.func19 I4 ?_
    have ea : ([Sum.inr (2, 0), Sum.inl (.func (.func 20) #[ptr0 (β3 2)] #[])].map (up β4)).toArray = #[ptr0 g, .func (.func 20) #[ptr0 g] #[]] := by
      rw [hz3]
      simp only [List.map_cons, List.map_nil, up]
      rw [hz4]
    rw [ea]
    refine hcat.mono fun e w5 he => ?_
    obtain ⟨rfl, v5, dv5, op5, pa5, hp5⟩ := he
    obtain ⟨ad5, cap5, rfl⟩ := owns_slice hp5.s.c.own
    refine (at_row (id := 2) (r := mrow fE (.slice ad5 fE.st.length cap5) op5 pa5 dv5)).1 ?_
    have I5 := I4.rj hz4 hp5 TU0 (r0 := mrow f (.slice ad2 f.st.length cap2) 0 0 (.slice none 0 0)) (by kernel_rfl)
    refine goQ [] (RJ.rs w h7 _ _ _ _) I5 fun β6 A6 w6 I6 hb6 => ?_
    have hz6 : β6 2 = g := agr hb6 2 hz4
    have hmi6 : MI g (.slice ad5 fE.st.length cap5) fE op5 pa5 dv5 w6 := ⟨I6.rowG 2 hz6, I6.hJ.c⟩
    refine mcallX [Sum.inr (2, 0)] Tryz.func21 I6 ?_
    have eb : ([Sum.inr (2, 0)].map (up β6)).toArray = #[ptr0 g] := by rw [← hz6]; rfl
    rw [eb]
    refine (mtold_any hmi6 hlE).mono fun e w7 he => ?_
    obtain ⟨ad7, cap7, rfl, hp7⟩ := he
    refine (at_row (id := 2) (r := mrow fE (.slice ad7 fE.st.length cap7) op5 pa5 dv5)).1 ?_
    have I7 := I6.rj hz6 hp7 (frV fE (.slice ad7 fE.st.length cap7)) (r0 := mrow fE (.slice ad5 fE.st.length cap5) op5 pa5 dv5) (by kernel_rfl)
    refine goQ [] (RJ.rs w h7 _ _ _ _) I7 fun β8 A8 w8 I8 hb8 => ?_
    exact outQ (v := frV fE (.slice ad7 fE.st.length cap7)) I8 ⟨_, rfl, ad7, cap7, rfl, own_base I8.hJ.c.own (by omega), I8.hJ.bw⟩
  · have e : stepV f = f := by unfold stepV; rw [if_pos hz]
    rw [e] at hlE ⊢
    refine goQ [bO .eql 3 (run_eqlZ (x := f.sd) (y := 0) (b := false) (decide_eq_false hz))] (RJ.rs w h7 _ _ _ _) I2 fun β6 A6 w6 I6 hb6 => ?_
    have hz6 : β6 2 = g := agr hb6 2 hg
    have hmi6 : MI g (.slice ad2 f.st.length cap2) f 0 0 (.slice none 0 0) w6 := ⟨I6.rowG 2 hz6, I6.hJ.c⟩
    refine mcallX [Sum.inr (2, 0)] Tryz.func21 I6 ?_
    have eb : ([Sum.inr (2, 0)].map (up β6)).toArray = #[ptr0 g] := by rw [← hz6]; rfl
    rw [eb]
    refine (mtold_any hmi6 hlE).mono fun e w7 he => ?_
    obtain ⟨ad7, cap7, rfl, hp7⟩ := he
    refine (at_row (id := 2) (r := mrow f (.slice ad7 f.st.length cap7) 0 0 (.slice none 0 0))).1 ?_
    have I7 := I6.rj hz6 hp7 (frV f (.slice ad7 f.st.length cap7)) (r0 := mrow f (.slice ad2 f.st.length cap2) 0 0 (.slice none 0 0)) (by kernel_rfl)
    refine goQ [] (RJ.rs w h7 _ _ _ _) I7 fun β8 A8 w8 I8 hb8 => ?_
    exact outQ (v := frV f (.slice ad7 f.st.length cap7)) I8 ⟨_, rfl, ad7, cap7, rfl, own_base I8.hJ.c.own (by omega), I8.hJ.bw⟩
end Go.Proofs.YtceedgdbhlpjlaaGreatDoor
