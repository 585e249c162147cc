/- Contract of the program's Sum. -/
import Derived.Test.YtdlanihbpbfbcaaDoorHi
import Derived.Sort.CutIn
namespace Go.Proofs.YtdlanihbpbfbcaaDoor
open Go.RowKit Go.Shelf
set_option linter.unusedVariables false
attribute [local go_sem] Oper.semAt_some

/-- The parts behind some blocks. -/
def spg (l : List BA) : Nat → Nat := l.foldl (fun f x => prm (tk f x.1 136) 24) (fun _ => 0)
theorem spg_snoc (l : List BA) (x : BA) : spg (l ++ [x]) = prm (tk (spg l) x.1 136) 24 := by simp [spg]
theorem spg_lt (l : List BA) : P25 (spg l) := by
  suffices h : ∀ (l : List BA) (f : Nat → Nat), P25 f → P25 (l.foldl (fun f x => prm (tk f x.1 136) 24) f) from h l _ (fun _ _ => by decide)
  intro l
  induction l with
  | nil => intro f hf; exact hf
  | cons x l ih => intro f hf; exact ih _ (prm_lt (tk_lt hf (fun i _ => x.2 i) 136 (Nat.le_refl _)) 24 (Nat.le_refl _))
theorem Calls.v2 {fn : Nat} {f g h : Nat → Nat} {w : World} (hc : Calls Tryd.prog fn #[A25 f, B136 g] w fun e w' => e = .returned (A25 h) ∧ Below w.heap.size w w') :
    Calls Tryd.prog fn #[A25 f, B136 g] w fun e w' => (∃ c', e = .returned (.agg c') ∧ IsRow c' .u64 25 h) ∧ Below w.heap.size w w' :=
  hc.mono fun e w' ⟨he, hb⟩ => ⟨⟨_, he, ⟨rfl⟩⟩, hb⟩
theorem HasRow.grown {X Y : World} {g : Nat} {c : Array Value} {row : Option Nat} (h : HasRow X g c) (hg : X.grownBy Y row) (hne : some g ≠ row) : HasRow Y g c := by
  have hlt := h.lt
  obtain ⟨t, h⟩ := h
  exact ⟨t, (hg.block g hlt hne).trans h⟩
theorem keeps_below {W W' : World} (h : Below W.heap.size W W') : KeepsOthers W W' :=
  ⟨h.size, fun k o hk _ => by rw [h.block k (Array.getElem?_eq_some_iff.1 hk).1]; exact hk⟩
theorem keeps_setRow {W : World} {g : Nat} {c : Array Value} (h : HasRow W g c) (c' : Array Value) : KeepsOthers W (W.setRow g c') := by
  obtain ⟨t, h⟩ := h
  refine ⟨by rw [size_setRow]; exact Nat.le_refl _, fun k o hk ho => ?_⟩
  have hne : ¬ g = k := fun e => by subst e; rw [h] at hk; cases hk; cases ho
  simp only [World.setRow, Array.getElem?_modify, hne, if_false]
  exact hk
theorem blocks_any (s : ByteArray) (w : World) : Calls Tryd.prog 20 #[.string s] w fun e w' => e = .returned (.func (.func 26) #[] #[.pointer (some ⟨w.heap.size, 0, none⟩)]) ∧ w' = w.alloc (.cells #[.string s] 9) := by
  go_enter Tryd.func20, Tryd.ntmps20
  go_wp2
  go_ret
  exact ⟨rfl, rfl⟩
theorem below_grown {W W' : World} (h : Below W.heap.size W W') : W.grownBy W' none :=
  ⟨h.os, h.tape, h.output, h.size, fun k hk _ => h.block k hk⟩
theorem blocks_stops (n : Nat) (hn : 1 ≤ n) (Bs : Nat) (s : ByteArray) (w0 : World) (hlt : Bs < w0.heap.size) (hBs : w0.cell? ⟨Bs, 0, none⟩ = some (.string s)) :
    SeqStopsK Fence.wide n Tryd.prog 26 #[.pointer (some ⟨Bs, 0, none⟩)] (fun x : BA => #[B136 x.1]) KeepsWalks (fun xs => xs = blks s) (fun _ => True) (s.size / 136 + 1) w0 :=
  fun l J Jx W hW hJ hJx hY h0 => blocks1_in n hn l Bs s J Jx (fun pre A B hj hb => hJ pre A B none hj (below_grown hb) (fun r e => by cases e)) hY W ((hW.cell (p := ⟨Bs, 0, none⟩) hlt).trans hBs) h0

set_option maxRecDepth 100000 in
set_option maxHeartbeats 4000000 in
theorem sum_any (s : ByteArray) (w : World) (ht : Tabs w ki) : Calls Tryd.prog 15 #[.string s] w fun e w' => e = .returned (.string (told (spg (blks s)))) ∧ Below w.heap.size w w' := by
  have HT0 : Hid (Tabs w ki) := ht
  clear ht
  refine (callsIn_wide (n := 6)).1 ?_
  refine callsIn_of_wp_marks Tryd.func15 rfl trivial ?_ rfl
  simp only [Tryd.ntmps15, List.size_toArray, List.length_cons, List.length_nil, Nat.reduceAdd, Nat.reduceSub, Array.replicate_succ, Array.replicate_zero, List.push_toArray, List.append_toArray, List.nil_append, List.cons_append]
  gi_wp2_with fail
  refine ⟨trivial, (callsIn_wide.2 (blocks_any s _)).mono ?_⟩
  rintro e w1 ⟨rfl, rfl⟩
  have K0 : Hid (HasRow ((w.alloc (Obj.cells z25 42)).alloc (Obj.cells #[.string s] 9)) w.heap.size (ag .u64 25 (spg [])) ∧ Below w.heap.size w ((w.alloc (Obj.cells z25 42)).alloc (Obj.cells #[.string s] 9))) :=
    ⟨HasRow.old (HasRow.last rfl), by repeat (first | exact Below.refl _ _ | refine bel_alloc ?_ _)⟩
  have hcell : ((w.alloc (Obj.cells z25 42)).alloc (Obj.cells #[.string s] 9)).cell? ⟨w.heap.size + 1, 0, none⟩ = some (.string s) := by
    simp
  have hsz : ((w.alloc (Obj.cells z25 42)).alloc (Obj.cells #[.string s] 9)).heap.size = w.heap.size + 1 + 1 := by simp
  have HC : Hid _ := hcell
  clear hcell
  gi_wp2
  obtain ⟨W0, hW0⟩ : ∃ W0, (w.alloc (Obj.cells z25 42)).alloc (Obj.cells #[.string s] 9) = W0 := ⟨_, rfl⟩
  rw [hW0] at K0 HC hsz ⊢
  clear hW0
  refine wpIn_rangeFunc_ownH rfl (by decide) (gf := 26) (lb := #[.pointer (some ⟨w.heap.size + 1, 0, none⟩)]) rfl trivial (enters_of Tryd.func26 (by kernel_rfl) rfl)
    (blocks_stops 5 (by decide) (w.heap.size + 1) s W0 (by omega) HC.out) walksK_t walksK_b (Below.refl _ _) (fun _ => rfl)
    (fun pre W => HasRow W w.heap.size (ag .u64 25 (spg pre)) ∧ Below w.heap.size w W)
    (fun _ _ _ => False)
    (OwnFrom.and (fun pre X Y row hs hg hr => HasRow.grown hs hg (fun e => by have := (hr _ e.symm).1; omega)) (ownFrom_below (Nat.le_refl _) (by omega)))
    (fun _ _ _ _ _ hs _ _ => hs)
    K0.out
    (fun x a' W => ∃ Bx, HasRow W Bx (ag .u8 136 x.1) ∧ a' = { tmps := #[.string s, undef, .string { data := #[] }, .pointer (some ⟨w.heap.size, 0, none⟩), .pointer (some ⟨Bx, 0, none⟩), .string s, .func (.func 26) #[] #[.pointer (some ⟨w.heap.size + 1, 0, none⟩)], B136 x.1, undef, undef, undef, undef, undef, undef], defers := [] })
    (fun x a' _ X Y row hs hg hr => by
      obtain ⟨Bx, h2, h3⟩ := hs
      refine ⟨Bx, HasRow.grown h2 hg (fun e => ?_), h3⟩
      obtain ⟨_, o, ho, hc⟩ := hr _ e.symm
      obtain ⟨t, h2⟩ := h2
      rw [h2] at ho; cases ho; cases hc)
    ?assign ?body ?done ?stop
  case assign =>
    rintro l pre x W K ⟨r1, hB⟩ hK
    have hz := fun w => zero31 w
    have hst := run_storeCells_to (P := Tryd.prog) (k := .u8) (f := x.1) (g := W.heap.size) 46 (by kernel_rfl) (StoreTo.last (w := W) (c := ag .u8 136 fun _ => 0) (t := 46) rfl (ag_size _ _ _))
    have hss := ag_size .u8 136 x.1
    gi_wp2
    exact hK _ _ ((KeepsOthers.alloc _ _).from _) (KeepsOthers.alloc _ _).walks ⟨HasRow.old r1, bel_alloc hB _⟩ ⟨W.heap.size, HasRow.last rfl, rfl⟩
  case body =>
    rintro l pre x a' W hl ⟨r, hr⟩ ⟨r1, hB⟩ ⟨Bx, r2, rfl⟩ hlt
    have R1 : Hid (HasRow W w.heap.size (ag .u64 25 (spg pre))) := r1
    have R2 : Hid (HasRow W Bx (ag .u8 136 x.1)) := r2
    have BL : Hid (Below w.heap.size w W) := hB
    clear r1 r2 hB hr hlt hl
    obtain ⟨f0, hf0⟩ : ∃ q, q = spg pre := ⟨_, rfl⟩
    rw [← hf0] at R1
    have HF : Hid _ := hf0
    have LF : Hid (P25 f0) := by show P25 f0; rw [hf0]; exact spg_lt pre
    clear hf0
    have GX : Hid (∀ i, i < 136 → x.1 i < 256) := fun i _ => x.2 i
    obtain ⟨g0, hg0⟩ : ∃ q, q = x.1 := ⟨_, rfl⟩
    rw [← hg0] at R2 GX ⊢
    have HG : Hid _ := hg0
    clear hg0
    refine wpIn_block ?_
    refine wpIn_region_lit ?_
    refine wpListIn_plain rfl fun K hK => opIn_load 42 (.tmp 3) rfl w.heap.size rfl .u64 25 f0 R1.out Tryd.underlying42 (by kernel_rfl) (hK _ _ ?_)
    clear hK K
    refine wpListIn_plain rfl fun K hK => opIn_load 46 (.tmp 4) rfl Bx rfl .u8 136 g0 R2.out Tryd.underlying46 (by kernel_rfl) (hK _ _ ?_)
    clear hK K
    simp only [Act.put]
    gi_wp2_with fail
    refine ⟨trivial, (CallsIn.inRound l (callsIn_wide.2 (Calls.v2 (taken_any f0 g0 LF.out GX.out _)))).mono ?_⟩
    rintro e w1 ⟨⟨c1, rfl, hc1⟩, hb1⟩
    have C1 : Hid _ := hc1
    have B1 : Hid (Below W.heap.size W w1) := hb1
    clear hc1 hb1
    gi_wp2_with fail
    refine ⟨trivial, (CallsIn.inRound l (callsIn_wide.2 (Calls.v25 (permute_any (tk f0 g0 136) (tk_lt LF.out GX.out 136 (Nat.le_refl _)) _ (HT0.out.below (BL.out.trans (B1.out.mono BL.out.size)))) C1.out))).mono ?_⟩
    rintro e w2 ⟨⟨c2, rfl, hc2⟩, hb2⟩
    have B2 : Hid (Below W.heap.size W w2) := B1.out.trans (hb2.mono B1.out.size)
    have Q1 : Hid (HasRow w2 w.heap.size (ag .u64 25 f0)) := R1.out.below B2.out
    have hsz2 := hc2.size
    have hsc := run_storeCells_v (P := Tryd.prog) hc2 (g := w.heap.size) 42 (by kernel_rfl) (StoreTo.row Q1.out (ag_size _ _ _))
    clear hc2 hb2
    gi_wp2
    have k2 : KeepsOthers W (w2.setRow w.heap.size (ag .u64 25 (prm (tk f0 g0 136) 24))) := (keeps_below B2.out).trans (keeps_setRow Q1.out _)
    refine ⟨k2.from _, k2.walks, ?_, ?_⟩
    · rw [spg_snoc, ← HF.out, ← HG.out]
      exact Q1.out.set_same _
    · exact below_setRow (BL.out.trans (B2.out.mono BL.out.size)) (Nat.le_refl _) _
  case done =>
    rintro D ys W hD rfl ⟨r1, hB⟩ hK
    obtain ⟨f0, hf0⟩ : ∃ q, q = spg (blks s) := ⟨_, rfl⟩
    rw [← hf0] at r1
    have R1 : Hid (HasRow W w.heap.size (ag .u64 25 f0)) := r1
    have BL : Hid (Below w.heap.size w W) := hB
    have HK : Hid (W.heap[D]? = some (.deferred (some []))) := hK
    have HF : Hid _ := hf0
    clear r1 hB hK hf0
    gi_upto_region 5 with fail
    refine wpIn_region_lit ?_
    refine wpListIn_plain rfl fun K hK => opIn_load 42 (.tmp 3) rfl w.heap.size rfl .u64 25 f0 R1.out Tryd.underlying42 (by kernel_rfl) (hK _ _ ?_)
    clear hK K
    simp only [Act.put]
    gi_wp2_with fail
    refine ⟨trivial, (callsIn_wide.2 (told_any f0 _)).mono ?_⟩
    rintro e w1 ⟨rfl, hb1⟩
    have B1 : Hid (Below W.heap.size W w1) := hb1
    clear hb1
    gi_wp2
    have hK := HK.out
    have hDlt : D < W.heap.size := (Array.getElem?_eq_some_iff.1 hK).1
    have hK1 : w1.heap[D]? = some (.deferred (some [])) := by rw [B1.out.block D hDlt]; exact hK
    have hb2 : Below w.heap.size w w1 := BL.out.trans (B1.out.mono BL.out.size)
    refine ⟨by simp, .inl ⟨_, _, rfl, run_takeDeferred hK1, ?_⟩⟩
    exact ⟨_, results_tmp rfl _ _ _, by rw [← HF.out]; rfl, hb2.trans (belowK_b (w := w) (Nat.le_refl _) w1 D _ _ (by omega) hK1 rfl rfl)⟩
  case stop =>
    rintro D c pre W _ _ h _
    exact h.elim
end Go.Proofs.YtdlanihbpbfbcaaDoor
