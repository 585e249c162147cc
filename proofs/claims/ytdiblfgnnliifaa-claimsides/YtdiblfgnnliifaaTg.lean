/- slices.Delete of one allocation out of a row of one's own. -/
import Derived.Test.YtdiblfgnnliifaaTf
namespace Go.Proofs.Ytdiblfgnnliifaa
open Go.RowKit Go.Sort
set_option linter.unusedVariables false
set_option maxRecDepth 100000
/-- A slice with three bounds. -/
def sB {T : World → Prop} (t : Nat) {p l m n v : Value} (h : ∀ w, (Instr.sliceAt t p (some l) (some m) (some n)).run Try.prog w = .ok v w) : Fa Try.prog T :=
  Sum.inr (Sum.inr ⟨fun o => match o with | .slice t' _ (some _) (some _) (some _) => t' == t | _ => false, #[p, l, m, n], v, true, by
    intro a w oo _ hok hx
    cases hop : oo.op with
    | slice t' x lo hi mx =>
      rw [hop] at hok hx
      cases lo with
      | none => simp at hok
      | some y =>
        cases hi with
        | none => simp at hok
        | some z =>
          cases mx with
          | none => simp at hok
          | some u =>
            simp at hok
            subst hok
            simp [opnds] at hx
            unfold execOp
            simp only [hop, Option.map_some, hx]
            rw [Sem.run_bind, h, Result.andThen_ok, Sem.run_pure]
    | _ => rw [hop] at hok; simp at hok⟩)
theorem sz22 (w : World) : (sizeOf (Try.prog.elem 22)).run Try.prog w = .ok 8 w := by kernel_rfl
theorem sl_to (ad : Option Addr) (n cap k : Nat) (h : k ≤ cap) (w : World) : (Instr.sliceAt 22 (.slice ad n cap) none (some (Z k)) none).run Try.prog w = .ok (.slice ad k cap) w := by
  rw [run_sliceAt_slice w 22 _ _ _ _ Try.underlying22, run_slice_h w 22 ad n cap Try.underlying22 .i64 k (by omega) (by omega), sz22]
  have e : (if cap = 0 then ad else ad.map (·.add (0 * 8))) = ad := by
    split
    · rfl
    · cases ad with
      | none => rfl
      | some a => obtain ⟨b, o, q⟩ := a; rfl
  simp only [Result.andThen_ok, sliced, e]
  rfl
def adF (ad : Option Addr) (cap k : Nat) : Option Addr := if cap = k then ad else ad.map (·.add (k * 8))
theorem sl_from (ad : Option Addr) (n cap k : Nat) (h : k ≤ n) (w : World) : (Instr.sliceAt 22 (.slice ad n cap) (some (Z k)) none none).run Try.prog w = .ok (.slice (adF ad cap k) (n - k) (cap - k)) w := by
  rw [run_sliceAt_slice w 22 _ _ _ _ Try.underlying22, run_slice_l w 22 ad n cap Try.underlying22 .i64 k (by omega) (by omega), sz22]
  rfl
theorem sl_both (ad : Option Addr) (n cap k m : Nat) (h : k ≤ m) (h2 : m ≤ cap) (w : World) : (Instr.sliceAt 22 (.slice ad n cap) (some (Z k)) (some (Z m)) none).run Try.prog w = .ok (.slice (adF ad cap k) (m - k) (cap - k)) w := by
  rw [run_sliceAt_slice w 22 _ _ _ _ Try.underlying22, run_slice_lh w 22 ad n cap Try.underlying22 .i64 .i64 k m (by omega) (by omega) (by omega), sz22]
  rfl
theorem sl_three (ad : Option Addr) (n cap k m u : Nat) (h : k ≤ m) (h2 : m ≤ u) (h3 : u ≤ cap) (w : World) : (Instr.sliceAt 22 (.slice ad n cap) (some (Z k)) (some (Z m)) (some (Z u))).run Try.prog w = .ok (.slice (adF ad u k) (m - k) (u - k)) w := by
  rw [run_sliceAt_slice w 22 _ _ _ _ Try.underlying22, run_slice_lhm w 22 ad n cap Try.underlying22 .i64 .i64 .i64 k m u (by omega) (by omega) (by omega) (by omega), sz22]
  rfl
/-- clear. -/
theorem clrQ {J : World → Prop} {F : Nat → Prop} {ds : List Deferred} {β : Nat → Nat} {c : Cf} {a : Act} {w : World} {Q : Exit → Act → World → Prop} {ts : Array TypeId} {ty : TypeId} {ss : List SV} (I : SI J F ds β c a w) {v : Value} {w' : World} (hr : (Builtin.clear_ ts ty (ss.map (up β)).toArray).run Try.prog w = .ok v w') (k : At Try.prog Q (nxtQ c v) (a.put (dstQ c) v) w') (hc : bltQ c = some (.clear, ts, ty, ss) := by kernel_rfl) : At Try.prog Q c a w := by
  obtain ⟨o, ho, cs, he⟩ := bltQ_some (P := Try.prog) hc I
  refine vstep ho I (v := v) (w' := w') ?_ k
  rw [he]
  simp [builtin, hr]
/-- The row that slices are cut out of: n of them are its own. -/
theorem own_cut {w : World} {b g n cap m : Nat} {xs : List Value} (h : w.ownsRow b 39 8 (.slice (some ⟨g, 0, none⟩) n cap) n xs) (hm : m ≤ n) : w.ownsRow b 39 8 (.slice (some ⟨g, 0, none⟩) m cap) m (xs.take (m * 8)) := by
  have hl := h.1
  have hle : m * 8 ≤ n * 8 := Nat.mul_le_mul_right _ hm
  rcases h.2 with ⟨he, _⟩ | ⟨g', cap', cur, he, hb, hg, hnc, hcm, hcs, hct⟩
  · cases he
  · cases he
    refine ⟨by rw [List.length_take]; omega, .inr ⟨g, cap, cur, rfl, hb, hg, by omega, hcm, hcs, ?_⟩⟩
    rw [← hct, List.take_take, Nat.min_eq_left hle]
/-- With other cells from a place on. -/
theorem own_over {w : World} {b g n cap : Nat} {xs : List Value} (h : w.ownsRow b 39 8 (.slice (some ⟨g, 0, none⟩) n cap) n xs) : ∃ cur : Array Value, w.heap[g]? = some (.cells cur 39 (0, 0)) ∧ cur.size = cap * 8 ∧ n ≤ cap ∧ cur.toList.take (n * 8) = xs ∧
    ∀ (o : Nat) (cs : List Value) (m : Nat) (ys : List Value), m ≤ cap → o + cs.length ≤ cap * 8 → (cur.toList.take o ++ cs ++ cur.toList.drop (o + cs.length)).take (m * 8) = ys →
      (w.setRow g (cur.toList.take o ++ cs ++ cur.toList.drop (o + cs.length)).toArray).ownsRow b 39 8 (.slice (some ⟨g, 0, none⟩) m cap) m ys := by
  rcases h.2 with ⟨he, _⟩ | ⟨g', cap', cur, he, hb, hg, hnc, hcm, hcs, hct⟩
  · cases he
  · cases he
    refine ⟨cur, hg, hcs, hnc, hct, fun o cs m ys hm ho hy => ⟨?_, .inr ⟨g, cap, _, rfl, hb, setRow_heap w g cur _ 39 _ hg, hm, hcm, ?_, by simpa using hy⟩⟩⟩
    · rw [← hy]
      simp only [List.length_take, List.length_append, List.length_drop, Array.length_toList, hcs]
      have := Nat.mul_le_mul_right 8 hm
      omega
    · simp only [List.size_toArray, List.length_append, List.length_take, List.length_drop, Array.length_toList, hcs]
      omega
theorem flat_take : ∀ (l : List Al) (k : Nat), ((l.map al8).flatten).take (k * 8) = ((l.take k).map al8).flatten
  | [], k => by simp
  | x :: l, 0 => by simp
  | x :: l, k + 1 => by
    have ih := flat_take l k
    have h8 : (al8 x).length = 8 := rfl
    show (al8 x ++ (l.map al8).flatten).take ((k + 1) * 8) = al8 x ++ ((l.take k).map al8).flatten
    rw [show (k + 1) * 8 = (al8 x).length + k * 8 by rw [h8]; omega, List.take_length_add_append, ih]
theorem flat_drop : ∀ (l : List Al) (k : Nat), ((l.map al8).flatten).drop (k * 8) = ((l.drop k).map al8).flatten
  | [], k => by simp
  | x :: l, 0 => by simp
  | x :: l, k + 1 => by
    have ih := flat_drop l k
    have h8 : (al8 x).length = 8 := rfl
    show (al8 x ++ (l.map al8).flatten).drop ((k + 1) * 8) = ((l.drop k).map al8).flatten
    rw [show (k + 1) * 8 = (al8 x).length + k * 8 by rw [h8]; omega, List.drop_length_add_append, ih]
theorem er_split (l : List Al) (k : Nat) : l.eraseIdx k = l.take k ++ l.drop (k + 1) := List.eraseIdx_eq_take_drop_succ l k
def DJ (w : World) (b g : Nat) (v : Value) (n : Nat) (xs : List Value) (w' : World) : Prop := Grow (fun k => k ≠ g) w w' ∧ g < w.heap.size ∧ v.ownBlock = some g ∧ w'.ownsRow b 39 8 v n xs
theorem DJ.rs (w : World) (b g : Nat) (v : Value) (n : Nat) (xs : List Value) : Rsrc (DJ w b g v n xs) (· < w.heap.size) :=
  ⟨fun A B h gr => ⟨⟨gr.os.trans h.1.os, gr.tape.trans h.1.tape, gr.output.trans h.1.output, Nat.le_trans h.1.size gr.size, fun k hk hn => (gr.block k (Nat.lt_of_lt_of_le hk h.1.size) hk).trans (h.1.block k hk hn)⟩, h.2.1, h.2.2.1, owns_grow h.2.2.2 gr fun k hk => by rw [h.2.2.1] at hk; cases hk; exact h.2.1⟩, fun A k h hk => Nat.lt_of_lt_of_le hk h.1.size⟩
theorem grow_row (w : World) (g : Nat) (r : Array Value) : Grow (fun k => k ≠ g) w (w.setRow g r) := grow_setRow w g r fun h => h rfl
theorem adF_in {g cap k : Nat} (h : k < cap) : adF (some ⟨g, 0, none⟩) cap k = some ⟨g, k * 8, none⟩ := by
  unfold adF
  rw [if_neg (by omega), Option.map_some, add_off, Nat.zero_add]
/-- What stands behind the one that goes is laid over it. -/
theorem del_app {w : World} {b g cap : Nat} {l : List Al} (h : w.ownsRow b 39 8 (.slice (some ⟨g, 0, none⟩) l.length cap) l.length (l.map al8).flatten) {k : Nat} (hk : k < l.length) (hll : l.length < 1000000) :
    ∃ w', (Builtin.append_ #[22, 22] 22 #[.slice (some ⟨g, 0, none⟩) k cap, .slice (adF (some ⟨g, 0, none⟩) cap (k + 1)) (l.length - (k + 1)) (cap - (k + 1))]).run Try.prog w = .ok (.slice (some ⟨g, 0, none⟩) (l.length - 1) cap) w' ∧ w'.ownsRow b 39 8 (.slice (some ⟨g, 0, none⟩) (l.length - 1) cap) (l.length - 1) ((l.eraseIdx k).map al8).flatten ∧ Grow (fun k => k ≠ g) w w' := by
  obtain ⟨cur, hg, hcs, hnc, hct, hov⟩ := own_over h
  have hf : ((l.eraseIdx k).map al8).flatten = ((l.take k).map al8).flatten ++ ((l.drop (k + 1)).map al8).flatten := by rw [er_split]; simp
  by_cases hlast : k + 1 = l.length
  · have hc := own_cut h (m := k) (by omega)
    rw [show l.length - (k + 1) = 0 by omega, show l.length - 1 = k by omega]
    refine ⟨w, app_zero hc _ _, ?_, Grow.refl _ _⟩
    rw [hf, List.drop_eq_nil_of_le (by omega), ← flat_take]
    simpa using hc
  · obtain ⟨i, hi, hz, hs, hby⟩ := hI42
    have hnl : ((l.drop (k + 1)).map al8).flatten.length = (l.length - (k + 1)) * 8 := by rw [flat_len8, List.length_drop]
    have hcap8 : l.length * 8 ≤ cap * 8 := Nat.mul_le_mul_right _ hnc
    rw [adF_in (by omega)]
    have hr := run_append_room (P := Try.prog) w 22 22 39 i Try.underlying22 hi g k cap cur hg ⟨g, (k + 1) * 8, none⟩ (l.length - (k + 1)) (cap - (k + 1)) ((l.drop (k + 1)).map al8).flatten (by rw [hs]; exact hnl) (fun j u hu => by
      rw [← flat_drop, List.getElem?_drop] at hu
      have := h.cells (g := g) rfl _ _ hu
      rw [add_off, Nat.zero_add] at this
      rw [add_off]
      exact this) (fun u hu => one8 hu) (by omega) (by rw [hs, hnl, hcs]; omega)
    rw [hs, show k + (l.length - (k + 1)) = l.length - 1 by omega] at hr
    refine ⟨_, hr, ?_, grow_row _ _ _⟩
    refine hov (k * 8) _ (l.length - 1) _ (by omega) (by rw [hnl]; omega) ?_
    have e1 : cur.toList.take (k * 8) = ((l.take k).map al8).flatten := by
      rw [← flat_take, ← hct, List.take_take, Nat.min_eq_left (by omega)]
    rw [hf, e1]
    refine List.take_left' ?_
    rw [List.length_append, hnl, flat_len8, List.length_take]
    omega
abbrev zC : List Value := (Builtin.zeroCells (Value.agg #[.string ⟨#[]⟩, B 0, B 0, B 0, B 0, Z 0, .string ⟨#[]⟩, .string ⟨#[]⟩]).cells 1).toList
theorem del_clr {w : World} {b g cap n : Nat} {xs : List Value} (h : w.ownsRow b 39 8 (.slice (some ⟨g, 0, none⟩) n cap) n xs) (hn : n < cap) (ty : TypeId) (c : Nat) :
    ∃ w', (Builtin.clear_ #[22] ty #[.slice (some ⟨g, n * 8, none⟩) 1 c]).run Try.prog w = .ok (.tuple #[]) w' ∧ w'.ownsRow b 39 8 (.slice (some ⟨g, 0, none⟩) n cap) n xs ∧ Grow (fun k => k ≠ g) w w' := by
  obtain ⟨cur, hg, hcs, hnc, hct, hov⟩ := own_over h
  obtain ⟨i, hi, hz, hs, hby⟩ := hI42
  have hzl : zC.length = 8 := by kernel_rfl
  have hz1 : ∀ u ∈ zC, u.oneCell' = true := List.all_eq_true.1 (show zC.all (·.oneCell') = true by kernel_rfl)
  have hst := run_storeCells_at Try.prog g (n * 8) 39 zC 0 cur w hg (by rw [hzl, hcs]; omega) hz1
  simp only [Nat.add_zero] at hst
  refine ⟨_, ?_, hov (n * 8) zC n xs (by omega) (by rw [hzl]; omega) ?_, grow_row _ _ _⟩
  · simp [Builtin.clear_, run_underlying Try.underlying22, zeroValue, typeInfo, hi, hz, hst]
  · rw [List.append_assoc, List.take_append_of_le_length (by rw [List.length_take, Array.length_toList]; omega), List.take_take, Nat.min_self, hct]
set_option maxHeartbeats 2000000 in
theorem delete_any {w : World} {b g cap : Nat} {l : List Al} (h : w.ownsRow b 39 8 (.slice (some ⟨g, 0, none⟩) l.length cap) l.length (l.map al8).flatten) {k : Nat} (hk : k < l.length) (hll : l.length < 1000000) :
    Calls Try.prog 25 #[.slice (some ⟨g, 0, none⟩) l.length cap, Z k, Z (k + 1 : Nat)] w fun e w' => e = .returned (.slice (some ⟨g, 0, none⟩) (l.length - 1) cap) ∧ w'.ownsRow b 39 8 (.slice (some ⟨g, 0, none⟩) (l.length - 1) cap) (l.length - 1) ((l.eraseIdx k).map al8).flatten ∧ Grow (fun k => k ≠ g) w w' := by
  have hgl : g < w.heap.size := (h.lt g rfl).2
  obtain ⟨_, _, _, hnc, _, _⟩ := own_over h
  refine inQ (J := DJ w b g (.slice (some ⟨g, 0, none⟩) l.length cap) l.length (l.map al8).flatten) (F := (· < w.heap.size)) Try.func25 ⟨Grow.refl _ _, hgl, rfl, h⟩ fun a I => ?_
  refine goQ [lnA (some ⟨g, 0, none⟩) l.length cap, sB 22 (sl_three (some ⟨g, 0, none⟩) l.length cap k (k + 1) l.length (by omega) (by omega) hnc), bO .eql 3 (run_eqlZ (x := k) (y := (k + 1 : Nat)) (b := false) (decide_eq_false (by omega))), lnA (some ⟨g, 0, none⟩) l.length cap] (DJ.rs _ _ _ _ _ _) I fun β1 a1 w1 I hb1 => ?_
  refine dwT (T := fun _ => True) 6 [sT 22 (sl_to (some ⟨g, 0, none⟩) l.length cap k (by omega)), sO 22 (sl_from (some ⟨g, 0, none⟩) l.length cap (k + 1) (by omega))] (DJ.rs _ _ _ _ _ _) (fun _ _ => trivial) PanOk.post I fun a2 w2 I => ?_
  obtain ⟨w3, hr3, ho3, hg3⟩ := del_app I.hJ.2.2.2 hk hll
  refine appQ (ss := [Sum.inl (.slice (some ⟨g, 0, none⟩) k cap), Sum.inl (.slice (adF (some ⟨g, 0, none⟩) cap (k + 1)) (l.length - (k + 1)) (cap - (k + 1)))]) I hr3 ?_
  have hle : w.heap.size ≤ w2.heap.size := I.hJ.1.size
  have J3 : DJ w b g (.slice (some ⟨g, 0, none⟩) (l.length - 1) cap) (l.length - 1) ((l.eraseIdx k).map al8).flatten w3 := ⟨I.hJ.1.trans hg3, hgl, rfl, ho3⟩
  have I3 := I.moved (F' := (· < w.heap.size)) (hg3.mono fun k hk => fun e => hk (by rw [e]; exact hgl)) J3 (fun _ _ h => h) (.slice (some ⟨g, 0, none⟩) (l.length - 1) cap)
  clear J3 I
  generalize ((l.eraseIdx k).map al8).flatten = ys at *
  refine goQ [lnA (some ⟨g, 0, none⟩) (l.length - 1) cap, sLH 22 (sl_both (some ⟨g, 0, none⟩) (l.length - 1) cap (l.length - 1) l.length (by omega) hnc)] (DJ.rs _ _ _ _ _ _) I3 fun β4 a4 w4 I hb4 => ?_
  obtain ⟨w5, hr5, ho5, hg5⟩ := del_clr I.hJ.2.2.2 (by omega) 0 (cap - (l.length - 1))
  have hr6 : (Builtin.clear_ #[22] 0 #[.slice (adF (some ⟨g, 0, none⟩) cap (l.length - 1)) (l.length - (l.length - 1)) (cap - (l.length - 1))]).run Try.prog w4 = .ok (.tuple #[]) w5 := by
    rw [adF_in (by omega), show l.length - (l.length - 1) = 1 by omega]
    exact hr5
  refine clrQ (ss := [Sum.inl (.slice (adF (some ⟨g, 0, none⟩) cap (l.length - 1)) (l.length - (l.length - 1)) (cap - (l.length - 1)))]) I hr6 ?_
  have J5 : DJ w b g (.slice (some ⟨g, 0, none⟩) (l.length - 1) cap) (l.length - 1) ys w5 := ⟨I.hJ.1.trans hg5, hgl, rfl, ho5⟩
  have I5 := I.moved (F' := (· < w.heap.size)) (hg5.mono fun k hk => fun e => hk (by rw [e]; exact hgl)) J5 (fun _ _ h => h) (.tuple #[])
  refine goQ [] (DJ.rs _ _ _ _ _ _) I5 fun β6 a6 w6 I hb6 => ?_
  exact outQ (v := .slice (some ⟨g, 0, none⟩) (l.length - 1) cap) I ⟨rfl, I.hJ.2.2.2, I.hJ.1⟩
end Go.Proofs.Ytdiblfgnnliifaa
