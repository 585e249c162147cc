/- Laid one behind the other: SWb, SWc, SWd, SWe, SWf, SWg, SWh, SWi, SWj, SWm, SWn. -/
import Derived.Test.YthkpgfbjdabflaaGreatDoorKkGm
import Derived.Test.YthkpgfbjdabflaaGreatDoorKkUa
import Derived.Test.YthkpgfbjdabflaaGreatDoorKkNa
import Derived.Test.YthkpgfbjdabflaaGreatDoorKkOp
namespace Go.Proofs.YthkpgfbjdabflaaGreatDoor
open Go.RowKit Go.Sort Go.Proofs.Tryz
set_option linter.unusedVariables false
set_option maxRecDepth 100000
set_option maxHeartbeats 4000000
section
set_option linter.unusedSimpArgs false
theorem padding_any (n : Nat) (hn : n < 1000000000000) (w : World) : Calls Tryz.prog 129 #[Z n] w fun e w' => e = .returned (Z ((32 - n % 32) % 32 : Nat)) ∧ Below w.heap.size w w' := by
  refine inQ (J := Below w.heap.size w) (F := (· < w.heap.size)) Tryz.func129 (Below.refl _ _) fun a I => ?_
  refine goQ [bO .rem 3 (run_remZ (x := n) (y := 32) (z := (n % 32 : Nat)) (by decide) (by rw [Int.tmod_eq_emod_of_nonneg (by omega)]; omega)),
    bO .sub 3 (qg (x := 32) (y := (n % 32 : Nat)) (z := (32 - n % 32 : Nat)) (by rw [wz (by omega) (by omega)]; omega)),
    bO .rem 3 (run_remZ (x := (32 - n % 32 : Nat)) (y := 32) (z := ((32 - n % 32) % 32 : Nat)) (by decide) (by rw [Int.tmod_eq_emod_of_nonneg (by omega)]; omega))] (zd w) I fun β a w' I _ => ?_
  exact zm I ⟨rfl, I.hJ⟩
end
theorem owns_block {w : World} {g e : Nat} {v : Value} {n : Nat} {xs : List Value} (h : w.ownsRow (g + 1) e 1 v n xs) : v.ownBlock ≠ some g := fun q => by have := (h.lt g q).1; omega
theorem WS.start {W0 : World} {g : Nat} {v : Value} {l : List UInt8} {w : World} (h : Wr W0 g v l w) : WS W0 w g v v l w := ⟨h.bw, h.hg, h.row.lt, h.own, zq.refl _ _, fun k hk => .inl hk⟩
theorem WS.not {W0 wE : World} {g : Nat} {v0 v : Value} {l : List UInt8} {w : World} (h : WS W0 wE g v0 v l w) : ¬ WSF wE g v g := by
  rintro (h1 | h1)
  · exact h1.2 rfl
  · exact owns_block h.own h1
theorem WS.done {W0 wE : World} {g : Nat} {v0 v : Value} {l : List UInt8} {w : World} (h : WS W0 wE g v0 v l w) (hr : zb w g #[v]) : WrP W0 g v0 wE v l w := ⟨⟨h.bw, h.hg, hr, h.own⟩, h.gr, h.nb⟩
/-- Behind a method called on the same writer, whose row is number 0. -/
theorem SI.called {W0 wE : World} {g : Nat} {v0 v v' : Value} {l l' : List UInt8} {w w' : World} {ds : List Deferred} {β : Nat → Nat} {c : Cf} {a : Act} {u : Value} (I : SI (WS W0 wE g v0 v l) (WSF wE g v) ds β c a w) (hb : β 0 = g) (hp : WrP W0 g v w v' l' w') (r : Value) (hid : xo c.rows 0 = some #[u] := by kernel_rfl) :
    SI (WS W0 wE g v0 v' l') (WSF wE g v') ds β (rowQ (xp c r) 0 #[v']) (a.put (yt c) r) w' := by
  have hw0 := I.hJ.hg
  have hlt := I.hJ.lt
  refine I.rowed hid ⟨hp.gr.os, hp.gr.tape, hp.gr.output, hp.gr.size, fun k hk hn => hp.gr.block k hk ?_⟩ (by rw [hb]; exact hp.wr.row) ?_ (fun k hk h => ?_) r
  · rintro (h | h | h)
    · exact hn.1 (.inl ⟨by omega, by omega⟩)
    · exact hn.2 (by rw [hb]; exact h)
    · exact hn.1 (.inr h)
  · refine ⟨hp.wr.bw, hp.wr.hg, hlt, hp.wr.own, ?_, ?_⟩
    · refine ⟨hp.gr.os.trans I.hJ.gr.os, hp.gr.tape.trans I.hJ.gr.tape, hp.gr.output.trans I.hJ.gr.output, Nat.le_trans I.hJ.gr.size hp.gr.size, fun k hk hn => (hp.gr.block k (Nat.lt_of_lt_of_le hk I.hJ.gr.size) ?_).trans (I.hJ.gr.block k hk hn)⟩
      rintro (h | h | h)
      · exact hn (.inl h)
      · exact hn (.inr (.inl h))
      · rcases I.hJ.nb k h with h1 | h1
        · exact hn (.inr (.inr h1))
        · omega
    · intro k hk
      rcases hp.nb k hk with h1 | h1
      · exact I.hJ.nb k h1
      · exact .inr (Nat.le_trans I.hJ.gr.size h1)
  · rcases h with h | h
    · exact .inl h
    · rcases hp.nb k h with h1 | h1
      · exact .inr h1
      · omega
abbrev T0 : Value := .tuple #[]
theorem zeros_any {W0 : World} {g : Nat} {v : Value} {l : List UInt8} {w : World} (h : Wr W0 g v l w) (n : Nat) (hn : l.length + n ≤ 1000000000000) :
    Calls Tryz.prog 96 #[zz g, Z n] w fun e w' => e = .returned T0 ∧ ∃ v', WrP W0 g v w v' (l ++ List.replicate n 0) w' := by
  refine inG (J := WS W0 w g v v l) (F := WSF w g v) [Z n] Tryz.func96 (WS.start h) h.row (WS.start h).not fun a I => ?_
  refine goQ [] (WS.rs _ _ _ _ _ _) I fun β a w1 I hb => ?_
  have hb0 : β 0 = g := agr hb 0 rfl
  obtain ⟨v', w', hr, ho, hg⟩ := app_zeros I.hJ.own (by have := I.hJ.lt; have := I.hJ.gr.size; omega) n hn
  obtain ⟨ad, cap, rfl⟩ := yo ho
  refine appQ (ss := [Sum.inl v, Sum.inl (Z n)]) I hr ?_
  refine goQ [] (WS.rs _ _ _ _ _ _) (I.grown (l' := l ++ List.replicate n 0) (by simpa using ho) hg _) fun β2 a2 w2 I2 hb2 => ?_
  have hb20 : β2 0 = g := agr hb2 0 hb0
  exact x9 I2 ⟨rfl, _, I2.hJ.done (I2.rowG 0 hb20 (r := #[.slice ad (l.length + n) cap]))⟩
abbrev wb (n : Nat) : List UInt8 := (ky n).data.toList
theorem qu (n : Nat) : (wb n).length = 32 := by
  have : (ky n).size = 32 := zab n
  rw [← this]
  exact Array.length_toList
theorem ofw_any (n : Nat) (hn : n < 1000000000000) (w : World) : Calls Tryz.prog 98 #[Z n] w fun e w' => e = .returned (U n) ∧ Below w.heap.size w w' := by
  have hw : (convert 3 23 (Z n)).run Tryz.prog w = .ok (B n) w := by
    have := IntKind.wrap_u64 (n : Int)
    simp [go_sem]
    omega
  refine inQ (J := Below w.heap.size w) (F := (· < w.heap.size)) Tryz.func98 (Below.refl _ _) fun a I => ?_
  refine goQ [vO 3 23 (p := Z n) (v := B n) (by intro w; have := IntKind.wrap_u64 (n : Int); simp [go_sem]; omega), kC Tryz.func48 (zcx n (by unfold M; omega))] (zd w) I fun β a w' I _ => ?_
  exact zm I ⟨rfl, I.hJ⟩
theorem count_any {W0 : World} {g : Nat} {v : Value} {l : List UInt8} {w : World} (h : Wr W0 g v l w) (n : Nat) (hn : n < 1000000000000) (hl : l.length + 32 ≤ 1000000000000) :
    Calls Tryz.prog 100 #[zz g, Z n] w fun e w' => e = .returned T0 ∧ ∃ v', WrP W0 g v w v' (l ++ wb n) w' := by
  refine inG (J := WS W0 w g v v l) (F := WSF w g v) [Z n] Tryz.func100 (WS.start h) h.row (WS.start h).not fun a I => ?_
  refine dwQ 8 [kC Tryz.func98 (ofw_any n hn), kC Tryz.func47 (za4 n)] (WS.rs _ _ _ _ _ _) zk.post I fun a w1 I => ?_
  have hz : (ky n).size = 32 := zab n
  obtain ⟨v', w', hr, ho, hg⟩ := app_str I.hJ.own (by have := I.hJ.lt; have := I.hJ.gr.size; omega) (ky n) (by omega)
  rw [hz] at ho
  obtain ⟨ad, cap, rfl⟩ := yo ho
  refine appQ (ss := [Sum.inl v, Sum.inl (.string (ky n))]) I hr ?_
  refine goQ [] (WS.rs _ _ _ _ _ _) (I.grown (l' := l ++ wb n) (by have := qu n; simpa [strC, this] using ho) hg _) fun β2 a2 w2 I2 hb2 => ?_
  have hb20 : β2 0 = g := agr hb2 0 rfl
  exact x9 I2 ⟨rfl, _, I2.hJ.done (I2.rowG 0 hb20 (r := #[.slice ad (l.length + 32) cap]))⟩
theorem SI.wr {W0 wE : World} {g : Nat} {v0 v : Value} {l : List UInt8} {w : World} {ds : List Deferred} {β : Nat → Nat} {c : Cf} {a : Act} (I : SI (WS W0 wE g v0 v l) (WSF wE g v) ds β c a w) (hb : β 0 = g) (hid : xo c.rows 0 = some #[v] := by kernel_rfl) : Wr W0 g v l w := ⟨I.hJ.bw, I.hJ.hg, I.rowG 0 hb (r := #[v]) hid, I.hJ.own⟩
/-- A method called within another one, on the same writer. -/
theorem wcall {W0 wE : World} {g : Nat} {v0 v : Value} {l l' : List UInt8} {w : World} {ds : List Deferred} {β : Nat → Nat} {c : Cf} {a : Act} {Q : Exit → Act → World → Prop} {f : Nat} {fn : Func} (args : List Value) (hf : Tryz.prog.funcs[f]? = some fn) (I : SI (WS W0 wE g v0 v l) (WSF wE g v) ds β c a w) (hb : β 0 = g)
    (hcall : Calls Tryz.prog f (zz g :: args).toArray w fun e w' => e = .returned T0 ∧ ∃ v', WrP W0 g v w v' l' w')
    (k : ∀ ad cap w', SI (WS W0 wE g v0 (.slice ad l'.length cap) l') (WSF wE g (.slice ad l'.length cap)) ds β (rowQ (xp c T0) 0 #[.slice ad l'.length cap]) (a.put (yt c) T0) w' → At Tryz.prog Q (rowQ (xp c T0) 0 #[.slice ad l'.length cap]) (a.put (yt c) T0) w')
    (hc : callQ c = some (f, Sum.inr (0, 0) :: args.map Sum.inl) := by kernel_rfl) (hid : xo c.rows 0 = some #[v] := by kernel_rfl) (hbd : fn.body.isNone = false := by kernel_rfl) (hn : (fn.name == "runtime.NumGoroutine") = false := by kernel_rfl) : At Tryz.prog Q c a w := by
  refine mcall hf I ?_ hc hbd hn
  have e : ((Sum.inr (0, 0) :: args.map Sum.inl).map (up β)) = zz g :: args := by
    simp only [List.map_cons, List.map_map, up, List.cons.injEq, hb]
    exact ⟨trivial, List.map_id _⟩
  rw [e]
  refine hcall.mono fun e w1 he => ?_
  obtain ⟨rfl, v1, hp1⟩ := he
  obtain ⟨ad, cap, rfl⟩ := yo hp1.wr.own
  exact (at_row (id := 0) (r := #[.slice ad l'.length cap])).1 (k ad cap w1 (I.called hb hp1 T0 hid))
theorem slice_run (k n cap o : Nat) (ho : o ≤ n) (hn : n ≤ cap) (hc : o < cap) (w : World) : (Instr.sliceAt 53 (.slice (some ⟨k, 0, none⟩) n cap) (some (Z o)) none none).run Tryz.prog w = .ok (.slice (some ⟨k, o, none⟩) (n - o) (cap - o)) w := by
  have h1 : ¬ cap = o := by omega
  simp [go_sem, ho, h1]
theorem s_fill_any {W0 : World} {g : Nat} {v : Value} {l : List UInt8} {w : World} (h : Wr W0 g v l w) (p u : Nat) (hp : p + 32 ≤ l.length) :
    Calls Tryz.prog 97 #[zz g, Z p, U u] w fun e w' => e = .returned T0 ∧ ∃ v', WrP W0 g v w v' (ovr l p (wb u)) w' := by
  obtain ⟨k, cap, rfl, hcap⟩ : ∃ k cap, v = .slice (some ⟨k, 0, none⟩) l.length cap ∧ l.length ≤ cap := by
    rcases h.own.2 with ⟨hv, hn⟩ | ⟨k, c, cur, hv, _, _, h4, _⟩
    · omega
    · exact ⟨k, c, hv, h4⟩
  refine inG (J := WS W0 w g _ _ l) (F := WSF w g _) [Z p, U u] Tryz.func97 (WS.start h) h.row (WS.start h).not fun a I => ?_
  refine goQ [] (WS.rs _ _ _ _ _ _) I fun β a w0 I hb => ?_
  have hb0 : β 0 = g := agr hb 0 rfl
  refine dwQ 8 [sO 53 (p := .slice (some ⟨k, 0, none⟩) l.length cap) (l := Z p) (v := .slice (some ⟨k, p, none⟩) (l.length - p) (cap - p)) (slice_run k l.length cap p (by omega) hcap (by omega)), kC Tryz.func47 (za4 u)] (WS.rs _ _ _ _ _ _) zk.post I fun a w1 I => ?_
  have hz : (ky u).size = 32 := zab u
  obtain ⟨w', hr, ho, hg⟩ := copy_own I.hJ.own p (ky u) (by omega)
  refine cpyQ (ss := [Sum.inl (.slice (some ⟨k, p, none⟩) (l.length - p) (cap - p)), Sum.inl (.string (ky u))]) I hr ?_
  have hol : (ovr l p (wb u)).length = l.length := by have := qu u; simp only [ovr, List.length_append, List.length_take, List.length_drop, this]; omega
  refine goQ [] (WS.rs _ _ _ _ _ _) (I.grown (l' := ovr l p (wb u)) (v' := .slice (some ⟨k, 0, none⟩) l.length cap) (by rw [hol]; simpa [ovr, List.map_take, List.map_drop] using ho) ⟨hg, fun k hk => .inl hk⟩ _) fun β2 a2 w2 I2 hb2 => ?_
  have hb20 : β2 0 = g := agr hb2 0 hb0
  exact x9 I2 ⟨rfl, _, I2.hJ.done (I2.rowG 0 hb20 (r := #[.slice (some ⟨k, 0, none⟩) l.length cap]))⟩
theorem text_any {W0 : World} {g : Nat} {v : Value} {l : List UInt8} {w : World} (h : Wr W0 g v l w) (s : ByteArray) (hl : l.length + s.size + 100 ≤ 1000000000000) :
    Calls Tryz.prog 99 #[zz g, .string s] w fun e w' => e = .returned T0 ∧ ∃ v', WrP W0 g v w v' (l ++ wb s.size ++ s.data.toList ++ List.replicate ((32 - s.size % 32) % 32) 0) w' := by
  have hsl : s.data.toList.length = s.size := Array.length_toList
  refine inG (J := WS W0 w g v v l) (F := WSF w g v) [.string s] Tryz.func99 (WS.start h) h.row (WS.start h).not fun a I => ?_
  refine goQ [lO Tryz.underlying9 (b := s) (n := s.size) rfl] (WS.rs _ _ _ _ _ _) I fun β a w0 I hb => ?_
  have hb0 : β 0 = g := agr hb 0 rfl
  refine wcall [Z s.size] Tryz.func100 I hb0 (count_any (I.wr hb0) s.size (by omega) (by omega)) fun ad cap w1 I => ?_
  refine goQ [] (WS.rs _ _ _ _ _ _) I fun β2 a2 w2 I hb2 => ?_
  have hb20 : β2 0 = g := agr hb2 0 hb0
  obtain ⟨v', w', hr, ho, hg⟩ := app_str I.hJ.own (by have := I.hJ.lt; have := I.hJ.gr.size; omega) s (by have := qu s.size; simp only [List.length_append]; omega)
  have e1 : (l ++ wb s.size).length + s.size = (l ++ wb s.size ++ s.data.toList).length := by simp only [List.length_append, hsl]
  rw [e1] at ho
  obtain ⟨ad2, cap2, rfl⟩ := yo ho
  refine appQ (ss := [Sum.inl (.slice ad (l ++ wb s.size).length cap), Sum.inl (.string s)]) I hr ?_
  refine goQ [lO Tryz.underlying9 (b := s) (n := s.size) rfl, kC Tryz.func129 (padding_any s.size (by omega))] (WS.rs _ _ _ _ _ _) (I.grown (l' := l ++ wb s.size ++ s.data.toList) (by simpa [strC] using ho) hg _) fun β3 a3 w3 I hb3 => ?_
  have hb30 : β3 0 = g := agr hb3 0 hb20
  refine wcall [Z ((32 - s.size % 32) % 32 : Nat)] Tryz.func96 I hb30 (zeros_any (I.wr hb30) _ (by have := qu s.size; simp only [List.length_append, hsl]; omega)) fun ad4 cap4 w4 I => ?_
  refine goQ [] (WS.rs _ _ _ _ _ _) I fun β5 a5 w5 I hb5 => ?_
  have hb50 : β5 0 = g := agr hb5 0 hb30
  exact x9 I ⟨rfl, _, I.hJ.done (I.rowG 0 hb50 (r := #[.slice ad4 (l ++ wb s.size ++ s.data.toList ++ List.replicate ((32 - s.size % 32) % 32) 0).length cap4]))⟩
/-- Rows of terms, at most so many lists within one another: a term is its kind, number, text and list. -/
def TL : Nat → Type
  | 0 => Unit
  | n + 1 => List (Int × Nat × ByteArray × TL n)
abbrev xq (n : Nat) : Type := Int × Nat × ByteArray × TL n
def zcz (k : Int) (u : Nat) (s : ByteArray) (lv : Value) : List Value := [Z k, B (l0 u), B (l1 u), B (l2 u), B (l3 u), .string s, lv]
def LAs {α : Type} (w : World) (L : Value → α → Prop) (v : Value) (l : List (Int × Nat × ByteArray × α)) : Prop :=
  ∃ ad cap, v = .slice ad l.length cap ∧ ∀ (i : Nat) (t : Int × Nat × ByteArray × α), l[i]? = some t → ∃ g off lv, ad = some ⟨g, off, none⟩ ∧ yi w g (off + i * 7) (zcz t.1 t.2.1 t.2.2.1 lv) ∧ L lv t.2.2.2
/-- A slice in memory that holds a row of terms. -/
def LA (w : World) : (n : Nat) → Value → TL n → Prop
  | 0, v, _ => ∃ ad cap, v = .slice ad 0 cap
  | n + 1, v, l => LAs w (LA w n) v l
theorem yi.lt {w : World} {g o : Nat} {c : Value} {cs : List Value} (h : yi w g o (c :: cs)) : g < w.heap.size := by
  have := h 0 c rfl
  unfold World.cell? at this
  cases hg : w.heap[g]? with
  | none => simp [hg] at this
  | some x => exact (Array.getElem?_eq_some_iff.1 hg).1
theorem yi.keep {w w' : World} {g o : Nat} {cs : List Value} (h : yi w g o cs) (hb : w'.heap[g]? = w.heap[g]?) : yi w' g o cs := fun j c hc => by
  rw [← h j c hc]
  simp [World.cell?, hb]
theorem LA.below {w w' : World} (hb : Below w.heap.size w w') : ∀ {n : Nat} {v : Value} {l : TL n}, LA w n v l → LA w' n v l
  | 0, v, l, h => h
  | n + 1, v, l, h => by
    obtain ⟨ad, cap, hv, ht⟩ := h
    refine ⟨ad, cap, hv, fun i t hi => ?_⟩
    obtain ⟨g, off, lv, h1, h2, h3⟩ := ht i t hi
    exact ⟨g, off, lv, h1, h2.keep (hb.block g h2.lt), LA.below hb h3⟩
theorem load7 {w : World} {g o : Nat} {k : Int} {u : Nat} {s : ByteArray} {lv : Value} (h : yi w g o (zcz k u s lv)) : (loadVar 83 ⟨g, o, none⟩).run Tryz.prog w = .ok (.agg #[Z k, B (l0 u), B (l1 u), B (l2 u), B (l3 u), .string s, lv]) w := by
  have hl : (loadCells ⟨g, o, none⟩ 7).run Tryz.prog w = .ok (zcz k u s lv).toArray w := by
    have := run_loadCells_list (P := Tryz.prog) w ⟨g, o, none⟩ (zcz k u s lv) (fun j c hc => by
      rw [vh]
      exact h j c hc)
    exact this
  have hA : (isAgg 83).run Tryz.prog w = .ok true w := by
    unfold isAgg
    simp only [Sem.run_bind, run_underlying Tryz.underlying83, Result.andThen_ok]
    rfl
  have hS : (sizeOf 83).run Tryz.prog w = .ok 7 w := by
    have hi : (Tryz.prog.info? 83).map (·.size) = some 7 := by kernel_rfl
    cases hq : Tryz.prog.info? 83 with
    | none => rw [hq] at hi; cases hi
    | some i => rw [hq] at hi; simp only [Option.map_some, Option.some.injEq] at hi; simp [sizeOf, typeInfo, hq, hi]
  unfold loadVar
  simp only [Sem.run_bind, hA, Result.andThen_ok, if_true, hS, hl, Sem.run_pure]
  rfl
/-- A text's tail. -/
def txt (s : ByteArray) : List UInt8 := wb s.size ++ s.data.toList ++ List.replicate ((32 - s.size % 32) % 32) 0
/-- One term more: the words so far, the tails so far; H: how many bytes the words have in all. -/
def vr {α : Type} (E : α → List UInt8) (cnt : α → Nat) (H : Nat) (acc : List UInt8 × List UInt8) (t : Int × Nat × ByteArray × α) : List UInt8 × List UInt8 :=
  if t.1 = 0 then (acc.1 ++ wb t.2.1, acc.2)
  else if t.1 = 1 then (acc.1 ++ wb (H + acc.2.length), acc.2 ++ txt t.2.2.1)
  else if t.1 = 2 then (acc.1 ++ wb (H + acc.2.length), acc.2 ++ (wb (cnt t.2.2.2) ++ E t.2.2.2))
  else (acc.1 ++ List.replicate 32 0, acc.2)
def xj {α : Type} (E : α → List UInt8) (cnt : α → Nat) (H : Nat) (l : List (Int × Nat × ByteArray × α)) : List UInt8 × List UInt8 := l.foldl (vr E cnt H) ([], [])
def cntL : (n : Nat) → TL n → Nat
  | 0, _ => 0
  | n + 1, l => List.length (α := xq n) l
/-- Terms as bytes. -/
def enc : (n : Nat) → TL n → List UInt8
  | 0, _ => []
  | n + 1, l => let r := xj (enc n) (cntL n) (32 * List.length (α := xq n) l) l; r.1 ++ r.2
section
variable {α : Type} {E : α → List UInt8} {cnt : α → Nat} {H : Nat}
theorem stepE_len (acc : List UInt8 × List UInt8) (t : Int × Nat × ByteArray × α) : (vr E cnt H acc t).1.length = acc.1.length + 32 ∧ acc.2.length ≤ (vr E cnt H acc t).2.length := by
  have hw := qu
  unfold vr
  split
  · simp [hw]
  · split
    · simp [hw]
    · split
      · simp [hw]
      · simp
theorem zc9 (l : List (Int × Nat × ByteArray × α)) (i : Nat) {t : Int × Nat × ByteArray × α} (h : l[i]? = some t) : xj E cnt H (l.take (i + 1)) = vr E cnt H (xj E cnt H (l.take i)) t := by
  unfold xj
  rw [List.take_add_one, h]
  simp [List.foldl_append]
theorem foldE_len : ∀ (l : List (Int × Nat × ByteArray × α)) (acc : List UInt8 × List UInt8), (l.foldl (vr E cnt H) acc).1.length = acc.1.length + 32 * l.length ∧ acc.2.length ≤ (l.foldl (vr E cnt H) acc).2.length
  | [], acc => ⟨by simp, Nat.le_refl _⟩
  | t :: l, acc => by
    obtain ⟨h1, h2⟩ := foldE_len l (vr E cnt H acc t)
    obtain ⟨h3, h4⟩ := stepE_len (E := E) (cnt := cnt) (H := H) acc t
    simp only [List.foldl_cons, List.length_cons]
    omega
theorem foldE_le (l : List (Int × Nat × ByteArray × α)) (i : Nat) : (xj E cnt H (l.take i)).2.length ≤ (xj E cnt H l).2.length := by
  have h : xj E cnt H l = (l.drop i).foldl (vr E cnt H) (xj E cnt H (l.take i)) := by
    unfold xj
    rw [← List.foldl_append, List.take_append_drop]
  rw [h]
  exact (foldE_len _ _).2
end
/-- A word laid into the room for it. -/
theorem ovr_word (bs hd rest : List UInt8) (m u : Nat) (hm : 32 ≤ m) : ovr (bs ++ (hd ++ List.replicate m 0) ++ rest) (bs.length + hd.length) (wb u) = bs ++ (hd ++ wb u ++ List.replicate (m - 32) 0) ++ rest := by
  have hw := qu u
  unfold ovr
  have e : bs ++ (hd ++ List.replicate m 0) ++ rest = (bs ++ hd) ++ (List.replicate m (0 : UInt8) ++ rest) := by simp
  rw [e, List.take_append_of_le_length (by simp), List.take_of_length_le (by simp), List.drop_append]
  simp only [List.length_append, hw]
  rw [List.drop_eq_nil_of_le (by simp), List.drop_append, List.drop_replicate]
  simp only [List.length_replicate, List.nil_append]
  rw [show bs.length + hd.length + 32 - (bs.length + hd.length) = 32 by omega, show 32 - m = 0 by omega]
  simp
abbrev rowK : List Nat := [0, 1, 4, 19, 20, 21]
abbrev rowV (sv : Value) (st len i : Nat) : Vs := frm 74 [(0, Sum.inr (0, 0)), (1, Sum.inl sv), (4, Sum.inl (Z st)), (19, Sum.inl sv), (20, Sum.inl (Z len)), (21, Sum.inl (Z i))]
/-- The bytes behind i terms. -/
def xi {α : Type} (E : α → List UInt8) (cnt : α → Nat) (bs : List UInt8) (l : List (Int × Nat × ByteArray × α)) (i : Nat) : List UInt8 :=
  bs ++ ((xj E cnt (32 * l.length) (l.take i)).1 ++ List.replicate (32 * (l.length - i)) 0) ++ (xj E cnt (32 * l.length) (l.take i)).2
section
variable {α : Type} {E : α → List UInt8} {cnt : α → Nat} {bs : List UInt8} {l : List (Int × Nat × ByteArray × α)} {i : Nat}
theorem hd_len (hi : i ≤ l.length) : (xj E cnt (32 * l.length) (l.take i)).1.length = 32 * i := by
  have h := (foldE_len (E := E) (cnt := cnt) (H := 32 * l.length) (l.take i) ([], [])).1
  rw [List.length_take, Nat.min_eq_left hi] at h
  simpa [xj] using h
theorem zd4 (hi : i ≤ l.length) : (xi E cnt bs l i).length = bs.length + 32 * l.length + (xj E cnt (32 * l.length) (l.take i)).2.length := by
  unfold xi
  simp only [List.length_append, List.length_replicate, hd_len hi]
  omega
theorem rawI_fill (hi : i < l.length) (u : Nat) : ovr (xi E cnt bs l i) (bs.length + i * 32) (wb u) = bs ++ ((xj E cnt (32 * l.length) (l.take i)).1 ++ wb u ++ List.replicate (32 * (l.length - (i + 1))) 0) ++ (xj E cnt (32 * l.length) (l.take i)).2 := by
  have h := ovr_word bs (xj E cnt (32 * l.length) (l.take i)).1 (xj E cnt (32 * l.length) (l.take i)).2 (32 * (l.length - i)) u (by omega)
  rw [hd_len (by omega)] at h
  unfold xi
  rw [show bs.length + i * 32 = bs.length + 32 * i by omega, h, show 32 * (l.length - i) - 32 = 32 * (l.length - (i + 1)) by omega]
theorem rawI_num {t : Int × Nat × ByteArray × α} (ht : l[i]? = some t) (hk : t.1 = 0) : ovr (xi E cnt bs l i) (bs.length + i * 32) (wb t.2.1) = xi E cnt bs l (i + 1) := by
  have hi : i < l.length := (List.getElem?_eq_some_iff.1 ht).1
  rw [rawI_fill hi]
  unfold xi
  rw [zc9 l i ht]
  unfold vr
  simp [hk]
theorem rawI_txt {t : Int × Nat × ByteArray × α} (ht : l[i]? = some t) (hk : t.1 = 1) : ovr (xi E cnt bs l i) (bs.length + i * 32) (wb ((xi E cnt bs l i).length - bs.length)) ++ wb t.2.2.1.size ++ t.2.2.1.data.toList ++ List.replicate ((32 - t.2.2.1.size % 32) % 32) 0 = xi E cnt bs l (i + 1) := by
  have hi : i < l.length := (List.getElem?_eq_some_iff.1 ht).1
  rw [rawI_fill hi, zd4 (by omega), show bs.length + 32 * l.length + (xj E cnt (32 * l.length) (l.take i)).2.length - bs.length = 32 * l.length + (xj E cnt (32 * l.length) (l.take i)).2.length by omega]
  unfold xi
  rw [zc9 l i ht]
  unfold vr
  simp [hk, txt]
theorem rawI_lst {t : Int × Nat × ByteArray × α} (ht : l[i]? = some t) (hk : t.1 = 2) : ovr (xi E cnt bs l i) (bs.length + i * 32) (wb ((xi E cnt bs l i).length - bs.length)) ++ wb (cnt t.2.2.2) ++ E t.2.2.2 = xi E cnt bs l (i + 1) := by
  have hi : i < l.length := (List.getElem?_eq_some_iff.1 ht).1
  rw [rawI_fill hi, zd4 (by omega), show bs.length + 32 * l.length + (xj E cnt (32 * l.length) (l.take i)).2.length - bs.length = 32 * l.length + (xj E cnt (32 * l.length) (l.take i)).2.length by omega]
  unfold xi
  rw [zc9 l i ht]
  unfold vr
  simp [hk]
theorem rawI_oth {t : Int × Nat × ByteArray × α} (ht : l[i]? = some t) (h0 : t.1 ≠ 0) (h1 : t.1 ≠ 1) (h2 : t.1 ≠ 2) : xi E cnt bs l i = xi E cnt bs l (i + 1) := by
  have hi : i < l.length := (List.getElem?_eq_some_iff.1 ht).1
  unfold xi
  rw [zc9 l i ht]
  unfold vr
  simp only [h0, h1, h2, if_false]
  rw [show 32 * (l.length - i) = 32 + 32 * (l.length - (i + 1)) by omega, ← List.replicate_append_replicate]
  simp
theorem rawI_le (hi : i ≤ l.length) : (xi E cnt bs l i).length ≤ bs.length + ((xj E cnt (32 * l.length) l).1 ++ (xj E cnt (32 * l.length) l).2).length := by
  rw [zd4 hi, List.length_append]
  have h1 := hd_len (E := E) (cnt := cnt) (l := l) (i := l.length) (Nat.le_refl _)
  rw [List.take_length] at h1
  have h2 := foldE_le (E := E) (cnt := cnt) (H := 32 * l.length) l i
  omega
end
abbrev eql0 {T : World → Prop} (k c : Int) (b : Bool) (h : decide (k = c) = b) : Fa Tryz.prog T := bO .eql 3 (y5 (x := k) (y := c) h)
theorem row_gen {α : Type} {E : α → List UInt8} {cnt : α → Nat} {W0 : World} {L : Value → α → Prop} (hc : ∀ lv x, L lv x → (∃ ad cap, lv = .slice ad (cnt x) cap) ∧ cnt x ≤ (E x).length)
    (hcall : ∀ (lv : Value) (x : α) (g : Nat) (v : Value) (bs : List UInt8) (w : World), L lv x → Wr W0 g v bs w → bs.length + (E x).length + 1000 ≤ 1000000000000 → Calls Tryz.prog 65 #[zz g, lv] w fun e w' => e = .returned T0 ∧ ∃ v', WrP W0 g v w v' (bs ++ E x) w')
    (l : List (Int × Nat × ByteArray × α)) (sv : Value) (h : LAs W0 L sv l) {g : Nat} {v : Value} {bs : List UInt8} {w : World} (hw : Wr W0 g v bs w) (hs : bs.length + ((xj E cnt (32 * l.length) l).1 ++ (xj E cnt (32 * l.length) l).2).length + 1000 ≤ 1000000000000) :
    Calls Tryz.prog 65 #[zz g, sv] w fun e w' => e = .returned T0 ∧ ∃ v', WrP W0 g v w v' (bs ++ ((xj E cnt (32 * l.length) l).1 ++ (xj E cnt (32 * l.length) l).2)) w' := by
  have rle := fun i (hi : i ≤ l.length) => rawI_le (E := E) (cnt := cnt) (bs := bs) hi
  have r0 := rle 0 (Nat.zero_le _)
  rw [zd4 (Nat.zero_le _)] at r0
  obtain ⟨ad0, cap0, rfl, hmem⟩ := h
  obtain ⟨adv, capv, rfl⟩ := yo hw.own
  refine inG (J := WS W0 w g _ _ bs) (F := WSF w g _) [.slice ad0 l.length cap0] Tryz.func65 (WS.start hw) hw.row (WS.start hw).not fun a I => ?_
  refine goQ [lS Tryz.underlying53 (ad := adv) (n := bs.length) (cap := capv) rfl, lS Tryz.underlying70 (ad := ad0) (n := l.length) (cap := cap0) rfl, bO .mul 3 (vc (x := l.length) (y := 32) (z := (32 * l.length : Nat)) (by rw [wz (by omega) (by omega)]; omega))] (WS.rs _ _ _ _ _ _) I fun β a w0 I hb => ?_
  have hb0 : β 0 = g := agr hb 0 rfl
  refine wcall [Z (32 * l.length : Nat)] Tryz.func96 I hb0 (zeros_any (I.wr hb0) _ (by omega)) fun ad1 cap1 w1 I => ?_
  refine goQ [lS Tryz.underlying70 (ad := ad0) (n := l.length) (cap := cap0) rfl] (WS.rs _ _ _ _ _ _) I fun β1 a1 w2 I hb1 => ?_
  have hb10 : β1 0 = g := agr hb1 0 hb0
  let St : Nat → Act → World → Prop := fun k a w' => ∃ i β u ad cap, k = l.length - i ∧ i ≤ l.length ∧ β 0 = g ∧
    SI (WS W0 w g (.slice adv bs.length capv) (.slice ad (xi E cnt bs l i).length cap) (xi E cnt bs l i)) (WSF w g (.slice ad (xi E cnt bs l i).length cap)) [] β
      (cfC (zo Tryz.f65) (z6 (zv 74 rowK) u 0 (rowV (.slice ad0 l.length cap0) bs.length l.length i)) [(0, #[.slice ad (xi E cnt bs l i).length cap])] 1) a w'
  have e0 : xi E cnt bs l 0 = bs ++ List.replicate (32 * l.length) 0 := by simp [xi, xj]
  refine lpN (zo Tryz.f65) [Sum.inr 0] St l.length ?_ ?_
  · obtain ⟨u, Iu⟩ := I.scr (zo Tryz.f65) (zv 74 rowK) (rowV (.slice ad0 l.length cap0) bs.length l.length 0) [(0, #[.slice ad1 (bs ++ List.replicate (32 * l.length) 0).length cap1])] 1
    exact ⟨0, β1, u, ad1, cap1, by omega, Nat.zero_le _, hb10, by rw [e0]; exact Iu⟩
  rintro k a3 w3 ⟨i, β3, u, ad, cap, rfl, hi, hb3, I⟩
  refine y7 (tm := z6 (zv 74 rowK) u 0 (rowV (.slice ad0 l.length cap0) bs.length l.length i)) (rows := [(0, #[.slice ad (xi E cnt bs l i).length cap])]) (nx := 1) ?_
  rcases Nat.lt_or_ge i l.length with hil | hil
  · obtain ⟨⟨kd, nu, tx, sub⟩, ht⟩ : ∃ t, l[i]? = some t := ⟨_, List.getElem?_eq_getElem hil⟩
    obtain ⟨gm, off, lv, rfl, hcm, hlv⟩ := hmem i _ ht
    simp only [] at hcm hlv
    obtain ⟨⟨adl, capl, rfl⟩, hcl⟩ := hc lv sub hlv
    have rli := rle i hi
    have rls := rle (i + 1) hil
    have hlen := zd4 (E := E) (cnt := cnt) (bs := bs) hi
    have next : ∀ {c : Cf} {ad' : Option Addr} {cap' : Nat} {β' : Nat → Nat} {a' : Act} {w' : World} {l' : List UInt8}, l' = xi E cnt bs l (i + 1) → β' 0 = g → SI (WS W0 w g (.slice adv bs.length capv) (.slice ad' l'.length cap') l') (WSF w g (.slice ad' l'.length cap')) [] β' c a' w' →
        zbg (zv 74 rowK) 0 c.tm = zbg (zv 74 rowK) 0 (rowV (.slice (some ⟨gm, off, none⟩) l.length cap0) bs.length l.length (i + 1)) → [(0, #[Value.slice ad' l'.length cap'])].map (fun p => xo c.rows p.1) = [(0, #[Value.slice ad' l'.length cap'])].map (fun p => some p.2) → ∃ j, j < l.length - i ∧ St j a' w' := by
      intro c ad' cap' β' a' w' l' hl' hb' I' h1 h2
      subst hl'
      obtain ⟨u', Iu⟩ := I'.scr (zo Tryz.f65) (zv 74 rowK) (rowV (.slice (some ⟨gm, off, none⟩) l.length cap0) bs.length l.length (i + 1)) [(0, #[.slice ad' (xi E cnt bs l (i + 1)).length cap'])] 1 h1 h2
      exact ⟨l.length - (i + 1), by omega, i + 1, β', u', ad', cap', rfl, hil, hb', Iu⟩
    have fplus : IntKind.i64.wrap ((i : Int) + 1) = ((i + 1 : Nat) : Int) := by rw [wz (by omega) (by omega)]; omega
    have hld : ∀ w, Below W0.heap.size W0 w → (loadVar 83 ⟨gm, off + i * 7, none⟩).run Tryz.prog w = .ok (.agg #[Z kd, B (l0 nu), B (l1 nu), B (l2 nu), B (l3 nu), .string tx, .slice adl (cnt sub) capl]) w := fun w hb => load7 (hcm.keep (hb.block gm hcm.lt))
    have hmul : IntKind.i64.wrap ((i : Int) * 32) = ((i * 32 : Nat) : Int) := by rw [wz (by omega) (by omega)]; omega
    have hadd : IntKind.i64.wrap ((bs.length : Int) + ((i * 32 : Nat) : Int)) = ((bs.length + i * 32 : Nat) : Int) := by rw [wz (by omega) (by omega)]; omega
    have hsub : IntKind.i64.wrap (((xi E cnt bs l i).length : Int) - (bs.length : Int)) = (((xi E cnt bs l i).length - bs.length : Nat) : Int) := by rw [wz (by omega) (by omega)]; omega
    by_cases hk0 : kd = 0
    · subst hk0
      refine goT (T := fun w => Below W0.heap.size W0 w) [bO .lss 3 (zh (x := i) (y := l.length) (b := true) (by simp; omega)), iA 70 Tryz.underlying70 (sz := 7) (by kernel_rfl) (g := gm) (off := off) (n := l.length) (cap := cap0) hil, ldA 83 hld, bO .mul 3 (vc (x := i) (y := 32) hmul), bO .add 3 (zn (x := bs.length) hadd), lS Tryz.underlying53 (ad := ad) (n := (xi E cnt bs l i).length) (cap := cap) rfl, bO .sub 3 (qg hsub), eql0 0 0 true rfl] (WS.rs _ _ _ _ _ _) (fun w h => h.bw) I fun β4 a4 w4 I hb4 => ?_
      have hb40 : β4 0 = g := agr hb4 0 hb3
      refine wcall [Z (bs.length + i * 32 : Nat), U nu] Tryz.func97 I hb40 (s_fill_any (I.wr hb40) (bs.length + i * 32) nu (by omega)) fun ad5 cap5 w5 I => ?_
      refine goQ [bO .add 3 (zn (x := i) (y := 1) fplus)] (WS.rs _ _ _ _ _ _) I fun β6 a6 w6 I hb6 => ?_
      have hb60 : β6 0 = g := agr hb6 0 hb40
      exact kn (next (rawI_num ht rfl) hb60 I (by kernel_rfl) (by kernel_rfl))
    by_cases hk1 : kd = 1
    · subst hk1
      have hsz : tx.size + 32 + (xi E cnt bs l i).length ≤ (xi E cnt bs l (i + 1)).length := by
        have := congrArg List.length (rawI_txt (E := E) (cnt := cnt) (bs := bs) ht rfl)
        have h2 := qu tx.size
        have h3 := qu ((xi E cnt bs l i).length - bs.length)
        have e : tx.data.toList.length = tx.size := Array.length_toList
        simp only [List.length_append, ovr, List.length_take, List.length_drop, h2, h3, e] at this
        omega
      refine goT (T := fun w => Below W0.heap.size W0 w) [bO .lss 3 (zh (x := i) (y := l.length) (b := true) (by simp; omega)), iA 70 Tryz.underlying70 (sz := 7) (by kernel_rfl) (g := gm) (off := off) (n := l.length) (cap := cap0) hil, ldA 83 hld, bO .mul 3 (vc (x := i) (y := 32) hmul), bO .add 3 (zn (x := bs.length) hadd), lS Tryz.underlying53 (ad := ad) (n := (xi E cnt bs l i).length) (cap := cap) rfl, bO .sub 3 (qg hsub), eql0 1 0 false rfl, eql0 1 1 true rfl, kC Tryz.func98 (ofw_any ((xi E cnt bs l i).length - bs.length) (by omega))] (WS.rs _ _ _ _ _ _) (fun w h => h.bw) I fun β4 a4 w4 I hb4 => ?_
      have hb40 : β4 0 = g := agr hb4 0 hb3
      refine wcall [Z (bs.length + i * 32 : Nat), U ((xi E cnt bs l i).length - bs.length)] Tryz.func97 I hb40 (s_fill_any (I.wr hb40) (bs.length + i * 32) _ (by omega)) fun ad5 cap5 w5 I => ?_
      refine goQ [] (WS.rs _ _ _ _ _ _) I fun β6 a6 w6 I hb6 => ?_
      have hb60 : β6 0 = g := agr hb6 0 hb40
      have hol : (ovr (xi E cnt bs l i) (bs.length + i * 32) (wb ((xi E cnt bs l i).length - bs.length))).length = (xi E cnt bs l i).length := by
        have := qu ((xi E cnt bs l i).length - bs.length)
        simp only [ovr, List.length_append, List.length_take, List.length_drop, this]; omega
      refine wcall [.string tx] Tryz.func99 I hb60 (text_any (I.wr hb60) tx (by omega)) fun ad7 cap7 w7 I => ?_
      refine goQ [bO .add 3 (zn (x := i) (y := 1) fplus)] (WS.rs _ _ _ _ _ _) I fun β8 a8 w8 I hb8 => ?_
      have hb80 : β8 0 = g := agr hb8 0 hb60
      exact kn (next (rawI_txt ht rfl) hb80 I (by kernel_rfl) (by kernel_rfl))
    by_cases hk2 : kd = 2
    · subst hk2
      have hsz : (E sub).length + 32 + (xi E cnt bs l i).length ≤ (xi E cnt bs l (i + 1)).length := by
        have := congrArg List.length (rawI_lst (E := E) (cnt := cnt) (bs := bs) ht rfl)
        have h2 := qu (cnt sub)
        have h3 := qu ((xi E cnt bs l i).length - bs.length)
        simp only [List.length_append, ovr, List.length_take, List.length_drop, h2, h3] at this
        omega
      refine goT (T := fun w => Below W0.heap.size W0 w) [bO .lss 3 (zh (x := i) (y := l.length) (b := true) (by simp; omega)), iA 70 Tryz.underlying70 (sz := 7) (by kernel_rfl) (g := gm) (off := off) (n := l.length) (cap := cap0) hil, ldA 83 hld, bO .mul 3 (vc (x := i) (y := 32) hmul), bO .add 3 (zn (x := bs.length) hadd), lS Tryz.underlying53 (ad := ad) (n := (xi E cnt bs l i).length) (cap := cap) rfl, bO .sub 3 (qg hsub), eql0 2 0 false rfl, eql0 2 1 false rfl, eql0 2 2 true rfl, kC Tryz.func98 (ofw_any ((xi E cnt bs l i).length - bs.length) (by omega))] (WS.rs _ _ _ _ _ _) (fun w h => h.bw) I fun β4 a4 w4 I hb4 => ?_
      have hb40 : β4 0 = g := agr hb4 0 hb3
      refine wcall [Z (bs.length + i * 32 : Nat), U ((xi E cnt bs l i).length - bs.length)] Tryz.func97 I hb40 (s_fill_any (I.wr hb40) (bs.length + i * 32) _ (by omega)) fun ad5 cap5 w5 I => ?_
      have hol : (ovr (xi E cnt bs l i) (bs.length + i * 32) (wb ((xi E cnt bs l i).length - bs.length))).length = (xi E cnt bs l i).length := by
        have := qu ((xi E cnt bs l i).length - bs.length)
        simp only [ovr, List.length_append, List.length_take, List.length_drop, this]; omega
      refine goQ [lS Tryz.underlying70 (ad := adl) (n := cnt sub) (cap := capl) rfl] (WS.rs _ _ _ _ _ _) I fun β6 a6 w6 I hb6 => ?_
      have hb60 : β6 0 = g := agr hb6 0 hb40
      refine wcall [Z (cnt sub)] Tryz.func100 I hb60 (count_any (I.wr hb60) (cnt sub) (by omega) (by omega)) fun ad7 cap7 w7 I => ?_
      refine goQ [] (WS.rs _ _ _ _ _ _) I fun β8 a8 w8 I hb8 => ?_
      have hb80 : β8 0 = g := agr hb8 0 hb60
      refine wcall [.slice adl (cnt sub) capl] Tryz.func65 I hb80 (hcall _ sub g _ _ _ hlv (I.wr hb80) (by have := qu (cnt sub); simp only [List.length_append, this]; omega)) fun ad9 cap9 w9 I => ?_
      refine goQ [bO .add 3 (zn (x := i) (y := 1) fplus)] (WS.rs _ _ _ _ _ _) I fun βx ax wx I hbx => ?_
      have hbx0 : βx 0 = g := agr hbx 0 hb80
      exact kn (next (rawI_lst ht rfl) hbx0 I (by kernel_rfl) (by kernel_rfl))
    · refine goT (T := fun w => Below W0.heap.size W0 w) [bO .lss 3 (zh (x := i) (y := l.length) (b := true) (by simp; omega)), iA 70 Tryz.underlying70 (sz := 7) (by kernel_rfl) (g := gm) (off := off) (n := l.length) (cap := cap0) hil, ldA 83 hld, bO .mul 3 (vc (x := i) (y := 32) hmul), bO .add 3 (zn (x := bs.length) hadd), lS Tryz.underlying53 (ad := ad) (n := (xi E cnt bs l i).length) (cap := cap) rfl, bO .sub 3 (qg hsub), eql0 kd 0 false (by simp [hk0]), eql0 kd 1 false (by simp [hk1]), eql0 kd 2 false (by simp [hk2]), bO .add 3 (zn (x := i) (y := 1) fplus)] (WS.rs _ _ _ _ _ _) (fun w h => h.bw) I fun β4 a4 w4 I hb4 => ?_
      have hb40 : β4 0 = g := agr hb4 0 hb3
      exact kn (next (rawI_oth ht hk0 hk1 hk2) hb40 I (by kernel_rfl) (by kernel_rfl))
  · obtain rfl : i = l.length := by omega
    refine goQ [bO .lss 3 (zh (x := l.length) (y := l.length) (b := false) (by simp))] (WS.rs _ _ _ _ _ _) I fun β4 a4 w4 I hb4 => ?_
    have hb40 : β4 0 = g := agr hb4 0 hb3
    refine kz 0 ?_
    refine goQ [] (WS.rs _ _ _ _ _ _) (I.cf rfl rfl rfl) fun β5 a5 w5 I hb5 => ?_
    have hb50 : β5 0 = g := agr hb5 0 hb40
    have e1 : xi E cnt bs l l.length = bs ++ ((xj E cnt (32 * l.length) l).1 ++ (xj E cnt (32 * l.length) l).2) := by simp [xi]
    rw [← e1]
    exact x9 I ⟨rfl, _, I.hJ.done (I.rowG 0 hb50 (r := #[.slice ad (xi E cnt bs l l.length).length cap]))⟩
theorem enc_cnt : ∀ (n : Nat) (l : TL n), 32 * cntL n l ≤ (enc n l).length
  | 0, l => by simp [cntL]
  | n + 1, l => by
    have h1 := hd_len (E := enc n) (cnt := cntL n) (l := l) (i := List.length (α := xq n) l) (Nat.le_refl _)
    have e : List.take (List.length (α := xq n) l) l = l := List.take_length
    rw [e] at h1
    simp only [enc, cntL, List.length_append]
    omega
/-- A row of terms is written behind what there is. -/
theorem row_any : ∀ (n : Nat) (l : TL n) {W0 : World} {g : Nat} {v sv : Value} {bs : List UInt8} {w : World}, LA W0 n sv l → Wr W0 g v bs w → bs.length + (enc n l).length + 1000 ≤ 1000000000000 →
    Calls Tryz.prog 65 #[zz g, sv] w fun e w' => e = .returned T0 ∧ ∃ v', WrP W0 g v w v' (bs ++ enc n l) w'
  | 0, l, W0, g, v, sv, bs, w, h, hw, hs => by
    obtain ⟨ad, cap, rfl⟩ := h
    have := row_gen (E := fun _ : Unit => []) (cnt := fun _ => 0) (W0 := W0) (L := fun _ _ => False) (fun _ _ h => h.elim) (fun _ _ _ _ _ _ h => h.elim) [] (.slice ad 0 cap) ⟨ad, cap, rfl, fun i t h => by simp at h⟩ hw (by simpa [xj, enc] using hs)
    simpa [xj, enc] using this
  | n + 1, l, W0, g, v, sv, bs, w, h, hw, hs => by
    refine row_gen (E := enc n) (cnt := cntL n) (L := LA W0 n) (fun lv x hx => ⟨?_, by have := enc_cnt n x; omega⟩) (fun lv x g v bs w hx hw hs => row_any n x hx hw hs) l sv h hw hs
    cases n with
    | zero => exact hx
    | succ n =>
      obtain ⟨ad, cap, hv, _⟩ := hx
      exact ⟨ad, cap, hv⟩
structure EJ (W0 : World) (g : Nat) (v : Value) (l : List UInt8) (w : World) : Prop where
  bw : Below W0.heap.size W0 w
  own : w.ownsRow (g + 1) 5 1 v l.length (bc l)
def EF (W0 : World) (v : Value) (k : Nat) : Prop := k < W0.heap.size ∨ v.ownBlock = some k
theorem EJ.rs (W0 : World) (g : Nat) (v : Value) (l : List UInt8) : y8 (EJ W0 g v l) (EF W0 v) := by
  refine ⟨fun w w' h gr => ⟨⟨gr.os.trans h.bw.os, gr.tape.trans h.bw.tape, gr.output.trans h.bw.output, Nat.le_trans h.bw.size gr.size, fun k hk => (gr.block k (Nat.lt_of_lt_of_le hk h.bw.size) (.inl hk)).trans (h.bw.block k hk)⟩, xh h.own gr fun k hk => .inr hk⟩, fun w k h hk => ?_⟩
  rcases hk with hk | hk
  · exact Nat.lt_of_lt_of_le hk h.bw.size
  · exact (h.own.lt k hk).2
theorem encode_any (n : Nat) (l : TL n) {w : World} {sv : Value} (h : LA w n sv l) (hs : (enc n l).length + 1000 ≤ 1000000000000) : Calls Tryz.prog 45 #[sv] w fun e w' => e = .returned (str (enc n l)) ∧ Below w.heap.size w w' := by
  refine inQ (J := Below w.heap.size w) (F := (· < w.heap.size)) Tryz.func45 (Below.refl _ _) fun a I => ?_
  refine goQ [] (zd w) I fun β a w1 I hb => ?_
  have hr := I.rowAt 0 (r := #[.slice none 0 0])
  have hd : ¬ (β 0 < w.heap.size) := I.dis _ (yk (show xo _ 0 = some #[.slice none 0 0] by kernel_rfl))
  have W1 : Wr w (β 0) (.slice none 0 0) [] w1 := ⟨I.hJ, Nat.le_of_not_lt hd, hr, World.ownsRow_nil _ _ _ _⟩
  refine mcall (ss := [Sum.inr (0, 0), Sum.inl sv]) Tryz.func65 I ?_
  refine (row_any n l h W1 (by simpa using hs)).mono fun e w2 he => ?_
  obtain ⟨rfl, v', hp⟩ := he
  obtain ⟨ad, cap, rfl⟩ := yo hp.wr.own
  rw [List.nil_append] at hp
  refine (at_row (id := 0) (r := #[.slice ad (enc n l).length cap])).1 ?_
  have I2 : SI (EJ w (β 0) (.slice ad (enc n l).length cap) (enc n l)) (EF w (.slice ad (enc n l).length cap)) [] β _ _ w2 := I.rowed (id := 0) (r0 := #[.slice none 0 0]) (by kernel_rfl) ⟨hp.gr.os, hp.gr.tape, hp.gr.output, hp.gr.size, fun k hk hn => hp.gr.block k hk (by
      rintro (h1 | h1 | h1)
      · exact hn.1 h1
      · exact hn.2 h1
      · cases h1)⟩ hp.wr.row ⟨hp.wr.bw, hp.wr.own⟩ (fun k hk h1 => by
      rcases h1 with h1 | h1
      · exact h1
      · rcases hp.nb k h1 with h2 | h2
        · cases h2
        · omega) T0
  refine goQ [] (EJ.rs _ _ _ _) I2 fun β3 a3 w3 I3 hb3 => ?_
  refine cnvQ I3 (text_own I3.hJ.own) ?_
  refine goQ [] (EJ.rs _ _ _ _) (I3.same _) fun β4 a4 w4 I4 hb4 => ?_
  exact zm I4 ⟨rfl, I4.hJ.bw⟩
section
variable {P : Program} {J : World → Prop} {F : Nat → Prop} {ds : List Deferred} {β : Nat → Nat} {c : Cf} {a : Act} {w : World} {Q : Exit → Act → World → Prop}
/-- A call that turns nothing that was there; what it hands back is told by a law. -/
theorem bcall {f : Nat} {fn : Func} (ss : List SV) (hf : P.funcs[f]? = some fn) (R : y8 J F) (I : SI J F ds β c a w) (post : Value → Prop) (hcall : Calls P f (ss.map (up β)).toArray w fun e w' => Below w.heap.size w w' ∧ ∃ v, e = .returned v ∧ post v)
    (k : ∀ v w', post v → SI J F ds β (xp c v) (a.put (yt c) v) w' → At P Q (xp c v) (a.put (yt c) v) w') (hc : callQ c = some (f, ss) := by kernel_rfl)
    (hb : fn.body.isNone = false := by kernel_rfl) (hn : (fn.name == "runtime.NumGoroutine") = false := by kernel_rfl) : At P Q c a w := by
  refine mcall hf I (hcall.mono fun e w' he => ?_) hc hb hn
  obtain ⟨hbl, v, rfl, hv⟩ := he
  exact k v w' hv (I.moved (zq.of_below hbl) (R.loc w w' I.hJ (zq.of_below hbl)) (fun _ _ h => h) v)
end
/-- Terms in memory, as deep as one likes to look. -/
def s_LR (w : World) : Nat → Value → Prop
  | 0, v => ∃ ad len cap, v = .slice ad len cap
  | n + 1, v => ∃ ad len cap, v = .slice ad len cap ∧ len ≤ maxLen ∧ ∀ i, i < len → ∃ g off k u s lv, ad = some ⟨g, off, none⟩ ∧ yi w g (off + i * 7) (zcz k u s lv) ∧ u < W ∧ s.size ≤ maxLen ∧ s_LR w n lv
def tot : (n : Nat) → TL n → Nat
  | 0, _ => 0
  | n + 1, l => List.length (α := xq n) l + (List.map (fun t : xq n => tot n t.2.2.2) l).sum
def tok : (n : Nat) → TL n → Prop
  | 0, _ => True
  | n + 1, l => ∀ t : xq n, List.Mem t l → t.2.2.1.size ≤ 20000 ∧ t.2.1 < W ∧ tok n t.2.2.2
theorem s_LR.slice {w : World} : ∀ {n : Nat} {v : Value}, s_LR w n v → ∃ ad len cap, v = .slice ad len cap
  | 0, v, h => h
  | n + 1, v, h => by obtain ⟨ad, len, cap, hv, _⟩ := h; exact ⟨ad, len, cap, hv⟩
theorem RO.start (w : World) (g e sz : Nat) : RO w g e sz (.slice none 0 0) 0 [] w := ⟨zq.refl _ _, World.ownsRow_nil _ _ _ _⟩
theorem RO.not {w : World} {g : Nat} : ¬ ROF w g (.slice none 0 0) g := by
  rintro (h | h)
  · exact h.2 rfl
  · cases h
/-- A word's number. -/
def nm (l : List UInt8) : Nat := rdN ⟨l.toArray⟩ l.length
abbrev pad (n : Nat) : Nat := (32 - n % 32) % 32
abbrev term7 (k : Int) (u : Nat) (s : List UInt8) (lv : Value) : Value := .agg #[Z k, B (l0 u), B (l1 u), B (l2 u), B (l3 u), str s, lv]
theorem info_of {t : Nat} {z : Value} {s b : Nat} (h : (Tryz.prog.info? t).map (fun i => (i.zero, i.size, i.bytes)) = some (some z, s, b)) : ∃ i, Tryz.prog.info? t = some i ∧ i.zero = some z ∧ i.size = s ∧ i.bytes = b := by
  cases hq : Tryz.prog.info? t with
  | none => rw [hq] at h; simp at h
  | some i => rw [hq] at h; simp at h; exact ⟨i, rfl, h.1, h.2.1, h.2.2⟩
theorem hI41 : ∃ i, Tryz.prog.info? 83 = some i ∧ i.zero = some (term7 0 0 [] (.slice none 0 0)) ∧ i.size = 7 ∧ i.bytes = 80 := info_of (by kernel_rfl)
/-- A slice of one element is built. -/
theorem bs_term (c0 c1 c2 c3 c4 c5 c6 : Value) (w : World) : (Instr.buildSlice 70 1 #[(0, .agg #[c0, c1, c2, c3, c4, c5, c6])]).run Tryz.prog w = .ok (.slice (some ⟨w.heap.size, 0, none⟩) 1 1) (w.alloc (.cells #[c0, c1, c2, c3, c4, c5, c6] 83)) := by
  simp [go_sem]
structure EO (W0 : World) (e sz : Nat) (v : Value) (n : Nat) (xs : List Value) (w : World) : Prop where
  bw : Below W0.heap.size W0 w
  own : w.ownsRow W0.heap.size e sz v n xs
theorem EO.rs (W0 : World) (e sz : Nat) (v : Value) (n : Nat) (xs : List Value) : y8 (EO W0 e sz v n xs) (EF W0 v) := by
  refine ⟨fun w w' h gr => ⟨⟨gr.os.trans h.bw.os, gr.tape.trans h.bw.tape, gr.output.trans h.bw.output, Nat.le_trans h.bw.size gr.size, fun k hk => (gr.block k (Nat.lt_of_lt_of_le hk h.bw.size) (.inl hk)).trans (h.bw.block k hk)⟩, xh h.own gr fun k hk => .inr hk⟩, fun w k h hk => ?_⟩
  rcases hk with hk | hk
  · exact Nat.lt_of_lt_of_le hk h.bw.size
  · exact (h.own.lt k hk).2
theorem y8.both {J1 J2 : World → Prop} {F1 F2 : Nat → Prop} (a : y8 J1 F1) (b : y8 J2 F2) : y8 (fun w => J1 w ∧ J2 w) (fun k => F1 k ∨ F2 k) :=
  ⟨fun w w' h g => ⟨a.loc w w' h.1 (g.mono fun k hk => .inl hk), b.loc w w' h.2 (g.mono fun k hk => .inr hk)⟩, fun w k h hk => hk.elim (a.lt w k h.1) (b.lt w k h.2)⟩
theorem zdm {a b : ByteArray} {q : Bool} (h : decide (a ≠ b) = q) (x y : Operand) (w : World) : (do eqGuard .neq 9 x y (.string a) (.string b); binOp .neq 9 (.string a) (.string b) : Sem Value).run Tryz.prog w = .ok (.bool q) w := by
  obtain ⟨la, rfl⟩ : ∃ l : List UInt8, a = ⟨l.toArray⟩ := ⟨a.data.toList, by simp⟩
  obtain ⟨lb, rfl⟩ : ∃ l : List UInt8, b = ⟨l.toArray⟩ := ⟨b.data.toList, by simp⟩
  have e : ((⟨la.toArray⟩ : ByteArray) = ⟨lb.toArray⟩) ↔ la = lb := ⟨fun e => by have := congrArg ByteArray.data e; simpa using this, fun e => by rw [e]⟩
  rw [← h]
  by_cases hx : la = lb
  · simp [go_sem, hx]
  · have h2 : ¬ ((⟨la.toArray⟩ : ByteArray) = ⟨lb.toArray⟩) := fun q => hx (e.1 q)
    simp [go_sem, hx]
def eqT {α : Type} (eq : α → α → Bool) (t u : Int × Nat × ByteArray × α) : Bool := decide (t.1 = u.1) && decide (t.2.1 = u.2.1) && decide (t.2.2.1 = u.2.2.1) && eq t.2.2.2 u.2.2.2
def sameL {α : Type} (eq : α → α → Bool) : List (Int × Nat × ByteArray × α) → List (Int × Nat × ByteArray × α) → Bool
  | [], [] => true
  | t :: l, u :: m => eqT eq t u && sameL eq l m
  | _, _ => false
def same : (n : Nat) → TL n → TL n → Bool
  | 0, _, _ => true
  | n + 1, l, m => sameL (same n) l m
theorem LA.slice {w : World} : ∀ {n : Nat} {v : Value} {l : TL n}, LA w n v l → ∃ ad m cap, v = .slice ad m cap
  | 0, v, l, h => by obtain ⟨ad, cap, hv⟩ := h; exact ⟨ad, 0, cap, hv⟩
  | n + 1, v, l, h => by obtain ⟨ad, cap, hv, _⟩ := h; exact ⟨ad, _, cap, hv⟩
end Go.Proofs.YthkpgfbjdabflaaGreatDoor
