/- The writer of word: a row of bytes that grows, its methods. -/
import Derived.Test.YtjjiendgmnlokaaDoorKdWb
import Derived.Test.YtjjiendgmnlokaaDoorKdXt
import Derived.Test.YtjjiendgmnlokaaDoorKdBb
namespace Go.Proofs.YtjjiendgmnlokaaDoor
open Go.RowKit Go.Sort
set_option linter.unusedVariables false
set_option maxRecDepth 100000
/-- The places of a writer: the row that holds its slice, and the slice's own block. -/
def WF (N g : Nat) (v : Value) (k : Nat) : Prop := k < N ∨ k = g ∨ v.ownBlock = some k
/-- A writer in memory: its row at g, its bytes l. -/
structure Wr (W0 : World) (g : Nat) (v : Value) (l : List UInt8) (w : World) : Prop where
  bw : Below W0.heap.size W0 w
  hg : W0.heap.size ≤ g
  row : HasRow w g #[v]
  own : w.ownsRow (g + 1) 5 1 v l.length (bc l)
/-- What a method leaves. -/
structure WrP (W0 : World) (g : Nat) (v : Value) (w : World) (v' : Value) (l' : List UInt8) (w' : World) : Prop where
  wr : Wr W0 g v' l' w'
  gr : Grow (fun k => ¬ WF W0.heap.size g v k) w w'
  nb : ∀ k, v'.ownBlock = some k → v.ownBlock = some k ∨ w.heap.size ≤ k
/-- Within a method: what holds but for the row itself. -/
structure WS (W0 wE : World) (g : Nat) (v0 v : Value) (l : List UInt8) (w : World) : Prop where
  bw : Below W0.heap.size W0 w
  hg : W0.heap.size ≤ g
  lt : g < wE.heap.size
  own : w.ownsRow (g + 1) 5 1 v l.length (bc l)
  gr : Grow (fun k => ¬ WF W0.heap.size g v0 k) wE w
  nb : ∀ k, v.ownBlock = some k → v0.ownBlock = some k ∨ wE.heap.size ≤ k
def WSF (wE : World) (g : Nat) (v : Value) (k : Nat) : Prop := (k < wE.heap.size ∧ k ≠ g) ∨ v.ownBlock = some k
theorem owns_block {w : World} {g e : Nat} {v : Value} {n : Nat} {xs : List Value} (h : w.ownsRow (g + 1) e 1 v n xs) : v.ownBlock ≠ some g := fun q => by have := (h.lt g q).1; omega
theorem owns_grow {w w' : World} {b e s : Nat} {v : Value} {n : Nat} {xs : List Value} {F : Nat → Prop} (h : w.ownsRow b e s v n xs) (hg : Grow F w w') (hF : ∀ k, v.ownBlock = some k → F k) : w'.ownsRow b e s v n xs := by
  obtain ⟨h1, h2⟩ := h
  refine ⟨h1, ?_⟩
  rcases h2 with h2 | ⟨g, cap, cur, a1, a2, a3, a4⟩
  · exact .inl h2
  · refine .inr ⟨g, cap, cur, a1, a2, ?_, a4⟩
    have hlt : g < w.heap.size := (Array.getElem?_eq_some_iff.1 a3).1
    exact (hg.block g hlt (hF g (by rw [a1]; rfl))).trans a3
theorem WS.rs (W0 wE : World) (g : Nat) (v0 v : Value) (l : List UInt8) : Rsrc (WS W0 wE g v0 v l) (WSF wE g v) := by
  refine ⟨fun w w' h gr => ?_, fun w k h hk => ?_⟩
  · refine ⟨⟨gr.os.trans h.bw.os, gr.tape.trans h.bw.tape, gr.output.trans h.bw.output, Nat.le_trans h.bw.size gr.size, fun k hk => (gr.block k (Nat.lt_of_lt_of_le hk h.bw.size) (.inl ⟨by have := h.hg; have := h.lt; omega, by have := h.hg; omega⟩)).trans (h.bw.block k hk)⟩, h.hg, h.lt, owns_grow h.own gr fun k hk => .inr hk, ?_, h.nb⟩
    refine ⟨gr.os.trans h.gr.os, gr.tape.trans h.gr.tape, gr.output.trans h.gr.output, Nat.le_trans h.gr.size gr.size, fun k hk hn => (gr.block k (Nat.lt_of_lt_of_le hk h.gr.size) (.inl ⟨hk, fun e => hn (.inr (.inl e))⟩)).trans (h.gr.block k hk hn)⟩
  · rcases hk with hk | hk
    · exact Nat.lt_of_lt_of_le hk.1 h.gr.size
    · exact (h.own.lt k hk).2
theorem WS.start {W0 : World} {g : Nat} {v : Value} {l : List UInt8} {w : World} (h : Wr W0 g v l w) : WS W0 w g v v l w := ⟨h.bw, h.hg, h.row.lt, h.own, Grow.refl _ _, fun k hk => .inl hk⟩
theorem WS.not {W0 wE : World} {g : Nat} {v0 v : Value} {l : List UInt8} {w : World} (h : WS W0 wE g v0 v l w) : ¬ WSF wE g v g := by
  rintro (h1 | h1)
  · exact h1.2 rfl
  · exact owns_block h.own h1
theorem WS.done {W0 wE : World} {g : Nat} {v0 v : Value} {l : List UInt8} {w : World} (h : WS W0 wE g v0 v l w) (hr : HasRow w g #[v]) : WrP W0 g v0 wE v l w := ⟨⟨h.bw, h.hg, hr, h.own⟩, h.gr, h.nb⟩
/-- Behind an append. -/
theorem WS.grown {W0 wE : World} {g : Nat} {v0 v v' : Value} {l l' : List UInt8} {w w' : World} (h : WS W0 wE g v0 v l w) (ho : w'.ownsRow (g + 1) 5 1 v' l'.length (bc l')) (hg : Grw v v' w w') : WS W0 wE g v0 v' l' w' := by
  have hne : ∀ k, k ≤ g → some k ≠ v.ownBlock := fun k hk e => by have := (h.own.lt k e.symm).1; omega
  refine ⟨⟨hg.gr.os.trans h.bw.os, hg.gr.tape.trans h.bw.tape, hg.gr.output.trans h.bw.output, Nat.le_trans h.bw.size hg.gr.size, fun k hk => (hg.gr.block k (Nat.lt_of_lt_of_le hk h.bw.size) (hne k (by have := h.hg; omega))).trans (h.bw.block k hk)⟩, h.hg, h.lt, ho, ?_, ?_⟩
  · refine ⟨hg.gr.os.trans h.gr.os, hg.gr.tape.trans h.gr.tape, hg.gr.output.trans h.gr.output, Nat.le_trans h.gr.size hg.gr.size, fun k hk hn => (hg.gr.block k (Nat.lt_of_lt_of_le hk h.gr.size) fun e => ?_).trans (h.gr.block k hk hn)⟩
    rcases h.nb k e.symm with h1 | h1
    · exact hn (.inr (.inr h1))
    · omega
  · intro k hk
    rcases hg.nb k hk with h1 | h1
    · exact h.nb k h1
    · exact .inr (Nat.le_trans h.gr.size h1)
theorem SI.grown {W0 wE : World} {g : Nat} {v0 v v' : Value} {l l' : List UInt8} {w w' : World} {ds : List Deferred} {β : Nat → Nat} {c : Cf} {a : Act} (I : SI (WS W0 wE g v0 v l) (WSF wE g v) ds β c a w) (ho : w'.ownsRow (g + 1) 5 1 v' l'.length (bc l')) (hg : Grw v v' w w') (r : Value) :
    SI (WS W0 wE g v0 v' l') (WSF wE g v') ds β (nxtQ c r) (a.put (dstQ c) r) w' := by
  refine I.moved ⟨hg.gr.os, hg.gr.tape, hg.gr.output, hg.gr.size, fun k hk hn => hg.gr.block k hk fun e => hn (.inr e.symm)⟩ (I.hJ.grown ho hg) (fun k hk h => ?_) r
  rcases h with h | h
  · exact .inl h
  · rcases hg.nb k h with h1 | h1
    · exact .inr h1
    · omega
/-- Behind a method called on the same writer, whose row is number 0. -/
theorem SI.called {W0 wE : World} {g : Nat} {v0 v v' : Value} {l l' : List UInt8} {w w' : World} {ds : List Deferred} {β : Nat → Nat} {c : Cf} {a : Act} {u : Value} (I : SI (WS W0 wE g v0 v l) (WSF wE g v) ds β c a w) (hb : β 0 = g) (hp : WrP W0 g v w v' l' w') (r : Value) (hid : rowOf c.rows 0 = some #[u] := by kernel_rfl) :
    SI (WS W0 wE g v0 v' l') (WSF wE g v') ds β (rowQ (nxtQ c r) 0 #[v']) (a.put (dstQ c) r) w' := by
  have hw0 := I.hJ.hg
  have hlt := I.hJ.lt
  refine I.rowed hid ⟨hp.gr.os, hp.gr.tape, hp.gr.output, hp.gr.size, fun k hk hn => hp.gr.block k hk ?_⟩ (by rw [hb]; exact hp.wr.row) ?_ (fun k hk h => ?_) r
  · rintro (h | h | h)
    · exact hn.1 (.inl ⟨by omega, by omega⟩)
    · exact hn.2 (by rw [hb]; exact h)
    · exact hn.1 (.inr h)
  · refine ⟨hp.wr.bw, hp.wr.hg, hlt, hp.wr.own, ?_, ?_⟩
    · refine ⟨hp.gr.os.trans I.hJ.gr.os, hp.gr.tape.trans I.hJ.gr.tape, hp.gr.output.trans I.hJ.gr.output, Nat.le_trans I.hJ.gr.size hp.gr.size, fun k hk hn => (hp.gr.block k (Nat.lt_of_lt_of_le hk I.hJ.gr.size) ?_).trans (I.hJ.gr.block k hk hn)⟩
      rintro (h | h | h)
      · exact hn (.inl h)
      · exact hn (.inr (.inl h))
      · rcases I.hJ.nb k h with h1 | h1
        · exact hn (.inr (.inr h1))
        · omega
    · intro k hk
      rcases hp.nb k hk with h1 | h1
      · exact I.hJ.nb k h1
      · exact .inr (Nat.le_trans I.hJ.gr.size h1)
  · rcases h with h | h
    · exact .inl h
    · rcases hp.nb k h with h1 | h1
      · exact .inr h1
      · omega
theorem owns_slice {w : World} {b e s : Nat} {v : Value} {n : Nat} {xs : List Value} (h : w.ownsRow b e s v n xs) : ∃ ad cap, v = .slice ad n cap := by
  rcases h.2 with ⟨rfl, rfl⟩ | ⟨g, cap, cur, rfl, _⟩
  · exact ⟨none, 0, rfl⟩
  · exact ⟨_, _, rfl⟩
abbrev T0 : Value := .tuple #[]
theorem zeros_any {W0 : World} {g : Nat} {v : Value} {l : List UInt8} {w : World} (h : Wr W0 g v l w) (n : Nat) (hn : l.length + n ≤ 1000000000000) :
    Calls Tryd.prog 40 #[ptr0 g, Z n] w fun e w' => e = .returned T0 ∧ ∃ v', WrP W0 g v w v' (l ++ List.replicate n 0) w' := by
  refine inG (J := WS W0 w g v v l) (F := WSF w g v) [Z n] Tryd.func40 (WS.start h) h.row (WS.start h).not fun a I => ?_
  refine goQ [] (WS.rs _ _ _ _ _ _) I fun β a w1 I hb => ?_
  have hb0 : β 0 = g := agr hb 0 rfl
  obtain ⟨v', w', hr, ho, hg⟩ := app_zeros I.hJ.own (by have := I.hJ.lt; have := I.hJ.gr.size; omega) n hn
  obtain ⟨ad, cap, rfl⟩ := owns_slice ho
  refine appQ (ss := [Sum.inl v, Sum.inl (Z n)]) I hr ?_
  refine goQ [] (WS.rs _ _ _ _ _ _) (I.grown (l' := l ++ List.replicate n 0) (by simpa using ho) hg _) fun β2 a2 w2 I2 hb2 => ?_
  have hb20 : β2 0 = g := agr hb2 0 hb0
  exact out0 I2 ⟨rfl, _, I2.hJ.done (I2.rowG 0 hb20 (r := #[.slice ad (l.length + n) cap]))⟩
abbrev wb (n : Nat) : List UInt8 := (strN n).data.toList
theorem wb_len (n : Nat) : (wb n).length = 32 := by
  have : (strN n).size = 32 := strN_size n
  rw [← this]
  exact Array.length_toList
theorem ofw_any (n : Nat) (hn : n < 1000000000000) (w : World) : Calls Tryd.prog 42 #[Z n] w fun e w' => e = .returned (U n) ∧ Below w.heap.size w w' := by
  have hw : (convert 3 37 (Z n)).run Tryd.prog w = .ok (B n) w := by
    have := IntKind.wrap_u64 (n : Int)
    simp [go_sem]
    omega
  refine inQ (J := Below w.heap.size w) (F := (· < w.heap.size)) Tryd.func42 (Below.refl _ _) fun a I => ?_
  refine goQ [vO 3 37 (p := Z n) (v := B n) (by intro w; have := IntKind.wrap_u64 (n : Int); simp [go_sem]; omega), kC Tryd.func53 (of_any n (by unfold M; omega))] (nonR w) I fun β a w' I _ => ?_
  exact outQ I ⟨rfl, I.hJ⟩
theorem count_any {W0 : World} {g : Nat} {v : Value} {l : List UInt8} {w : World} (h : Wr W0 g v l w) (n : Nat) (hn : n < 1000000000000) (hl : l.length + 32 ≤ 1000000000000) :
    Calls Tryd.prog 44 #[ptr0 g, Z n] w fun e w' => e = .returned T0 ∧ ∃ v', WrP W0 g v w v' (l ++ wb n) w' := by
  refine inG (J := WS W0 w g v v l) (F := WSF w g v) [Z n] Tryd.func44 (WS.start h) h.row (WS.start h).not fun a I => ?_
  refine dwQ 8 [kC Tryd.func42 (ofw_any n hn), kC Tryd.func52 (bytes_any n)] (WS.rs _ _ _ _ _ _) PanOk.post I fun a w1 I => ?_
  have hz : (strN n).size = 32 := strN_size n
  obtain ⟨v', w', hr, ho, hg⟩ := app_str I.hJ.own (by have := I.hJ.lt; have := I.hJ.gr.size; omega) (strN n) (by omega)
  rw [hz] at ho
  obtain ⟨ad, cap, rfl⟩ := owns_slice ho
  refine appQ (ss := [Sum.inl v, Sum.inl (.string (strN n))]) I hr ?_
  refine goQ [] (WS.rs _ _ _ _ _ _) (I.grown (l' := l ++ wb n) (by have := wb_len n; simpa [strC, this] using ho) hg _) fun β2 a2 w2 I2 hb2 => ?_
  have hb20 : β2 0 = g := agr hb2 0 rfl
  exact out0 I2 ⟨rfl, _, I2.hJ.done (I2.rowG 0 hb20 (r := #[.slice ad (l.length + 32) cap]))⟩
theorem SI.wr {W0 wE : World} {g : Nat} {v0 v : Value} {l : List UInt8} {w : World} {ds : List Deferred} {β : Nat → Nat} {c : Cf} {a : Act} (I : SI (WS W0 wE g v0 v l) (WSF wE g v) ds β c a w) (hb : β 0 = g) (hid : rowOf c.rows 0 = some #[v] := by kernel_rfl) : Wr W0 g v l w := ⟨I.hJ.bw, I.hJ.hg, I.rowG 0 hb (r := #[v]) hid, I.hJ.own⟩
/-- A method called within another one, on the same writer. -/
theorem wcall {W0 wE : World} {g : Nat} {v0 v : Value} {l l' : List UInt8} {w : World} {ds : List Deferred} {β : Nat → Nat} {c : Cf} {a : Act} {Q : Exit → Act → World → Prop} {f : Nat} {fn : Func} (args : List Value) (hf : Tryd.prog.funcs[f]? = some fn) (I : SI (WS W0 wE g v0 v l) (WSF wE g v) ds β c a w) (hb : β 0 = g)
    (hcall : Calls Tryd.prog f (ptr0 g :: args).toArray w fun e w' => e = .returned T0 ∧ ∃ v', WrP W0 g v w v' l' w')
    (k : ∀ ad cap w', SI (WS W0 wE g v0 (.slice ad l'.length cap) l') (WSF wE g (.slice ad l'.length cap)) ds β (rowQ (nxtQ c T0) 0 #[.slice ad l'.length cap]) (a.put (dstQ c) T0) w' → At Tryd.prog Q (rowQ (nxtQ c T0) 0 #[.slice ad l'.length cap]) (a.put (dstQ c) T0) w')
    (hc : callQ c = some (f, Sum.inr (0, 0) :: args.map Sum.inl) := by kernel_rfl) (hid : rowOf c.rows 0 = some #[v] := by kernel_rfl) (hbd : fn.body.isNone = false := by kernel_rfl) (hn : (fn.name == "runtime.NumGoroutine") = false := by kernel_rfl) : At Tryd.prog Q c a w := by
  refine mcall hf I ?_ hc hbd hn
  have e : ((Sum.inr (0, 0) :: args.map Sum.inl).map (up β)) = ptr0 g :: args := by
    simp only [List.map_cons, List.map_map, up, List.cons.injEq, hb]
    exact ⟨trivial, List.map_id _⟩
  rw [e]
  refine hcall.mono fun e w1 he => ?_
  obtain ⟨rfl, v1, hp1⟩ := he
  obtain ⟨ad, cap, rfl⟩ := owns_slice hp1.wr.own
  exact (at_row (id := 0) (r := #[.slice ad l'.length cap])).1 (k ad cap w1 (I.called hb hp1 T0 hid))
theorem slice_run (k n cap o : Nat) (ho : o ≤ n) (hn : n ≤ cap) (hc : o < cap) (w : World) : (Instr.sliceAt 58 (.slice (some ⟨k, 0, none⟩) n cap) (some (Z o)) none none).run Tryd.prog w = .ok (.slice (some ⟨k, o, none⟩) (n - o) (cap - o)) w := by
  have h1 : ¬ cap = o := by omega
  simp [go_sem, ho, h1]
theorem fill_any {W0 : World} {g : Nat} {v : Value} {l : List UInt8} {w : World} (h : Wr W0 g v l w) (p u : Nat) (hp : p + 32 ≤ l.length) :
    Calls Tryd.prog 41 #[ptr0 g, Z p, U u] w fun e w' => e = .returned T0 ∧ ∃ v', WrP W0 g v w v' (ovr l p (wb u)) w' := by
  obtain ⟨k, cap, rfl, hcap⟩ : ∃ k cap, v = .slice (some ⟨k, 0, none⟩) l.length cap ∧ l.length ≤ cap := by
    rcases h.own.2 with ⟨hv, hn⟩ | ⟨k, c, cur, hv, _, _, h4, _⟩
    · omega
    · exact ⟨k, c, hv, h4⟩
  refine inG (J := WS W0 w g _ _ l) (F := WSF w g _) [Z p, U u] Tryd.func41 (WS.start h) h.row (WS.start h).not fun a I => ?_
  refine goQ [] (WS.rs _ _ _ _ _ _) I fun β a w0 I hb => ?_
  have hb0 : β 0 = g := agr hb 0 rfl
  refine dwQ 8 [sO 58 (p := .slice (some ⟨k, 0, none⟩) l.length cap) (l := Z p) (v := .slice (some ⟨k, p, none⟩) (l.length - p) (cap - p)) (slice_run k l.length cap p (by omega) hcap (by omega)), kC Tryd.func52 (bytes_any u)] (WS.rs _ _ _ _ _ _) PanOk.post I fun a w1 I => ?_
  have hz : (strN u).size = 32 := strN_size u
  obtain ⟨w', hr, ho, hg⟩ := copy_own I.hJ.own p (strN u) (by omega)
  refine cpyQ (ss := [Sum.inl (.slice (some ⟨k, p, none⟩) (l.length - p) (cap - p)), Sum.inl (.string (strN u))]) I hr ?_
  have hol : (ovr l p (wb u)).length = l.length := by have := wb_len u; simp only [ovr, List.length_append, List.length_take, List.length_drop, this]; omega
  refine goQ [] (WS.rs _ _ _ _ _ _) (I.grown (l' := ovr l p (wb u)) (v' := .slice (some ⟨k, 0, none⟩) l.length cap) (by rw [hol]; simpa [ovr, List.map_take, List.map_drop] using ho) ⟨hg, fun k hk => .inl hk⟩ _) fun β2 a2 w2 I2 hb2 => ?_
  have hb20 : β2 0 = g := agr hb2 0 hb0
  exact out0 I2 ⟨rfl, _, I2.hJ.done (I2.rowG 0 hb20 (r := #[.slice (some ⟨k, 0, none⟩) l.length cap]))⟩
theorem text_any {W0 : World} {g : Nat} {v : Value} {l : List UInt8} {w : World} (h : Wr W0 g v l w) (s : ByteArray) (hl : l.length + s.size + 100 ≤ 1000000000000) :
    Calls Tryd.prog 43 #[ptr0 g, .string s] w fun e w' => e = .returned T0 ∧ ∃ v', WrP W0 g v w v' (l ++ wb s.size ++ s.data.toList ++ List.replicate ((32 - s.size % 32) % 32) 0) w' := by
  have hsl : s.data.toList.length = s.size := Array.length_toList
  refine inG (J := WS W0 w g v v l) (F := WSF w g v) [.string s] Tryd.func43 (WS.start h) h.row (WS.start h).not fun a I => ?_
  refine goQ [lO Tryd.underlying9 (b := s) (n := s.size) rfl] (WS.rs _ _ _ _ _ _) I fun β a w0 I hb => ?_
  have hb0 : β 0 = g := agr hb 0 rfl
  refine wcall [Z s.size] Tryd.func44 I hb0 (count_any (I.wr hb0) s.size (by omega) (by omega)) fun ad cap w1 I => ?_
  refine goQ [] (WS.rs _ _ _ _ _ _) I fun β2 a2 w2 I hb2 => ?_
  have hb20 : β2 0 = g := agr hb2 0 hb0
  obtain ⟨v', w', hr, ho, hg⟩ := app_str I.hJ.own (by have := I.hJ.lt; have := I.hJ.gr.size; omega) s (by have := wb_len s.size; simp only [List.length_append]; omega)
  have e1 : (l ++ wb s.size).length + s.size = (l ++ wb s.size ++ s.data.toList).length := by simp only [List.length_append, hsl]
  rw [e1] at ho
  obtain ⟨ad2, cap2, rfl⟩ := owns_slice ho
  refine appQ (ss := [Sum.inl (.slice ad (l ++ wb s.size).length cap), Sum.inl (.string s)]) I hr ?_
  refine goQ [lO Tryd.underlying9 (b := s) (n := s.size) rfl, kC Tryd.func54 (padding_any s.size (by omega))] (WS.rs _ _ _ _ _ _) (I.grown (l' := l ++ wb s.size ++ s.data.toList) (by simpa [strC] using ho) hg _) fun β3 a3 w3 I hb3 => ?_
  have hb30 : β3 0 = g := agr hb3 0 hb20
  refine wcall [Z ((32 - s.size % 32) % 32 : Nat)] Tryd.func40 I hb30 (zeros_any (I.wr hb30) _ (by have := wb_len s.size; simp only [List.length_append, hsl]; omega)) fun ad4 cap4 w4 I => ?_
  refine goQ [] (WS.rs _ _ _ _ _ _) I fun β5 a5 w5 I hb5 => ?_
  have hb50 : β5 0 = g := agr hb5 0 hb30
  exact out0 I ⟨rfl, _, I.hJ.done (I.rowG 0 hb50 (r := #[.slice ad4 (l ++ wb s.size ++ s.data.toList ++ List.replicate ((32 - s.size % 32) % 32) 0).length cap4]))⟩
end Go.Proofs.YtjjiendgmnlokaaDoor
