/- Ground: what other seats had, in one text. -/
import Derived.Test.YtdlanihbpbfbcaaDoorWb
import Derived.Test.YtdlanihbpbfbcaaDoorXt
namespace Go.Proofs.YtdlanihbpbfbcaaDoor
open Go.RowKit Go.Sort
set_option linter.unusedVariables false
set_option maxRecDepth 100000
section
variable {P : Program} {J : World → Prop} {F : Nat → Prop} {ds : List Deferred} {β : Nat → Nat} {c : Cf} {a : Act} {w : World} {Q : Exit → Act → World → Prop}
/-- The places of a writer: the row that holds its slice, and the slice's own block. -/
def WF (N g : Nat) (v : Value) (k : Nat) : Prop := k < N ∨ k = g ∨ v.ownBlock = some k
/-- A writer in memory: its row at g, its bytes l. -/
structure Wr (W0 : World) (g : Nat) (v : Value) (l : List UInt8) (w : World) : Prop where
  bw : Below W0.heap.size W0 w
  hg : W0.heap.size ≤ g
  row : HasRow w g #[v]
  own : w.ownsRow (g + 1) 5 1 v l.length (bc l)
/-- What a method leaves. -/
structure WrP (W0 : World) (g : Nat) (v : Value) (w : World) (v' : Value) (l' : List UInt8) (w' : World) : Prop where
  wr : Wr W0 g v' l' w'
  gr : Grow (fun k => ¬ WF W0.heap.size g v k) w w'
  nb : ∀ k, v'.ownBlock = some k → v.ownBlock = some k ∨ w.heap.size ≤ k
/-- Within a method: what holds but for the row itself. -/
structure WS (W0 wE : World) (g : Nat) (v0 v : Value) (l : List UInt8) (w : World) : Prop where
  bw : Below W0.heap.size W0 w
  hg : W0.heap.size ≤ g
  lt : g < wE.heap.size
  own : w.ownsRow (g + 1) 5 1 v l.length (bc l)
  gr : Grow (fun k => ¬ WF W0.heap.size g v0 k) wE w
  nb : ∀ k, v.ownBlock = some k → v0.ownBlock = some k ∨ wE.heap.size ≤ k
def WSF (wE : World) (g : Nat) (v : Value) (k : Nat) : Prop := (k < wE.heap.size ∧ k ≠ g) ∨ v.ownBlock = some k
theorem owns_grow {w w' : World} {b e s : Nat} {v : Value} {n : Nat} {xs : List Value} {F : Nat → Prop} (h : w.ownsRow b e s v n xs) (hg : Grow F w w') (hF : ∀ k, v.ownBlock = some k → F k) : w'.ownsRow b e s v n xs := by
  obtain ⟨h1, h2⟩ := h
  refine ⟨h1, ?_⟩
  rcases h2 with h2 | ⟨g, cap, cur, a1, a2, a3, a4⟩
  · exact .inl h2
  · refine .inr ⟨g, cap, cur, a1, a2, ?_, a4⟩
    have hlt : g < w.heap.size := (Array.getElem?_eq_some_iff.1 a3).1
    exact (hg.block g hlt (hF g (by rw [a1]; rfl))).trans a3
theorem WS.rs (W0 wE : World) (g : Nat) (v0 v : Value) (l : List UInt8) : Rsrc (WS W0 wE g v0 v l) (WSF wE g v) := by
  refine ⟨fun w w' h gr => ?_, fun w k h hk => ?_⟩
  · refine ⟨⟨gr.os.trans h.bw.os, gr.tape.trans h.bw.tape, gr.output.trans h.bw.output, Nat.le_trans h.bw.size gr.size, fun k hk => (gr.block k (Nat.lt_of_lt_of_le hk h.bw.size) (.inl ⟨by have := h.hg; have := h.lt; omega, by have := h.hg; omega⟩)).trans (h.bw.block k hk)⟩, h.hg, h.lt, owns_grow h.own gr fun k hk => .inr hk, ?_, h.nb⟩
    refine ⟨gr.os.trans h.gr.os, gr.tape.trans h.gr.tape, gr.output.trans h.gr.output, Nat.le_trans h.gr.size gr.size, fun k hk hn => (gr.block k (Nat.lt_of_lt_of_le hk h.gr.size) (.inl ⟨hk, fun e => hn (.inr (.inl e))⟩)).trans (h.gr.block k hk hn)⟩
  · rcases hk with hk | hk
    · exact Nat.lt_of_lt_of_le hk.1 h.gr.size
    · exact (h.own.lt k hk).2
/-- Behind an append. -/
theorem WS.grown {W0 wE : World} {g : Nat} {v0 v v' : Value} {l l' : List UInt8} {w w' : World} (h : WS W0 wE g v0 v l w) (ho : w'.ownsRow (g + 1) 5 1 v' l'.length (bc l')) (hg : Grw v v' w w') : WS W0 wE g v0 v' l' w' := by
  have hne : ∀ k, k ≤ g → some k ≠ v.ownBlock := fun k hk e => by have := (h.own.lt k e.symm).1; omega
  refine ⟨⟨hg.gr.os.trans h.bw.os, hg.gr.tape.trans h.bw.tape, hg.gr.output.trans h.bw.output, Nat.le_trans h.bw.size hg.gr.size, fun k hk => (hg.gr.block k (Nat.lt_of_lt_of_le hk h.bw.size) (hne k (by have := h.hg; omega))).trans (h.bw.block k hk)⟩, h.hg, h.lt, ho, ?_, ?_⟩
  · refine ⟨hg.gr.os.trans h.gr.os, hg.gr.tape.trans h.gr.tape, hg.gr.output.trans h.gr.output, Nat.le_trans h.gr.size hg.gr.size, fun k hk hn => (hg.gr.block k (Nat.lt_of_lt_of_le hk h.gr.size) fun e => ?_).trans (h.gr.block k hk hn)⟩
    rcases h.nb k e.symm with h1 | h1
    · exact hn (.inr (.inr h1))
    · omega
  · intro k hk
    rcases hg.nb k hk with h1 | h1
    · exact h.nb k h1
    · exact .inr (Nat.le_trans h.gr.size h1)
theorem SI.grown {W0 wE : World} {g : Nat} {v0 v v' : Value} {l l' : List UInt8} {w w' : World} {ds : List Deferred} {β : Nat → Nat} {c : Cf} {a : Act} (I : SI (WS W0 wE g v0 v l) (WSF wE g v) ds β c a w) (ho : w'.ownsRow (g + 1) 5 1 v' l'.length (bc l')) (hg : Grw v v' w w') (r : Value) :
    SI (WS W0 wE g v0 v' l') (WSF wE g v') ds β (nxtQ c r) (a.put (dstQ c) r) w' := by
  refine I.moved ⟨hg.gr.os, hg.gr.tape, hg.gr.output, hg.gr.size, fun k hk hn => hg.gr.block k hk fun e => hn (.inr e.symm)⟩ (I.hJ.grown ho hg) (fun k hk h => ?_) r
  rcases h with h | h
  · exact .inl h
  · rcases hg.nb k h with h1 | h1
    · exact .inr h1
    · omega
theorem owns_slice {w : World} {b e s : Nat} {v : Value} {n : Nat} {xs : List Value} (h : w.ownsRow b e s v n xs) : ∃ ad cap, v = .slice ad n cap := by
  rcases h.2 with ⟨rfl, rfl⟩ | ⟨g, cap, cur, rfl, _⟩
  · exact ⟨none, 0, rfl⟩
  · exact ⟨_, _, rfl⟩
/-- Cells that lie in a row. -/
def CellsAt (w : World) (g o : Nat) (cs : List Value) : Prop := ∀ (j : Nat) (c : Value), cs[j]? = some c → w.cell? ⟨g, o + j, none⟩ = some c
/-- One cell. -/
theorem load1 {w : World} {g o : Nat} {cs : List Value} (h : CellsAt w g o cs) (j : Nat) {c : Value} (hc : cs[j]? = some c) (t : TypeId) {d : TypeDesc} (hu : Tryd.prog.underlying t = some d) (hd : aggB d = false) : (loadVar t ⟨g, o + j, none⟩).run Tryd.prog w = .ok c w := by
  have hA : (isAgg t).run Tryd.prog w = .ok false w := by
    unfold isAgg
    simp only [Sem.run_bind, run_underlying hu, Result.andThen_ok]
    cases d <;> first | rfl | simp [aggB] at hd
  unfold loadVar
  simp only [Sem.run_bind, hA, Result.andThen_ok, Bool.false_eq_true, if_false]
  rw [run_load, h j c hc]
/-- A place in a slice, as a fact. -/
def iA {T : World → Prop} (t : Nat) {e : TypeId} (hu : Tryd.prog.underlying t = some (.slice e)) {sz : Nat} (hs : (Tryd.prog.info? e).map (·.size) = some sz) {g off n cap i : Nat} (hi : i < n) : Fa Tryd.prog T := Sum.inr (Sum.inr
  { ok := fun | .indexAddr t' _ _ => t' == t | _ => false
    xs := #[.slice (some ⟨g, off, none⟩) n cap, Z i]
    v := .pointer (some ⟨g, off + i * sz, none⟩)
    fr := true
    h := by
      intro a w oo _ hok hx
      cases hop : oo.op with
      | indexAddr t' x y =>
        rw [hop] at hok hx
        simp only [beq_iff_eq] at hok
        subst hok
        simp only [opnds, List.map_cons, List.map_nil] at hx
        have hx1 : a.eval x = .slice (some ⟨g, off, none⟩) n cap ∧ a.eval y = Z i := by simpa using hx
        cases hq : Tryd.prog.info? e with
        | none => rw [hq] at hs; cases hs
        | some inf =>
          rw [hq] at hs
          simp only [Option.map_some, Option.some.injEq] at hs
          subst hs
          unfold execOp
          simp only [hop, hx1.1, hx1.2, Instr.indexAt, Sem.run_bind, asIntOf, Sem.run_pure, Result.andThen_ok, run_underlying hu]
          simp [hi, sizeOf, typeInfo, hq, add_off]
      | _ => rw [hop] at hok; simp at hok })
/-- A load, as a fact that asks for what stays. -/
def ldA {T : World → Prop} (t : Nat) {ad : Addr} {v : Value} (h : ∀ w, T w → (loadVar t ad).run Tryd.prog w = .ok v w) : Fa Tryd.prog T := Sum.inr (Sum.inr
  { ok := fun | .load t' _ => t' == t | _ => false
    xs := #[.pointer (some ad)]
    v := v
    fr := false
    h := by
      intro a w oo hT hok hx
      cases hop : oo.op with
      | load t' x =>
        rw [hop] at hok hx
        simp only [beq_iff_eq] at hok
        subst hok
        simp only [opnds, List.map_cons, List.map_nil] at hx
        have hx1 : a.eval x = .pointer (some ad) := by simpa using hx
        unfold execOp
        simp only [hop, hx1, Instr.loadAt, Instr.sureAddr, Sem.run_bind, Sem.run_pure, Result.andThen_ok, h w (by simpa using hT)]
      | _ => rw [hop] at hok; simp at hok })
abbrev str (l : List UInt8) : Value := .string ⟨l.toArray⟩
/-- The slice that is built next. -/
def bsQ (c : Cf) : Option (TypeId × Nat × List (Nat × SV)) := match opAtQ c with
  | some o => match o.op with
    | .buildSlice t n ps => (ps.toList.mapM fun p => (evQ c.tm p.2).map fun s => (p.1, s)).map fun ss => (t, n, ss)
    | _ => none
  | none => none
theorem mapP_ok {tm : Vs} (ha : a.tmps = (tm.map (upO β)).toArray) : ∀ {xs : List (Nat × Operand)} {ss : List (Nat × SV)}, (xs.mapM fun p => (evQ tm p.2).map fun s => (p.1, s)) = some ss → xs.map (fun p => (p.1, a.eval p.2)) = ss.map fun p => (p.1, up β p.2)
  | [], vs, h => by simp at h; subst h; rfl
  | x :: xs, vs, h => by
    rw [List.mapM_cons] at h
    cases h1 : evQ tm x.2 with
    | none => rw [h1] at h; simp at h
    | some v =>
      cases h2 : (xs.mapM fun p => (evQ tm p.2).map fun s => (p.1, s)) with
      | none => rw [h1, h2] at h; simp at h
      | some us =>
        rw [h1, h2] at h
        simp at h
        subst h
        rw [List.map_cons, mapP_ok ha h2, evQ_ok ha h1]
        rfl
theorem bslQ {t : TypeId} {n : Nat} {ss : List (Nat × SV)} {v : Value} {w' : World} (I : SI J F ds β c a w) (hr : (Instr.buildSlice t n (ss.map fun p => (p.1, up β p.2)).toArray).run P w = .ok v w') (k : At P Q (nxtQ c v) (a.put (dstQ c) v) w') (hc : bsQ c = some (t, n, ss) := by kernel_rfl) : At P Q c a w := by
  unfold bsQ at hc
  split at hc
  · next o ho =>
    split at hc
    · next t' n' ps hop =>
      simp only [Option.map_eq_some_iff, Prod.mk.injEq] at hc
      obtain ⟨ss', hm, rfl, rfl, rfl⟩ := hc
      refine vstep ho I (v := v) (w' := w') ?_ k
      have h1 := mapP_ok I.fr hm
      have h2 : (ps.map fun (i, x) => (i, a.eval x)) = (ss'.map fun p => (p.1, up β p.2)).toArray := by
        rw [← h1]; apply Array.ext'; simp
      unfold execOp
      simp only [hop, h2, Sem.run_bind, hr, Result.andThen_ok, Sem.run_pure]
    · cases hc
  · cases hc
theorem SI.exit {J : World → Prop} {F : Nat → Prop} {ds : List Deferred} {β : Nat → Nat} {c : Cf} {a : Act} {w : World} (I : SI J F ds β c a w) (r : Er) : SI J F ds β (cfE r c.tm c.rows c.nx) a w := I.cf rfl rfl rfl
/-- Within a reader's method: all that was there but its row lies as it lay; a row that grows. -/
structure RO (wE : World) (g e sz : Nat) (v : Value) (n : Nat) (xs : List Value) (w : World) : Prop where
  gr : Grow (fun k => k ≠ g) wE w
  own : w.ownsRow wE.heap.size e sz v n xs
def ROF (wE : World) (g : Nat) (v : Value) (k : Nat) : Prop := (k < wE.heap.size ∧ k ≠ g) ∨ v.ownBlock = some k
theorem RO.rs (wE : World) (g e sz : Nat) (v : Value) (n : Nat) (xs : List Value) : Rsrc (RO wE g e sz v n xs) (ROF wE g v) := by
  refine ⟨fun w w' h gr => ⟨⟨gr.os.trans h.gr.os, gr.tape.trans h.gr.tape, gr.output.trans h.gr.output, Nat.le_trans h.gr.size gr.size, fun k hk hn => (gr.block k (Nat.lt_of_lt_of_le hk h.gr.size) (.inl ⟨hk, hn⟩)).trans (h.gr.block k hk hn)⟩, owns_grow h.own gr fun k hk => .inr hk⟩, fun w k h hk => ?_⟩
  rcases hk with hk | hk
  · exact Nat.lt_of_lt_of_le hk.1 h.gr.size
  · exact (h.own.lt k hk).2
theorem Grow.trans {F : Nat → Prop} {a b c : World} (h : Grow F a b) (k : Grow F b c) : Grow F a c := ⟨k.os.trans h.os, k.tape.trans h.tape, k.output.trans h.output, Nat.le_trans h.size k.size, fun i hi hF => (k.block i (Nat.lt_of_lt_of_le hi h.size) hF).trans (h.block i hi hF)⟩
theorem str_size (l : List UInt8) : (⟨l.toArray⟩ : ByteArray).size = l.length := by
  show l.toArray.size = l.length
  simp
theorem str_extract (l : List UInt8) (i j : Nat) : (⟨l.toArray⟩ : ByteArray).extract i j = ⟨((l.take j).drop i).toArray⟩ := by
  apply ByteArray.ext
  rw [ByteArray.data_extract]
  simp [List.drop_take]
theorem idx_run {l : List UInt8} {k : Nat} {b : UInt8} (h : l[k]? = some b) (w : World) : (Instr.index 9 (str l) (Z k)).run Tryd.prog w = .ok (.int .u8 b.toNat) w := by
  have hk : k < l.length := (List.getElem?_eq_some_iff.1 h).1
  have hb : (⟨l.toArray⟩ : ByteArray)[k]? = some b := by
    have h2 : k < (⟨l.toArray⟩ : ByteArray).size := by rw [str_size]; exact hk
    rw [ByteArray.getElem?_lt' _ _ h2]
    congr 1
    have : l[k] = b := (List.getElem?_eq_some_iff.1 h).2
    rw [← this]
    rfl
  rw [run_index_string (P := Tryd.prog) w 9 ⟨l.toArray⟩ .i64 (k : Int) Tryd.underlying9]
  have h2 : k < (⟨l.toArray⟩ : ByteArray).size := by rw [str_size]; exact hk
  rw [ByteArray.getElem?_lt' _ _ h2] at hb
  have hb2 := Option.some.inj hb
  simp [h2, hb2]
theorem from_run {l : List UInt8} {k : Nat} (hk : k ≤ l.length) (w : World) : (Instr.sliceAt 9 (str l) (some (Z k)) none none).run Tryd.prog w = .ok (str (l.drop k)) w := by
  rw [run_sliceAt_string (P := Tryd.prog) w 9 (str l) _ _ _ Tryd.underlying9]
  rw [run_slice_string_from_if (P := Tryd.prog) w 9 ⟨l.toArray⟩ .i64 (k : Int) Tryd.underlying9]
  have : (0 : Int) ≤ k ∧ (k : Int) ≤ (⟨l.toArray⟩ : ByteArray).size := ⟨by omega, by rw [str_size]; omega⟩
  rw [if_pos this, str_extract, str_size, List.take_length]
  rfl
theorem to_run {l : List UInt8} {k : Nat} (hk : k ≤ l.length) (w : World) : (Instr.sliceAt 9 (str l) none (some (Z k)) none).run Tryd.prog w = .ok (str (l.take k)) w := by
  rw [run_sliceAt_string (P := Tryd.prog) w 9 (str l) _ _ _ Tryd.underlying9]
  rw [run_slice_string_to_if (P := Tryd.prog) w 9 ⟨l.toArray⟩ .i64 (k : Int) Tryd.underlying9]
  have : (0 : Int) ≤ k ∧ (k : Int) ≤ (⟨l.toArray⟩ : ByteArray).size := ⟨by omega, by rw [str_size]; omega⟩
  rw [if_pos this, str_extract]
  rfl
theorem eqS_run {a b : List UInt8} {q : Bool} (h : decide (a = b) = q) (x y : Operand) (w : World) : (do eqGuard .eql 9 x y (str a) (str b); binOp .eql 9 (str a) (str b) : Sem Value).run Tryd.prog w = .ok (.bool q) w := by
  simp [go_sem]
  rw [← h]
  by_cases hab : a = b <;> simp [hab]
/-- A part of a text up to a place, as a fact. -/
def sT {T : World → Prop} (t : Nat) {p l v : Value} (h : ∀ w, (Instr.sliceAt t p none (some l) none).run Tryd.prog w = .ok v w) : Fa Tryd.prog T :=
  Sum.inr (Sum.inr ⟨fun o => match o with | .slice t' _ none (some _) none => t' == t | _ => false, #[p, l], v, true, by
    intro a w oo _ hok hx
    cases hop : oo.op with
    | slice t' x lo hi mx =>
      rw [hop] at hok hx
      cases lo with
      | some y => simp at hok
      | none =>
        cases hi with
        | none => simp at hok
        | some z =>
          cases mx with
          | some z => simp at hok
          | none =>
            simp at hok
            subst hok
            simp [opnds] at hx
            unfold execOp
            simp only [hop, Option.map_some, Option.map_none, hx]
            rw [Sem.run_bind, h, Result.andThen_ok, Sem.run_pure]
    | _ => rw [hop] at hok; simp at hok⟩)
theorem eqB_run {x y : UInt8} {q : Bool} (h : decide (x = y) = q) (o1 o2 : Operand) (w : World) : (do eqGuard .eql 5 o1 o2 (.int .u8 x.toNat) (.int .u8 y.toNat); binOp .eql 5 (.int .u8 x.toNat) (.int .u8 y.toNat) : Sem Value).run Tryd.prog w = .ok (.bool q) w := by
  rw [← h]
  by_cases hx : x = y
  · simp [go_sem, hx]
  · have : ¬ (x.toNat = y.toNat) := fun e => hx (UInt8.toNat_inj.1 e)
    have h2 : ¬ ((x.toNat : Int) = (y.toNat : Int)) := by omega
    simp [go_sem, hx, h2]
theorem app_els {t e sz by_ : Nat} {z : Value} {i : TypeInfo} (ht : Tryd.prog.underlying t = some (.slice e)) (hi : Tryd.prog.info? e = some i) (hz : i.zero = some z) (hs : i.size = sz) (hby : i.bytes = by_) (hzs : z.cells.size = sz) (hsz : 0 < sz) (hb1 : by_ ≤ 1000)
    {w : World} {b : Nat} {v : Value} {n : Nat} {xs : List Value} (h : w.ownsRow b e sz v n xs) (hb : b ≤ w.heap.size) (a : Addr) (news : List Value) (hl : news.length = 1 * sz) (hnews : ∀ j u, news[j]? = some u → w.cell? (a.add j) = some u) (h1 : ∀ u ∈ news, u.oneCell' = true) (hn : n + 1 ≤ 1000000000) :
    ∃ v' w', (Builtin.append_ #[t, t] t #[v, .slice (some a) 1 1]).run Tryd.prog w = .ok v' w' ∧ w'.ownsRow b e sz v' (n + 1) (xs ++ news) ∧ Grw v v' w w' := by
  have hm : n + 1 ≤ maxLen := by simp only [maxLen]; omega
  have hbb : (n + 1) * by_ ≤ 140737488355328 := Nat.le_trans (Nat.mul_le_mul hn hb1) (by decide)
  obtain ⟨v', w', hr, ho, hg, _⟩ := run_append_own (P := Tryd.prog) w b t t e i z sz by_ ht hi hz hs hby hzs hsz v n xs h a 1 1 news hl hnews h1 hm hbb hb
  refine ⟨v', w', hr, ho, hg, ?_⟩
  rcases h.2 with ⟨rfl, rfl⟩ | ⟨g, cap, cur, rfl, hbg, hgc, hnc, hcm, hcs, htake⟩
  · have hr2 := run_append_nil (P := Tryd.prog) w t t e i z ht hi hz a 1 1 news (by rw [hs]; exact hl) hnews (by omega) (by omega) (by rw [hby]; simp only [Nat.zero_add, Nat.one_mul] at hbb ⊢; omega)
    rw [hr2] at hr; cases hr
    intro k hk; simp only [Value.ownBlock, Option.some.injEq] at hk; exact .inr (by omega)
  · by_cases hroom : n + 1 ≤ cap
    · have hfit : n * i.size + news.length ≤ cur.size := by rw [hl, hcs, hs, ← Nat.add_mul]; exact Nat.mul_le_mul_right _ hroom
      have hr2 := run_append_room (P := Tryd.prog) w t t e i ht hi g n cap cur hgc a 1 1 news (by rw [hs]; exact hl) hnews h1 hroom hfit
      rw [hr2] at hr; cases hr
      intro k hk; exact .inl hk
    · have hr2 := run_append_grow (P := Tryd.prog) w t t e i z ht hi hz ⟨g, 0, none⟩ n cap xs (by rw [hs]; exact h.1) (h.cells (g := g) rfl) a 1 1 news (by rw [hs]; exact hl) hnews (by omega) (by omega) (by rw [hby]; exact growslice_fits (by omega) hbb)
      rw [hr2] at hr; cases hr
      intro k hk; simp only [Value.ownBlock, Option.some.injEq] at hk; exact .inr (by omega)
theorem alloc_cell (w : World) (cs : Array Value) (t : TypeId) : ∀ j u, cs.toList[j]? = some u → (w.alloc (.cells cs t)).cell? ((⟨w.heap.size, 0, none⟩ : Addr).add j) = some u := by
  intro j u h
  have hr : HasRow (w.alloc (.cells cs t)) w.heap.size cs := HasRow.last rfl
  rw [add_off, Nat.zero_add, hr.cell]
  simpa using h
theorem RO.grown {wE : World} {g e sz : Nat} {v v' : Value} {n n' : Nat} {xs xs' : List Value} {w w' : World} (h : RO wE g e sz v n xs w) (ho : w'.ownsRow wE.heap.size e sz v' n' xs') (hg : Grw v v' w w') : RO wE g e sz v' n' xs' w' :=
  ⟨⟨hg.gr.os.trans h.gr.os, hg.gr.tape.trans h.gr.tape, hg.gr.output.trans h.gr.output, Nat.le_trans h.gr.size hg.gr.size, fun k hk hn => (hg.gr.block k (Nat.lt_of_lt_of_le hk h.gr.size) fun e => by have := (h.own.lt k e.symm).1; omega).trans (h.gr.block k hk hn)⟩, ho⟩
theorem SI.alloc {J : World → Prop} {F : Nat → Prop} {ds : List Deferred} {β : Nat → Nat} {c : Cf} {a : Act} {w : World} (I : SI J F ds β c a w) (R : Rsrc J F) (o : Obj) (r : Value) : SI J F ds β (nxtQ c r) (a.put (dstQ c) r) (w.alloc o) :=
  I.moved (Grow.of_below (below_alloc w o)) (R.loc w _ I.hJ (Grow.of_below (below_alloc w o))) (fun _ _ h => h) r
def sLH {T : World → Prop} (t : Nat) {p l m v : Value} (h : ∀ w, (Instr.sliceAt t p (some l) (some m) none).run Tryd.prog w = .ok v w) : Fa Tryd.prog T :=
  Sum.inr (Sum.inr ⟨fun o => match o with | .slice t' _ (some _) (some _) none => t' == t | _ => false, #[p, l, m], v, true, by
    intro a w oo _ hok hx
    cases hop : oo.op with
    | slice t' x lo hi mx =>
      rw [hop] at hok hx
      cases lo with
      | none => simp at hok
      | some y =>
        cases hi with
        | none => simp at hok
        | some z =>
          cases mx with
          | some z => simp at hok
          | none =>
            simp at hok
            subst hok
            simp [opnds] at hx
            unfold execOp
            simp only [hop, Option.map_some, Option.map_none, hx]
            rw [Sem.run_bind, h, Result.andThen_ok, Sem.run_pure]
    | _ => rw [hop] at hok; simp at hok⟩)
theorem both_run {l : List UInt8} {i j : Nat} (hij : i ≤ j) (hj : j ≤ l.length) (w : World) : (Instr.sliceAt 9 (str l) (some (Z i)) (some (Z j)) none).run Tryd.prog w = .ok (str ((l.take j).drop i)) w := by
  have h1 : (i : Int) ≤ j := by omega
  have h2 : (j : Int) ≤ (⟨l.toArray⟩ : ByteArray).size := by rw [str_size]; omega
  rw [run_sliceAt_string (P := Tryd.prog) w 9 (str l) _ _ _ Tryd.underlying9]
  have := run_slice_string (P := Tryd.prog) w 9 ⟨l.toArray⟩ .i64 .i64 (i : Int) (j : Int) Tryd.underlying9 (by omega) h1 h2
  rw [this, str_extract]
  rfl
theorem addS_run (a b : List UInt8) (hl : a.length + b.length ≤ 1000000000000) (x y : Operand) (w : World) : (do eqGuard .add 9 x y (str a) (str b); binOp .add 9 (str a) (str b) : Sem Value).run Tryd.prog w = .ok (str (a ++ b)) w := by
  have e : (⟨a.toArray⟩ : ByteArray) ++ (⟨b.toArray⟩ : ByteArray) = ⟨(a ++ b).toArray⟩ := by
    apply ByteArray.ext
    simp
  have hl' : a.length + b.length ≤ 9223372036854775807 := by omega
  simp [go_sem, e, hl']
theorem eqT_run {a b : ByteArray} {q : Bool} (h : decide (a = b) = q) (x y : Operand) (w : World) : (do eqGuard .eql 9 x y (.string a) (.string b); binOp .eql 9 (.string a) (.string b) : Sem Value).run Tryd.prog w = .ok (.bool q) w := by
  obtain ⟨la, rfl⟩ : ∃ l : List UInt8, a = ⟨l.toArray⟩ := ⟨a.data.toList, by simp⟩
  obtain ⟨lb, rfl⟩ : ∃ l : List UInt8, b = ⟨l.toArray⟩ := ⟨b.data.toList, by simp⟩
  have e : ((⟨la.toArray⟩ : ByteArray) = ⟨lb.toArray⟩) ↔ la = lb := ⟨fun e => by have := congrArg ByteArray.data e; simpa using this, fun e => by rw [e]⟩
  rw [← h]
  by_cases hx : la = lb
  · simp [go_sem, hx]
  · have h2 : ¬ ((⟨la.toArray⟩ : ByteArray) = ⟨lb.toArray⟩) := fun q => hx (e.1 q)
    simp [go_sem, hx]
/-- Cells as one value. -/
theorem loadN {t n : Nat} {d : TypeDesc} (hu : Tryd.prog.underlying t = some d) (hd : aggB d = true) (hi : (Tryd.prog.info? t).map (·.size) = some n) {w : World} {g o : Nat} {cs : List Value} (hl : cs.length = n) (h : CellsAt w g o cs) : (loadVar t ⟨g, o, none⟩).run Tryd.prog w = .ok (.agg cs.toArray) w := by
  have hl' : (loadCells ⟨g, o, none⟩ n).run Tryd.prog w = .ok cs.toArray w := by
    have := run_loadCells_list (P := Tryd.prog) w ⟨g, o, none⟩ cs (fun j c hc => by
      rw [add_off]
      exact h j c hc)
    rw [hl] at this
    exact this
  have hA : (isAgg t).run Tryd.prog w = .ok true w := by
    unfold isAgg
    simp only [Sem.run_bind, run_underlying hu, Result.andThen_ok]
    cases d <;> first | rfl | simp [aggB] at hd
  have hS : (sizeOf t).run Tryd.prog w = .ok n w := by
    cases hq : Tryd.prog.info? t with
    | none => rw [hq] at hi; cases hi
    | some i => rw [hq] at hi; simp only [Option.map_some, Option.some.injEq] at hi; simp [sizeOf, typeInfo, hq, hi]
  unfold loadVar
  simp only [Sem.run_bind, hA, Result.andThen_ok, if_true, hS, hl', Sem.run_pure]
theorem at_code {c1 c2 : Cf} (h : At P Q c2 a w) (he : (c1.ops, c1.rest, c1.ks, c1.dn) = (c2.ops, c2.rest, c2.ks, c2.dn) := by kernel_rfl) : At P Q c1 a w := by
  simp only [Prod.mk.injEq] at he
  refine ⟨?_⟩
  have := h.out
  unfold AtD at this ⊢
  rw [he.1, he.2.1, he.2.2.1, he.2.2.2]
  exact this
def iP {T : World → Prop} (t : Nat) {g off d : Nat} {i : Int} (hv : ioV Tryd.prog t i = some d) : Fa Tryd.prog T := Sum.inr (Sum.inr
  { ok := fun | .indexAddr t' _ _ => t' == t | _ => false
    xs := #[.pointer (some ⟨g, off, none⟩), Z i]
    v := .pointer (some ⟨g, off + d, none⟩)
    fr := true
    h := by
      intro a w oo _ hok hx
      cases hop : oo.op with
      | indexAddr t' x y =>
        rw [hop] at hok hx
        simp only [beq_iff_eq] at hok
        subst hok
        simp only [opnds, List.map_cons, List.map_nil] at hx
        have hx' : a.eval x = .pointer (some ⟨g, off, none⟩) ∧ a.eval y = Z i := by simpa using hx
        unfold execOp
        simp only [hop, hx'.1, hx'.2]
        have := (ty_ok (P := Tryd.prog) (by kernel_rfl)).hio t' i d hv g off w
        simp only [Sem.run_bind, this, Result.andThen_ok, Sem.run_pure]
      | _ => rw [hop] at hok; simp at hok })
end
end Go.Proofs.YtdlanihbpbfbcaaDoor
