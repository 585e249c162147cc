/- Terms in memory, and what they are as bytes; no function of the program is walked here. -/
import Derived.Test.YtjjiendgmnlokaaDoorKdWc
namespace Go.Proofs.YtjjiendgmnlokaaDoor
open Go.RowKit Go.Sort
set_option linter.unusedVariables false
set_option maxRecDepth 100000
/-- Rows of terms, at most so many lists within one another: a term is its kind, number, text and list. -/
def TL : Nat → Type
  | 0 => Unit
  | n + 1 => List (Int × Nat × ByteArray × TL n)
abbrev TT (n : Nat) : Type := Int × Nat × ByteArray × TL n
def cells7 (k : Int) (u : Nat) (s : ByteArray) (lv : Value) : List Value := [Z k, B (l0 u), B (l1 u), B (l2 u), B (l3 u), .string s, lv]
/-- Cells that lie in a row. -/
def CellsAt (w : World) (g o : Nat) (cs : List Value) : Prop := ∀ (j : Nat) (c : Value), cs[j]? = some c → w.cell? ⟨g, o + j, none⟩ = some c
def LAs {α : Type} (w : World) (L : Value → α → Prop) (v : Value) (l : List (Int × Nat × ByteArray × α)) : Prop :=
  ∃ ad cap, v = .slice ad l.length cap ∧ ∀ (i : Nat) (t : Int × Nat × ByteArray × α), l[i]? = some t → ∃ g off lv, ad = some ⟨g, off, none⟩ ∧ CellsAt w g (off + i * 7) (cells7 t.1 t.2.1 t.2.2.1 lv) ∧ L lv t.2.2.2
/-- A slice in memory that holds a row of terms. -/
def LA (w : World) : (n : Nat) → Value → TL n → Prop
  | 0, v, _ => ∃ ad cap, v = .slice ad 0 cap
  | n + 1, v, l => LAs w (LA w n) v l
theorem CellsAt.lt {w : World} {g o : Nat} {c : Value} {cs : List Value} (h : CellsAt w g o (c :: cs)) : g < w.heap.size := by
  have := h 0 c rfl
  unfold World.cell? at this
  cases hg : w.heap[g]? with
  | none => simp [hg] at this
  | some x => exact (Array.getElem?_eq_some_iff.1 hg).1
theorem CellsAt.keep {w w' : World} {g o : Nat} {cs : List Value} (h : CellsAt w g o cs) (hb : w'.heap[g]? = w.heap[g]?) : CellsAt w' g o cs := fun j c hc => by
  rw [← h j c hc]
  simp [World.cell?, hb]
theorem LA.below {w w' : World} (hb : Below w.heap.size w w') : ∀ {n : Nat} {v : Value} {l : TL n}, LA w n v l → LA w' n v l
  | 0, v, l, h => h
  | n + 1, v, l, h => by
    obtain ⟨ad, cap, hv, ht⟩ := h
    refine ⟨ad, cap, hv, fun i t hi => ?_⟩
    obtain ⟨g, off, lv, h1, h2, h3⟩ := ht i t hi
    exact ⟨g, off, lv, h1, h2.keep (hb.block g h2.lt), LA.below hb h3⟩
theorem load7 {w : World} {g o : Nat} {k : Int} {u : Nat} {s : ByteArray} {lv : Value} (h : CellsAt w g o (cells7 k u s lv)) : (loadVar 41 ⟨g, o, none⟩).run Tryd.prog w = .ok (.agg #[Z k, B (l0 u), B (l1 u), B (l2 u), B (l3 u), .string s, lv]) w := by
  have hl : (loadCells ⟨g, o, none⟩ 7).run Tryd.prog w = .ok (cells7 k u s lv).toArray w := by
    have := run_loadCells_list (P := Tryd.prog) w ⟨g, o, none⟩ (cells7 k u s lv) (fun j c hc => by
      rw [add_off]
      exact h j c hc)
    exact this
  have hA : (isAgg 41).run Tryd.prog w = .ok true w := by
    unfold isAgg
    simp only [Sem.run_bind, run_underlying Tryd.underlying41, Result.andThen_ok]
    rfl
  have hS : (sizeOf 41).run Tryd.prog w = .ok 7 w := by
    have hi : (Tryd.prog.info? 41).map (·.size) = some 7 := by kernel_rfl
    cases hq : Tryd.prog.info? 41 with
    | none => rw [hq] at hi; cases hi
    | some i => rw [hq] at hi; simp only [Option.map_some, Option.some.injEq] at hi; simp [sizeOf, typeInfo, hq, hi]
  unfold loadVar
  simp only [Sem.run_bind, hA, Result.andThen_ok, if_true, hS, hl, Sem.run_pure]
  rfl
/-- One cell. -/
theorem load1 {w : World} {g o : Nat} {cs : List Value} (h : CellsAt w g o cs) (j : Nat) {c : Value} (hc : cs[j]? = some c) (t : TypeId) {d : TypeDesc} (hu : Tryd.prog.underlying t = some d) (hd : aggB d = false) : (loadVar t ⟨g, o + j, none⟩).run Tryd.prog w = .ok c w := by
  have hA : (isAgg t).run Tryd.prog w = .ok false w := by
    unfold isAgg
    simp only [Sem.run_bind, run_underlying hu, Result.andThen_ok]
    cases d <;> first | rfl | simp [aggB] at hd
  unfold loadVar
  simp only [Sem.run_bind, hA, Result.andThen_ok, Bool.false_eq_true, if_false]
  rw [run_load, h j c hc]
/-- A place in a slice, as a fact. -/
def iA {T : World → Prop} (t : Nat) {e : TypeId} (hu : Tryd.prog.underlying t = some (.slice e)) {sz : Nat} (hs : (Tryd.prog.info? e).map (·.size) = some sz) {g off n cap i : Nat} (hi : i < n) : Fa Tryd.prog T := Sum.inr (Sum.inr
  { ok := fun | .indexAddr t' _ _ => t' == t | _ => false
    xs := #[.slice (some ⟨g, off, none⟩) n cap, Z i]
    v := .pointer (some ⟨g, off + i * sz, none⟩)
    fr := true
    h := by
      intro a w oo _ hok hx
      cases hop : oo.op with
      | indexAddr t' x y =>
        rw [hop] at hok hx
        simp only [beq_iff_eq] at hok
        subst hok
        simp only [opnds, List.map_cons, List.map_nil] at hx
        have hx1 : a.eval x = .slice (some ⟨g, off, none⟩) n cap ∧ a.eval y = Z i := by simpa using hx
        cases hq : Tryd.prog.info? e with
        | none => rw [hq] at hs; cases hs
        | some inf =>
          rw [hq] at hs
          simp only [Option.map_some, Option.some.injEq] at hs
          subst hs
          unfold execOp
          simp only [hop, hx1.1, hx1.2, Instr.indexAt, Sem.run_bind, asIntOf, Sem.run_pure, Result.andThen_ok, run_underlying hu]
          simp [hi, sizeOf, typeInfo, hq, add_off]
      | _ => rw [hop] at hok; simp at hok })
/-- A load, as a fact that asks for what stays. -/
def ldA {T : World → Prop} (t : Nat) {ad : Addr} {v : Value} (h : ∀ w, T w → (loadVar t ad).run Tryd.prog w = .ok v w) : Fa Tryd.prog T := Sum.inr (Sum.inr
  { ok := fun | .load t' _ => t' == t | _ => false
    xs := #[.pointer (some ad)]
    v := v
    fr := false
    h := by
      intro a w oo hT hok hx
      cases hop : oo.op with
      | load t' x =>
        rw [hop] at hok hx
        simp only [beq_iff_eq] at hok
        subst hok
        simp only [opnds, List.map_cons, List.map_nil] at hx
        have hx1 : a.eval x = .pointer (some ad) := by simpa using hx
        unfold execOp
        simp only [hop, hx1, Instr.loadAt, Instr.sureAddr, Sem.run_bind, Sem.run_pure, Result.andThen_ok, h w (by simpa using hT)]
      | _ => rw [hop] at hok; simp at hok })
/-- A text's tail. -/
def txt (s : ByteArray) : List UInt8 := wb s.size ++ s.data.toList ++ List.replicate ((32 - s.size % 32) % 32) 0
/-- One term more: the words so far, the tails so far; H: how many bytes the words have in all. -/
def stepE {α : Type} (E : α → List UInt8) (cnt : α → Nat) (H : Nat) (acc : List UInt8 × List UInt8) (t : Int × Nat × ByteArray × α) : List UInt8 × List UInt8 :=
  if t.1 = 0 then (acc.1 ++ wb t.2.1, acc.2)
  else if t.1 = 1 then (acc.1 ++ wb (H + acc.2.length), acc.2 ++ txt t.2.2.1)
  else if t.1 = 2 then (acc.1 ++ wb (H + acc.2.length), acc.2 ++ (wb (cnt t.2.2.2) ++ E t.2.2.2))
  else (acc.1 ++ List.replicate 32 0, acc.2)
def foldE {α : Type} (E : α → List UInt8) (cnt : α → Nat) (H : Nat) (l : List (Int × Nat × ByteArray × α)) : List UInt8 × List UInt8 := l.foldl (stepE E cnt H) ([], [])
def cntL : (n : Nat) → TL n → Nat
  | 0, _ => 0
  | n + 1, l => List.length (α := TT n) l
/-- Terms as bytes. -/
def enc : (n : Nat) → TL n → List UInt8
  | 0, _ => []
  | n + 1, l => let r := foldE (enc n) (cntL n) (32 * List.length (α := TT n) l) l; r.1 ++ r.2
section
variable {α : Type} {E : α → List UInt8} {cnt : α → Nat} {H : Nat}
theorem stepE_len (acc : List UInt8 × List UInt8) (t : Int × Nat × ByteArray × α) : (stepE E cnt H acc t).1.length = acc.1.length + 32 ∧ acc.2.length ≤ (stepE E cnt H acc t).2.length := by
  have hw := wb_len
  unfold stepE
  split
  · simp [hw]
  · split
    · simp [hw]
    · split
      · simp [hw]
      · simp
theorem foldE_take (l : List (Int × Nat × ByteArray × α)) (i : Nat) {t : Int × Nat × ByteArray × α} (h : l[i]? = some t) : foldE E cnt H (l.take (i + 1)) = stepE E cnt H (foldE E cnt H (l.take i)) t := by
  unfold foldE
  rw [List.take_add_one, h]
  simp [List.foldl_append]
theorem foldE_len : ∀ (l : List (Int × Nat × ByteArray × α)) (acc : List UInt8 × List UInt8), (l.foldl (stepE E cnt H) acc).1.length = acc.1.length + 32 * l.length ∧ acc.2.length ≤ (l.foldl (stepE E cnt H) acc).2.length
  | [], acc => ⟨by simp, Nat.le_refl _⟩
  | t :: l, acc => by
    obtain ⟨h1, h2⟩ := foldE_len l (stepE E cnt H acc t)
    obtain ⟨h3, h4⟩ := stepE_len (E := E) (cnt := cnt) (H := H) acc t
    simp only [List.foldl_cons, List.length_cons]
    omega
theorem foldE_le (l : List (Int × Nat × ByteArray × α)) (i : Nat) : (foldE E cnt H (l.take i)).2.length ≤ (foldE E cnt H l).2.length := by
  have h : foldE E cnt H l = (l.drop i).foldl (stepE E cnt H) (foldE E cnt H (l.take i)) := by
    unfold foldE
    rw [← List.foldl_append, List.take_append_drop]
  rw [h]
  exact (foldE_len _ _).2
end
/-- A word laid into the room for it. -/
theorem ovr_word (bs hd rest : List UInt8) (m u : Nat) (hm : 32 ≤ m) : ovr (bs ++ (hd ++ List.replicate m 0) ++ rest) (bs.length + hd.length) (wb u) = bs ++ (hd ++ wb u ++ List.replicate (m - 32) 0) ++ rest := by
  have hw := wb_len u
  unfold ovr
  have e : bs ++ (hd ++ List.replicate m 0) ++ rest = (bs ++ hd) ++ (List.replicate m (0 : UInt8) ++ rest) := by simp
  rw [e, List.take_append_of_le_length (by simp), List.take_of_length_le (by simp), List.drop_append]
  simp only [List.length_append, hw]
  rw [List.drop_eq_nil_of_le (by simp), List.drop_append, List.drop_replicate]
  simp only [List.length_replicate, List.nil_append]
  rw [show bs.length + hd.length + 32 - (bs.length + hd.length) = 32 by omega, show 32 - m = 0 by omega]
  simp
end Go.Proofs.YtjjiendgmnlokaaDoor
