/- Rows of terms that are handed in; how many bytes terms have. -/
import Derived.Test.YtjjiendgmnlokaaDoorKuWo
import Derived.Test.YtjjiendgmnlokaaDoorKuOp
import Derived.ReadAgain
import Derived.Deep.Slices
import Derived.Lib.SmallJoins
import Derived.ChangeShapes
namespace Go.Proofs.YtjjiendgmnlokaaDoor
open Go.RowKit Go.Sort Go.ChangeShapes Go.WideShapes Go.ChangeAt
set_option linter.unusedVariables false
set_option maxRecDepth 100000
theorem txt_len (s : ByteArray) : (txt s).length = 32 + s.size + pad s.size := by
  unfold txt
  have h := wb_len s.size
  have e : s.data.toList.length = s.size := Array.length_toList
  simp only [List.length_append, h, e, List.length_replicate]
theorem txt_mod (s : ByteArray) : (txt s).length % 32 = 0 := by rw [txt_len]; unfold pad; omega
theorem foldE_mod {α : Type} {E : α → List UInt8} {cnt : α → Nat} {H : Nat} (hE : ∀ x, (E x).length % 32 = 0) : ∀ (l : List (Int × Nat × ByteArray × α)) (acc : List UInt8 × List UInt8), acc.2.length % 32 = 0 → (l.foldl (stepE E cnt H) acc).2.length % 32 = 0
  | [], acc, h => h
  | t :: l, acc, h => by
    rw [List.foldl_cons]
    refine foldE_mod hE l _ ?_
    unfold stepE
    split
    · exact h
    · split
      · have := txt_mod t.2.2.1
        simp only [List.length_append]; omega
      · split
        · have h1 := wb_len (cnt t.2.2.2)
          have h2 := hE t.2.2.2
          simp only [List.length_append, h1]; omega
        · exact h
theorem enc_mod : ∀ (n : Nat) (l : TL n), (enc n l).length % 32 = 0
  | 0, _ => rfl
  | n + 1, l => by
    have h1 := foldE_mod (cnt := cntL n) (H := 32 * List.length (α := TT n) l) (enc_mod n) l ([], []) rfl
    have h2 := hd_len (E := enc n) (cnt := cntL n) (l := l) (i := List.length (α := TT n) l) (Nat.le_refl _)
    have e : List.take (List.length (α := TT n) l) l = l := List.take_length
    rw [e] at h2
    simp only [enc, List.length_append]
    have h3 : (foldE (enc n) (cntL n) (32 * List.length (α := TT n) l) l).2.length % 32 = 0 := h1
    omega
theorem foldE_bound {α : Type} {E : α → List UInt8} {cnt : α → Nat} {H : Nat} {tt : α → Nat} : ∀ (l : List (Int × Nat × ByteArray × α)) (acc : List UInt8 × List UInt8), (∀ t ∈ l, t.2.2.1.size ≤ 20000 ∧ (E t.2.2.2).length ≤ 20127 * tt t.2.2.2) → (l.foldl (stepE E cnt H) acc).2.length ≤ acc.2.length + 20095 * l.length + 20127 * (l.map fun t => tt t.2.2.2).sum
  | [], acc, h => by simp
  | t :: l, acc, h => by
    have ih := foldE_bound (cnt := cnt) (H := H) l (stepE E cnt H acc t) fun u hu => h u (List.mem_cons_of_mem _ hu)
    obtain ⟨h1, h2⟩ := h t List.mem_cons_self
    have hs : (stepE E cnt H acc t).2.length ≤ acc.2.length + 20095 + 20127 * tt t.2.2.2 := by
      unfold stepE
      split
      · simp; omega
      · split
        · have := txt_len t.2.2.1
          unfold pad at this
          simp only [List.length_append]; omega
        · split
          · have h3 := wb_len (cnt t.2.2.2)
            simp only [List.length_append, h3]; omega
          · simp; omega
    simp only [List.foldl_cons, List.length_cons, List.map_cons, List.sum_cons]
    omega
theorem enc_bound : ∀ (n : Nat) (l : TL n), tok n l → (enc n l).length ≤ 20127 * tot n l
  | 0, _, _ => Nat.zero_le _
  | n + 1, l, h => by
    have h1 := foldE_bound (E := enc n) (cnt := cntL n) (H := 32 * List.length (α := TT n) l) (tt := tot n) l ([], []) fun t ht => ⟨(h t ht).1, enc_bound n t.2.2.2 (h t ht).2.2⟩
    have h2 := hd_len (E := enc n) (cnt := cntL n) (l := l) (i := List.length (α := TT n) l) (Nat.le_refl _)
    have e : List.take (List.length (α := TT n) l) l = l := List.take_length
    rw [e] at h2
    simp only [enc, List.length_append, tot]
    have h3 : (foldE (enc n) (cntL n) (32 * List.length (α := TT n) l) l).2.length ≤ 0 + 20095 * List.length (α := TT n) l + 20127 * (List.map (fun t : TT n => tot n t.2.2.2) l).sum := h1
    omega
theorem c39 : Tryd.prog.cellsOf 39 = 4 := by kernel_rfl
theorem c3 : Tryd.prog.cellsOf 3 = 1 := by kernel_rfl
theorem c9 : Tryd.prog.cellsOf 9 = 1 := by kernel_rfl
theorem c22 : Tryd.prog.cellsOf 22 = 1 := by kernel_rfl
theorem c41 : Tryd.prog.cellsOf 41 = 7 := by kernel_rfl
section
variable {H : Type} {enc : TypeId × Value → H} {w : World} {base : Nat} {spare : Nat → Bool} {held : Bool}
theorem num_raw {fuel : Nat} {c0 c1 c2 c3 : Value} {x : DataW H × List MemPlace} (h : DataW.trod enc Tryd.prog w base spare held fuel 39 [c0, c1, c2, c3] = some x) : ∃ n, n < W ∧ c0 = B (l0 n) ∧ c1 = B (l1 n) ∧ c2 = B (l2 n) ∧ c3 = B (l3 n) := by
  obtain ⟨y0, y1, y2, y3, m, hx, h0, h1, h2, h3⟩ := trod_array4 Tryd.underlying39 cellsA22 h
  obtain ⟨a0, e0, rfl, w0⟩ := DataW.trod_int Tryd.underlying37 h0
  obtain ⟨a1, e1, rfl, w1⟩ := DataW.trod_int Tryd.underlying37 h1
  obtain ⟨a2, e2, rfl, w2⟩ := DataW.trod_int Tryd.underlying37 h2
  obtain ⟨a3, e3, rfl, w3⟩ := DataW.trod_int Tryd.underlying37 h3
  simp only [List.cons.injEq, and_true] at e0 e1 e2 e3
  subst e0 e1 e2 e3
  obtain ⟨k0, rfl, g0⟩ := wf_u64 w0
  obtain ⟨k1, rfl, g1⟩ := wf_u64 w1
  obtain ⟨k2, rfl, g2⟩ := wf_u64 w2
  obtain ⟨k3, rfl, g3⟩ := wf_u64 w3
  refine ⟨mk k0 k1 k2 k3, mk_lt _ _ _ _ g0 g1 g2 g3, ?_, ?_, ?_, ?_⟩
  · rw [l0_mk _ _ _ _ g0]
  · rw [l1_mk _ _ _ _ g0 g1]
  · rw [l2_mk _ _ _ _ g0 g1 g2]
  · rw [l3_mk _ _ _ _ g0 g1 g2 g3]
theorem term_raw {fuel : Nat} {cs : List Value} {x : DataW H × List MemPlace} (h : DataW.trod enc Tryd.prog w base spare held fuel 41 cs = some x) : ∃ k u s lv fuel' y, cs = cells7 k u s lv ∧ u < W ∧ s.size ≤ maxLen ∧ DataW.trod enc Tryd.prog w base spare held fuel' 22 [lv] = some y := by
  obtain ⟨y0, y1, y2, y3, n, hx, hl, h0, h1, h2, h3⟩ := Go.Joins.trod_struct4 Tryd.underlying41 h
  rw [c41] at hl
  match cs, hl with
  | [a0, a1, a2, a3, a4, a5, a6], _ =>
    rw [c3] at h0
    rw [c39] at h1
    rw [c9] at h2
    rw [c22] at h3
    obtain ⟨k, e0, _, _⟩ := DataW.trod_int Tryd.underlying3 h0
    obtain ⟨u, hu, e1, e2, e3, e4⟩ := num_raw h1
    obtain ⟨s, e5, _, hs⟩ := DataW.trod_string Tryd.underlying9 h2
    simp only [List.drop_zero, List.take_succ_cons, List.take_zero, List.cons.injEq, and_true] at e0
    simp only [List.drop_succ_cons, List.drop_zero, List.take_succ_cons, List.take_zero, List.cons.injEq, and_true] at e5
    subst e0 e1 e2 e3 e4 e5
    exact ⟨k, u, s, a6, n, y3, rfl, hu, hs, h3⟩
theorem LR_of : ∀ (n : Nat) {fuel : Nat} {v : Value} {x : DataW H × List MemPlace}, DataW.trod enc Tryd.prog w base spare held fuel 22 [v] = some x → LR w n v := by
  intro n
  induction n with
  | zero =>
    intro fuel v x h
    rcases Go.Deep.open_slice Tryd.underlying22 h with ⟨h0, _⟩ | ⟨a, len, cap, m, k, D, Pl, h0, _⟩
    · simp only [List.cons.injEq, and_true] at h0; exact ⟨none, 0, 0, h0⟩
    · simp only [List.cons.injEq, and_true] at h0; exact ⟨some a, len, cap, h0⟩
  | succ n ih =>
    intro fuel v x h
    rcases Go.Deep.open_slice Tryd.underlying22 h with ⟨h0, _⟩ | ⟨a, len, cap, m, k, D, Pl, h0, hb, hl, hm, hmm, _, hx⟩
    · simp only [List.cons.injEq, and_true] at h0
      exact ⟨none, 0, 0, h0, Nat.zero_le _, fun i hi => absurd hi (Nat.not_lt_zero i)⟩
    · simp only [List.cons.injEq, and_true] at h0
      refine ⟨some a, len, cap, h0, Nat.le_trans hl hm, fun i hi => ?_⟩
      have hle : len ≤ m := by rw [hmm]; split <;> omega
      have at_ : ∀ i, i < m → ∃ k u s lv fuel' y, (∀ j c, (cells7 k u s lv)[j]? = some c → w.cell? ((a.add (i * 7)).add j) = some c) ∧ u < W ∧ s.size ≤ maxLen ∧ DataW.trod enc Tryd.prog w base spare held fuel' 22 [lv] = some y := by
        intro i hi
        obtain ⟨cs', h1, h2⟩ := hx i hi
        obtain ⟨k, u, s, lv, f', y, rfl, h3, h4, h5⟩ := term_raw h2
        rw [c41] at h1
        obtain ⟨_, hlen, hc⟩ := World.cells?_some h1
        refine ⟨k, u, s, lv, f', y, fun j c hj => ?_, h3, h4, h5⟩
        have hj7 : j < 7 := by
          have := (List.getElem?_eq_some_iff.1 hj).1
          exact this
        rw [hc j hj7]; exact hj
      have hsp : a.spot = none := by
        obtain ⟨k, u, s, lv, f', y, hc, _⟩ := at_ 0 (by omega)
        have := hc 0 (Z k) rfl
        simp only [Nat.zero_mul, Addr.add, if_true] at this
        unfold World.cell? at this
        cases hq : a.spot with
        | none => rfl
        | some q =>
          cases hg : w.heap[a.block]? with
          | none => simp [hg] at this
          | some o => cases o <;> simp [hg, hq] at this
      obtain ⟨k, u, s, lv, f', y, hc, h3, h4, h5⟩ := at_ i (by omega)
      have ha : a = ⟨a.block, a.off, none⟩ := by cases a; simp only at hsp; rw [hsp]
      refine ⟨a.block, a.off, k, u, s, lv, by rw [← ha], fun j c hj => ?_, h3, h4, ih h5⟩
      have := hc j c hj
      rw [ha, add_off, add_off] at this
      exact this
theorem reread {W' : World} {ts : List TypeId} {vs : List Value} {ds : List (DataW H)} {p : List MemPlace} (hts : (ts.all fun t => decide (t < Tryd.prog.types.size)) = true) (h : DataW.TrodAll enc Tryd.prog w 0 (fun _ => true) true ts vs ds p) (hb : Below w.heap.size w W') : DataW.TrodAll enc Tryd.prog W' 0 (fun b => decide (b < w.heap.size)) true ts vs ds p := by
  have hlt := DataW.TrodAll.lt h
  have h1 : DataW.TrodAll enc Tryd.prog w 0 (fun b => decide (b < w.heap.size)) true ts vs ds p := DataW.TrodAll.respare (kids_rows (by kernel_rfl) (by kernel_rfl)) (slices_full_of _ (by kernel_rfl)) (fun t ht => by simpa using List.all_eq_true.1 hts t ht) h (fun q hq => by simpa using hlt q hq)
  have carry : ∀ {ts : List TypeId} {vs : List Value} {ds : List (DataW H)} {p : List MemPlace}, (∀ q ∈ p, q.block < w.heap.size) → DataW.TrodAll enc Tryd.prog w 0 (fun b => decide (b < w.heap.size)) true ts vs ds p → DataW.TrodAll enc Tryd.prog W' 0 (fun b => decide (b < w.heap.size)) true ts vs ds p := by
    intro ts
    induction ts with
    | nil => intro vs ds p _ h; cases vs <;> cases ds <;> first | exact h | exact h.elim
    | cons t ts ih =>
      intro vs ds p hp h
      cases vs with
      | nil => cases ds <;> exact h.elim
      | cons v vs =>
        cases ds with
        | nil => exact h.elim
        | cons d ds =>
          obtain ⟨p1, q1, ⟨n, hn⟩, h2, rfl⟩ := h
          refine ⟨p1, q1, ⟨n, DataW.trod_carry n t _ _ hn fun q hq => ?_⟩, ih (fun q hq => hp q (List.mem_append_right _ hq)) h2, rfl⟩
          have hql := hp q (List.mem_append_left _ hq)
          cases q with
          | cell b off => simp only [World.sameAt, World.cell?, hb.block b hql]
          | map b => exact hb.block b hql
  exact carry hlt h1
end
end Go.Proofs.YtjjiendgmnlokaaDoor
