/- Laid one behind the other: Wp, Wq, Wr. -/
import Derived.Test.YtjjiendgmnlokaaDoorKdWo
import Derived.Test.YtjjiendgmnlokaaDoorKdOp
import Derived.ReadAgain
import Derived.Deep.Slices
import Derived.Lib.SmallJoins
import Derived.ChangeShapes
/- Rows of terms that are handed in; how many bytes terms have. -/
namespace Go.Proofs.YtjjiendgmnlokaaDoor
open Go.RowKit Go.Sort Go.ChangeShapes Go.WideShapes Go.ChangeAt
set_option linter.unusedVariables false
set_option maxRecDepth 100000
theorem txt_len (s : ByteArray) : (txt s).length = 32 + s.size + pad s.size := by
  unfold txt
  have h := wb_len s.size
  have e : s.data.toList.length = s.size := Array.length_toList
  simp only [List.length_append, h, e, List.length_replicate]
theorem txt_mod (s : ByteArray) : (txt s).length % 32 = 0 := by rw [txt_len]; unfold pad; omega
theorem foldE_mod {α : Type} {E : α → List UInt8} {cnt : α → Nat} {H : Nat} (hE : ∀ x, (E x).length % 32 = 0) : ∀ (l : List (Int × Nat × ByteArray × α)) (acc : List UInt8 × List UInt8), acc.2.length % 32 = 0 → (l.foldl (stepE E cnt H) acc).2.length % 32 = 0
  | [], acc, h => h
  | t :: l, acc, h => by
    rw [List.foldl_cons]
    refine foldE_mod hE l _ ?_
    unfold stepE
    split
    · exact h
    · split
      · have := txt_mod t.2.2.1
        simp only [List.length_append]; omega
      · split
        · have h1 := wb_len (cnt t.2.2.2)
          have h2 := hE t.2.2.2
          simp only [List.length_append, h1]; omega
        · exact h
theorem enc_mod : ∀ (n : Nat) (l : TL n), (enc n l).length % 32 = 0
  | 0, _ => rfl
  | n + 1, l => by
    have h1 := foldE_mod (cnt := cntL n) (H := 32 * List.length (α := TT n) l) (enc_mod n) l ([], []) rfl
    have h2 := hd_len (E := enc n) (cnt := cntL n) (l := l) (i := List.length (α := TT n) l) (Nat.le_refl _)
    have e : List.take (List.length (α := TT n) l) l = l := List.take_length
    rw [e] at h2
    simp only [enc, List.length_append]
    have h3 : (foldE (enc n) (cntL n) (32 * List.length (α := TT n) l) l).2.length % 32 = 0 := h1
    omega
theorem foldE_bound {α : Type} {E : α → List UInt8} {cnt : α → Nat} {H : Nat} {tt : α → Nat} : ∀ (l : List (Int × Nat × ByteArray × α)) (acc : List UInt8 × List UInt8), (∀ t ∈ l, t.2.2.1.size ≤ 20000 ∧ (E t.2.2.2).length ≤ 20127 * tt t.2.2.2) → (l.foldl (stepE E cnt H) acc).2.length ≤ acc.2.length + 20095 * l.length + 20127 * (l.map fun t => tt t.2.2.2).sum
  | [], acc, h => by simp
  | t :: l, acc, h => by
    have ih := foldE_bound (cnt := cnt) (H := H) l (stepE E cnt H acc t) fun u hu => h u (List.mem_cons_of_mem _ hu)
    obtain ⟨h1, h2⟩ := h t List.mem_cons_self
    have hs : (stepE E cnt H acc t).2.length ≤ acc.2.length + 20095 + 20127 * tt t.2.2.2 := by
      unfold stepE
      split
      · simp; omega
      · split
        · have := txt_len t.2.2.1
          unfold pad at this
          simp only [List.length_append]; omega
        · split
          · have h3 := wb_len (cnt t.2.2.2)
            simp only [List.length_append, h3]; omega
          · simp; omega
    simp only [List.foldl_cons, List.length_cons, List.map_cons, List.sum_cons]
    omega
theorem enc_bound : ∀ (n : Nat) (l : TL n), tok n l → (enc n l).length ≤ 20127 * tot n l
  | 0, _, _ => Nat.zero_le _
  | n + 1, l, h => by
    have h1 := foldE_bound (E := enc n) (cnt := cntL n) (H := 32 * List.length (α := TT n) l) (tt := tot n) l ([], []) fun t ht => ⟨(h t ht).1, enc_bound n t.2.2.2 (h t ht).2.2⟩
    have h2 := hd_len (E := enc n) (cnt := cntL n) (l := l) (i := List.length (α := TT n) l) (Nat.le_refl _)
    have e : List.take (List.length (α := TT n) l) l = l := List.take_length
    rw [e] at h2
    simp only [enc, List.length_append, tot]
    have h3 : (foldE (enc n) (cntL n) (32 * List.length (α := TT n) l) l).2.length ≤ 0 + 20095 * List.length (α := TT n) l + 20127 * (List.map (fun t : TT n => tot n t.2.2.2) l).sum := h1
    omega
theorem c39 : Tryd.prog.cellsOf 39 = 4 := by kernel_rfl
theorem c3 : Tryd.prog.cellsOf 3 = 1 := by kernel_rfl
theorem c9 : Tryd.prog.cellsOf 9 = 1 := by kernel_rfl
theorem c22 : Tryd.prog.cellsOf 22 = 1 := by kernel_rfl
theorem c41 : Tryd.prog.cellsOf 41 = 7 := by kernel_rfl
section
variable {H : Type} {enc : TypeId × Value → H} {w : World} {base : Nat} {spare : Nat → Bool} {held : Bool}
theorem num_raw {fuel : Nat} {c0 c1 c2 c3 : Value} {x : DataW H × List MemPlace} (h : DataW.trod enc Tryd.prog w base spare held fuel 39 [c0, c1, c2, c3] = some x) : ∃ n, n < W ∧ c0 = B (l0 n) ∧ c1 = B (l1 n) ∧ c2 = B (l2 n) ∧ c3 = B (l3 n) := by
  obtain ⟨y0, y1, y2, y3, m, hx, h0, h1, h2, h3⟩ := trod_array4 Tryd.underlying39 cellsA22 h
  obtain ⟨a0, e0, rfl, w0⟩ := DataW.trod_int Tryd.underlying37 h0
  obtain ⟨a1, e1, rfl, w1⟩ := DataW.trod_int Tryd.underlying37 h1
  obtain ⟨a2, e2, rfl, w2⟩ := DataW.trod_int Tryd.underlying37 h2
  obtain ⟨a3, e3, rfl, w3⟩ := DataW.trod_int Tryd.underlying37 h3
  simp only [List.cons.injEq, and_true] at e0 e1 e2 e3
  subst e0 e1 e2 e3
  obtain ⟨k0, rfl, g0⟩ := wf_u64 w0
  obtain ⟨k1, rfl, g1⟩ := wf_u64 w1
  obtain ⟨k2, rfl, g2⟩ := wf_u64 w2
  obtain ⟨k3, rfl, g3⟩ := wf_u64 w3
  refine ⟨mk k0 k1 k2 k3, mk_lt _ _ _ _ g0 g1 g2 g3, ?_, ?_, ?_, ?_⟩
  · rw [l0_mk _ _ _ _ g0]
  · rw [l1_mk _ _ _ _ g0 g1]
  · rw [l2_mk _ _ _ _ g0 g1 g2]
  · rw [l3_mk _ _ _ _ g0 g1 g2 g3]
theorem term_raw {fuel : Nat} {cs : List Value} {x : DataW H × List MemPlace} (h : DataW.trod enc Tryd.prog w base spare held fuel 41 cs = some x) : ∃ k u s lv fuel' y, cs = cells7 k u s lv ∧ u < W ∧ s.size ≤ maxLen ∧ DataW.trod enc Tryd.prog w base spare held fuel' 22 [lv] = some y := by
  obtain ⟨y0, y1, y2, y3, n, hx, hl, h0, h1, h2, h3⟩ := Go.Joins.trod_struct4 Tryd.underlying41 h
  rw [c41] at hl
  match cs, hl with
  | [a0, a1, a2, a3, a4, a5, a6], _ =>
    rw [c3] at h0
    rw [c39] at h1
    rw [c9] at h2
    rw [c22] at h3
    obtain ⟨k, e0, _, _⟩ := DataW.trod_int Tryd.underlying3 h0
    obtain ⟨u, hu, e1, e2, e3, e4⟩ := num_raw h1
    obtain ⟨s, e5, _, hs⟩ := DataW.trod_string Tryd.underlying9 h2
    simp only [List.drop_zero, List.take_succ_cons, List.take_zero, List.cons.injEq, and_true] at e0
    simp only [List.drop_succ_cons, List.drop_zero, List.take_succ_cons, List.take_zero, List.cons.injEq, and_true] at e5
    subst e0 e1 e2 e3 e4 e5
    exact ⟨k, u, s, a6, n, y3, rfl, hu, hs, h3⟩
theorem LR_of : ∀ (n : Nat) {fuel : Nat} {v : Value} {x : DataW H × List MemPlace}, DataW.trod enc Tryd.prog w base spare held fuel 22 [v] = some x → LR w n v := by
  intro n
  induction n with
  | zero =>
    intro fuel v x h
    rcases Go.Deep.open_slice Tryd.underlying22 h with ⟨h0, _⟩ | ⟨a, len, cap, m, k, D, Pl, h0, _⟩
    · simp only [List.cons.injEq, and_true] at h0; exact ⟨none, 0, 0, h0⟩
    · simp only [List.cons.injEq, and_true] at h0; exact ⟨some a, len, cap, h0⟩
  | succ n ih =>
    intro fuel v x h
    rcases Go.Deep.open_slice Tryd.underlying22 h with ⟨h0, _⟩ | ⟨a, len, cap, m, k, D, Pl, h0, hb, hl, hm, hmm, _, hx⟩
    · simp only [List.cons.injEq, and_true] at h0
      exact ⟨none, 0, 0, h0, Nat.zero_le _, fun i hi => absurd hi (Nat.not_lt_zero i)⟩
    · simp only [List.cons.injEq, and_true] at h0
      refine ⟨some a, len, cap, h0, Nat.le_trans hl hm, fun i hi => ?_⟩
      have hle : len ≤ m := by rw [hmm]; split <;> omega
      have at_ : ∀ i, i < m → ∃ k u s lv fuel' y, (∀ j c, (cells7 k u s lv)[j]? = some c → w.cell? ((a.add (i * 7)).add j) = some c) ∧ u < W ∧ s.size ≤ maxLen ∧ DataW.trod enc Tryd.prog w base spare held fuel' 22 [lv] = some y := by
        intro i hi
        obtain ⟨cs', h1, h2⟩ := hx i hi
        obtain ⟨k, u, s, lv, f', y, rfl, h3, h4, h5⟩ := term_raw h2
        rw [c41] at h1
        obtain ⟨_, hlen, hc⟩ := World.cells?_some h1
        refine ⟨k, u, s, lv, f', y, fun j c hj => ?_, h3, h4, h5⟩
        have hj7 : j < 7 := by
          have := (List.getElem?_eq_some_iff.1 hj).1
          exact this
        rw [hc j hj7]; exact hj
      have hsp : a.spot = none := by
        obtain ⟨k, u, s, lv, f', y, hc, _⟩ := at_ 0 (by omega)
        have := hc 0 (Z k) rfl
        simp only [Nat.zero_mul, Addr.add, if_true] at this
        unfold World.cell? at this
        cases hq : a.spot with
        | none => rfl
        | some q =>
          cases hg : w.heap[a.block]? with
          | none => simp [hg] at this
          | some o => cases o <;> simp [hg, hq] at this
      obtain ⟨k, u, s, lv, f', y, hc, h3, h4, h5⟩ := at_ i (by omega)
      have ha : a = ⟨a.block, a.off, none⟩ := by cases a; simp only at hsp; rw [hsp]
      refine ⟨a.block, a.off, k, u, s, lv, by rw [← ha], fun j c hj => ?_, h3, h4, ih h5⟩
      have := hc j c hj
      rw [ha, add_off, add_off] at this
      exact this
theorem reread {W' : World} {ts : List TypeId} {vs : List Value} {ds : List (DataW H)} {p : List MemPlace} (hts : (ts.all fun t => decide (t < Tryd.prog.types.size)) = true) (h : DataW.TrodAll enc Tryd.prog w 0 (fun _ => true) true ts vs ds p) (hb : Below w.heap.size w W') : DataW.TrodAll enc Tryd.prog W' 0 (fun b => decide (b < w.heap.size)) true ts vs ds p := by
  have hlt := DataW.TrodAll.lt h
  have h1 : DataW.TrodAll enc Tryd.prog w 0 (fun b => decide (b < w.heap.size)) true ts vs ds p := DataW.TrodAll.respare (kids_rows (by kernel_rfl) (by kernel_rfl)) (slices_full_of _ (by kernel_rfl)) (fun t ht => by simpa using List.all_eq_true.1 hts t ht) h (fun q hq => by simpa using hlt q hq)
  have carry : ∀ {ts : List TypeId} {vs : List Value} {ds : List (DataW H)} {p : List MemPlace}, (∀ q ∈ p, q.block < w.heap.size) → DataW.TrodAll enc Tryd.prog w 0 (fun b => decide (b < w.heap.size)) true ts vs ds p → DataW.TrodAll enc Tryd.prog W' 0 (fun b => decide (b < w.heap.size)) true ts vs ds p := by
    intro ts
    induction ts with
    | nil => intro vs ds p _ h; cases vs <;> cases ds <;> first | exact h | exact h.elim
    | cons t ts ih =>
      intro vs ds p hp h
      cases vs with
      | nil => cases ds <;> exact h.elim
      | cons v vs =>
        cases ds with
        | nil => exact h.elim
        | cons d ds =>
          obtain ⟨p1, q1, ⟨n, hn⟩, h2, rfl⟩ := h
          refine ⟨p1, q1, ⟨n, DataW.trod_carry n t _ _ hn fun q hq => ?_⟩, ih (fun q hq => hp q (List.mem_append_right _ hq)) h2, rfl⟩
          have hql := hp q (List.mem_append_left _ hq)
          cases q with
          | cell b off => simp only [World.sameAt, World.cell?, hb.block b hql]
          | map b => exact hb.block b hql
  exact carry hlt h1
end
end Go.Proofs.YtjjiendgmnlokaaDoor

/- WordSize: for every row of terms. -/
namespace Go.Proofs.YtjjiendgmnlokaaDoor
open Go.RowKit Go.Sort
set_option linter.unusedVariables false
set_option maxRecDepth 100000
theorem LR.below {w w' : World} (hb : Below w.heap.size w w') : ∀ {n : Nat} {v : Value}, LR w n v → LR w' n v
  | 0, v, h => h
  | n + 1, v, h => by
    obtain ⟨ad, len, cap, hv, hl, ht⟩ := h
    refine ⟨ad, len, cap, hv, hl, fun i hi => ?_⟩
    obtain ⟨g, off, k, u, s, lv, h1, h2, h3, h4, h5⟩ := ht i hi
    exact ⟨g, off, k, u, s, lv, h1, h2.keep (hb.block g h2.lt), h3, h4, LR.below hb h5⟩
theorem enc_ge (n : Nat) (l : TL (n + 1)) : 32 * List.length (α := TT n) l ≤ (enc (n + 1) l).length := by
  have h2 := hd_len (E := enc n) (cnt := cntL n) (l := l) (i := List.length (α := TT n) l) (Nat.le_refl _)
  have e : List.take (List.length (α := TT n) l) l = l := List.take_length
  rw [e] at h2
  simp only [enc, List.length_append]
  omega
theorem few_at {W0 w : World} {v : Value} (h : LR W0 9 v) (hb : Below W0.heap.size W0 w) : Calls Tryd.prog 8 #[v] w fun e w' => Below w.heap.size w w' ∧ ∃ v', e = .returned v' ∧ (v' = .bool false ∨ ∃ l : TL 8, LA W0 8 v l ∧ tok 8 l ∧ tot 8 l ≤ 300 ∧ v' = .bool true) := by
  refine inQ (J := Below w.heap.size w) (F := (· < w.heap.size)) Tryd.func8 (Below.refl _ _) fun a I => ?_
  refine goQ [] (nonR w) I fun β a w1 I hb1 => ?_
  refine bcall [Sum.inl v, Sum.inl (Z (300 : Nat)), Sum.inl (Z (0 : Nat))] Tryd.func19 (nonR w) I _ (size_any 8 0 rfl h 300 (by omega) w1 (hb.trans (I.hJ.mono hb.size))) fun v' w2 hv I => ?_
  rcases hv with rfl | ⟨l, h1, h2, h3, rfl⟩
  · refine goQ [bO .geq 3 (run_geqZ (x := -1) (y := 0) (b := false) (by decide))] (nonR w) I fun β6 a6 w6 I hb6 => ?_
    exact outQ I ⟨I.hJ, _, rfl, .inl rfl⟩
  · refine goQ [bO .geq 3 (run_geqZ (x := tot 8 l) (y := 0) (b := true) (by simp))] (nonR w) I fun β6 a6 w6 I hb6 => ?_
    exact outQ I ⟨I.hJ, _, rfl, .inr ⟨l, h1, h2, h3, rfl⟩⟩
theorem size_walk {w : World} {v : Value} (h : LR w 9 v) : Calls Tryd.prog 6 #[v] w fun e w' => e = .returned (.bool true) ∧ Below w.heap.size w w' := by
  refine inQ (J := Below w.heap.size w) (F := (· < w.heap.size)) Tryd.func6 (Below.refl _ _) fun a I => ?_
  refine goQ [] (nonR w) I fun β a w1 I hb => ?_
  refine bcall [Sum.inl v] Tryd.func8 (nonR w) I _ (few_at h I.hJ) fun v' w2 hv I => ?_
  rcases hv with rfl | ⟨l, h1, h2, h3, rfl⟩
  · refine goQ [uO .not (p := .bool false) (v := .bool true) (by intros; rfl), kC Tryd.func9 awake_any] (nonR w) I fun β6 a6 w6 I hb6 => ?_
    exact outQ (v := .bool true) I ⟨rfl, I.hJ⟩
  · obtain ⟨ad, cap, rfl, _⟩ := id h1
    have hlen := enc_bound 8 l h2
    have hmod := enc_mod 8 l
    have hge : 32 * List.length (α := TT 7) l ≤ (enc 8 l).length := enc_ge 7 l
    have htm : Int.tmod ((enc 8 l).length : Nat) 32 = 0 := by rw [Int.tmod_eq_emod_of_nonneg (by omega)]; omega
    have hsz := str_size (enc 8 l)
    have hE : ∀ w', Below w.heap.size w w' → Calls Tryd.prog 12 #[.slice ad (List.length (α := TT 7) l) cap] w' fun e w'' => e = .returned (str (enc 8 l)) ∧ Below w'.heap.size w' w'' := fun w' hb' =>
      encode_any 8 l (h1.below hb') (by omega)
    refine goT (T := Below w.heap.size w) [uO .not (p := .bool true) (v := .bool false) (by intros; rfl), cA Tryd.func12 hE, lO Tryd.underlying9 (b := ⟨(enc 8 l).toArray⟩) (n := (enc 8 l).length) (by rw [hsz]), bO .rem 3 (run_remZ (x := (enc 8 l).length) (y := 32) (z := 0) (by decide) htm), bO .eql 3 (run_eqlZ (x := 0) (y := 0) (b := true) rfl),
      lO Tryd.underlying9 (b := ⟨(enc 8 l).toArray⟩) (n := (enc 8 l).length) (by rw [hsz]), lS Tryd.underlying22 (ad := ad) (n := List.length (α := TT 7) l) (cap := cap) rfl, bO .mul 3 (run_mulZ (x := 32) (y := List.length (α := TT 7) l) (z := (32 * List.length (α := TT 7) l : Nat)) (by rw [wz (by omega) (by omega)]; omega)), bO .geq 3 (run_geqZ (x := (enc 8 l).length) (y := (32 * List.length (α := TT 7) l : Nat)) (b := true) (by simp; omega)), kC Tryd.func9 awake_any] (nonR w) (fun _ h => h) I fun β6 a6 w6 I hb6 => ?_
    exact outQ (v := .bool true) I ⟨rfl, I.hJ⟩
end Go.Proofs.YtjjiendgmnlokaaDoor

/- WordHeads: for every row of numbers and every text. -/
namespace Go.Proofs.YtjjiendgmnlokaaDoor
open Go.RowKit Go.Sort
set_option linter.unusedVariables false
set_option maxRecDepth 100000
/-- A row of numbers. -/
def NR (w : World) (ad : Option Addr) (us : List Nat) : Prop := ∀ (i : Nat) (u : Nat), us[i]? = some u → ∃ g off, ad = some ⟨g, off, none⟩ ∧ CellsAt w g (off + i * 4) [B (l0 u), B (l1 u), B (l2 u), B (l3 u)] ∧ u < W
theorem load4 {w : World} {g o u : Nat} (h : CellsAt w g o [B (l0 u), B (l1 u), B (l2 u), B (l3 u)]) : (loadVar 39 ⟨g, o, none⟩).run Tryd.prog w = .ok (U u) w := by
  have hl : (loadCells ⟨g, o, none⟩ 4).run Tryd.prog w = .ok #[B (l0 u), B (l1 u), B (l2 u), B (l3 u)] w := by
    have := run_loadCells_list (P := Tryd.prog) w ⟨g, o, none⟩ [B (l0 u), B (l1 u), B (l2 u), B (l3 u)] (fun j c hc => by
      rw [add_off]
      exact h j c hc)
    exact this
  have hA : (isAgg 39).run Tryd.prog w = .ok true w := by
    unfold isAgg
    simp only [Sem.run_bind, run_underlying Tryd.underlying39, Result.andThen_ok]
    rfl
  have hS : (sizeOf 39).run Tryd.prog w = .ok 4 w := by kernel_rfl
  unfold loadVar
  simp only [Sem.run_bind, hA, Result.andThen_ok, if_true, hS, hl, Sem.run_pure]
theorem rbytes_str (n : Nat) (w : World) : Calls Tryd.prog 18 #[U n] w fun e w' => e = .returned (str (wb n)) ∧ Below w.heap.size w w' := rbytes_any n w
theorem addS_run (a b : List UInt8) (hl : a.length + b.length ≤ 1000000000000) (x y : Operand) (w : World) : (do eqGuard .add 9 x y (str a) (str b); binOp .add 9 (str a) (str b) : Sem Value).run Tryd.prog w = .ok (str (a ++ b)) w := by
  have e : (⟨a.toArray⟩ : ByteArray) ++ (⟨b.toArray⟩ : ByteArray) = ⟨(a ++ b).toArray⟩ := by
    apply ByteArray.ext
    simp
  have hl' : a.length + b.length ≤ 9223372036854775807 := by omega
  simp [go_sem, e, hl']
theorem bd_U (x : Nat) (hx : x < M) (w : World) : (Instr.build 39 (([0] : List Nat).zip [B x]).toArray).run Tryd.prog w = .ok (U x) w := by
  have h : (Instr.build 39 (([0] : List Nat).zip [B x]).toArray).run Tryd.prog w = .ok (.agg #[B x, B 0, B 0, B 0]) w := by kernel_rfl
  have h0 : l0 x = x := Nat.mod_eq_of_lt hx
  have h1 : l1 x = 0 := by unfold l1; rw [Nat.div_eq_of_lt hx]; rfl
  have hM : (0 : Nat) < M := by decide
  have h2 : l2 x = 0 := by unfold l2; rw [Nat.div_eq_of_lt (Nat.lt_of_lt_of_le hx (by decide))]; rfl
  have h3 : l3 x = 0 := by unfold l3; rw [Nat.div_eq_of_lt (Nat.lt_of_lt_of_le hx (by decide))]; rfl
  rw [h]; unfold U; rw [h0, h1, h2, h3]
theorem EO.grown {W0 : World} {e sz : Nat} {v v' : Value} {n n' : Nat} {xs xs' : List Value} {w w' : World} (h : EO W0 e sz v n xs w) (ho : w'.ownsRow W0.heap.size e sz v' n' xs') (hg : Grw v v' w w') : EO W0 e sz v' n' xs' w' :=
  ⟨⟨hg.gr.os.trans h.bw.os, hg.gr.tape.trans h.bw.tape, hg.gr.output.trans h.bw.output, Nat.le_trans h.bw.size hg.gr.size, fun k hk => (hg.gr.block k (Nat.lt_of_lt_of_le hk h.bw.size) fun e => by have := (h.own.lt k e.symm).1; omega).trans (h.bw.block k hk)⟩, ho⟩
theorem SI.grownE {W0 : World} {e sz : Nat} {v v' : Value} {n n' : Nat} {xs xs' : List Value} {w w' : World} {ds : List Deferred} {β : Nat → Nat} {c : Cf} {a : Act} (I : SI (EO W0 e sz v n xs) (EF W0 v) ds β c a w) (ho : w'.ownsRow W0.heap.size e sz v' n' xs') (hg : Grw v v' w w') (r : Value) :
    SI (EO W0 e sz v' n' xs') (EF W0 v') ds β (nxtQ c r) (a.put (dstQ c) r) w' := by
  refine I.moved ⟨hg.gr.os, hg.gr.tape, hg.gr.output, hg.gr.size, fun k hk hn => hg.gr.block k hk fun e => hn (.inr e.symm)⟩ (I.hJ.grown ho hg) (fun k hk h => ?_) r
  rcases h with h | h
  · exact .inl h
  · rcases hg.nb k h with h1 | h1
    · exact .inr h1
    · omega
/-- Many elements are put behind an owned row. -/
theorem app_many {t e sz by_ : Nat} {z : Value} {i : TypeInfo} (ht : Tryd.prog.underlying t = some (.slice e)) (hi : Tryd.prog.info? e = some i) (hz : i.zero = some z) (hs : i.size = sz) (hby : i.bytes = by_) (hzs : z.cells.size = sz) (hsz : 0 < sz) (hb1 : by_ ≤ 1000)
    {w : World} {b g n cap : Nat} {xs : List Value} (h : w.ownsRow b e sz (.slice (some ⟨g, 0, none⟩) n cap) n xs) (hb : b ≤ w.heap.size) (a : Addr) (m c : Nat) (news : List Value) (hl : news.length = m * sz) (hnews : ∀ j u, news[j]? = some u → w.cell? (a.add j) = some u) (h1 : ∀ u ∈ news, u.oneCell' = true) (hn : n + m ≤ 100000000000) :
    ∃ v' w', (Builtin.append_ #[t, t] t #[.slice (some ⟨g, 0, none⟩) n cap, .slice (some a) m c]).run Tryd.prog w = .ok v' w' ∧ w'.ownsRow b e sz v' (n + m) (xs ++ news) ∧ Grw (.slice (some ⟨g, 0, none⟩) n cap) v' w w' := by
  have hm : n + m ≤ maxLen := by simp only [maxLen]; omega
  have hbb : (n + m) * by_ ≤ 140737488355328 := Nat.le_trans (Nat.mul_le_mul hn hb1) (by decide)
  obtain ⟨v', w', hr, ho, hg, _⟩ := run_append_own (P := Tryd.prog) w b t t e i z sz by_ ht hi hz hs hby hzs hsz _ n xs h a m c news hl hnews h1 hm hbb hb
  refine ⟨v', w', hr, ho, hg, ?_⟩
  rcases h.2 with ⟨hq, _⟩ | ⟨g', cap', cur, hq, hbg, hgc, hnc, hcm, hcs, htake⟩
  · cases hq
  · cases hq
    by_cases hroom : n + m ≤ cap
    · have hfit : n * i.size + news.length ≤ cur.size := by rw [hl, hcs, hs, ← Nat.add_mul]; exact Nat.mul_le_mul_right _ hroom
      have hr2 := run_append_room (P := Tryd.prog) w t t e i ht hi g n cap cur hgc a m c news (by rw [hs]; exact hl) hnews h1 hroom hfit
      rw [hr2] at hr; cases hr
      intro k hk; exact .inl hk
    · have hr2 := run_append_grow (P := Tryd.prog) w t t e i z ht hi hz ⟨g, 0, none⟩ n cap xs (by rw [hs]; exact h.1) (h.cells (g := g) rfl) a m c news (by rw [hs]; exact hl) hnews (by omega) (by omega) (by rw [hby]; exact growslice_fits (by omega) hbb)
      rw [hr2] at hr; cases hr
      intro k hk; simp only [Value.ownBlock, Option.some.injEq] at hk; exact .inr (by omega)
/-- How many flat terms there are. -/
theorem size_gen2 {W0 : World} {R : Value → Prop} (deep : Nat) (hd : deep ≤ 8) (hR : ∀ lv, R lv → ∃ ad len cap, lv = .slice ad len cap)
    (hsub : ∀ (lv : Value) (m : Nat) (w : World), R lv → m ≤ 1000000 → Calls Tryd.prog 19 #[lv, Z m, Z (deep + 1 : Nat)] w fun e w' => e = .returned (Z (0 : Nat)) ∧ Below w.heap.size w w')
    {ad0 : Option Addr} {len cap0 : Nat} (hmem : ∀ i, i < len → ∃ g off k u s lv, ad0 = some ⟨g, off, none⟩ ∧ CellsAt W0 g (off + i * 7) (cells7 k u s lv) ∧ s.size ≤ 20000 ∧ R lv) (most : Nat) (hlm : len ≤ most) (hm : most ≤ 1000000) (wS : World) (hbS : Below W0.heap.size W0 wS) :
    Calls Tryd.prog 19 #[.slice ad0 len cap0, Z most, Z deep] wS fun e w' => e = .returned (Z len) ∧ Below wS.heap.size wS w' := by
  refine inQ (J := Below wS.heap.size wS) (F := (· < wS.heap.size)) Tryd.func19 (Below.refl _ _) fun a I => ?_
  refine goQ [bO .gtr 3 (run_gtrZ (x := deep) (y := 8) (b := false) (by simp; omega)), lS Tryd.underlying22 (ad := ad0) (n := len) (cap := cap0) rfl, bO .gtr 3 (run_gtrZ (x := len) (y := most) (b := false) (by simp; omega)), lS Tryd.underlying22 (ad := ad0) (n := len) (cap := cap0) rfl] (nonR wS) I fun β a w1 I hb => ?_
  let St : Nat → Act → World → Prop := fun k a w' => ∃ (i : Nat) (β : Nat → Nat) (u : Nat → Value), k = len - i ∧ i ≤ len ∧
    SI (Below wS.heap.size wS) (· < wS.heap.size) [] β (cfC (bodyL Tryd.f19) (fillF (scrF 50 szK) u 0 (szV (.slice ad0 len cap0) most deep len i)) [] 0) a w'
  refine lpM (bodyL Tryd.f19) St len ?_ ?_
  · obtain ⟨u, Iu⟩ := I.scr (bodyL Tryd.f19) (scrF 50 szK) (szV (.slice ad0 len cap0) most deep len 0) [] 0
    exact ⟨0, β, u, rfl, Nat.zero_le _, Iu⟩
  rintro k a3 w3 ⟨i, β3, u, rfl, hi, I⟩
  refine wp_cfC (tm := fillF (scrF 50 szK) u 0 (szV (.slice ad0 len cap0) most deep len i)) (rows := []) (nx := 0) ?_
  rcases Nat.lt_or_ge i len with hil | hil
  · obtain ⟨gm, off, kd, nu, tx, lv, rfl, hcm, htb, hlv⟩ := hmem i hil
    obtain ⟨adl, lenl, capl, rfl⟩ := hR lv hlv
    have hld : ∀ w, Below wS.heap.size wS w → (loadVar 9 ⟨gm, off + i * 7 + 5, none⟩).run Tryd.prog w = .ok (.string tx) w := fun w hb => load1 (hcm.keep ((hbS.trans (hb.mono hbS.size)).block gm hcm.lt)) 5 rfl 9 Tryd.underlying9 rfl
    have hld2 : ∀ w, Below wS.heap.size wS w → (loadVar 22 ⟨gm, off + i * 7 + 6, none⟩).run Tryd.prog w = .ok (.slice adl lenl capl) w := fun w hb => load1 (hcm.keep ((hbS.trans (hb.mono hbS.size)).block gm hcm.lt)) 6 rfl 22 Tryd.underlying22 rfl
    refine goT (T := fun w => Below wS.heap.size wS w) [lS Tryd.underlying22 (ad := some ⟨gm, off, none⟩) (n := len) (cap := cap0) rfl, bO .lss 3 (run_lssZ (x := i) (y := len) (b := true) (by simp; omega)), iA 22 Tryd.underlying22 (sz := 7) (by kernel_rfl) (g := gm) (off := off) (n := len) (cap := cap0) hil, ldA 9 hld, lO Tryd.underlying9 (b := tx) (n := tx.size) rfl, bO .gtr 3 (run_gtrZ (x := tx.size) (y := 20000) (b := false) (by simp; omega)),
      iA 22 Tryd.underlying22 (sz := 7) (by kernel_rfl) (g := gm) (off := off) (n := len) (cap := cap0) hil, ldA 22 hld2, bO .sub 3 (run_subZ (x := most) (y := len) (z := (most - len : Nat)) (by rw [wz (by omega) (by omega)]; omega)), bO .add 3 (run_addZ (x := deep) (y := 1) (z := (deep + 1 : Nat)) (by rw [wz (by omega) (by omega)]; omega)),
      kC Tryd.func19 (fun w => hsub (.slice adl lenl capl) (most - len) w hlv (by omega)), bO .lss 3 (run_lssZ (x := (0 : Nat)) (y := 0) (b := false) (by simp)), bO .add 3 (run_addZ (x := len) (y := (0 : Nat)) (z := len) (by rw [wz (by omega) (by omega)]; simp)), bO .add 3 (run_addZ (x := i) (y := 1) (z := (i + 1 : Nat)) (by rw [wz (by omega) (by omega)]; omega))] (nonR wS) (fun w h => h) I fun β6 a6 w6 I hb6 => ?_
    obtain ⟨u', Iu⟩ := I.scr (bodyL Tryd.f19) (scrF 50 szK) (szV (.slice (some ⟨gm, off, none⟩) len cap0) most deep len (i + 1)) [] 0
    exact endL ⟨len - (i + 1), by omega, i + 1, β6, u', rfl, hil, Iu⟩
  · obtain rfl : i = len := by omega
    refine goQ [lS Tryd.underlying22 (ad := ad0) (n := i) (cap := cap0) rfl, bO .lss 3 (run_lssZ (x := i) (y := i) (b := false) (by simp))] (nonR wS) I fun β4 a4 w4 I hb4 => ?_
    refine endE 0 ?_
    refine goQ [] (nonR wS) (I.cf rfl rfl rfl) fun β5 a5 w5 I hb5 => ?_
    exact outQ (v := Z i) I ⟨rfl, I.hJ⟩
theorem size_nil (most deep : Nat) (hd : deep ≤ 8) (hm : most ≤ 1000000) (w : World) : Calls Tryd.prog 19 #[.slice none 0 0, Z most, Z deep] w fun e w' => e = .returned (Z (0 : Nat)) ∧ Below w.heap.size w w' :=
  size_gen2 (W0 := w) (R := fun _ => False) deep hd (fun _ h => h.elim) (fun _ _ _ h => h.elim) (fun i hi => absurd hi (Nat.not_lt_zero i)) most (Nat.zero_le _) hm w (Below.refl _ _)
theorem flat_at {ts : List (Int × Nat × List UInt8)} {q : Int × Nat × List UInt8} {j : Nat} {c : Value} (hc : (tc q)[j]? = some c) : ∀ {l : List (Int × Nat × List UInt8)} {i : Nat}, l[i]? = some q → (l.flatMap tc)[i * 7 + j]? = some c := by
  intro l
  induction l with
  | nil => intro i h; simp at h
  | cons x l ih =>
    intro i h
    cases i with
    | zero =>
      simp only [List.getElem?_cons_zero, Option.some.injEq] at h
      subst h
      rw [List.flatMap_cons, Nat.zero_mul, Nat.zero_add, List.getElem?_append_left (by have := (List.getElem?_eq_some_iff.1 hc).1; simpa using this)]
      exact hc
    | succ i =>
      rw [List.flatMap_cons, List.getElem?_append_right (by simp; omega)]
      have e : (i + 1) * 7 + j - (tc x).length = i * 7 + j := by simp; omega
      rw [e]
      exact ih (by simpa using h)
theorem own_at {w : World} {b n : Nat} {v : Value} {ts : List (Int × Nat × List UInt8)} (h : w.ownsRow b 41 7 v n (ts.flatMap tc)) {i : Nat} {q : Int × Nat × List UInt8} (hq : ts[i]? = some q) : ∃ g cap, v = .slice (some ⟨g, 0, none⟩) n cap ∧ CellsAt w g (0 + i * 7) (tc q) := by
  have hi : i < ts.length := (List.getElem?_eq_some_iff.1 hq).1
  rcases h.2 with ⟨hv, hn⟩ | ⟨g, cap', cur, hv, hb, hg, hnc, hcm, hcs, hct⟩
  · have := h.1
    rw [hn] at this
    have h2 := flat_at (ts := ts) (q := q) (j := 0) (c := Z q.1) rfl hq
    have h3 : ts.flatMap tc = [] := List.length_eq_zero_iff.1 (by omega)
    rw [h3] at h2
    simp at h2
  · refine ⟨g, cap', hv, fun j c hc => ?_⟩
    have := h.cells (g := g) (by rw [hv]; rfl) _ _ (flat_at (ts := ts) hc hq)
    rw [add_off, ← Nat.add_assoc] at this
    exact this
theorem size_flat {b : Nat} {w : World} {v : Value} {ts : List (Int × Nat × List UInt8)} (h : w.ownsRow b 41 7 v ts.length (ts.flatMap tc)) (hx : ∀ t ∈ ts, t.2.2.length ≤ 20000) (hl : ts.length ≤ 300) : Calls Tryd.prog 19 #[v, Z (300 : Nat), Z (0 : Nat)] w fun e w' => e = .returned (Z ts.length) ∧ Below w.heap.size w w' := by
  obtain ⟨ad, cap, hvl⟩ := owns_slice h
  subst hvl
  refine size_gen2 (W0 := w) (R := fun lv => lv = .slice none 0 0) 0 (by omega) (fun lv h => ⟨_, _, _, h⟩) (fun lv m w h hm => by subst h; exact size_nil m 1 (by omega) hm w) (fun i hi => ?_) 300 hl (by omega) w (Below.refl _ _)
  obtain ⟨q, hq⟩ : ∃ q, ts[i]? = some q := ⟨_, List.getElem?_eq_getElem hi⟩
  obtain ⟨g, cap', hv, hc⟩ := own_at h hq
  cases hv
  exact ⟨g, 0, q.1, q.2.1, ⟨q.2.2.toArray⟩, .slice none 0 0, rfl, hc, by rw [str_size]; exact hx q (List.mem_of_getElem? hq), rfl⟩
abbrev nt (u : Nat) : Int × Nat × List UInt8 := (0, u, [])
theorem fold_nums {E : Unit → List UInt8} {cnt : Unit → Nat} {H : Nat} : ∀ (us : List Nat) (acc : List UInt8 × List UInt8), (us.map fun u => ((0 : Int), u, (⟨[].toArray⟩ : ByteArray), ())).foldl (stepE E cnt H) acc = (acc.1 ++ us.flatMap wb, acc.2)
  | [], acc => by simp
  | u :: us, acc => by
    rw [List.map_cons, List.foldl_cons, fold_nums us]
    simp [stepE, List.append_assoc]
abbrev TF := List (Int × Nat × ByteArray × Unit)
abbrev E0 : Unit → List UInt8 := fun _ => []
abbrev N0 : Unit → Nat := fun _ => 0
theorem enc1 (L : TF) : enc 1 L = (L.foldl (stepE E0 N0 (32 * L.length)) ([], [])).1 ++ (L.foldl (stepE E0 N0 (32 * L.length)) ([], [])).2 := rfl
abbrev numsL (us : List Nat) : TF := us.map fun u => ((0 : Int), u, (⟨[].toArray⟩ : ByteArray), ())
abbrev tf1 (ts : List (Int × Nat × List UInt8)) : TF := ts.map fun t => (t.1, t.2.1, ⟨t.2.2.toArray⟩, ())
theorem tl_nums : ∀ (us : List Nat) (ts : List (Int × Nat × List UInt8)), tf1 (us.map nt ++ ts) = numsL us ++ tf1 ts
  | [], ts => rfl
  | u :: us, ts => congrArg (List.cons ((0 : Int), u, (⟨[].toArray⟩ : ByteArray), ())) (tl_nums us ts)
theorem enc_nums (us : List Nat) : enc 1 (tl1 (us.map nt)) = us.flatMap wb := by
  have h := tl_nums us []
  rw [List.append_nil] at h
  have h2 : enc 1 (tl1 (us.map nt)) = enc 1 (numsL us ++ tf1 [] : TF) := congrArg (enc 1) h
  have h3 : enc 1 (numsL us ++ tf1 [] : TF) = us.flatMap wb := by
    refine (enc1 _).trans ?_
    rw [List.foldl_append, fold_nums us]
    simp
  exact h2.trans h3
theorem enc_numt (us : List Nat) (s : List UInt8) : enc 1 (tl1 (us.map nt ++ [(1, 0, s)])) = us.flatMap wb ++ (wb (32 * (us.length + 1)) ++ txt ⟨s.toArray⟩) := by
  have h2 : enc 1 (tl1 (us.map nt ++ [(1, 0, s)])) = enc 1 (numsL us ++ tf1 [(1, 0, s)] : TF) := congrArg (enc 1) (tl_nums us [(1, 0, s)])
  refine h2.trans ((enc1 _).trans ?_)
  rw [List.foldl_append, fold_nums us]
  simp [stepE]
theorem wbs_len : ∀ (us : List Nat), (us.flatMap wb).length = 32 * us.length
  | [] => rfl
  | u :: us => by rw [List.flatMap_cons, List.length_append, wb_len, wbs_len us, List.length_cons]; omega
theorem bs_zero (w : World) : (Instr.buildSlice 22 0 #[]).run Tryd.prog w = .ok (.slice (some ⟨w.heap.size, 0, none⟩) 0 0) (w.alloc (.cells #[] 41)) := by
  simp [go_sem]
theorem one_flat7 (ts : List (Int × Nat × List UInt8)) : ∀ u ∈ ts.flatMap tc, u.oneCell' = true := by
  intro u hu
  obtain ⟨t, _, h⟩ := List.mem_flatMap.1 hu
  simp only [tc, List.mem_cons, List.not_mem_nil, or_false] at h
  rcases h with rfl | rfl | rfl | rfl | rfl | rfl | rfl <;> rfl
theorem app_rows {w : World} {b b' g n : Nat} {v : Value} {ts : List (Int × Nat × List UInt8)} (h : w.ownsRow b 41 7 (.slice (some ⟨g, 0, none⟩) 0 0) 0 []) (hb : b ≤ w.heap.size) (hv : w.ownsRow b' 41 7 v n (ts.flatMap tc)) (hn : n ≤ 100000) :
    ∃ v' w', (Builtin.append_ #[22, 22] 22 #[.slice (some ⟨g, 0, none⟩) 0 0, v]).run Tryd.prog w = .ok v' w' ∧ w'.ownsRow b 41 7 v' n (ts.flatMap tc) ∧ Grw (.slice (some ⟨g, 0, none⟩) 0 0) v' w w' := by
  obtain ⟨inf, hi1, hi2, hi3, hi4⟩ := hI41
  rcases hv.2 with ⟨rfl, rfl⟩ | ⟨g', cap', cur, rfl, _⟩
  · have h3 : ts.flatMap tc = [] := List.length_eq_zero_iff.1 (by have := hv.1; omega)
    rw [h3]
    exact ⟨_, w, run_append_owned_none w b 22 22 41 inf 7 Tryd.underlying22 hi1 _ 0 [] h, h, ⟨⟨rfl, rfl, rfl, Nat.le_refl _, fun _ _ _ => rfl⟩, fun k hk => .inl hk⟩⟩
  · obtain ⟨v', w', h1, h2, h3⟩ := app_many Tryd.underlying22 hi1 hi2 hi3 hi4 rfl (by decide) (by decide) h hb ⟨g', 0, none⟩ n cap' (ts.flatMap tc) hv.1 (hv.cells (g := g') rfl) (one_flat7 ts) (by omega)
    rw [Nat.zero_add, List.nil_append] at h2
    exact ⟨v', w', h1, h2, h3⟩
theorem mid {α : Type} (A B C : List α) {i j : Nat} (hi : A.length = i) (hj : A.length + B.length = j) : ((A ++ (B ++ C)).take j).drop i = B := by
  subst hi hj
  rw [List.take_length_add_append, List.drop_left, List.take_left]
theorem addB_run (x y : Nat) (h : x + y < M) (o1 o2 : Operand) (w : World) : (do eqGuard .add 37 o1 o2 (B x) (B y); binOp .add 37 (B x) (B y) : Sem Value).run Tryd.prog w = .ok (B (x + y)) w := by
  have hw : IntKind.u64.wrap ((x : Int) + (y : Int)) = ((x + y : Nat) : Int) := by
    unfold M at h
    have := IntKind.wrap_u64 ((x : Int) + (y : Int))
    omega
  simp [go_sem, hw]
theorem cnvB (n : Nat) (hn : n < 1000000000000) (w : World) : (convert 3 37 (Z n)).run Tryd.prog w = .ok (B n) w := by
  have := IntKind.wrap_u64 (n : Int); simp [go_sem]; omega
abbrev hwK : List Nat := [0, 1, 5, 6, 20, 21, 22]
abbrev hwV (lv sv tv : Value) (want : List UInt8) (len i : Nat) : Vs := frm 111 [(0, Sum.inl lv), (1, Sum.inl sv), (5, Sum.inl tv), (6, Sum.inl (str want)), (20, Sum.inl lv), (21, Sum.inl (Z len)), (22, Sum.inl (Z i))]
theorem heads_walk {w : World} {ad0 : Option Addr} {cap0 : Nat} {us : List Nat} {s : List UInt8} (hm : NR w ad0 us) (h60 : us.length ≤ 60) (h1000 : s.length ≤ 1000) : Calls Tryd.prog 7 #[.slice ad0 us.length cap0, str s] w fun e w' => e = .returned (.bool true) ∧ Below w.heap.size w w' := by
  have hss := str_size s
  refine inQ (J := EO w 41 7 (.slice none 0 0) 0 []) (F := EF w (.slice none 0 0)) Tryd.func7 ⟨Below.refl _ _, World.ownsRow_nil _ _ _ _⟩ fun a I => ?_
  refine goQ [lS Tryd.underlying36 (ad := ad0) (n := us.length) (cap := cap0) rfl, bO .gtr 3 (run_gtrZ (x := us.length) (y := 60) (b := false) (by simp; omega)), lO Tryd.underlying9 (b := ⟨s.toArray⟩) (n := s.length) (by rw [hss]), bO .gtr 3 (run_gtrZ (x := s.length) (y := 1000) (b := false) (by simp; omega)), lS Tryd.underlying36 (ad := ad0) (n := us.length) (cap := cap0) rfl] (EO.rs _ _ _ _ _ _) I fun β a w0 I hb => ?_
  let St : Nat → Act → World → Prop := fun k a w' => ∃ i β u ad cap, k = us.length - i ∧ i ≤ us.length ∧
    SI (EO w 41 7 (.slice ad i cap) i (((us.take i).map nt).flatMap tc)) (EF w (.slice ad i cap)) [] β
      (cfC (bodyL Tryd.f7) (fillF (scrF 111 hwK) u 0 (hwV (.slice ad0 us.length cap0) (str s) (.slice ad i cap) ((us.take i).flatMap wb) us.length i)) [] 0) a w'
  refine lpM (bodyL Tryd.f7) St us.length ?_ ?_
  · obtain ⟨u, Iu⟩ := I.scr (bodyL Tryd.f7) (scrF 111 hwK) (hwV (.slice ad0 us.length cap0) (str s) (.slice none 0 0) [] us.length 0) [] 0
    exact ⟨0, β, u, none, 0, by omega, Nat.zero_le _, Iu⟩
  rintro k a3 w3 ⟨i, β3, u, ad, cap, rfl, hi, I⟩
  refine wp_cfC (tm := fillF (scrF 111 hwK) u 0 (hwV (.slice ad0 us.length cap0) (str s) (.slice ad i cap) ((us.take i).flatMap wb) us.length i)) (rows := []) (nx := 0) ?_
  rcases Nat.lt_or_ge i us.length with hil | hil
  · obtain ⟨n, hn⟩ : ∃ n, us[i]? = some n := ⟨_, List.getElem?_eq_getElem hil⟩
    obtain ⟨gm, off, rfl, hcm, hnW⟩ := hm i n hn
    have hld : ∀ w', Below w.heap.size w w' → (loadVar 39 ⟨gm, off + i * 4, none⟩).run Tryd.prog w' = .ok (U n) w' := fun w' hb => load4 (hcm.keep (hb.block gm hcm.lt))
    refine goT (T := fun w' => Below w.heap.size w w') [bO .lss 3 (run_lssZ (x := i) (y := us.length) (b := true) (by simp; omega)), iA 36 Tryd.underlying36 (sz := 4) (by kernel_rfl) (g := gm) (off := off) (n := us.length) (cap := cap0) hil, ldA 39 hld, dO 41 [1] (bd_num n)] (EO.rs _ _ _ _ _ _) (fun _ h => h.bw) I fun β4 a4 w4 I hb4 => ?_
    refine bslQ (ss := [(0, Sum.inl (.agg (tc (nt n)).toArray))]) I (bs_term _ _ _ _ _ _ _ w4) ?_
    have I7 := I.alloc (EO.rs _ _ _ _ _ _) (.cells (tc (nt n)).toArray 41) (.slice (some ⟨w4.heap.size, 0, none⟩) 1 1)
    obtain ⟨inf, hi1, hi2, hi3, hi4⟩ := hI41
    obtain ⟨v', w8, hr8, ho8, hg8⟩ := app_els Tryd.underlying22 hi1 hi2 hi3 hi4 rfl (by decide) (by decide) I7.hJ.own I7.hJ.bw.size ⟨w4.heap.size, 0, none⟩ (tc (nt n)) rfl (alloc_cell w4 (tc (nt n)).toArray 41) (by intro u hu; simp only [tc, List.mem_cons, List.not_mem_nil, or_false] at hu; rcases hu with rfl | rfl | rfl | rfl | rfl | rfl | rfl <;> rfl) (by omega)
    obtain ⟨ad8, cap8, rfl⟩ := owns_slice ho8
    refine appQ (ss := [Sum.inl (.slice ad i cap), Sum.inl (.slice (some ⟨w4.heap.size, 0, none⟩) 1 1)]) I7 hr8 ?_
    have htk : ((us.take i).map nt).flatMap tc ++ tc (nt n) = ((us.take (i + 1)).map nt).flatMap tc := by rw [List.take_add_one, hn]; simp
    have htw : (us.take i).flatMap wb ++ wb n = (us.take (i + 1)).flatMap wb := by rw [List.take_add_one, hn]; simp
    have hwl := wbs_len (us.take i)
    have hwn := wb_len n
    rw [List.length_take] at hwl
    rw [htk] at ho8
    have hadd := addS_run ((us.take i).flatMap wb) (wb n) (by omega)
    rw [htw] at hadd
    refine goQ [kC Tryd.func18 (rbytes_str n), bO .add 9 hadd, bO .add 3 (run_addZ (x := i) (y := 1) (z := (i + 1 : Nat)) (by rw [wz (by omega) (by omega)]; omega))] (EO.rs _ _ _ _ _ _) (I7.grownE ho8 hg8 _) fun β9 a9 w9 I hb9 => ?_
    obtain ⟨u', Iu⟩ := I.scr (bodyL Tryd.f7) (scrF 111 hwK) (hwV (.slice (some ⟨gm, off, none⟩) us.length cap0) (str s) (.slice ad8 (i + 1) cap8) ((us.take (i + 1)).flatMap wb) us.length (i + 1)) [] 0
    exact endL ⟨us.length - (i + 1), by omega, i + 1, β9, u', ad8, cap8, rfl, hil, Iu⟩
  · obtain rfl : i = us.length := by omega
    have hus : us.take us.length = us := List.take_length
    rw [hus] at I ⊢
    refine goQ [bO .lss 3 (run_lssZ (x := us.length) (y := us.length) (b := false) (by simp))] (EO.rs _ _ _ _ _ _) I fun β4 a4 w4 I hb4 => ?_
    refine endE 0 ?_
    have hwl := wbs_len us
    have hTl : (us.map nt).length = us.length := List.length_map _
    have hown : ∀ w', EO w 41 7 (.slice ad us.length cap) us.length ((us.map nt).flatMap tc) w' → w'.ownsRow w.heap.size 41 7 (.slice ad us.length cap) (us.map nt).length ((us.map nt).flatMap tc) := fun w' h => by rw [hTl]; exact h.own
    have hE : ∀ w', EO w 41 7 (.slice ad us.length cap) us.length ((us.map nt).flatMap tc) w' → Calls Tryd.prog 12 #[.slice ad us.length cap] w' fun e w'' => e = .returned (str (us.flatMap wb)) ∧ Below w'.heap.size w' w'' := fun w' h => by
      have := encode_any 1 (tl1 (us.map nt)) (LA_own (ts := us.map nt) (hown w' h)) (by rw [enc_nums, hwl]; omega)
      rw [enc_nums] at this
      exact this
    have hS : ∀ w', EO w 41 7 (.slice ad us.length cap) us.length ((us.map nt).flatMap tc) w' → Calls Tryd.prog 19 #[.slice ad us.length cap, Z (300 : Nat), Z (0 : Nat)] w' fun e w'' => e = .returned (Z us.length) ∧ Below w'.heap.size w' w'' := fun w' h => by
      have := size_flat (hown w' h) (fun t ht => by obtain ⟨u, _, rfl⟩ := List.mem_map.1 ht; exact Nat.zero_le _) (by rw [hTl]; omega)
      rw [hTl] at this
      exact this
    refine goT (T := EO w 41 7 (.slice ad us.length cap) us.length ((us.map nt).flatMap tc)) [cA Tryd.func12 hE, bO .neq 9 (neqT_run (a := ⟨(us.flatMap wb).toArray⟩) (b := ⟨(us.flatMap wb).toArray⟩) (q := false) (by simp)), cA Tryd.func19 hS, bO .lss 3 (run_lssZ (x := us.length) (y := 0) (b := false) (by simp))] (EO.rs _ _ _ _ _ _) (fun _ h => h) (I.exit _) fun β5 a5 w5 I hb5 => ?_
    refine bslQ (ss := []) I (bs_zero w5) ?_
    have ba5 := below_alloc w5 (.cells #[] 41)
    have b5 := I.hJ.bw
    have o5 := I.hJ.own
    have e5 : EO w 41 7 (.slice (some ⟨w5.heap.size, 0, none⟩) 0 0) 0 [] (w5.alloc (.cells #[] 41)) := ⟨b5.trans (ba5.mono b5.size), World.ownsRow_lit w5 #[] 0 b5.size (by decide) rfl⟩
    have I6 : SI (fun w' => EO w 41 7 (.slice ad us.length cap) us.length ((us.map nt).flatMap tc) w' ∧ EO w 41 7 (.slice (some ⟨w5.heap.size, 0, none⟩) 0 0) 0 [] w') (fun k => EF w (.slice ad us.length cap) k ∨ EF w (.slice (some ⟨w5.heap.size, 0, none⟩) 0 0) k) [] β5 _ _ _ := I.moved (Grow.of_below ba5) ⟨(EO.rs _ _ _ _ _ _).loc w5 _ I.hJ (Grow.of_below ba5), e5⟩ (fun k hk h => by
        rcases h with h | h | h
        · exact h
        · exact .inl h
        · simp only [Value.ownBlock, Option.some.injEq] at h
          omega) (.slice (some ⟨w5.heap.size, 0, none⟩) 0 0)
    have R6 := (EO.rs w 41 7 (.slice ad us.length cap) us.length ((us.map nt).flatMap tc)).both (EO.rs w 41 7 (.slice (some ⟨w5.heap.size, 0, none⟩) 0 0) 0 [])
    refine goQ [] R6 I6 fun β7 a7 w7 I hb7 => ?_
    obtain ⟨v8, w8, hr8, ho8, hg8⟩ := app_rows I.hJ.2.own I.hJ.2.bw.size I.hJ.1.own (by omega)
    obtain ⟨ad8, cap8, rfl⟩ := owns_slice ho8
    refine appQ (ss := [Sum.inl (.slice (some ⟨w5.heap.size, 0, none⟩) 0 0), Sum.inl (.slice ad us.length cap)]) I hr8 ?_
    have I8 : SI (EO w 41 7 (.slice ad8 us.length cap8) us.length ((us.map nt).flatMap tc)) (EF w (.slice ad8 us.length cap8)) [] β7 _ _ w8 := I.moved ⟨hg8.gr.os, hg8.gr.tape, hg8.gr.output, hg8.gr.size, fun k hk hn => hg8.gr.block k hk fun e => hn (.inr (.inr e.symm))⟩ (I.hJ.2.grown ho8 hg8) (fun k hk h => by
        rcases h with h | h
        · exact .inl (.inl h)
        · rcases hg8.nb k h with h1 | h1
          · exact .inr (.inr h1)
          · omega) (.slice ad8 us.length cap8)
    refine goQ [dO 41 [0, 2] (bd_txt s)] (EO.rs _ _ _ _ _ _) I8 fun β9 a9 w9 I hb9 => ?_
    refine bslQ (ss := [(0, Sum.inl (.agg (tc (1, 0, s)).toArray))]) I (bs_term _ _ _ _ _ _ _ w9) ?_
    have I10 := I.alloc (EO.rs _ _ _ _ _ _) (.cells (tc (1, 0, s)).toArray 41) (.slice (some ⟨w9.heap.size, 0, none⟩) 1 1)
    obtain ⟨inf, hi1, hi2, hi3, hi4⟩ := hI41
    obtain ⟨v11, w11, hr11, ho11, hg11⟩ := app_els Tryd.underlying22 hi1 hi2 hi3 hi4 rfl (by decide) (by decide) I10.hJ.own I10.hJ.bw.size ⟨w9.heap.size, 0, none⟩ (tc (1, 0, s)) rfl (alloc_cell w9 (tc (1, 0, s)).toArray 41) (by intro u hu; simp only [tc, List.mem_cons, List.not_mem_nil, or_false] at hu; rcases hu with rfl | rfl | rfl | rfl | rfl | rfl | rfl <;> rfl) (by omega)
    obtain ⟨ad11, cap11, rfl⟩ := owns_slice ho11
    refine appQ (ss := [Sum.inl (.slice ad8 us.length cap8), Sum.inl (.slice (some ⟨w9.heap.size, 0, none⟩) 1 1)]) I10 hr11 ?_
    have htl : (us.map nt ++ [(1, 0, s)]).length = us.length + 1 := by rw [List.length_append, hTl]; rfl
    have htk : (us.map nt).flatMap tc ++ tc (1, 0, s) = (us.map nt ++ [(1, 0, s)]).flatMap tc := by simp
    rw [htk] at ho11
    obtain ⟨N, hN⟩ : ∃ N, (us.flatMap wb).length = N := ⟨_, rfl⟩
    rw [hN] at hwl
    have hH : 32 * (us.length + 1) = N + 32 := by omega
    have hwb1 := wb_len (N + 32)
    have hwb2 := wb_len s.length
    obtain ⟨X, hX⟩ : ∃ X, enc 1 (tl1 (us.map nt ++ [(1, 0, s)])) = X := ⟨_, rfl⟩
    obtain ⟨zs, hzs, hzl⟩ : ∃ zs : List UInt8, txt ⟨s.toArray⟩ = wb s.length ++ (s ++ zs) ∧ zs.length ≤ 32 := ⟨List.replicate ((32 - s.length % 32) % 32) 0, by unfold txt; rw [hss]; simp [List.append_assoc], by rw [List.length_replicate]; omega⟩
    have hX1 : X = us.flatMap wb ++ (wb (N + 32) ++ (wb s.length ++ (s ++ zs))) := by rw [← hX, enc_numt, hH, hzs]
    have hX2 : X = (us.flatMap wb ++ wb (N + 32)) ++ (wb s.length ++ (s ++ zs)) := by rw [hX1, List.append_assoc]
    have hX3 : X = (us.flatMap wb ++ wb (N + 32) ++ wb s.length) ++ (s ++ zs) := by rw [hX1]; simp [List.append_assoc]
    have hXl : X.length = N + 64 + s.length + zs.length := by rw [hX1]; simp only [List.length_append, hN, hwb1, hwb2]; omega
    have hXs := str_size X
    have c0 : X.take N = us.flatMap wb := by rw [hX1, ← hN, List.take_left]
    have c1 : (X.take (N + 32)).drop N = wb (N + 32) := by rw [hX1]; exact mid _ _ _ hN (by rw [hN, hwb1])
    have c2 : (X.take (N + 64)).drop (N + 32) = wb s.length := by rw [hX2]; exact mid _ _ _ (by rw [List.length_append, hN, hwb1]) (by rw [List.length_append, hN, hwb1, hwb2])
    have c3 : (X.take (N + 64 + s.length)).drop (N + 64) = s := by rw [hX3]; exact mid _ _ _ (by simp only [List.length_append, hN, hwb1, hwb2]) (by simp only [List.length_append, hN, hwb1, hwb2])
    have hE2 : ∀ w', EO w 41 7 (.slice ad11 (us.length + 1) cap11) (us.length + 1) ((us.map nt ++ [(1, 0, s)]).flatMap tc) w' → Calls Tryd.prog 12 #[.slice ad11 (us.length + 1) cap11] w' fun e w'' => e = .returned (str X) ∧ Below w'.heap.size w' w'' := fun w' h => by
      have := encode_any 1 (tl1 (us.map nt ++ [(1, 0, s)])) (LA_own (ts := us.map nt ++ [(1, 0, s)]) (by rw [htl]; exact h.own)) (by rw [hX, hXl]; omega)
      rw [hX] at this
      exact this
    refine goT (T := EO w 41 7 (.slice ad11 (us.length + 1) cap11) (us.length + 1) ((us.map nt ++ [(1, 0, s)]).flatMap tc)) [cA Tryd.func12 hE2, lO Tryd.underlying9 (b := ⟨(us.flatMap wb).toArray⟩) (n := N) (by rw [str_size, hN])] (EO.rs _ _ _ _ _ _) (fun _ h => h) (I10.grownE ho11 hg11 _) fun β12 a12 w12 I hb12 => ?_
    have d0 : ∀ w, (Instr.sliceAt 9 (str X) none (some (Z N)) none).run Tryd.prog w = .ok (str (us.flatMap wb)) w := fun w => by rw [← c0]; exact to_run (by omega) w
    have d1 : ∀ w, (Instr.sliceAt 9 (str X) (some (Z N)) (some (Z (N + 32 : Nat))) none).run Tryd.prog w = .ok (str (wb (N + 32))) w := fun w => by rw [← c1]; exact both_run (by omega) (by omega) w
    have d2 : ∀ w, (Instr.sliceAt 9 (str X) (some (Z (N + 32 : Nat))) (some (Z (N + 64 : Nat))) none).run Tryd.prog w = .ok (str (wb s.length)) w := fun w => by rw [← c2]; exact both_run (by omega) (by omega) w
    have d3 : ∀ w, (Instr.sliceAt 9 (str X) (some (Z (N + 64 : Nat))) (some (Z (N + 64 + s.length : Nat))) none).run Tryd.prog w = .ok (str s) w := fun w => by have := both_run (l := X) (i := N + 64) (j := N + 64 + s.length) (by omega) (by omega) w; rw [c3] at this; exact this
    refine dwQ 42 [lO Tryd.underlying9 (b := ⟨X.toArray⟩) (n := X.length) (by rw [hXs]), bO .add 3 (run_addZ (x := N) (y := 64) (z := (N + 64 : Nat)) (by rw [wz (by omega) (by omega)]; omega)), lO Tryd.underlying9 (b := ⟨s.toArray⟩) (n := s.length) (by rw [hss]), bO .add 3 (run_addZ (x := (N + 64 : Nat)) (y := s.length) (z := (N + 64 + s.length : Nat)) (by rw [wz (by omega) (by omega)]; omega)), bO .lss 3 (run_lssZ (x := X.length) (y := (N + 64 + s.length : Nat)) (b := false) (by simp; omega)), sT 9 (p := str X) (l := Z N) (v := str (us.flatMap wb)) d0, bO .neq 9 (neqT_run (a := ⟨(us.flatMap wb).toArray⟩) (b := ⟨(us.flatMap wb).toArray⟩) (q := false) (by simp)), bO .add 3 (run_addZ (x := N) (y := 32) (z := (N + 32 : Nat)) (by rw [wz (by omega) (by omega)]; omega)), sLH 9 (p := str X) (l := Z (N : Nat)) (m := Z (N + 32 : Nat)) (v := str (wb (N + 32))) d1, vO 3 37 (p := Z N) (v := B N) (cnvB N (by omega)), bO .add 37 (addB_run N 32 (by unfold M; omega)), dO 39 [0] (bd_U (N + 32) (by unfold M; omega)), kC Tryd.func18 (rbytes_str (N + 32)), bO .neq 9 (neqT_run (a := ⟨(wb (N + 32)).toArray⟩) (b := ⟨(wb (N + 32)).toArray⟩) (q := false) (by simp)), bO .add 3 (run_addZ (x := N) (y := 32) (z := (N + 32 : Nat)) (by rw [wz (by omega) (by omega)]; omega)), bO .add 3 (run_addZ (x := N) (y := 64) (z := (N + 64 : Nat)) (by rw [wz (by omega) (by omega)]; omega)), sLH 9 (p := str X) (l := Z (N + 32 : Nat)) (m := Z (N + 64 : Nat)) (v := str (wb s.length)) d2, lO Tryd.underlying9 (b := ⟨s.toArray⟩) (n := s.length) (by rw [hss]), vO 3 37 (p := Z s.length) (v := B s.length) (cnvB s.length (by omega)), dO 39 [0] (bd_U s.length (by unfold M; omega)), kC Tryd.func18 (rbytes_str s.length), bO .neq 9 (neqT_run (a := ⟨(wb s.length).toArray⟩) (b := ⟨(wb s.length).toArray⟩) (q := false) (by simp))] (EO.rs _ _ _ _ _ _) PanOk.post I fun a13 w13 I => ?_
    refine goQ [bO .add 3 (run_addZ (x := N) (y := 64) (z := (N + 64 : Nat)) (by rw [wz (by omega) (by omega)]; omega)), bO .add 3 (run_addZ (x := N) (y := 64) (z := (N + 64 : Nat)) (by rw [wz (by omega) (by omega)]; omega)), lO Tryd.underlying9 (b := ⟨s.toArray⟩) (n := s.length) (by rw [hss]), bO .add 3 (run_addZ (x := (N + 64 : Nat)) (y := s.length) (z := (N + 64 + s.length : Nat)) (by rw [wz (by omega) (by omega)]; omega)), sLH 9 (p := str X) (l := Z (N + 64 : Nat)) (m := Z (N + 64 + s.length : Nat)) (v := str (s)) d3, bO .eql 9 (eqS_run (a := s) (b := s) (q := true) (by simp)), kC Tryd.func9 awake_any] (EO.rs _ _ _ _ _ _) I fun β14 a14 w14 I hb14 => ?_
    exact outQ (v := .bool true) I ⟨rfl, I.hJ.bw⟩
end Go.Proofs.YtjjiendgmnlokaaDoor
