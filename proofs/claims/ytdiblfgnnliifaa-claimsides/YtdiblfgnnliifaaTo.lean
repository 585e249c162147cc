/- The chapter's example. -/
import Derived.Test.YtdiblfgnnliifaaTk
namespace Go.Proofs.Ytdiblfgnnliifaa
open Go.RowKit Go.Sort
set_option linter.unusedVariables false
set_option maxRecDepth 100000
theorem flat_any {α : Type} {f : α → List Value} {sz : Nat} (hf : ∀ x, (f x).length = sz) : ∀ (l : List α), (l.map f).flatten.length = l.length * sz
  | [] => by simp
  | x :: l => by rw [List.map_cons, List.flatten_cons, List.length_append, flat_any hf l, hf, List.length_cons, Nat.succ_mul]; omega
theorem own_new {α : Type} (f : α → List Value) (e sz : Nat) (l : List α) (hf : ∀ x, (f x).length = sz) (hn : l.length ≤ 1000) {cur : Array Value} (hc : cur.toList = (l.map f).flatten) (w : World) : (w.alloc (.cells cur e)).ownsRow w.heap.size e sz (.slice (some ⟨w.heap.size, 0, none⟩) l.length l.length) (l.map f).length (l.map f).flatten := by
  have h1 := flat_any hf l
  refine ⟨by rw [h1, List.length_map], .inr ⟨w.heap.size, l.length, cur, by rw [List.length_map], Nat.le_refl _, heap_alloc_new w _, by rw [List.length_map]; exact Nat.le_refl _, by simp only [maxLen]; omega, by rw [← h1, ← hc]; simp, ?_⟩⟩
  rw [List.length_map, ← h1, hc, List.take_length]
theorem nw_al (l : List Al) (hl : ∀ x ∈ l, x.2.1 < W) (hn : l.length ≤ 1000) {cur : Array Value} (hc : cur.toList = (l.map al8).flatten) (w : World) : NW w [alF (.slice (some ⟨w.heap.size, 0, none⟩) l.length l.length) l] (w.alloc (.cells cur 39)) := by
  have h := own_list (C := C8) al8 (own_new al8 39 8 l (fun _ => rfl) hn hc w) fun x hx => ⟨rfl, rfl, hl x hx⟩
  have hz : (w.alloc (.cells cur 39)).heap.size = w.heap.size + 1 := by simp
  exact ⟨below_alloc w _, fun k => (Value.slice (some ⟨w.heap.size, 0, none⟩) l.length l.length).ownBlock = some k, fun k hk => by simp only [Value.ownBlock, Option.some.injEq] at hk; omega, fun f hf => by rw [List.mem_singleton.1 hf]; exact h⟩
theorem bs22_2 (x y : Al) (w : World) : (Instr.buildSlice 22 2 #[(0, alV x), (1, alV y)]).run Try.prog w = .ok (.slice (some ⟨w.heap.size, 0, none⟩) 2 2) (w.alloc (.cells (([x, y].map al8).flatten.toArray) 39)) := by kernel_rfl
abbrev z32 : List UInt8 := List.replicate 32 0
abbrev c32 : ByteArray := ⟨z32.toArray⟩
theorem text_own {w : World} {b : Nat} {v : Value} {l : List UInt8} (h : w.ownsRow b 5 1 v l.length (bc l)) : (convert 43 9 v).run Try.prog w = .ok (.string ⟨l.toArray⟩) w := by
  rcases h.2 with ⟨rfl, hn⟩ | ⟨g, cap, cur, rfl, hbg, hgc, hnc, hcm, hcs, htake⟩
  · have : l = [] := List.eq_nil_of_length_eq_zero hn
    subst this
    exact run_convert_bytes_nil (P := Try.prog) w 43 5 Try.underlying43 Try.underlying5 0 0 9 Try.underlying9
  · exact run_convert_bytes_back (P := Try.prog) w 43 9 5 ⟨g, 0, none⟩ cap l Try.underlying43 Try.underlying5 Try.underlying9 (fun j hj => by
      have := h.cells (g := g) rfl j (.int .u8 (l[j].toNat : Int)) (by simp [List.getElem?_eq_getElem hj])
      exact this)
theorem mk_bytes (n : Nat) (hn : n ≤ 1000000) (w : World) : (Instr.makeSlice 43 (Z n) (Z n)).run Try.prog w = .ok (.slice (some ⟨w.heap.size, 0, none⟩) n n) (w.alloc (.cells (bc (List.replicate n 0)).toArray 5)) := by
  obtain ⟨i, hi, hz, h1, h2⟩ := hI5
  have hr := run_make (P := Try.prog) w 43 5 i (.int .u8 0) Try.underlying43 hi hz .i64 .i64 n n (by omega) (Int.le_refl _) (by rw [h2]; omega) (by omega)
  simp only [Int.toNat_natCast] at hr
  rw [hr]
  congr 3
  apply Array.ext
  · rw [size_madeCells, h1]; simp [bc]
  · intro j hj1 hj2
    rw [size_madeCells, h1] at hj1
    simp [madeCells, bc, Value.cells, Nat.mod_one]
theorem conv_new (w : World) (l : List UInt8) (hl : l.length < 1000000000) : (convert 43 9 (.slice (some ⟨w.heap.size, 0, none⟩) l.length l.length)).run Try.prog (w.alloc (.cells (bc l).toArray 5)) = .ok (.string ⟨l.toArray⟩) (w.alloc (.cells (bc l).toArray 5)) := by
  refine text_own (b := w.heap.size) (l := l) ⟨by simp [bc], .inr ⟨w.heap.size, l.length, (bc l).toArray, rfl, Nat.le_refl _, heap_alloc_last w _, Nat.le_refl _, ?_, by simp [bc], ?_⟩⟩
  · simp only [maxLen]; omega
  · simp only [Nat.mul_one]
    rw [List.take_of_length_le (by simp [bc])]
abbrev eB0 : ByteArray := ⟨#[]⟩
abbrev xA (n : Nat) : Al := (⟨#[97]⟩, n, 0, eB0, eB0)
abbrev xB (n : Nat) : Al := (⟨#[98]⟩, n, 0, eB0, eB0)
abbrev xS (n : Nat) : Al := (eB0, n, 0, eB0, eB0)
abbrev xC : Al := (c32, 5, 1, ⟨#[97]⟩, ⟨#[98]⟩)
theorem bdN1 (w : World) : (Instr.build 25 (([0] : List Nat).zip [.int .u64 1]).toArray).run Try.prog w = .ok (U 1) w := by kernel_rfl
theorem bdN2 (w : World) : (Instr.build 25 (([0] : List Nat).zip [.int .u64 2]).toArray).run Try.prog w = .ok (U 2) w := by kernel_rfl
theorem bdN3 (w : World) : (Instr.build 25 (([0] : List Nat).zip [.int .u64 3]).toArray).run Try.prog w = .ok (U 3) w := by kernel_rfl
theorem bdN4 (w : World) : (Instr.build 25 (([0] : List Nat).zip [.int .u64 4]).toArray).run Try.prog w = .ok (U 4) w := by kernel_rfl
theorem bdN5 (w : World) : (Instr.build 25 (([0] : List Nat).zip [.int .u64 5]).toArray).run Try.prog w = .ok (U 5) w := by kernel_rfl
theorem bdN7 (w : World) : (Instr.build 25 (([0] : List Nat).zip [.int .u64 7]).toArray).run Try.prog w = .ok (U 7) w := by kernel_rfl
theorem bdA (n : Nat) (w : World) : (Instr.build 39 (([0, 1] : List Nat).zip [.string ⟨#[97]⟩, U n]).toArray).run Try.prog w = .ok (alV (xA n)) w := by
  unfold U alV al8
  simp only []
  generalize l0 n = x0
  generalize l1 n = x1
  generalize l2 n = x2
  generalize l3 n = x3
  kernel_rfl
theorem bdB (n : Nat) (w : World) : (Instr.build 39 (([0, 1] : List Nat).zip [.string ⟨#[98]⟩, U n]).toArray).run Try.prog w = .ok (alV (xB n)) w := by
  unfold U alV al8
  simp only []
  generalize l0 n = x0
  generalize l1 n = x1
  generalize l2 n = x2
  generalize l3 n = x3
  kernel_rfl
theorem bdS (n : Nat) (w : World) : (Instr.build 39 (([1] : List Nat).zip [U n]).toArray).run Try.prog w = .ok (alV (xS n)) w := by
  unfold U alV al8
  simp only []
  generalize l0 n = x0
  generalize l1 n = x1
  generalize l2 n = x2
  generalize l3 n = x3
  kernel_rfl
theorem ex_bd : bdE [xA 5, xB 5] c32.size 0 1 2 3 = 0 := by decide +kernel
theorem ex_br : bdR [xA 5, xB 5] c32 0 1 2 3 = [xA 3, xB 2, xC] := by decide +kernel
theorem ex_rc : rcE [xA 3, xB 2, xC] 2 [xS 4, xS 1] = 0 := by decide +kernel
theorem ex_rl : rcL [xA 3, xB 2, xC] 2 [xS 4, xS 1] = [xA 7, xB 3] := by decide +kernel
set_option maxHeartbeats 4000000 in
theorem awake_any (w : World) : Calls Try.prog 8 #[] w fun e w' => e = .returned (.bool true) ∧ Below w.heap.size w w' := by
  have hB := fun (w' : World) (v : Value) (h1 : AlI w' v [xA 5, xB 5]) => bind_any h1 (by decide) c32 0 1 (a := 2) (b := 3) (by decide) (by decide)
  have hR := fun (w' : World) (v vs : Value) (h1 : AlI w' v [xA 3, xB 2, xC]) (h2 : AlI w' vs [xS 4, xS 1]) => reclaim_any h1 h2 (by decide) (by decide) 2
  rw [ex_bd, ex_br] at hB
  rw [ex_rc, ex_rl] at hR
  refine inQ (J := GS w w w.heap.size noK (· < w.heap.size) [] []) (F := GF noK (· < w.heap.size) []) Try.func8 (GS.start w fun f hf => by (cases hf)) fun a I => ?_
  refine goQ [dO 25 [0] bdN5, dO 39 [0, 1] (bdA 5), dO 25 [0] bdN5, dO 39 [0, 1] (bdB 5)] (GS.rsr _ _ _ _ _ _ _) I fun β1 a1 w1 I hb1 => ?_
  refine bslQ (ss := [(0, Sum.inl (alV (xA 5))), (1, Sum.inl (alV (xB 5)))]) I (bs22_2 _ _ w1) ?_
  obtain ⟨K2, I⟩ := I.gs (nw_al [xA 5, xB 5] (by decide) (by decide) rfl w1) (.slice (some ⟨w1.heap.size, 0, none⟩) 2 2)
  generalize w1.heap.size = g1 at *
  refine goQ [] (GS.rsr _ _ _ _ _ _ _) I fun β3 a3 w3 I hb3 => ?_
  refine mksQ (t := 43) (x := Sum.inl (Z (32 : Nat))) (y := Sum.inl (Z (32 : Nat))) I (mk_bytes 32 (by decide) w3) ?_
  have I4 := I.alloc (GS.rsr _ _ _ _ _ _ _) (.cells (bc z32).toArray 5) (.slice (some ⟨w3.heap.size, 0, none⟩) 32 32)
  refine cnvQ (s := 43) (t := 9) (x := .slice (some ⟨w3.heap.size, 0, none⟩) 32 32) I4 (conv_new w3 z32 (by decide)) ?_
  have I5 := I4.same (.string c32)
  clear I4 I
  generalize w3.heap.size = g3 at *
  refine goQ [dO 25 [0] bdN2, dO 25 [0] bdN3] (GS.rsr _ _ _ _ _ _ _) I5 fun β6 a6 w6 I hb6 => ?_
  refine mcall (f := 11) (ss := [Sum.inl (.slice (some ⟨g1, 0, none⟩) 2 2), Sum.inl (.string c32), Sum.inl (Z 0), Sum.inl (Z 1), Sum.inl (U 2), Sum.inl (U 3)]) Try.func11 I ((hB _ _ (I.hJ.al (i := 0) rfl)).mono fun e w7 he => ?_)
  obtain ⟨v1, rfl, hn⟩ := he
  obtain ⟨K7, I⟩ := I.gs hn (.tuple #[v1, Z 0])
  refine goQ [dO 25 [0] bdN4, dO 39 [1] (bdS 4), dO 25 [0] bdN1, dO 39 [1] (bdS 1)] (GS.rsr _ _ _ _ _ _ _) I fun β8 a8 w8 I hb8 => ?_
  refine bslQ (ss := [(0, Sum.inl (alV (xS 4))), (1, Sum.inl (alV (xS 1)))]) I (bs22_2 _ _ w8) ?_
  obtain ⟨K9, I⟩ := I.gs (nw_al [xS 4, xS 1] (by decide) (by decide) rfl w8) (.slice (some ⟨w8.heap.size, 0, none⟩) 2 2)
  generalize w8.heap.size = g8 at *
  refine goQ [] (GS.rsr _ _ _ _ _ _ _) I fun β10 a10 w10 I hb10 => ?_
  refine mcall (f := 9) (ss := [Sum.inl v1, Sum.inl (Z 2), Sum.inl (.slice (some ⟨g8, 0, none⟩) 2 2)]) Try.func9 I ((hR _ _ _ (I.hJ.al (i := 1) rfl) (I.hJ.al (i := 0) rfl)).mono fun e w11 he => ?_)
  obtain ⟨v2, rfl, hn⟩ := he
  obtain ⟨K11, I⟩ := I.gs hn (.tuple #[v2, Z 0])
  obtain ⟨ad1, cap1, he1, hm1⟩ := I.hJ.al (i := 2) rfl
  obtain ⟨ga, off, _, rfl, _, _, _⟩ := hm1 0 (xA 3) rfl
  subst he1
  obtain ⟨ad2, cap2, he2, hm2⟩ := I.hJ.al (i := 0) rfl
  obtain ⟨gb, off2, _, rfl, _, _, _⟩ := hm2 0 (xA 7) rfl
  subst he2
  have hu2 : ∀ w', GS w w w.heap.size noK K11 ([alF (.slice (some ⟨gb, off2, none⟩) 2 cap2) [xA 7, xB 3]] ++ ([alF (.slice (some ⟨g8, 0, none⟩) 2 2) [xS 4, xS 1]] ++ ([alF (.slice (some ⟨ga, off, none⟩) 3 cap1) [xA 3, xB 2, xC]] ++ ([alF (.slice (some ⟨g1, 0, none⟩) 2 2) [xA 5, xB 5]] ++ [])))) [] w' → (loadVar 25 ⟨ga, off + 2 * 8 + 1, none⟩).run Try.prog w' = .ok (U 5) w' := fun w' h => by
    obtain ⟨a', c', e', m'⟩ := h.al (i := 2) rfl
    cases e'
    obtain ⟨_, _, _, e2, _, q, rfl, _⟩ := m' 2 xC rfl
    cases e2
    exact loadU q
  have hv0 : ∀ w', GS w w w.heap.size noK K11 ([alF (.slice (some ⟨gb, off2, none⟩) 2 cap2) [xA 7, xB 3]] ++ ([alF (.slice (some ⟨g8, 0, none⟩) 2 2) [xS 4, xS 1]] ++ ([alF (.slice (some ⟨ga, off, none⟩) 3 cap1) [xA 3, xB 2, xC]] ++ ([alF (.slice (some ⟨g1, 0, none⟩) 2 2) [xA 5, xB 5]] ++ [])))) [] w' → (loadVar 25 ⟨gb, off2 + 0 * 8 + 1, none⟩).run Try.prog w' = .ok (U 7) w' := fun w' h => by
    obtain ⟨a', c', e', m'⟩ := h.al (i := 0) rfl
    cases e'
    obtain ⟨_, _, _, e2, _, q, rfl, _⟩ := m' 0 (xA 7) rfl
    cases e2
    exact loadU q
  have hv1 : ∀ w', GS w w w.heap.size noK K11 ([alF (.slice (some ⟨gb, off2, none⟩) 2 cap2) [xA 7, xB 3]] ++ ([alF (.slice (some ⟨g8, 0, none⟩) 2 2) [xS 4, xS 1]] ++ ([alF (.slice (some ⟨ga, off, none⟩) 3 cap1) [xA 3, xB 2, xC]] ++ ([alF (.slice (some ⟨g1, 0, none⟩) 2 2) [xA 5, xB 5]] ++ [])))) [] w' → (loadVar 25 ⟨gb, off2 + 1 * 8 + 1, none⟩).run Try.prog w' = .ok (U 3) w' := fun w' h => by
    obtain ⟨a', c', e', m'⟩ := h.al (i := 0) rfl
    cases e'
    obtain ⟨_, _, _, e2, _, q, rfl, _⟩ := m' 1 (xB 3) rfl
    cases e2
    exact loadU q
  refine goT (T := GS w w w.heap.size noK K11 ([alF (.slice (some ⟨gb, off2, none⟩) 2 cap2) [xA 7, xB 3]] ++ ([alF (.slice (some ⟨g8, 0, none⟩) 2 2) [xS 4, xS 1]] ++ ([alF (.slice (some ⟨ga, off, none⟩) 3 cap1) [xA 3, xB 2, xC]] ++ ([alF (.slice (some ⟨g1, 0, none⟩) 2 2) [xA 5, xB 5]] ++ [])))) []) [bO .eql 28 (run_eqE (x := 0) (y := 0) (b := true) rfl), bO .eql 28 (run_eqE (x := 0) (y := 0) (b := true) rfl), lnA (some ⟨ga, off, none⟩) 3 cap1, bO .eql 3 (run_eqlZ (x := (3 : Nat)) (y := 3) (b := true) rfl), ixA ga off 3 cap1 2 (by decide), ldA 25 hu2, dO 25 [0] bdN5, bO .eql 25 (eqU_run (n := 5) (m := 5) (by decide) (by decide) (b := true) rfl), lnA (some ⟨gb, off2, none⟩) 2 cap2, bO .eql 3 (run_eqlZ (x := (2 : Nat)) (y := 2) (b := true) rfl), ixA gb off2 2 cap2 0 (by decide), ldA 25 hv0, dO 25 [0] bdN7, bO .eql 25 (eqU_run (n := 7) (m := 7) (by decide) (by decide) (b := true) rfl), ixA gb off2 2 cap2 1 (by decide), ldA 25 hv1, dO 25 [0] bdN3, bO .eql 25 (eqU_run (n := 3) (m := 3) (by decide) (by decide) (b := true) rfl)] (GS.rsr _ _ _ _ _ _ _) (fun _ h => h) I fun β12 a12 w12 I hb12 => ?_
  exact outQ (v := .bool true) I ⟨rfl, I.hJ.bw⟩
end Go.Proofs.Ytdiblfgnnliifaa
