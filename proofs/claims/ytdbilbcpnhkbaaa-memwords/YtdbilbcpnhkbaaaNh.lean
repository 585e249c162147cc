/- Pieces of texts: the document's; the chapter's examples. -/
import Derived.Test.YtdbilbcpnhkbaaaNg
namespace Go.Proofs.Ytdbilbcpnhkbaaa
open Go.RowKit Go.Sort Go.Shelf
set_option linter.unusedVariables false
set_option maxRecDepth 100000
/-- copy of a text into a row of bytes: as many as there is room for. -/
theorem copy_cut {w : World} {g : Nat} {cur : List UInt8} (t : List UInt8) (hg : w.heap[g]? = some (.cells (bc cur).toArray 5)) :
    (Builtin.copy_ #[47, 9] 3 #[.slice (some ⟨g, 0, none⟩) cur.length cur.length, str t]).run Try.prog w = .ok (Z (min t.length cur.length : Nat)) (w.setRow g (bc (t.take cur.length ++ cur.drop t.length)).toArray) := by
  obtain ⟨i, hi, hz, h1, h2⟩ := hI5
  have hk : (bc (t.take cur.length)).length = min t.length cur.length := by rw [bc_len, List.length_take]; omega
  have hst := run_storeCells_at Try.prog g 0 5 (bc (t.take cur.length)) 0 (bc cur).toArray w hg (by rw [hk]; simp [bc]; omega) (fun v hv => by obtain ⟨x, _, rfl⟩ := List.mem_map.1 hv; rfl)
  have htk : List.take (Nat.min t.length cur.length) (List.map (fun b : UInt8 => Value.int IntKind.u8 (b.toNat : Int)) t) = bc (t.take cur.length) := by
    show List.take (min t.length cur.length) _ = _
    rw [bc, List.map_take]
    by_cases h : t.length ≤ cur.length
    · rw [Nat.min_eq_left h, List.take_of_length_le (by simp), List.take_of_length_le (by simp; omega)]
    · rw [Nat.min_eq_right (by omega)]
  have e : ((bc cur).toArray.toList.take (0 + 0) ++ bc (t.take cur.length) ++ (bc cur).toArray.toList.drop (0 + 0 + (bc (t.take cur.length)).length)).toArray = (bc (t.take cur.length ++ cur.drop t.length)).toArray := by
    apply Array.ext'
    rw [hk]
    simp only [Nat.add_zero, List.take_zero, List.nil_append, Nat.zero_add, bc, List.map_append, List.map_drop]
    congr 1
    by_cases h : t.length ≤ cur.length
    · rw [Nat.min_eq_left h]
    · rw [Nat.min_eq_right (by omega), List.drop_eq_nil_of_le (by simp), List.drop_eq_nil_of_le (by simp; omega)]
  rw [e] at hst
  have hsz := str_size t
  simp [Builtin.copy_, run_underlying Try.underlying47, Builtin.lenOf, Builtin.firstCells, sizeOf, typeInfo, hi, hsz]
  rw [htk, hst]
  simp [Result.andThen]
  rfl
theorem set_grow {w : World} {g : Nat} {cs old : Array Value} {t : TypeId} (h : w.heap[g]? = some (.cells old t)) : Grow (fun k => k ≠ g) w (w.setRow g cs) ∧ (w.setRow g cs).heap[g]? = some (.cells cs t) := by
  refine ⟨⟨rfl, rfl, rfl, by simp [World.setRow], fun k hk hne => ?_⟩, ?_⟩
  · simp [World.setRow, Array.getElem?_modify, Ne.symm hne]
  · simp [World.setRow, Array.getElem?_modify, h]
theorem cut_zr (t : List UInt8) (p : Nat) : t.take p ++ (zr p).drop t.length = fil (t.take p) p := by
  unfold fil
  rw [List.drop_replicate, List.length_take]
  by_cases h : p ≤ t.length
  · rw [Nat.min_eq_left h, Nat.sub_eq_zero_of_le h, Nat.sub_self]
  · rw [Nat.min_eq_right (by omega)]
set_option maxHeartbeats 4000000 in
theorem rslice_any (s : List UInt8) (hs : s.length ≤ 1000000) (n : Nat) (hn : n < W) (i : Int) (w : World) : Calls Try.prog 18 #[str s, U n, Z i] w fun e w' => e = .returned (str (slV s n i)) ∧ Below w.heap.size w w' := by
  have hM := M_big
  have hW := M_W
  have hc := rcmp_any n s.length hn (by omega)
  rw [U_small s.length (by omega)] at hc
  have h0 : n < s.length → l0 n = n := fun h => (of_parts n (by omega)).1
  have hv : cmpN n s.length = if n < s.length then -1 else if s.length < n then 1 else 0 := rfl
  generalize cmpN n s.length = cv at *
  unfold slV
  unfold U at hc ⊢
  generalize l0 n = a0 at *
  generalize l1 n = a1 at *
  generalize l2 n = a2 at *
  generalize l3 n = a3 at *
  refine inQ (J := Below w.heap.size w) (F := (· < w.heap.size)) Try.func18 (Below.refl _ _) fun a I => ?_
  by_cases k0 : i < 0
  · refine goQ [bO .lss 3 (run_lssZ (x := i) (y := 0) (b := true) (decide_eq_true (by omega)))] (nonR w) I fun β a w1 I1 hb => ?_
    exact outQ (v := str []) I1 ⟨by rw [if_pos (.inl k0)], I1.hJ⟩
  by_cases k1 : 65536 < i
  · refine goQ [bO .lss 3 (run_lssZ (x := i) (y := 0) (b := false) (decide_eq_false (by omega))), bO .gtr 3 (run_gtrZ (x := i) (y := 65536) (b := true) (decide_eq_true (by omega)))] (nonR w) I fun β a w1 I1 hb => ?_
    exact outQ (v := str []) I1 ⟨by rw [if_pos (.inr k1)], I1.hJ⟩
  obtain ⟨p, rfl⟩ : ∃ p : Nat, i = p := ⟨i.toNat, by omega⟩
  rw [if_neg (by omega), Int.toNat_natCast]
  refine goQ [bO .lss 3 (run_lssZ (x := p) (y := 0) (b := false) (decide_eq_false (by omega))), bO .gtr 3 (run_gtrZ (x := p) (y := 65536) (b := false) (decide_eq_false (by omega)))] (nonR w) I fun β2 b2 w2 I2 hb2 => ?_
  refine mksQ (t := 47) (x := Sum.inl (Z p)) (y := Sum.inl (Z p)) I2 (mk_bytes p (by omega) w2) ?_
  have I3 := I2.lay (nonR w) (.cells (bc (zr p)).toArray 5) (.slice (some ⟨w2.heap.size, 0, none⟩) p p)
  have hgs := I2.hJ.size
  generalize w2.heap.size = g at *
  generalize w2.alloc (.cells (bc (zr p)).toArray 5) = w3 at *
  have ek : (zr p).length = p := by rw [List.length_replicate]
  by_cases h : n < s.length
  · rw [if_pos h] at hv
    obtain rfl := h0 h
    have hct := cut_zr (s.drop a0) p
    have hfr := fun w => from64 (l := s) (k := a0) (by omega) w
    generalize s.drop a0 = t at *
    refine goQ [lnO s, vO 3 22 (cnv64 s.length (by omega)), dO 24 [0, 1, 2, 3] (bd24_4 s.length 0 0 0), kC Try.func25 hc, bO .lss 3 (run_lssZ (x := cv) (y := 0) (b := true) (by rw [hv]; rfl)), sO 9 hfr] (byR w g (zr p)) I3 fun β4 b4 w4 I4 hb4 => ?_
    have hcp := copy_cut t I4.hJ.2
    rw [ek] at hcp
    rw [hct] at hcp
    have hsg := set_grow (cs := (bc (fil (t.take p) p)).toArray) I4.hJ.2
    refine cpyQ (ts := #[47, 9]) (ty := 3) (ss := [Sum.inl (.slice (some ⟨g, 0, none⟩) p p), Sum.inl (str t)]) I4 hcp ?_
    have I5 := I4.moved (J' := byJ w g (fil (t.take p) p)) (F' := clF w g) ⟨hsg.1.os, hsg.1.tape, hsg.1.output, hsg.1.size, fun k hk hn => hsg.1.block k hk fun e => hn (.inr e)⟩ ⟨⟨hsg.1.os.trans I4.hJ.1.os, hsg.1.tape.trans I4.hJ.1.tape, hsg.1.output.trans I4.hJ.1.output, Nat.le_trans I4.hJ.1.size hsg.1.size, fun k hk => (hsg.1.block k (Nat.lt_of_lt_of_le hk I4.hJ.1.size) (by omega)).trans (I4.hJ.1.block k hk)⟩, hsg.2⟩ (fun k hk h => h) (Z (min t.length p : Nat))
    have hlen : (fil (t.take p) p).length = p := by rw [fil_len, List.length_take]; omega
    generalize fil (t.take p) p = z at *
    generalize w4.setRow g (bc z).toArray = w5 at *
    generalize min t.length p = mn at *
    refine goQ [] (byR w g z) I5 fun β6 b6 w6 I6 hb6 => ?_
    have hcv2 := conv_row (l := z) (by omega) I6.hJ.2
    rw [hlen] at hcv2
    refine cnvQ I6 hcv2 ?_
    refine goQ [] (byR w g z) (I6.same (str z)) fun β7 b7 w7 I7 hb7 => ?_
    exact outQ (v := str z) I7 ⟨rfl, I7.hJ.1⟩
  · rw [if_neg h] at hv
    have ez : fil ((s.drop n).take p) p = zr p := by rw [List.drop_eq_nil_of_le (by omega)]; unfold fil; simp
    rw [ez]
    refine goQ [lnO s, vO 3 22 (cnv64 s.length (by omega)), dO 24 [0, 1, 2, 3] (bd24_4 s.length 0 0 0), kC Try.func25 hc, bO .lss 3 (run_lssZ (x := cv) (y := 0) (b := false) (by rw [hv]; split <;> rfl))] (byR w g (zr p)) I3 fun β6 b6 w6 I6 hb6 => ?_
    have hcv2 := conv_row (l := zr p) (by omega) I6.hJ.2
    rw [ek] at hcv2
    generalize zr p = z at *
    refine cnvQ I6 hcv2 ?_
    refine goQ [] (byR w g z) (I6.same (str z)) fun β7 b7 w7 I7 hb7 => ?_
    exact outQ (v := str z) I7 ⟨rfl, I7.hJ.1⟩
theorem run_eql26 {x y : Int} {b : Bool} (h : decide (x = y) = b) (o1 o2 : Operand) (w : World) : (do eqGuard .eql 26 o1 o2 (Z x) (Z y); binOp .eql 26 (Z x) (Z y) : Sem Value).run Try.prog w = .ok (.bool b) w := by
  subst h
  by_cases hx : x = y
  · simp [go_sem, hx]
  · simp [go_sem, hx]
theorem aw1 : growV [] 0 33 = (zr 64, 6, 0) := by decide +kernel
theorem aw2 : slV [97, 98, 99] 2 4 = [99, 0, 0, 0] := by decide +kernel
theorem awake_any (w : World) : Calls Try.prog 8 #[] w fun e w' => e = .returned (.bool true) ∧ Below w.heap.size w w' := by
  have hM := M_big
  have hW := M_W
  have hg := grow_any [] (by simp) 0 33 (by omega) (by omega)
  rw [aw1, U0, U_small 33 (by omega)] at hg
  have hs := slice_any [97, 98, 99] (by simp) 2 (by omega) 4
  rw [aw2, U_small 2 (by omega)] at hs
  have hl : (zr 64).length = 64 := by rw [List.length_replicate]
  generalize zr 64 = z at *
  refine inQ (J := Below w.heap.size w) (F := (· < w.heap.size)) Try.func8 (Below.refl _ _) fun a I => ?_
  refine goQ [dO 24 [] bd24_0, dO 24 [0] (bd24_1 33), kC Try.func9 hg, lnO z, bO .eql 3 (run_eqlZ (x := z.length) (y := 64) (b := true) (decide_eq_true (by omega))), bO .eql 3 (run_eqlZ (x := 6) (y := 6) (b := true) rfl), bO .eql 26 (run_eql26 (x := 0) (y := 0) (b := true) rfl), dO 24 [0] (bd24_1 2), kC Try.func17 hs, bO .eql 9 (eqS_run (a := [99, 0, 0, 0]) (b := [99, 0, 0, 0]) (q := true) (by decide))] (nonR w) I fun β a w1 I1 hb => ?_
  exact outQ (v := .bool true) I1 ⟨rfl, I1.hJ⟩
end Go.Proofs.Ytdbilbcpnhkbaaa
