/- Out of Kf. -/
import Derived.Test.YtceedgdbhlpjlaaGreatDoorKfKe
namespace Go.Proofs.YtceedgdbhlpjlaaGreatDoor
open Go.RowKit Go.Sort
set_option linter.unusedVariables false
set_option maxRecDepth 100000
abbrev dgK : List Nat := [0, 2, 3]
abbrev dgW (m : Nat) (s : List UInt8) : Vs := frm 23 [(0, Sum.inl (Z m)), (2, Sum.inl (str [])), (3, Sum.inl (str s))]
theorem run_quoZ {x y z : Int} (hy : y ≠ 0) (h : IntKind.i64.wrap (x.tdiv y) = z) (o1 o2 : Operand) (w : World) : (do eqGuard .quo 3 o1 o2 (Z x) (Z y); binOp .quo 3 (Z x) (Z y) : Sem Value).run Tryz.prog w = .ok (Z z) w := by simp [go_sem, h, hy]
theorem u8n (n : Nat) (h : n < 256) : b8 n = .int .u8 ((UInt8.ofNat n).toNat : Nat) := by rw [UInt8.toNat_ofNat', Nat.mod_eq_of_lt (by omega)]
theorem cdigits_any (n : Nat) (hn : n < 100) (w : World) : Calls Tryz.prog 56 #[Z n] w fun e w' => e = .returned (str (decL n)) ∧ Below w.heap.size w w' := by
  refine inQ (J := Below w.heap.size w) (F := (· < w.heap.size)) Tryz.func56 (Below.refl _ _) fun a I => ?_
  refine goQ [] (nonR w) I fun β a w1 I hb => ?_
  let St : Nat → Act → World → Prop := fun k a w' => ∃ (m : Nat) (s : List UInt8) (β : Nat → Nat) (u : Nat → Value), k = m ∧ m < 100 ∧ s.length ≤ 1 ∧ (10 ≤ m → s = [] ∧ m = n) ∧ (m < 10 → UInt8.ofNat (48 + m) :: s = decL n) ∧ SI (Below w.heap.size w) (· < w.heap.size) [] β (cfC (bodyL Tryz.f56) (fillF (scrF 23 dgK) u 0 (dgW m s)) [] 0) a w'
  refine lpM (bodyL Tryz.f56) St n ?_ ?_
  · obtain ⟨u, Iu⟩ := I.scr (bodyL Tryz.f56) (scrF 23 dgK) (dgW n []) [] 0
    exact ⟨n, [], β, u, rfl, hn, by simp, fun _ => ⟨rfl, rfl⟩, fun h => by unfold decL; rw [if_pos h], Iu⟩
  rintro k a3 w3 ⟨m, s, β3, u, rfl, hm, hsl, h1, h2, I9⟩
  refine wp_cfC (tm := fillF (scrF 23 dgK) u 0 (dgW k s)) (rows := []) (nx := 0) ?_
  rcases Nat.lt_or_ge k 10 with hk | hk
  · refine goQ [bO .geq 3 (run_geqZ (x := k) (y := 10) (b := false) (by simp; omega))] (nonR w) I9 fun β4 a4 w4 I hb4 => ?_
    refine endE 0 ?_
    refine goQ [bO .add 3 (run_addZ (x := 48) (y := k) (z := (48 + k : Nat)) (by rw [wz (by omega) (by omega)]; omega)), vO 3 5 (cnvZ8 (48 + k) (by omega))] (nonR w) (I.exit _) fun β5 a5 w5 I hb5 => ?_
    have hbs := bs1 (UInt8.ofNat (48 + k)) w5
    rw [← u8n (48 + k) (by omega)] at hbs
    have hcv := conv_new w5 [UInt8.ofNat (48 + k)] (by simp)
    refine bslQ (t := 76) (n := 1) (ss := [(0, Sum.inl (b8 (48 + k)))]) I hbs ?_
    have I2 := I.alloc (nonR w) (.cells (bc [UInt8.ofNat (48 + k)]).toArray 5) (.slice (some ⟨w5.heap.size, 0, none⟩) 1 1)
    refine cnvQ I2 hcv ?_
    have I3 := I2.same (str [UInt8.ofNat (48 + k)])
    rw [← h2 hk]
    generalize UInt8.ofNat (48 + k) = x at *
    refine goQ [bO .add 9 (addS_run [x] s (by rw [List.length_singleton]; omega))] (nonR w) I3 fun β6 a6 w6 I hb6 => ?_
    exact outQ (v := str (x :: s)) I ⟨rfl, I.hJ⟩
  · obtain ⟨rfl, rfl⟩ := h1 hk
    refine goQ [bO .geq 3 (run_geqZ (x := k) (y := 10) (b := true) (by simp; omega)), bO .rem 3 (run_remZ (x := k) (y := 10) (z := (k % 10 : Nat)) (by decide) (by rw [Int.tmod_eq_emod_of_nonneg (by omega)]; omega)), bO .add 3 (run_addZ (x := 48) (y := (k % 10 : Nat)) (z := (48 + k % 10 : Nat)) (by rw [wz (by omega) (by omega)]; omega)), vO 3 5 (cnvZ8 (48 + k % 10) (by omega))] (nonR w) I9 fun β5 a5 w5 I hb5 => ?_
    have hbs := bs1 (UInt8.ofNat (48 + k % 10)) w5
    rw [← u8n (48 + k % 10) (by omega)] at hbs
    have hcv := conv_new w5 [UInt8.ofNat (48 + k % 10)] (by simp)
    refine bslQ (t := 76) (n := 1) (ss := [(0, Sum.inl (b8 (48 + k % 10)))]) I hbs ?_
    have I2 := I.alloc (nonR w) (.cells (bc [UInt8.ofNat (48 + k % 10)]).toArray 5) (.slice (some ⟨w5.heap.size, 0, none⟩) 1 1)
    refine cnvQ I2 hcv ?_
    have I3 := I2.same (str [UInt8.ofNat (48 + k % 10)])
    have hdl : decL k = [UInt8.ofNat (48 + k / 10), UInt8.ofNat (48 + k % 10)] := by unfold decL; rw [if_neg (by omega)]
    generalize UInt8.ofNat (48 + k % 10) = x at *
    refine goQ [bO .add 9 (addS_run [x] [] (by simp)), bO .quo 3 (run_quoZ (x := k) (y := 10) (z := (k / 10 : Nat)) (by decide) (by rw [Int.tdiv_eq_ediv_of_nonneg (by omega), wz (by omega) (by omega)]; omega))] (nonR w) I3 fun β6 a6 w6 I hb6 => ?_
    obtain ⟨u', Iu⟩ := I.scr (bodyL Tryz.f56) (scrF 23 dgK) (dgW (k / 10) [x]) [] 0
    exact endL ⟨k / 10, by omega, k / 10, [x], β6, u', rfl, by omega, by simp, fun h => by omega, fun h => by rw [hdl], Iu⟩
/-- What the document knows of a byte. -/
def numRf (n : Nat) : RfR := if n < 96 then (0, opD) else if n < 128 then (n, [80, 85, 83, 72] ++ decL (n - 95), 0, 1, 3) else if n < 144 then (n, [68, 85, 80] ++ decL (n - 127), n - 127, n - 126, 3) else if n < 160 then (n, [83, 87, 65, 80] ++ decL (n - 143), n - 142, n - 142, 3) else (0, opD)
def rfF (n : Nat) : RfR := match rfL.find? fun r => decide (r.1 = n) with
  | some r => r
  | none => numRf n
theorem rf_get : ∀ (l : List RfR) (i j : Nat), i < l.length → j < 5 → (l.flatMap rfV)[i * 5 + j]? = (rfV (l.getD i (0, opD)))[j]?
  | [], i, j, h, _ => by simp at h
  | r :: l, 0, j, _, hj => by
    rw [List.flatMap_cons, List.getElem?_append_left (by simp [rfV, rwV]; omega)]
    simp
  | r :: l, i + 1, j, h, hj => by
    have e : (rfV r).length = 5 := rfl
    rw [List.flatMap_cons, List.getElem?_append_right (by rw [e]; omega), e, show (i + 1) * 5 + j - 5 = i * 5 + j by omega, rf_get l i j (by simpa using h) hj]
    simp
def rfC : Array Value := (rfL.flatMap rfV).toArray
theorem rf_cells {w : World} {b : Nat} (h : w.heap[b]? = some (.cells rfC 58)) (i : Nat) (hi : i < 46) : CellsAt w b (0 + i * 5) (rfV (rfL.getD i (0, opD))) := by
  intro j c hc
  have hj : j < 5 := by have := (List.getElem?_eq_some_iff.1 hc).1; simpa [rfV, rwV] using this
  rw [← rf_get rfL i j hi hj] at hc
  simp only [World.cell?, h]
  rw [show 0 + i * 5 + j = i * 5 + j by omega]
  simpa [rfC] using hc
abbrev rJ (w : World) (b : Nat) (w' : World) : Prop := Below w.heap.size w w' ∧ w'.heap[b]? = some (.cells rfC 58)
abbrev rF (w : World) (b k : Nat) : Prop := k < w.heap.size ∨ k = b
abbrev fnK : List Nat := [0, 2, 3, 4]
abbrev fnW (n b i : Nat) : Vs := frm 74 [(0, Sum.inl (b8 n)), (2, Sum.inr (0, 0)), (3, Sum.inl (.slice (some ⟨b, 0, none⟩) 46 46)), (4, Sum.inl (Z i))]
abbrev fn0 : Rows := [(0, (rfV (0, opD)).toArray)]
set_option maxHeartbeats 4000000 in
theorem rfind_any (n : Nat) (hn : n < 256) (w : World) : Calls Tryz.prog 32 #[b8 n] w fun e w' => e = .returned (.agg (rfV (rfF n)).toArray) ∧ Below w.heap.size w w' := by
  refine inQ (J := Below w.heap.size w) (F := (· < w.heap.size)) Tryz.func32 (Below.refl _ _) fun a I => ?_
  refine goQ [] (nonR w) I fun β a w1 I hb => ?_
  refine mcall (f := 55) (ss := []) Tryz.func55 I ((rows_any w1).mono fun e w2 he => ?_)
  obtain ⟨b, rfl, hbs, hrow, hbl⟩ := he
  have hw1 := I.hJ.size
  have I2 : SI (rJ w b) (rF w b) [] β _ _ w2 := I.moved (J' := rJ w b) (F' := rF w b) (Grow.of_below hbl) ⟨I.hJ.trans (hbl.mono hw1), hrow⟩ (fun k hk h => h.elim id fun e => by omega) (.slice (some ⟨b, 0, none⟩) 46 46)
  have R : Rsrc (rJ w b) (rF w b) := (nonR w).lay b _
  refine goQ [] R I2 fun β3 a3 w3 I hb3 => ?_
  let St : Nat → Act → World → Prop := fun k a w' => ∃ (i : Nat) (β : Nat → Nat) (u : Nat → Value), k = 46 - i ∧ i ≤ 46 ∧ (∀ j, j < i → (rfL.getD j (0, opD)).1 ≠ n) ∧ SI (rJ w b) (rF w b) [] β (cfC (bodyL Tryz.f32) (fillF (scrF 74 fnK) u 0 (fnW n b i)) fn0 1) a w'
  refine lpM (bodyL Tryz.f32) St 46 ?_ ?_
  · obtain ⟨u, Iu⟩ := I.scr (bodyL Tryz.f32) (scrF 74 fnK) (fnW n b 0) fn0 1
    exact ⟨0, β3, u, by omega, Nat.zero_le _, fun j hj => absurd hj (Nat.not_lt_zero j), Iu⟩
  rintro k a3 w3 ⟨i, β3, u, rfl, hi, hall, I⟩
  refine wp_cfC (tm := fillF (scrF 74 fnK) u 0 (fnW n b i)) (rows := fn0) (nx := 1) ?_
  rcases Nat.lt_or_ge i 46 with hil | hil
  · have hld : ∀ w', rJ w b w' → (loadVar 5 ⟨b, 0 + i * 5 + 0, none⟩).run Tryz.prog w' = .ok (b8 (rfL.getD i (0, opD)).1) w' := fun w' h => load1 (rf_cells h.2 i hil) 0 rfl 5 Tryz.underlying5 rfl
    have hlw : ∀ w', rJ w b w' → (loadVar 58 ⟨b, 0 + i * 5, none⟩).run Tryz.prog w' = .ok (.agg (rfV (rfL.getD i (0, opD))).toArray) w' := fun w' h => loadN Tryz.underlying58 rfl (n := 5) (by kernel_rfl) rfl (rf_cells h.2 i hil)
    have hget : rfL[i]? = some (rfL.getD i (0, opD)) := by rw [List.getD_eq_getElem?_getD, List.getElem?_eq_getElem hil]; rfl
    by_cases he : (rfL.getD i (0, opD)).1 = n
    · have hF : rfF n = rfL.getD i (0, opD) := by
        unfold rfF
        have : rfL.find? (fun r => decide (r.1 = n)) = some (rfL.getD i (0, opD)) := by
          rw [List.find?_eq_some_iff_getElem]
          refine ⟨by simpa using he, i, hil, ?_, fun j hj => ?_⟩
          · exact (List.getElem?_eq_some_iff.1 hget).2
          · have h3 := hall j hj
            have hj2 : rfL.getD j (0, opD) = rfL[j]'(Nat.lt_trans hj (show i < rfL.length from hil)) := by rw [List.getD_eq_getElem?_getD, List.getElem?_eq_getElem (Nat.lt_trans hj (show i < rfL.length from hil))]; rfl
            rw [hj2] at h3
            show (!decide (_ = n)) = true
            rw [decide_eq_false h3]
            rfl
        rw [this]
      rw [hF]
      generalize rfL.getD i (0, opD) = r at *
      obtain ⟨rn, s, t, l, g⟩ := r
      obtain rfl : rn = n := he
      refine goT (T := rJ w b) [lS Tryz.underlying84 (ad := some ⟨b, 0, none⟩) (n := 46) (cap := 46) rfl, bO .lss 3 (run_lssZ (x := i) (y := 46) (b := true) (by simp; omega)), iA 84 Tryz.underlying84 (sz := 5) (by kernel_rfl) (g := b) (off := 0) (n := 46) (cap := 46) hil, ldA 5 hld, bO .eql 5 (run_eql8 (x := rn) (y := rn) (b := true) (by simp)), iA 84 Tryz.underlying84 (sz := 5) (by kernel_rfl) (g := b) (off := 0) (n := 46) (cap := 46) hil, ldA 58 hlw] R (fun _ h => h) I fun β4 a4 w4 I hb4 => ?_
      exact endR (retV (v := .agg (rfV (rn, s, t, l, g)).toArray) I ⟨rfl, I.hJ.1⟩)
    · have hall' : ∀ j, j < i + 1 → (rfL.getD j (0, opD)).1 ≠ n := fun j hj => by
        rcases Nat.lt_or_ge j i with h | h
        · exact hall j h
        · obtain rfl : j = i := by omega
          exact he
      generalize rfL.getD i (0, opD) = r at hld hlw he
      refine goT (T := rJ w b) [lS Tryz.underlying84 (ad := some ⟨b, 0, none⟩) (n := 46) (cap := 46) rfl, bO .lss 3 (run_lssZ (x := i) (y := 46) (b := true) (by simp; omega)), iA 84 Tryz.underlying84 (sz := 5) (by kernel_rfl) (g := b) (off := 0) (n := 46) (cap := 46) hil, ldA 5 hld, bO .eql 5 (run_eql8 (x := r.1) (y := n) (b := false) (by simp; omega)), bO .add 3 (run_addZ (x := i) (y := 1) (z := (i + 1 : Nat)) (by rw [wz (by omega) (by omega)]; omega))] R (fun _ h => h) I fun β4 a4 w4 I hb4 => ?_
      obtain ⟨u', Iu⟩ := I.scr (bodyL Tryz.f32) (scrF 74 fnK) (fnW n b (i + 1)) fn0 1
      exact endL ⟨46 - (i + 1), by omega, i + 1, β4, u', rfl, hil, hall', Iu⟩
  · obtain rfl : i = 46 := by omega
    have hF : rfF n = numRf n := by
      unfold rfF
      have : rfL.find? (fun r => decide (r.1 = n)) = none := by
        rw [List.find?_eq_none]
        intro r hr
        obtain ⟨j, hj, e⟩ := List.getElem_of_mem hr
        have hj2 : rfL.getD j (0, opD) = rfL[j] := by rw [List.getD_eq_getElem?_getD, List.getElem?_eq_getElem hj]; rfl
        have h3 := hall j hj
        rw [hj2, e] at h3
        simpa using h3
      rw [this]
    rw [hF]
    clear hall
    refine goQ [lS Tryz.underlying84 (ad := some ⟨b, 0, none⟩) (n := 46) (cap := 46) rfl, bO .lss 3 (run_lssZ (x := (46 : Nat)) (y := 46) (b := false) (by simp))] R I fun β4 a4 w4 I hb4 => ?_
    refine endE 0 ?_
    unfold numRf
    by_cases c96 : n < 96
    · rw [if_pos c96]
      refine goQ [vO 5 3 (cnv8Z n hn), bO .geq 3 (run_geqZ (x := n) (y := 96) (b := false) (by simp; omega)), bO .geq 3 (run_geqZ (x := n) (y := 128) (b := false) (by simp; omega)), bO .geq 3 (run_geqZ (x := n) (y := 144) (b := false) (by simp; omega)), dO 58 [] bd58_] R (I.exit _) fun β5 a5 w5 I hb5 => ?_
      exact outQ (v := .agg (rfV (0, opD)).toArray) I ⟨rfl, I.hJ.1⟩
    rw [if_neg c96]
    by_cases c128 : n < 128
    · rw [if_pos c128]
      have hd := cdigits_any (n - 95) (by omega)
      have hdl := decL_len (n - 95)
      generalize decL (n - 95) = dl at hd hdl ⊢
      refine goQ [vO 5 3 (cnv8Z n hn), bO .geq 3 (run_geqZ (x := n) (y := 96) (b := true) (by simp; omega)), bO .leq 3 (run_leqZ (x := n) (y := 127) (b := true) (by simp; omega)), bO .sub 3 (run_subZ (x := n) (y := 95) (z := (n - 95 : Nat)) (by rw [wz (by omega) (by omega)]; omega)), kC Tryz.func56 hd, bO .add 9 (addS_run [80, 85, 83, 72] dl (by show 4 + dl.length ≤ _; omega)), dO 58 [0, 1, 2, 3, 4] (bd58 n ([80, 85, 83, 72] ++ dl) 0 1 3)] R (I.exit _) fun β5 a5 w5 I hb5 => ?_
      exact outQ (v := .agg (rfV (n, [80, 85, 83, 72] ++ dl, 0, 1, 3)).toArray) I ⟨rfl, I.hJ.1⟩
    rw [if_neg c128]
    by_cases c144 : n < 144
    · rw [if_pos c144]
      have hd := cdigits_any (n - 127) (by omega)
      have hdl := decL_len (n - 127)
      generalize decL (n - 127) = dl at hd hdl ⊢
      refine goQ [vO 5 3 (cnv8Z n hn), bO .geq 3 (run_geqZ (x := n) (y := 96) (b := true) (by simp; omega)), bO .leq 3 (run_leqZ (x := n) (y := 127) (b := false) (by simp; omega)), bO .geq 3 (run_geqZ (x := n) (y := 128) (b := true) (by simp; omega)), bO .leq 3 (run_leqZ (x := n) (y := 143) (b := true) (by simp; omega)), bO .sub 3 (run_subZ (x := n) (y := 127) (z := (n - 127 : Nat)) (by rw [wz (by omega) (by omega)]; omega)), kC Tryz.func56 hd, bO .add 9 (addS_run [68, 85, 80] dl (by show 3 + dl.length ≤ _; omega)), bO .sub 3 (run_subZ (x := n) (y := 127) (z := (n - 127 : Nat)) (by rw [wz (by omega) (by omega)]; omega)), bO .sub 3 (run_subZ (x := n) (y := 126) (z := (n - 126 : Nat)) (by rw [wz (by omega) (by omega)]; omega)), dO 58 [0, 1, 2, 3, 4] (bd58 n ([68, 85, 80] ++ dl) (n - 127) (n - 126) 3)] R (I.exit _) fun β5 a5 w5 I hb5 => ?_
      exact outQ (v := .agg (rfV (n, [68, 85, 80] ++ dl, n - 127, n - 126, 3)).toArray) I ⟨rfl, I.hJ.1⟩
    rw [if_neg c144]
    by_cases c160 : n < 160
    · rw [if_pos c160]
      have hd := cdigits_any (n - 143) (by omega)
      have hdl := decL_len (n - 143)
      generalize decL (n - 143) = dl at hd hdl ⊢
      refine goQ [vO 5 3 (cnv8Z n hn), bO .geq 3 (run_geqZ (x := n) (y := 96) (b := true) (by simp; omega)), bO .leq 3 (run_leqZ (x := n) (y := 127) (b := false) (by simp; omega)), bO .geq 3 (run_geqZ (x := n) (y := 128) (b := true) (by simp; omega)), bO .leq 3 (run_leqZ (x := n) (y := 143) (b := false) (by simp; omega)), bO .geq 3 (run_geqZ (x := n) (y := 144) (b := true) (by simp; omega)), bO .leq 3 (run_leqZ (x := n) (y := 159) (b := true) (by simp; omega)), bO .sub 3 (run_subZ (x := n) (y := 143) (z := (n - 143 : Nat)) (by rw [wz (by omega) (by omega)]; omega)), kC Tryz.func56 hd, bO .add 9 (addS_run [83, 87, 65, 80] dl (by show 4 + dl.length ≤ _; omega)), bO .sub 3 (run_subZ (x := n) (y := 142) (z := (n - 142 : Nat)) (by rw [wz (by omega) (by omega)]; omega)), bO .sub 3 (run_subZ (x := n) (y := 142) (z := (n - 142 : Nat)) (by rw [wz (by omega) (by omega)]; omega)), dO 58 [0, 1, 2, 3, 4] (bd58 n ([83, 87, 65, 80] ++ dl) (n - 142) (n - 142) 3)] R (I.exit _) fun β5 a5 w5 I hb5 => ?_
      exact outQ (v := .agg (rfV (n, [83, 87, 65, 80] ++ dl, n - 142, n - 142, 3)).toArray) I ⟨rfl, I.hJ.1⟩
    rw [if_neg c160]
    refine goQ [vO 5 3 (cnv8Z n hn), bO .geq 3 (run_geqZ (x := n) (y := 96) (b := true) (by simp; omega)), bO .leq 3 (run_leqZ (x := n) (y := 127) (b := false) (by simp; omega)), bO .geq 3 (run_geqZ (x := n) (y := 128) (b := true) (by simp; omega)), bO .leq 3 (run_leqZ (x := n) (y := 143) (b := false) (by simp; omega)), bO .geq 3 (run_geqZ (x := n) (y := 144) (b := true) (by simp; omega)), bO .leq 3 (run_leqZ (x := n) (y := 159) (b := false) (by simp; omega)), dO 58 [] bd58_] R (I.exit _) fun β5 a5 w5 I hb5 => ?_
    exact outQ (v := .agg (rfV (0, opD)).toArray) I ⟨rfl, I.hJ.1⟩
theorem fdR (r : RfR) (w : World) : (Instr.field 58 (.agg (rfV r).toArray) 1).run Tryz.prog w = .ok (str r.2.1) w := by kernel_rfl
theorem alike : ∀ n : Fin 256, (rfF n.val).2 = (nmN n.val, (opP n.val).2) := by decide +kernel
theorem rname_any (n : Nat) (hn : n < 256) (w : World) : Calls Tryz.prog 17 #[b8 n] w fun e w' => e = .returned (str (nmN n)) ∧ Below w.heap.size w w' := by
  have hf := rfind_any n hn
  have ha : (rfF n).2.1 = nmN n := congrArg (·.1) (alike ⟨n, hn⟩)
  rw [← ha]
  generalize rfF n = r at *
  refine inQ (J := Below w.heap.size w) (F := (· < w.heap.size)) Tryz.func17 (Below.refl _ _) fun a I => ?_
  refine goQ [kC Tryz.func32 hf, fO 58 1 (fdR r)] (nonR w) I fun β a w1 I hb => ?_
  exact outQ (v := str r.2.1) I ⟨rfl, I.hJ⟩
theorem neS_run {a b : List UInt8} {q : Bool} (h : decide (a ≠ b) = q) (x y : Operand) (w : World) : (do eqGuard .neq 9 x y (str a) (str b); binOp .neq 9 (str a) (str b) : Sem Value).run Tryz.prog w = .ok (.bool q) w := by
  simp [go_sem]
  rw [← h]
  by_cases hab : a = b <;> simp [hab]
end Go.Proofs.YtceedgdbhlpjlaaGreatDoor
