/- strings.Repeat by the library's contract; texts that are filled up, and what lies behind a place. -/
import Derived.Test.YtdbilbcpnhkbaaaNc
import Derived.Shelf.Strings.Repeat
namespace Go.Proofs.Ytdbilbcpnhkbaaa
open Go.RowKit Go.Sort Go.Shelf
set_option linter.unusedVariables false
set_option maxRecDepth 100000
def rpRen : Go.Shelf.Ren := ⟨fun | 105 => 30 | 212 => 31 | 99 => 32 | 165 => 33 | 166 => 34 | 170 => 35 | 169 => 36 | 263 => 37 | 264 => 38 | 206 => 39 | 240 => 40 | 241 => 41 | 276 => 42 | 277 => 43 | n => n, fun | 9 => 9 | 3 => 3 | 4 => 4 | 20 => 20 | 0 => 0 | 46 => 51 | 109 => 52 | 5 => 5 | 72 => 57 | 76 => 61 | 51 => 39 | 146 => 65 | 53 => 22 | 148 => 49 | 70 => 55 | 37 => 47 | 75 => 60 | 127 => 68 | 164 => 69 | 80 => 64 | n => n, fun | n => n⟩
theorem rpLays : Go.Proofs.Lays.n105 Try.prog rpRen := {
  mixed := by kernel_rfl
  f99 := Try.func32.trans (congrArg some (by kernel_rfl))
  f105 := Try.func30.trans (congrArg some (by kernel_rfl))
  f165 := Try.func33.trans (congrArg some (by kernel_rfl))
  f166 := Try.func34.trans (congrArg some (by kernel_rfl))
  f169 := Try.func36.trans (congrArg some (by kernel_rfl))
  f170 := Try.func35.trans (congrArg some (by kernel_rfl))
  f206 := Try.func39.trans (congrArg some (by kernel_rfl))
  f212 := Try.func31.trans (congrArg some (by kernel_rfl))
  f240 := Try.func40.trans (congrArg some (by kernel_rfl))
  f241 := Try.func41.trans (congrArg some (by kernel_rfl))
  f263 := Try.func37.trans (congrArg some (by kernel_rfl))
  f264 := Try.func38.trans (congrArg some (by kernel_rfl))
  f276 := Try.func42.trans (congrArg some (by kernel_rfl))
  f277 := Try.func43.trans (congrArg some (by kernel_rfl))
  t0 := Try.underlying0
  a0 := Try.isAgg0
  z0 := Try.sizeOf0
  v0 := Try.zeroValue0
  t3 := Try.underlying3
  a3 := Try.isAgg3
  z3 := Try.sizeOf3
  v3 := Try.zeroValue3
  t4 := Try.underlying4
  a4 := Try.isAgg4
  z4 := Try.sizeOf4
  v4 := Try.zeroValue4
  t5 := Try.underlying5
  a5 := Try.isAgg5
  z5 := Try.sizeOf5
  v5 := Try.zeroValue5
  t9 := Try.underlying9
  a9 := Try.isAgg9
  z9 := Try.sizeOf9
  v9 := Try.zeroValue9
  t20 := Try.underlying20
  a20 := Try.isAgg20
  z20 := Try.sizeOf20
  v20 := Try.zeroValue20
  t37 := Try.underlying47
  a37 := Try.isAgg47
  z37 := Try.sizeOf47
  v37 := Try.zeroValue47
  t46 := Try.underlying51
  a46 := Try.isAgg51
  z46 := Try.sizeOf51
  v46 := Try.zeroValue51
  t51 := Try.underlying39
  a51 := Try.isAgg39
  z51 := Try.sizeOf39
  v51 := Try.zeroValue39
  t53 := Try.underlying22
  a53 := Try.isAgg22
  z53 := Try.sizeOf22
  v53 := Try.zeroValue22
  t70 := Try.underlying55
  a70 := Try.isAgg55
  z70 := Try.sizeOf55
  v70 := Try.zeroValue55
  t72 := Try.underlying57
  a72 := Try.isAgg57
  z72 := Try.sizeOf57
  v72 := Try.zeroValue57
  t75 := Try.underlying60
  a75 := Try.isAgg60
  z75 := Try.sizeOf60
  v75 := Try.zeroValue60
  t76 := Try.underlying61
  a76 := Try.isAgg61
  z76 := Try.sizeOf61
  v76 := Try.zeroValue61
  t109 := Try.underlying52
  a109 := Try.isAgg52
  z109 := Try.sizeOf52
  v109 := Try.zeroValue52
  t127 := Try.underlying68
  a127 := Try.isAgg68
  z127 := Try.sizeOf68
  v127 := Try.zeroValue68
  t146 := Try.underlying65
  a146 := Try.isAgg65
  z146 := Try.sizeOf65
  v146 := Try.zeroValue65
  t148 := Try.underlying49
  a148 := Try.isAgg49
  z148 := Try.sizeOf49
  v148 := Try.zeroValue49
  t164 := Try.underlying69
  a164 := Try.isAgg69
  z164 := Try.sizeOf69
  v164 := Try.zeroValue69 }
theorem rpExtra : Builder.Extra Try.prog rpRen := {
  sizeBuilder := by kernel_rfl
  liesBuilder := by kernel_rfl
  t5 := Try.underlying5
  a5 := Try.isAgg5
  z5 := Try.sizeOf5
  v5 := Try.zeroValue5
  infoByte := by kernel_rfl
  cellsByte := by kernel_rfl
  sizeByte := by kernel_rfl
  neB5 := by decide }

abbrev zr (n : Nat) : List UInt8 := List.replicate n 0
theorem rep_zr : ∀ c, Lib.repeatL [0] c = zr c
  | 0 => rfl
  | c + 1 => by rw [Lib.repeatL, rep_zr c]; rfl
theorem rep_any (c : Nat) (hc : c ≤ 1000000) (w : World) : Calls Try.prog 30 #[str [0], Z c] w fun e w' => e = .returned (str (zr c)) ∧ Below w.heap.size w w' := by
  have h := Any.strings_Repeat rpLays rpExtra ⟨#[0]⟩ c w (by omega) (by rw [show (⟨#[0]⟩ : ByteArray).size = 1 from rfl]; omega)
  rw [rep_zr] at h
  exact h
/-- A text filled up. -/
def fil (s : List UInt8) (n : Nat) : List UInt8 := s ++ zr (n - s.length)
theorem fil_len (s : List UInt8) (n : Nat) : (fil s n).length = max s.length n := by unfold fil; rw [List.length_append, List.length_replicate]; omega
theorem fill_any (s : List UInt8) (n : Nat) (hs : s.length ≤ 1000000) (hn : n ≤ 1000000) (w : World) : Calls Try.prog 23 #[str s, Z n] w fun e w' => e = .returned (str (fil s n)) ∧ Below w.heap.size w w' := by
  unfold fil
  have hr := rep_any (n - s.length) (by omega)
  have hm : (if (n : Int) - s.length < 0 then (0 : Int) else (n : Int) - s.length) = ((n - s.length : Nat) : Int) := by split <;> omega
  have hl : (zr (n - s.length)).length ≤ 1000000 := by rw [List.length_replicate]; omega
  generalize n - s.length = k at *
  generalize zr k = z at *
  refine inQ (J := Below w.heap.size w) (F := (· < w.heap.size)) Try.func23 (Below.refl _ _) fun a I => ?_
  refine goQ [lnO s, bO .sub 3 (run_subZ (x := n) (y := s.length) (z := (n : Int) - s.length) (by rw [wzf (by omega) (by omega)])), mxO (k := .i64) (x := (n : Int) - s.length) (y := 0) (z := k) hm, kC Try.func30 hr, bO .add 9 (addS_run s z (by omega))] (nonR w) I fun β a w1 I1 hb => ?_
  exact outQ (v := str (s ++ z)) I1 ⟨rfl, I1.hJ⟩
theorem bd24_1 (a : Int) (w : World) : (Instr.build 24 (([0] : List Nat).zip [.int .u64 a]).toArray).run Try.prog w = .ok (I4 a 0 0 0) w := by kernel_rfl
theorem bd24_0 (w : World) : (Instr.build 24 (([] : List Nat).zip []).toArray).run Try.prog w = .ok (I4 0 0 0 0) w := by kernel_rfl
theorem bd24_4 (a b c d : Int) (w : World) : (Instr.build 24 (([0, 1, 2, 3] : List Nat).zip [.int .u64 a, .int .u64 b, .int .u64 c, .int .u64 d]).toArray).run Try.prog w = .ok (I4 a b c d) w := by kernel_rfl
theorem U_small (a : Nat) (h : a < M) : U a = U4 a 0 0 0 := by
  obtain ⟨h0, h1, h2, h3⟩ := of_parts a h
  unfold U
  rw [h0, h1, h2, h3]
theorem of_any (x : Nat) (w : World) : Calls Try.prog 21 #[B x] w fun e w' => e = .returned (U4 x 0 0 0) ∧ Below w.heap.size w w' := by
  refine inQ (J := Below w.heap.size w) (F := (· < w.heap.size)) Try.func21 (Below.refl _ _) fun a I => ?_
  refine goQ [dO 24 [0] (bd24_1 x)] (nonR w) I fun β a w1 I1 hb => ?_
  exact outQ (v := U4 x 0 0 0) I1 ⟨rfl, I1.hJ⟩
theorem cnv64 (n : Nat) (h : n < 1000000000000) (w : World) : (convert 3 22 (Z n)).run Try.prog w = .ok (B n) w := by
  have : IntKind.u64.wrap (n : Int) = n := by unfold IntKind.wrap; simp [IntKind.signed, IntKind.bits]; omega
  simp [go_sem, this]
theorem cnv46 (n : Nat) (h : n < 1000000000000) (w : World) : (convert 22 3 (B n)).run Try.prog w = .ok (Z n) w := by
  have : IntKind.i64.wrap (n : Int) = n := wz (by omega) (by omega)
  simp [go_sem, this]
theorem from64 {l : List UInt8} {k : Nat} (hk : k ≤ l.length) (w : World) : (Instr.sliceAt 9 (str l) (some (B k)) none none).run Try.prog w = .ok (str (l.drop k)) w := by
  rw [run_sliceAt_string (P := Try.prog) w 9 (str l) _ _ _ Try.underlying9]
  rw [run_slice_string_from_if (P := Try.prog) w 9 ⟨l.toArray⟩ .u64 (k : Int) Try.underlying9]
  have : (0 : Int) ≤ k ∧ (k : Int) ≤ (⟨l.toArray⟩ : ByteArray).size := ⟨by omega, by rw [str_size]; omega⟩
  rw [if_pos this, str_extract, str_size, List.take_length]
  rfl
theorem M_big : 1000000000000 < M := by decide
theorem M_W : M < W := by decide
theorem behind_any (s : List UInt8) (hs : s.length ≤ 1000000) (n : Nat) (hn : n < W) (w : World) : Calls Try.prog 26 #[str s, U n] w fun e w' => e = .returned (str (s.drop n)) ∧ Below w.heap.size w w' := by
  have hM := M_big
  have hW := M_W
  have hc := cmp_any n s.length hn (by omega)
  rw [U_small s.length (by omega)] at hc
  have hof := of_any s.length
  have h0 : n < s.length → l0 n = n := fun h => (of_parts n (by omega)).1
  have hv : cmpN n s.length = if n < s.length then -1 else if s.length < n then 1 else 0 := rfl
  generalize cmpN n s.length = cv at *
  unfold U at hc ⊢
  generalize l0 n = a0 at *
  generalize l1 n = a1 at *
  generalize l2 n = a2 at *
  generalize l3 n = a3 at *
  refine inQ (J := Below w.heap.size w) (F := (· < w.heap.size)) Try.func26 (Below.refl _ _) fun a I => ?_
  refine goQ [] (nonR w) I fun β a w1 I1 hb => ?_
  by_cases h : n < s.length
  · rw [if_pos h] at hv
    obtain rfl := h0 h
    refine dwQ 7 [lnO s, vO 3 22 (cnv64 s.length (by omega)), kC Try.func21 hof, kC Try.func20 hc, bO .geq 3 (run_geqZ (x := cv) (y := 0) (b := false) (by rw [hv]; rfl))] (nonR w) PanOk.post I1 fun a2 w2 I2 => ?_
    refine goQ [sO 9 (from64 (l := s) (k := a0) (by omega))] (nonR w) I2 fun β a w3 I3 hb => ?_
    exact outQ (v := str (s.drop a0)) I3 ⟨rfl, I3.hJ⟩
  · rw [if_neg h] at hv
    refine dwQ 7 [lnO s, vO 3 22 (cnv64 s.length (by omega)), kC Try.func21 hof, kC Try.func20 hc, bO .geq 3 (run_geqZ (x := cv) (y := 0) (b := true) (by rw [hv]; split <;> rfl))] (nonR w) PanOk.post I1 fun a2 w2 I2 => ?_
    refine goQ [] (nonR w) I2 fun β a w3 I3 hb => ?_
    exact outQ (v := str []) I3 ⟨by rw [List.drop_eq_nil_of_le (by omega)], I3.hJ⟩
end Go.Proofs.Ytdbilbcpnhkbaaa
