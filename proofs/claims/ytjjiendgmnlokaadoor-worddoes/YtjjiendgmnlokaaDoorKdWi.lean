/- The reader of words: counts, tails, single terms of flat shapes. -/
import Derived.Test.YtjjiendgmnlokaaDoorKdWh
import Derived.Test.YtjjiendgmnlokaaDoorKdEq
namespace Go.Proofs.YtjjiendgmnlokaaDoor
open Go.RowKit Go.Sort
set_option linter.unusedVariables false
set_option maxRecDepth 100000
theorem nm_lt (l : List UInt8) (h : l.length ≤ 32) : nm l < W := by
  have := rdN_lt ⟨l.toArray⟩ l.length
  rw [W_pow]
  exact Nat.lt_of_lt_of_le this (Nat.pow_le_pow_right (by decide) (by omega))
theorem nm_wb (n : Nat) (h : n < W) : nm (wb n) = n := by
  have e : (⟨(wb n).toArray⟩ : ByteArray) = strN n := by simp
  unfold nm
  rw [e, wb_len]
  have := rd_back n h
  rw [strN_size] at this
  exact this
theorem count_ok {g : Nat} {S : List UInt8} {p most : Nat} {w : World} (hr : HasRow w g #[str S, Z p]) (hS : S.length < 1000000000000) (hp : p + 32 ≤ S.length) (hm : most < 1000000000) (hn : nm ((S.drop p).take 32) ≤ most) :
    Calls Tryd.prog 49 #[ptr0 g, Z most] w fun e w' => e = .returned (Z (nm ((S.drop p).take 32))) ∧ HasRow w' g #[str S, Z (p + 32 : Nat)] ∧ Grow (fun k => k ≠ g) w w' := by
  have hlt := hr.lt
  have hl32 : ((S.drop p).take 32).length ≤ 32 := by rw [List.length_take]; omega
  have hW : most < W := Nat.lt_trans hm (by decide)
  have hM : nm ((S.drop p).take 32) < M := Nat.lt_trans (Nat.lt_of_le_of_lt hn hm) (by decide)
  have hl0 : l0 (nm ((S.drop p).take 32)) = nm ((S.drop p).take 32) := by unfold l0; exact Nat.mod_eq_of_lt hM
  refine inG (J := RO w g 5 1 (.slice none 0 0) 0 []) (F := ROF w g (.slice none 0 0)) [Z most] Tryd.func49 (RO.start _ _ _ _) hr RO.not fun a I => ?_
  refine goQ [] (RO.rs _ _ _ _ _ _ _) I fun β a w0 I hb => ?_
  have hb0 : β 0 = g := agr hb 0 rfl
  refine rmcall [Z (32 : Nat)] Tryd.func34 #[str S, Z p] #[str S, Z (p + 32 : Nat)] I hb0 hlt (take_any (I.rowG 0 hb0 (r := #[str S, Z p])) hS (by omega) hp) fun w1 I => ?_
  refine goQ [kC Tryd.func47 (number_any _ hl32)] (RO.rs _ _ _ _ _ _ _) I fun β2 a w2 I hb2 => ?_
  have hb20 : β2 0 = g := agr hb2 0 hb0
  have hcmp : cmpN (nm ((S.drop p).take 32)) most ≤ 0 := by
    unfold cmpN
    split
    · omega
    · split
      · omega
      · omega
  refine dwQ 6 [kC Tryd.func42 (ofw_any most (by omega)), kC Tryd.func58 (cmp_any (nm ((S.drop p).take 32)) most (nm_lt _ hl32) hW), bO .leq 3 (run_leqZ (x := cmpN (nm ((S.drop p).take 32)) most) (y := 0) (b := true) (by simpa using hcmp)), kC Tryd.func24 ask_t] (RO.rs _ _ _ _ _ _ _) PanOk.post I fun a w3 I => ?_
  refine goQ [vO 37 3 (p := B (l0 (nm ((S.drop p).take 32)))) (v := Z (nm ((S.drop p).take 32))) (by intro w; rw [hl0]; have := wz (n := (nm ((S.drop p).take 32) : Int)) (by omega) (by omega); simp [go_sem, this])] (RO.rs _ _ _ _ _ _ _) I fun β4 a w4 I hb4 => ?_
  have hb40 : β4 0 = g := agr hb4 0 hb20
  exact outQ I ⟨rfl, I.rowG 0 hb40 (r := #[str S, Z (p + 32 : Nat)]), I.hJ.gr⟩
abbrev pad (n : Nat) : Nat := (32 - n % 32) % 32
theorem tail_ok {g : Nat} {S : List UInt8} {p n : Nat} {w : World} (hr : HasRow w g #[str S, Z p]) (hS : S.length < 1000000000000) (hp : p + 32 ≤ S.length) (hn : nm ((S.drop p).take 32) = n) (hn2 : n ≤ 16384) (hf : p + 32 + n + pad n ≤ S.length) (hz : ∀ b ∈ (S.drop (p + 32 + n)).take (pad n), b = 0) :
    Calls Tryd.prog 48 #[ptr0 g] w fun e w' => e = .returned (str ((S.drop (p + 32)).take n)) ∧ HasRow w' g #[str S, Z (p + 32 + n + pad n : Nat)] ∧ Grow (fun k => k ≠ g) w w' := by
  have hlt := hr.lt
  have hpl : pad n ≤ 32 := by unfold pad; omega
  refine inG (J := RO w g 5 1 (.slice none 0 0) 0 []) (F := ROF w g (.slice none 0 0)) [] Tryd.func48 (RO.start _ _ _ _) hr RO.not fun a I => ?_
  refine goQ [] (RO.rs _ _ _ _ _ _ _) I fun β a w0 I hb => ?_
  have hb0 : β 0 = g := agr hb 0 rfl
  have h1 := count_ok (most := 16384) (I.rowG 0 hb0 (r := #[str S, Z p])) hS hp (by decide) (by omega)
  rw [hn] at h1
  refine rmcall [Z (16384 : Nat)] Tryd.func49 #[str S, Z p] #[str S, Z (p + 32 : Nat)] I hb0 hlt h1 fun w1 I => ?_
  refine goQ [] (RO.rs _ _ _ _ _ _ _) I fun β2 a w2 I hb2 => ?_
  have hb20 : β2 0 = g := agr hb2 0 hb0
  refine rmcall [Z n] Tryd.func34 #[str S, Z (p + 32 : Nat)] #[str S, Z (p + 32 + n : Nat)] I hb20 hlt (take_any (I.rowG 0 hb20 (r := #[str S, Z (p + 32 : Nat)])) hS (by omega) (by omega)) fun w3 I => ?_
  refine goQ [kC Tryd.func54 (padding_any n (by omega))] (RO.rs _ _ _ _ _ _ _) I fun β4 a w4 I hb4 => ?_
  have hb40 : β4 0 = g := agr hb4 0 hb20
  refine rmcall [Z (pad n : Nat)] Tryd.func34 #[str S, Z (p + 32 + n : Nat)] #[str S, Z (p + 32 + n + pad n : Nat)] I hb40 hlt (take_any (I.rowG 0 hb40 (r := #[str S, Z (p + 32 + n : Nat)])) hS (by omega) (by omega)) fun w5 I => ?_
  refine goQ [kC Tryd.func57 (trim_any ((S.drop (p + 32 + n)).take (pad n)) (by rw [List.length_take]; omega)), bO .eql 9 (eqS_run (a := trm ((S.drop (p + 32 + n)).take (pad n))) (b := []) (q := true) (by simpa using (trm_nil _).2 hz)), kC Tryd.func24 ask_t] (RO.rs _ _ _ _ _ _ _) I fun β6 a w6 I hb6 => ?_
  have hb60 : β6 0 = g := agr hb6 0 hb40
  exact outQ I ⟨rfl, I.rowG 0 hb60 (r := #[str S, Z (p + 32 + n + pad n : Nat)]), I.hJ.gr⟩
abbrev term7 (k : Int) (u : Nat) (s : List UInt8) (lv : Value) : Value := .agg #[Z k, B (l0 u), B (l1 u), B (l2 u), B (l3 u), str s, lv]
theorem bd_num (n : Nat) (w : World) : (Instr.build 41 (([1] : List Nat).zip [U n]).toArray).run Tryd.prog w = .ok (term7 0 n [] (.slice none 0 0)) w := by
  kernel_rfl
theorem bd_txt (s : List UInt8) (w : World) : (Instr.build 41 (([0, 2] : List Nat).zip [Z 1, str s]).toArray).run Tryd.prog w = .ok (term7 1 0 s (.slice none 0 0)) w := by
  kernel_rfl
abbrev shp (k : Int) : Value := .agg #[Z k, .bool false, .slice none 0 0]
theorem term0_ok {g : Nat} {S : List UInt8} {p q : Nat} {w : World} (word : List UInt8) (hw : word.length ≤ 32) (hr : HasRow w g #[str S, Z p]) :
    Calls Tryd.prog 35 #[ptr0 g, shp 0, str word, Z q] w fun e w' => e = .returned (term7 0 (nm word) [] (.slice none 0 0)) ∧ HasRow w' g #[str S, Z p] ∧ Grow (fun k => k ≠ g) w w' := by
  have hlt := hr.lt
  refine inG (J := RO w g 5 1 (.slice none 0 0) 0 []) (F := ROF w g (.slice none 0 0)) [shp 0, str word, Z q] Tryd.func35 (RO.start _ _ _ _) hr RO.not fun a I => ?_
  refine goQ [eql0 0 0 true rfl, kC Tryd.func47 (number_any word hw), dO 41 [1] (bd_num (nm word))] (RO.rs _ _ _ _ _ _ _) I fun β a w0 I hb => ?_
  have hb0 : β 0 = g := agr hb 0 rfl
  exact outQ I ⟨rfl, I.rowG 0 hb0 (r := #[str S, Z p]), I.hJ.gr⟩
theorem term1_ok {g : Nat} {S : List UInt8} {p q n : Nat} {w : World} (word : List UInt8) (hw : word.length ≤ 32) (hq : q < 1000000000000) (hwq : nm word = q) (hr : HasRow w g #[str S, Z p]) (hS : S.length < 1000000000000) (hp : p + 32 ≤ S.length) (hn : nm ((S.drop p).take 32) = n) (hn2 : n ≤ 16384) (hf : p + 32 + n + pad n ≤ S.length) (hz : ∀ b ∈ (S.drop (p + 32 + n)).take (pad n), b = 0) :
    Calls Tryd.prog 35 #[ptr0 g, shp 1, str word, Z q] w fun e w' => e = .returned (term7 1 0 ((S.drop (p + 32)).take n) (.slice none 0 0)) ∧ HasRow w' g #[str S, Z (p + 32 + n + pad n : Nat)] ∧ Grow (fun k => k ≠ g) w w' := by
  have hlt := hr.lt
  refine inG (J := RO w g 5 1 (.slice none 0 0) 0 []) (F := ROF w g (.slice none 0 0)) [shp 1, str word, Z q] Tryd.func35 (RO.start _ _ _ _) hr RO.not fun a I => ?_
  refine goQ [eql0 1 0 false rfl, kC Tryd.func47 (number_any word hw), kC Tryd.func42 (ofw_any q hq), bO .eql 39 (p := U (nm word)) (q := U q) (v := .bool true) (by intros; rw [hwq]; simp [go_sem, run_eqU_same]), kC Tryd.func24 ask_t, eql0 1 1 true rfl] (RO.rs _ _ _ _ _ _ _) I fun β a w0 I hb => ?_
  have hb0 : β 0 = g := agr hb 0 rfl
  refine rmcall [] Tryd.func48 #[str S, Z p] #[str S, Z (p + 32 + n + pad n : Nat)] I hb0 hlt (tail_ok (I.rowG 0 hb0 (r := #[str S, Z p])) hS hp hn hn2 hf hz) fun w1 I => ?_
  refine goQ [dO 41 [0, 2] (bd_txt ((S.drop (p + 32)).take n))] (RO.rs _ _ _ _ _ _ _) I fun β2 a w2 I hb2 => ?_
  have hb20 : β2 0 = g := agr hb2 0 hb0
  exact outQ I ⟨rfl, I.rowG 0 hb20 (r := #[str S, Z (p + 32 + n + pad n : Nat)]), I.hJ.gr⟩
end Go.Proofs.YtjjiendgmnlokaaDoor
