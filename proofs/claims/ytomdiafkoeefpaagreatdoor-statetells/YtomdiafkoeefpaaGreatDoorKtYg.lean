/- Out of Yg. -/
import Derived.Test.YtomdiafkoeefpaaGreatDoorKtYf
import Derived.Shelf.Strings.Repeat
namespace Go.Proofs.YtomdiafkoeefpaaGreatDoor
open Go.RowKit Go.Sort Go.Shelf
set_option linter.unusedVariables false
set_option maxRecDepth 100000
def rpRen : Go.Shelf.Ren := ⟨fun | 105 => 41 | 212 => 64 | 99 => 65 | 165 => 66 | 166 => 67 | 170 => 68 | 169 => 69 | 263 => 116 | 264 => 117 | 206 => 118 | 240 => 119 | 241 => 120 | 276 => 142 | 277 => 143 | n => n, fun | 9 => 9 | 3 => 3 | 4 => 4 | 20 => 20 | 0 => 0 | 46 => 85 | 109 => 92 | 5 => 5 | 72 => 97 | 76 => 101 | 51 => 158 | 146 => 159 | 53 => 23 | 148 => 87 | 70 => 95 | 37 => 60 | 75 => 100 | 127 => 162 | 164 => 188 | 80 => 104 | n => n, fun | n => n⟩
theorem rpLays : Go.Proofs.Lays.n105 Tryz.prog rpRen := {
  mixed := by kernel_rfl
  f99 := Tryz.func65.trans (congrArg some (by kernel_rfl))
  f105 := Tryz.func41.trans (congrArg some (by kernel_rfl))
  f165 := Tryz.func66.trans (congrArg some (by kernel_rfl))
  f166 := Tryz.func67.trans (congrArg some (by kernel_rfl))
  f169 := Tryz.func69.trans (congrArg some (by kernel_rfl))
  f170 := Tryz.func68.trans (congrArg some (by kernel_rfl))
  f206 := Tryz.func118.trans (congrArg some (by kernel_rfl))
  f212 := Tryz.func64.trans (congrArg some (by kernel_rfl))
  f240 := Tryz.func119.trans (congrArg some (by kernel_rfl))
  f241 := Tryz.func120.trans (congrArg some (by kernel_rfl))
  f263 := Tryz.func116.trans (congrArg some (by kernel_rfl))
  f264 := Tryz.func117.trans (congrArg some (by kernel_rfl))
  f276 := Tryz.func142.trans (congrArg some (by kernel_rfl))
  f277 := Tryz.func143.trans (congrArg some (by kernel_rfl))
  t0 := Tryz.underlying0
  a0 := Tryz.isAgg0
  z0 := Tryz.sizeOf0
  v0 := Tryz.zeroValue0
  t3 := Tryz.underlying3
  a3 := Tryz.isAgg3
  z3 := Tryz.sizeOf3
  v3 := Tryz.zeroValue3
  t4 := Tryz.underlying4
  a4 := Tryz.isAgg4
  z4 := Tryz.sizeOf4
  v4 := Tryz.zeroValue4
  t5 := Tryz.underlying5
  a5 := Tryz.isAgg5
  z5 := Tryz.sizeOf5
  v5 := Tryz.zeroValue5
  t9 := Tryz.underlying9
  a9 := Tryz.isAgg9
  z9 := Tryz.sizeOf9
  v9 := Tryz.zeroValue9
  t20 := Tryz.underlying20
  a20 := Tryz.isAgg20
  z20 := Tryz.sizeOf20
  v20 := Tryz.zeroValue20
  t37 := Tryz.underlying60
  a37 := Tryz.isAgg60
  z37 := Tryz.sizeOf60
  v37 := Tryz.zeroValue60
  t46 := Tryz.underlying85
  a46 := Tryz.isAgg85
  z46 := Tryz.sizeOf85
  v46 := Tryz.zeroValue85
  t51 := Tryz.underlying158
  a51 := Tryz.isAgg158
  z51 := Tryz.sizeOf158
  v51 := Tryz.zeroValue158
  t53 := Tryz.underlying23
  a53 := Tryz.isAgg23
  z53 := Tryz.sizeOf23
  v53 := Tryz.zeroValue23
  t70 := Tryz.underlying95
  a70 := Tryz.isAgg95
  z70 := Tryz.sizeOf95
  v70 := Tryz.zeroValue95
  t72 := Tryz.underlying97
  a72 := Tryz.isAgg97
  z72 := Tryz.sizeOf97
  v72 := Tryz.zeroValue97
  t75 := Tryz.underlying100
  a75 := Tryz.isAgg100
  z75 := Tryz.sizeOf100
  v75 := Tryz.zeroValue100
  t76 := Tryz.underlying101
  a76 := Tryz.isAgg101
  z76 := Tryz.sizeOf101
  v76 := Tryz.zeroValue101
  t109 := Tryz.underlying92
  a109 := Tryz.isAgg92
  z109 := Tryz.sizeOf92
  v109 := Tryz.zeroValue92
  t127 := Tryz.underlying162
  a127 := Tryz.isAgg162
  z127 := Tryz.sizeOf162
  v127 := Tryz.zeroValue162
  t146 := Tryz.underlying159
  a146 := Tryz.isAgg159
  z146 := Tryz.sizeOf159
  v146 := Tryz.zeroValue159
  t148 := Tryz.underlying87
  a148 := Tryz.isAgg87
  z148 := Tryz.sizeOf87
  v148 := Tryz.zeroValue87
  t164 := Tryz.underlying188
  a164 := Tryz.isAgg188
  z164 := Tryz.sizeOf188
  v164 := Tryz.zeroValue188 }
theorem rpExtra : Builder.Extra Tryz.prog rpRen := {
  sizeBuilder := by kernel_rfl
  liesBuilder := by kernel_rfl
  t5 := Tryz.underlying5
  a5 := Tryz.isAgg5
  z5 := Tryz.sizeOf5
  v5 := Tryz.zeroValue5
  infoByte := by kernel_rfl
  cellsByte := by kernel_rfl
  sizeByte := by kernel_rfl
  neB5 := by decide }
theorem rep_any (w : World) : Calls Tryz.prog 41 #[.string ⟨#[0]⟩, Z 12] w fun e w' => e = .returned (str (List.replicate 12 0)) ∧ Below w.heap.size w w' :=
  Any.strings_Repeat_main rpLays rpExtra ⟨#[0]⟩ 12 w (by decide) (by decide) (by decide) (by decide)
theorem dest_any (s : ByteArray) (w : World) : Calls Tryz.prog 18 #[.string s] w fun e w' => e = .returned (str (destL s)) ∧ Below w.heap.size w w' := by
  refine inQ (J := Below w.heap.size w) (F := (· < w.heap.size)) Tryz.func18 (Below.refl _ _) fun a I => ?_
  by_cases h20 : ¬ s.size = 20
  · refine goQ [lO Tryz.underlying9 (b := s) (n := s.size) rfl, bO .neq 3 (run_neqZ (x := s.size) (y := 20) (b := true) (by simp; omega))] (nonR w) I fun β a w1 I hb => ?_
    exact outQ (v := .string ⟨#[]⟩) I ⟨by unfold destL; rw [if_neg h20], I.hJ⟩
  have h20 := Classical.not_not.1 h20
  refine goQ [lO Tryz.underlying9 (b := s) (n := s.size) rfl, bO .neq 3 (run_neqZ (x := s.size) (y := 20) (b := false) (by simp; omega)), kC Tryz.func41 rep_any, bO .add 9 (addS_run (List.replicate 12 0) s.data.toList (by have : s.data.toList.length = s.size := Array.length_toList; rw [List.length_replicate]; omega))] (nonR w) I fun β a w1 I hb => ?_
  refine outQ (v := str (List.replicate 12 0 ++ s.data.toList)) I ⟨?_, I.hJ⟩
  unfold destL
  rw [if_pos h20]
end Go.Proofs.YtomdiafkoeefpaaGreatDoor
