/- Laid one behind the other: Ve, Vf. -/
import Derived.Test.YthkpgfbjdabflaaGreatDoorKrVa
import Derived.Test.YthkpgfbjdabflaaGreatDoorKrNv
import Derived.Deep.Quiet
import Derived.Lib.QuietBelow
import Derived.Test.YthkpgfbjdabflaaGreatDoorKrLa
import Derived.Test.YthkpgfbjdabflaaGreatDoorKrAu
import Derived.BigQuiet
import Derived.Defers
import Derived.Deep.Cut
import Derived.WalkSmall
import Derived.Test.YthkpgfbjdabflaaGreatDoorKrDm
import Derived.Test.YthkpgfbjdabflaaGreatDoorKrEq
import Derived.Test.YthkpgfbjdabflaaGreatDoorKrSn
import Derived.Test.YthkpgfbjdabflaaGreatDoorKrKa
import Derived.Test.YthkpgfbjdabflaaGreatDoorKrNum
import Derived.Deep.Light
import Derived.Test.YthkpgfbjdabflaaGreatDoorKrQa
import Derived.Test.YthkpgfbjdabflaaGreatDoorKrLm
import Derived.Test.YthkpgfbjdabflaaGreatDoorKrLa1
import Derived.WalkMore
import Derived.Test.YthkpgfbjdabflaaGreatDoorKrMx
namespace Go.Proofs.YthkpgfbjdabflaaGreatDoor
open Go.RowKit Go.Sort
set_option linter.unusedVariables false
set_option maxRecDepth 100000
set_option maxHeartbeats 4000000
abbrev fnV (k : Nat) : Value := .func (.func k) #[] #[]
theorem cnvZ46 (n : Nat) (h : n < 1000000000000) (w : World) : (convert 3 23 (Z n)).run Tryz.prog w = .ok (B n) w := cnv64 n h w
theorem layBy_any {g : Nat} {f : Fr} {op : Nat} {pa : Int} (t : ByteArray) (ht : t.size ≤ 32) (hl : f.st.length ≤ 900) : Mth 207 g [.string t] f op pa TU0 { f with st := rdN t t.size :: f.st } op pa := by
  have hy := lay_any (g := g) (op := op) (pa := pa) (f := f) (rdN t t.size) (by omega)
  have hrd := read_any t ht
  have hfi := fst_e (l0 (rdN t t.size)) (l1 (rdN t t.size)) (l2 (rdN t t.size)) (l3 (rdN t t.size)) (Z 0)
  generalize rdN t t.size = n at *
  unfold U at *
  generalize l0 n = n0 at *
  generalize l1 n = n1 at *
  generalize l2 n = n2 at *
  generalize l3 n = n3 at *
  intro v dv w h
  refine inG (J := MS w g v dv v f dv) (F := MF w g v dv) [.string t] Tryz.func207 h.start h.row h.c.not fun a I => ?_
  refine goQ [kC Tryz.func101 hrd, kC Tryz.func281 hfi] (MS.rs _ _ _ _ _ _ _) I fun β0 A0 w0 I0 hb0 => ?_
  have hz0 : β0 0 = g := agr hb0 0 rfl
  refine mcallM Tryz.func209 hy I0 hz0 fun ad cap dv' w9 I9 => ?_
  refine goQ [] (MS.rs _ _ _ _ _ _ _) I9 fun βq Aq wq Iq hbq => ?_
  exact out0 Iq ⟨_, _, rfl, Iq.mp (agr hbq 0 hz0)⟩
theorem mput_any {g : Nat} {f : Fr} {op : Nat} {pa : Int} (n : Nat) (hn : n < 1000000000000) (t : List UInt8) (ht : t.length ≤ 1000000) (hm : f.mem.length ≤ 1000000) : Mth 280 g [U n, str t] f op pa TU0 { f with mem := putV f.mem n t } op pa := by
  have hp := put_any f.mem t hm ht n
  have hsm := small_any n hn
  generalize hx : putV f.mem n t = x at *
  unfold U at *
  generalize l0 n = n0 at *
  generalize l1 n = n1 at *
  generalize l2 n = n2 at *
  generalize l3 n = n3 at *
  intro v dv w h
  refine inG (J := MS w g v dv v f dv) (F := MF w g v dv) [U4 n0 n1 n2 n3, str t] Tryz.func280 h.start h.row h.c.not fun a I => ?_
  refine goQ [] (MS.rs _ _ _ _ _ _ _) I fun β0 A0 w0 I0 hb0 => ?_
  have hz0 : β0 0 = g := agr hb0 0 rfl
  refine dwQ 10 [kC Tryz.func146 hsm, kC Tryz.func305 hp] (MS.rs _ _ _ _ _ _ _) PanOk.post I0 fun A2 w2 I2 => ?_
  refine goQ [] (MS.rs _ _ _ _ _ _ _) I2 fun βq Aq wq Iq hbq => ?_
  exact out0 Iq ⟨_, _, rfl, Iq.mp' { f with mem := x } (agr hbq 0 hz0) rfl rfl⟩
end Go.Proofs.YthkpgfbjdabflaaGreatDoor
namespace Go.Proofs.YthkpgfbjdabflaaGreatDoor
open Go.RowKit Go.Sort
set_option linter.unusedVariables false
set_option maxRecDepth 100000
set_option maxHeartbeats 4000000
theorem MS.drew {wE : World} {g : Nat} {v0 dv0 v dv : Value} {f : Fr} {w w' : World} (h : MS wE g v0 dv0 v f dv w) (hb : Below w.heap.size w w') : MS wE g v0 dv0 v f dv w' := (MS.rs _ _ _ _ _ _ _).loc _ _ h (Grow.of_below hb)
theorem slV_len (t : List UInt8) (n : Nat) (i : Nat) (h : i ≤ 65536) : (slV t n i).length = i := by
  unfold slV
  rw [if_neg (by omega), fil_len, Int.toNat_natCast, List.length_take]
  omega
theorem run_svA {P : Program} {w' : World} (ty : TypeId) {g off : Nat} {v : Value} {c : Array Value} (hr : HasRow w' g c) (hi : (P.info? ty).map (·.size) = some v.cells.size) (hn : off + v.cells.size ≤ c.size) (h1 : v.cells.all (·.oneCell') = true) : (storeVar ty ⟨g, off, none⟩ v).run P w' = .ok () (w'.setRow g (over c off v.cells)) := by
  obtain ⟨t, hg⟩ := hr
  have hs := run_storeCells_at P g off t v.cells.toList 0 c w' hg (by simpa using hn) (fun x hx => Array.all_eq_true_iff_forall_mem.1 h1 x (by simpa using hx))
  cases hq : P.info? ty with
  | none => simp [hq] at hi
  | some i =>
    have hz : v.cells.size = i.size := by simp [hq] at hi; omega
    have h3 : (c.toList.take (off + 0) ++ v.cells.toList ++ c.toList.drop (off + 0 + v.cells.toList.length)).toArray = over c off v.cells := by simp [over]
    rw [h3] at hs
    simpa [storeVar, sizeOf, typeInfo, hq, hz] using hs
theorem SI.sto {J J' : World → Prop} {F F' : Nat → Prop} {ds : List Deferred} {β : Nat → Nat} {c : Cf} {a : Act} {w w' : World} (I : SI J F ds β c a w) (g : Grow (fun k => ¬ F k) w w') (hJ : J' w') (hF : ∀ k, k < w.heap.size → F' k → F k) : SI J' F' ds β (nextQ c (dstQ c) none) (a.put (dstQ c) undef) w' := I.move g hJ hF (dstQ c) none
theorem sub8 {x y : Nat} (h : y ≤ x) (hx : x < 256) (o1 o2 : Operand) (w : World) : (do eqGuard .sub 5 o1 o2 (b8 x) (.int .u8 y); binOp .sub 5 (b8 x) (.int .u8 y) : Sem Value).run Tryz.prog w = .ok (b8 (x - y)) w := run_sub8 (x := x) (y := y) (z := (x - y : Nat)) (by rw [wrap8 (by omega) (by omega)]; omega) o1 o2 w
end Go.Proofs.YthkpgfbjdabflaaGreatDoor
