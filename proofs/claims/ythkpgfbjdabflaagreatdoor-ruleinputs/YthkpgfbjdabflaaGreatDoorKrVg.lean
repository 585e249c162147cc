/- Out of Vg. -/
import Derived.Test.YthkpgfbjdabflaaGreatDoorKrVe
namespace Go.Proofs.YthkpgfbjdabflaaGreatDoor
open Go.RowKit Go.Sort
set_option linter.unusedVariables false
set_option maxRecDepth 100000
set_option maxHeartbeats 4000000
theorem neqU_run {n m : Nat} (hn : n < W) (hm : m < W) {b : Bool} (h : decide (n ≠ m) = b) (x y : Operand) (w : World) : (do eqGuard .neq 45 x y (U n) (U m); binOp .neq 45 (U n) (U m) : Sem Value).run Tryz.prog w = .ok (.bool b) w := by
  have he := run_eqU n m hn hm w
  have hg : (eqGuard .neq 45 x y (U n) (U m)).run Tryz.prog w = .ok () w := by
    unfold eqGuard
    simp [go_sem]
  simp only [Sem.run_bind, hg, Result.andThen_ok]
  unfold binOp Op.equal
  simp only [Sem.run_bind]
  rw [show Op.maxDepth = 10000 from rfl, he]
  subst h
  by_cases hq : n = m <;> simp [go_sem, hq]
abbrev r0 (P : Program) (c : Cf) := rn P (T := fun _ => True) [] c
theorem m_stop {g : Nat} {f : Fr} {op : Nat} {pa : Int} : Mth 165 g [] f op pa TU0 { f with sd := 1 } op pa := by
  intro v dv w h
  refine inG (J := MS w g v dv v f dv) (F := MF w g v dv) [] Tryz.func165 h.start h.row h.c.not fun Az I => ?_
  refine goQ [] (MS.rs _ _ _ _ _ _ _) I fun β0 A0 w0 I0 hb0 => ?_
  exact out0 I0 ⟨_, _, rfl, I0.mp' { f with sd := 1 } (agr hb0 0 rfl) rfl rfl⟩
theorem m_store {g : Nat} {f : Fr} {op : Nat} {pa : Int} {a b : Nat} {s : List Nat} (hs : f.st = a :: b :: s) (ha : a < W) (hb : b < W) (hl : f.st.length ≤ 900) (hp : a ≤ 1000000) (hm : f.mem.length ≤ 1000000) : Mth 199 g [] f op pa TU0 { f with st := s, mem := putV f.mem a (bsN b) } op pa := by
  have t0 := take_any (g := g) (op := op) (pa := pa) hs (by omega)
  have t1 := take_any (g := g) (op := op) (pa := pa) (f := { f with st := b :: s }) (u := b) (s := s) rfl (by simp only []; rw [hs] at hl; simp at hl ⊢; omega)
  have hby := bytes_any b
  have hz : (bsN b).length = 32 := by have := strN_size b; unfold bsN; rw [Array.length_toList]; exact this
  have eb : (strN b) = ⟨(bsN b).toArray⟩ := by simp [bsN]
  rw [eb] at hby
  have hq := mput_any (g := g) (op := op) (pa := pa) (f := { f with st := s }) a (by omega) (bsN b) (by omega) hm
  generalize putV f.mem a (bsN b) = x at *
  generalize bsN b = ty at *
  unfold U at *
  generalize l0 a = a0 at *
  generalize l1 a = a1 at *
  generalize l2 a = a2 at *
  generalize l3 a = a3 at *
  generalize l0 b = b0 at *
  generalize l1 b = b1 at *
  generalize l2 b = b2 at *
  generalize l3 b = b3 at *
  intro v dv w h
  refine inG (J := MS w g v dv v f dv) (F := MF w g v dv) [] Tryz.func199 h.start h.row h.c.not fun Az I => ?_
  refine goQ [] (MS.rs _ _ _ _ _ _ _) I fun β0 A0 w0 I0 hb0 => ?_
  have hz0 : β0 0 = g := agr hb0 0 rfl
  refine mcallM Tryz.func267 t0 I0 hz0 fun ad0 cap0 dv0 w1 I1 => ?_
  refine goQ [] (MS.rs _ _ _ _ _ _ _) I1 fun β1 A2 w2 I2 hb1 => ?_
  have hz1 : β1 0 = g := agr hb1 0 hz0
  refine mcallM Tryz.func267 t1 I2 hz1 fun ad1 cap1 dv1 w3 I3 => ?_
  refine goQ [] (MS.rs _ _ _ _ _ _ _) I3 fun β4 A4 w4 I4 hb4 => ?_
  have hz4 : β4 0 = g := agr hb4 0 hz1
  refine dwQ 4 [kC Tryz.func47 hby] (MS.rs _ _ _ _ _ _ _) PanOk.post I4 fun A5 w5 I5 => ?_
  refine mcallM Tryz.func280 hq I5 hz4 fun ad cap dv' w6 I6 => ?_
  refine goQ [] (MS.rs _ _ _ _ _ _ _) I6 fun β9 A9 w9 I9 hb9 => ?_
  exact out0 I9 ⟨_, _, rfl, I9.mp (agr hb9 0 hz4)⟩
theorem end_any {g : Nat} {f : Fr} {op : Nat} {pa : Int} {a b : Nat} {s : List Nat} (hs : f.st = a :: b :: s) (ha : a < W) (hb : b < W) (hl : f.st.length ≤ 900) (z : Int) (hm : f.mem.length ≤ 1000000) (hb2 : b ≤ 65536) : Mth 210 g [Z z] f op pa TU0 { f with st := s, out := slV f.mem a b, sd := z } op pa := by
  have t0 := take_any (g := g) (op := op) (pa := pa) hs (by omega)
  have t1 := take_any (g := g) (op := op) (pa := pa) (f := { f with st := b :: s }) (u := b) (s := s) rfl (by simp only []; rw [hs] at hl; simp at hl ⊢; omega)
  have hsl := slice_any f.mem hm a ha b
  have hsm := small_any b (by omega)
  generalize slV f.mem a b = y at *
  unfold U at *
  generalize l0 a = a0 at *
  generalize l1 a = a1 at *
  generalize l2 a = a2 at *
  generalize l3 a = a3 at *
  generalize l0 b = b0 at *
  generalize l1 b = b1 at *
  generalize l2 b = b2 at *
  generalize l3 b = b3 at *
  intro v dv w h
  refine inG (J := MS w g v dv v f dv) (F := MF w g v dv) [Z z] Tryz.func210 h.start h.row h.c.not fun Az I => ?_
  refine goQ [] (MS.rs _ _ _ _ _ _ _) I fun β0 A0 w0 I0 hb0 => ?_
  have hz0 : β0 0 = g := agr hb0 0 rfl
  refine mcallM Tryz.func267 t0 I0 hz0 fun ad0 cap0 dv0 w1 I1 => ?_
  refine goQ [] (MS.rs _ _ _ _ _ _ _) I1 fun β1 A2 w2 I2 hb1 => ?_
  have hz1 : β1 0 = g := agr hb1 0 hz0
  refine mcallM Tryz.func267 t1 I2 hz1 fun ad1 cap1 dv1 w3 I3 => ?_
  refine goQ [] (MS.rs _ _ _ _ _ _ _) I3 fun β4 A4 w4 I4 hb4 => ?_
  have hz4 : β4 0 = g := agr hb4 0 hz1
  refine dwQ 10 [kC Tryz.func146 hsm, kC Tryz.func208 hsl] (MS.rs _ _ _ _ _ _ _) PanOk.post I4 fun A5 w5 I5 => ?_
  refine goQ [] (MS.rs _ _ _ _ _ _ _) I5 fun β9 A9 w9 I9 hb9 => ?_
  exact out0 I9 ⟨_, _, rfl, I9.mp' { f with st := s, out := y, sd := z } (agr hb9 0 hz4) rfl rfl⟩
theorem m_out {g : Nat} {f : Fr} {op : Nat} {pa : Int} {a b : Nat} {s : List Nat} (hs : f.st = a :: b :: s) (ha : a < W) (hb : b < W) (hl : f.st.length ≤ 900) (hm : f.mem.length ≤ 1000000) (hb2 : b ≤ 65536) : Mth 138 g [] f op pa TU0 { f with st := s, out := slV f.mem a b, sd := 1 } op pa := by
  have t := end_any (g := g) (op := op) (pa := pa) hs ha hb hl 1 hm hb2
  generalize slV f.mem a b = x at *
  intro v dv w h
  refine inG (J := MS w g v dv v f dv) (F := MF w g v dv) [] Tryz.func138 h.start h.row h.c.not fun Az I => ?_
  refine goQ [] (MS.rs _ _ _ _ _ _ _) I fun β0 A0 w0 I0 hb0 => ?_
  have hz0 : β0 0 = g := agr hb0 0 rfl
  refine mcallM Tryz.func210 t I0 hz0 fun ad cap dv' w1 I1 => ?_
  refine goQ [] (MS.rs _ _ _ _ _ _ _) I1 fun β9 A9 w9 I9 hb9 => ?_
  exact out0 I9 ⟨_, _, rfl, I9.mp (agr hb9 0 hz0)⟩
theorem m_push {g : Nat} {f : Fr} {op : Nat} {pa : Int} (h1 : 95 ≤ op) (h2 : op < 128) (hc : f.code.length ≤ 1000000) (p0 : 0 ≤ f.pc) (p1 : f.pc ≤ 1000000) (hl : f.st.length ≤ 900) : Mth 135 g [] f op pa TU0 { f with st := rdB (slV f.code f.pc.toNat ((op - 95 : Nat) : Int)) :: f.st, pc := f.pc + ((op - 95 : Nat) : Int) } op pa := by
  obtain ⟨code, inp, st, mem, pc, gas, sd, er, out⟩ := f
  simp only [] at hc p0 p1 hl
  obtain ⟨k, hk⟩ : ∃ k, op - 95 = k := ⟨_, rfl⟩
  obtain ⟨p, rfl⟩ : ∃ p : Nat, pc = p := ⟨pc.toNat, (Int.toNat_of_nonneg p0).symm⟩
  have hsb := fun o1 o2 w => sub8 (x := op) (y := 95) (by omega) (by omega) o1 o2 w
  rw [hk] at hsb ⊢
  have hcv := cnv8Z k (by omega)
  simp only [Int.toNat_natCast]
  have hM := M_big
  have hW := M_W
  have hof := of_any p (by omega)
  have hcp := cnvZ46 p (by omega)
  have hsl := slice_any code hc p (by omega) k
  have hln := slV_len code p k (by omega)
  have hly := layBy_any (g := g) (op := op) (pa := pa) (f := ⟨code, inp, st, mem, p, gas, sd, er, out⟩) ⟨(slV code p k).toArray⟩ (by rw [str_size]; omega) hl
  rw [str_size] at hly
  unfold rdB
  generalize rdN ⟨(slV code p k).toArray⟩ (slV code p k).length = r at *
  generalize slV code p k = y at *
  unfold U at *
  generalize l0 p = p0 at *
  generalize l1 p = p1 at *
  generalize l2 p = p2 at *
  generalize l3 p = p3 at *
  intro v dv w h
  refine inG (J := MS w g v dv v ⟨code, inp, st, mem, p, gas, sd, er, out⟩ dv) (F := MF w g v dv) [] Tryz.func135 h.start h.row h.c.not fun Az I => ?_
  refine goQ [bO .sub 5 hsb, vO 5 3 hcv] (MS.rs _ _ _ _ _ _ _) I fun β0 A0 w0 I0 hb0 => ?_
  have hz0 : β0 0 = g := agr hb0 0 rfl
  refine dwQ 15 [vO 3 23 hcp, kC Tryz.func48 hof, kC Tryz.func208 hsl] (MS.rs _ _ _ _ _ _ _) PanOk.post I0 fun A5 w5 I5 => ?_
  refine mcallM Tryz.func207 hly I5 hz0 fun ad cap dv' w6 I6 => ?_
  refine goQ [bO .add 3 (run_addZ (x := p) (y := k) (z := (p : Int) + k) (by rw [wzf (by omega) (by omega)]))] (MS.rs _ _ _ _ _ _ _) I6 fun β9 A9 w9 I9 hb9 => ?_
  exact out0 I9 ⟨_, _, rfl, I9.mp' ⟨code, inp, r :: st, mem, (p : Int) + k, gas, sd, er, out⟩ (agr hb9 0 hz0) rfl rfl⟩
end Go.Proofs.YthkpgfbjdabflaaGreatDoor
