/- Contracts of the document's turns and marks. -/
import Derived.Test.YtdlanihbpbfbcaaDoorHq
namespace Go.Proofs.YtdlanihbpbfbcaaDoor
open Go.RowKit
set_option linter.unusedVariables false
def xy : Nat → Nat × Nat
  | 0 => (1, 0)
  | t + 1 => ((xy t).2, (2 * (xy t).1 + 3 * (xy t).2) % 5)
def tr : Nat → Nat → Nat
  | 0 => fun _ => 0
  | t + 1 => upd (tr t) ((xy t).1 + 5 * (xy t).2) ((t + 1) * (t + 2) / 2 % 64)
theorem xy_lt : ∀ t, (xy t).1 < 5 ∧ (xy t).2 < 5
  | 0 => by decide
  | t + 1 => ⟨(xy_lt t).2, Nat.mod_lt _ (by decide)⟩
theorem tr_tn : ∀ i, i < 25 → tr 24 i = tn i := by decide
theorem tri : ∀ t : Nat, t < 24 → wrap64 (((t : Int) + 1) * ((t : Int) + 2)) = (((t + 1) * (t + 2) : Nat) : Int) ∧ (t + 1) * (t + 2) ≤ 600 := by decide +kernel
abbrev zi25 : Array Value := #[.int .i64 0, .int .i64 0, .int .i64 0, .int .i64 0, .int .i64 0, .int .i64 0, .int .i64 0, .int .i64 0, .int .i64 0, .int .i64 0, .int .i64 0, .int .i64 0, .int .i64 0, .int .i64 0, .int .i64 0, .int .i64 0, .int .i64 0, .int .i64 0, .int .i64 0, .int .i64 0, .int .i64 0, .int .i64 0, .int .i64 0, .int .i64 0, .int .i64 0]

set_option maxRecDepth 100000 in
set_option maxHeartbeats 4000000 in
theorem turns_any (w : World) : Calls Tryd.prog 31 #[] w fun e w' => e = .returned (.agg (ag .i64 25 tn)) ∧ Below w.heap.size w w' := by
  obtain ⟨h', hh⟩ : ∃ q, q = tn := ⟨_, rfl⟩
  rw [← hh]
  have HH : Hid _ := hh
  clear hh
  go_enter Tryd.func31, Tryd.ntmps31
  go_wp2
  go_loopw [2, 3, 4] (fun x y i w' => ∃ (t xn yn : Nat) (h : Nat → Nat), t ≤ 24 ∧ i = .int .i64 (t : Int) ∧ x = .int .i64 (xn : Int) ∧ y = .int .i64 (yn : Int) ∧ HasRow w' w.heap.size zi25 ∧ HasRow w' (w.heap.size + 1) (ag .i64 25 h) ∧ Below w.heap.size w w' ∧ (h = tr t ∧ xn = (xy t).1 ∧ yn = (xy t).2)) (fun _ _ i _ => 24 - (intOf i).toNat)
  case atStart =>
    exact ⟨0, 1, 0, fun _ => 0, Nat.zero_le _, rfl, rfl, rfl, HasRow.old (HasRow.last rfl), HasRow.last (by simp), by repeat (first | exact Below.refl _ _ | refine bel_alloc ?_ _), rfl, rfl, rfl⟩
  case round =>
    obtain ⟨t, xn, yn, h, ht, rfl, rfl, rfl, r1, r2, bel, hT⟩ := hrel
    have R1 : Hid (HasRow wr w.heap.size zi25) := r1
    have R2 : Hid (HasRow wr (w.heap.size + 1) (ag .i64 25 h)) := r2
    have BL : Hid (Below w.heap.size w wr) := bel
    have HT : Hid (h = tr t ∧ xn = (xy t).1 ∧ yn = (xy t).2) := hT
    have hx5 : xn < 5 := by have := (xy_lt t).1; rw [hT.2.1]; exact this
    have hy5 : yn < 5 := by have := (xy_lt t).2; rw [hT.2.2]; exact this
    clear hT r1 r2 bel
    by_cases hlt : t < 24
    · have HJ : Hid (t < 24 ∧ xn < 5 ∧ yn < 5) := ⟨hlt, hx5, hy5⟩
      have hd0 : (t : Int) < 24 := by omega
      obtain ⟨E, e600⟩ := tri t hlt
      obtain ⟨pp, hpp⟩ : ∃ q, q = (t + 1) * (t + 2) := ⟨_, rfl⟩
      rw [← hpp] at E e600
      have HP : Hid _ := hpp
      have i4 : (pp : Int) ≤ 600 := by omega
      clear hpp e600
      have i1 : (xn : Int) + 5 * (yn : Int) < 25 := by omega
      have i2 : (xn : Int) < 5 := by omega
      have i3 : (yn : Int) < 5 := by omega
      have HI : Hid (xn + 5 * yn < 25) := by show xn + 5 * yn < 25; omega
      have q1 := HasRow.at R2.out HI.out
      have q2 := HasRow.frozen R2.out (xn + 5 * yn)
      clear hlt ht hx5 hy5
      go_wp2
      go_roundw
      case rel =>
        obtain ⟨e1, e2, e3⟩ := HT.out
        refine ⟨t + 1, yn, (2 * xn + 3 * yn) % 5, _, HJ.out.1, by go_num, rfl, by go_num, ?_, ?_, ?_, rfl, ?_, ?_⟩
        · rw [HasRow.setCell R2.out]; exact R1.out.set_other _ (by omega)
        · rw [HasRow.setCell R2.out, show ((pp : Int) / 2 % 64) = ((pp / 2 % 64 : Nat) : Int) by omega, ag_set, e1, e2, e3, HP.out]; exact R2.out.set_same _
        · rw [HasRow.setCell R2.out]; exact below_setRow BL.out (by omega) _
        · rw [e3]; rfl
        · rw [e2, e3]; rfl
      case measure => simp [intOf]; have := HJ.out.1; omega
    · have hjn : t = 24 := by omega
      subst hjn
      have e : ag .i64 25 h = ag .i64 25 tn := ag_congr _ _ fun i hi => by rw [HT.out.1]; exact tr_tn i hi
      have R4 : Hid (HasRow wr (w.heap.size + 1) (ag .i64 25 h')) := by have := R2.out; rw [e, ← HH.out] at this; exact this
      clear HT R2 e hlt ht
      go_upto_region 11 with fail
      refine wp_region_lit ?_
      refine wpList_vload rfl 56 (.tmp 1) rfl (w.heap.size + 1) rfl .i64 25 h' R4.out Tryd.underlying56 (by kernel_rfl) ?_
      intro v hv
      have hsz := hv.size
      have hsc := run_storeCells_v (P := Tryd.prog) hv (g := w.heap.size) 56 (by kernel_rfl) (StoreTo.row R1.out (by rfl))
      clear hv
      go_wp2
      exact bodyPost_ret (v := .agg (ag .i64 25 h')) (results_cell1 (p := 0) (ty := 56) rfl (g := w.heap.size) rfl (HasRow.set_same R1.out (ag .i64 25 h')) (ag_size _ _ _) Tryd.underlying56 (by kernel_rfl)) rfl ⟨rfl, below_setRow BL.out (Nat.le_refl _) _⟩

def lf : Nat → Nat
  | 0 => 1
  | n + 1 => if 255 < lf n * 2 then (lf n * 2) ^^^ 369 else lf n * 2
def mw (i : Nat) : Nat → Nat
  | 0 => 0
  | j + 1 => if lf (7 * i + j) % 2 = 1 then mw i j ||| 2 ^ (2 ^ j - 1) else mw i j
theorem lf_lt : ∀ n, n < 169 → lf n < 256 := by decide +kernel
theorem mw_lt : ∀ i, i < 24 → ∀ j, j < 8 → mw i j < M := by decide +kernel
theorem mw_ki : ∀ i, i < 24 → mw i 7 = ki i := by decide +kernel
theorem xor369 : ∀ l : Nat, l < 256 → bits .xor .i64 ((l : Int) * 2) 369 = (((l * 2) ^^^ 369 : Nat) : Int) := by decide +kernel
/-- The row behind i rounds and j steps of the next. -/
structure KM (h : Nat → Nat) (i j l : Nat) : Prop where
  hv : ∀ q, q < 24 → h q = if q < i then mw q 7 else if q = i then mw i j else 0
  hl : l = lf (7 * i + j)
theorem KM.on {h : Nat → Nat} {i j l l' : Nat} (s : KM h i j l) (hi : i < 24) (h1 : l % 2 = 1) (h2 : l' = lf (7 * i + (j + 1))) : KM (upd h i (h i ||| 2 ^ (2 ^ j - 1))) i (j + 1) l' where
  hv q hq := by
    rw [upd_at]
    by_cases e : q = i
    · rw [if_pos e, if_neg (by omega), if_pos e, s.hv i hi, if_neg (by omega), if_pos rfl, mw, ← s.hl, if_pos h1]
    · rw [if_neg e, s.hv q hq, if_neg e, if_neg e]
  hl := h2
theorem KM.off {h : Nat → Nat} {i j l l' : Nat} (s : KM h i j l) (h1 : ¬ l % 2 = 1) (h2 : l' = lf (7 * i + (j + 1))) : KM h i (j + 1) l' where
  hv q hq := by
    have e : mw i (j + 1) = mw i j := by rw [mw, ← s.hl, if_neg h1]
    rw [s.hv q hq, e]
  hl := h2
theorem KM.next {h : Nat → Nat} {i l : Nat} (s : KM h i 7 l) : KM h (i + 1) 0 l where
  hv q hq := by
    rw [s.hv q hq]
    by_cases e : q < i
    · rw [if_pos e, if_pos (by omega)]
    · by_cases e2 : q = i
      · rw [if_neg e, if_pos e2, if_pos (by omega), e2]
      · rw [if_neg e, if_neg e2, if_neg (by omega)]
        by_cases e3 : q = i + 1
        · rw [if_pos e3]; rfl
        · rw [if_neg e3]
  hl := by rw [s.hl, show 7 * i + 7 = 7 * (i + 1) + 0 by omega]
abbrev z24 : Array Value := #[.int .u64 0, .int .u64 0, .int .u64 0, .int .u64 0, .int .u64 0, .int .u64 0, .int .u64 0, .int .u64 0, .int .u64 0, .int .u64 0, .int .u64 0, .int .u64 0, .int .u64 0, .int .u64 0, .int .u64 0, .int .u64 0, .int .u64 0, .int .u64 0, .int .u64 0, .int .u64 0, .int .u64 0, .int .u64 0, .int .u64 0, .int .u64 0]

set_option maxRecDepth 100000 in
set_option maxHeartbeats 4000000 in
theorem marks_any (w : World) : Calls Tryd.prog 32 #[] w fun e w' => e = .returned (.agg (ag .u64 24 ki)) ∧ Below w.heap.size w w' := by
  obtain ⟨h', hh⟩ : ∃ q, q = ki := ⟨_, rfl⟩
  rw [← hh]
  have HH : Hid _ := hh
  clear hh
  have S : Hid (KM (fun _ => 0) 0 0 1) := ⟨fun q _ => by simp [mw], rfl⟩
  go_enter Tryd.func32, Tryd.ntmps32
  go_wp2
  go_loopw [2, 3] (fun x y w' => ∃ (i l : Nat) (h : Nat → Nat), i ≤ 24 ∧ x = .int .i64 (l : Int) ∧ y = .int .i64 (i : Int) ∧ HasRow w' w.heap.size z24 ∧ HasRow w' (w.heap.size + 1) (ag .u64 24 h) ∧ Below w.heap.size w w' ∧ KM h i 0 l) (fun _ i _ => 24 - (intOf i).toNat)
  case atStart =>
    exact ⟨0, 1, fun _ => 0, Nat.zero_le _, rfl, rfl, HasRow.old (HasRow.last rfl), HasRow.last (by simp), by repeat (first | exact Below.refl _ _ | refine bel_alloc ?_ _), S.out⟩
  case round =>
    obtain ⟨i, l, h, hi, rfl, rfl, r1, r2, bel, hT⟩ := hrel
    have R1 : Hid (HasRow wr w.heap.size z24) := r1
    have R2 : Hid (HasRow wr (w.heap.size + 1) (ag .u64 24 h)) := r2
    have BL : Hid (Below w.heap.size w wr) := bel
    have HT : Hid (KM h i 0 l) := hT
    clear hT r1 r2 bel S
    by_cases hlt : i < 24
    · have HI : Hid (i < 24) := hlt
      have hd0 : (i : Int) < 24 := by omega
      clear hlt hi
      go_wp2
      go_loopw [2, 4] (fun x y w' => ∃ (j l : Nat) (h : Nat → Nat), j ≤ 7 ∧ x = .int .i64 (l : Int) ∧ y = .int .i64 (j : Int) ∧ HasRow w' w.heap.size z24 ∧ HasRow w' (w.heap.size + 1) (ag .u64 24 h) ∧ Below w.heap.size w w' ∧ KM h i j l) (fun _ i _ => 7 - (intOf i).toNat)
      case atStart =>
        exact ⟨0, l, h, Nat.zero_le _, rfl, rfl, R1.out, R2.out, BL.out, HT.out⟩
      case round =>
        clear R1 R2 BL HT
        obtain ⟨j, l, h, hj, rfl, rfl, r1, r2, bel, hT⟩ := hrel
        have R1 : Hid (HasRow wr w.heap.size z24) := r1
        have R2 : Hid (HasRow wr (w.heap.size + 1) (ag .u64 24 h)) := r2
        have BL : Hid (Below w.heap.size w wr) := bel
        have HT : Hid (KM h i j l) := hT
        clear hT r1 r2 bel
        by_cases hlt : j < 7
        · have l256 : l < 256 := by have := HI.out; rw [HT.out.hl]; exact lf_lt _ (by omega)
          have q1 := HasRow.at R2.out HI.out
          have q2 := HasRow.frozen R2.out i
          have E3 : Hid _ := xor369 l l256
          have lj : (l : Int) < 256 := by omega
          have MM : Hid (h i < M) := by
            have := mw_lt i HI.out j (by omega)
            rw [show mw i j = h i by rw [HT.out.hv i HI.out, if_neg (by omega), if_pos rfl]] at this; exact this
          have fin : ∀ l', l' = (if 255 < l * 2 then (l * 2) ^^^ 369 else l * 2) → l' = lf (7 * i + (j + 1)) := by
            intro l' e; rw [e, HT.out.hl]; rfl
          have FIN : Hid _ := fin
          clear fin l256 hj
          have hcase : j = 0 ∨ j = 1 ∨ j = 2 ∨ j = 3 ∨ j = 4 ∨ j = 5 ∨ j = 6 := by omega
          clear hlt
          by_cases hb : l % 2 = 1
          · have hb1 : (l : Int) % 2 = 1 := by omega
            have HB : Hid (l % 2 = 1) := hb
            clear hb
            by_cases ho : 255 < l * 2
            · have ho1 : (255 : Int) < (l : Int) * 2 := by omega
              have HO : Hid (255 < l * 2) := ho
              clear ho
              rcases hcase with rfl | rfl | rfl | rfl | rfl | rfl | rfl
              · go_wp2
                rw [E3.out]
                go_roundw
                case rel =>
                  refine ⟨1, _, _, by decide, rfl, rfl, ?_, ?_, ?_, HT.out.on HI.out HB.out (FIN.out _ (by rw [if_pos HO.out]))⟩
                  · rw [HasRow.setCell R2.out]; exact R1.out.set_other _ (by omega)
                  · rw [HasRow.setCell R2.out]
                    have eo := bits_or (h i) (2 ^ (2 ^ 0 - 1)) MM.out (by decide)
                    have ez := ag_set .u64 24 h i (h i ||| 2 ^ (2 ^ 0 - 1))
                    rw [← eo] at ez
                    rw [← ez]; exact R2.out.set_same _
                  · rw [HasRow.setCell R2.out]; exact below_setRow BL.out (by omega) _
                case measure => simp [intOf]
              · go_wp2
                rw [E3.out]
                go_roundw
                case rel =>
                  refine ⟨2, _, _, by decide, rfl, rfl, ?_, ?_, ?_, HT.out.on HI.out HB.out (FIN.out _ (by rw [if_pos HO.out]))⟩
                  · rw [HasRow.setCell R2.out]; exact R1.out.set_other _ (by omega)
                  · rw [HasRow.setCell R2.out]
                    have eo := bits_or (h i) (2 ^ (2 ^ 1 - 1)) MM.out (by decide)
                    have ez := ag_set .u64 24 h i (h i ||| 2 ^ (2 ^ 1 - 1))
                    rw [← eo] at ez
                    rw [← ez]; exact R2.out.set_same _
                  · rw [HasRow.setCell R2.out]; exact below_setRow BL.out (by omega) _
                case measure => simp [intOf]
              · go_wp2
                rw [E3.out]
                go_roundw
                case rel =>
                  refine ⟨3, _, _, by decide, rfl, rfl, ?_, ?_, ?_, HT.out.on HI.out HB.out (FIN.out _ (by rw [if_pos HO.out]))⟩
                  · rw [HasRow.setCell R2.out]; exact R1.out.set_other _ (by omega)
                  · rw [HasRow.setCell R2.out]
                    have eo := bits_or (h i) (2 ^ (2 ^ 2 - 1)) MM.out (by decide)
                    have ez := ag_set .u64 24 h i (h i ||| 2 ^ (2 ^ 2 - 1))
                    rw [← eo] at ez
                    rw [← ez]; exact R2.out.set_same _
                  · rw [HasRow.setCell R2.out]; exact below_setRow BL.out (by omega) _
                case measure => simp [intOf]
              · go_wp2
                rw [E3.out]
                go_roundw
                case rel =>
                  refine ⟨4, _, _, by decide, rfl, rfl, ?_, ?_, ?_, HT.out.on HI.out HB.out (FIN.out _ (by rw [if_pos HO.out]))⟩
                  · rw [HasRow.setCell R2.out]; exact R1.out.set_other _ (by omega)
                  · rw [HasRow.setCell R2.out]
                    have eo := bits_or (h i) (2 ^ (2 ^ 3 - 1)) MM.out (by decide)
                    have ez := ag_set .u64 24 h i (h i ||| 2 ^ (2 ^ 3 - 1))
                    rw [← eo] at ez
                    rw [← ez]; exact R2.out.set_same _
                  · rw [HasRow.setCell R2.out]; exact below_setRow BL.out (by omega) _
                case measure => simp [intOf]
              · go_wp2
                rw [E3.out]
                go_roundw
                case rel =>
                  refine ⟨5, _, _, by decide, rfl, rfl, ?_, ?_, ?_, HT.out.on HI.out HB.out (FIN.out _ (by rw [if_pos HO.out]))⟩
                  · rw [HasRow.setCell R2.out]; exact R1.out.set_other _ (by omega)
                  · rw [HasRow.setCell R2.out]
                    have eo := bits_or (h i) (2 ^ (2 ^ 4 - 1)) MM.out (by decide)
                    have ez := ag_set .u64 24 h i (h i ||| 2 ^ (2 ^ 4 - 1))
                    rw [← eo] at ez
                    rw [← ez]; exact R2.out.set_same _
                  · rw [HasRow.setCell R2.out]; exact below_setRow BL.out (by omega) _
                case measure => simp [intOf]
              · go_wp2
                rw [E3.out]
                go_roundw
                case rel =>
                  refine ⟨6, _, _, by decide, rfl, rfl, ?_, ?_, ?_, HT.out.on HI.out HB.out (FIN.out _ (by rw [if_pos HO.out]))⟩
                  · rw [HasRow.setCell R2.out]; exact R1.out.set_other _ (by omega)
                  · rw [HasRow.setCell R2.out]
                    have eo := bits_or (h i) (2 ^ (2 ^ 5 - 1)) MM.out (by decide)
                    have ez := ag_set .u64 24 h i (h i ||| 2 ^ (2 ^ 5 - 1))
                    rw [← eo] at ez
                    rw [← ez]; exact R2.out.set_same _
                  · rw [HasRow.setCell R2.out]; exact below_setRow BL.out (by omega) _
                case measure => simp [intOf]
              · go_wp2
                rw [E3.out]
                go_roundw
                case rel =>
                  refine ⟨7, _, _, by decide, rfl, rfl, ?_, ?_, ?_, HT.out.on HI.out HB.out (FIN.out _ (by rw [if_pos HO.out]))⟩
                  · rw [HasRow.setCell R2.out]; exact R1.out.set_other _ (by omega)
                  · rw [HasRow.setCell R2.out]
                    have eo := bits_or (h i) (2 ^ (2 ^ 6 - 1)) MM.out (by decide)
                    have ez := ag_set .u64 24 h i (h i ||| 2 ^ (2 ^ 6 - 1))
                    rw [← eo] at ez
                    rw [← ez]; exact R2.out.set_same _
                  · rw [HasRow.setCell R2.out]; exact below_setRow BL.out (by omega) _
                case measure => simp [intOf]
            · have ho1 : ¬ (255 : Int) < (l : Int) * 2 := by omega
              have HO : Hid (¬ 255 < l * 2) := ho
              clear ho
              rcases hcase with rfl | rfl | rfl | rfl | rfl | rfl | rfl
              · go_wp2
                go_roundw
                case rel =>
                  refine ⟨1, _, _, by decide, (by go_num : _ = Value.int .i64 ((l * 2 : Nat) : Int)), rfl, ?_, ?_, ?_, HT.out.on HI.out HB.out (FIN.out _ (by rw [if_neg HO.out]))⟩
                  · rw [HasRow.setCell R2.out]; exact R1.out.set_other _ (by omega)
                  · rw [HasRow.setCell R2.out]
                    have eo := bits_or (h i) (2 ^ (2 ^ 0 - 1)) MM.out (by decide)
                    have ez := ag_set .u64 24 h i (h i ||| 2 ^ (2 ^ 0 - 1))
                    rw [← eo] at ez
                    rw [← ez]; exact R2.out.set_same _
                  · rw [HasRow.setCell R2.out]; exact below_setRow BL.out (by omega) _
                case measure => simp [intOf]
              · go_wp2
                go_roundw
                case rel =>
                  refine ⟨2, _, _, by decide, (by go_num : _ = Value.int .i64 ((l * 2 : Nat) : Int)), rfl, ?_, ?_, ?_, HT.out.on HI.out HB.out (FIN.out _ (by rw [if_neg HO.out]))⟩
                  · rw [HasRow.setCell R2.out]; exact R1.out.set_other _ (by omega)
                  · rw [HasRow.setCell R2.out]
                    have eo := bits_or (h i) (2 ^ (2 ^ 1 - 1)) MM.out (by decide)
                    have ez := ag_set .u64 24 h i (h i ||| 2 ^ (2 ^ 1 - 1))
                    rw [← eo] at ez
                    rw [← ez]; exact R2.out.set_same _
                  · rw [HasRow.setCell R2.out]; exact below_setRow BL.out (by omega) _
                case measure => simp [intOf]
              · go_wp2
                go_roundw
                case rel =>
                  refine ⟨3, _, _, by decide, (by go_num : _ = Value.int .i64 ((l * 2 : Nat) : Int)), rfl, ?_, ?_, ?_, HT.out.on HI.out HB.out (FIN.out _ (by rw [if_neg HO.out]))⟩
                  · rw [HasRow.setCell R2.out]; exact R1.out.set_other _ (by omega)
                  · rw [HasRow.setCell R2.out]
                    have eo := bits_or (h i) (2 ^ (2 ^ 2 - 1)) MM.out (by decide)
                    have ez := ag_set .u64 24 h i (h i ||| 2 ^ (2 ^ 2 - 1))
                    rw [← eo] at ez
                    rw [← ez]; exact R2.out.set_same _
                  · rw [HasRow.setCell R2.out]; exact below_setRow BL.out (by omega) _
                case measure => simp [intOf]
              · go_wp2
                go_roundw
                case rel =>
                  refine ⟨4, _, _, by decide, (by go_num : _ = Value.int .i64 ((l * 2 : Nat) : Int)), rfl, ?_, ?_, ?_, HT.out.on HI.out HB.out (FIN.out _ (by rw [if_neg HO.out]))⟩
                  · rw [HasRow.setCell R2.out]; exact R1.out.set_other _ (by omega)
                  · rw [HasRow.setCell R2.out]
                    have eo := bits_or (h i) (2 ^ (2 ^ 3 - 1)) MM.out (by decide)
                    have ez := ag_set .u64 24 h i (h i ||| 2 ^ (2 ^ 3 - 1))
                    rw [← eo] at ez
                    rw [← ez]; exact R2.out.set_same _
                  · rw [HasRow.setCell R2.out]; exact below_setRow BL.out (by omega) _
                case measure => simp [intOf]
              · go_wp2
                go_roundw
                case rel =>
                  refine ⟨5, _, _, by decide, (by go_num : _ = Value.int .i64 ((l * 2 : Nat) : Int)), rfl, ?_, ?_, ?_, HT.out.on HI.out HB.out (FIN.out _ (by rw [if_neg HO.out]))⟩
                  · rw [HasRow.setCell R2.out]; exact R1.out.set_other _ (by omega)
                  · rw [HasRow.setCell R2.out]
                    have eo := bits_or (h i) (2 ^ (2 ^ 4 - 1)) MM.out (by decide)
                    have ez := ag_set .u64 24 h i (h i ||| 2 ^ (2 ^ 4 - 1))
                    rw [← eo] at ez
                    rw [← ez]; exact R2.out.set_same _
                  · rw [HasRow.setCell R2.out]; exact below_setRow BL.out (by omega) _
                case measure => simp [intOf]
              · go_wp2
                go_roundw
                case rel =>
                  refine ⟨6, _, _, by decide, (by go_num : _ = Value.int .i64 ((l * 2 : Nat) : Int)), rfl, ?_, ?_, ?_, HT.out.on HI.out HB.out (FIN.out _ (by rw [if_neg HO.out]))⟩
                  · rw [HasRow.setCell R2.out]; exact R1.out.set_other _ (by omega)
                  · rw [HasRow.setCell R2.out]
                    have eo := bits_or (h i) (2 ^ (2 ^ 5 - 1)) MM.out (by decide)
                    have ez := ag_set .u64 24 h i (h i ||| 2 ^ (2 ^ 5 - 1))
                    rw [← eo] at ez
                    rw [← ez]; exact R2.out.set_same _
                  · rw [HasRow.setCell R2.out]; exact below_setRow BL.out (by omega) _
                case measure => simp [intOf]
              · go_wp2
                go_roundw
                case rel =>
                  refine ⟨7, _, _, by decide, (by go_num : _ = Value.int .i64 ((l * 2 : Nat) : Int)), rfl, ?_, ?_, ?_, HT.out.on HI.out HB.out (FIN.out _ (by rw [if_neg HO.out]))⟩
                  · rw [HasRow.setCell R2.out]; exact R1.out.set_other _ (by omega)
                  · rw [HasRow.setCell R2.out]
                    have eo := bits_or (h i) (2 ^ (2 ^ 6 - 1)) MM.out (by decide)
                    have ez := ag_set .u64 24 h i (h i ||| 2 ^ (2 ^ 6 - 1))
                    rw [← eo] at ez
                    rw [← ez]; exact R2.out.set_same _
                  · rw [HasRow.setCell R2.out]; exact below_setRow BL.out (by omega) _
                case measure => simp [intOf]
          · have hb1 : (l : Int) % 2 = 0 := by omega
            have HB : Hid (¬ l % 2 = 1) := hb
            clear hb
            by_cases ho : 255 < l * 2
            · have ho1 : (255 : Int) < (l : Int) * 2 := by omega
              have HO : Hid (255 < l * 2) := ho
              clear ho
              rcases hcase with rfl | rfl | rfl | rfl | rfl | rfl | rfl
              · go_wp2
                rw [E3.out]
                go_roundw
                case rel =>
                  refine ⟨1, _, _, by decide, rfl, rfl, ?_, ?_, ?_, HT.out.off HB.out (FIN.out _ (by rw [if_pos HO.out]))⟩
                  · exact R1.out
                  · exact R2.out
                  · exact BL.out
                case measure => simp [intOf]
              · go_wp2
                rw [E3.out]
                go_roundw
                case rel =>
                  refine ⟨2, _, _, by decide, rfl, rfl, ?_, ?_, ?_, HT.out.off HB.out (FIN.out _ (by rw [if_pos HO.out]))⟩
                  · exact R1.out
                  · exact R2.out
                  · exact BL.out
                case measure => simp [intOf]
              · go_wp2
                rw [E3.out]
                go_roundw
                case rel =>
                  refine ⟨3, _, _, by decide, rfl, rfl, ?_, ?_, ?_, HT.out.off HB.out (FIN.out _ (by rw [if_pos HO.out]))⟩
                  · exact R1.out
                  · exact R2.out
                  · exact BL.out
                case measure => simp [intOf]
              · go_wp2
                rw [E3.out]
                go_roundw
                case rel =>
                  refine ⟨4, _, _, by decide, rfl, rfl, ?_, ?_, ?_, HT.out.off HB.out (FIN.out _ (by rw [if_pos HO.out]))⟩
                  · exact R1.out
                  · exact R2.out
                  · exact BL.out
                case measure => simp [intOf]
              · go_wp2
                rw [E3.out]
                go_roundw
                case rel =>
                  refine ⟨5, _, _, by decide, rfl, rfl, ?_, ?_, ?_, HT.out.off HB.out (FIN.out _ (by rw [if_pos HO.out]))⟩
                  · exact R1.out
                  · exact R2.out
                  · exact BL.out
                case measure => simp [intOf]
              · go_wp2
                rw [E3.out]
                go_roundw
                case rel =>
                  refine ⟨6, _, _, by decide, rfl, rfl, ?_, ?_, ?_, HT.out.off HB.out (FIN.out _ (by rw [if_pos HO.out]))⟩
                  · exact R1.out
                  · exact R2.out
                  · exact BL.out
                case measure => simp [intOf]
              · go_wp2
                rw [E3.out]
                go_roundw
                case rel =>
                  refine ⟨7, _, _, by decide, rfl, rfl, ?_, ?_, ?_, HT.out.off HB.out (FIN.out _ (by rw [if_pos HO.out]))⟩
                  · exact R1.out
                  · exact R2.out
                  · exact BL.out
                case measure => simp [intOf]
            · have ho1 : ¬ (255 : Int) < (l : Int) * 2 := by omega
              have HO : Hid (¬ 255 < l * 2) := ho
              clear ho
              rcases hcase with rfl | rfl | rfl | rfl | rfl | rfl | rfl
              · go_wp2
                go_roundw
                case rel =>
                  refine ⟨1, _, _, by decide, (by go_num : _ = Value.int .i64 ((l * 2 : Nat) : Int)), rfl, ?_, ?_, ?_, HT.out.off HB.out (FIN.out _ (by rw [if_neg HO.out]))⟩
                  · exact R1.out
                  · exact R2.out
                  · exact BL.out
                case measure => simp [intOf]
              · go_wp2
                go_roundw
                case rel =>
                  refine ⟨2, _, _, by decide, (by go_num : _ = Value.int .i64 ((l * 2 : Nat) : Int)), rfl, ?_, ?_, ?_, HT.out.off HB.out (FIN.out _ (by rw [if_neg HO.out]))⟩
                  · exact R1.out
                  · exact R2.out
                  · exact BL.out
                case measure => simp [intOf]
              · go_wp2
                go_roundw
                case rel =>
                  refine ⟨3, _, _, by decide, (by go_num : _ = Value.int .i64 ((l * 2 : Nat) : Int)), rfl, ?_, ?_, ?_, HT.out.off HB.out (FIN.out _ (by rw [if_neg HO.out]))⟩
                  · exact R1.out
                  · exact R2.out
                  · exact BL.out
                case measure => simp [intOf]
              · go_wp2
                go_roundw
                case rel =>
                  refine ⟨4, _, _, by decide, (by go_num : _ = Value.int .i64 ((l * 2 : Nat) : Int)), rfl, ?_, ?_, ?_, HT.out.off HB.out (FIN.out _ (by rw [if_neg HO.out]))⟩
                  · exact R1.out
                  · exact R2.out
                  · exact BL.out
                case measure => simp [intOf]
              · go_wp2
                go_roundw
                case rel =>
                  refine ⟨5, _, _, by decide, (by go_num : _ = Value.int .i64 ((l * 2 : Nat) : Int)), rfl, ?_, ?_, ?_, HT.out.off HB.out (FIN.out _ (by rw [if_neg HO.out]))⟩
                  · exact R1.out
                  · exact R2.out
                  · exact BL.out
                case measure => simp [intOf]
              · go_wp2
                go_roundw
                case rel =>
                  refine ⟨6, _, _, by decide, (by go_num : _ = Value.int .i64 ((l * 2 : Nat) : Int)), rfl, ?_, ?_, ?_, HT.out.off HB.out (FIN.out _ (by rw [if_neg HO.out]))⟩
                  · exact R1.out
                  · exact R2.out
                  · exact BL.out
                case measure => simp [intOf]
              · go_wp2
                go_roundw
                case rel =>
                  refine ⟨7, _, _, by decide, (by go_num : _ = Value.int .i64 ((l * 2 : Nat) : Int)), rfl, ?_, ?_, ?_, HT.out.off HB.out (FIN.out _ (by rw [if_neg HO.out]))⟩
                  · exact R1.out
                  · exact R2.out
                  · exact BL.out
                case measure => simp [intOf]
        · have hj7 : j = 7 := by omega
          subst hj7
          clear hj hlt
          go_wp2
          go_roundw
          case rel =>
            exact ⟨i + 1, l, h, HI.out, rfl, by go_num, R1.out, R2.out, BL.out, HT.out.next⟩
          case measure => simp [intOf]; have := HI.out; omega
    · have hi24 : i = 24 := by omega
      subst hi24
      have e : ag .u64 24 h = ag .u64 24 ki := ag_congr _ _ fun q hq => by rw [HT.out.hv q hq, if_pos hq]; exact mw_ki q hq
      have R4 : Hid (HasRow wr (w.heap.size + 1) (ag .u64 24 h')) := by have := R2.out; rw [e, ← HH.out] at this; exact this
      clear HT R2 e hlt hi
      go_upto_region 14 with fail
      refine wp_region_lit ?_
      refine wpList_vload rfl 54 (.tmp 1) rfl (w.heap.size + 1) rfl .u64 24 h' R4.out Tryd.underlying54 (by kernel_rfl) ?_
      intro v hv
      have hsz := hv.size
      have hsc := run_storeCells_v (P := Tryd.prog) hv (g := w.heap.size) 54 (by kernel_rfl) (StoreTo.row R1.out (by rfl))
      clear hv
      go_wp2
      exact bodyPost_ret (v := .agg (ag .u64 24 h')) (results_cell1 (p := 0) (ty := 54) rfl (g := w.heap.size) rfl (HasRow.set_same R1.out (ag .u64 24 h')) (ag_size _ _ _) Tryd.underlying54 (by kernel_rfl)) rfl ⟨rfl, below_setRow BL.out (Nat.le_refl _) _⟩
end Go.Proofs.YtdlanihbpbfbcaaDoor
