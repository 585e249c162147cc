/- Contract of the document's Permute. -/
import Derived.Test.YtdlanihbpbfbcaaDoorHt
namespace Go.Proofs.YtdlanihbpbfbcaaDoor
open Go.RowKit
set_option linter.unusedVariables false
theorem turn_bel (x k : Nat) (hx : x < M) (hk : k < 64) (w : World) : Calls Tryd.prog 33 #[B x, .int .i64 (k : Int)] w fun e w' => e = .returned (B (rt x k)) ∧ Below w.heap.size w w' :=
  (turn_any x k hx hk w).mono fun e w' ⟨he, hw⟩ => ⟨he, hw ▸ Below.refl _ _⟩
theorem turn_one (x : Nat) (hx : x < M) (w : World) : Calls Tryd.prog 33 #[B x, .int .i64 1] w fun e w' => e = .returned (B (rt x 1)) ∧ Below w.heap.size w w' := turn_bel x 1 hx (by decide) w
theorem Calls.v0 {fn : Nat} {g : Nat → Nat} {k : IntKind} {n : Nat} {w : World} (h : Calls Tryd.prog fn #[] w fun e w' => e = .returned (.agg (ag k n g)) ∧ Below w.heap.size w w') :
    Calls Tryd.prog fn #[] w fun e w' => (∃ c', e = .returned (.agg c') ∧ IsRow c' k n g) ∧ Below w.heap.size w w' :=
  h.mono fun e w' ⟨he, hb⟩ => ⟨⟨_, he, ⟨rfl⟩⟩, hb⟩
/-- What lies in memory all along: the parts, the result's place, the two tables. -/
structure DP (w w' : World) (h : Nat → Nat) (b3 b4 : Nat) : Prop where
  a : HasRow w' w.heap.size (ag .u64 25 h)
  o : HasRow w' (w.heap.size + 1) z25
  r : HasRow w' b3 (ag .i64 25 tn)
  k : HasRow w' b4 (ag .u64 24 ki)
  b : Below w.heap.size w w'
  l3 : w.heap.size + 1 < b3
  l4 : w.heap.size + 1 < b4
theorem DP.below {w w' w'' : World} {h : Nat → Nat} {b3 b4 : Nat} (s : DP w w' h b3 b4) (hb : Below w'.heap.size w' w'') : DP w w'' h b3 b4 :=
  ⟨s.a.below hb, s.o.below hb, s.r.below hb, s.k.below hb, s.b.trans (hb.mono s.b.size), s.l3, s.l4⟩
theorem DP.alloc {w w' : World} {h : Nat → Nat} {b3 b4 : Nat} (s : DP w w' h b3 b4) (o : Obj) : DP w (w'.alloc o) h b3 b4 :=
  s.below (bel_alloc (Below.refl _ _) _)
theorem DP.other {w w' : World} {h : Nat → Nat} {b3 b4 g : Nat} (s : DP w w' h b3 b4) {c : Array Value} (h1 : w.heap.size + 1 < g) (h3 : g ≠ b3) (h4 : g ≠ b4) : DP w (w'.setRow g c) h b3 b4 :=
  ⟨s.a.set_other _ (by omega), s.o.set_other _ (by omega), s.r.set_other _ h3, s.k.set_other _ h4, below_setRow s.b (by omega) _, s.l3, s.l4⟩
theorem DP.put {w w' : World} {h : Nat → Nat} {b3 b4 : Nat} (s : DP w w' h b3 b4) (g : Nat → Nat) : DP w (w'.setRow w.heap.size (ag .u64 25 g)) g b3 b4 :=
  ⟨s.a.set_same _, s.o.set_other _ (by omega), s.r.set_other _ (by have := s.l3; omega), s.k.set_other _ (by have := s.l4; omega), below_setRow s.b (Nat.le_refl _) _, s.l3, s.l4⟩

theorem pl_xy : ∀ x, x < 5 → ∀ y, y < 5 → y + 5 * ((2 * x + 3 * y) % 5) = pl (x + 5 * y) := by decide
/-- What is laid behind x columns and y parts of the next. -/
structure RQ (f h : Nat → Nat) (x y : Nat) : Prop where
  hv : ∀ i, i < 25 → h i = if src i % 5 < x ∨ (src i % 5 = x ∧ src i / 5 < y) then rho (theta f) i else 0
theorem RQ.step {f h : Nat → Nat} {x y : Nat} (hx : x < 5) (hy : y < 5) (s : RQ f h x y) : RQ f (upd h (y + 5 * ((2 * x + 3 * y) % 5)) (rt (f (x + 5 * y) ^^^ dd f x) (tn (x + 5 * y)))) x (y + 1) where
  hv i hi := by
    rw [upd_at, pl_xy x hx y hy]
    have key := src_pl (x + 5 * y) (by omega) i hi
    by_cases e : i = pl (x + 5 * y)
    · have e2 := key.1 e
      rw [if_pos e, if_pos (by omega)]
      unfold rho theta
      rw [e2, show (x + 5 * y) % 5 = x by omega]
    · have e2 : ¬ src i = x + 5 * y := fun h => e (key.2 h)
      rw [if_neg e, s.hv i hi]
      by_cases hl : src i % 5 < x ∨ (src i % 5 = x ∧ src i / 5 < y)
      · rw [if_pos hl, if_pos (by omega)]
      · rw [if_neg hl, if_neg (by omega)]
theorem RQ.next {f h : Nat → Nat} {x : Nat} (s : RQ f h x 5) : RQ f h (x + 1) 0 where
  hv i hi := by
    have := src_lt i hi
    rw [s.hv i hi]
    by_cases hl : src i % 5 < x ∨ (src i % 5 = x ∧ src i / 5 < 5)
    · rw [if_pos hl, if_pos (by omega)]
    · rw [if_neg hl, if_neg (by omega)]
/-- What the parts are behind x columns and y parts of the next. -/
structure AC (f g h : Nat → Nat) (x y : Nat) : Prop where
  hv : ∀ i, i < 25 → h i = if i % 5 < x ∨ (i % 5 = x ∧ i / 5 < y) then chi g i else f i
theorem AC.step {f g h : Nat → Nat} {x y : Nat} (hx : x < 5) (hy : y < 5) (s : AC f g h x y) : AC f g (upd h (x + 5 * y) (g (x + 5 * y) ^^^ nt (g ((x + 1) % 5 + 5 * y)) (g ((x + 2) % 5 + 5 * y)))) x (y + 1) where
  hv i hi := by
    rw [upd_at]
    by_cases e : i = x + 5 * y
    · rw [if_pos e, if_pos (by omega)]
      unfold chi
      rw [show n1 i = (x + 1) % 5 + 5 * y by unfold n1; omega, show n2 i = (x + 2) % 5 + 5 * y by unfold n2; omega, e]
    · rw [if_neg e, s.hv i hi]
      by_cases hl : i % 5 < x ∨ (i % 5 = x ∧ i / 5 < y)
      · rw [if_pos hl, if_pos (by omega)]
      · rw [if_neg hl, if_neg (by omega)]
theorem AC.next {f g h : Nat → Nat} {x : Nat} (s : AC f g h x 5) : AC f g h (x + 1) 0 where
  hv i hi := by
    rw [s.hv i hi]
    by_cases hl : i % 5 < x ∨ (i % 5 = x ∧ i / 5 < 5)
    · rw [if_pos hl, if_pos (by omega)]
    · rw [if_neg hl, if_neg (by omega)]
theorem not_int (a n c : Nat) (ha : a < M) (hn : n < M) (hc : c < M) : bits .xor .u64 (a : Int) (bits .and .u64 (18446744073709551615 - (n : Int)) (c : Int)) = ((a ^^^ nt n c : Nat) : Int) := by
  have e : (18446744073709551615 - (n : Int)) = ((M - 1 - n : Nat) : Int) := by unfold M at *; omega
  rw [e, bits_and _ _ (by unfold M at *; omega) hc, Nat.and_comm]
  exact bits_xor a (nt n c) ha (nt_lt hc)

set_option maxRecDepth 100000 in
set_option maxHeartbeats 4000000 in
theorem rpermute_any (f : Nat → Nat) (hf : P25 f) (w : World) : Calls Tryd.prog 24 #[A25 f] w fun e w' => e = .returned (A25 (prm f 24)) ∧ Below w.heap.size w w' := by
  obtain ⟨h', hh⟩ : ∃ q, q = prm f 24 := ⟨_, rfl⟩
  rw [← hh]
  have HH : Hid _ := hh
  clear hh
  have G : Hid (P25 f) := hf
  clear hf
  go_enter Tryd.func24, Tryd.ntmps24
  go_upto_region 1 with fail
  refine name_world _ ?_
  intro w0 hw0
  have K1 : Hid (HasRow w0 w.heap.size (ag .u64 25 f) ∧ HasRow w0 (w.heap.size + 1) z25 ∧ Below w.heap.size w w0 ∧ w0.heap.size = w.heap.size + 1 + 1) := by
    show _ ∧ _
    rw [hw0]
    exact ⟨HasRow.old (HasRow.last rfl), HasRow.last (by simp), by repeat (first | exact Below.refl _ _ | refine bel_alloc ?_ _), by simp⟩
  clear hw0
  go_wp2_with fail
  refine (Calls.v0 (turns_any _)).mono ?_
  rintro e w1 ⟨⟨c1, rfl, hc1⟩, hb1⟩
  have C1 : Hid _ := hc1
  have B1 : Hid (Below w0.heap.size w0 w1) := hb1
  have hsz1 := hc1.size
  clear hc1 hb1
  have hs1 := run_storeCells_v (P := Tryd.prog) C1.out (g := w1.heap.size) 56 (by kernel_rfl) (StoreTo.last (w := w1) (c := zi25) (t := 56) rfl (by rfl))
  go_wp2_with fail
  refine (Calls.v0 (marks_any _)).mono ?_
  rintro e w2 ⟨⟨c2, rfl, hc2⟩, hb2⟩
  have hsz2 := hc2.size
  have hs2 := run_storeCells_v (P := Tryd.prog) hc2 (g := w2.heap.size) 54 (by kernel_rfl) (StoreTo.last (w := w2) (c := z24) (t := 54) rfl (by rfl))
  have D2 : Hid (DP w (w2.alloc (Obj.cells (ag .u64 24 ki) 54)) f w1.heap.size w2.heap.size) := by
    obtain ⟨k1, k2, k3, k4⟩ := K1.out
    have b1 := B1.out
    have z1 := b1.size
    have z2 := hb2.size
    simp only [World.size_alloc] at z2
    have t1 : Below w0.heap.size w0 (w1.alloc (Obj.cells (ag .i64 25 tn) 56)) := bel_alloc b1 _
    have t2 : Below w0.heap.size w0 (w2.alloc (Obj.cells (ag .u64 24 ki) 54)) := bel_alloc (t1.trans (hb2.mono t1.size)) _
    exact ⟨k1.below t2, k2.below t2, HasRow.old ((HasRow.last rfl).below hb2), HasRow.last rfl, k3.trans (t2.mono k3.size), by omega, by omega⟩
  have LB : Hid (w1.heap.size < w2.heap.size) := by
    have z2 := hb2.size
    simp only [World.size_alloc] at z2
    show w1.heap.size < w2.heap.size
    omega
  clear hc2 hb2 K1 B1 C1
  go_upto_region 3 with fail
  clear hs1 hs2 hsz1 hsz2
  generalize (w2.alloc (Obj.cells (ag .u64 24 ki) 54)) = w3 at *
  generalize w1.heap.size = b3 at *
  generalize w2.heap.size = b4 at *
  go_wp2
  go_loopw [5] (fun i w' => ∃ (j : Nat) (h : Nat → Nat), j ≤ 24 ∧ i = .int .i64 (j : Int) ∧ DP w w' h b3 b4 ∧ h = prm f j) (fun i _ => 24 - (intOf i).toNat)
  case atStart =>
    exact ⟨0, f, Nat.zero_le _, rfl, D2.out, rfl⟩
  case round =>
    clear D2
    obtain ⟨j, h, hj, rfl, dp, hT⟩ := hrel
    have D : Hid (DP w wr h b3 b4) := dp
    have HT : Hid (h = prm f j) := hT
    clear hT dp
    by_cases hlt : j < 24
    · have HJ : Hid (j < 24) := hlt
      have hd0 : (j : Int) < 24 := by omega
      have L : Hid (P25 h) := by have := prm_lt G.out j (by omega); rw [← HT.out] at this; exact this
      clear hlt hj
      go_upto_region 7 with fail
      have DA : Hid (DP w (wr.alloc (Obj.cells z5 59)) h b3 b4 ∧ HasRow (wr.alloc (Obj.cells z5 59)) wr.heap.size (ag .u64 5 (fun _ => 0)) ∧ w.heap.size + 1 < wr.heap.size ∧ wr.heap.size ≠ b3 ∧ wr.heap.size ≠ b4) :=
        ⟨D.out.alloc _, HasRow.last rfl, by have := D.out.r.lt; have := D.out.l3; omega, by have := D.out.r.lt; omega, by have := D.out.k.lt; omega⟩
      generalize (wr.alloc (Obj.cells z5 59)) = w4 at *
      generalize wr.heap.size = b6 at *
      clear D
      go_wp2
      have S2 : Hid (CL h (fun _ => 0) 0) := ⟨fun i _ => by simp⟩
      go_loopw [7] (fun i w' => ∃ (x : Nat) (hc : Nat → Nat), x ≤ 5 ∧ i = .int .i64 (x : Int) ∧ DP w w' h b3 b4 ∧ HasRow w' b6 (ag .u64 5 hc) ∧ CL h hc x) (fun i _ => 5 - (intOf i).toNat)
      case atStart =>
        exact ⟨0, _, Nat.zero_le _, rfl, DA.out.1, DA.out.2.1, S2.out⟩
      case round =>
        obtain ⟨x, hc, hx, rfl, dp, r6, hT⟩ := hrel
        have D : Hid (DP w wr h b3 b4) := dp
        have R6 : Hid (HasRow wr b6 (ag .u64 5 hc)) := r6
        have HC : Hid (CL h hc x) := hT
        have NB : Hid (w.heap.size + 1 < b6 ∧ b6 ≠ b3 ∧ b6 ≠ b4) := DA.out.2.2
        clear hT dp r6 S2 DA
        by_cases hlt : x < 5
        · have HX : Hid (x < 5) := hlt
          have i0 : (x : Int) < 5 := by omega
          have i1 : (x : Int) + 20 < 25 := by omega
          have d1 := cell_regrown (HasRow.at D.out.a (show x < 25 by omega))
          have d2 := cell_regrown (HasRow.at D.out.a (show x + 5 < 25 by omega))
          have d3 := cell_regrown (HasRow.at D.out.a (show x + 10 < 25 by omega))
          have d4 := cell_regrown (HasRow.at D.out.a (show x + 15 < 25 by omega))
          have d5 := cell_regrown (HasRow.at D.out.a (show x + 20 < 25 by omega))
          have E : Hid _ := col_int h L.out x hlt
          clear hlt hx
          go_upto_region 10 with fail
          refine wp_region_last_below (by kernel_rfl) (by kernel_rfl) (by simp) ?_
          simp only [List.dropLast]
          repeat (go_big_quiet_step (fail))
          refine wpQuiet_nil ?_
          intro w5 hw'
          have hb : Below wr.heap.size wr w5 := by obtain ⟨p, rfl⟩ := hw'; exact below_regrown _ _ _
          clear hw' d1 d2 d3 d4 d5
          have q1 := HasRow.at (R6.out.below hb) HX.out
          have q2 := HasRow.frozen (R6.out.below hb) x
          have HB : Hid _ := hb
          clear hb
          refine wpOp_plain rfl rfl ?_
          go_simp
          rw [E.out]
          go_wp2
          go_roundw
          case rel =>
            have hb := HB.out
            refine ⟨x + 1, _, HX.out, by go_num, ?_, ?_, HC.out.step⟩
            · rw [HasRow.setCell (R6.out.below hb)]
              exact (D.out.below hb).other NB.out.1 NB.out.2.1 NB.out.2.2
            · rw [HasRow.setCell (R6.out.below hb), ag_set]
              exact (R6.out.below hb).set_same _
          case measure => simp [intOf]; have := HX.out; omega
        · have hx5 : x = 5 := by omega
          subst hx5
          rw [show ((5 : Nat) : Int) = 5 from rfl]
          have e : ag .u64 5 hc = ag .u64 5 (col h) := ag_congr _ _ fun i hi => by rw [HC.out.hv i hi, if_pos hi]
          have Q6 : Hid (HasRow wr b6 (ag .u64 5 (col h))) := by have := R6.out; rw [e] at this; exact this
          clear e R6 HC hlt hx
          go_upto_region 12 with fail
          have DB : Hid (DP w (wr.alloc (Obj.cells z25 42)) h b3 b4 ∧ HasRow (wr.alloc (Obj.cells z25 42)) b6 (ag .u64 5 (col h)) ∧ HasRow (wr.alloc (Obj.cells z25 42)) wr.heap.size (ag .u64 25 (fun _ => 0))) :=
            ⟨D.out.alloc _, HasRow.old Q6.out, HasRow.last rfl⟩
          have N8 : Hid (w.heap.size + 1 < wr.heap.size ∧ wr.heap.size ≠ b3 ∧ wr.heap.size ≠ b4 ∧ wr.heap.size ≠ b6) :=
            ⟨by have := D.out.r.lt; have := D.out.l3; omega, by have := D.out.r.lt; omega, by have := D.out.k.lt; omega, by have := Q6.out.lt; omega⟩
          generalize (wr.alloc (Obj.cells z25 42)) = w5 at *
          generalize wr.heap.size = b8 at *
          clear D Q6
          go_wp2
          have S3 : Hid (RQ h (fun _ => 0) 0 0) := ⟨fun i _ => by simp⟩
          go_loopw [9] (fun i w' => ∃ (x : Nat) (hb : Nat → Nat), x ≤ 5 ∧ i = .int .i64 (x : Int) ∧ DP w w' h b3 b4 ∧ HasRow w' b6 (ag .u64 5 (col h)) ∧ HasRow w' b8 (ag .u64 25 hb) ∧ RQ h hb x 0) (fun i _ => 5 - (intOf i).toNat)
          case atStart =>
            exact ⟨0, _, Nat.zero_le _, rfl, DB.out.1, DB.out.2.1, DB.out.2.2, S3.out⟩
          case round =>
            clear DB S3
            obtain ⟨x, hb, hx, rfl, dp, r6, r8, hT⟩ := hrel
            have D : Hid (DP w wr h b3 b4) := dp
            have R6 : Hid (HasRow wr b6 (ag .u64 5 (col h))) := r6
            have R8 : Hid (HasRow wr b8 (ag .u64 25 hb)) := r8
            have HR : Hid (RQ h hb x 0) := hT
            clear hT dp r6 r8
            by_cases hlt : x < 5
            · have HX : Hid (x < 5) := hlt
              have i0 : (x : Int) < 5 := by omega
              have d1 := cell_regrown (HasRow.at R6.out (show (x + 4) % 5 < 5 by omega))
              have d2 := cell_regrown (HasRow.at R6.out (show (x + 1) % 5 < 5 by omega))
              have E : Hid _ := dd_int h L.out x
              clear hlt hx
              go_upto_region 15 with fail
              refine wp_region_quiet_below (by kernel_rfl) (by kernel_rfl) ?_
              repeat (go_big_quiet_step (fail))
              go_big_quiet_step ((exact Calls.regrown_of (turn_one (col h ((x + 1) % 5)) (col_lt L.out (by omega)) _)))
              repeat (go_big_quiet_step (fail))
              rw [E.out]
              refine wpQuiet_nil ?_
              intro w6 hw'
              have hbb : Below wr.heap.size wr w6 := by obtain ⟨p, rfl⟩ := hw'; exact below_regrown _ _ _
              clear hw' d1 d2
              have D6 : Hid (DP w w6 h b3 b4) := D.out.below hbb
              have Q6 : Hid (HasRow w6 b6 (ag .u64 5 (col h))) := R6.out.below hbb
              have Q8 : Hid (HasRow w6 b8 (ag .u64 25 hb)) := R8.out.below hbb
              clear hbb R6 R8 D
              obtain ⟨dx, hdx⟩ : ∃ q, q = dd h x := ⟨_, rfl⟩
              rw [← hdx]
              have HD : Hid _ := hdx
              clear hdx E
              go_wp2
              go_loopw [11] (fun i w' => ∃ (y : Nat) (hb : Nat → Nat), y ≤ 5 ∧ i = .int .i64 (y : Int) ∧ DP w w' h b3 b4 ∧ HasRow w' b6 (ag .u64 5 (col h)) ∧ HasRow w' b8 (ag .u64 25 hb) ∧ RQ h hb x y) (fun i _ => 5 - (intOf i).toNat)
              case atStart =>
                exact ⟨0, hb, Nat.zero_le _, rfl, D6.out, Q6.out, Q8.out, HR.out⟩
              case round =>
                clear D6 Q6 Q8 HR
                obtain ⟨y, hb2, hy, rfl, dp, r6, r8, hT⟩ := hrel
                have D : Hid (DP w wr h b3 b4) := dp
                have R6 : Hid (HasRow wr b6 (ag .u64 5 (col h))) := r6
                have R8 : Hid (HasRow wr b8 (ag .u64 25 hb2)) := r8
                have HR : Hid (RQ h hb2 x y) := hT
                clear hT dp r6 r8
                by_cases hlt : y < 5
                · have HY : Hid (y < 5) := hlt
                  have hxx := HX.out
                  have i1 : (y : Int) < 5 := by omega
                  have i2 : (x : Int) + 5 * (y : Int) < 25 := by omega
                  have i3 : (y : Int) + 5 * ((2 * (x : Int) + 3 * (y : Int)) % 5) < 25 := by omega
                  have d1 := cell_regrown (HasRow.at D.out.a (show x + 5 * y < 25 by omega))
                  have d2 := cell_regrown (HasRow.at D.out.r (show x + 5 * y < 25 by omega))
                  have HP : Hid (y + 5 * ((2 * x + 3 * y) % 5) < 25) := by show y + 5 * ((2 * x + 3 * y) % 5) < 25; omega
                  have cc : Hid (∀ w, Calls Tryd.prog 33 #[.int .u64 (bits .xor .u64 ((h (x + 5 * y) : Nat) : Int) (dx : Int)), .int .i64 ((tn (x + 5 * y) : Nat) : Int)] w fun e w' => e = .returned (B (rt (h (x + 5 * y) ^^^ dx) (tn (x + 5 * y)))) ∧ Below w.heap.size w w') := by
                    show ∀ w, _
                    intro w
                    have l1 := L.out (x + 5 * y) (by omega)
                    have l2 : dx < M := by rw [HD.out]; exact dd_lt L.out x
                    rw [bits_xor _ _ l1 l2]
                    exact turn_bel _ _ (xor_lt l1 l2) (tn_lt _ (by omega)) w
                  clear hlt hy hxx
                  go_upto_region 19 with fail
                  refine wp_region_last_below (by kernel_rfl) (by kernel_rfl) (by simp) ?_
                  simp only [List.dropLast]
                  repeat (go_big_quiet_step (fail))
                  go_big_quiet_step ((exact Calls.regrown_of (cc.out _)))
                  repeat (go_big_quiet_step (fail))
                  refine wpQuiet_nil ?_
                  intro w7 hw'
                  have hbb : Below wr.heap.size wr w7 := by obtain ⟨p, rfl⟩ := hw'; exact below_regrown _ _ _
                  clear hw' d1 d2
                  have q1 := HasRow.at (R8.out.below hbb) HP.out
                  have q2 := HasRow.frozen (R8.out.below hbb) (y + 5 * ((2 * x + 3 * y) % 5))
                  have HB : Hid _ := hbb
                  clear hbb
                  refine wpOp_plain rfl rfl ?_
                  go_simp
                  go_wp2
                  go_roundw
                  case rel =>
                    have hbb := HB.out
                    refine ⟨y + 1, _, HY.out, by go_num, ?_, ?_, ?_, HR.out.step HX.out HY.out⟩
                    · rw [HasRow.setCell (R8.out.below hbb)]
                      exact (D.out.below hbb).other N8.out.1 N8.out.2.1 N8.out.2.2.1
                    · rw [HasRow.setCell (R8.out.below hbb)]
                      exact (R6.out.below hbb).set_other _ N8.out.2.2.2
                    · rw [HasRow.setCell (R8.out.below hbb), ag_set, HD.out]
                      exact (R8.out.below hbb).set_same _
                  case measure => simp [intOf]; have := HY.out; omega
                · have hy5 : y = 5 := by omega
                  subst hy5
                  clear hy hlt
                  go_wp2
                  go_roundw
                  case rel =>
                    exact ⟨x + 1, hb2, HX.out, by go_num, D.out, R6.out, R8.out, HR.out.next⟩
                  case measure => simp [intOf]; have := HX.out; omega
            · have hx5 : x = 5 := by omega
              subst hx5
              rw [show ((5 : Nat) : Int) = 5 from rfl]
              obtain ⟨g, hg⟩ : ∃ q, q = rho (theta h) := ⟨_, rfl⟩
              have e : ag .u64 25 hb = ag .u64 25 g := ag_congr _ _ fun i hi => by have := src_lt i hi; rw [HR.out.hv i hi, if_pos (by omega), hg]
              have Q8 : Hid (HasRow wr b8 (ag .u64 25 g)) := by have := R8.out; rw [e] at this; exact this
              have LG : Hid (P25 g) := by show P25 g; rw [hg]; exact rho_lt (theta_lt L.out)
              have HG : Hid _ := hg
              clear e R8 HR hlt hx hg R6
              have S5 : Hid (AC h g h 0 0) := ⟨fun i _ => by rw [if_neg (by omega)]⟩
              go_wp2
              go_loopw [12] (fun i w' => ∃ (x : Nat) (q : Nat → Nat), x ≤ 5 ∧ i = .int .i64 (x : Int) ∧ DP w w' q b3 b4 ∧ HasRow w' b8 (ag .u64 25 g) ∧ AC h g q x 0) (fun i _ => 5 - (intOf i).toNat)
              case atStart =>
                exact ⟨0, h, Nat.zero_le _, rfl, D.out, Q8.out, S5.out⟩
              case round =>
                clear D Q8 S5
                obtain ⟨x, q, hx, rfl, dp, r8, hT⟩ := hrel
                have D : Hid (DP w wr q b3 b4) := dp
                have R8 : Hid (HasRow wr b8 (ag .u64 25 g)) := r8
                have HA : Hid (AC h g q x 0) := hT
                clear hT dp r8
                by_cases hlt : x < 5
                · have HX : Hid (x < 5) := hlt
                  have i0 : (x : Int) < 5 := by omega
                  clear hlt hx
                  go_wp2
                  go_loopw [13] (fun i w' => ∃ (y : Nat) (q : Nat → Nat), y ≤ 5 ∧ i = .int .i64 (y : Int) ∧ DP w w' q b3 b4 ∧ HasRow w' b8 (ag .u64 25 g) ∧ AC h g q x y) (fun i _ => 5 - (intOf i).toNat)
                  case atStart =>
                    exact ⟨0, q, Nat.zero_le _, rfl, D.out, R8.out, HA.out⟩
                  case round =>
                    clear D R8 HA
                    obtain ⟨y, q, hy, rfl, dp, r8, hT⟩ := hrel
                    have D : Hid (DP w wr q b3 b4) := dp
                    have R8 : Hid (HasRow wr b8 (ag .u64 25 g)) := r8
                    have HA : Hid (AC h g q x y) := hT
                    clear hT dp r8
                    by_cases hlt : y < 5
                    · have HY : Hid (y < 5) := hlt
                      have hxx := HX.out
                      have i1 : (y : Int) < 5 := by omega
                      have i2 : (x : Int) + 5 * (y : Int) < 25 := by omega
                      have i3 : ((x : Int) + 1) % 5 + 5 * (y : Int) < 25 := by omega
                      have i4 : ((x : Int) + 2) % 5 + 5 * (y : Int) < 25 := by omega
                      have d1 := HasRow.at R8.out (show (x + 1) % 5 + 5 * y < 25 by omega)
                      have HI : Hid (x + 5 * y < 25) := by show x + 5 * y < 25; omega
                      have d2 := cell_regrown (HasRow.at R8.out HI.out)
                      have d3 := cell_regrown (HasRow.at R8.out (show (x + 2) % 5 + 5 * y < 25 by omega))
                      have E : Hid _ := not_int (g (x + 5 * y)) (g ((x + 1) % 5 + 5 * y)) (g ((x + 2) % 5 + 5 * y)) (LG.out _ (by omega)) (LG.out _ (by omega)) (LG.out _ (by omega))
                      have i5 : ((g ((x + 1) % 5 + 5 * y) : Nat) : Int) < 18446744073709551616 := by have := LG.out ((x + 1) % 5 + 5 * y) (by omega); unfold M at this; omega
                      clear hlt hy hxx
                      go_upto_region 27 with fail
                      refine wp_region_last_below (by kernel_rfl) (by kernel_rfl) (by simp) ?_
                      simp only [List.dropLast]
                      repeat (go_big_quiet_step (fail))
                      refine wpQuiet_nil ?_
                      intro w7 hw'
                      have hbb : Below wr.heap.size wr w7 := by obtain ⟨p, rfl⟩ := hw'; exact below_regrown _ _ _
                      clear hw' d1 d2 d3
                      have q1 := HasRow.at (D.out.a.below hbb) HI.out
                      have q2 := HasRow.frozen (D.out.a.below hbb) (x + 5 * y)
                      have HB : Hid _ := hbb
                      clear hbb
                      refine wpOp_plain rfl rfl ?_
                      go_simp
                      rw [E.out]
                      go_wp2
                      go_roundw
                      case rel =>
                        have hbb := HB.out
                        refine ⟨y + 1, _, HY.out, by go_num, ?_, ?_, HA.out.step HX.out HY.out⟩
                        · rw [HasRow.setCell (D.out.a.below hbb), ag_set]
                          exact (D.out.below hbb).put _
                        · rw [HasRow.setCell (D.out.a.below hbb)]
                          exact (R8.out.below hbb).set_other _ (by have := N8.out.1; omega)
                      case measure => simp [intOf]; have := HY.out; omega
                    · have hy5 : y = 5 := by omega
                      subst hy5
                      clear hy hlt
                      go_wp2
                      go_roundw
                      case rel =>
                        exact ⟨x + 1, q, HX.out, by go_num, D.out, R8.out, HA.out.next⟩
                      case measure => simp [intOf]; have := HX.out; omega
                · have hx5 : x = 5 := by omega
                  subst hx5
                  obtain ⟨h3, hh3⟩ : ∃ q, q = chi g := ⟨_, rfl⟩
                  have e : ag .u64 25 q = ag .u64 25 h3 := ag_congr _ _ fun i hi => by rw [HA.out.hv i hi, if_pos (by omega), hh3]
                  have D3 : Hid (DP w wr h3 b3 b4) := by have := D.out; exact ⟨by have := this.a; rw [e] at this; exact this, this.o, this.r, this.k, this.b, this.l3, this.l4⟩
                  have L3 : Hid (P25 h3) := by show P25 h3; rw [hh3]; exact chi_lt LG.out
                  have H3 : Hid _ := hh3
                  clear e D HA R8 hlt hx hh3
                  have d1 := cell_regrown (HasRow.at D3.out.a (show 0 < 25 by omega))
                  have d2 := cell_regrown (HasRow.at D3.out.k HJ.out)
                  have E : Hid _ := bits_xor (h3 0) (ki j) (L3.out 0 (by decide)) (ki_lt j HJ.out)
                  go_upto_region 28 with fail
                  refine wp_region_last_below (by kernel_rfl) (by kernel_rfl) (by simp) ?_
                  simp only [List.dropLast]
                  repeat (go_big_quiet_step (fail))
                  refine wpQuiet_nil ?_
                  intro w7 hw'
                  have hbb : Below wr.heap.size wr w7 := by obtain ⟨p, rfl⟩ := hw'; exact below_regrown _ _ _
                  clear hw' d1 d2
                  have q1 := HasRow.at (D3.out.a.below hbb) (show 0 < 25 by omega)
                  have q2 := HasRow.frozen (D3.out.a.below hbb) 0
                  have HB : Hid _ := hbb
                  clear hbb
                  refine wpOp_plain rfl rfl ?_
                  go_simp
                  rw [E.out]
                  go_wp2
                  go_roundw
                  case rel =>
                    have hbb := HB.out
                    refine ⟨j + 1, _, HJ.out, by go_num, ?_, rfl⟩
                    rw [HasRow.setCell (D3.out.a.below hbb), ag_set, H3.out, HG.out, HT.out]
                    exact (D3.out.below hbb).put _
                  case measure => simp [intOf]; have := HJ.out; omega
    · have hjn : j = 24 := by omega
      subst hjn
      have R1 : Hid (HasRow wr w.heap.size (ag .u64 25 h')) := by have := D.out.a; rw [HT.out, ← HH.out] at this; exact this
      have R2 : Hid (HasRow wr (w.heap.size + 1) z25) := D.out.o
      have BL : Hid (Below w.heap.size w wr) := D.out.b
      clear HT D hlt hj
      go_upto_region 29 with fail
      refine wp_region_lit ?_
      refine wpList_vload rfl 42 (.tmp 1) rfl w.heap.size rfl .u64 25 h' R1.out Tryd.underlying42 (by kernel_rfl) ?_
      intro v hv
      have hsz := hv.size
      have hsc := run_storeCells_v (P := Tryd.prog) hv (g := w.heap.size + 1) 42 (by kernel_rfl) (StoreTo.row R2.out (by rfl))
      clear hv
      go_wp2
      exact bodyPost_ret (v := A25 h') (results_cell1 (p := 2) (ty := 42) rfl (g := w.heap.size + 1) rfl (HasRow.set_same R2.out (ag .u64 25 h')) (ag_size _ _ _) Tryd.underlying42 (by kernel_rfl)) rfl ⟨rfl, below_setRow BL.out (by omega) _⟩
end Go.Proofs.YtdlanihbpbfbcaaDoor
