/- What a word stands for: the program's read. -/
import Derived.Test.YtoceebhnhccfdaaDoorUa
import Derived.Test.YtoceebhnhccfdaaDoorKn
namespace Go.Proofs.YtoceebhnhccfdaaDoor
open Go.RowKit Go.Sort Go.Shelf
set_option linter.unusedVariables false
set_option maxRecDepth 100000
/-- The bytes that a word stands for, what the next one owes, and whether it can stand there. -/
def rdW (s : List UInt8) (o : Nat) : List UInt8 × Nat × Bool :=
  if 0 < o then ((uxL s).getD [], 0, decide (((uxL s).getD []).length = o))
  else if (opV nmN s).2 = true then ([UInt8.ofNat (opV nmN s).1], ownN (opV nmN s).1, true)
  else ((uxL (cutP s [48, 120]).1).getD [], 0, (cutP s [48, 120]).2 && decide (((uxL (cutP s [48, 120]).1).getD []).length = 1))
theorem opV_lt (nm : Nat → List UInt8) (s : List UInt8) : (opV nm s).1 < 256 := by
  unfold opV
  split
  · decide
  · split
    · next i h => exact List.mem_range.1 (List.mem_of_find?_eq_some h)
    · decide
theorem ux_len (s : List UInt8) : ((uxL s).getD []).length ≤ s.length := by
  cases h : uxL s with
  | none => simp
  | some t => have := uxL_len s t h; simp only [Option.getD_some]; omega
theorem cutP_len (s p : List UInt8) : (cutP s p).1.length ≤ s.length := by
  unfold cutP
  split
  · simp
  · simp
set_option maxHeartbeats 4000000 in
theorem read_any {w : World} (hT : Tb w) (s : List UInt8) (hs : s.length < 10000000) (o : Nat) (ho : o < 1000) : Calls Tryd.prog 29 #[str s, Z o] w fun e w' => e = .returned (.tuple #[str (rdW s o).1, Z ((rdW s o).2.1 : Nat), .bool (rdW s o).2.2]) ∧ RowKit.Below w.heap.size w w' := by
  have hTT : ∀ w', RowKit.Below w.heap.size w w' → Tb w' := fun _ hb => hT.below hb
  refine inQ (J := RowKit.Below w.heap.size w) (F := (· < w.heap.size)) Tryd.func29 (RowKit.Below.refl _ _) fun a I => ?_
  unfold rdW
  by_cases h0 : 0 < o
  · rw [if_pos h0]
    have hfh := fromHex_any s (by omega)
    generalize (uxL s).getD [] = raw at *
    obtain ⟨q, hq⟩ : ∃ q, decide (raw.length = o) = q := ⟨_, rfl⟩
    have hqi : decide ((raw.length : Int) = o) = q := by rw [← hq]; simp; omega
    simp only [hq]
    refine goQ [bO .gtr 3 (run_gtrZ (x := o) (y := 0) (b := true) (by simp; omega)), kC Tryd.func41 hfh, lnO raw, bO .eql 3 (run_eqlZ (x := raw.length) (y := o) hqi)] (nonR w) I fun β a w1 I1 hb => ?_
    exact outQ (v := .tuple #[str raw, Z 0, .bool q]) I1 ⟨rfl, I1.hJ⟩
  rw [if_neg h0]
  obtain rfl : o = 0 := by omega
  have hop : ∀ w', Tb w' → Calls Tryd.prog 10 #[str s] w' fun e w'' => e = .returned (.tuple #[b8 (opV nmN s).1, .bool (opV nmN s).2]) ∧ RowKit.Below w'.heap.size w' w'' := fun w' h => op_any h s
  have hol := opV_lt nmN s
  generalize opV nmN s = ov at *
  obtain ⟨on, ob⟩ := ov
  simp only [] at hol ⊢
  cases ob with
  | false =>
    rw [if_neg (by simp)]
    have hct := cut43_any s [48, 120] (by omega) (by simp)
    have hcl := cutP_len s [48, 120]
    generalize cutP s [48, 120] = cp at *
    obtain ⟨cs, cb⟩ := cp
    simp only [] at hct hcl ⊢
    have hfh := fromHex_any cs (by omega)
    generalize (uxL cs).getD [] = raw at *
    obtain ⟨q, hq⟩ : ∃ q, decide (raw.length = 1) = q := ⟨_, rfl⟩
    have hqi : decide ((raw.length : Int) = 1) = q := by rw [← hq]; simp; omega
    simp only [hq]
    cases cb with
    | true =>
      refine goT (T := Tb) [bO .gtr 3 (run_gtrZ (x := (0 : Nat)) (y := 0) (b := false) (by simp)), cA Tryd.func10 hop, kC Tryd.func43 hct, kC Tryd.func41 hfh, lnO raw, bO .eql 3 (run_eqlZ (x := raw.length) (y := 1) hqi)] (nonR w) hTT I fun β a w1 I1 hb => ?_
      exact outQ (v := .tuple #[str raw, Z 0, .bool q]) I1 ⟨rfl, I1.hJ⟩
    | false =>
      refine goT (T := Tb) [bO .gtr 3 (run_gtrZ (x := (0 : Nat)) (y := 0) (b := false) (by simp)), cA Tryd.func10 hop, kC Tryd.func43 hct, kC Tryd.func41 hfh] (nonR w) hTT I fun β a w1 I1 hb => ?_
      exact outQ (v := .tuple #[str raw, Z 0, .bool false]) I1 ⟨rfl, I1.hJ⟩
  | true =>
    rw [if_pos rfl]
    refine goT (T := Tb) [bO .gtr 3 (run_gtrZ (x := (0 : Nat)) (y := 0) (b := false) (by simp)), cA Tryd.func10 hop] (nonR w) hTT I fun β a w1 I1 hb => ?_
    have how := owned_any on hol
    generalize ownN on = ow at *
    have hsz1 : a.tmps.size = 47 := by rw [I1.fr]; kernel_rfl
    have hbx := u8n on hol
    generalize UInt8.ofNat on = x at *
    refine dwS (T := fun _ => True) [(1, none), (2, some (str [x]))] [kC Tryd.func42 how] (fun i v w' => i = 1 → w'.ownsRow w1.heap.size 5 1 v 1 (bc [x])) (fun i v w' w'' h hb hi => owns_grow (F := fun _ => True) (h hi) ⟨hb.os, hb.tape, hb.output, hb.size, fun k hk _ => hb.block k hk⟩ fun _ _ => trivial) (nonR w) (fun _ _ => trivial) I1 ?_ ?_
    · intro p hp oo ho' listed vs a' w' hF hrd hbw hV hev
      simp only [List.mem_cons, List.not_mem_nil, or_false] at hp
      rcases hp with rfl | rfl
      · obtain ⟨h1, h2, h3⟩ := opD_get (x := .buildSlice 49 1 #[(0, .tmp 28)]) (d := some 29) ho' (by kernel_rfl)
        have e20 : a'.eval (.tmp 28) = b8 on := hev (.tmp 28) (Sum.inl (b8 on)) (by kernel_rfl)
        have hbs := bs1 x w'
        rw [← hbx] at hbs
        have hb2 := below_alloc w' (.cells (bc [x]).toArray 5)
        refine bslG h1 h3 (by simp only [List.map_toArray, List.map_cons, List.map_nil, e20]; exact hbs) ⟨_, rfl, fun u hu => (by cases hu), fun _ => ?_, hb2⟩
        exact ⟨rfl, .inr ⟨w'.heap.size, 1, (bc [x]).toArray, rfl, hbw.size, heap_alloc_last w' _, Nat.le_refl _, by simp [maxLen], rfl, rfl⟩⟩
      · obtain ⟨h1, h2, h3⟩ := opD_get (x := .convert 49 9 (.tmp 29)) (d := some 30) ho' (by kernel_rfl)
        have hl8 := waits_done (ops := opsD _) (i := 2) (j := 1) (by kernel_rfl) hrd
        have e21 : a'.eval (.tmp 29) = vs 1 := hF.new (i := 1) (by kernel_rfl) (by omega) hl8
        have ho8 := hV (1, none) (by simp) hl8 rfl
        have hcv := text_own (l := [x]) ho8
        refine convG h1 h3 (by rw [e21]; exact hcv) ⟨_, rfl, fun u hu => (by cases hu; rfl), fun h => (by cases h), RowKit.Below.refl _ _⟩
    · intro vs a2 w2 hV I2
      refine goQ [] (nonR w) I2 fun β3 a w3 I3 hb3 => ?_
      exact outQ (v := .tuple #[str [x], Z (ow : Nat), .bool true]) I3 ⟨rfl, I3.hJ⟩
end Go.Proofs.YtoceebhnhccfdaaDoor
