/- Costs by a closure; texts that are filled up, put into, sliced. -/
import Derived.Test.YtdbilbcpnhkbaaaNb
namespace Go.Proofs.Ytdbilbcpnhkbaaa
open Go.RowKit Go.Sort
set_option linter.unusedVariables false
set_option maxRecDepth 100000
theorem Rsrc.row {J : World → Prop} {F : Nat → Prop} (R : Rsrc J F) (g : Nat) (r : Array Value) : Rsrc (fun w' => J w' ∧ HasRow w' g r) (fun k => F k ∨ k = g) := by
  refine ⟨fun A B h gr => ⟨R.loc A B h.1 ⟨gr.os, gr.tape, gr.output, gr.size, fun k hk hF => gr.block k hk (.inl hF)⟩, ?_⟩, fun A k h hk => ?_⟩
  · obtain ⟨t, ht⟩ := h.2
    exact ⟨t, by rw [gr.block g (Array.getElem?_eq_some_iff.1 ht).1 (.inr rfl)]; exact ht⟩
  · rcases hk with hk | rfl
    · exact R.lt A k h.1 hk
    · exact h.2.lt
abbrev clJ (w : World) (g : Nat) (p : Int) (w' : World) : Prop := Below w.heap.size w w' ∧ HasRow w' g #[Z p]
abbrev clF (w : World) (g k : Nat) : Prop := k < w.heap.size ∨ k = g
theorem clR (w : World) (g : Nat) (p : Int) : Rsrc (clJ w g p) (clF w g) := (nonR w).row g _
theorem cst0 : cst 0 = 0 := by decide
theorem cost_any (n : Int) (w : World) : Calls Try.prog 13 #[Z n] w fun e w' => e = .returned (Z (cst n)) ∧ Below w.heap.size w w' := by
  refine inQ (J := Below w.heap.size w) (F := (· < w.heap.size)) Try.func13 (Below.refl _ _) fun a I => ?_
  refine goQ [] (nonR w) I fun β a w1 I1 hb => ?_
  refine inY I1 fun I2 => ?_
  refine mcall (f := 22) (ss := [Sum.inl (Z 0)]) Try.func22 I2 ((from_any 0 w1).mono fun e w2 he => ?_)
  obtain ⟨g, rfl, hg, hrow, hbl⟩ := he
  have hw1 := I2.hJ.size
  have I3 := I2.moved (J' := clJ w g (cst 0)) (F' := clF w g) (Grow.of_below hbl) ⟨I2.hJ.trans (hbl.mono hw1), hrow⟩ (fun k hk h => h.elim id fun e => by omega) (cloV g)
  refine goQ [] (clR _ _ _) I3 fun β4 a4 w4 I4 hb4 => ?_
  refine mcallX (f := 29) [Sum.inl (Z n), Sum.inl (ptr0 g)] Try.func29 I4 ((clo_any I4.hJ.2 (cst_bd 0) n).mono fun e w5 he => ?_)
  obtain ⟨rfl, hbl5⟩ := he
  rw [cst0, Int.sub_zero]
  have I5 := I4.moved (J' := clJ w g (cst 0)) (F' := clF w g) (Grow.of_below hbl5) ((clR _ _ _).loc _ _ I4.hJ (Grow.of_below hbl5)) (fun k hk h => h) (Z (cst n))
  generalize cst n = q at *
  refine goQ [] (clR _ _ _) I5 fun β6 a6 w6 I6 hb6 => ?_
  exact outQ (v := Z q) I6 ⟨rfl, I6.hJ.1⟩
end Go.Proofs.Ytdbilbcpnhkbaaa
