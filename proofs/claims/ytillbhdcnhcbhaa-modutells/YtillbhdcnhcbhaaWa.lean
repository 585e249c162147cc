/- Wide, told by numbers; Mul. -/
import Derived.Test.YtillbhdcnhcbhaaWd
namespace Go.Proofs.Ytillbhdcnhcbhaa
open Go.RowKit Go.Sort
set_option linter.unusedVariables false
theorem vl_shift (f : Nat → Nat) (k : Nat) : ∀ n, vl (fun i => f (k + i)) 0 n = vl f k n
  | 0 => rfl
  | n + 1 => by rw [vl, vl, vl_shift f k n, Nat.zero_add]
theorem wide_any (a b : Nat) (ha : a < W) (hb : b < W) (w : World) :
    Calls Try.prog 33 #[U a, U b] w fun e w' => e = .returned (.tuple #[U (a * b / W), U (a * b % W)]) ∧ Below w.heap.size w w' := by
  have h := wide_raw (l0 a) (l1 a) (l2 a) (l3 a) (l0 b) (l1 b) (l2 b) (l3 b) (dg a) (dg b) (fun i _ => dg_lt a i) (fun i _ => dg_lt b i) (split_any a) (split_any b) w
  refine h.mono ?_
  rintro e w' ⟨⟨f, hO, rfl⟩, hB⟩
  refine ⟨?_, hB⟩
  have hv := hO.hv
  rw [W_D] at ha hb
  rw [vl_dg_lt ha, vl_dg_lt hb] at hv
  have e1 : vl f 0 (8 + 8) / D ^ 8 = vl f (0 + 8) 8 := vl_div (fun i hi => hO.hf _ (by omega))
  have e2 : vl f 0 (8 + 8) % D ^ 8 = vl f 0 8 := vl_mod (fun i hi => hO.hf _ (by omega))
  rw [hv] at e1 e2
  rw [vl_shift, W_D, e1, e2, Nat.zero_add]
end Go.Proofs.Ytillbhdcnhcbhaa
