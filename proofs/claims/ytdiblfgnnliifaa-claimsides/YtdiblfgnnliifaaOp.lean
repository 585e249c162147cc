/- Arguments that are numbers of four parts, read as data: opened and shut again. -/
import Derived.Test.YtdiblfgnnliifaaRows
import Derived.Test.YtdiblfgnnliifaaCa
import Derived.ProofKit
import Derived.OpenShut
import Derived.Below
namespace Go.Proofs.Ytdiblfgnnliifaa
open Go.ChangeShapes Go.WideShapes Go.ChangeAt Go.RowKit

theorem ownKn : ownKnob Try.prog.godebug = none := by kernel_rfl
theorem cellsA24 : Try.prog.cellsOf 25 = 4 := by kernel_rfl
theorem cellsA22 : Try.prog.cellsOf 23 = 1 := by kernel_rfl

/-- A number as data. -/
def DwN {H : Type} (n : Nat) : DataW H := .agg [.lit (.int .u64 (l0 n)), .lit (.int .u64 (l1 n)), .lit (.int .u64 (l2 n)), .lit (.int .u64 (l3 n))]

theorem wf_u64 {a : Int} (h : (Lit.int .u64 a).wf = true) : ∃ k : Nat, a = k ∧ k < M := by
  have hx : 0 ≤ a ∧ a ≤ 18446744073709551615 := by simpa [Lit.wf, IntKind.min, IntKind.max, IntKind.signed, IntKind.bits] using h
  exact ⟨a.toNat, by omega, by unfold M; omega⟩
theorem u64_wf (k : Nat) (h : k < M) : (Lit.int .u64 (k : Int)).wf = true := by
  unfold M at h
  have hx : (0 : Int) ≤ (k : Int) ∧ (k : Int) ≤ 18446744073709551615 := by omega
  simpa [Lit.wf, IntKind.min, IntKind.max, IntKind.signed, IntKind.bits] using hx

set_option maxRecDepth 100000 in
theorem open_num {H : Type} {enc : TypeId × Value → H} {w : World} {base b0 : Nat} {spare : Nat → Bool} {held : Bool} {r : Reach} {v : Value} {d : DataW H} {p : List MemPlace}
    (hv : Value.okWide Try.prog w r b0 25 v) (h : DataW.Trod enc Try.prog w base spare held 25 v d p) : ∃ n, n < W ∧ v = U n ∧ d = DwN n ∧ p = [] := by
  simp only [Value.okWide, Try.underlying25] at hv
  obtain ⟨cs, rfl, hsz, _⟩ := hv
  rw [cellsA24] at hsz
  obtain ⟨fuel, hf⟩ := h
  have hf' : DataW.trod enc Try.prog w base spare held fuel 25 cs.toList = some (d, p) := by simpa [Value.cells] using hf
  obtain ⟨c0, c1, c2, c3, rfl⟩ : ∃ c0 c1 c2 c3, cs = #[c0, c1, c2, c3] := by
    rcases cs with ⟨l⟩
    match l, hsz with
    | [c0, c1, c2, c3], _ => exact ⟨c0, c1, c2, c3, rfl⟩
  obtain ⟨y0, y1, y2, y3, m, hx, h0, h1, h2, h3⟩ := trod_array4 Try.underlying25 cellsA22 hf'
  obtain ⟨a0, e0, rfl, w0⟩ := DataW.trod_int Try.underlying23 h0
  obtain ⟨a1, e1, rfl, w1⟩ := DataW.trod_int Try.underlying23 h1
  obtain ⟨a2, e2, rfl, w2⟩ := DataW.trod_int Try.underlying23 h2
  obtain ⟨a3, e3, rfl, w3⟩ := DataW.trod_int Try.underlying23 h3
  simp only [List.cons.injEq, and_true] at e0 e1 e2 e3
  subst e0 e1 e2 e3
  simp only [Prod.mk.injEq, List.append_nil] at hx
  obtain ⟨rfl, rfl⟩ := hx
  obtain ⟨k0, rfl, g0⟩ := wf_u64 w0
  obtain ⟨k1, rfl, g1⟩ := wf_u64 w1
  obtain ⟨k2, rfl, g2⟩ := wf_u64 w2
  obtain ⟨k3, rfl, g3⟩ := wf_u64 w3
  refine ⟨mk k0 k1 k2 k3, mk_lt _ _ _ _ g0 g1 g2 g3, ?_, ?_, rfl⟩
  · unfold U; rw [l0_mk _ _ _ _ g0, l1_mk _ _ _ _ g0 g1, l2_mk _ _ _ _ g0 g1 g2, l3_mk _ _ _ _ g0 g1 g2 g3]
  · unfold DwN; rw [l0_mk _ _ _ _ g0, l1_mk _ _ _ _ g0 g1, l2_mk _ _ _ _ g0 g1 g2, l3_mk _ _ _ _ g0 g1 g2 g3]

theorem shut_num {H : Type} {enc : TypeId × Value → H} {w : World} {base : Nat} {spare : Nat → Bool} {held : Bool} (n : Nat) :
    DataW.Trod enc Try.prog w base spare held 25 (U n) (DwN n) [] := by
  have w0 := u64_wf _ (l0_lt n)
  have w1 := u64_wf _ (l1_lt n)
  have w2 := u64_wf _ (l2_lt n)
  have w3 := u64_wf _ (l3_lt n)
  refine ⟨2, ?_⟩
  have r4 : List.range 4 = [0, 1, 2, 3] := rfl
  simp [Value.cells, DataW.trod, Try.underlying25, Try.underlying23, cellsA24, cellsA22, r4, w0, w1, w2, w3, DwN]
end Go.Proofs.Ytdiblfgnnliifaa
