/- Rows of 25 parts read as data, and back. -/
import Derived.Test.YthpjdnapoafkgaaDoorLd
namespace Go.Proofs.YthpjdnapoafkgaaDoor
open Go.ChangeShapes Go.WideShapes Go.ChangeAt Go.RowKit
set_option linter.unusedVariables false
theorem wf_u64 {x : Int} (h : (Lit.int .u64 x).wf = true) : ∃ k : Nat, x = (k : Int) ∧ k < M := by
  have h' : 0 ≤ x ∧ x ≤ 18446744073709551615 := by simpa [Lit.wf, IntKind.min, IntKind.max, IntKind.signed, IntKind.bits] using h
  exact ⟨x.toNat, by omega, by unfold M; omega⟩
theorem u64_wf (k : Nat) (h : k < M) : (Lit.int .u64 (k : Int)).wf = true := by
  have hx : 0 ≤ (k : Int) ∧ (k : Int) ≤ 18446744073709551615 := by unfold M at h; omega
  simpa [Lit.wf, IntKind.min, IntKind.max, IntKind.signed, IntKind.bits] using hx
def Dw {H : Type} (f : Nat → Nat) : DataW H := .agg ((List.range 25).map fun i => .lit (.int .u64 ((f i : Nat) : Int)))
def numAt (cs : Array Value) (i : Nat) : Nat := match cs[i]? with
  | some (.int _ x) => x.toNat
  | _ => 0
theorem cells23 : Tryd.prog.cellsOf 23 = 25 := by kernel_rfl
theorem cellsE : Tryd.prog.cellsOf 22 = 1 := by kernel_rfl
set_option maxHeartbeats 1000000 in
theorem open_25 {H : Type} {enc : TypeId × Value → H} {w : World} {base b0 : Nat} {spare : Nat → Bool} {held : Bool} {r : Reach} {v : Value} {d : DataW H} {p : List MemPlace}
    (hv : Value.okWide Tryd.prog w r b0 23 v) (h : DataW.Trod enc Tryd.prog w base spare held 23 v d p) : ∃ f, P25 f ∧ v = A25 f ∧ d = Dw f ∧ p = [] := by
  simp only [Value.okWide, Tryd.underlying23] at hv
  obtain ⟨cs, rfl, hsz, _⟩ := hv
  rw [cells23] at hsz
  obtain ⟨fuel, hf⟩ := h
  have hf' : DataW.trod enc Tryd.prog w base spare held fuel 23 cs.toList = some (d, p) := by simpa [Value.cells] using hf
  obtain ⟨xs, m, _, hx, hlen, hxn, hel⟩ := DataW.trod_array Tryd.underlying23 hf'
  simp only [Prod.mk.injEq] at hx
  have key : ∀ i, i < 25 → ∃ q : Nat, cs[i]? = some (.int .u64 (q : Int)) ∧ xs[i]? = some (.lit (.int .u64 (q : Int)), []) ∧ q < M := fun i hi => by
    have h1 := hel i hi
    rw [cellsE, Nat.mul_one, List.getElem?_eq_getElem (show i < xs.length by omega)] at h1
    obtain ⟨q, e1, e2, e3⟩ := DataW.trod_int Tryd.underlying22 h1
    obtain ⟨k, rfl, hk⟩ := wf_u64 e3
    have h3 : (cs.toList.drop i)[0]? = some (.int .u64 (k : Int)) := by
      have : (List.take 1 (cs.toList.drop i))[0]? = some (.int .u64 (k : Int)) := by rw [e1]; rfl
      simpa [List.getElem?_take] using this
    rw [List.getElem?_drop, Nat.add_zero, Array.getElem?_toList] at h3
    exact ⟨k, h3, by rw [List.getElem?_eq_getElem (show i < xs.length by omega), e2], hk⟩
  have hn : ∀ i, i < 25 → cs[i]? = some (.int .u64 ((numAt cs i : Nat) : Int)) ∧ xs[i]? = some (.lit (.int .u64 ((numAt cs i : Nat) : Int)), []) ∧ numAt cs i < M := fun i hi => by
    obtain ⟨q, e1, e2, e3⟩ := key i hi
    have : numAt cs i = q := by unfold numAt; rw [e1]; simp
    rw [this]; exact ⟨e1, e2, e3⟩
  have hxs : xs = (List.range 25).map fun i => ((DataW.lit (.int .u64 ((numAt cs i : Nat) : Int)), []) : DataW H × List MemPlace) := by
    apply List.ext_getElem?
    intro i
    rw [List.getElem?_map]
    by_cases hi : i < 25
    · rw [(hn i hi).2.1, List.getElem?_range hi]; rfl
    · rw [List.getElem?_eq_none (by omega), List.getElem?_eq_none (by simp; omega)]; rfl
  refine ⟨numAt cs, fun i hi => (hn i hi).2.2, ?_, ?_, ?_⟩
  · have e : cs = ag .u64 25 (numAt cs) := by
      apply Array.ext_getElem?
      intro i
      rw [ag_get]
      by_cases hi : i < 25
      · rw [if_pos hi, (hn i hi).1]
      · rw [if_neg hi, Array.getElem?_eq_none (by omega)]
    exact congrArg Value.agg e
  · rw [hx.1, hxs]; unfold Dw; simp
  · rw [hx.2, hxs]; simp
theorem mapM_all {α β : Type} (F : α → Option β) (g : α → β) : ∀ (l : List α), (∀ a ∈ l, F a = some (g a)) → l.mapM F = some (l.map g)
  | [], _ => rfl
  | a :: l, h => by
    rw [List.mapM_cons, h a (by simp), mapM_all F g l (fun b hb => h b (by simp [hb]))]
    rfl
theorem shut_25 {H : Type} {enc : TypeId × Value → H} {w : World} {base : Nat} {spare : Nat → Bool} {held : Bool} {f : Nat → Nat} (hf : P25 f) :
    DataW.Trod enc Tryd.prog w base spare held 23 (A25 f) (Dw f) [] := by
  have hw : ∀ i, i < 25 → (Lit.int .u64 ((f i : Nat) : Int)).wf = true := fun i hi => u64_wf _ (hf i hi)
  refine ⟨2, ?_⟩
  have hel : ∀ i, i < 25 → DataW.trod enc Tryd.prog w base spare held 1 22 (((ag .u64 25 f).toList.drop i).take 1) = some (.lit (.int .u64 ((f i : Nat) : Int)), []) := fun i hi => by
    have e : ((ag .u64 25 f).toList.drop i).take 1 = [.int .u64 ((f i : Nat) : Int)] := by
      have h1 : (ag .u64 25 f).toList[i]? = some (.int .u64 ((f i : Nat) : Int)) := by rw [show (ag .u64 25 f).toList[i]? = (ag .u64 25 f)[i]? from Array.getElem?_toList, ag_get, if_pos hi]
      have hlt : i < (ag .u64 25 f).toList.length := by rw [Array.length_toList, ag_size]; exact hi
      rw [List.drop_eq_getElem_cons hlt]
      rw [List.getElem?_eq_getElem hlt] at h1
      rw [Option.some.inj h1]
      rfl
    rw [e]
    simp [DataW.trod, Tryd.underlying22, hw i hi]
  show DataW.trod enc Tryd.prog w base spare held 2 23 (ag .u64 25 f).toList = some (Dw f, [])
  unfold DataW.trod
  rw [Tryd.underlying23]
  have hl : (ag .u64 25 f).toList.length = 25 := by rw [Array.length_toList, ag_size]
  have hm := mapM_all (fun i => DataW.trod enc Tryd.prog w base spare held 1 22 (((ag .u64 25 f).toList.drop (i * 1)).take 1)) (fun i => ((DataW.lit (.int .u64 ((f i : Nat) : Int)), []) : DataW H × List MemPlace)) (List.range 25) (fun i hi => by rw [Nat.mul_one]; exact hel i (by simpa using hi))
  generalize (ag .u64 25 f).toList = cs at *
  simp only [cells23, cellsE, hl]
  rw [if_pos trivial, hm, Option.map_some]
  unfold Dw
  simp
end Go.Proofs.YthpjdnapoafkgaaDoor
