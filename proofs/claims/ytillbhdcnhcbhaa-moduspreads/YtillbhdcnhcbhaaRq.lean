/- Regions that draw their order: slots that are turned later, and what three results are. -/
import Derived.Test.YtillbhdcnhcbhaaRz
import Derived.Test.YtillbhdcnhcbhaaDc
namespace Go.Proofs.Ytillbhdcnhcbhaa
open Go.RowKit Go.Sort
set_option linter.unusedVariables false
theorem Frm.olds {ops : Array Oper} {vs : Nat → Value} {a a' : Act} {listed : Array Bool} (h : Frm ops vs a listed a') {t i : Nat} (hw : wr ops t = some i) (hn : ¬ listed.getD i false = true) : a'.eval (.tmp t) = a.eval (.tmp t) := by
  show a'.tmps.getD t undef = a.tmps.getD t undef
  rw [Array.getD_eq_getD_getElem?, Array.getD_eq_getD_getElem?]
  by_cases ht : t < a.tmps.size
  · rw [h.2.2 t ht, hw]
    simp only [hn, if_false, Bool.false_eq_true]
  · rw [Array.getElem?_eq_none (by have := h.2.1; omega), Array.getElem?_eq_none (by omega)]
theorem done_me {listed : Array Bool} {k n : Nat} (hs : listed.size = n) (hk : k < n) : (listed.setIfInBounds k true).getD k false = true := by
  have : k < listed.size := by omega
  simp [Array.getD, this]
theorem results_c2t {P : Program} {fn : Func} {p q r : Tmp} {ty ty2 : TypeId} (h : fn.results = #[.cell p ty, .cell q ty2, .tmp r]) {tmps : Array Value} {w : World} {g g2 : Nat} {c c2 : Array Value} {n n2 : Nat} {e e2 : TypeId} {v : Value}
    (h1 : tmps.getD p undef = .pointer (some ⟨g, 0, none⟩)) (h2 : tmps.getD q undef = .pointer (some ⟨g2, 0, none⟩)) (h3 : tmps.getD r undef = v) (r1 : HasRow w g c) (r2 : HasRow w g2 c2) (n1 : c.size = n) (n2' : c2.size = n2)
    (hu : P.underlying ty = some (.array n e)) (hi : (P.info? ty).map (·.size) = some n) (hu2 : P.underlying ty2 = some (.array n2 e2)) (hi2 : (P.info? ty2).map (·.size) = some n2) :
    (results fn tmps).run P w = .ok (.tuple #[.agg c, .agg c2, v]) w := by
  obtain ⟨t, r1⟩ := r1
  obtain ⟨t2, r2⟩ := r2
  have k1 := run_loadVar_row (P := P) w g t ty c (0, 0) _ r1 hu rfl (by rw [n1]; exact hi)
  have k2 := run_loadVar_row (P := P) w g2 t2 ty2 c2 (0, 0) _ r2 hu2 rfl (by rw [n2']; exact hi2)
  have h1' : tmps[p]?.getD undef = .pointer (some ⟨g, 0, none⟩) := by rw [← h1]; simp
  have h2' : tmps[q]?.getD undef = .pointer (some ⟨g2, 0, none⟩) := by rw [← h2]; simp
  have h3' : tmps[r]?.getD undef = v := by rw [← h3]; simp
  simp only [results, h]
  simp [Sem.run_bind, Result.andThen, h1', h2', h3', asAddr, k1, k2]
theorem results_c1t {P : Program} {fn : Func} {p r : Tmp} {ty : TypeId} (h : fn.results = #[.cell p ty, .tmp r]) {tmps : Array Value} {w : World} {g : Nat} {c : Array Value} {n : Nat} {e : TypeId} {v : Value}
    (h1 : tmps.getD p undef = .pointer (some ⟨g, 0, none⟩)) (h3 : tmps.getD r undef = v) (r1 : HasRow w g c) (n1 : c.size = n)
    (hu : P.underlying ty = some (.array n e)) (hi : (P.info? ty).map (·.size) = some n) :
    (results fn tmps).run P w = .ok (.tuple #[.agg c, v]) w := by
  obtain ⟨t, r1⟩ := r1
  have k1 := run_loadVar_row (P := P) w g t ty c (0, 0) _ r1 hu rfl (by rw [n1]; exact hi)
  have h1' : tmps[p]?.getD undef = .pointer (some ⟨g, 0, none⟩) := by rw [← h1]; simp
  have h3' : tmps[r]?.getD undef = v := by rw [← h3]; simp
  simp only [results, h]
  simp [Result.andThen, h1', h3', asAddr, k1]
/-- The number that lies in a row of four parts. -/
def rowN (w : World) (g : Nat) : Nat :=
  mk (intOf ((w.cell? ⟨g, 0, none⟩).getD undef)).toNat (intOf ((w.cell? ⟨g, 1, none⟩).getD undef)).toNat (intOf ((w.cell? ⟨g, 2, none⟩).getD undef)).toNat (intOf ((w.cell? ⟨g, 3, none⟩).getD undef)).toNat
theorem rowN_of {w : World} {g n : Nat} (hn : n < W) (h : HasRow w g #[B (l0 n), B (l1 n), B (l2 n), B (l3 n)]) : rowN w g = n := by
  have c0 : w.cell? ⟨g, 0, none⟩ = some (B (l0 n)) := h.cell 0
  have c1 : w.cell? ⟨g, 1, none⟩ = some (B (l1 n)) := h.cell 1
  have c2 : w.cell? ⟨g, 2, none⟩ = some (B (l2 n)) := h.cell 2
  have c3 : w.cell? ⟨g, 3, none⟩ = some (B (l3 n)) := h.cell 3
  unfold rowN
  rw [c0, c1, c2, c3]
  exact mk_parts n hn
end Go.Proofs.Ytillbhdcnhcbhaa
