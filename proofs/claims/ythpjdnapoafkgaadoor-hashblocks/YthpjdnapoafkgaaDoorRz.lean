/- A region by its values, where edges that do not bind may lead forth. -/
import Derived.Test.YthpjdnapoafkgaaDoorRv
namespace Go.Proofs.YthpjdnapoafkgaaDoor
open Go.RowKit Go.Sort
set_option linter.unusedVariables false
section
variable {P : Program} {ops : Array Oper} {Q : Exit → Act → World → Prop}
def backB2 (ops : Array Oper) : Bool := (List.range ops.size).all fun i => match ops[i]? with | some o => o.after.all (fun e => !Region.binds .any e || decide (e.on < i)) | none => true
theorem all_done2 (hb : backB2 ops = true) {listed : Array Bool} (hs : listed.size = ops.size) (hr : Region.ready .any ops listed = []) : ∀ i, i < ops.size → listed.getD i false = true := by
  intro i
  induction i using Nat.strongRecOn with
  | _ i ih =>
    intro hi
    by_cases h : listed.getD i false = true
    · exact h
    · exfalso
      have ho : ops[i]? = some ops[i] := Array.getElem?_eq_getElem hi
      have hmem : i ∈ Region.ready .any ops listed := by
        refine mem_ready.2 ⟨?_, ops[i], ho, fun e he hbd => ?_⟩
        · have hi' : i < listed.size := by omega
          simp [Array.getD, hi'] at h ⊢
          exact h
        · have h1 := (List.all_eq_true.1 hb) i (by simpa using hi)
          simp only [ho] at h1
          have h2 := (Array.all_eq_true_iff_forall_mem.1 h1) e he
          have h3 : e.on < i := by simpa [hbd] using h2
          exact ih e.on h3 (by omega)
      rw [hr] at hmem; cases hmem
theorem wp_region_vals2 {id : Nat} {a : Act} {w : World} (hm : P.follows .mixedOrders = true) (hb : backB2 ops = true) (hB : onceB ops = true)
    (C : Array Bool → (Nat → Value) → World → Prop)
    (h0 : C (Array.replicate ops.size false) (fun _ => undef) { w with drawn := w.drawn + 1 })
    (hop : ∀ listed vs a' w' i o, listed.size = ops.size → ops[i]? = some o → i ∈ Region.ready .any ops listed → Frm ops vs a listed a' → C listed vs w' →
      o.wp P a' w' (fun a'' w'' => ∃ v, a'' = a'.put o.dst v ∧ C (listed.setIfInBounds i true) (fun j => if j = i then v else vs j) w'') Q)
    (hend : ∀ listed vs a' w', (∀ i, i < ops.size → listed.getD i false = true) → Frm ops vs a listed a' → C listed vs w' → Q .normal a' w') : (Code.region id ops true).wp P Q a w := by
  refine wp_region_inv hm (fun listed a' w' => ∃ vs, Frm ops vs a listed a' ∧ C listed vs w') ⟨_, Frm.start _ a, h0⟩ ?_ ?_
  · rintro listed a' w' i hs ⟨vs, hF, hC⟩ hi
    obtain ⟨_, o, ho, _⟩ := mem_ready.1 hi
    refine wpOp_plain ho (once_spec hB ho).1 ?_
    have hun := undone hi hs
    have := hop listed vs a' w' i o hs ho hi hF hC
    refine Oper.wp_mono (fun a'' w'' h => ?_) this
    obtain ⟨v, rfl, hC'⟩ := h
    exact ⟨_, hF.step hB hs ho (fun h => hun h) v, hC'⟩
  · rintro listed a' w' hs ⟨vs, hF, hC⟩ hr
    have hd := all_done2 hb hs hr
    exact hend listed vs a' w' hd hF hC
end
end Go.Proofs.YthpjdnapoafkgaaDoor
