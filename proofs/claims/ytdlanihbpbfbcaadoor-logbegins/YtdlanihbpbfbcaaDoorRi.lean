/- A region that draws its order, by what holds whatever has been done so far; and the region of 'x, y := f(u), f(v)' over arrays. -/
import Derived.Test.YtdlanihbpbfbcaaDoorRx
import Derived.Test.YtdlanihbpbfbcaaDoorLa
namespace Go.Proofs.YtdlanihbpbfbcaaDoor
open Go.RowKit Go.Sort
set_option linter.unusedVariables false
section
variable {P : Program} {ops : Array Oper} {Q : Exit → Act → World → Prop}

theorem count_set : ∀ (l : List Bool) (i : Nat), l[i]? = some false → (l.set i true).count false + 1 = l.count false
  | [], i, h => by simp at h
  | b :: l, 0, h => by simp at h; subst h; simp
  | b :: l, i + 1, h => by
    have := count_set l i (by simpa using h)
    simp only [List.set_cons_succ, List.count_cons]
    omega

theorem any_inv (I : Array Bool → Act → World → Prop)
    (hstep : ∀ listed a w i, listed.size = ops.size → I listed a w → i ∈ Region.ready .any ops listed → wpOp P ops Q i (fun a' w' => I (listed.setIfInBounds i true) a' w') a w)
    (hend : ∀ listed a w, listed.size = ops.size → I listed a w → Region.ready .any ops listed = [] → Q .normal a w) :
    ∀ (fuel : Nat) (listed : Array Bool) (a : Act) (w : World), listed.size = ops.size → listed.toList.count false ≤ fuel → I listed a w → wpAny P .any ops Q fuel listed a w
  | 0, listed, a, w, hs, hc, hI => by
    have hr : Region.ready .any ops listed = [] := by
      rw [List.eq_nil_iff_forall_not_mem]
      intro j hj
      obtain ⟨hun, o, ho, _⟩ := mem_ready.1 hj
      have hjs : j < listed.size := by have := (Array.getElem?_eq_some_iff.1 ho).1; omega
      have h1 : listed[j]? = some false := by
        rw [Array.getElem?_eq_getElem hjs]
        simp [Array.getD, hjs] at hun
        rw [hun]
      have h2 := count_set listed.toList j (by simpa using h1)
      omega
    exact ⟨hr, hend listed a w hs hI hr⟩
  | fuel + 1, listed, a, w, hs, hc, hI => by
    refine ⟨fun hr => hend listed a w hs hI hr, fun i hi => ?_⟩
    refine wpOp_mono (fun a' w' h' => any_inv I hstep hend fuel _ a' w' (by simpa using hs) ?_ h') (hstep listed a w i hs hI hi)
    obtain ⟨hun, o, ho, _⟩ := mem_ready.1 hi
    have hjs : i < listed.size := by have := (Array.getElem?_eq_some_iff.1 ho).1; omega
    have h1 : listed[i]? = some false := by
      rw [Array.getElem?_eq_getElem hjs]
      simp [Array.getD, hjs] at hun
      rw [hun]
    have h2 := count_set listed.toList i (by simpa using h1)
    rw [Array.toList_setIfInBounds]
    omega

theorem wp_region_inv {id : Nat} {a : Act} {w : World} (hm : P.follows .mixedOrders = true) (I : Array Bool → Act → World → Prop)
    (h0 : I (Array.replicate ops.size false) a { w with drawn := w.drawn + 1 })
    (hstep : ∀ listed a w i, listed.size = ops.size → I listed a w → i ∈ Region.ready .any ops listed → wpOp P ops Q i (fun a' w' => I (listed.setIfInBounds i true) a' w') a w)
    (hend : ∀ listed a w, listed.size = ops.size → I listed a w → Region.ready .any ops listed = [] → Q .normal a w) : (Code.region id ops true).wp P Q a w :=
  wp_region_any hm (any_inv I hstep hend _ _ _ _ (by simp) (by simp) h0)

/-- All edges lead back. -/
def backB (ops : Array Oper) : Bool := (List.range ops.size).all fun i => match ops[i]? with | some o => o.after.all (fun e => decide (e.on < i)) | none => true
theorem all_done (hb : backB ops = true) {listed : Array Bool} (hs : listed.size = ops.size) (hr : Region.ready .any ops listed = []) : ∀ i, i < ops.size → listed.getD i false = true := by
  intro i
  induction i using Nat.strongRecOn with
  | _ i ih =>
    intro hi
    by_cases h : listed.getD i false = true
    · exact h
    · exfalso
      have ho : ops[i]? = some ops[i] := Array.getElem?_eq_getElem hi
      have hmem : i ∈ Region.ready .any ops listed := by
        refine mem_ready.2 ⟨?_, ops[i], ho, fun e he hbd => ?_⟩
        · have hi' : i < listed.size := by omega
          simp [Array.getD, hi'] at h ⊢
          exact h
        · have h1 := (List.all_eq_true.1 hb) i (by simpa using hi)
          simp only [ho] at h1
          have h2 := (Array.all_eq_true_iff_forall_mem.1 h1) e he
          have h3 : e.on < i := by simpa using h2
          exact ih e.on h3 (by omega)
      rw [hr] at hmem; cases hmem

/-- Number i waits for number j. -/
def waitsB (ops : Array Oper) (i j : Nat) : Bool := match ops[i]? with | some o => o.after.any (fun e => Region.binds .any e && e.on == j) | none => false
theorem waits_done {i j : Nat} (h : waitsB ops i j = true) {listed : Array Bool} (hi : i ∈ Region.ready .any ops listed) : listed.getD j false = true := by
  obtain ⟨_, o, ho, hall⟩ := mem_ready.1 hi
  simp only [waitsB, ho] at h
  obtain ⟨n, hn, hb⟩ := Array.any_eq_true.1 h
  have he := Array.getElem_mem hn
  generalize o.after[n] = e at *
  simp only [Bool.and_eq_true, beq_iff_eq] at hb
  have := hall e he hb.1
  rw [hb.2] at this
  exact this
theorem done_set {listed : Array Bool} {i j : Nat} (h : (listed.setIfInBounds i true).getD j false = true) : j = i ∨ listed.getD j false = true := by
  by_cases hij : i = j
  · exact .inl hij.symm
  · right; rwa [getD_set_ne false hij] at h
theorem done_keep {listed : Array Bool} {i j : Nat} (h : listed.getD j false = true) : (listed.setIfInBounds i true).getD j false = true := by
  by_cases hij : i = j
  · subst hij
    have hl : i < listed.size := by
      rcases Nat.lt_or_ge i listed.size with h' | h'
      · exact h'
      · simp [Array.getD, Nat.not_lt.2 h'] at h
    simp [Array.getD, hl]
  · rw [getD_set_ne false hij]; exact h
theorem undone {listed : Array Bool} {i : Nat} (hi : i ∈ Region.ready .any ops listed) (hs : listed.size = ops.size) : listed.getD i false = true → False := by
  intro h
  obtain ⟨hun, o, ho, _⟩ := mem_ready.1 hi
  have hjs : i < listed.size := by have := (Array.getElem?_eq_some_iff.1 ho).1; omega
  simp [Array.getD, hjs] at hun h
  rw [hun] at h; cases h

/-- The frame with its six slots. -/
def PF (a : Act) (x y s0 s1 s2 s3 : Value) : Act :=
  { a with tmps := (((((a.tmps.setIfInBounds 6 x).setIfInBounds 7 y).setIfInBounds 12 s0).setIfInBounds 13 s1).setIfInBounds 14 s2).setIfInBounds 15 s3 }
end
end Go.Proofs.YtdlanihbpbfbcaaDoor
