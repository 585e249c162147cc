/- A loop over a function in a walk; functions that hold one. -/
import Derived.Test.YtabghfcjpaileaaKh
import Derived.Test.YtabghfcjpaileaaNa
namespace Go.Proofs.Ytabghfcjpaileaa
open Go.RowKit Go.Sort Go.Shelf
set_option linter.unusedVariables false
set_option maxRecDepth 100000
section
variable {P : Program} {J : World → Prop} {F : Nat → Prop} {ds : List Deferred} {β : Nat → Nat} {c : Cf} {a : Act} {w : World} {Q : Exit → Act → World → Prop}
/-- A function that holds a loop over a function. -/
theorem inM {f : Nat} {fn : Func} {args : Array Value} {Rt : Ending → World → Prop} (n : Nat) (hf : P.funcs[f]? = some fn) (hJ : J w)
    (k : ∀ a, SI J F [] (fun _ => 0) (cfF fn args) a w → At P (bodyPostM Fence.wide n P fn Rt) (cfF fn args) a w) (hb : fn.body.isSome = true := by kernel_rfl) : Calls P f args w Rt := by
  have hb' : fn.body = some (fn.body.getD .skip) := by
    cases h : fn.body with
    | none => rw [h] at hb; cases hb
    | some x => rfl
  refine (callsIn_wide (n := n)).1 (callsIn_of_wp_marks hf hb' trivial (wpIn_wide.2 (wp_cfC (k _ ⟨?_, rfl, hJ, ?_, ?_, ?_, ?_, ?_⟩))) rfl)
  · apply Array.ext'
    simp [begX, upO]
    exact (List.map_id _).symm
  · intro p hp; cases hp
  · intro p hp; cases hp
  · intro p hp; cases hp
  · intro p hp; cases hp
  · simp [begX, idsB]
/-- Its end. -/
theorem outM {fn : Func} {v : Value} {Rt : Ending → World → Prop} {n D : Nat} (I : SI J F [{ target := .collected D, args := #[] }] β c a w) (hD : w.heap[D]? = some (.deferred (some []))) (h : Rt (.returned v) (w.putObj D (.deferred none))) (hr : resX P fn (c.tm, [], c.nx) = some v := by kernel_rfl) (hd : c.dn = some .ret := by kernel_rfl) : At P (bodyPostM Fence.wide n P fn Rt) c a w := by
  refine ⟨?_⟩
  unfold AtD
  rw [hd]
  have I2 := I.rebase (c' := { c with rows := [] }) rfl rfl rfl (w' := w.putObj D (.deferred none))
  have hres := resX_ok (st := (c.tm, [], c.nx)) I2.inv hr
  show LeavesInM Fence.wide n P fn a.tmps Rt a.defers .returning w
  rw [I.df]
  refine ⟨by simp, .inl ⟨_, _, rfl, run_takeDeferred hD, ?_⟩⟩
  exact ⟨_, hres, h⟩
/-- The loop that is next. -/
def rfQ (c : Cf) : Option (Nat × Operand × Array Tmp × Code × Code × List Ki) := match c.dn, c.rest, c.ks with
  | none, [], Sum.inl (.block id (.rangeFunc g ps x y)) :: ks => some (id, g, ps, x, y, ks)
  | _, _, _ => none
def rfI (c : Cf) : Nat := ((rfQ c).map (·.1)).getD 0
def rfP (c : Cf) : Array Tmp := ((rfQ c).map (·.2.2.1)).getD #[]
def rfA (c : Cf) : Code := ((rfQ c).map (·.2.2.2.1)).getD .skip
def rfB (c : Cf) : Code := ((rfQ c).map (·.2.2.2.2.1)).getD .skip
def rfK (c : Cf) : List Ki := ((rfQ c).map (·.2.2.2.2.2)).getD []
def parV (ps : List Tmp) (vs : List Value) (tm : Vs) : Vs := (ps.zip vs).foldl (fun t p => t.set p.1 (some (Sum.inl p.2))) tm
theorem parV_fr : ∀ (l : List (Tmp × Value)) (t : Array Value) (tm : Vs), t = (tm.map (upO β)).toArray → l.foldl (fun t p => t.setIfInBounds p.1 p.2) t = ((l.foldl (fun t p => t.set p.1 (some (Sum.inl p.2))) tm).map (upO β)).toArray
  | [], t, tm, h => h
  | (x, v) :: l, t, tm, h => by
    simp only [List.foldl_cons]
    refine parV_fr l _ _ ?_
    rw [h, List.setIfInBounds_toArray, List.map_set]
    rfl
theorem parV_ids {nx : Nat} : ∀ (l : List (Tmp × Value)) (tm : Vs), idsB tm nx = true → idsB (l.foldl (fun t p => t.set p.1 (some (Sum.inl p.2))) tm) nx = true
  | [], tm, h => h
  | (x, v) :: l, tm, h => parV_ids l _ (idsB_put h (some x) (fun i o h => by cases h))
theorem rangeQ (n : Nat) (h1 : 1 ≤ n) {gf : Nat} {fn : Func} {lb : Array Value} {encs : Nat → Array Value} {N : Nat} {X : World → Prop} (hf : P.funcs[gf]? = some fn) (hseq : SeqG (n - 1) P gf lb encs N X) (I : SI J F ds β c a w)
    (I' : Nat → World → Prop) (Ix : Code → World → Prop) (hX : ∀ i A, I' i A → X A) (hN : ∀ i A, I' i A → w.heap.size ≤ A.heap.size) (hI : ∀ i A B, I' i A → Sf w.heap.size A B → I' i B) (hIx : ∀ cc A B, Ix cc A → Sf w.heap.size A B → Ix cc B) (h0 : I' 0 w)
    (hps : ∀ i, (encs i).size = (rfP c).size) (tmA : Nat → Vs)
    (hassign : ∀ (l i : Nat) (W : World) (K : Act → World → Prop) (a' : Act), SI (RowKit.Below W.heap.size W) (· < W.heap.size) [] β (cfQ [] (parV (rfP c).toList (encs i).toList c.tm) [] c.nx) a' W → (∀ a'' W', RowKit.Below W.heap.size W W' → a''.tmps = ((tmA i).map (upO β)).toArray → a''.defers = [] → K a'' W') →
      (rfA c).wpIn (Fence.wide.inRound l) (n - 1 - 1) P (Exit.then K (fun _ _ _ => False)) a' W)
    (hbody : ∀ (l i : Nat) (a' : Act) (W : World), i < N → I' i W → a'.tmps = ((tmA i).map (upO β)).toArray → a'.defers = [] → (rfB c).wpIn (Fence.wide.inRound l) (n - 1 - 1) P (postG w.heap.size I' Ix i W) a' W)
    (hdone : ∀ (D : Nat) (W : World) (a' : Act), w.heap.size ≤ D → I' N W → W.heap[D]? = some (.deferred (some [])) → a'.tmps = a.tmps → a'.defers = { target := .collected D, args := #[] } :: ds → QK P Q (rfK c) .normal a' W)
    (hstop : ∀ (D : Nat) (cc : Code) (W : World) (a' : Act), w.heap.size ≤ D → Ix cc W → W.heap[D]? = some (.deferred (some [])) → a'.tmps = a.tmps → a'.defers = { target := .collected D, args := #[] } :: ds → cc.wp P (Exit.inBlock (rfI c) (QK P Q (rfK c))) a' W)
    (hg : (rfQ c).bind (fun r => evQ c.tm r.2.1) = some (Sum.inl (.func (.func gf) #[] lb)) := by kernel_rfl) (hfb : fn.body.isNone = false := by kernel_rfl) (hfn : (fn.name == "runtime.NumGoroutine") = false := by kernel_rfl) : At P Q c a w := by
  cases hq : rfQ c with
  | none => rw [hq] at hg; cases hg
  | some r =>
    obtain ⟨id, g, ps, x, y, ks⟩ := r
    unfold rfI rfK at hstop
    unfold rfK at hdone
    unfold rfP at hps
    unfold rfP rfA at hassign
    unfold rfB at hbody
    simp only [hq, Option.map_some, Option.getD_some, Option.bind_some] at hg hps hassign hbody hdone hstop
    unfold rfQ at hq
    split at hq
    · next id' g' ps' x' y' ks' hd hr hk =>
      cases hq
      refine ⟨?_⟩
      unfold AtD
      rw [hd, hr, hk]
      show (Code.block id (.rangeFunc g ps x y)).wp P (QK P Q ks) a w
      refine (wpIn_wide (n := n)).1 (wpIn_block ?_)
      have hge : a.eval g = .func (.func gf) #[] lb := evQ_ok I.fr hg
      obtain ⟨bd, hbd⟩ : ∃ bd, fn.body = some bd := by
        cases hfx : fn.body with
        | none => rw [hfx] at hfb; cases hfb
        | some x => exact ⟨x, rfl⟩
      refine range_g h1 hge (enters_of hf hfn hbd) hseq hps I' Ix hX hI hIx h0 (fun i a' W => a'.tmps = ((tmA i).map (upO β)).toArray ∧ a'.defers = []) (fun i a' W l o o' _ _ h => h) ?_ ?_ ?_ ?_
      · intro l i W K hi hIi hK
        refine hassign l i W K _ ⟨?_, rfl, RowKit.Below.refl _ _, fun p hp => (by cases hp), fun p hp => (by cases hp), fun p hp => (by cases hp), fun p hp => (by cases hp), ?_⟩ fun a'' W' hb ht hdf => ?_
        · have := parV_fr (β := β) (ps.toList.zip (encs i).toList) a.tmps c.tm I.fr
          rw [← Array.foldl_toList]
          rw [Array.toList_zip]
          exact this
        · exact parV_ids _ _ I.ids
        · have hs := hN _ _ hIi
          exact hK a'' W' ⟨hb.size, fun k o _ hk _ => (hb.block k (Array.getElem?_eq_some_iff.1 hk).1).trans hk⟩ (hI _ _ _ hIi (Sf.grow hb hs)) ⟨ht, hdf⟩
      · rintro l i a' W hi hIi ⟨ht, hdf⟩
        exact hbody l i a' W hi hIi ht hdf
      · intro D W hD hIN hDD
        exact hdone D W _ hD hIN hDD rfl (by rw [I.df])
      · intro D cc W hD hIN hDD
        exact wpIn_wide.2 (hstop D cc W _ hD hIN hDD rfl (by rw [I.df]))
    · cases hq
def SI.cfg (I : SI J F ds β c a w) : Cf := c
theorem atE (h : Q .normal a w) (hr : (c.rest, c.ks, c.dn) = ([], [], none) := by kernel_rfl) : At P Q c a w := by
  simp only [Prod.mk.injEq] at hr
  refine ⟨?_⟩
  unfold AtD
  rw [hr.2.2, hr.1, hr.2.1]
  exact h
theorem SI.frE {β' : Nat → Nat} {nx : Nat} (I : SI J F ds β' c a w) (h : ∀ i, i < nx → β' i = β i) (tm0 : Vs) (he : c.tm = tm0 := by kernel_rfl) (hn : c.nx = nx := by kernel_rfl) : a.tmps = (tm0.map (upO β)).toArray := by
  rw [I.fr, he]
  refine congrArg List.toArray (List.map_congr_left fun s hs => ?_)
  obtain ⟨t, ht⟩ := List.mem_iff_getElem?.1 hs
  have hi := I.ids
  rw [he, hn] at hi
  exact upO_agree hi h ht
theorem agN {n m : Nat} {β β' β'' : Nat → Nat} (h : Agree n β β') (k : Agree m β' β'') (hn : n = 1 := by kernel_rfl) (hm : m = 1 := by kernel_rfl) : ∀ i, i < 1 → β'' i = β i := by
  subst hn hm
  exact fun i hi => (k i hi).trans (h i hi)
/-- A region of a function by its number. -/
def opsOf (k : Nat) : Code → Option (Array Oper)
  | .region id ops _ => if id = k then some ops else none
  | .seq x y => (opsOf k x).or (opsOf k y)
  | .block _ x => opsOf k x
  | .cond _ x y => (opsOf k x).or (opsOf k y)
  | .loop x => opsOf k x
  | .scope x => opsOf k x
  | .rangeFunc _ _ x y => (opsOf k x).or (opsOf k y)
  | _ => none
def regO (fn : Func) (k : Nat) : Array Oper := (fn.body.bind (opsOf k)).getD #[]
theorem KeepsFrom.of_grow {B : Nat} {W W' : World} {G : Nat → Prop} (h : Grow G W W') (hG : ∀ (k : Nat) (o : Obj), W.heap[k]? = some o → o.isCells = false → G k) : KeepsFrom B W W' := ⟨h.size, fun k o _ hk ho => (h.block k (Array.getElem?_eq_some_iff.1 hk).1 (hG k o hk ho)).trans hk⟩
end
end Go.Proofs.Ytabghfcjpaileaa
