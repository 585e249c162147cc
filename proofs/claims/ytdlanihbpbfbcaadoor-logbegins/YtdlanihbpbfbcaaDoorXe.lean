/- A walk by reckoning, sixth part: in a round of a loop over a function; such a loop itself, whose iterator hands out its members by their numbers, and may be told to stop. No function of the program is named here. -/
import Derived.Test.YtdlanihbpbfbcaaDoorXd
import Derived.RangeFuncNested
import Derived.RangeFuncBound
import Derived.RangeFuncCalls
import Derived.RangeFuncLeaves
import Derived.Shelf.Abstract
import Derived.Shelf.RegionOpen
import Derived.WalkKit
import Derived.OwnWalkIn
import Derived.TacticsInMore
import Derived.LoopNIn
import Derived.LoopIn
namespace Go.Proofs.YtdlanihbpbfbcaaDoor
open Go.RowKit Go.Sort Go.Shelf
set_option linter.unusedVariables false
section
variable {P : Program} {ops : Array Oper} {Q : Exit → Act → World → Prop} {l n : Nat}
theorem rowsIn_round {row : String} {args : Array Value} {w : World} {R : Value → World → Prop} (h : Go.Rows P row args w R) : RowsIn (Fence.wide.inRound l) n P row args w R := by
  intro c cs _
  obtain ⟨v, w', r, s⟩ := h c cs
  exact ⟨v, w', r, stepsIn_wide.2 s⟩
/-- An operation in a round. -/
theorem wp_round {o : Oper} {a : Act} {w : World} {K : Act → World → Prop} (hd : ∀ c, o.op ≠ .defer c) (h : o.wp P a w K Q) : o.wpIn (Fence.wide.inRound l) n P a w K Q := by
  unfold Oper.wpIn
  refine ⟨fun _ _ => trivial, ?_⟩
  rw [Oper.semAt_eq _ _ _ hd]
  unfold Oper.wp at h
  generalize (execOp a.eval o).run P w = r at h
  cases r with
  | ok x w' =>
    cases x with
    | enter f args => exact ⟨fun h => by simp [Fence.wide] at h, CallsIn.inRound l (callsIn_wide.2 h)⟩
    | row r args => exact ⟨fun h => by simp [Fence.wide] at h, rowsIn_round h⟩
    | value v => exact h
    | skip => exact h
    | defer d => exact h
    | _ => exact h.elim
  | halt x w' => cases x <;> first | exact h | exact h.elim
theorem noDef_at (h : noDefB ops = true) {i : Nat} {o : Oper} (ho : ops[i]? = some o) : ∀ c, o.op ≠ .defer c := by
  intro c hc
  have h1 := (Array.all_eq_true_iff_forall_mem.1 h) o (Array.mem_of_getElem? ho)
  rw [hc] at h1
  cases h1
theorem anyIn_inv (hn : noDefB ops = true) (I : Array Bool → Act → World → Prop)
    (hstep : ∀ (listed : Array Bool) (a' : Act) (w' : World) (i : Nat) (o : Oper), listed.size = ops.size → ops[i]? = some o → I listed a' w' → i ∈ Region.ready .any ops listed → wpG ops o P a' w' (fun a'' w'' => I (listed.setIfInBounds i true) a'' w'') Q)
    (hend : ∀ listed a w, listed.size = ops.size → I listed a w → Region.ready .any ops listed = [] → Q .normal a w) :
    ∀ (fuel : Nat) (listed : Array Bool) (a : Act) (w : World), listed.size = ops.size → listed.toList.count false ≤ fuel → I listed a w → wpAnyIn (Fence.wide.inRound l) n P .any ops Q fuel listed a w
  | 0, listed, a, w, hs, hc, hI => by
    have hr : Region.ready .any ops listed = [] := by
      rw [List.eq_nil_iff_forall_not_mem]
      intro j hj
      obtain ⟨hun, o, ho, _⟩ := mem_ready.1 hj
      have hjs : j < listed.size := by have := (Array.getElem?_eq_some_iff.1 ho).1; omega
      have h1 : listed[j]? = some false := by
        rw [Array.getElem?_eq_getElem hjs]
        simp [Array.getD, hjs] at hun
        rw [hun]
      have h2 := count_set listed.toList j (by simpa using h1)
      omega
    exact ⟨hr, hend listed a w hs hI hr⟩
  | fuel + 1, listed, a, w, hs, hc, hI => by
    refine ⟨fun hr => hend listed a w hs hI hr, fun i hi => ?_⟩
    obtain ⟨hun, o, ho, _⟩ := mem_ready.1 hi
    have hjs : i < listed.size := by have := (Array.getElem?_eq_some_iff.1 ho).1; omega
    have h1 : listed[i]? = some false := by
      rw [Array.getElem?_eq_getElem hjs]
      simp [Array.getD, hjs] at hun
      rw [hun]
    have h2 := count_set listed.toList i (by simpa using h1)
    have h := wpG_mono (fun a' w' h' => anyIn_inv hn I hstep hend fuel _ a' w' (by simpa using hs) (by rw [Array.toList_setIfInBounds]; omega) h') (hstep listed a w i o hs ho hI hi)
    unfold wpOpIn
    rw [ho]
    unfold wpG at h
    simp only []
    split
    · next hw => rw [if_pos hw] at h; exact wp_round (noDef_at hn ho) h
    · next hw => rw [if_neg hw] at h; exact ⟨fun _ _ => trivial, h⟩
theorem listIn_inv (hn : noDefB ops = true) (hb : backB2 ops = true) (I : Array Bool → Act → World → Prop)
    (hstep : ∀ (listed : Array Bool) (a' : Act) (w' : World) (i : Nat) (o : Oper), listed.size = ops.size → ops[i]? = some o → I listed a' w' → i ∈ Region.ready .any ops listed → wpG ops o P a' w' (fun a'' w'' => I (listed.setIfInBounds i true) a'' w'') Q)
    (hend : ∀ (listed : Array Bool) (a : Act) (w : World), listed.size = ops.size → (∀ i, i < ops.size → listed.getD i false = true) → I listed a w → Q .normal a w) :
    ∀ (l' : List Oper) (k : Nat) (listed : Array Bool) (a : Act) (w : World), l' = ops.toList.drop k → listed.size = ops.size → (∀ i, i < ops.size → listed.getD i false = decide (i < k)) → I listed a w → wpListIn (Fence.wide.inRound l) n P ops Q l' a w
  | [], k, listed, a, w, hl, hs, hd, hI => by
    refine wpListIn_nil (hend listed a w hs (fun i hi => ?_) hI)
    have hk : ops.size ≤ k := by
      have := congrArg List.length hl
      simp at this
      omega
    rw [hd i hi]
    exact decide_eq_true (by omega)
  | o :: rest, k, listed, a, w, hl, hs, hd, hI => by
    have hk : k < ops.size := by
      have := congrArg List.length hl
      simp at this
      omega
    have hcons := List.drop_eq_getElem_cons (l := ops.toList) (i := k) (by simpa using hk)
    rw [hcons] at hl
    obtain ⟨h1, h2⟩ := List.cons.inj hl
    have ho : ops[k]? = some o := by rw [h1]; simp [hk]
    have hr : k ∈ Region.ready .any ops listed := by
      refine mem_ready.2 ⟨?_, o, ho, fun e he hbd => ?_⟩
      · have h3 := hd k hk
        have hk' : k < listed.size := by omega
        simp [Array.getD, hk'] at h3 ⊢
        exact h3
      · have h3 := (List.all_eq_true.1 hb) k (by simpa using hk)
        simp only [ho] at h3
        have h4 := (Array.all_eq_true_iff_forall_mem.1 h3) e he
        have h5 : e.on < k := by simpa [hbd] using h4
        rw [hd _ (by omega)]
        exact decide_eq_true h5
    have h := wpG_mono (fun a' w' h => listIn_inv hn hb I hstep hend rest (k + 1) _ a' w' h2 (by simpa using hs) (fun i hi => by
      have hi' : i < listed.size := by omega
      by_cases e : i = k
      · subst e
        simp [Array.getD, hi']
      · have := hd i hi
        simp [Array.getD, hi'] at this ⊢
        rw [Array.getElem_setIfInBounds_ne hi' (fun h => e h.symm), this]
        exact decide_eq_decide.2 ⟨fun h => by omega, fun h => by omega⟩) h) (hstep listed a w k o hs ho hI hr)
    refine wpListIn_step fun K hK => ?_
    unfold wpG at h
    split
    · next hw => rw [if_pos hw] at h; exact wp_round (noDef_at hn ho) (Oper.wp_mono hK h)
    · next hw => rw [if_neg hw] at h; exact ⟨fun _ _ => trivial, hK _ _ h⟩
/-- A region in a round. -/
theorem RegV.round {id : Nat} {d : Bool} {a : Act} {w : World} (hm : P.follows .mixedOrders = true) (h : RegV P ops Q a w) (hn : noDefB ops = true) : (Code.region id ops d).wpIn (Fence.wide.inRound l) n P Q a w := by
  obtain ⟨hb, I, h0, step, hend⟩ := h
  cases d with
  | true => exact wpIn_region_any hm (anyIn_inv hn I step (fun listed a' w' hs hI hr => hend listed a' w' hs (all_done2 hb hs hr) hI) _ _ _ _ (by simp) (by simp) (h0 _ (.inr rfl)))
  | false =>
    exact wpIn_region_list (listIn_inv hn hb I step hend ops.toList 0 (Array.replicate ops.size false) a w rfl (by simp) (fun i hi => by simp [Array.getD, hi]) (h0 _ (.inl rfl)))
end
theorem rnd_round {P : Program} {l n : Nat} {c : Code} {Q : Exit → Act → World → Prop} : ∀ m, rndW (fun c Q a w => c.wpIn (Fence.wide.inRound l) n P Q a w) c Q m = Code.roundsIn (Fence.wide.inRound l) n P c Q m
  | 0 => rfl
  | m + 1 => by
    funext a w
    show c.wpIn _ n P (Exit.then (rndW (fun c Q a w => c.wpIn (Fence.wide.inRound l) n P Q a w) c Q m) Q) a w = c.wpIn _ n P (Exit.then (Code.roundsIn (Fence.wide.inRound l) n P c Q m) Q) a w
    rw [rnd_round m]
/-- Codes in a round. -/
def Lg.round {P : Program} (hm : P.follows .mixedOrders = true) (l n : Nat) : Lg P where
  wp c Q a w := c.wpIn (Fence.wide.inRound l) n P Q a w
  skip := wpIn_skip
  ret := wpIn_ret
  exit := wpIn_exit
  region h := h.1.round hm h.2
  seq := wpIn_seq
  condT := wpIn_cond_true
  condF := wpIn_cond_false
  block := wpIn_block
  loop m h := wpIn_loop_rounds m (by rw [← rnd_round m]; exact h)
/-- Rows by their numbers in a list. -/
def numR : Nat → List (Nat × Array Value) → Rows
  | _, [] => []
  | n, p :: rs => (n, p.2) :: numR (n + 1) rs
def bOf (rs : List (Nat × Array Value)) (i : Nat) : Nat := match rs[i]? with
  | some p => p.1
  | none => 0
theorem numR_mem : ∀ {rs : List (Nat × Array Value)} {n : Nat} {q : Nat × Array Value}, q ∈ numR n rs → ∃ i g, rs[i]? = some (g, q.2) ∧ q.1 = n + i
  | [], n, q, h => by simp [numR] at h
  | p :: rs, n, q, h => by
    simp only [numR, List.mem_cons] at h
    rcases h with rfl | h
    · exact ⟨0, p.1, rfl, rfl⟩
    · obtain ⟨i, g, h1, h2⟩ := numR_mem h
      exact ⟨i + 1, g, by simpa using h1, by omega⟩
/-- What is at hand where a piece of code begins. -/
theorem inv_of {w0 w : World} {a : Act} {tm : Vs} (rs : List (Nat × Array Value)) (hfr : a.tmps = (tm.map (upO (bOf rs))).toArray) (bw : RowKit.Below w0.heap.size w0 w)
    (hrows : RowsAt w rs) (hlo : ∀ p ∈ rs, w0.heap.size ≤ p.1) (hne : (rs.map (·.1)).Nodup) : Inv (w, rs.length, bOf rs, a.defers) w0 (bOf rs) tm (numR 0 rs) rs.length a w := by
  have hb : ∀ {i g c}, rs[i]? = some (g, c) → bOf rs i = g := fun h => by unfold bOf; rw [h]
  refine ⟨hfr, rfl, bw, ?_, ?_, ?_, ?_, ⟨Nat.le_refl _, fun k o h _ => h⟩, Nat.le_refl _, fun _ _ => rfl⟩
  · intro p hp
    obtain ⟨i, g, h1, h2⟩ := numR_mem hp
    rw [h2, Nat.zero_add, hb h1]
    exact hrows.get i g p.2 h1
  · intro p hp
    obtain ⟨i, g, h1, h2⟩ := numR_mem hp
    rw [h2, Nat.zero_add, hb h1]
    exact hlo _ (List.mem_of_getElem? h1)
  · intro p hp
    obtain ⟨i, g, h1, h2⟩ := numR_mem hp
    rw [h2, Nat.zero_add]
    exact (List.getElem?_eq_some_iff.1 h1).1
  · intro p hp q hq hpq
    obtain ⟨i, g, h1, h2⟩ := numR_mem hp
    obtain ⟨j, g', h3, h4⟩ := numR_mem hq
    rw [h2, h4, Nat.zero_add, Nat.zero_add, hb h1, hb h3]
    intro e
    subst e
    have hij : i ≠ j := fun e => hpq (by rw [h2, h4, e])
    have k1 : (rs.map (·.1))[i]? = some g := by rw [List.getElem?_map, h1]; rfl
    have k2 : (rs.map (·.1))[j]? = some g := by rw [List.getElem?_map, h3]; rfl
    obtain ⟨m1, m2⟩ := List.getElem?_eq_some_iff.1 k1
    obtain ⟨m3, m4⟩ := List.getElem?_eq_some_iff.1 k2
    exact hij ((List.getElem_inj hne).1 (m2.trans m4.symm))
theorem rows_map {w : World} {f : Nat → Nat} : ∀ {ids : List (Nat × Array Value)}, (∀ p ∈ ids, HasRow w (f p.1) p.2) → RowsAt w (ids.map fun p => (f p.1, p.2))
  | [], _ => trivial
  | p :: ids, h => ⟨h p List.mem_cons_self, rows_map fun q hq => h q (List.mem_cons_of_mem _ hq)⟩
/-- A piece of code, by reckoning: the exit, and some rows behind it. -/
theorem roB {P : Program} {T : World → Prop} (L : Lg P) (fs : Fq P T) {c : Code} {Q : Exit → Act → World → Prop} {w0 w : World} {a : Act} {κ : World × Nat × (Nat → Nat) × List Deferred} {tm : Vs} {rows : Rows} {nx : Nat} {β : Nat → Nat} (I : Inv κ w0 β tm rows nx a w) (hT : ∀ w', RowKit.Below w0.heap.size w0 w' → T w')
    (ex : Exit) (ids : List (Nat × Array Value)) (ts : List (Nat × SV)) (hi : ∀ p ∈ ids, p.1 < κ.2.1)
    (hK : ∀ a' w', a'.defers = κ.2.2.2 → (∀ p ∈ ts, a'.tmps.getD p.1 undef = up κ.2.2.1 p.2) → RowKit.Below w0.heap.size w0 w' → KO κ.1 w' → RowsAt w' (ids.map fun p => (κ.2.2.1 p.1, p.2)) → Q ex a' w') (hm : P.follows .mixedOrders = true := by kernel_rfl) (ht : idsB (ts.map fun p => some p.2) κ.2.1 = true := by kernel_rfl)
    (hs : (runC P T (foV P) (ioV P) (zeV P) c fs (tm, rows, nx)).isSome = true := by kernel_rfl)
    (h : (runC P T (foV P) (ioV P) (zeV P) c fs (tm, rows, nx)).map (fun r => (r.1, ids.map (fun p => rowOf r.2.1.2.1 p.1), ts.map (fun p => (r.2.1.1[p.1]?).join), r.2.2.2.1.map (·.1), r.2.2.2.2.isEmpty)) = (runC P T (foV P) (ioV P) (zeV P) c fs (tm, rows, nx)).map (fun r => (ex, ids.map (fun p => some p.2), ts.map (fun p => some p.2), r.2.2.2.1.map (·.2), true)) := by kernel_rfl) :
    L.wp c Q a w := by
  cases hr : runC P T (foV P) (ioV P) (zeV P) c fs (tm, rows, nx) with
  | none => rw [hr] at hs; cases hs
  | some r =>
    obtain ⟨ex', st', q', e⟩ := r
    rw [hr] at h
    simp only [Option.map_some, Option.some.injEq, Prod.mk.injEq, List.isEmpty_iff] at h
    obtain ⟨rfl, h1, h0, h2, h3⟩ := h
    refine runC_ok L (ty_ok hm) hT hr ⟨eqs_of h2, fun p hp => by rw [h3] at hp; cases hp⟩ I fun β' a' w' I' => hK a' w' I'.df (fun p hp => ?_) I'.bw I'.kx.1 ?_
    · obtain ⟨i, hi⟩ := List.mem_iff_getElem?.1 hp
      have := congrArg (·[i]?) h0
      simp only [List.getElem?_map, hi, Option.map_some, Option.some.injEq] at this
      exact (tm_get I'.fr this).trans (upO_agree ht (fun j hj => I'.kx.2.2 j hj) (t := i) (s := some p.2) (by rw [List.getElem?_map, hi]; rfl))
    have hrow : ∀ p ∈ ids, HasRow w' (κ.2.2.1 p.1) p.2 := by
      intro p hp
      have h4 : rowOf st'.2.1 p.1 = some p.2 := by
        obtain ⟨i, hi⟩ := List.mem_iff_getElem?.1 hp
        have := congrArg (·[i]?) h1
        simp only [List.getElem?_map, hi, Option.map_some, Option.some.injEq] at this
        exact this
      rw [← I'.kx.2.2 p.1 (hi p hp)]
      exact I'.row _ (rowOf_mem h4)
    exact rows_map hrow
theorem KO.from {w w' : World} (h : KO w w') (B : Nat) : KeepsFrom B w w' := ⟨h.1, fun k o _ hk ho => h.2 k o hk fun c t e => by subst e; cases ho⟩
theorem belowPut {B : Nat} (W : World) {l : Nat} (o : Obj) (h : B ≤ l) : RowKit.Below B W (W.putObj l o) :=
  ⟨rfl, rfl, rfl, by simp [World.putObj], fun k hk => World.putObj_heap_other (by omega)⟩
theorem HasRow.putObj {w : World} {g l : Nat} {c : Array Value} {o o' : Obj} (h : HasRow w g c) (hl : w.heap[l]? = some o) (ho : o.isCells = false) : HasRow (w.putObj l o') g c := by
  obtain ⟨t, h⟩ := h
  refine ⟨t, (World.putObj_heap_other ?_).trans h⟩
  rintro rfl
  rw [h] at hl; cases hl; cases ho
/-- Blocks below a number lie as they lay. -/
def KpN (N : Nat) (W W' : World) : Prop := W.heap.size ≤ W'.heap.size ∧ ∀ k, k < N → W'.heap[k]? = W.heap[k]?
theorem KpN.trans {N : Nat} {A B C : World} (h : KpN N A B) (k : KpN N B C) : KpN N A C := ⟨Nat.le_trans h.1 k.1, fun i hi => (k.2 i hi).trans (h.2 i hi)⟩
theorem KpN.put {N : Nat} (W : World) {l : Nat} (o : Obj) (h : N ≤ l) : KpN N W (W.putObj l o) := ⟨by simp [World.putObj], fun k hk => World.putObj_heap_other (by omega)⟩
theorem KpN.of {w A B : World} (h : RowKit.Below w.heap.size w A) (k : RowKit.Below w.heap.size w B) (hs : A.heap.size ≤ B.heap.size) : KpN w.heap.size A B := ⟨hs, fun i hi => (k.block i hi).trans (h.block i hi).symm⟩
/-- What an iterator that hands out N members owes its caller, who may tell it to stop. -/
def SeqN (n : Nat) (P : Program) (g : Nat) (lb : Array Value) (encs : Nat → Array Value) (Kp : World → World → Prop) (N : Nat) (w : World) : Prop :=
  ∀ (l : Nat) (J : Nat → World → Prop) (Jx : World → Prop) (W : World), RowKit.Below w.heap.size w W → (∀ i A B, J i A → RowKit.Below W.heap.size A B → J i B) → (∀ A B, Jx A → RowKit.Below W.heap.size A B → Jx B) →
    (∀ i W1, i < N → J i W1 → YieldAt Fence.wide (n - 1) P l (encs i) W1 fun e W' => (e = .returned (.bool true) ∧ J (i + 1) W' ∧ Kp W1 W') ∨ (e = .returned (.bool false) ∧ Jx W')) →
    J 0 W → CallsIn Fence.wide n P g (#[.func (.yield l) #[] #[]] ++ lb) W fun e W' => (∃ v, e = .returned v) ∧ (J N W' ∨ Jx W')
/-- What a round owes. -/
def postN (B : Nat) (Kp : World → World → Prop) (I : Nat → World → Prop) (Ix : Code → World → Prop) (i : Nat) (W : World) : Exit → Act → World → Prop
  | .normal, _, W' => KeepsFrom B W W' ∧ Kp W W' ∧ I (i + 1) W'
  | .ret, _, W' => KeepsFrom B W W' ∧ Ix .ret W'
  | .exit id, _, W' => KeepsFrom B W W' ∧ Ix (.exit id) W'
  | .goto t, _, W' => KeepsFrom B W W' ∧ Ix (.goto t) W'
  | .panic _, _, _ => False
  | .outgrown, _, _ => False
/-- A range over a function. The way follows the library's own law for iterators without state of their own in cells. -/
theorem range_seq {P : Program} {n : Nat} {g : Operand} {ps : Array Tmp} {assign body : Code} {Q : Exit → Act → World → Prop} {a : Act} {w : World}
    (h1 : 1 ≤ n) {gf : Nat} {lb : Array Value} (hg : a.eval g = .func (.func gf) #[] lb) (eg : ∀ args w, (callFunc gf args).run P w = .ok (.enter gf args) w)
    {encs : Nat → Array Value} {Kp : World → World → Prop} {N : Nat} (hseq : SeqN (n - 1) P gf lb encs Kp N w)
    (hKt : ∀ {A B C : World}, Kp A B → Kp B C → Kp A C) (hKb : ∀ (W : World) (l : Nat) (o : Obj), w.heap.size ≤ l → Kp W (W.putObj l o)) (hps : ∀ i, (encs i).size = ps.size)
    (I : Nat → World → Prop) (Ix : Code → World → Prop) (hI : ∀ i A B, I i A → RowKit.Below w.heap.size A B → I i B) (hIx : ∀ c A B, Ix c A → RowKit.Below w.heap.size A B → Ix c B) (h0 : I 0 w)
    (Ax : Nat → Act → World → Prop) (hAx : ∀ i a' W l o o', W.heap[l]? = some o → o.isCells = false → Ax i a' W → Ax i a' (W.putObj l o'))
    (hassign : ∀ (l i : Nat) (W : World) (K : Act → World → Prop), i < N → I i W → (∀ a' W', KeepsFrom w.heap.size W W' → Kp W W' → I i W' → Ax i a' W' → K a' W') →
      assign.wpIn (Fence.wide.inRound l) (n - 1 - 1) P (Exit.then K (fun _ _ _ => False)) { tmps := (ps.zip (encs i)).foldl (fun t (p, v) => t.setIfInBounds p v) a.tmps, defers := [] } W)
    (hbody : ∀ (l i : Nat) (a' : Act) (W : World), i < N → I i W → Ax i a' W → body.wpIn (Fence.wide.inRound l) (n - 1 - 1) P (postN w.heap.size Kp I Ix i W) a' W)
    (hdone : ∀ (D : Nat) (W : World), w.heap.size ≤ D → I N W → W.heap[D]? = some (.deferred (some [])) → Q .normal { a with defers := { target := .collected D, args := #[] } :: a.defers } W)
    (hstop : ∀ (D : Nat) (c : Code) (W : World), w.heap.size ≤ D → Ix c W → W.heap[D]? = some (.deferred (some [])) → c.wpIn Fence.wide n P Q { a with defers := { target := .collected D, args := #[] } :: a.defers } W) :
    (Code.rangeFunc g ps assign body).wpIn Fence.wide n P Q a w := by
  refine wpIn_rangeFunc ?_
  intro fn hfn
  rw [Fence.wide_round]
  obtain ⟨rec, hrec⟩ : ∃ rec : LoopState → Option Code → Loop, rec = fun st pe => { state := st, pending := pe, fn, tmps := a.tmps, params := ps, assign, body, defers := w.heap.size } := ⟨_, rfl⟩
  obtain ⟨W1, hW1⟩ : ∃ W1, (w.alloc (.deferred (some []))).alloc (.loop (rec .ready none)) = W1 := ⟨_, rfl⟩
  have hs1 : W1.heap.size = w.heap.size + 1 + 1 := by rw [← hW1]; simp
  have hL1 : W1.heap[w.heap.size + 1]? = some (.loop (rec .ready none)) := by
    rw [← hW1]; have := World.alloc_heap_new (w.alloc (.deferred (some []))) (.loop (rec .ready none)); rwa [World.size_alloc] at this
  have hK1 : W1.heap[w.heap.size]? = some (.deferred (some [])) := by
    rw [← hW1]; exact (Below.heap_alloc _ _ _ (by simp)).trans (World.alloc_heap_new w _)
  have hb1 : RowKit.Below w.heap.size w W1 := by
    rw [← hW1]; exact ((RowKit.Below.refl _ w).alloc (Nat.le_refl _) _).alloc (by simp) _
  refine ⟨w.heap.size + 1, [{ target := .collected w.heap.size, args := #[] }], W1, { target := .fn (.func gf) lb, args := #[.func (.yield (w.heap.size + 1)) #[] #[]] }, W1, gf,
    #[.func (.yield (w.heap.size + 1)) #[] #[]] ++ lb, W1, ?_, ?_, ?_, ?_, fun _ => h1, ?_⟩
  · rw [← hW1, hrec]; exact run_enterLoop_outer _ _ _ _ _
  · simp only [resolve, hg]
    simp [go_sem]
  · intro f' _; exact trivial
  · simp [invoke, go_sem, eg]
  · refine (hseq (w.heap.size + 1)
      (fun i W => I i W ∧ W.heap[w.heap.size + 1]? = some (.loop (rec .ready none)) ∧ W.heap[w.heap.size]? = some (.deferred (some [])))
      (fun W => ∃ c, Ix c W ∧ W.heap[w.heap.size + 1]? = some (.loop (rec .done (some c))) ∧ W.heap[w.heap.size]? = some (.deferred (some [])))
      W1 hb1 (fun i A B hs hb => ⟨hI i A B hs.1 (hb.mono (by omega)), (hb.block _ (by omega)).trans hs.2.1, (hb.block _ (by omega)).trans hs.2.2⟩)
      (fun A B hs hb => by obtain ⟨c, h1, h2, h3⟩ := hs; exact ⟨c, hIx c A B h1 (hb.mono (by omega)), (hb.block _ (by omega)).trans h2, (hb.block _ (by omega)).trans h3⟩) ?_ ⟨hI _ _ _ h0 hb1, hL1, hK1⟩).mono ?_
    · rintro i W hiN ⟨hi, hl, hk⟩
      have hy := run_yield (P := P) (args := encs i) hl (by rw [hrec]; exact hps i)
      rw [hrec] at hy
      refine ⟨fn, _, assign, body, hy, roundIn_of_wpIn hfn (hassign _ i W _ hiN hi ?_)⟩
      clear hy
      intro a' Wa hkfa hkpa hia hax
      replace hl := hkfa.same _ _ (by omega) hl rfl
      replace hk := hkfa.same _ _ (Nat.le_refl _) hk rfl
      have hlt : w.heap.size + 1 < Wa.heap.size := (Array.getElem?_eq_some_iff.1 hl).1
      refine ⟨_, run_beginRound hl (by rw [hrec]), ?_⟩
      have hl2 : (Wa.putObj (w.heap.size + 1) (.loop { rec .ready none with state := .busy })).heap[w.heap.size + 1]? = some (.loop { rec .ready none with state := .busy }) := World.putObj_heap_same hlt
      have hk2 : (Wa.putObj (w.heap.size + 1) (.loop { rec .ready none with state := .busy })).heap[w.heap.size]? = some (.deferred (some [])) := (World.putObj_heap_other (by omega)).trans hk
      refine wpIn_mono (hbody _ i a' _ hiN (hI _ _ _ hia (belowPut _ _ (by omega))) (hAx i a' _ _ _ _ hl rfl hax)) ?_
      have fin : ∀ (jump : Option Code) (W3 : World), KeepsFrom w.heap.size (Wa.putObj (w.heap.size + 1) (.loop { rec .ready none with state := .busy })) W3 →
          (Instr.endRound (w.heap.size + 1) jump).run P W3 = .ok (.bool jump.isNone) (W3.putObj (w.heap.size + 1) (.loop (rec (if jump.isNone then .ready else .done) jump))) ∧
          (W3.putObj (w.heap.size + 1) (.loop (rec (if jump.isNone then .ready else .done) jump))).heap[w.heap.size + 1]? = some (.loop (rec (if jump.isNone then .ready else .done) jump)) ∧
          (W3.putObj (w.heap.size + 1) (.loop (rec (if jump.isNone then .ready else .done) jump))).heap[w.heap.size]? = some (.deferred (some [])) := fun jump W3 hk3 => by
        have hl3 := hk3.same _ _ (by omega) hl2 rfl
        have := run_endRound (P := P) jump hl3
        rw [hrec] at this ⊢
        exact ⟨this, World.putObj_heap_same (Array.getElem?_eq_some_iff.1 hl3).1, (World.putObj_heap_other (by omega)).trans (hk3.same _ _ (Nat.le_refl _) hk2 rfl)⟩
      rintro e a3 W3 hp
      cases e with
      | normal =>
        obtain ⟨hk3, hkp3, hi3⟩ := hp
        obtain ⟨hr, hl4, hk4⟩ := fin none W3 hk3
        exact ⟨_, _, hr, .inl ⟨rfl, ⟨hI _ _ _ hi3 (belowPut _ _ (by omega)), hl4, hk4⟩, hKt hkpa (hKt (hKt (hKb _ _ _ (by omega)) hkp3) (hKb _ _ _ (by omega)))⟩⟩
      | ret =>
        obtain ⟨hk3, hi3⟩ := hp
        obtain ⟨hr, hl4, hk4⟩ := fin (some .ret) W3 hk3
        exact ⟨_, _, hr, .inr ⟨rfl, .ret, hIx _ _ _ hi3 (belowPut _ _ (by omega)), hl4, hk4⟩⟩
      | exit id =>
        obtain ⟨hk3, hi3⟩ := hp
        obtain ⟨hr, hl4, hk4⟩ := fin (some (.exit id)) W3 hk3
        exact ⟨_, _, hr, .inr ⟨rfl, .exit id, hIx _ _ _ hi3 (belowPut _ _ (by omega)), hl4, hk4⟩⟩
      | goto t =>
        obtain ⟨hk3, hi3⟩ := hp
        obtain ⟨hr, hl4, hk4⟩ := fin (some (.goto t)) W3 hk3
        exact ⟨_, _, hr, .inr ⟨rfl, .goto t, hIx _ _ _ hi3 (belowPut _ _ (by omega)), hl4, hk4⟩⟩
      | panic ch => exact hp.elim
      | outgrown => exact hp.elim
    · rintro e W2 ⟨⟨v, rfl⟩, (⟨hi, hl, hk⟩ | ⟨c, hi, hl, hk⟩)⟩
      · exact ⟨none, _, by have := run_endLoop (P := P) hl (by rw [hrec]; simp); rw [hrec] at this; exact this, hdone _ _ (Nat.le_refl _) (hI _ _ _ hi (belowPut _ _ (by omega))) ((World.putObj_heap_other (by omega)).trans hk)⟩
      · exact ⟨some c, _, by have := run_endLoop (P := P) hl (by rw [hrec]; simp); rw [hrec] at this; exact this, hstop _ c _ (Nat.le_refl _) (hIx _ _ _ hi (belowPut _ _ (by omega))) ((World.putObj_heap_other (by omega)).trans hk)⟩
end Go.Proofs.YtdlanihbpbfbcaaDoor
