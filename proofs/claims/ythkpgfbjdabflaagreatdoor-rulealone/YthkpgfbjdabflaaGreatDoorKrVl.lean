/- Laid one behind the other: Vl, Vm, Vn. -/
import Derived.Test.YthkpgfbjdabflaaGreatDoorKrVi
import Derived.Tactics
import Derived.Tactics2
import Derived.Defers
import Derived.Recover
import Derived.Laws.Pointers
namespace Go.Proofs.YthkpgfbjdabflaaGreatDoor
open Go.RowKit Go.Sort
set_option linter.unusedVariables false
set_option maxRecDepth 100000
theorem runN_end {f : Fr} (h : f.sd ≠ 0) : ∀ n, runN n f = f
  | 0 => rfl
  | n + 1 => by unfold runN; rw [if_pos h]
theorem runN_step {f : Fr} (h : f.sd = 0) (n : Nat) : runN (n + 1) f = runN n (stepV f) := by
  show (if f.sd ≠ 0 then f else runN n (stepV f)) = _
  rw [if_neg (by simp [h])]
theorem stepV_ok {f : Fr} (h : f.sd = 0) (he : errV f = 0) : stepV f = nexV f := by unfold stepV; rw [if_neg (by simp [h]), if_pos he]
theorem stepV_bad {f : Fr} (h : f.sd = 0) (he : errV f ≠ 0) : stepV f = wrgV f (errV f) := by unfold stepV; rw [if_neg (by simp [h]), if_neg he]
theorem runN_more : ∀ (n k : Nat) {f : Fr}, (runN n f).sd ≠ 0 → runN (n + k) f = runN n f
  | 0, k, f, h => by rw [Nat.zero_add]; exact runN_end h k
  | n + 1, k, f, h => by
    by_cases hz : f.sd = 0
    · rw [show n + 1 + k = (n + k) + 1 by omega, runN_step hz, runN_step hz]
      rw [runN_step hz] at h
      exact runN_more n k h
    · rw [runN_end hz, runN_end hz]
def clampG (g : Int) : Int := if 100000 < (if g < 0 then 0 else g) then 100000 else (if g < 0 then 0 else g)
/-- A run's beginning, and its end. -/
def beg (c i : List UInt8) (g : Int) : Fr := ⟨c, i, [], [], 0, clampG g, 0, 0, []⟩
end Go.Proofs.YthkpgfbjdabflaaGreatDoor
namespace Go.Proofs.YthkpgfbjdabflaaGreatDoor
open Go.RowKit Go.Sort
set_option linter.unusedVariables false
set_option maxRecDepth 100000
set_option maxHeartbeats 4000000
/-- What stands behind a code's first piece. -/
def rest1 : Code → Code
  | .seq _ y => y
  | c => c
theorem atEnd {P : Program} {Q : Exit → Act → World → Prop} {c : Cf} {a : Act} {w : World} {e : Exit} (h : Q e a w) (hd : c.dn = some e := by kernel_rfl) : At P Q c a w := ⟨by unfold AtD; rw [hd]; exact h⟩
def tA {T : World → Prop} (s t : Nat) {x v : Value} (h : ∀ w, (Instr.typeAssert x s t true).run Tryz.prog w = .ok v w) : Fa Tryz.prog T := Sum.inr (Sum.inr
  { ok := fun | .typeAssert _ s' t' true => s' == s && t' == t | _ => false
    xs := #[x]
    v := v
    fr := true
    h := by
      intro a w oo _ hok hx
      cases hop : oo.op with
      | typeAssert y s' t' b =>
        rw [hop] at hok hx
        cases b with
        | false => simp at hok
        | true =>
          simp only [Bool.and_eq_true, beq_iff_eq] at hok
          obtain ⟨rfl, rfl⟩ := hok
          simp only [opnds, List.map_cons, List.map_nil] at hx
          have hx1 : a.eval y = x := by simpa using hx
          unfold execOp
          simp only [hop, hx1, Sem.run_bind, h, Result.andThen_ok, Sem.run_pure]
      | _ => rw [hop] at hok; simp at hok })
section
variable {P : Program} {J : World → Prop} {F : Nat → Prop} {ds : List Deferred} {β : Nat → Nat} {c : Cf} {a : Act} {w : World} {Q : Exit → Act → World → Prop}
/-- The closure that is put off next, without arguments. -/
def dfQ (c : Cf) : Option SV := match opAtQ c with
  | some o => match o.op with
    | .defer { callee := .value x, args := xs, argTypes := _ } => if xs.isEmpty = true then evQ c.tm x else none
    | _ => none
  | none => none
theorem dfrQ {f : Nat} {cap : Array Value} (I : SI J F ds β c a w) (k : ∀ a', SI J F ({ target := .fn (.func f) cap, args := #[] } :: ds) β (nextQ c (dstQ c) none) a' w → At P Q (nextQ c (dstQ c) none) a' w) (hc : dfQ c = some (Sum.inl (.func (.func f) #[] cap)) := by kernel_rfl) : At P Q c a w := by
  unfold dfQ at hc
  split at hc
  · next o ho =>
    split at hc
    · next x xs ts hop =>
      split at hc
      · next hf =>
        have hxe : xs = #[] := by simpa using hf
        obtain ⟨hd, ⟨rest, hr⟩, hw⟩ := opAtQ_some ho
        refine at_cons hd hr (wantQ_ok I hw) ?_
        have hrun : (execOp a.eval o).run P w = .ok (.defer { target := .fn (.func f) cap, args := #[] }) w := by
          unfold execOp
          simp [hop, hxe, resolve, evQ_ok I.fr hc, up, Deferred.ofValue]
        unfold Oper.wp
        rw [hrun]
        have hk := (k ({ a with defers := { target := .fn (.func f) cap, args := #[] } :: a.defers }.put o.dst undef) ?_).out
        · unfold AtD at hk
          simp only [nextQ, hd, dstQ, hr, List.tail_cons, List.head?_cons, Option.bind_some] at hk
          exact hk
        · have hdst : dstQ c = o.dst := by simp [dstQ, hr]
          rw [hdst]
          refine ⟨?_, ?_, I.hJ, I.row, I.dis, I.lt, I.inj, idsB_put I.ids _ (by intro i o h; cases h)⟩
          · exact putQ_fr (a := { a with defers := { target := .fn (.func f) cap, args := #[] } :: a.defers }) I.fr o.dst none
          · rw [← I.df]; cases o.dst <;> rfl
      · cases hc
    · cases hc
  · cases hc
/-- The closure that is called next, without arguments. -/
def cvlQ (c : Cf) : Option SV := match opAtQ c with
  | some o => match o.op with
    | .call { callee := .value (.tmp t), args := xs, argTypes := _ } => if xs.isEmpty = true then evQ c.tm (.tmp t) else none
    | _ => none
  | none => none
theorem vcallB {f : Nat} {fn : Func} {fs cap : Array Value} (hf : P.funcs[f]? = some fn) (I : SI J F ds β c a w) (h : Calls P f (fs ++ cap) w (CallE P Q c a)) (hc : cvlQ c = some (Sum.inl (.func (.func f) fs cap)) := by kernel_rfl)
    (hb : fn.body.isNone = false := by kernel_rfl) (hn : (fn.name == "runtime.NumGoroutine") = false := by kernel_rfl) : At P Q c a w := by
  unfold cvlQ at hc
  split at hc
  · next o ho =>
    split at hc
    · next t xs ts hop =>
      split at hc
      · next hfe =>
        have hxe : xs = #[] := by simpa using hfe
        obtain ⟨hd, ⟨rest, hr⟩, hw⟩ := opAtQ_some ho
        refine at_cons hd hr (wantQ_ok I hw) ?_
        have hcf : (callFunc f (fs ++ cap)).run P w = .ok (.enter f (fs ++ cap)) w := by
          have h1 : ¬ fn.name = "runtime.NumGoroutine" := by simpa using hn
          have h2 : ¬ fn.body = none := by intro h; rw [h] at hb; cases hb
          unfold callFunc
          simp [go_sem, hf, h1, h2]
        have hrun : (execOp a.eval o).run P w = .ok (.enter f (fs ++ cap)) w := by
          unfold execOp
          simp only [hop, hxe, resolve, evQ_ok I.fr hc, up, Deferred.ofValue]
          simp [invoke, hcf]
        unfold Oper.wp
        rw [hrun, Oper.upon_enter]
        refine h.mono fun e w' he => ?_
        cases e with
        | returned v =>
          have he' : At P Q (nxtQ c v) (a.put (dstQ c) v) w' := he
          replace he' := he'.out
          unfold AtD at he'
          simp only [nxtQ, nextQ, hd, dstQ, hr, List.tail_cons, List.head?_cons, Option.bind_some] at he'
          exact he'
        | panicked ch => exact panQ_ok he
        | outgrown => exact he.elim
      · cases hc
    · cases hc
  · cases hc
theorem inD {f : Nat} {fn : Func} {args : Array Value} {Rt : Ending → World → Prop} (hf : P.funcs[f]? = some fn) (hJ : J w)
    (k : ∀ a, SI J F [] (fun _ => 0) (cfF fn args) a w → At P (bodyPostD P fn Rt) (cfF fn args) a w) (hb : fn.body.isSome = true := by kernel_rfl) : Calls P f args w Rt := by
  have hb' : fn.body = some (fn.body.getD .skip) := by
    cases h : fn.body with
    | none => rw [h] at hb; cases hb
    | some x => rfl
  refine calls_of_wp_defers hf hb' (wp_cfC (k _ ⟨?_, rfl, hJ, ?_, ?_, ?_, ?_, ?_⟩))
  · apply Array.ext'
    simp [begX, upO]
    exact (List.map_id _).symm
  · intro p hp; cases hp
  · intro p hp; cases hp
  · intro p hp; cases hp
  · intro p hp; cases hp
  · simp [begX, idsB]
end
theorem catch_panic (b g : Nat) (f : Fr) (v dv : Value) (op : Nat) (pa : Int) (e : Int) (w : World) (hb : HasRow w b #[ptr0 g]) (hbg : b ≠ g) (hr : HasRow w g (mrow f v op pa dv)) :
    CallsD Tryz.prog 104 #[ptr0 b] (.panicking (PEr e)) w fun r u' w' => r = .returned (.tuple #[]) ∧ u' = .panicking [{ v := .iface 134 (Z e), recovered := true }] ∧ HasRow w' g (mrow (wrgV f e) v op pa dv) ∧ Grow (fun k => k ≠ g ∧ k ≠ b) w w' := by
  have hgl := hr.lt
  refine callsD_of_wpS Tryz.func104 rfl fun c₀ cs hu => ?_
  apply wpS_seq
  apply wpS_region
  simp [wpOpsS, go_sem, recoverD, hu, Tryz.ntmps104, Exit.thenS]
  refine wpS_of_wp (wp_cfC (tm := frm 28 [(0, Sum.inr (0, 0)), (1, Sum.inl (.iface 134 (Z e))), (4, Sum.inl (.iface 134 (Z e)))]) (rows := [(0, #[ptr0 g])]) (nx := 1) ?_)
  have RR : ∀ r, Rsrc (fun w' : World => HasRow w' g r ∧ Grow (fun k => k ≠ g ∧ k ≠ b) w w') (fun k => k < w.heap.size ∧ k ≠ b) := fun r => ⟨fun x y hx gr => ⟨by
      obtain ⟨t, ht⟩ := hx.1
      exact ⟨t, (gr.block g (HasRow.lt ⟨t, ht⟩) ⟨hgl, Ne.symm hbg⟩).trans ht⟩, ⟨gr.os.trans hx.2.os, gr.tape.trans hx.2.tape, gr.output.trans hx.2.output, Nat.le_trans hx.2.size gr.size, fun k hk hn => (gr.block k (Nat.lt_of_lt_of_le hk hx.2.size) ⟨hk, hn.2⟩).trans (hx.2.block k hk hn)⟩⟩, fun x k hx hk => Nat.lt_of_lt_of_le hk.1 hx.2.size⟩
  have sg : ∀ (x : World) (r : Array Value), Grow (fun k => k ≠ g) x (x.setRow g r) := fun x r => grow_setRow _ _ _ (fun h => h rfl)
  have sto : ∀ {r r' : Array Value} {c : Cf} {a : Act} {β : Nat → Nat} {x : World}, SI (fun w' : World => HasRow w' g r ∧ Grow (fun k => k ≠ g ∧ k ≠ b) w w') (fun k => k < w.heap.size ∧ k ≠ b) [] β c a x → SI (fun w' : World => HasRow w' g r' ∧ Grow (fun k => k ≠ g ∧ k ≠ b) w w') (fun k => k < w.heap.size ∧ k ≠ b) [] β (nextQ c (dstQ c) none) (a.put (dstQ c) undef) (x.setRow g r') := fun I => I.sto ⟨(sg _ _).os, (sg _ _).tape, (sg _ _).output, (sg _ _).size, fun k hk hn => (sg _ _).block k hk fun e => hn (e ▸ ⟨hgl, Ne.symm hbg⟩)⟩ ⟨I.hJ.1.set_same _, Grow.trans I.hJ.2 (Grow.mono (sg _ _) fun k hk => hk.1)⟩ (fun _ _ h => h)
  have I : SI (fun w' : World => HasRow w' g (mrow f v op pa dv) ∧ Grow (fun k => k ≠ g ∧ k ≠ b) w w') (fun k => k < w.heap.size ∧ k ≠ b) [] (fun _ => b) (cfC (rest1 (Tryz.f104.body.getD .skip)) (frm 28 [(0, Sum.inr (0, 0)), (1, Sum.inl (.iface 134 (Z e))), (4, Sum.inl (.iface 134 (Z e)))]) [(0, #[ptr0 g])] 1) { tmps := #[ptr0 b] ++ ((Array.replicate 27 undef).setIfInBounds 3 (.iface 134 (Z e))).setIfInBounds 0 (.iface 134 (Z e)), defers := [] } w := ⟨by simp [frm, upO, up, List.range, List.range.loop, Array.replicate, List.replicate], rfl, ⟨hr, Grow.refl _ _⟩, by intro p hp; simp only [List.mem_singleton] at hp; subst hp; exact hb, by intro p hp h; exact h.2 rfl, by intro p hp; simp only [List.mem_singleton] at hp; subst hp; exact Nat.one_pos, by intro p hp q hq hpq; simp only [List.mem_singleton] at hp hq; subst hp; subst hq; exact absurd rfl hpq, by kernel_rfl⟩
  refine goQ [bO .eql 20 (p := .iface 134 (Z e)) (q := .nilIface) (v := .bool false) (by intros; simp [go_sem]), tA 20 134 (x := .iface 134 (Z e)) (v := .tuple #[Z e, .bool true]) (by intro w; kernel_rfl), uO .not (p := .bool true) (v := .bool false) (by intros; rfl)] (RR _) I fun β1 A1 w1 I1 hb1 => ?_
  have hs1 := run_svA (P := Tryz.prog) 3 (off := 0 + 0 + 5) (v := Z 0) I1.hJ.1 (by kernel_rfl) (Nat.le_of_ble_eq_true rfl) (by kernel_rfl)
  have e1 : over (mrow f v op pa dv) (0 + 0 + 5) (Z 0).cells = mrow { f with gas := 0 } v op pa dv := by kernel_rfl
  rw [e1] at hs1
  refine stoQ (ad := ⟨g, 0 + 0 + 5, none⟩) (v := Z 0) I1 hs1 ?_
  refine goQ [] (RR _) (sto I1) fun β2 A2 w2 I2 hb2 => ?_
  have hs2 := run_svA (P := Tryz.prog) 3 (off := 0 + 0 + 6) (v := Z 3) I2.hJ.1 (by kernel_rfl) (Nat.le_of_ble_eq_true rfl) (by kernel_rfl)
  have e2 : over (mrow { f with gas := 0 } v op pa dv) (0 + 0 + 6) (Z 3).cells = mrow { f with gas := 0, sd := 3 } v op pa dv := by kernel_rfl
  rw [e2] at hs2
  refine stoQ (ad := ⟨g, 0 + 0 + 6, none⟩) (v := Z 3) I2 hs2 ?_
  refine goQ [] (RR _) (sto I2) fun β3 A3 w3 I3 hb3 => ?_
  have hs3 := run_svA (P := Tryz.prog) 33 (off := 0 + 0 + 7) (v := Z e) I3.hJ.1 (by kernel_rfl) (Nat.le_of_ble_eq_true rfl) (by kernel_rfl)
  have e3 : over (mrow { f with gas := 0, sd := 3 } v op pa dv) (0 + 0 + 7) (Z e).cells = mrow (wrgV f e) v op pa dv := by kernel_rfl
  rw [e3] at hs3
  refine stoQ (ad := ⟨g, 0 + 0 + 7, none⟩) (v := Z e) I3 hs3 ?_
  refine goQ [] (RR _) (sto I3) fun β4 A4 w4 I4 hb4 => ?_
  refine atEnd (e := .normal) ?_
  simp [bodyPostS, results, Tryz.results104]
  exact ⟨I4.df, I4.hJ.1, I4.hJ.2⟩
theorem catch_idle (g : Nat) (w : World) :
    CallsD Tryz.prog 104 #[ptr0 g] .returning w fun e u' w' => e = .returned (.tuple #[]) ∧ u' = .returning ∧ w' = w := by
  refine callsD_of_wpS Tryz.func104 rfl fun c₀ cs hu => ?_
  apply wpS_seq
  apply wpS_region
  simp [wpOpsS, go_sem, recoverD, hu, Tryz.ntmps104, Exit.thenS]
  apply wpS_seq
  apply wpS_seq
  apply wpS_region
  simp [wpOpsS, go_sem, Exit.thenS]
  refine wpS_cond (t := true) (by simp [Act.eval, Array.replicate]) ?_
  simp only [if_true]
  refine wpS_of_wp (wp_ret ?_)
  cases c₀
  simp_all [Exit.thenS, bodyPostS, results, Tryz.results104]
theorem put_defers (a : Act) (d : Option Tmp) (v : Value) : (a.put d v).defers = a.defers := by cases d <;> rfl
theorem at_fin {P : Program} {Q : Exit → Act → World → Prop} {c : Cf} {a : Act} {w : World} (h : Q .normal a w) (h1 : c.dn = none := by kernel_rfl) (h2 : c.rest = [] := by kernel_rfl) (h3 : c.ks = [] := by kernel_rfl) : At P Q c a w := ⟨by unfold AtD; rw [h1, h2, h3]; exact h⟩
/-- What work comes to whose errors are caught. -/
def WorkP (g : Nat) (v dv : Value) (w : World) (fE : Fr) (e : Ending) (w' : World) : Prop := ∃ v' dv' f1 op' pa', MP g v dv w v' f1 op' pa' dv' w' ∧ ((e = .returned TU0 ∧ f1 = fE) ∨ ∃ er, e = .panicked (PEr er) ∧ wrgV f1 er = fE)
theorem catch_any {g : Nat} {v dv : Value} {w : World} {f : Fr} {op : Nat} {pa : Int} (h : MI g v f op pa dv w) (fE : Fr) {fw : Nat} {Fw : Func} (hF : Tryz.prog.funcs[fw]? = some Fw) (hB : Fw.body.isNone = false) (hN : (Fw.name == "runtime.NumGoroutine") = false) (fs cap : Array Value)
    (hw : ∀ w1, Below w.heap.size w w1 → MI g v f op pa dv w1 → Calls Tryz.prog fw (fs ++ cap) w1 (WorkP g v dv w1 fE)) :
    Calls Tryz.prog 76 #[ptr0 g, .func (.func fw) fs cap] w fun e w' => e = .returned TU0 ∧ ∃ v' dv' op' pa', MP g v dv w v' fE op' pa' dv' w' := by
  refine inD (J := Below w.heap.size w) (F := (· < w.heap.size)) Tryz.func76 (Below.refl _ _) fun Az I => ?_
  refine goQ [] (nonR w) I fun β1 A1 w1 I1 hb1 => ?_
  refine mkfX (fn := .func 104) (ss := [Sum.inr (0, 0)]) I1 ?_
  refine goQ [] (nonR w) (I1.same _) fun β2 A2 w2 I2 hb2 => ?_
  have hb20 : β2 0 = β1 0 := agr hb2 0 rfl
  refine dfrQ (f := 104) (cap := #[ptr0 (β1 0)]) I2 fun A3 I3 => ?_
  refine goQ [] (nonR w) I3 fun β4 A4 w4 I4 hb4 => ?_
  have hb40 : β4 0 = β1 0 := agr hb4 0 hb20
  refine inY I4 fun I5 => ?_
  refine goQ [] (nonR w) I5 fun β6 A6 w6 I6 hb6 => ?_
  have hb60 : β6 0 = β1 0 := agr hb6 0 hb40
  have hge : ¬ (β6 0 < w.heap.size) := I6.dis _ (rowOf_mem (show rowOf _ 0 = some #[ptr0 g] by kernel_rfl))
  have hbox := I6.rowAt 0 (r := #[ptr0 g])
  rw [hb60] at hge hbox
  have hmi := h.below I6.hJ
  have hgl := h.c.lt
  refine vcallB (fs := fs) (cap := cap) hF I6 ?_ (by kernel_rfl) hB hN
  refine (hw w6 I6.hJ hmi).mono fun e w7 he => ?_
  obtain ⟨v', dv', f1, op', pa', hp, he⟩ := he
  have hs0 : MS w g v dv v f dv w6 := h.start.drew I6.hJ
  have hs7 := hs0.trans hp.s
  have hbown : v.ownBlock ≠ some (β1 0) := fun e => by have := (h.c.own.lt _ e).2; omega
  have hbx7 : HasRow w7 (β1 0) #[ptr0 g] := by
    obtain ⟨t, ht⟩ := hbox
    exact ⟨t, (hp.s.gr.block _ (HasRow.lt ⟨t, ht⟩) ⟨by omega, hbown⟩).trans ht⟩
  have hdf : A6.defers = [{ target := .fn (.func 104) #[ptr0 (β1 0)], args := #[] }] := I6.df
  rcases he with ⟨rfl, rfl⟩ | ⟨er, rfl, hwr⟩
  · refine at_fin ?_
    show Leaves Tryz.prog Tryz.f76 (A6.put _ TU0).tmps _ (A6.put _ TU0).defers .returning w7
    rw [put_defers, hdf]
    refine leaves_cons (f := 104) (args := #[ptr0 (β1 0)]) (by simp) (by simp [go_sem]) ?_
    refine (catch_idle (β1 0) w7).mono ?_
    rintro e u' w'' ⟨rfl, rfl, rfl⟩
    exact ⟨TU0, results_none rfl _ _ _, rfl, v', dv', op', pa', hp.row, hs7⟩
  · show Leaves Tryz.prog Tryz.f76 A6.tmps _ A6.defers (.panicking (PEr er)) w7
    rw [hdf]
    refine leaves_cons (f := 104) (args := #[ptr0 (β1 0)]) (by simp) (by simp [go_sem]) ?_
    refine (catch_panic (β1 0) g f1 v' dv' op' pa' er w7 hbx7 (by omega) hp.row).mono ?_
    rintro e u' w8 ⟨rfl, rfl, hr8, hg8⟩
    have hblt := hbox.lt
    have hg7 := h.c.hg
    have hvb : v'.ownBlock ≠ some (β1 0) := fun e => by
      rcases hp.s.nb _ e with h1 | h1
      · exact hbown h1
      · omega
    have h7 : ∀ k, k < 7 → k ≠ g ∧ k ≠ β1 0 := fun k hk => ⟨by omega, by omega⟩
    have hdb : ∀ k, dv'.ownBlock = some k → k ≠ g ∧ k ≠ β1 0 := fun k hk => by
      rcases hp.s.c.ds with h1 | ⟨d, h1, h2, h3, h4⟩
      · rw [h1] at hk; cases hk
      · have e : d = k := by rw [h1] at hk; exact Option.some.inj hk
        subst e
        refine ⟨by omega, ?_⟩
        rcases hp.s.db d (by rw [h1]; rfl) with h5 | h5
        · rcases h.c.ds with h6 | ⟨d', h6, h7, _⟩
          · rw [h6] at h5; cases h5
          · have e : d' = d := by rw [h6] at h5; exact Option.some.inj h5
            have := (Array.getElem?_eq_some_iff.1 h7).1
            omega
        · omega
    have hsE : MS w g v dv v' fE dv' w8 := by
      refine ⟨⟨?_, hp.s.c.tb.grow hg8 h7, hp.s.c.ts.grow hg8 h7, hg7, Nat.lt_of_lt_of_le hp.s.c.lt hg8.size, ?_⟩, hgl, ⟨hg8.os.trans hs7.gr.os, hg8.tape.trans hs7.gr.tape, hg8.output.trans hs7.gr.output, Nat.le_trans hs7.gr.size hg8.size, fun k hk hn => (hg8.block k (Nat.lt_of_lt_of_le hk hs7.gr.size) ⟨hn.1, by omega⟩).trans (hs7.gr.block k hk hn)⟩, hs7.nb, hs7.db⟩
      · have e : fE.st = f1.st := by rw [← hwr]; rfl
        rw [e]
        exact owns_grow hp.s.c.own hg8 fun k hk => ⟨fun e => by subst e; have := (hp.s.c.own.lt k hk).1; omega, fun e => hvb (e ▸ hk)⟩
      · have e : fE.code = f1.code := by rw [← hwr]; rfl
        rw [e]
        exact hp.s.c.ds.grow hg8 hdb fun k hk => .inl hk
    show Leaves Tryz.prog Tryz.f76 A6.tmps _ [] .returning w8
    exact ⟨TU0, results_none rfl _ _ _, rfl, v', dv', op', pa', by rw [← hwr]; exact hr8, hsE⟩
end Go.Proofs.YthkpgfbjdabflaaGreatDoor
namespace Go.Proofs.YthkpgfbjdabflaaGreatDoor
open Go.RowKit Go.Sort
set_option linter.unusedVariables false
set_option maxRecDepth 100000
set_option maxHeartbeats 4000000
abbrev frV (f : Fr) (v : Value) : Value := .agg #[str f.code, str f.inp, v, str f.mem, Z f.pc, Z f.gas, Z f.sd, Z f.er, str f.out]
theorem mtold_any {g : Nat} {v : Value} {f : Fr} {op : Nat} {pa : Int} {dv : Value} {w : World} (h : MI g v f op pa dv w) (hl : f.st.length ≤ 1000) :
    Calls Tryz.prog 79 #[ptr0 g] w fun e w' => ∃ ad cap, e = .returned (frV f (.slice ad f.st.length cap)) ∧ MP g v dv w (.slice ad f.st.length cap) f op pa dv w' := by
  obtain ⟨ad, cap, rfl⟩ := owns_slice h.c.own
  have hst := h.start
  have hrw := h.row
  have hnn := h.c.not (wE := w)
  by_cases hz : f.st.length = 0
  · have hnil : f.st = [] := List.eq_nil_of_length_eq_zero hz
    rw [hz] at hst hrw hnn
    refine inG (J := MS w g (.slice ad f.st.length cap) dv (.slice ad 0 cap) f dv) (F := MF w g (.slice ad 0 cap) dv) [] Tryz.func79 (hz ▸ hst) hrw hnn fun Az I => ?_
    refine goQ [lS Tryz.underlying61 (ad := ad) (n := 0) (cap := cap) (z := 0) rfl, bO .eql 3 (run_eqlZ (x := 0) (y := 0) (b := true) rfl)] (MS.rs _ _ _ _ _ _ _) I fun β1 A1 w1 I1 hb1 => ?_
    have hJ := I1.hJ
    refine outQ (v := frV f (.slice none 0 0)) I1 ⟨none, 0, by rw [hz], ?_, ?_⟩
    · rw [hz]; exact I1.rowG 0 (agr hb1 0 rfl) (r := mrow f (.slice none 0 0) op pa dv)
    · rw [hz]
      refine ⟨⟨?_, hJ.c.tb, hJ.c.ts, hJ.c.hg, hJ.c.lt, ?_⟩, hJ.lt, hz ▸ hJ.gr, fun k hk => (by cases hk), hJ.db⟩
      · rw [hnil]; exact World.ownsRow_nil _ _ _ _
      · rcases hJ.c.ds with h1 | ⟨d, h1, h2, h3, h4⟩
        · exact .inl h1
        · exact .inr ⟨d, h1, h2, h3, fun e => by cases e⟩
  · generalize hn : f.st.length = n at *
    refine inG (J := MS w g (.slice ad n cap) dv (.slice ad n cap) f dv) (F := MF w g (.slice ad n cap) dv) [] Tryz.func79 hst hrw hnn fun Az I => ?_
    refine goQ [lS Tryz.underlying61 (ad := ad) (n := n) (cap := cap) (z := n) rfl, bO .eql 3 (run_eqlZ (x := n) (y := 0) (b := false) (decide_eq_false (by omega)))] (MS.rs _ _ _ _ _ _ _) I fun β1 A1 w1 I1 hb1 => ?_
    exact outQ (v := frV f (.slice ad n cap)) I1 ⟨ad, cap, rfl, I1.mp (agr hb1 0 rfl)⟩
/-- A machine that a face has made. -/
structure RJ (w0 : World) (g : Nat) (v : Value) (f : Fr) (dv : Value) (w : World) : Prop where
  bw : Below w0.heap.size w0 w
  c : MC g v f dv w
  hge : w0.heap.size ≤ g
def RjF (w0 : World) (v dv : Value) (k : Nat) : Prop := k < w0.heap.size ∨ v.ownBlock = some k ∨ dv.ownBlock = some k
theorem RJ.rs (w0 : World) (h7 : 7 ≤ w0.heap.size) (g : Nat) (v : Value) (f : Fr) (dv : Value) : Rsrc (RJ w0 g v f dv) (RjF w0 v dv) := by
  refine ⟨fun w w' h gr => ?_, fun w k h hk => ?_⟩
  · have q7 : ∀ k, k < 7 → RjF w0 v dv k := fun k hk => .inl (by omega)
    exact ⟨⟨gr.os.trans h.bw.os, gr.tape.trans h.bw.tape, gr.output.trans h.bw.output, Nat.le_trans h.bw.size gr.size, fun k hk => (gr.block k (Nat.lt_of_lt_of_le hk h.bw.size) (.inl hk)).trans (h.bw.block k hk)⟩, ⟨owns_grow h.c.own gr fun k hk => .inr (.inl hk), h.c.tb.grow gr q7, h.c.ts.grow gr q7, h.c.hg, Nat.lt_of_lt_of_le h.c.lt gr.size, h.c.ds.grow gr (fun k hk => .inr (.inr hk)) fun k hk => .inl hk⟩, h.hge⟩
  · rcases hk with hk | hk | hk
    · exact Nat.lt_of_lt_of_le hk h.bw.size
    · exact (h.c.own.lt k hk).2
    · rcases h.c.ds with h1 | ⟨d, rfl, h2, _⟩
      · rw [h1] at hk; cases hk
      · have e : d = k := Option.some.inj hk
        subst e
        exact (Array.getElem?_eq_some_iff.1 h2).1
theorem own_base {w : World} {b b' e s : Nat} {v : Value} {n : Nat} {xs : List Value} (h : w.ownsRow b e s v n xs) (hb : b' ≤ b) : w.ownsRow b' e s v n xs := by
  refine ⟨h.1, h.2.imp id ?_⟩
  rintro ⟨g, cap, cur, a1, a2, a3⟩
  exact ⟨g, cap, cur, a1, Nat.le_trans hb a2, a3⟩
theorem RJ.mp {w0 : World} {g : Nat} {v dv v' dv' : Value} {f f' : Fr} {op' : Nat} {pa' : Int} {w w' : World} (h : RJ w0 g v f dv w) (hp : MP g v dv w v' f' op' pa' dv' w') : RJ w0 g v' f' dv' w' := by
  refine ⟨⟨hp.s.gr.os.trans h.bw.os, hp.s.gr.tape.trans h.bw.tape, hp.s.gr.output.trans h.bw.output, Nat.le_trans h.bw.size hp.s.gr.size, fun k hk => (hp.s.gr.block k (Nat.lt_of_lt_of_le hk h.bw.size) ⟨?_, fun e => ?_⟩).trans (h.bw.block k hk)⟩, hp.s.c, h.hge⟩
  · have := h.hge; omega
  · have := (h.c.own.lt k e).1
    have := h.hge
    omega
theorem SI.rj {w0 : World} {g id : Nat} {v dv v' dv' : Value} {f f' : Fr} {op' : Nat} {pa' : Int} {w w' : World} {ds : List Deferred} {β : Nat → Nat} {c : Cf} {a : Act} {r0 : Array Value} (I : SI (RJ w0 g v f dv) (RjF w0 v dv) ds β c a w) (hb : β id = g) (hp : MP g v dv w v' f' op' pa' dv' w') (x : Value) (hid : rowOf c.rows id = some r0) :
    SI (RJ w0 g v' f' dv') (RjF w0 v' dv') ds β (rowQ (nxtQ c x) id (mrow f' v' op' pa' dv')) (a.put (dstQ c) x) w' := by
  refine I.rowed hid ⟨hp.s.gr.os, hp.s.gr.tape, hp.s.gr.output, hp.s.gr.size, fun k hk hn => hp.s.gr.block k hk ⟨by rw [hb] at hn; exact hn.2, fun e => hn.1 (.inr (.inl e))⟩⟩ (by rw [hb]; exact hp.row) (I.hJ.mp hp) (fun k hk h => ?_) x
  rcases h with h | h | h
  · exact .inl h
  · rcases hp.s.nb k h with h1 | h1
    · exact .inr (.inl h1)
    · omega
  · rcases hp.s.db k h with h1 | h1
    · exact .inr (.inr h1)
    · omega
theorem bd63 (c i : List UInt8) (p : Int) (w : World) : (Instr.build 63 (([0, 1, 5] : List Nat).zip [str c, str i, Z p]).toArray).run Tryz.prog w = .ok (.agg #[str c, str i, .slice none 0 0, str [], Z 0, Z p, Z 0, Z 0, str []]) w := by kernel_rfl
theorem bd102 (c i m o : List UInt8) (v : Value) (p q r s : Int) (w : World) : (Instr.build 102 (([0] : List Nat).zip [.agg #[str c, str i, v, str m, Z p, Z q, Z r, Z s, str o]]).toArray).run Tryz.prog w = .ok (.agg #[str c, str i, v, str m, Z p, Z q, Z r, Z s, str o, b8 0, Z 0, .slice none 0 0]) w := by kernel_rfl
/-- A frame that is handed back, with its stack's own row. -/
def FrO (w : World) (f : Fr) (x : Value) (w' : World) : Prop := ∃ ad cap, x = frV f (.slice ad f.st.length cap) ∧ w'.ownsRow w.heap.size 45 4 (.slice ad f.st.length cap) f.st.length (sC f.st) ∧ Below w.heap.size w w'
end Go.Proofs.YthkpgfbjdabflaaGreatDoor
