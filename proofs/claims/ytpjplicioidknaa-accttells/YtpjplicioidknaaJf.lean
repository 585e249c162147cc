/- The program's order of accounts, and where one's account stands. -/
import Derived.Test.YtpjplicioidknaaJd
import Derived.Laws.Externs
import Derived.Lib.Bytealg
namespace Go.Proofs.Ytpjplicioidknaa
open Go.RowKit Go.Sort
set_option linter.unusedVariables false
set_option maxRecDepth 100000
theorem wp_callG {P : Program} {Q : Exit → Act → World → Prop} {o : Oper} {a : Act} {w : World} {K : Act → World → Prop} {f : FuncId} {args : Array Value} (hrun : (execOp a.eval o).run P w = .ok (.enter f args) w)
    (hc : Calls P f args w fun e w' => ∃ v, e = .returned v ∧ K (a.put o.dst v) w') : o.wp P a w K Q := by
  unfold Oper.wp
  rw [hrun, Oper.upon_enter]
  refine hc.mono ?_
  rintro e w' ⟨v, rfl, hb⟩
  exact hb
theorem call_run {f : Nat} {fn : Func} {o : Oper} {x : Operand} {cs : Array Value} {xs : Array Operand} {ts : Array TypeId} {a : Act} (hop : o.op = .call ⟨.value x, xs, ts⟩) (hf : Try.prog.funcs[f]? = some fn) (hx : a.eval x = .func (.func f) #[] cs) (w : World) (hb : fn.body.isNone = false := by kernel_rfl) (hn : (fn.name == "runtime.NumGoroutine") = false := by kernel_rfl) : (execOp a.eval o).run Try.prog w = .ok (.enter f (xs.map a.eval ++ cs)) w := by
  have h := fv_any (P := Try.prog) (a := a) hf hb hn hx xs ts o.type w
  unfold execOp
  simp only [hop]
  exact h
theorem cmpS_run (a b : ByteArray) (w : World) : (callFunc 48 #[.string a, .string b]).run Try.prog w = .ok (.value (Z (cmB a b))) w := by
  rw [run_callFunc_extern Try.func48 (by kernel_rfl) (by kernel_rfl) (by kernel_rfl) (e := Extern.BytealgCompare.compare) (by kernel_rfl), Lib.run_compareString]
  rfl
theorem cmpS_any (a b : ByteArray) (w : World) : Calls Try.prog 43 #[.string a, .string b] w fun e w' => e = .returned (Z (cmB a b)) ∧ Below w.heap.size w w' := by
  have h0 := cmpS_run a b
  generalize cmB a b = z at *
  have h1 : ∀ w, Calls Try.prog 47 #[.string a, .string b] w fun e w' => e = .returned (Z z) ∧ Below w.heap.size w w' := fun w => by
    refine inQ (J := Below w.heap.size w) (F := (· < w.heap.size)) Try.func47 (Below.refl _ _) fun a I => ?_
    refine goQ [eO h0] (nonR w) I fun β a w1 I hb => ?_
    exact outQ (v := Z z) I ⟨rfl, I.hJ⟩
  refine inQ (J := Below w.heap.size w) (F := (· < w.heap.size)) Try.func43 (Below.refl _ _) fun a I => ?_
  refine goQ [kC Try.func47 h1] (nonR w) I fun β a w1 I hb => ?_
  exact outQ (v := Z z) I ⟨rfl, I.hJ⟩
abbrev orK : List Nat := [0, 2, 3, 6, 7, 8]
abbrev orV (v : Value) (i : Nat) : Vs := frm 18 [(0, Sum.inl v), (2, Sum.inl (Z 0)), (3, Sum.inl (Z 0)), (6, Sum.inl v), (7, Sum.inl (Z 2)), (8, Sum.inl (Z i))]
theorem or_any {w : World} {b : Nat} {x y : Int} (hr : w.heap[b]? = some (.cells #[Z x, Z y] 3)) : Calls Try.prog 42 #[.slice (some ⟨b, 0, none⟩) 2 2] w fun e w' => e = .returned (Z (if x ≠ 0 then x else y)) ∧ Below w.heap.size w w' := by
  have hlt : b < w.heap.size := (Array.getElem?_eq_some_iff.1 hr).1
  have hrow : ∀ w', Below w.heap.size w w' → HasRow w' b #[Z x, Z y] := fun w' hb => ⟨3, (hb.block b hlt).trans hr⟩
  obtain ⟨q, hq⟩ : ∃ q : Nat → Int, q = fun i => if i = 0 then x else y := ⟨_, rfl⟩
  have hld : ∀ i, i < 2 → ∀ w', Below w.heap.size w w' → (loadVar 3 ⟨b, 0 + i * 1, none⟩).run Try.prog w' = .ok (Z (q i)) w' := fun i hi w' hb => by
    have := load1 (w := w') (g := b) (o := 0) (cs := [Z x, Z y]) (fun j c hc => by rw [(hrow w' hb).cell]; simpa using hc) i (c := Z (q i)) (by rw [hq]; match i, hi with | 0, _ => rfl | 1, _ => rfl) 3 Try.underlying3 rfl
    rw [Nat.mul_one]
    exact this
  have hres : ∀ i, i < 2 → (∀ j, j < i → q j = 0) → q i ≠ 0 → (if x ≠ 0 then x else y) = q i := fun i hi h0 hn => by
    subst hq
    match i, hi with
    | 0, _ => exact if_pos hn
    | 1, _ => have := h0 0 (by omega); simp only [if_true] at this; rw [if_neg (by simp [this])]; rfl
  have hres0 : (∀ j, j < 2 → q j = 0) → (if x ≠ 0 then x else y) = 0 := fun h0 => by
    subst hq
    have h1 := h0 0 (by omega)
    have h2 := h0 1 (by omega)
    simp only [if_true] at h1
    rw [if_neg (by simp [h1])]
    exact h2
  clear hq
  refine inQ (J := Below w.heap.size w) (F := (· < w.heap.size)) Try.func42 (Below.refl _ _) fun a I => ?_
  refine goQ [lS Try.underlying66 (ad := some ⟨b, 0, none⟩) (n := 2) (cap := 2) rfl] (nonR w) I fun β a w1 I hb => ?_
  refine lpM (bodyL Try.f42) (fun k a w' => ∃ (i : Nat) (β : Nat → Nat) (u : Nat → Value), k = 2 - i ∧ i ≤ 2 ∧ (∀ j, j < i → q j = 0) ∧ SI (Below w.heap.size w) (· < w.heap.size) [] β (cfC (bodyL Try.f42) (fillF (scrF 18 orK) u 0 (orV (.slice (some ⟨b, 0, none⟩) 2 2) i)) [] 0) a w') 2 ?_ ?_
  · obtain ⟨u, Iu⟩ := I.scr (bodyL Try.f42) (scrF 18 orK) (orV (.slice (some ⟨b, 0, none⟩) 2 2) 0) [] 0
    exact ⟨0, β, u, rfl, by omega, fun j h => absurd h (Nat.not_lt_zero j), Iu⟩
  rintro k a3 w3 ⟨i, β3, u, rfl, hi, h0, I⟩
  refine wp_cfC (tm := fillF (scrF 18 orK) u 0 (orV (.slice (some ⟨b, 0, none⟩) 2 2) i)) (rows := []) (nx := 0) ?_
  rcases Nat.lt_or_ge i 2 with hil | hil
  · have hl := hld i hil
    have hr1 := hres i hil h0
    obtain ⟨z, hz⟩ : ∃ z, q i = z := ⟨_, rfl⟩
    rw [hz] at hl hr1
    by_cases hn : z = 0
    · refine goT (T := Below w.heap.size w) [lT i 2 (by omega), iA 66 Try.underlying66 (sz := 1) (by kernel_rfl) (g := b) (off := 0) (n := 2) (cap := 2) hil, ldA 3 hl, bO .neq 3 (run_neqZ (x := z) (y := 0) (b := false) (decide_eq_false (not_not_intro hn))), p1 i (by omega)] (nonR w) (fun _ h => h) I fun β4 a4 w4 I hb4 => ?_
      obtain ⟨u', Iu⟩ := I.scr (bodyL Try.f42) (scrF 18 orK) (orV (.slice (some ⟨b, 0, none⟩) 2 2) (i + 1)) [] 0
      refine endL ⟨2 - (i + 1), by omega, i + 1, β4, u', rfl, hil, fun j hj => ?_, Iu⟩
      rcases Nat.lt_or_ge j i with hji | hji
      · exact h0 j hji
      · obtain rfl : j = i := by omega
        rw [hz, hn]
    · refine goT (T := Below w.heap.size w) [lT i 2 (by omega), iA 66 Try.underlying66 (sz := 1) (by kernel_rfl) (g := b) (off := 0) (n := 2) (cap := 2) hil, ldA 3 hl, bO .neq 3 (run_neqZ (x := z) (y := 0) (b := true) (decide_eq_true hn))] (nonR w) (fun _ h => h) I fun β4 a4 w4 I hb4 => ?_
      exact endR (retV (v := Z z) I ⟨by rw [hr1 hn], I.hJ⟩)
  · obtain rfl : i = 2 := by omega
    refine goQ [lF 2 2 (by omega)] (nonR w) I fun β4 a4 w4 I hb4 => ?_
    refine endE 0 ?_
    refine goQ [] (nonR w) (I.exit _) fun β5 a5 w5 I hb5 => ?_
    exact outQ (v := Z 0) I ⟨by rw [hres0 h0], I.hJ⟩
theorem bs66 (x y : Int) (w : World) : (Instr.buildSlice 66 2 #[(0, Z x), (1, Z y)]).run Try.prog w = .ok (.slice (some ⟨w.heap.size, 0, none⟩) 2 2) (w.alloc (.cells #[Z x, Z y] 3)) := by kernel_rfl
theorem order_any (c d : Co) (w : World) : Calls Try.prog 38 #[coV c, coV d] w fun e w' => e = .returned (Z (cmK (ky c) (ky d))) ∧ Below w.heap.size w w' := by
  obtain ⟨c1, c2, n⟩ := c
  obtain ⟨d1, d2, m⟩ := d
  have hA := cmpS_any c1 d1
  have hB := cmpS_any c2 d2
  have e : cmK (ky (c1, c2, n)) (ky (d1, d2, m)) = if cmB c1 d1 ≠ 0 then cmB c1 d1 else cmB c2 d2 := rfl
  rw [e]
  generalize cmB c1 d1 = x at *
  generalize cmB c2 d2 = y at *
  unfold coV co6
  simp only []
  generalize l0 n = n0
  generalize l1 n = n1
  generalize l2 n = n2
  generalize l3 n = n3
  generalize l0 m = m0
  generalize l1 m = m1
  generalize l2 m = m2
  generalize l3 m = m3
  obtain ⟨z, hz⟩ : ∃ z, (if x ≠ 0 then x else y) = z := ⟨_, rfl⟩
  rw [hz]
  refine inQ (J := Below w.heap.size w) (F := (· < w.heap.size)) Try.func38 (Below.refl _ _) fun a I => ?_
  refine goQ [] (nonR w) I fun β a w1 I hb => ?_
  have hsz1 : a.tmps.size = 17 := by rw [I.fr]; kernel_rfl
  refine dwS (T := fun _ => True) [(10, none), (11, some (Z z))] [kC Try.func43 hA, kC Try.func43 hB]
    (fun i v w' => i = 10 → ∃ b, v = .slice (some ⟨b, 0, none⟩) 2 2 ∧ w'.heap[b]? = some (.cells #[Z x, Z y] 3)) (fun i v w' w'' h hb hi => by
      obtain ⟨b, e1, e2⟩ := h hi
      exact ⟨b, e1, (hb.block b (Array.getElem?_eq_some_iff.1 e2).1).trans e2⟩) (nonR w) (fun _ _ => trivial) I ?_ ?_
  · intro p hp o ho listed vs a' w' hF hrd hbw hV hev
    simp only [List.mem_cons, List.not_mem_nil, or_false] at hp
    rcases hp with rfl | rfl
    · obtain ⟨h1, h2, h3⟩ := opD_get (x := .buildSlice 66 2 #[(0, .tmp 9), (1, .tmp 14)]) (d := some 15) ho (by kernel_rfl)
      have e9 : a'.eval (.tmp 9) = Z x := hev (.tmp 9) (Sum.inl (Z x)) (by kernel_rfl)
      have e14 : a'.eval (.tmp 14) = Z y := hev (.tmp 14) (Sum.inl (Z y)) (by kernel_rfl)
      refine bslG h1 h3 (by simp only [List.map_toArray, List.map_cons, List.map_nil, e9, e14]; exact bs66 x y w') ⟨_, rfl, fun u hu => (by cases hu), fun _ => ⟨_, rfl, heap_alloc_new w' _⟩, below_alloc w' _⟩
    · obtain ⟨h1, h2, h3⟩ := opD_get (x := .call ⟨.value (.func 42), #[.tmp 15], #[66]⟩) (d := some 16) ho (by kernel_rfl)
      have hl := waits_done (ops := opsD _) (i := 11) (j := 10) (by kernel_rfl) hrd
      have e15 : a'.eval (.tmp 15) = vs 10 := hF.new (i := 10) (by kernel_rfl) (by omega) hl
      obtain ⟨b, e1, e2⟩ := hV (10, none) (by simp) hl rfl
      rw [e1] at e15
      refine wpG_plain h3 (wp_callG (f := 42) (args := #[.slice (some ⟨b, 0, none⟩) 2 2]) (by rw [call_run h1 Try.func42 (cs := #[]) rfl]; simp only [List.map_toArray, List.map_cons, List.map_nil, e15, Array.append_empty]) ((or_any e2).mono fun e w6 he => ?_))
      obtain ⟨rfl, hb6⟩ := he
      exact ⟨_, rfl, _, rfl, fun u hu => (by cases hu; rw [hz]), fun h => (by cases h), hb6⟩
  · intro vs a2 w2 hV I
    refine goQ [] (nonR w) I fun β3 a w3 I hb3 => ?_
    exact outQ (v := Z z) I ⟨rfl, I.hJ⟩
end Go.Proofs.Ytpjplicioidknaa
