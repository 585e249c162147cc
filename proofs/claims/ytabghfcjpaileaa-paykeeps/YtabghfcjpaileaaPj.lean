/- What is paid: numbers; the program's Transfer where places can't be paid. -/
import Derived.Test.YtabghfcjpaileaaPi
import Derived.Test.YtabghfcjpaileaaYq
namespace Go.Proofs.Ytabghfcjpaileaa
open Go.RowKit Go.Sort
set_option linter.unusedVariables false
set_option maxRecDepth 100000
/-- What is paid at a place; what is left there. -/
def pdN (h : Nat) (l : List Al) (p : List Int) (i : Nat) (x : Al) : Nat := if x.2.2.1 = 0 ∧ nmB p i = true then shN h l i x else 0
def pdL (h : Nat) (l : List Al) (p : List Int) : List Nat := l.mapIdx fun i x => pdN h l p i x
def rsX (x : Al) (n : Nat) : Al := (x.1, x.2.1 - n, x.2.2.1, x.2.2.2.1, x.2.2.2.2)
def rsL (h : Nat) (l : List Al) (p : List Int) : List Al := l.mapIdx fun i x => rsX x (pdN h l p i x)
def hdN (h : Nat) (l : List Al) (p : List Int) (i : Nat) : Nat := h - ((pdL h l p).take i).sum
theorem shN_le (h : Nat) (l : List Al) (i : Nat) (x : Al) : shN h l i x ≤ lfN h l i ∧ shN h l i x ≤ x.2.1 := ⟨Nat.min_le_left _ _, Nat.min_le_right _ _⟩
theorem pdN_le (h : Nat) (l : List Al) (p : List Int) (i : Nat) (x : Al) : pdN h l p i x ≤ shN h l i x := by
  unfold pdN
  split <;> omega
theorem pdL_get (h : Nat) {l : List Al} (p : List Int) {i : Nat} {x : Al} (hx : l[i]? = some x) : (pdL h l p)[i]? = some (pdN h l p i x) := by
  unfold pdL
  rw [List.getElem?_mapIdx, hx]
  rfl
theorem rsL_get (h : Nat) {l : List Al} (p : List Int) {i : Nat} {x : Al} (hx : l[i]? = some x) : (rsL h l p)[i]? = some (rsX x (pdN h l p i x)) := by
  unfold rsL
  rw [List.getElem?_mapIdx, hx]
  rfl
theorem pdL_len (h : Nat) (l : List Al) (p : List Int) : (pdL h l p).length = l.length := by simp [pdL]
theorem rsL_len (h : Nat) (l : List Al) (p : List Int) : (rsL h l p).length = l.length := by simp [rsL]
theorem sum_get {l : List Nat} {i x : Nat} (h : l[i]? = some x) : (l.take (i + 1)).sum = (l.take i).sum + x := by rw [List.take_add_one, h]; simp
theorem pd_sum (h : Nat) (l : List Al) (p : List Int) : ∀ i, i ≤ l.length → ((pdL h l p).take i).sum + lfN h l i ≤ h
  | 0, _ => by rw [lfN_zero]; simp
  | i + 1, hi => by
    obtain ⟨x, hx⟩ : ∃ t, l[i]? = some t := ⟨_, List.getElem?_eq_getElem (by omega)⟩
    have h1 := pd_sum h l p i (by omega)
    rw [sum_get (pdL_get h p hx), lfN_step h hx]
    have h2 := pdN_le h l p i x
    have h3 := (shN_le h l i x).1
    omega
theorem hd_step (h : Nat) {l : List Al} (p : List Int) {i : Nat} {x : Al} (hx : l[i]? = some x) : pdN h l p i x ≤ hdN h l p i ∧ hdN h l p (i + 1) = hdN h l p i - pdN h l p i x := by
  have hi := (List.getElem?_eq_some_iff.1 hx).1
  have h1 := pd_sum h l p i (by omega)
  have h2 := pdN_le h l p i x
  have h3 := (shN_le h l i x).1
  unfold hdN
  rw [sum_get (pdL_get h p hx)]
  omega
theorem hd_all (h : Nat) (l : List Al) (p : List Int) : hdN h l p l.length = h - (pdL h l p).sum := by
  unfold hdN
  rw [← pdL_len h l p, List.take_length]
theorem pd_all (h : Nat) (l : List Al) (p : List Int) : (pdL h l p).sum ≤ h := by
  have := pd_sum h l p l.length (Nat.le_refl _)
  rw [← pdL_len h l p, List.take_length] at this
  omega
theorem hd_lt {h : Nat} (hh : h < W) (l : List Al) (p : List Int) (i : Nat) : hdN h l p i < W := Nat.lt_of_le_of_lt (Nat.sub_le _ _) hh
theorem pdL_lt {h : Nat} (hh : h < W) (l : List Al) (p : List Int) : ∀ x ∈ pdL h l p, x < W := fun x hx => by
  obtain ⟨i, hi⟩ := List.mem_iff_getElem?.1 hx
  have hil := (List.getElem?_eq_some_iff.1 hi).1
  rw [pdL_len] at hil
  obtain ⟨y, hy⟩ : ∃ t, l[i]? = some t := ⟨_, List.getElem?_eq_getElem hil⟩
  rw [pdL_get h p hy] at hi
  cases hi
  have h2 := pdN_le h l p i y
  have h3 := (shN_le h l i y).1
  have h4 := lfN_le h l i
  omega
theorem rsL_lt {l : List Al} (hl : ∀ x ∈ l, x.2.1 < W) (h : Nat) (p : List Int) : ∀ x ∈ rsL h l p, x.2.1 < W := fun x hx => by
  obtain ⟨i, hi⟩ := List.mem_iff_getElem?.1 hx
  have hil := (List.getElem?_eq_some_iff.1 hi).1
  rw [rsL_len] at hil
  obtain ⟨y, hy⟩ : ∃ t, l[i]? = some t := ⟨_, List.getElem?_eq_getElem hil⟩
  rw [rsL_get h p hy] at hi
  cases hi
  have := hl y (List.mem_of_getElem? hy)
  show y.2.1 - _ < W
  omega
theorem run_eqE {x y : Int} {b : Bool} (h : decide (x = y) = b) (o1 o2 : Operand) (w : World) : (do eqGuard .eql 30 o1 o2 (Z x) (Z y); binOp .eql 30 (Z x) (Z y) : Sem Value).run Try.prog w = .ok (.bool b) w := by subst h; by_cases hx : x = y <;> simp [go_sem, hx]
theorem run_neE {x y : Int} {b : Bool} (h : decide (x ≠ y) = b) (o1 o2 : Operand) (w : World) : (do eqGuard .neq 30 o1 o2 (Z x) (Z y); binOp .neq 30 (Z x) (Z y) : Sem Value).run Try.prog w = .ok (.bool b) w := by subst h; by_cases hx : x = y <;> simp [go_sem, hx]
theorem wp_callG {P : Program} {Q : Exit → Act → World → Prop} {o : Oper} {a : Act} {w : World} {K : Act → World → Prop} {f : FuncId} {args : Array Value} (hrun : (execOp a.eval o).run P w = .ok (.enter f args) w)
    (hc : Calls P f args w fun e w' => ∃ v, e = .returned v ∧ K (a.put o.dst v) w') : o.wp P a w K Q := by
  unfold Oper.wp
  rw [hrun, Oper.upon_enter]
  refine hc.mono ?_
  rintro e w' ⟨v, rfl, hb⟩
  exact hb
theorem call_run {f : Nat} {fn : Func} {o : Oper} {x : Operand} {cs : Array Value} {xs : Array Operand} {ts : Array TypeId} {a : Act} (hop : o.op = .call ⟨.value x, xs, ts⟩) (hf : Try.prog.funcs[f]? = some fn) (hx : a.eval x = .func (.func f) #[] cs) (w : World) (hb : fn.body.isNone = false := by kernel_rfl) (hn : (fn.name == "runtime.NumGoroutine") = false := by kernel_rfl) : (execOp a.eval o).run Try.prog w = .ok (.enter f (xs.map a.eval ++ cs)) w := by
  have h := fv_any (P := Try.prog) (a := a) hf hb hn hx xs ts o.type w
  unfold execOp
  simp only [hop]
  exact h
section
variable {P : Program} {J : World → Prop} {F : Nat → Prop} {ds : List Deferred} {β : Nat → Nat} {c : Cf} {a : Act} {w : World} {Q : Exit → Act → World → Prop}
/-- Four results, the third one in a cell. -/
def res4 (P : Program) (fn : Func) (st : St) : Option Value := match fn.results.toList with
  | [.tmp x, .tmp y, .cell p t, .tmp z] => match resV P st (.tmp x), resV P st (.tmp y), resV P st (.cell p t), resV P st (.tmp z) with
    | some v, some v', some u, some u' => some (.tuple #[v, v', u, u'])
    | _, _, _, _ => none
  | _ => none
theorem res4_ok {κ : World × Nat × (Nat → Nat) × List Deferred} {w0 : World} {st : St} (I : Inv κ w0 β st.1 st.2.1 st.2.2 a w) {fn : Func} {v : Value} (h : res4 P fn st = some v) : (results fn a.tmps).run P w = .ok v w := by
  unfold res4 at h
  split at h
  · next x y p t z hr =>
    have h0 : fn.results = #[.tmp x, .tmp y, .cell p t, .tmp z] := by rw [← Array.toList_inj, hr]
    split at h
    · next v1 v2 v3 v4 g1 g2 g3 g4 =>
      cases h
      obtain ⟨ad, k1, k2⟩ := resC_ok I g3
      simp only [results, h0]
      simp [resT_ok I g1, resT_ok I g2, resT_ok I g4, k1, asAddr, k2]
    · cases h
  · cases h
theorem ret4 {fn : Func} {v : Value} {Rt : Ending → World → Prop} (I : SI J F [] β c a w) (h : Rt (.returned v) w) (hr : res4 P fn (c.tm, c.rows, c.nx) = some v := by kernel_rfl) : bodyPost P fn Rt .ret a w := ⟨I.df, v, res4_ok (st := (c.tm, c.rows, c.nx)) I.inv hr, h⟩
theorem out4 {fn : Func} {v : Value} {Rt : Ending → World → Prop} (I : SI J F [] β c a w) (h : Rt (.returned v) w) (hr : res4 P fn (c.tm, c.rows, c.nx) = some v := by kernel_rfl) (hd : c.dn = some .ret := by kernel_rfl) : At P (bodyPost P fn Rt) c a w := by
  refine ⟨?_⟩
  unfold AtD
  rw [hd]
  exact ret4 I h hr
theorem outM4 {fn : Func} {v : Value} {Rt : Ending → World → Prop} {n D : Nat} (I : SI J F [{ target := .collected D, args := #[] }] β c a w) (hD : w.heap[D]? = some (.deferred (some []))) (h : Rt (.returned v) (w.putObj D (.deferred none))) (hr : res4 P fn (c.tm, c.rows, c.nx) = some v := by kernel_rfl) (hd : c.dn = some .ret := by kernel_rfl) : At P (bodyPostM Fence.wide n P fn Rt) c a w := by
  refine ⟨?_⟩
  unfold AtD
  rw [hd]
  have I2 : SI (fun _ => True) noK [{ target := .collected D, args := #[] }] β c a (w.putObj D (.deferred none)) := ⟨I.fr, I.df, trivial, fun p hp => (by
    obtain ⟨t, ht⟩ := I.row p hp
    refine ⟨t, (World.putObj_heap_other fun e => ?_).trans ht⟩
    rw [e, hD] at ht
    cases ht), fun p hp h => h, I.lt, I.inj, I.ids⟩
  have hres := res4_ok (st := (c.tm, c.rows, c.nx)) I2.inv hr
  show LeavesInM Fence.wide n P fn a.tmps Rt a.defers .returning w
  rw [I.df]
  refine ⟨by simp, .inl ⟨_, _, rfl, run_takeDeferred hD, ?_⟩⟩
  exact ⟨_, hres, h⟩
end
/-- A fact that is told by blocks of its own. -/
def kF (K1 : Nat → Prop) (f : Lf) : Lf := ⟨fun K w => (∀ k, K1 k → K k) ∧ f.p K1 w, fun K K' w w' h H => ⟨fun k hk => (h k (H.1 k hk)).1, f.loc _ _ _ _ (fun k hk => ⟨hk, (h k (H.1 k hk)).2⟩) H.2⟩⟩
/-- Lists that were laid in a region. -/
theorem SI.gsK {w0 WR : World} {b : Nat} {Kp K : Nat → Prop} {Fs : List Lf} {ds : List Deferred} {β : Nat → Nat} {c : Cf} {a : Act} {w : World} (I : SI (GS w0 WR b Kp K Fs []) (GF Kp K []) ds β c a w) (G : List Lf) {K1 : Nat → Prop} {B : Nat} (h1 : ∀ k, K1 k → B ≤ k ∧ k < w.heap.size) (h2 : ∀ f ∈ G, f.p K1 w) (hr : ∀ p ∈ c.rows, β p.1 < B) : SI (GS w0 WR b Kp (fun k => K k ∨ K1 k) (G ++ Fs) []) (GF Kp (fun k => K k ∨ K1 k) []) ds β c a w := by
  have J := I.hJ
  refine ⟨I.fr, I.df, ⟨J.bw, J.rs, J.bs, J.kk, J.nc, fun k hk => hk.elim (J.kb k) fun hk => (h1 k hk).2, fun k hk => .inl (J.lo k hk), fun f hf => ?_, fun o ho => (by cases ho), fun o ho => (by cases ho), List.Pairwise.nil⟩, I.row, fun q hq hk => ?_, I.lt, I.inj, I.ids⟩
  · rcases List.mem_append.1 hf with hf | hf
    · exact f.loc _ _ _ _ (fun k hk => ⟨.inr hk, rfl⟩) (h2 f hf)
    · exact f.loc _ _ _ _ (fun k hk => ⟨.inl hk, rfl⟩) (J.sl f hf)
  · rcases hk with (hk | hk) | ⟨o, ho, _⟩ | hk
    · exact I.dis q hq (.inl hk)
    · have h5 := (h1 _ hk).1
      have h6 := hr q hq
      omega
    · cases ho
    · exact I.dis q hq (.inr (.inr hk))
set_option maxHeartbeats 4000000 in
theorem terr_raw {w : World} {l : List Al} {ad adp : Option Addr} {cap pn capp h : Nat} {er : Int} (hv : AlI w (.slice ad l.length cap) l) (hl : l.length ≤ 1000) (he : er ≠ 0)
    (hrf : ∀ w', Below w.heap.size w w' → Calls Try.prog 17 #[.slice ad l.length cap, .slice adp pn capp] w' fun e w'' => e = .returned (Z er) ∧ Below w'.heap.size w' w'') :
    Calls Try.prog 9 #[U h, .slice ad l.length cap, .slice adp pn capp] w fun e w' => ∃ v', e = .returned (.tuple #[v', .slice none 0 0, U h, Z er]) ∧ NW w [alF v' l] w' := by
  refine inQ (J := GS w w w.heap.size noK (· < w.heap.size) [] []) (F := GF noK (· < w.heap.size) []) Try.func9 (GS.start w fun f hf => by (cases hf)) fun a I => ?_
  have hR := GS.rsr w w w.heap.size noK (· < w.heap.size) [] []
  refine goT (T := GS w w w.heap.size noK (· < w.heap.size) [] []) [cA Try.func17 (fun w' h => hrf w' h.bw), bO .neq 30 (run_neE (x := er) (y := 0) (b := true) (decide_eq_true he))] hR (fun _ h => h) I fun β1 a1 w1 I hb1 => ?_
  have hsz : a1.tmps.size = 68 := by rw [I.fr]; kernel_rfl
  have hI1 := I.hJ
  have hg8 : HasRow w1 (β1 2) (rU 0) := I.rowAt 2
  have hd8 : ¬ GF noK (· < w.heap.size) [] (β1 2) := I.dis _ (rowOf_mem (id := 2) (c := rU 0) (by kernel_rfl))
  have hw8 : w.heap.size ≤ β1 2 := Nat.le_of_not_lt fun h => hd8 (.inl h)
  have hl8 := hg8.lt
  refine dwR (T := fun _ => True) 7 8 2 24 h [(1, #[.slice adp pn capp]), (0, rU h)] [(1, none), (2, none), (5, none)] [] (fun j v w' => (j = 1 → ∃ b, v = .slice (some ⟨b, 0, none⟩) 1 1 ∧ w1.heap.size ≤ b ∧ HasRow w' b #[.slice ad l.length cap]) ∧ ((j = 2 ∨ j = 5) → ∃ K1, (∀ k, K1 k → w1.heap.size ≤ k ∧ k < w'.heap.size) ∧ (alF v l).p K1 w')) (fun j v w' w'' hj hb => ⟨fun e => by
      obtain ⟨b, q1, q2, t, q3⟩ := hj.1 e
      exact ⟨b, q1, q2, t, (hb.block b (Array.getElem?_eq_some_iff.1 q3).1 (by omega)).trans q3⟩, fun e => by
      obtain ⟨K1, q1, q2⟩ := hj.2 e
      exact ⟨K1, fun k hk => ⟨(q1 k hk).1, Nat.lt_of_lt_of_le (q1 k hk).2 hb.size⟩, (alF v l).loc _ _ _ _ (fun k hk => ⟨hk, hb.block k (q1 k hk).2 (by have := (q1 k hk).1; omega)⟩) q2⟩⟩) hR (fun _ _ => trivial) I ?_ ?_
  · intro q hq o ho listed vs a' w' hF hrd hbw hV hev
    simp only [List.mem_cons, List.not_mem_nil, or_false] at hq
    rcases hq with rfl | rfl | rfl
    · obtain ⟨o1, o2, o3⟩ := opD_get (x := .buildSlice 57 1 #[(0, .tmp 21)]) (d := some 22) ho (by kernel_rfl)
      have q1 : a'.eval (.tmp 21) = .slice ad l.length cap := hev (.tmp 21) (Sum.inl (.slice ad l.length cap)) (by kernel_rfl)
      refine bslG o1 o3 (v := .slice (some ⟨w'.heap.size, 0, none⟩) 1 1) (w' := w'.alloc (.cells #[.slice ad l.length cap] 25)) ?_ ?_
      · simp only [List.map_toArray, List.map_cons, List.map_nil, q1]
        exact bs57_1 ad l.length cap w'
      · exact ⟨_, rfl, fun u hu => (by cases hu), ⟨fun _ => ⟨_, rfl, hbw.size, HasRow.last rfl⟩, fun e => by rcases e with e | e <;> cases e⟩, below_alloc w' _⟩
    · obtain ⟨h1, h2, h3⟩ := opD_get (x := .call ⟨.value (.func 18), #[.tmp 22], #[57]⟩) (d := some 23) ho (by kernel_rfl)
      have hd := waits_done (ops := opsD _) (i := 2) (j := 1) (by kernel_rfl) hrd
      have e22 : a'.eval (.tmp 22) = vs 1 := hF.new (i := 1) (by kernel_rfl) (by omega) hd
      obtain ⟨b, e1, _, e2⟩ := (hV (1, none) (by simp) hd).1 rfl
      rw [e1] at e22
      have hbw0 : Below w.heap.size w w' := ⟨hbw.os.trans hI1.bw.os, hbw.tape.trans hI1.bw.tape, hbw.output.trans hI1.bw.output, Nat.le_trans hI1.bw.size hbw.size, fun k hk => (hbw.block k (Nat.lt_of_lt_of_le hk hI1.bw.size) (by omega)).trans (hI1.bw.block k hk)⟩
      refine wpG_plain h3 (wp_callG (f := 18) (args := #[.slice (some ⟨b, 0, none⟩) 1 1]) (by rw [call_run h1 Try.func18 (cs := #[]) rfl]; simp only [List.map_toArray, List.map_cons, List.map_nil, e22, Array.append_empty]) ((concat_one e2 (hv.below C8.loc hbw0) hl).mono fun e w6 he => ?_))
      obtain ⟨v', rfl, hb6, K1, k1, k2⟩ := he
      exact ⟨_, rfl, _, rfl, fun u hu => (by cases hu), ⟨fun e => (by cases e), fun _ => ⟨K1, fun k hk => ⟨Nat.le_trans hbw.size (k1 k hk).1, (k1 k hk).2⟩, k2 _ (by simp)⟩⟩, hb6⟩
    · obtain ⟨h1, h2, h3⟩ := opD_get (x := .assign (.tmp 23)) (d := some 6) ho (by kernel_rfl)
      have hd := waits_done (ops := opsD _) (i := 5) (j := 2) (by kernel_rfl) hrd
      have e23 : a'.eval (.tmp 23) = vs 2 := hF.new (i := 2) (by kernel_rfl) (by omega) hd
      refine wpG_plain h3 (wp_of_run (v := vs 2) (w' := w') (by unfold execOp; simp only [h1, e23, Sem.run_pure]) ⟨_, rfl, fun u hu => (by cases hu), ⟨fun e => (by cases e), fun _ => (hV (2, none) (by simp) hd).2 (.inl rfl)⟩, Below.refl _ _⟩)
  · intro vs a4 w4 hV I4
    obtain ⟨K1, k1, k2⟩ := (hV (5, none) (by simp)).2 (.inr rfl)
    obtain ⟨v', hv5⟩ : ∃ v', vs 5 = v' := ⟨_, rfl⟩
    simp only [hv5] at k2
    obtain ⟨vs', rfl⟩ : ∃ vs', vs = fun j => if j = 5 then v' else vs' j := ⟨vs, funext fun j => by split <;> rename_i hj <;> simp [hj, hv5]⟩
    have r0 := (I.rowAt 0 (r := rU h)).lt
    have r1 := (I.rowAt 1 (r := #[.slice adp pn capp])).lt
    have I5 := I4.gsK [kF K1 (alF v' l)] k1 (fun f hf => by rw [List.mem_singleton.1 hf]; exact ⟨fun _ h => h, k2⟩) (fun q hq => by
      rcases List.mem_cons.1 hq with rfl | hq
      · exact hl8
      · rcases List.mem_cons.1 hq with rfl | hq
        · exact r1
        · rw [List.mem_singleton.1 hq]; exact r0)
    refine goQ [] (GS.rsr _ _ _ _ _ _ _) I5 fun β6 a6 w6 I6 hb6 => ?_
    have J6 := I6.hJ
    exact out4 (v := .tuple #[v', .slice none 0 0, U h, Z er]) I6 ⟨v', rfl, J6.bw, K1, fun k hk => ⟨Nat.le_trans hI1.bw.size (k1 k hk).1, J6.kb k (.inr hk)⟩, fun f hf => by rw [List.mem_singleton.1 hf]; exact (J6.atK 0 (f := kF K1 (alF v' l)) rfl).2⟩
theorem transfer_err {w : World} {v vp : Value} {l : List Al} {p : List Int} {h : Nat} (hv : AlI w v l) (hp : InI w vp p) (hl : l.length ≤ 1000) (hpl : p.length < 1000000000) (he : rfE l p ≠ 0) : Calls Try.prog 9 #[U h, v, vp] w fun e w' => ∃ v', e = .returned (.tuple #[v', .slice none 0 0, U h, Z (rfE l p)]) ∧ NW w [alF v' l] w' := by
  have hrf := fun (w' : World) (hb : Below w.heap.size w w') => refused_any (hv.below C8.loc hb) (hp.below C1.loc hb) hpl (by omega)
  obtain ⟨ad, cap, hv0⟩ := hv.slice
  obtain ⟨adp, capp, hp0⟩ := hp.slice
  subst hv0 hp0
  exact terr_raw hv hl he hrf
end Go.Proofs.Ytabghfcjpaileaa
