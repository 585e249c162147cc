/- Laid one behind the other: Ee, Ef, Eg. -/
import Derived.Test.YthkpgfbjdabflaaGreatDoorKkEc
import Derived.Test.YthkpgfbjdabflaaGreatDoorKkSYh
import Derived.Test.YthkpgfbjdabflaaGreatDoorKkVl
namespace Go.Proofs.YthkpgfbjdabflaaGreatDoor
open Go.RowKit Go.Sort Go.Proofs.Tryz
set_option linter.unusedVariables false
set_option maxRecDepth 100000
set_option maxHeartbeats 4000000
section
variable {J : World → Prop} {F : Nat → Prop} {ds : List Deferred} {β : Nat → Nat} {c : Cf} {a : Act} {w : World} {Q : Exit → Act → World → Prop}
/-- A drawn region in which what a call hands back is laid into memory: the call's value is told by a property alone. -/
theorem dwF {T : World → Prop} (t ia is ic d x f nr : Nat) {fn : Func} (args : List Value) (xs : Array Operand) (ts : Array TypeId) (z : Array Value) (Vp : Value → Prop) (hvp : ∀ v, Vp v → v.cells.size = nr ∧ v.cells.all (·.oneCell') = true) (hf : Tryz.prog.funcs[f]? = some fn)
    (hcal : ∀ w', Below w.heap.size w w' → Calls Tryz.prog f args.toArray w' fun e w'' => ∃ v, e = .returned v ∧ Vp v ∧ Below w'.heap.size w' w'')
    (hzt : zeV Tryz.prog t = some z) (hzr : z.size = nr) (hin : (Tryz.prog.info? t).map (·.size) = some nr) (hov : ∀ c r : Array Value, c.size = nr → r.size = nr → kh c 0 r = r) (fs : List (Fa Tryz.prog T)) (R : y8 J F) (hT : ∀ w, J w → T w) (I : SI J F ds β c a w)
    (k : ∀ (v : Value) (b : Nat) (vs : Nat → Value) β' a' w', Vp v → zbx c.nx β β' → SI J F ds β' (adC (dsC Tryz.prog [(ia, none), (is, none), (ic, none)] fs c (fun j => if j = ia then .pointer (some ⟨b, 0, none⟩) else if j = ic then v else vs j)) d v.cells) a' w' → At Tryz.prog Q (adC (dsC Tryz.prog [(ia, none), (is, none), (ic, none)] fs c (fun j => if j = ia then .pointer (some ⟨b, 0, none⟩) else if j = ic then v else vs j)) d v.cells) a' w')
    (hne : decide (is ≠ ia ∧ ic ≠ ia ∧ ic ≠ is) = true := by kernel_rfl) (h0 : ((yw c)[ic]?).map (fun o => (o.op, o.dst, o.guard)) = some (.call ⟨.value (.func f), xs, ts⟩, some x, none) := by kernel_rfl) (h1 : ((yw c)[ia]?).map (fun o => (o.op, o.dst, o.guard)) = some (.alloc t, some d, none) := by kernel_rfl) (h2 : ((yw c)[is]?).map (fun o => (o.op, o.dst, o.guard)) = some (.store t (.tmp d) (.tmp x), none, none) := by kernel_rfl)
    (h3 : yp (yw c) is ia = true := by kernel_rfl) (h3c : yp (yw c) is ic = true := by kernel_rfl) (h4 : wr (yw c) d = some ia := by kernel_rfl) (h4c : wr (yw c) x = some ic := by kernel_rfl) (h5 : xs.toList.map (fun y => evS (yw c) c.tm ((valsD Tryz.prog [(ia, none), (is, none), (ic, none)] fs c).take ic) ic y) = args.map (fun v => some (Sum.inl v)) := by kernel_rfl) (h6 : decide (d < c.tm.length ∧ x < c.tm.length) = true := by kernel_rfl)
    (h7 : decide (ia < (yw c).size ∧ is < (yw c).size ∧ ic < (yw c).size) = true := by kernel_rfl) (h8 : ∀ (b : Nat) (vs : Nat → Value), ((dsC Tryz.prog [(ia, none), (is, none), (ic, none)] fs c (fun j => if j = ia then .pointer (some ⟨b, 0, none⟩) else vs j)).tm[d]?).join = some (Sum.inl (.pointer (some ⟨b, 0, none⟩))) := by intro b vs; kernel_rfl) (hbd : fn.body.isNone = false := by kernel_rfl) (hnm : (fn.name == "runtime.NumGoroutine") = false := by kernel_rfl)
    (hs : (dsX Tryz.prog [(ia, none), (is, none), (ic, none)] fs c).isSome = true := by kernel_rfl) (he : (dsX Tryz.prog [(ia, none), (is, none), (ic, none)] fs c).map (fun r => r.2.map (·.1)) = (dsX Tryz.prog [(ia, none), (is, none), (ic, none)] fs c).map (fun r => r.2.map (·.2)) := by kernel_rfl) : At Tryz.prog Q c a w := by
  obtain ⟨hne, hne2, hne3⟩ := of_decide_eq_true hne
  obtain ⟨h6, h6x⟩ := of_decide_eq_true h6
  obtain ⟨h7a, h7s, h7c⟩ := of_decide_eq_true h7
  have hsz : a.tmps.size = c.tm.length := by rw [I.fr]; simp
  have hbit : ∀ {i : Nat} {za : Array Bool}, i ∈ Region.ready .any (yw c) za → i < za.size ∧ ¬ za.getD i false = true := by
    intro i za hrd
    obtain ⟨hun, o', ho', _⟩ := mem_ready.1 hrd
    have hlt : i < za.size := by
      rcases Nat.lt_or_ge i za.size with h | h
      · exact h
      · rw [Array.getD_eq_getD_getElem?, Array.getElem?_eq_none h] at hun; cases hun
    refine ⟨hlt, fun h => ?_⟩
    simp [Array.getD, hlt] at hun h
    rw [hun] at h; cases h
  have hset : ∀ {i : Nat} {za : Array Bool}, i < za.size → (za.setIfInBounds i true).getD i false = true := by
    intro i za hlt
    rw [Array.getD_eq_getD_getElem?, Array.getElem?_setIfInBounds, if_pos rfl, if_pos hlt]; rfl
  have hoth : ∀ {i j : Nat} {za : Array Bool}, i ≠ j → (za.setIfInBounds i true).getD j false = za.getD j false := by
    intro i j za h
    rw [Array.getD_eq_getD_getElem?, Array.getElem?_setIfInBounds, if_neg h, ← Array.getD_eq_getD_getElem?]
  refine dwC (T := T) [(ia, none), (is, none), (ic, none)] fs
    (fun za vs w' => (za.getD is false = true → za.getD ia false = true ∧ za.getD ic false = true) ∧ (za.getD ic false = true → Vp (vs ic)) ∧ (za.getD ia false = true → ∃ b5, vs ia = .pointer (some ⟨b5, 0, none⟩) ∧ w.heap.size ≤ b5 ∧ zb w' b5 (if za.getD is false = true then (vs ic).cells else z))) (fun w1 hb => by
      have hf : ∀ n j, ¬ (Array.replicate n false).getD j false = true := fun n j h => by
        rw [Array.getD_eq_getD_getElem?, Array.getElem?_replicate] at h
        split at h <;> simp at h
      exact ⟨fun h => absurd h (hf _ _), fun h => absurd h (hf _ _), fun h => absurd h (hf _ _)⟩) (fun za vs w' w'' i v hsp h hb => by
      unfold xy at hsp
      rw [Option.map_eq_none_iff, List.find?_eq_none] at hsp
      have hi1 : i ≠ ia := fun e => by subst e; exact hsp (i, none) (by simp) (by simp)
      have hi2 : i ≠ is := fun e => by subst e; exact hsp (i, none) (by simp) (by simp)
      have hi3 : i ≠ ic := fun e => by subst e; exact hsp (i, none) (by simp) (by simp)
      rw [hoth hi1, hoth hi2, hoth hi3]
      simp only [if_neg (show ¬ ic = i from fun e => hi3 e.symm), if_neg (show ¬ ia = i from fun e => hi1 e.symm)]
      refine ⟨h.1, h.2.1, fun q => ?_⟩
      obtain ⟨b5, q1, q2, q3⟩ := h.2.2 q
      exact ⟨b5, q1, q2, q3.below hb⟩) R hT I ?_ ?_ (by kernel_rfl) hs he
  · intro p hp2 o ho za vs a' w' hF hrd hbw hC hev
    simp only [List.mem_cons, List.not_mem_nil, or_false] at hp2
    rcases hp2 with rfl | rfl | rfl
    · obtain ⟨o1, o2, o3⟩ := ve ho h1
      obtain ⟨hlt, hn11⟩ := hbit hrd
      refine allocG o1 o3 hzt (by kernel_rfl) fun w2 hb2 hr => ⟨_, rfl, fun u hu => (by cases hu), ?_, hb2.mono hbw.size⟩
      have e1 : (za.setIfInBounds ia true).getD is false = za.getD is false := hoth fun e => hne e.symm
      have e2 : (za.setIfInBounds ia true).getD ic false = za.getD ic false := hoth fun e => hne2 e.symm
      have h12 : ¬ za.getD is false = true := fun h => hn11 (hC.1 h).1
      rw [e1, e2]
      simp only [if_neg hne2]
      exact ⟨fun h => absurd h h12, hC.2.1, fun _ => ⟨w'.heap.size, by simp, hbw.size, by rw [if_neg h12]; exact hr⟩⟩
    · obtain ⟨o1, o2, o3⟩ := ve ho h2
      have hl11 := zg (ops := yw c) (i := is) (j := ia) h3 hrd
      have hl12 := zg (ops := yw c) (i := is) (j := ic) h3c hrd
      have q1 : a'.eval (.tmp d) = vs ia := hF.new (i := ia) h4 (by omega) hl11
      have q2 : a'.eval (.tmp x) = vs ic := hF.new (i := ic) h4c (by omega) hl12
      obtain ⟨b5, e11, g5, hR5⟩ := hC.2.2 hl11
      have hV := hC.2.1 hl12
      obtain ⟨hv1, hv2⟩ := hvp _ hV
      obtain ⟨hlt, _⟩ := hbit hrd
      obtain ⟨r5, hr5, hsz5⟩ : ∃ r5, zb w' b5 r5 ∧ r5.size = nr := by
        cases hq : za.getD is false with
        | true => rw [hq] at hR5; exact ⟨_, hR5, hv1⟩
        | false => rw [hq] at hR5; exact ⟨z, hR5, hzr⟩
      refine zi o3 (Oper.wp_mono ?_ (zah t (.tmp d) (.tmp x) o1 (g := b5) (off := 0) (by rw [q1, e11]) q2 (cs := (vs ic).cells) rfl hr5 (by rw [hin, hv1]) (by rw [hsz5, hv1]; omega) hv2 (e := kh r5 0 (vs ic).cells) rfl))
      rintro a2 w2 ⟨rfl, rfl⟩
      refine ⟨undef, rfl, fun u hu => (by cases hu), ?_, zf (Below.refl _ _) g5 _⟩
      have e1 : (za.setIfInBounds is true).getD ia false = za.getD ia false := hoth hne
      have e2 : (za.setIfInBounds is true).getD ic false = za.getD ic false := hoth fun e => hne3 e.symm
      rw [e1, e2, hset hlt]
      simp only [if_neg hne3, if_neg (show ¬ ia = is from fun e => hne e.symm)]
      refine ⟨fun _ => ⟨hl11, hl12⟩, fun _ => hV, fun _ => ⟨b5, e11, g5, ?_⟩⟩
      rw [if_pos trivial, hov r5 _ hsz5 hv1]
      exact hr5.set_same _
    · obtain ⟨o1, o2, o3⟩ := ve ho h0
      obtain ⟨hlt, hn12⟩ := hbit hrd
      have hx : xs.map a'.eval = args.toArray := by
        apply Array.ext'
        rw [Array.toList_map]
        have hall : ∀ (ys : List Operand) (vs : List Value), ys.map (fun y => evS (yw c) c.tm ((valsD Tryz.prog [(ia, none), (is, none), (ic, none)] fs c).take ic) ic y) = vs.map (fun v => some (Sum.inl v)) → ys.map a'.eval = vs := by
          intro ys
          induction ys with
          | nil => intro vs h; cases vs with
            | nil => rfl
            | cons v vs => simp at h
          | cons y ys ih => intro vs h; cases vs with
            | nil => simp at h
            | cons v vs =>
              simp only [List.map_cons, List.cons.injEq] at h ⊢
              exact ⟨hev y (Sum.inl v) h.1, ih vs h.2⟩
        exact hall _ _ h5
      refine callG o1 o3 hf hbd hnm hx ((hcal w' hbw).mono fun e w2 h => ?_)
      obtain ⟨v, rfl, hv, hb2⟩ := h
      refine ⟨v, rfl, fun u hu => (by cases hu), ?_, hb2.mono hbw.size⟩
      have e1 : (za.setIfInBounds ic true).getD ia false = za.getD ia false := hoth hne2
      have e2 : (za.setIfInBounds ic true).getD is false = za.getD is false := hoth hne3
      have h12 : ¬ za.getD is false = true := fun h => hn12 (hC.1 h).2
      rw [e1, e2]
      simp only [if_pos, if_neg (show ¬ ia = ic from fun e => hne2 e.symm)]
      refine ⟨fun h => absurd h h12, fun _ => hv, fun h => ?_⟩
      obtain ⟨b5, q1, q2, q3⟩ := hC.2.2 h
      rw [if_neg h12] at q3
      exact ⟨b5, q1, q2, by rw [if_neg h12]; exact q3.below hb2⟩
  intro za vs a9 w9 hall hC I9
  obtain ⟨b5, e11, g5, hR5⟩ := hC.2.2 (hall ia h7a)
  have hV := hC.2.1 (hall ic h7c)
  rw [if_pos (hall is h7s)] at hR5
  obtain ⟨v, hv⟩ : ∃ v, vs ic = v := ⟨_, rfl⟩
  rw [hv] at hR5 hV
  obtain ⟨vs', rfl⟩ : ∃ vs', vs = fun j => if j = ia then .pointer (some ⟨b5, 0, none⟩) else if j = ic then v else vs' j := ⟨vs, funext fun j => by
    by_cases hj : j = ia
    · simp [hj, e11]
    · by_cases hj2 : j = ic
      · simp [hj2, hv, hne2]
      · simp [hj, hj2]⟩
  refine adopt d (g := b5) (r := v.cells) I9 (h8 b5 _) hR5 (fun h => by
    have := R.lt w b5 I.hJ h
    omega) (fun p hp e => by
    have := (I.row p hp).lt
    omega) fun β10 hag hb10 I => ?_
  exact k v b5 vs' β10 a9 w9 hV hag I
end
abbrev z63 : Array Value := #[str [], str [], .slice none 0 0, str [], Z 0, Z 0, Z 0, Z 0, str []]
theorem ze63 : zeV Tryz.prog 63 = some z63 := by kernel_rfl
theorem over9 (c r : Array Value) (hc : c.size = 9) (hr : r.size = 9) : kh c 0 r = r := by
  unfold kh
  have h1 : c.toList.drop (0 + r.size) = [] := List.drop_eq_nil_of_le (by rw [Array.length_toList]; omega)
  rw [h1]
  simp
def alE (fE : Fr) : Int := if (decide (fE.sd = 1) && decide (fE.out = wb 1)) = true then 0 else 12
section
variable {w : World} {f : Fi} {pv : Value} {a : Va} {ea : Value} {b : Va} {eb : Value}
theorem allowed_ok (h : PrI w f pv a ea b eb) (k : Nat) (hk : k < 1000000000000) (fE : Fr) (hrun : ∀ w', Below w.heap.size w w' → Calls Tryz.prog 51 #[.string f.2.2.1, str (inV a b k), Z 20000] w' fun e w'' => ∃ ad n cap, e = .returned (frV fE (.slice ad n cap)) ∧ Below w'.heap.size w' w'') : Calls Tryz.prog 30 #[prV f pv a ea b eb k] w fun r w' => r = .returned (Z (alE fE)) ∧ Below w.heap.size w w' := by
  have hin := fun w' (hb : Below w.heap.size w w') => input_ok (h.below hb) k hk
  have hn1 := num_ok 1 (by decide)
  have hu := fun q => zaf q 12
  obtain ⟨adp, capp, rfl, _⟩ := id h.sp.2
  obtain ⟨ada, capa, rfl⟩ := h.sa.slice
  obtain ⟨adb, capb, rfl⟩ := h.sb.slice
  unfold alE
  generalize wb 1 = one at hn1 ⊢
  generalize inV a b k = inp at hin hrun
  obtain ⟨ps, no, ap, ti⟩ := f
  obtain ⟨ta, fa, da, xa⟩ := a
  obtain ⟨tb, fb, db, xb⟩ := b
  simp only [] at hrun
  refine inQ (J := Below w.heap.size w) (F := (· < w.heap.size)) Tryz.func30 (Below.refl _ _) fun a I => ?_
  refine goQ [] (zd w) I fun β1 a1 w1 I1 hb1 => ?_
  refine dwF (T := Below w.heap.size w) 63 13 14 12 3 16 51 9 [.string ap, str inp, Z 20000] #[.tmp 6, .tmp 15, .const (.int .i64 20000)] #[9, 9, 3] z63 (fun v => ∃ ad n cap, v = frV fE (.slice ad n cap)) (fun v hv => by
    obtain ⟨ad, n, cap, rfl⟩ := hv
    exact ⟨rfl, by kernel_rfl⟩) Tryz.func51 (fun w' hb => (hrun w' (I1.hJ.trans (hb.mono I1.hJ.size))).mono fun e w'' he => by
    obtain ⟨ad, n, cap, rfl, hb'⟩ := he
    exact ⟨_, rfl, ⟨ad, n, cap, rfl⟩, hb'⟩) ze63 rfl (by kernel_rfl) over9 [cA Tryz.func12 hin] (zd w) (fun _ h => h) I1 fun v b2 vs β2 a2 w2 hv hag I2 => ?_
  obtain ⟨ad, n, cap, rfl⟩ := hv
  refine goQ [] (zd w) I2 fun β3 a3 w3 I3 hb3 => ?_
  by_cases h1 : fE.sd = 1
  · rw [decide_eq_true h1]
    by_cases h2 : fE.out = one
    · rw [decide_eq_true h2]
      refine dwC (T := Below w.heap.size w) [] [bO .eql 3 (y5 (x := fE.sd) (y := 1) (b := true) (decide_eq_true h1)), kC Tryz.func25 hn1, bO .eql 9 (eqS_run (a := fE.out) (b := one) (q := true) (decide_eq_true h2)), kC Tryz.func49 (hu true)] (fun _ _ _ => True) (fun _ _ => trivial) (fun _ _ _ _ _ _ _ _ _ => trivial) (zd w) (fun _ h => h) I3 (fun p hp => by cases hp) fun za vs a4 w4 _ _ I4 => ?_
      refine goQ [] (zd w) I4 fun β5 a5 w5 I5 hb5 => ?_
      exact zm (v := Z 0) I5 ⟨rfl, I5.hJ⟩
    · rw [decide_eq_false h2]
      refine dwC (T := Below w.heap.size w) [] [bO .eql 3 (y5 (x := fE.sd) (y := 1) (b := true) (decide_eq_true h1)), kC Tryz.func25 hn1, bO .eql 9 (eqS_run (a := fE.out) (b := one) (q := false) (decide_eq_false h2)), kC Tryz.func49 (hu false)] (fun _ _ _ => True) (fun _ _ => trivial) (fun _ _ _ _ _ _ _ _ _ => trivial) (zd w) (fun _ h => h) I3 (fun p hp => by cases hp) fun za vs a4 w4 _ _ I4 => ?_
      refine goQ [] (zd w) I4 fun β5 a5 w5 I5 hb5 => ?_
      exact zm (v := Z 12) I5 ⟨rfl, I5.hJ⟩
  · rw [decide_eq_false h1]
    refine dwC (T := Below w.heap.size w) [] [bO .eql 3 (y5 (x := fE.sd) (y := 1) (b := false) (decide_eq_false h1)), kC Tryz.func49 (hu false)] (fun _ _ _ => True) (fun _ _ => trivial) (fun _ _ _ _ _ _ _ _ _ => trivial) (zd w) (fun _ h => h) I3 (fun p hp => by cases hp) fun za vs a4 w4 _ _ I4 => ?_
    refine goQ [] (zd w) I4 fun β5 a5 w5 I5 hb5 => ?_
    exact zm (v := Z 12) I5 ⟨rfl, I5.hJ⟩
end
def fsE : List Int → Int
  | [] => 0
  | e :: r => if e = 0 then fsE r else e
theorem fsE_zero {l : List Int} (h : ∀ (j : Nat) e, l[j]? = some e → e = 0) : fsE l = 0 := by
  induction l with
  | nil => rfl
  | cons e r ih =>
    have h0 := h 0 e rfl
    unfold fsE
    rw [if_pos h0]
    exact ih fun j e he => h (j + 1) e he
theorem fsE_at {l : List Int} {i : Nat} {e : Int} (hi : l[i]? = some e) (he : e ≠ 0) (h : ∀ (j : Nat) e, j < i → l[j]? = some e → e = 0) : fsE l = e := by
  induction l generalizing i with
  | nil => simp at hi
  | cons x r ih =>
    unfold fsE
    cases i with
    | zero => simp at hi; subst hi; rw [if_neg he]
    | succ i =>
      rw [if_pos (h 0 x (by omega) rfl)]
      exact ih (by simpa using hi) fun j e hj hr => h (j + 1) e (by omega) hr
theorem kf {x : Int} {q : Bool} (h : decide (x ≠ 0) = q) (o1 o2 : Operand) (w : World) : (do eqGuard .neq 33 o1 o2 (Z x) (Z 0); binOp .neq 33 (Z x) (Z 0) : Sem Value).run Tryz.prog w = .ok (.bool q) w := by
  subst h
  by_cases hx : x = 0 <;> simp [go_sem, hx]
abbrev akK : List Nat := [2, 4, 8, 9, 10]
abbrev akV (v : Value) (n i : Nat) : Vs := frm 21 [(2, Sum.inr (0, 0)), (4, Sum.inl (Z 0)), (8, Sum.inl v), (9, Sum.inl (Z n)), (10, Sum.inl (Z i))]
theorem ask_ok {w : World} {f : Fi} {a b : Va} {adp ada adb : Option Addr} {capp capa capb : Nat} {who : Int} {g cap : Nat} (fs : List Nat) (es : List Int) (hlen : es.length = fs.length) (hl : fs.length ≤ 100) (hg : zb w g (fs.map fnV).toArray)
    (hfn : ∀ (i fi : Nat), fs[i]? = some fi → ∃ F : Func, Tryz.prog.funcs[fi]? = some F ∧ F.body.isNone = false ∧ (F.name == "runtime.NumGoroutine") = false)
    (hq : ∀ (i fi : Nat) (e : Int), fs[i]? = some fi → es[i]? = some e → (∀ (j : Nat) e, j < i → es[j]? = some e → e = 0) → ∀ w', Below w.heap.size w w' → Calls Tryz.prog fi #[prV f (.slice adp f.1.length capp) a (.slice ada a.2.2.2.length capa) b (.slice adb b.2.2.2.length capb) who] w' fun r w'' => r = .returned (Z e) ∧ Below w'.heap.size w' w'') :
    Calls Tryz.prog 27 #[prV f (.slice adp f.1.length capp) a (.slice ada a.2.2.2.length capa) b (.slice adb b.2.2.2.length capb) who, .slice (some ⟨g, 0, none⟩) fs.length cap] w fun r w' => r = .returned (Z (fsE es)) ∧ Below w.heap.size w w' := by
  obtain ⟨ps, no, ap, ti⟩ := f
  obtain ⟨ta, fa, da, xa⟩ := a
  obtain ⟨tb, fb, db, xb⟩ := b
  simp only [] at hq
  have hlt : g < w.heap.size := hg.lt
  refine inQ (J := Below w.heap.size w) (F := (· < w.heap.size)) Tryz.func27 (Below.refl _ _) fun a I => ?_
  refine goQ [lS Tryz.underlying74 (ad := some ⟨g, 0, none⟩) (n := fs.length) (cap := cap) rfl] (zd w) I fun β1 a1 w1 I1 hb1 => ?_
  refine lpM (zo Tryz.f27) (fun k a w' => ∃ (i : Nat) (β : Nat → Nat) (u : Nat → Value), k = fs.length - i ∧ i ≤ fs.length ∧ (∀ (j : Nat) e, j < i → es[j]? = some e → e = 0) ∧ SI (Below w.heap.size w) (· < w.heap.size) [] β (cfC (zo Tryz.f27) (z6 (zv 21 akK) u 0 (akV (.slice (some ⟨g, 0, none⟩) fs.length cap) fs.length i)) [(0, prA (ps, no, ap, ti) (.slice adp ps.length capp) (ta, fa, da, xa) (.slice ada xa.length capa) (tb, fb, db, xb) (.slice adb xb.length capb) who)] 1) a w') fs.length ?_ ?_
  · obtain ⟨u, Iu⟩ := I1.scr (zo Tryz.f27) (zv 21 akK) (akV (.slice (some ⟨g, 0, none⟩) fs.length cap) fs.length 0) [(0, prA (ps, no, ap, ti) (.slice adp ps.length capp) (ta, fa, da, xa) (.slice ada xa.length capa) (tb, fb, db, xb) (.slice adb xb.length capb) who)] 1
    exact ⟨0, β1, u, by omega, Nat.zero_le _, fun j e hj => by omega, Iu⟩
  rintro k a2 w2 ⟨i, β2, u, rfl, hi, hall, I2⟩
  refine y7 (tm := z6 (zv 21 akK) u 0 (akV (.slice (some ⟨g, 0, none⟩) fs.length cap) fs.length i)) (rows := [(0, prA (ps, no, ap, ti) (.slice adp ps.length capp) (ta, fa, da, xa) (.slice ada xa.length capa) (tb, fb, db, xb) (.slice adb xb.length capb) who)]) (nx := 1) ?_
  rcases Nat.lt_or_ge i fs.length with hil | hil
  · obtain ⟨fi, hfi⟩ : ∃ x, fs[i]? = some x := ⟨_, List.getElem?_eq_getElem hil⟩
    obtain ⟨e, he⟩ : ∃ x, es[i]? = some x := ⟨_, List.getElem?_eq_getElem (by omega)⟩
    have hc := hq i fi e hfi he hall
    obtain ⟨F, hF1, hF2, hF3⟩ := hfn i fi hfi
    have hld : ∀ w', Below w.heap.size w w' → (loadVar 75 ⟨g, 0 + i * 1, none⟩).run Tryz.prog w' = .ok (fnV fi) w' := fun w' hb => by
      have hca : yi w' g 0 (fs.map fnV) := fun j c hcj => by
        have hr := hg.below hb
        rw [Nat.zero_add, hr.cell]
        simpa using hcj
      rw [Nat.mul_one]
      exact zb4 hca i (by simp [hfi]) 75 Tryz.underlying75 rfl
    refine goT (T := Below w.heap.size w) [bO .lss 3 (zh (x := i) (y := fs.length) (b := true) (decide_eq_true (by omega))), iA 74 Tryz.underlying74 (sz := 1) (by kernel_rfl) (g := g) (off := 0) (n := fs.length) (cap := cap) hil, ldA 75 hld] (zd w) (fun _ h => h) I2 fun β3 a3 w3 I3 hb3 => ?_
    refine inY I3 fun I4 => ?_
    refine goQ [] (zd w) I4 fun β5 a5 w5 I5 hb5 => ?_
    refine kl [Sum.inl (prV (ps, no, ap, ti) (.slice adp ps.length capp) (ta, fa, da, xa) (.slice ada xa.length capa) (tb, fb, db, xb) (.slice adb xb.length capb) who)] hF1 I5 ((hc w5 I5.hJ).mono fun r w6 hr => ?_) (by kernel_rfl) hF2 hF3
    obtain ⟨rfl, hb6⟩ := hr
    have I6 := I5.moved (J' := Below w.heap.size w) (F' := (· < w.heap.size)) (zq.of_below hb6) (I5.hJ.trans (hb6.mono I5.hJ.size)) (fun _ _ h => h) (Z e)
    by_cases hez : e = 0
    · refine goQ [bO .neq 33 (kf (x := e) (q := false) (by simp [hez])), bO .add 3 (zn (x := i) (y := 1) (z := (i + 1 : Nat)) (by rw [wz (by omega) (by omega)]; omega))] (zd w) I6 fun β7 a7 w7 I7 hb7 => ?_
      obtain ⟨u', Iu⟩ := I7.scr (zo Tryz.f27) (zv 21 akK) (akV (.slice (some ⟨g, 0, none⟩) fs.length cap) fs.length (i + 1)) [(0, prA (ps, no, ap, ti) (.slice adp ps.length capp) (ta, fa, da, xa) (.slice ada xa.length capa) (tb, fb, db, xb) (.slice adb xb.length capb) who)] 1
      refine kn ⟨fs.length - (i + 1), by omega, i + 1, β7, u', rfl, hil, fun j e2 hj h2 => ?_, Iu⟩
      rcases Nat.lt_or_ge j i with hji | hji
      · exact hall j e2 hji h2
      · obtain rfl : j = i := by omega
        rw [he] at h2
        cases h2
        exact hez
    · rw [fsE_at he hez hall]
      refine goQ [bO .neq 33 (kf (x := e) (q := true) (by simp [hez]))] (zd w) I6 fun β7 a7 w7 I7 hb7 => ?_
      exact endR (retV (v := Z e) I7 ⟨rfl, I7.hJ⟩)
  · obtain rfl : i = fs.length := by omega
    rw [fsE_zero fun j e he => hall j e (by have := (List.getElem?_eq_some_iff.1 he).1; omega) he]
    refine goQ [bO .lss 3 (zh (x := fs.length) (y := fs.length) (b := false) (decide_eq_false (by omega)))] (zd w) I2 fun β3 a3 w3 I3 hb3 => ?_
    refine kz 0 ?_
    refine goQ [] (zd w) (I3.exit _) fun β4 a4 w4 I4 hb4 => ?_
    exact zm (v := Z 0) I4 ⟨rfl, I4.hJ⟩
section
variable {P : Program} {J : World → Prop} {F : Nat → Prop} {ds : List Deferred} {β : Nat → Nat} {c : Cf} {a : Act} {w : World} {Q : Exit → Act → World → Prop}
def bsF (c : Cf) : Option (TypeId × Nat × List (Nat × SV)) := match kg c with
  | some o => match o.op with
    | .buildSlice t n ps => (ps.toList.mapM fun p => (evF c.tm p.2).map fun s => (p.1, s)).map fun ss => (t, n, ss)
    | _ => none
  | none => none
theorem mapPF_ok {tm : Vs} (ha : a.tmps = (tm.map (upO β)).toArray) : ∀ {xs : List (Nat × Operand)} {ss : List (Nat × SV)}, (xs.mapM fun p => (evF tm p.2).map fun s => (p.1, s)) = some ss → xs.map (fun p => (p.1, a.eval p.2)) = ss.map fun p => (p.1, up β p.2)
  | [], vs, h => by simp at h; subst h; rfl
  | x :: xs, vs, h => by
    rw [List.mapM_cons] at h
    cases h1 : evF tm x.2 with
    | none => rw [h1] at h; simp at h
    | some v =>
      cases h2 : (xs.mapM fun p => (evF tm p.2).map fun s => (p.1, s)) with
      | none => rw [h1, h2] at h; simp at h
      | some us =>
        rw [h1, h2] at h
        simp at h
        subst h
        rw [List.map_cons, mapPF_ok ha h2, evF_eval ha h1]
        rfl
theorem bslX {t : TypeId} {n : Nat} {ss : List (Nat × SV)} {v : Value} {w' : World} (I : SI J F ds β c a w) (hr : (Instr.buildSlice t n (ss.map fun p => (p.1, up β p.2)).toArray).run P w = .ok v w') (k : At P Q (xp c v) (a.put (yt c) v) w') (hc : bsF c = some (t, n, ss) := by kernel_rfl) : At P Q c a w := by
  unfold bsF at hc
  split at hc
  · next o ho =>
    split at hc
    · next t' n' ps hop =>
      simp only [Option.map_eq_some_iff, Prod.mk.injEq] at hc
      obtain ⟨ss', hm, rfl, rfl, rfl⟩ := hc
      refine vstep ho I (v := v) (w' := w') ?_ k
      have h1 := mapPF_ok I.fr hm
      have h2 : (ps.map fun (i, x) => (i, a.eval x)) = (ss'.map fun p => (p.1, up β p.2)).toArray := by
        rw [← h1]; apply Array.ext'; simp
      unfold execOp
      simp only [hop, h2, Sem.run_bind, hr, Result.andThen_ok, Sem.run_pure]
    · cases hc
  · cases hc
end
abbrev z56 : Array Value := #[.slice none 0 0, B 0, .string eB, Z 0, B 0, .bool false, .string eB, .slice none 0 0, B 0, .bool false, .string eB, .slice none 0 0, Z 0]
theorem ze56 : zeV Tryz.prog 56 = some z56 := by kernel_rfl
theorem over_any (r : Array Value) (c : Array Value) (hc : c.size = r.size) : kh c 0 r = r := by
  unfold kh
  have h1 : c.toList.drop (0 + r.size) = [] := List.drop_eq_nil_of_le (by rw [Array.length_toList]; omega)
  rw [h1]
  simp
def e1E (f : Fi) (a b : Va) : Int := fsE [fiE f a b, nxE a b, stE a b, kfE f a b, koE a b]
def foE (f : Fi) (a b : Va) (fE : Fr) : Int := if e1E f a b = 0 then (if noR f b = true then 0 else fsE [if ktB a.2.2.2 b.2.2.2 = true then 0 else 12, alE fE]) else e1E f a b
theorem fi_fit {f : Fi} {a b : Va} (h : fiE f a b = 0) : fitF f = true ∧ fitV a = true ∧ fitV b = true := by
  unfold fiE at h
  split at h
  · next q => simp only [Bool.and_eq_true] at q; exact ⟨q.1.1, q.1.2, q.2⟩
  · cases h
theorem zds {v : Va} (h : fitV v = true) : v.1 ≤ 1099511627776 ∧ v.2.2.2.length ≤ 3 := by
  unfold fitV vx at h
  simp only [Bool.and_eq_true, decide_eq_true_eq] at h
  exact ⟨h.1.1, h.2.1.1⟩
theorem e1_fit {f : Fi} {a b : Va} (h : e1E f a b = 0) : fiE f a b = 0 := by
  unfold e1E fsE at h
  split at h
  · assumption
  · contradiction
theorem bs74_5 (a b c d e : Nat) (w : World) : (Instr.buildSlice 74 5 #[(0, fnV a), (1, fnV b), (2, fnV c), (3, fnV d), (4, fnV e)]).run Tryz.prog w = .ok (.slice (some ⟨w.heap.size, 0, none⟩) 5 5) (w.alloc (.cells #[fnV a, fnV b, fnV c, fnV d, fnV e] 75)) := by
  simp [go_sem]
theorem bd56 (adp ada adb : Option Addr) (np na nb cp ca cb no ta tb : Nat) (ap da db : ByteArray) (ti k : Int) (fa fb : Bool) (w : World) : (Instr.build 56 (([0, 1, 2, 3] : List Nat).zip [.agg #[.slice adp np cp, B no, .string ap, Z ti], .agg #[B ta, .bool fa, .string da, .slice ada na ca], .agg #[B tb, .bool fb, .string db, .slice adb nb cb], Z k]).toArray).run Tryz.prog w = .ok (.agg #[.slice adp np cp, B no, .string ap, Z ti, B ta, .bool fa, .string da, .slice ada na ca, B tb, .bool fb, .string db, .slice adb nb cb, Z k]) w := by kernel_rfl
theorem fn5 : ∀ (i fi : Nat), ([28, 33, 34, 35, 36] : List Nat)[i]? = some fi → ∃ F : Func, Tryz.prog.funcs[fi]? = some F ∧ F.body.isNone = false ∧ (F.name == "runtime.NumGoroutine") = false
  | 0, _, h => by cases h; exact ⟨_, Tryz.func28, by kernel_rfl, by kernel_rfl⟩
  | 1, _, h => by cases h; exact ⟨_, Tryz.func33, by kernel_rfl, by kernel_rfl⟩
  | 2, _, h => by cases h; exact ⟨_, Tryz.func34, by kernel_rfl, by kernel_rfl⟩
  | 3, _, h => by cases h; exact ⟨_, Tryz.func35, by kernel_rfl, by kernel_rfl⟩
  | 4, _, h => by cases h; exact ⟨_, Tryz.func36, by kernel_rfl, by kernel_rfl⟩
  | _ + 5, _, h => by simp at h
theorem fn2 : ∀ (i fi : Nat), ([38, 30] : List Nat)[i]? = some fi → ∃ F : Func, Tryz.prog.funcs[fi]? = some F ∧ F.body.isNone = false ∧ (F.name == "runtime.NumGoroutine") = false
  | 0, _, h => by cases h; exact ⟨_, Tryz.func38, by kernel_rfl, by kernel_rfl⟩
  | 1, _, h => by cases h; exact ⟨_, Tryz.func30, by kernel_rfl, by kernel_rfl⟩
  | _ + 2, _, h => by simp at h
theorem bs74_2 (a b : Nat) (w : World) : (Instr.buildSlice 74 2 #[(0, fnV a), (1, fnV b)]).run Tryz.prog w = .ok (.slice (some ⟨w.heap.size, 0, none⟩) 2 2) (w.alloc (.cells #[fnV a, fnV b] 75)) := by
  simp [go_sem]
section
variable {w : World} {f : Fi} {pv : Value} {a : Va} {ea : Value} {b : Va} {eb : Value}
theorem mv_lt (f : Fi) (t : Nat) (h : f.1.length < 1000000) : mvV f t < 1000000 := by
  unfold mvV
  split
  · omega
  · have := Nat.mod_lt t (show 0 < f.1.length by omega)
    omega
theorem zc0 (h : PrI w f pv a ea b eb) (fE : Fr) (hrun : fiE f a b = 0 → ∀ w', Below w.heap.size w w' → Calls Tryz.prog 51 #[.string f.2.2.1, str (inV a b (mvV f b.1)), Z 20000] w' fun e w'' => ∃ ad n cap, e = .returned (frV fE (.slice ad n cap)) ∧ Below w'.heap.size w' w'') :
    Calls Tryz.prog 16 #[fxdV f pv, vaV a ea, vaV b eb] w fun r w' => r = .returned (Z (foE f a b fE)) ∧ Below w.heap.size w w' := by
  have hmv := fun w' (hb : Below w.heap.size w w') => mover_ok (h.below hb).sp b.1 h.np
  have hk := mv_lt f b.1 h.np
  obtain ⟨kk, hkk⟩ : ∃ k, mvV f b.1 = k := ⟨_, rfl⟩
  rw [hkk] at hmv hk hrun
  have q28 := fun w' (hb : Below w.heap.size w w') => fit_ok (who := kk) (h.below hb)
  have q33 := fun (h0 : fiE f a b = 0) w' (hb : Below w.heap.size w w') => next_ok (who := kk) (h.below hb) (by have := (zds (fi_fit h0).2.1).1; unfold M; omega)
  have q34 := fun w' (hb : Below w.heap.size w w') => stays_ok (who := kk) (h.below hb)
  have q35 := fun w' (hb : Below w.heap.size w w') => keeps_ok (who := kk) (h.below hb)
  have q36 := fun w' (hb : Below w.heap.size w w') => outcome_ok (who := kk) (h.below hb)
  have q37 := fun w' (hb : Below w.heap.size w w') => norule_ok (who := kk) (h.below hb)
  have q38 := fun (h0 : fiE f a b = 0) w' (hb : Below w.heap.size w w') => totals_ok (who := kk) (h.below hb) (by have := (zds (fi_fit h0).2.1).2; omega) (by have := (zds (fi_fit h0).2.2).2; omega)
  have q30 := fun (h0 : fiE f a b = 0) w' (hb : Below w.heap.size w w') => allowed_ok (h.below hb) kk (by omega) fE (fun w2 hb2 => hrun h0 w2 (hb.trans (hb2.mono hb.size)))
  obtain ⟨adp, capp, rfl, _⟩ := id h.sp.2
  obtain ⟨ada, capa, rfl⟩ := h.sa.slice
  obtain ⟨adb, capb, rfl⟩ := h.sb.slice
  have hf0 := e1_fit (f := f) (a := a) (b := b)
  unfold foE
  have he1 : e1E f a b = fsE [fiE f a b, nxE a b, stE a b, kfE f a b, koE a b] := rfl
  generalize e1E f a b = e1 at *
  generalize fiE f a b = v28 at *
  generalize nxE a b = v33 at *
  generalize stE a b = v34 at *
  generalize kfE f a b = v35 at *
  generalize koE a b = v36 at *
  generalize noR f b = qn at *
  generalize (if ktB a.2.2.2 b.2.2.2 = true then (0 : Int) else 12) = v38 at *
  generalize alE fE = v30 at *
  obtain ⟨ps, no, ap, ti⟩ := f
  obtain ⟨ta, fa, da, xa⟩ := a
  obtain ⟨tb, fb, db, xb⟩ := b
  simp only [] at hmv q28 q33 q34 q35 q36 q37 q38 q30
  refine inQ (J := Below w.heap.size w) (F := (· < w.heap.size)) Tryz.func16 (Below.refl _ _) fun a I => ?_
  refine goQ [] (zd w) I fun β1 a1 w1 I1 hb1 => ?_
  refine dwB (T := Below w.heap.size w) 56 8 9 7 16 z56 (prA (ps, no, ap, ti) (.slice adp ps.length capp) (ta, fa, da, xa) (.slice ada xa.length capa) (tb, fb, db, xb) (.slice adb xb.length capb) kk) (prV (ps, no, ap, ti) (.slice adp ps.length capp) (ta, fa, da, xa) (.slice ada xa.length capa) (tb, fb, db, xb) (.slice adb xb.length capb) kk) rfl ze56 rfl (by kernel_rfl) (by kernel_rfl) (over_any _) [cA Tryz.func10 hmv, dO 56 [0, 1, 2, 3] (bd56 adp ada adb ps.length xa.length xb.length capp capa capb no ta tb ap da db ti kk fa fb)] (zd w) (fun _ h => h) I1 fun b2 vs β2 a2 w2 hag I2 => ?_
  refine goQ [] (zd w) I2 fun β3 a3 w3 I3 hb3 => ?_
  refine bslX (ss := [(0, Sum.inl (fnV 28)), (1, Sum.inl (fnV 33)), (2, Sum.inl (fnV 34)), (3, Sum.inl (fnV 35)), (4, Sum.inl (fnV 36))]) I3 (bs74_5 28 33 34 35 36 w3) ?_
  have I4 := I3.alloc (zd w) (.cells #[fnV 28, fnV 33, fnV 34, fnV 35, fnV 36] 75) (.slice (some ⟨w3.heap.size, 0, none⟩) 5 5)
  have hrow : zb (w3.alloc (.cells #[fnV 28, fnV 33, fnV 34, fnV 35, fnV 36] 75)) w3.heap.size (([28, 33, 34, 35, 36] : List Nat).map fnV).toArray := zb.last rfl
  have hb4 : Below w.heap.size w (w3.alloc (.cells #[fnV 28, fnV 33, fnV 34, fnV 35, fnV 36] 75)) := I4.hJ
  generalize w3.alloc (.cells #[fnV 28, fnV 33, fnV 34, fnV 35, fnV 36] 75) = w4 at *
  generalize w3.heap.size = g at *
  have hask := ask_ok (w := w4) (f := (ps, no, ap, ti)) (a := (ta, fa, da, xa)) (b := (tb, fb, db, xb)) (adp := adp) (ada := ada) (adb := adb) (capp := capp) (capa := capa) (capb := capb) (who := kk) (g := g) (cap := 5) [28, 33, 34, 35, 36] [v28, v33, v34, v35, v36] rfl (by decide) hrow fn5 (fun i fi e hfi he hz w' hb' => by
    have hb'' : Below w.heap.size w w' := hb4.trans (hb'.mono hb4.size)
    match i, hfi, he, hz with
    | 0, hfi, he, hz => cases hfi; cases he; exact q28 w' hb''
    | 1, hfi, he, hz => cases hfi; cases he; exact q33 (hz 0 v28 (by omega) rfl) w' hb''
    | 2, hfi, he, hz => cases hfi; cases he; exact q34 w' hb''
    | 3, hfi, he, hz => cases hfi; cases he; exact q35 w' hb''
    | 4, hfi, he, hz => cases hfi; cases he; exact q36 w' hb''
    | _ + 5, hfi, he, hz => simp at hfi)
  rw [← he1] at hask
  refine mcall (f := 27) (ss := [Sum.inl (prV (ps, no, ap, ti) (.slice adp ps.length capp) (ta, fa, da, xa) (.slice ada xa.length capa) (tb, fb, db, xb) (.slice adb xb.length capb) kk), Sum.inl (.slice (some ⟨g, 0, none⟩) 5 5)]) Tryz.func27 I4 (hask.mono fun r w5 hr => ?_)
  obtain ⟨rfl, hb5⟩ := hr
  have I5 := I4.moved (J' := Below w.heap.size w) (F' := (· < w.heap.size)) (zq.of_below hb5) (I4.hJ.trans (hb5.mono I4.hJ.size)) (fun _ _ h => h) (Z e1)
  by_cases hz : e1 = 0
  · rw [if_pos hz]
    have h0 := hf0 hz
    cases qn
    · refine goT (T := Below w.heap.size w) [bO .neq 33 (kf (x := e1) (q := false) (by simp [hz])), cA Tryz.func37 q37] (zd w) (fun _ h => h) I5 fun β6 a6 w6 I6 hb6 => ?_
      refine bslX (ss := [(0, Sum.inl (fnV 38)), (1, Sum.inl (fnV 30))]) I6 (bs74_2 38 30 w6) ?_
      have I7 := I6.alloc (zd w) (.cells #[fnV 38, fnV 30] 75) (.slice (some ⟨w6.heap.size, 0, none⟩) 2 2)
      have hrow7 : zb (w6.alloc (.cells #[fnV 38, fnV 30] 75)) w6.heap.size (([38, 30] : List Nat).map fnV).toArray := zb.last rfl
      have hb7 : Below w.heap.size w (w6.alloc (.cells #[fnV 38, fnV 30] 75)) := I7.hJ
      generalize w6.alloc (.cells #[fnV 38, fnV 30] 75) = w7 at *
      generalize w6.heap.size = g7 at *
      have hask2 := ask_ok (w := w7) (f := (ps, no, ap, ti)) (a := (ta, fa, da, xa)) (b := (tb, fb, db, xb)) (adp := adp) (ada := ada) (adb := adb) (capp := capp) (capa := capa) (capb := capb) (who := kk) (g := g7) (cap := 2) [38, 30] [v38, v30] rfl (by decide) hrow7 fn2 (fun i fi e hfi he hz w' hb' => by
        have hb'' : Below w.heap.size w w' := hb7.trans (hb'.mono hb7.size)
        match i, hfi, he, hz with
        | 0, hfi, he, hz => cases hfi; cases he; exact q38 h0 w' hb''
        | 1, hfi, he, hz => cases hfi; cases he; exact q30 h0 w' hb''
        | _ + 2, hfi, he, hz => simp at hfi)
      generalize fsE [v38, v30] = e2 at hask2 ⊢
      refine mcall (f := 27) (ss := [Sum.inl (prV (ps, no, ap, ti) (.slice adp ps.length capp) (ta, fa, da, xa) (.slice ada xa.length capa) (tb, fb, db, xb) (.slice adb xb.length capb) kk), Sum.inl (.slice (some ⟨g7, 0, none⟩) 2 2)]) Tryz.func27 I7 (hask2.mono fun r w8 hr => ?_)
      obtain ⟨rfl, hb8⟩ := hr
      have I8 := I7.moved (J' := Below w.heap.size w) (F' := (· < w.heap.size)) (zq.of_below hb8) (I7.hJ.trans (hb8.mono I7.hJ.size)) (fun _ _ h => h) (Z e2)
      refine goQ [] (zd w) I8 fun β9 a9 w9 I9 hb9 => ?_
      exact zm (v := Z e2) I9 ⟨rfl, I9.hJ⟩
    · refine goT (T := Below w.heap.size w) [bO .neq 33 (kf (x := e1) (q := false) (by simp [hz])), cA Tryz.func37 q37] (zd w) (fun _ h => h) I5 fun β6 a6 w6 I6 hb6 => ?_
      exact zm (v := Z e1) I6 ⟨by rw [hz]; rfl, I6.hJ⟩
  · rw [if_neg hz]
    refine goT (T := Below w.heap.size w) [bO .neq 33 (kf (x := e1) (q := true) (by simp [hz]))] (zd w) (fun _ h => h) I5 fun β6 a6 w6 I6 hb6 => ?_
    exact zm (v := Z e1) I6 ⟨rfl, I6.hJ⟩
end
end Go.Proofs.YthkpgfbjdabflaaGreatDoor
