/- Out of SYl. -/
import Derived.Test.YthkpgfbjdabflaaGreatDoorKkSTv
namespace Go.Proofs.YthkpgfbjdabflaaGreatDoor
open Go.RowKit Go.Sort Go.Proofs.Tryz
set_option linter.unusedVariables false
set_option maxRecDepth 100000
set_option maxHeartbeats 4000000
section
variable {J : World → Prop} {F : Nat → Prop} {ds : List Deferred} {β : Nat → Nat} {c : Cf} {a : Act} {w : World} {Q : Exit → Act → World → Prop}
theorem dwB {T : World → Prop} (t ia is d x : Nat) (z r : Array Value) (v : Value) (hvr : v.cells = r) (hzt : zeV Tryz.prog t = some z) (hzr : z.size = r.size) (hin : (Tryz.prog.info? t).map (·.size) = some r.size) (h1c : r.all (·.oneCell') = true) (hov : ∀ c : Array Value, c.size = r.size → kh c 0 r = r) (fs : List (Fa Tryz.prog T)) (R : y8 J F) (hT : ∀ w, J w → T w) (I : SI J F ds β c a w)
    (k : ∀ (b : Nat) (vs : Nat → Value) β' a' w', zbx c.nx β β' → SI J F ds β' (adC (dsC Tryz.prog [(ia, none), (is, none)] fs c (fun j => if j = ia then .pointer (some ⟨b, 0, none⟩) else vs j)) d (r)) a' w' → At Tryz.prog Q (adC (dsC Tryz.prog [(ia, none), (is, none)] fs c (fun j => if j = ia then .pointer (some ⟨b, 0, none⟩) else vs j)) d (r)) a' w')
    (hne : decide (is ≠ ia) = true := by kernel_rfl) (h1 : ((yw c)[ia]?).map (fun o => (o.op, o.dst, o.guard)) = some (.alloc t, some d, none) := by kernel_rfl) (h2 : ((yw c)[is]?).map (fun o => (o.op, o.dst, o.guard)) = some (.store t (.tmp d) (.tmp x), none, none) := by kernel_rfl)
    (h3 : yp (yw c) is ia = true := by kernel_rfl) (h4 : wr (yw c) d = some ia := by kernel_rfl) (h5 : evS (yw c) c.tm ((valsD Tryz.prog [(ia, none), (is, none)] fs c).take is) is (.tmp x) = some (Sum.inl v) := by kernel_rfl) (h6 : decide (d < c.tm.length) = true := by kernel_rfl)
    (h7 : decide (ia < (yw c).size ∧ is < (yw c).size) = true := by kernel_rfl) (h8 : ∀ (b : Nat) (vs : Nat → Value), ((dsC Tryz.prog [(ia, none), (is, none)] fs c (fun j => if j = ia then .pointer (some ⟨b, 0, none⟩) else vs j)).tm[d]?).join = some (Sum.inl (.pointer (some ⟨b, 0, none⟩))) := by intro b vs; kernel_rfl)
    (hs : (dsX Tryz.prog [(ia, none), (is, none)] fs c).isSome = true := by kernel_rfl) (he : (dsX Tryz.prog [(ia, none), (is, none)] fs c).map (fun r => r.2.map (·.1)) = (dsX Tryz.prog [(ia, none), (is, none)] fs c).map (fun r => r.2.map (·.2)) := by kernel_rfl) : At Tryz.prog Q c a w := by
  have hne := of_decide_eq_true hne
  have h6 := of_decide_eq_true h6
  obtain ⟨h7a, h7s⟩ := of_decide_eq_true h7
  have hsz : a.tmps.size = c.tm.length := by rw [I.fr]; simp
  have hbit : ∀ {i : Nat} {za : Array Bool}, i ∈ Region.ready .any (yw c) za → i < za.size ∧ ¬ za.getD i false = true := by
    intro i za hrd
    obtain ⟨hun, o', ho', _⟩ := mem_ready.1 hrd
    have hlt : i < za.size := by
      rcases Nat.lt_or_ge i za.size with h | h
      · exact h
      · rw [Array.getD_eq_getD_getElem?, Array.getElem?_eq_none h] at hun; cases hun
    refine ⟨hlt, fun h => ?_⟩
    simp [Array.getD, hlt] at hun h
    rw [hun] at h; cases h
  have hset : ∀ {i : Nat} {za : Array Bool}, i < za.size → (za.setIfInBounds i true).getD i false = true := by
    intro i za hlt
    rw [Array.getD_eq_getD_getElem?, Array.getElem?_setIfInBounds, if_pos rfl, if_pos hlt]; rfl
  refine dwC (T := T) [(ia, none), (is, none)] fs
    (fun za vs w' => (za.getD is false = true → za.getD ia false = true) ∧ (za.getD ia false = true → ∃ b5, vs ia = .pointer (some ⟨b5, 0, none⟩) ∧ w.heap.size ≤ b5 ∧ zb w' b5 (if za.getD is false = true then r else z))) (fun w1 hb => by
      have hf : ∀ n j, ¬ (Array.replicate n false).getD j false = true := fun n j h => by
        rw [Array.getD_eq_getD_getElem?, Array.getElem?_replicate] at h
        split at h <;> simp at h
      exact ⟨fun h => absurd h (hf _ _), fun h => absurd h (hf _ _)⟩) (fun za vs w' w'' i v hsp h hb => by
      have hi1 : i ≠ ia := fun e => by subst e; simp [xy] at hsp
      have hi2 : i ≠ is := fun e => by
        subst e
        unfold xy at hsp
        rw [Option.map_eq_none_iff, List.find?_eq_none] at hsp
        exact hsp (i, none) (by simp) (by simp)
      refine ⟨fun h12 => zc (h.1 ((yb h12).resolve_left fun e => hi2 e.symm)), fun h11 => ?_⟩
      have h := h.2
      have e12 : (za.setIfInBounds i true).getD is false = za.getD is false := by
        rw [Array.getD_eq_getD_getElem?, Array.getElem?_setIfInBounds, if_neg hi2, ← Array.getD_eq_getD_getElem?]
      obtain ⟨b5, q1, q2, q3⟩ := h ((yb h11).resolve_left fun e => hi1 e.symm)
      rw [e12]
      exact ⟨b5, by simp only [if_neg (show ¬ ia = i from fun e => hi1 e.symm)]; exact q1, q2, q3.below hb⟩) R hT I ?_ ?_ (by kernel_rfl) hs he
  · intro p hp2 o ho za vs a' w' hF hrd hbw hC hev
    simp only [List.mem_cons, List.not_mem_nil, or_false] at hp2
    rcases hp2 with rfl | rfl
    · obtain ⟨o1, o2, o3⟩ := ve ho h1
      obtain ⟨hlt, hn11⟩ := hbit hrd
      have h12 : ¬ (za.setIfInBounds ia true).getD is false = true := fun h => hn11 (hC.1 ((yb h).resolve_left hne))
      refine allocG o1 o3 hzt (by kernel_rfl) fun w2 hb2 hr => ⟨_, rfl, fun u hu => (by cases hu), ⟨fun _ => hset hlt, fun _ => ⟨w'.heap.size, by simp, hbw.size, ?_⟩⟩, hb2.mono hbw.size⟩
      rw [if_neg h12]
      exact hr
    · obtain ⟨o1, o2, o3⟩ := ve ho h2
      have hl11 := zg (ops := yw c) (i := is) (j := ia) h3 hrd
      have q1 : a'.eval (.tmp d) = vs ia := hF.new (i := ia) h4 (by omega) hl11
      have q2 : a'.eval (.tmp x) = v := hev (.tmp x) (Sum.inl v) h5
      obtain ⟨b5, e11, g5, hR5⟩ := hC.2 hl11
      obtain ⟨hlt, _⟩ := hbit hrd
      have hset := hset hlt
      obtain ⟨r5, hr5, hsz5⟩ : ∃ r5, zb w' b5 r5 ∧ r5.size = r.size := by
        cases hq : za.getD is false with
        | true => rw [hq] at hR5; exact ⟨r, hR5, rfl⟩
        | false => rw [hq] at hR5; exact ⟨z, hR5, hzr⟩
      refine zi o3 (Oper.wp_mono ?_ (zah t (.tmp d) (.tmp x) o1 (g := b5) (off := 0) (by rw [q1, e11]) q2 (cs := r) hvr hr5 hin (by rw [hsz5]; omega) h1c (e := kh r5 0 r) rfl))
      rintro a2 w2 ⟨rfl, rfl⟩
      refine ⟨undef, rfl, fun u hu => (by cases hu), ⟨fun _ => zc hl11, fun _ => ⟨b5, by simp only [if_neg (show ¬ ia = is from fun e => hne e.symm)]; exact e11, g5, ?_⟩⟩, zf (Below.refl _ _) g5 _⟩
      rw [if_pos hset]
      rw [hov r5 hsz5]
      exact hr5.set_same _
  intro za vs a9 w9 hall hC I9
  obtain ⟨b5, e11, g5, hR5⟩ := hC.2 (hall ia h7a)
  rw [if_pos (hall is h7s)] at hR5
  obtain ⟨vs', rfl⟩ : ∃ vs', vs = fun j => if j = ia then .pointer (some ⟨b5, 0, none⟩) else vs' j := ⟨vs, funext fun j => by split <;> rename_i hj <;> simp [hj, e11]⟩
  refine adopt d (g := b5) (r := r) I9 (h8 b5 vs') hR5 (fun h => by
    have := R.lt w b5 I.hJ h
    omega) (fun p hp e => by
    have := (I.row p hp).lt
    omega) fun β10 hag hb10 I => ?_
  exact k b5 vs' β10 a9 w9 hag I
end
end Go.Proofs.YthkpgfbjdabflaaGreatDoor
