/- Encode of word: the writer's row. -/
import Derived.Test.YtjjiendgmnlokaaDoorKdWd
namespace Go.Proofs.YtjjiendgmnlokaaDoor
open Go.RowKit Go.Sort
set_option linter.unusedVariables false
set_option maxRecDepth 100000
abbrev rowK : List Nat := [0, 1, 4, 19, 20, 21]
abbrev rowV (sv : Value) (st len i : Nat) : Vs := frm 74 [(0, Sum.inr (0, 0)), (1, Sum.inl sv), (4, Sum.inl (Z st)), (19, Sum.inl sv), (20, Sum.inl (Z len)), (21, Sum.inl (Z i))]
/-- The bytes behind i terms. -/
def rawI {α : Type} (E : α → List UInt8) (cnt : α → Nat) (bs : List UInt8) (l : List (Int × Nat × ByteArray × α)) (i : Nat) : List UInt8 :=
  bs ++ ((foldE E cnt (32 * l.length) (l.take i)).1 ++ List.replicate (32 * (l.length - i)) 0) ++ (foldE E cnt (32 * l.length) (l.take i)).2
section
variable {α : Type} {E : α → List UInt8} {cnt : α → Nat} {bs : List UInt8} {l : List (Int × Nat × ByteArray × α)} {i : Nat}
theorem hd_len (hi : i ≤ l.length) : (foldE E cnt (32 * l.length) (l.take i)).1.length = 32 * i := by
  have h := (foldE_len (E := E) (cnt := cnt) (H := 32 * l.length) (l.take i) ([], [])).1
  rw [List.length_take, Nat.min_eq_left hi] at h
  simpa [foldE] using h
theorem rawI_len (hi : i ≤ l.length) : (rawI E cnt bs l i).length = bs.length + 32 * l.length + (foldE E cnt (32 * l.length) (l.take i)).2.length := by
  unfold rawI
  simp only [List.length_append, List.length_replicate, hd_len hi]
  omega
theorem rawI_fill (hi : i < l.length) (u : Nat) : ovr (rawI E cnt bs l i) (bs.length + i * 32) (wb u) = bs ++ ((foldE E cnt (32 * l.length) (l.take i)).1 ++ wb u ++ List.replicate (32 * (l.length - (i + 1))) 0) ++ (foldE E cnt (32 * l.length) (l.take i)).2 := by
  have h := ovr_word bs (foldE E cnt (32 * l.length) (l.take i)).1 (foldE E cnt (32 * l.length) (l.take i)).2 (32 * (l.length - i)) u (by omega)
  rw [hd_len (by omega)] at h
  unfold rawI
  rw [show bs.length + i * 32 = bs.length + 32 * i by omega, h, show 32 * (l.length - i) - 32 = 32 * (l.length - (i + 1)) by omega]
theorem rawI_num {t : Int × Nat × ByteArray × α} (ht : l[i]? = some t) (hk : t.1 = 0) : ovr (rawI E cnt bs l i) (bs.length + i * 32) (wb t.2.1) = rawI E cnt bs l (i + 1) := by
  have hi : i < l.length := (List.getElem?_eq_some_iff.1 ht).1
  rw [rawI_fill hi]
  unfold rawI
  rw [foldE_take l i ht]
  unfold stepE
  simp [hk]
theorem rawI_txt {t : Int × Nat × ByteArray × α} (ht : l[i]? = some t) (hk : t.1 = 1) : ovr (rawI E cnt bs l i) (bs.length + i * 32) (wb ((rawI E cnt bs l i).length - bs.length)) ++ wb t.2.2.1.size ++ t.2.2.1.data.toList ++ List.replicate ((32 - t.2.2.1.size % 32) % 32) 0 = rawI E cnt bs l (i + 1) := by
  have hi : i < l.length := (List.getElem?_eq_some_iff.1 ht).1
  rw [rawI_fill hi, rawI_len (by omega), show bs.length + 32 * l.length + (foldE E cnt (32 * l.length) (l.take i)).2.length - bs.length = 32 * l.length + (foldE E cnt (32 * l.length) (l.take i)).2.length by omega]
  unfold rawI
  rw [foldE_take l i ht]
  unfold stepE
  simp [hk, txt]
theorem rawI_lst {t : Int × Nat × ByteArray × α} (ht : l[i]? = some t) (hk : t.1 = 2) : ovr (rawI E cnt bs l i) (bs.length + i * 32) (wb ((rawI E cnt bs l i).length - bs.length)) ++ wb (cnt t.2.2.2) ++ E t.2.2.2 = rawI E cnt bs l (i + 1) := by
  have hi : i < l.length := (List.getElem?_eq_some_iff.1 ht).1
  rw [rawI_fill hi, rawI_len (by omega), show bs.length + 32 * l.length + (foldE E cnt (32 * l.length) (l.take i)).2.length - bs.length = 32 * l.length + (foldE E cnt (32 * l.length) (l.take i)).2.length by omega]
  unfold rawI
  rw [foldE_take l i ht]
  unfold stepE
  simp [hk]
theorem rawI_oth {t : Int × Nat × ByteArray × α} (ht : l[i]? = some t) (h0 : t.1 ≠ 0) (h1 : t.1 ≠ 1) (h2 : t.1 ≠ 2) : rawI E cnt bs l i = rawI E cnt bs l (i + 1) := by
  have hi : i < l.length := (List.getElem?_eq_some_iff.1 ht).1
  unfold rawI
  rw [foldE_take l i ht]
  unfold stepE
  simp only [h0, h1, h2, if_false]
  rw [show 32 * (l.length - i) = 32 + 32 * (l.length - (i + 1)) by omega, ← List.replicate_append_replicate]
  simp
theorem rawI_le (hi : i ≤ l.length) : (rawI E cnt bs l i).length ≤ bs.length + ((foldE E cnt (32 * l.length) l).1 ++ (foldE E cnt (32 * l.length) l).2).length := by
  rw [rawI_len hi, List.length_append]
  have h1 := hd_len (E := E) (cnt := cnt) (l := l) (i := l.length) (Nat.le_refl _)
  rw [List.take_length] at h1
  have h2 := foldE_le (E := E) (cnt := cnt) (H := 32 * l.length) l i
  omega
end
abbrev eql0 {T : World → Prop} (k c : Int) (b : Bool) (h : decide (k = c) = b) : Fa Tryd.prog T := bO .eql 3 (run_eqlZ (x := k) (y := c) h)
theorem row_gen {α : Type} {E : α → List UInt8} {cnt : α → Nat} {W0 : World} {L : Value → α → Prop} (hc : ∀ lv x, L lv x → (∃ ad cap, lv = .slice ad (cnt x) cap) ∧ cnt x ≤ (E x).length)
    (hcall : ∀ (lv : Value) (x : α) (g : Nat) (v : Value) (bs : List UInt8) (w : World), L lv x → Wr W0 g v bs w → bs.length + (E x).length + 1000 ≤ 1000000000000 → Calls Tryd.prog 27 #[ptr0 g, lv] w fun e w' => e = .returned T0 ∧ ∃ v', WrP W0 g v w v' (bs ++ E x) w')
    (l : List (Int × Nat × ByteArray × α)) (sv : Value) (h : LAs W0 L sv l) {g : Nat} {v : Value} {bs : List UInt8} {w : World} (hw : Wr W0 g v bs w) (hs : bs.length + ((foldE E cnt (32 * l.length) l).1 ++ (foldE E cnt (32 * l.length) l).2).length + 1000 ≤ 1000000000000) :
    Calls Tryd.prog 27 #[ptr0 g, sv] w fun e w' => e = .returned T0 ∧ ∃ v', WrP W0 g v w v' (bs ++ ((foldE E cnt (32 * l.length) l).1 ++ (foldE E cnt (32 * l.length) l).2)) w' := by
  have rle := fun i (hi : i ≤ l.length) => rawI_le (E := E) (cnt := cnt) (bs := bs) hi
  have r0 := rle 0 (Nat.zero_le _)
  rw [rawI_len (Nat.zero_le _)] at r0
  obtain ⟨ad0, cap0, rfl, hmem⟩ := h
  obtain ⟨adv, capv, rfl⟩ := owns_slice hw.own
  refine inG (J := WS W0 w g _ _ bs) (F := WSF w g _) [.slice ad0 l.length cap0] Tryd.func27 (WS.start hw) hw.row (WS.start hw).not fun a I => ?_
  refine goQ [lS Tryd.underlying58 (ad := adv) (n := bs.length) (cap := capv) rfl, lS Tryd.underlying22 (ad := ad0) (n := l.length) (cap := cap0) rfl, bO .mul 3 (run_mulZ (x := l.length) (y := 32) (z := (32 * l.length : Nat)) (by rw [wz (by omega) (by omega)]; omega))] (WS.rs _ _ _ _ _ _) I fun β a w0 I hb => ?_
  have hb0 : β 0 = g := agr hb 0 rfl
  refine wcall [Z (32 * l.length : Nat)] Tryd.func40 I hb0 (zeros_any (I.wr hb0) _ (by omega)) fun ad1 cap1 w1 I => ?_
  refine goQ [lS Tryd.underlying22 (ad := ad0) (n := l.length) (cap := cap0) rfl] (WS.rs _ _ _ _ _ _) I fun β1 a1 w2 I hb1 => ?_
  have hb10 : β1 0 = g := agr hb1 0 hb0
  let St : Nat → Act → World → Prop := fun k a w' => ∃ i β u ad cap, k = l.length - i ∧ i ≤ l.length ∧ β 0 = g ∧
    SI (WS W0 w g (.slice adv bs.length capv) (.slice ad (rawI E cnt bs l i).length cap) (rawI E cnt bs l i)) (WSF w g (.slice ad (rawI E cnt bs l i).length cap)) [] β
      (cfC (bodyL Tryd.f27) (fillF (scrF 74 rowK) u 0 (rowV (.slice ad0 l.length cap0) bs.length l.length i)) [(0, #[.slice ad (rawI E cnt bs l i).length cap])] 1) a w'
  have e0 : rawI E cnt bs l 0 = bs ++ List.replicate (32 * l.length) 0 := by simp [rawI, foldE]
  refine lpN (bodyL Tryd.f27) [Sum.inr 0] St l.length ?_ ?_
  · obtain ⟨u, Iu⟩ := I.scr (bodyL Tryd.f27) (scrF 74 rowK) (rowV (.slice ad0 l.length cap0) bs.length l.length 0) [(0, #[.slice ad1 (bs ++ List.replicate (32 * l.length) 0).length cap1])] 1
    exact ⟨0, β1, u, ad1, cap1, by omega, Nat.zero_le _, hb10, by rw [e0]; exact Iu⟩
  rintro k a3 w3 ⟨i, β3, u, ad, cap, rfl, hi, hb3, I⟩
  refine wp_cfC (tm := fillF (scrF 74 rowK) u 0 (rowV (.slice ad0 l.length cap0) bs.length l.length i)) (rows := [(0, #[.slice ad (rawI E cnt bs l i).length cap])]) (nx := 1) ?_
  rcases Nat.lt_or_ge i l.length with hil | hil
  · obtain ⟨⟨kd, nu, tx, sub⟩, ht⟩ : ∃ t, l[i]? = some t := ⟨_, List.getElem?_eq_getElem hil⟩
    obtain ⟨gm, off, lv, rfl, hcm, hlv⟩ := hmem i _ ht
    simp only [] at hcm hlv
    obtain ⟨⟨adl, capl, rfl⟩, hcl⟩ := hc lv sub hlv
    have rli := rle i hi
    have rls := rle (i + 1) hil
    have hlen := rawI_len (E := E) (cnt := cnt) (bs := bs) hi
    have next : ∀ {c : Cf} {ad' : Option Addr} {cap' : Nat} {β' : Nat → Nat} {a' : Act} {w' : World} {l' : List UInt8}, l' = rawI E cnt bs l (i + 1) → β' 0 = g → SI (WS W0 w g (.slice adv bs.length capv) (.slice ad' l'.length cap') l') (WSF w g (.slice ad' l'.length cap')) [] β' c a' w' →
        dropF (scrF 74 rowK) 0 c.tm = dropF (scrF 74 rowK) 0 (rowV (.slice (some ⟨gm, off, none⟩) l.length cap0) bs.length l.length (i + 1)) → [(0, #[Value.slice ad' l'.length cap'])].map (fun p => rowOf c.rows p.1) = [(0, #[Value.slice ad' l'.length cap'])].map (fun p => some p.2) → ∃ j, j < l.length - i ∧ St j a' w' := by
      intro c ad' cap' β' a' w' l' hl' hb' I' h1 h2
      subst hl'
      obtain ⟨u', Iu⟩ := I'.scr (bodyL Tryd.f27) (scrF 74 rowK) (rowV (.slice (some ⟨gm, off, none⟩) l.length cap0) bs.length l.length (i + 1)) [(0, #[.slice ad' (rawI E cnt bs l (i + 1)).length cap'])] 1 h1 h2
      exact ⟨l.length - (i + 1), by omega, i + 1, β', u', ad', cap', rfl, hil, hb', Iu⟩
    have fplus : IntKind.i64.wrap ((i : Int) + 1) = ((i + 1 : Nat) : Int) := by rw [wz (by omega) (by omega)]; omega
    have hld : ∀ w, Below W0.heap.size W0 w → (loadVar 41 ⟨gm, off + i * 7, none⟩).run Tryd.prog w = .ok (.agg #[Z kd, B (l0 nu), B (l1 nu), B (l2 nu), B (l3 nu), .string tx, .slice adl (cnt sub) capl]) w := fun w hb => load7 (hcm.keep (hb.block gm hcm.lt))
    have hmul : IntKind.i64.wrap ((i : Int) * 32) = ((i * 32 : Nat) : Int) := by rw [wz (by omega) (by omega)]; omega
    have hadd : IntKind.i64.wrap ((bs.length : Int) + ((i * 32 : Nat) : Int)) = ((bs.length + i * 32 : Nat) : Int) := by rw [wz (by omega) (by omega)]; omega
    have hsub : IntKind.i64.wrap (((rawI E cnt bs l i).length : Int) - (bs.length : Int)) = (((rawI E cnt bs l i).length - bs.length : Nat) : Int) := by rw [wz (by omega) (by omega)]; omega
    by_cases hk0 : kd = 0
    · subst hk0
      refine goT (T := fun w => Below W0.heap.size W0 w) [bO .lss 3 (run_lssZ (x := i) (y := l.length) (b := true) (by simp; omega)), iA 22 Tryd.underlying22 (sz := 7) (by kernel_rfl) (g := gm) (off := off) (n := l.length) (cap := cap0) hil, ldA 41 hld, bO .mul 3 (run_mulZ (x := i) (y := 32) hmul), bO .add 3 (run_addZ (x := bs.length) hadd), lS Tryd.underlying58 (ad := ad) (n := (rawI E cnt bs l i).length) (cap := cap) rfl, bO .sub 3 (run_subZ hsub), eql0 0 0 true rfl] (WS.rs _ _ _ _ _ _) (fun w h => h.bw) I fun β4 a4 w4 I hb4 => ?_
      have hb40 : β4 0 = g := agr hb4 0 hb3
      refine wcall [Z (bs.length + i * 32 : Nat), U nu] Tryd.func41 I hb40 (fill_any (I.wr hb40) (bs.length + i * 32) nu (by omega)) fun ad5 cap5 w5 I => ?_
      refine goQ [bO .add 3 (run_addZ (x := i) (y := 1) fplus)] (WS.rs _ _ _ _ _ _) I fun β6 a6 w6 I hb6 => ?_
      have hb60 : β6 0 = g := agr hb6 0 hb40
      exact endL (next (rawI_num ht rfl) hb60 I (by kernel_rfl) (by kernel_rfl))
    by_cases hk1 : kd = 1
    · subst hk1
      have hsz : tx.size + 32 + (rawI E cnt bs l i).length ≤ (rawI E cnt bs l (i + 1)).length := by
        have := congrArg List.length (rawI_txt (E := E) (cnt := cnt) (bs := bs) ht rfl)
        have h2 := wb_len tx.size
        have h3 := wb_len ((rawI E cnt bs l i).length - bs.length)
        have e : tx.data.toList.length = tx.size := Array.length_toList
        simp only [List.length_append, ovr, List.length_take, List.length_drop, h2, h3, e] at this
        omega
      refine goT (T := fun w => Below W0.heap.size W0 w) [bO .lss 3 (run_lssZ (x := i) (y := l.length) (b := true) (by simp; omega)), iA 22 Tryd.underlying22 (sz := 7) (by kernel_rfl) (g := gm) (off := off) (n := l.length) (cap := cap0) hil, ldA 41 hld, bO .mul 3 (run_mulZ (x := i) (y := 32) hmul), bO .add 3 (run_addZ (x := bs.length) hadd), lS Tryd.underlying58 (ad := ad) (n := (rawI E cnt bs l i).length) (cap := cap) rfl, bO .sub 3 (run_subZ hsub), eql0 1 0 false rfl, eql0 1 1 true rfl, kC Tryd.func42 (ofw_any ((rawI E cnt bs l i).length - bs.length) (by omega))] (WS.rs _ _ _ _ _ _) (fun w h => h.bw) I fun β4 a4 w4 I hb4 => ?_
      have hb40 : β4 0 = g := agr hb4 0 hb3
      refine wcall [Z (bs.length + i * 32 : Nat), U ((rawI E cnt bs l i).length - bs.length)] Tryd.func41 I hb40 (fill_any (I.wr hb40) (bs.length + i * 32) _ (by omega)) fun ad5 cap5 w5 I => ?_
      refine goQ [] (WS.rs _ _ _ _ _ _) I fun β6 a6 w6 I hb6 => ?_
      have hb60 : β6 0 = g := agr hb6 0 hb40
      have hol : (ovr (rawI E cnt bs l i) (bs.length + i * 32) (wb ((rawI E cnt bs l i).length - bs.length))).length = (rawI E cnt bs l i).length := by
        have := wb_len ((rawI E cnt bs l i).length - bs.length)
        simp only [ovr, List.length_append, List.length_take, List.length_drop, this]; omega
      refine wcall [.string tx] Tryd.func43 I hb60 (text_any (I.wr hb60) tx (by omega)) fun ad7 cap7 w7 I => ?_
      refine goQ [bO .add 3 (run_addZ (x := i) (y := 1) fplus)] (WS.rs _ _ _ _ _ _) I fun β8 a8 w8 I hb8 => ?_
      have hb80 : β8 0 = g := agr hb8 0 hb60
      exact endL (next (rawI_txt ht rfl) hb80 I (by kernel_rfl) (by kernel_rfl))
    by_cases hk2 : kd = 2
    · subst hk2
      have hsz : (E sub).length + 32 + (rawI E cnt bs l i).length ≤ (rawI E cnt bs l (i + 1)).length := by
        have := congrArg List.length (rawI_lst (E := E) (cnt := cnt) (bs := bs) ht rfl)
        have h2 := wb_len (cnt sub)
        have h3 := wb_len ((rawI E cnt bs l i).length - bs.length)
        simp only [List.length_append, ovr, List.length_take, List.length_drop, h2, h3] at this
        omega
      refine goT (T := fun w => Below W0.heap.size W0 w) [bO .lss 3 (run_lssZ (x := i) (y := l.length) (b := true) (by simp; omega)), iA 22 Tryd.underlying22 (sz := 7) (by kernel_rfl) (g := gm) (off := off) (n := l.length) (cap := cap0) hil, ldA 41 hld, bO .mul 3 (run_mulZ (x := i) (y := 32) hmul), bO .add 3 (run_addZ (x := bs.length) hadd), lS Tryd.underlying58 (ad := ad) (n := (rawI E cnt bs l i).length) (cap := cap) rfl, bO .sub 3 (run_subZ hsub), eql0 2 0 false rfl, eql0 2 1 false rfl, eql0 2 2 true rfl, kC Tryd.func42 (ofw_any ((rawI E cnt bs l i).length - bs.length) (by omega))] (WS.rs _ _ _ _ _ _) (fun w h => h.bw) I fun β4 a4 w4 I hb4 => ?_
      have hb40 : β4 0 = g := agr hb4 0 hb3
      refine wcall [Z (bs.length + i * 32 : Nat), U ((rawI E cnt bs l i).length - bs.length)] Tryd.func41 I hb40 (fill_any (I.wr hb40) (bs.length + i * 32) _ (by omega)) fun ad5 cap5 w5 I => ?_
      have hol : (ovr (rawI E cnt bs l i) (bs.length + i * 32) (wb ((rawI E cnt bs l i).length - bs.length))).length = (rawI E cnt bs l i).length := by
        have := wb_len ((rawI E cnt bs l i).length - bs.length)
        simp only [ovr, List.length_append, List.length_take, List.length_drop, this]; omega
      refine goQ [lS Tryd.underlying22 (ad := adl) (n := cnt sub) (cap := capl) rfl] (WS.rs _ _ _ _ _ _) I fun β6 a6 w6 I hb6 => ?_
      have hb60 : β6 0 = g := agr hb6 0 hb40
      refine wcall [Z (cnt sub)] Tryd.func44 I hb60 (count_any (I.wr hb60) (cnt sub) (by omega) (by omega)) fun ad7 cap7 w7 I => ?_
      refine goQ [] (WS.rs _ _ _ _ _ _) I fun β8 a8 w8 I hb8 => ?_
      have hb80 : β8 0 = g := agr hb8 0 hb60
      refine wcall [.slice adl (cnt sub) capl] Tryd.func27 I hb80 (hcall _ sub g _ _ _ hlv (I.wr hb80) (by have := wb_len (cnt sub); simp only [List.length_append, this]; omega)) fun ad9 cap9 w9 I => ?_
      refine goQ [bO .add 3 (run_addZ (x := i) (y := 1) fplus)] (WS.rs _ _ _ _ _ _) I fun βx ax wx I hbx => ?_
      have hbx0 : βx 0 = g := agr hbx 0 hb80
      exact endL (next (rawI_lst ht rfl) hbx0 I (by kernel_rfl) (by kernel_rfl))
    · refine goT (T := fun w => Below W0.heap.size W0 w) [bO .lss 3 (run_lssZ (x := i) (y := l.length) (b := true) (by simp; omega)), iA 22 Tryd.underlying22 (sz := 7) (by kernel_rfl) (g := gm) (off := off) (n := l.length) (cap := cap0) hil, ldA 41 hld, bO .mul 3 (run_mulZ (x := i) (y := 32) hmul), bO .add 3 (run_addZ (x := bs.length) hadd), lS Tryd.underlying58 (ad := ad) (n := (rawI E cnt bs l i).length) (cap := cap) rfl, bO .sub 3 (run_subZ hsub), eql0 kd 0 false (by simp [hk0]), eql0 kd 1 false (by simp [hk1]), eql0 kd 2 false (by simp [hk2]), bO .add 3 (run_addZ (x := i) (y := 1) fplus)] (WS.rs _ _ _ _ _ _) (fun w h => h.bw) I fun β4 a4 w4 I hb4 => ?_
      have hb40 : β4 0 = g := agr hb4 0 hb3
      exact endL (next (rawI_oth ht hk0 hk1 hk2) hb40 I (by kernel_rfl) (by kernel_rfl))
  · obtain rfl : i = l.length := by omega
    refine goQ [bO .lss 3 (run_lssZ (x := l.length) (y := l.length) (b := false) (by simp))] (WS.rs _ _ _ _ _ _) I fun β4 a4 w4 I hb4 => ?_
    have hb40 : β4 0 = g := agr hb4 0 hb3
    refine endE 0 ?_
    refine goQ [] (WS.rs _ _ _ _ _ _) (I.cf rfl rfl rfl) fun β5 a5 w5 I hb5 => ?_
    have hb50 : β5 0 = g := agr hb5 0 hb40
    have e1 : rawI E cnt bs l l.length = bs ++ ((foldE E cnt (32 * l.length) l).1 ++ (foldE E cnt (32 * l.length) l).2) := by simp [rawI]
    rw [← e1]
    exact out0 I ⟨rfl, _, I.hJ.done (I.rowG 0 hb50 (r := #[.slice ad (rawI E cnt bs l l.length).length cap]))⟩
theorem enc_cnt : ∀ (n : Nat) (l : TL n), 32 * cntL n l ≤ (enc n l).length
  | 0, l => by simp [cntL]
  | n + 1, l => by
    have h1 := hd_len (E := enc n) (cnt := cntL n) (l := l) (i := List.length (α := TT n) l) (Nat.le_refl _)
    have e : List.take (List.length (α := TT n) l) l = l := List.take_length
    rw [e] at h1
    simp only [enc, cntL, List.length_append]
    omega
/-- A row of terms is written behind what there is. -/
theorem row_any : ∀ (n : Nat) (l : TL n) {W0 : World} {g : Nat} {v sv : Value} {bs : List UInt8} {w : World}, LA W0 n sv l → Wr W0 g v bs w → bs.length + (enc n l).length + 1000 ≤ 1000000000000 →
    Calls Tryd.prog 27 #[ptr0 g, sv] w fun e w' => e = .returned T0 ∧ ∃ v', WrP W0 g v w v' (bs ++ enc n l) w'
  | 0, l, W0, g, v, sv, bs, w, h, hw, hs => by
    obtain ⟨ad, cap, rfl⟩ := h
    have := row_gen (E := fun _ : Unit => []) (cnt := fun _ => 0) (W0 := W0) (L := fun _ _ => False) (fun _ _ h => h.elim) (fun _ _ _ _ _ _ h => h.elim) [] (.slice ad 0 cap) ⟨ad, cap, rfl, fun i t h => by simp at h⟩ hw (by simpa [foldE, enc] using hs)
    simpa [foldE, enc] using this
  | n + 1, l, W0, g, v, sv, bs, w, h, hw, hs => by
    refine row_gen (E := enc n) (cnt := cntL n) (L := LA W0 n) (fun lv x hx => ⟨?_, by have := enc_cnt n x; omega⟩) (fun lv x g v bs w hx hw hs => row_any n x hx hw hs) l sv h hw hs
    cases n with
    | zero => exact hx
    | succ n =>
      obtain ⟨ad, cap, hv, _⟩ := hx
      exact ⟨ad, cap, hv⟩
end Go.Proofs.YtjjiendgmnlokaaDoor
