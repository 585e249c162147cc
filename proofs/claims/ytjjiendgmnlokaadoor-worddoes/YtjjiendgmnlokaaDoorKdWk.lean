/- Flat forms: read into shapes. -/
import Derived.Test.YtjjiendgmnlokaaDoorKdWj
namespace Go.Proofs.YtjjiendgmnlokaaDoor
open Go.RowKit Go.Sort
set_option linter.unusedVariables false
set_option maxRecDepth 100000
theorem sees_any {g : Nat} {S : List UInt8} {p : Nat} {dp : Int} (m : UInt8) {w : World} (hr : HasRow w g #[str S, Z p, Z dp]) (hS : S.length < 1000000000000) (hp : p ≤ S.length) :
    Calls Tryd.prog 50 #[ptr0 g, .int .u8 m.toNat] w fun e w' => e = .returned (.bool (decide (S[p]? = some m))) ∧ Below w.heap.size w w' := by
  have hsz := str_size S
  have hld1 : ∀ w', Below w.heap.size w w' → (loadVar 3 ⟨g, 0 + 1, none⟩).run Tryd.prog w' = .ok (Z p) w' := fun w' hb => run_lv (hr.below hb) (by kernel_rfl)
  have hld0 : ∀ w', Below w.heap.size w w' → (loadVar 9 ⟨g, 0 + 0, none⟩).run Tryd.prog w' = .ok (str S) w' := fun w' hb => run_lv (hr.below hb) (by kernel_rfl)
  refine inQ (J := Below w.heap.size w) (F := (· < w.heap.size)) Tryd.func50 (Below.refl _ _) fun a I => ?_
  refine goQ [] (nonR w) I fun β a w0 I hb => ?_
  rcases Nat.lt_or_ge p S.length with hpl | hpl
  · obtain ⟨b, hb1⟩ : ∃ b, S[p]? = some b := ⟨_, List.getElem?_eq_getElem hpl⟩
    refine dwT (T := Below w.heap.size w) 24 [ldA 3 hld1, ldA 9 hld0, lO Tryd.underlying9 (b := ⟨S.toArray⟩) (n := S.length) (by rw [hsz]), bO .lss 3 (run_lssZ (x := p) (y := S.length) (b := true) (by simp; omega)), ldA 9 hld0, ldA 3 hld1, iO 9 (p := str S) (i := Z p) (v := .int .u8 b.toNat) (idx_run hb1), bO .eql 5 (eqB_run (x := b) (y := m) (q := decide (b = m)) rfl)] (nonR w) (fun _ h => h) PanOk.post I fun a w1 I => ?_
    refine goQ [] (nonR w) I fun β2 a w2 I hb2 => ?_
    exact outQ (v := .bool (decide (b = m))) I ⟨by rw [hb1]; simp, I.hJ⟩
  · have hn : S[p]? = none := List.getElem?_eq_none hpl
    refine dwT (T := Below w.heap.size w) 24 [ldA 3 hld1, ldA 9 hld0, lO Tryd.underlying9 (b := ⟨S.toArray⟩) (n := S.length) (by rw [hsz]), bO .lss 3 (run_lssZ (x := p) (y := S.length) (b := false) (by simp; omega))] (nonR w) (fun _ h => h) PanOk.post I fun a w1 I => ?_
    refine goQ [] (nonR w) I fun β2 a w2 I hb2 => ?_
    exact outQ (v := .bool false) I ⟨by rw [hn]; rfl, I.hJ⟩
/-- The mark of a flat shape. -/
def mkS (k : Int) : UInt8 := if k = 0 then 110 else 116
theorem bd_shn (w : World) : (Instr.build 71 (([0] : List Nat).zip [Z 0]).toArray).run Tryd.prog w = .ok (shp 0) w := by kernel_rfl
theorem bd_sht (w : World) : (Instr.build 71 (([0] : List Nat).zip [Z 1]).toArray).run Tryd.prog w = .ok (shp 1) w := by kernel_rfl
theorem one_flat {g : Nat} {S : List UInt8} {p : Nat} {dp : Int} {k : Int} {w : World} (hr : HasRow w g #[str S, Z p, Z dp]) (hS : S.length < 1000000000000) (hk : k = 0 ∨ k = 1) (hp : S[p]? = some (mkS k)) :
    Calls Tryd.prog 51 #[ptr0 g] w fun e w' => e = .returned (shp k) ∧ HasRow w' g #[str S, Z (p + 1 : Nat), Z dp] ∧ Grow (fun k => k ≠ g) w w' := by
  have hlt := hr.lt
  have hpl : p < S.length := (List.getElem?_eq_some_iff.1 hp).1
  refine inG (J := RO w g 5 1 (.slice none 0 0) 0 []) (F := ROF w g (.slice none 0 0)) [] Tryd.func51 (RO.start _ _ _ _) hr RO.not fun a I => ?_
  refine goQ [] (RO.rs _ _ _ _ _ _ _) I fun β a w0 I hb => ?_
  have hb0 : β 0 = g := agr hb 0 rfl
  refine dwQ 10 [iO 9 (p := str S) (i := Z p) (v := .int .u8 (mkS k).toNat) (idx_run hp)] (RO.rs _ _ _ _ _ _ _) PanOk.post I fun a w1 I => ?_
  have hadd : IntKind.i64.wrap ((p : Int) + 1) = ((p + 1 : Nat) : Int) := by rw [wz (by omega) (by omega)]; omega
  rcases hk with rfl | rfl
  · refine goQ [bO .add 3 (run_addZ (x := p) (y := 1) hadd), bO .eql 5 (eqB_run (x := mkS 0) (y := 110) (q := true) rfl), dO 71 [0] bd_shn] (RO.rs _ _ _ _ _ _ _) I fun β2 a w2 I hb2 => ?_
    have hb20 : β2 0 = g := agr hb2 0 hb0
    exact outQ (v := shp 0) I ⟨rfl, I.rowG 0 hb20 (r := #[str S, Z (p + 1 : Nat), Z dp]), I.hJ.gr⟩
  · refine goQ [bO .add 3 (run_addZ (x := p) (y := 1) hadd), bO .eql 5 (eqB_run (x := mkS 1) (y := 110) (q := false) rfl), bO .eql 5 (eqB_run (x := mkS 1) (y := 116) (q := true) rfl), dO 71 [0] bd_sht] (RO.rs _ _ _ _ _ _ _) I fun β2 a w2 I hb2 => ?_
    have hb20 : β2 0 = g := agr hb2 0 hb0
    exact outQ (v := shp 1) I ⟨rfl, I.rowG 0 hb20 (r := #[str S, Z (p + 1 : Nat), Z dp]), I.hJ.gr⟩
/-- The same with the reader's row among what is told. -/
structure FJ (wE : World) (g : Nat) (r : Array Value) (v : Value) (n : Nat) (xs : List Value) (w : World) : Prop where
  ro : RO wE g 71 3 v n xs w
  row : HasRow w g r
def FJF (wE : World) (v : Value) (k : Nat) : Prop := k < wE.heap.size ∨ v.ownBlock = some k
theorem FJ.rs (wE : World) (g : Nat) (hlt : g < wE.heap.size) (r : Array Value) (v : Value) (n : Nat) (xs : List Value) : Rsrc (FJ wE g r v n xs) (FJF wE v) := by
  refine ⟨fun w w' h gr => ⟨(RO.rs wE g 71 3 v n xs).loc w w' h.ro ⟨gr.os, gr.tape, gr.output, gr.size, fun k hk hF => gr.block k hk (hF.elim (fun h => .inl h.1) .inr)⟩, ?_⟩, fun w k h hk => ?_⟩
  · obtain ⟨t, ht⟩ := h.row
    exact ⟨t, (gr.block g h.row.lt (.inl hlt)).trans ht⟩
  · rcases hk with hk | hk
    · exact Nat.lt_of_lt_of_le hk h.ro.gr.size
    · exact (h.ro.own.lt k hk).2
abbrev sc (k : Int) : List Value := [Z k, .bool false, .slice none 0 0]
theorem frow_flat {g : Nat} {ks : List Int} {w : World} (hr : HasRow w g #[str (ks.map mkS), Z 0, Z 0]) (hS : ks.length < 1000000000) (hk : ∀ k ∈ ks, k = 0 ∨ k = 1) :
    Calls Tryd.prog 36 #[ptr0 g] w fun e w' => ∃ v, e = .returned v ∧ HasRow w' g #[str (ks.map mkS), Z ks.length, Z 0] ∧ Grow (fun k => k ≠ g) w w' ∧ w'.ownsRow w.heap.size 71 3 v ks.length (ks.flatMap sc) := by
  have hlt := hr.lt
  have hsz := str_size (ks.map mkS)
  rw [List.length_map] at hsz
  refine inQ (J := FJ w g #[str (ks.map mkS), Z (0 : Nat), Z 0] (.slice none 0 0) 0 []) (F := FJF w (.slice none 0 0)) Tryd.func36 ⟨RO.start _ _ _ _, hr⟩ fun a I => ?_
  refine goQ [] (FJ.rs _ _ hlt _ _ _ _) I fun β a w1 I hb => ?_
  let St : Nat → Act → World → Prop := fun k a w' => ∃ i β u ad cap, k = ks.length - i ∧ i ≤ ks.length ∧
    SI (FJ w g #[str (ks.map mkS), Z i, Z 0] (.slice ad i cap) i ((ks.take i).flatMap sc)) (FJF w (.slice ad i cap)) [] β
      (cfC (bodyL Tryd.f36) (fillF (scrF 30 [0, 3]) u 0 (frm 30 [(0, Sum.inl (ptr0 g)), (3, Sum.inl (.slice ad i cap))])) [] 0) a w'
  refine lpM (bodyL Tryd.f36) St ks.length ?_ ?_
  · obtain ⟨u, Iu⟩ := I.scr (bodyL Tryd.f36) (scrF 30 [0, 3]) (frm 30 [(0, Sum.inl (ptr0 g)), (3, Sum.inl (.slice none 0 0))]) [] 0
    exact ⟨0, β, u, none, 0, by omega, Nat.zero_le _, Iu⟩
  rintro k a3 w3 ⟨i, β3, u, ad, cap, rfl, hi, I⟩
  refine wp_cfC (tm := fillF (scrF 30 [0, 3]) u 0 (frm 30 [(0, Sum.inl (ptr0 g)), (3, Sum.inl (.slice ad i cap))])) (rows := []) (nx := 0) ?_
  have hld1 : ∀ w', FJ w g #[str (ks.map mkS), Z i, Z 0] (.slice ad i cap) i ((ks.take i).flatMap sc) w' → (loadVar 3 ⟨g, 0 + 1, none⟩).run Tryd.prog w' = .ok (Z i) w' := fun w' h => run_lv h.row (by kernel_rfl)
  have hld0 : ∀ w', FJ w g #[str (ks.map mkS), Z i, Z 0] (.slice ad i cap) i ((ks.take i).flatMap sc) w' → (loadVar 9 ⟨g, 0 + 0, none⟩).run Tryd.prog w' = .ok (str (ks.map mkS)) w' := fun w' h => run_lv h.row (by kernel_rfl)
  refine goQ [] (FJ.rs _ _ hlt _ _ _ _) I fun β4 a4 w4 I hb4 => ?_
  rcases Nat.lt_or_ge i ks.length with hil | hil
  · obtain ⟨kd, hkd⟩ : ∃ k, ks[i]? = some k := ⟨_, List.getElem?_eq_getElem hil⟩
    have hkk := hk kd (List.mem_of_getElem? hkd)
    have hidx : (ks.map mkS)[i]? = some (mkS kd) := by rw [List.getElem?_map, hkd]; rfl
    have hs41 : ∀ w', FJ w g #[str (ks.map mkS), Z i, Z 0] (.slice ad i cap) i ((ks.take i).flatMap sc) w' → Calls Tryd.prog 50 #[ptr0 g, .int .u8 (41 : UInt8).toNat] w' fun e w'' => e = .returned (.bool false) ∧ Below w'.heap.size w' w'' := fun w' h => by
      have := sees_any 41 h.row (by simp; omega) (by simp; omega)
      rw [hidx] at this
      have e : decide (some (mkS kd) = some (41 : UInt8)) = false := by rcases hkk with rfl | rfl <;> rfl
      rw [e] at this
      exact this
    have hs93 : ∀ w', FJ w g #[str (ks.map mkS), Z i, Z 0] (.slice ad i cap) i ((ks.take i).flatMap sc) w' → Calls Tryd.prog 50 #[ptr0 g, .int .u8 (93 : UInt8).toNat] w' fun e w'' => e = .returned (.bool false) ∧ Below w'.heap.size w' w'' := fun w' h => by
      have := sees_any 93 h.row (by simp; omega) (by simp; omega)
      rw [hidx] at this
      have e : decide (some (mkS kd) = some (93 : UInt8)) = false := by rcases hkk with rfl | rfl <;> rfl
      rw [e] at this
      exact this
    refine dwT (T := FJ w g #[str (ks.map mkS), Z i, Z 0] (.slice ad i cap) i ((ks.take i).flatMap sc)) 20 [ldA 3 hld1, ldA 9 hld0, lO Tryd.underlying9 (b := ⟨(ks.map mkS).toArray⟩) (n := ks.length) (by rw [hsz]), bO .lss 3 (run_lssZ (x := i) (y := ks.length) (b := true) (by simp; omega)), cA Tryd.func50 hs41, uO .not (p := .bool false) (v := .bool true) (by intros; rfl), cA Tryd.func50 hs93, uO .not (p := .bool false) (v := .bool true) (by intros; rfl)] (FJ.rs _ _ hlt _ _ _ _) (fun _ h => h) (PanOk.then (PanOk.qk PanOk.post)) I fun a5 w5 I => ?_
    refine goQ [] (FJ.rs _ _ hlt _ _ _ _) I fun β6 a6 w6 I hb6 => ?_
    refine mcall (ss := [Sum.inl (ptr0 g)]) Tryd.func51 I ?_
    refine (one_flat I.hJ.row (by simp; omega) hkk hidx).mono fun e w7 he => ?_
    obtain ⟨rfl, hr7, hg7⟩ := he
    have hown : ∀ k, (Value.slice ad i cap).ownBlock = some k → k ≠ g := fun k hk e => by have := (I.hJ.ro.own.lt k hk).1; omega
    have I7 : SI (FJ w g #[str (ks.map mkS), Z (i + 1 : Nat), Z 0] (.slice ad i cap) i ((ks.take i).flatMap sc)) (FJF w (.slice ad i cap)) [] β6 _ _ w7 := I.moved ⟨hg7.os, hg7.tape, hg7.output, hg7.size, fun k hk hn => hg7.block k hk fun e => hn (.inl (by omega))⟩ ⟨⟨I.hJ.ro.gr.trans hg7, owns_grow I.hJ.ro.own hg7 hown⟩, hr7⟩ (fun _ _ h => h) (shp kd)
    refine bslQ (ss := [(0, Sum.inl (shp kd))]) I7 (bs_shape _ _ _ w7) ?_
    have I8 := I7.alloc (FJ.rs _ _ hlt _ _ _ _) (.cells #[Z kd, .bool false, .slice none 0 0] 71) (.slice (some ⟨w7.heap.size, 0, none⟩) 1 1)
    obtain ⟨inf, hi1, hi2, hi3, hi4⟩ := hI71
    obtain ⟨v', w9, hr9, ho9, hg9⟩ := app_els Tryd.underlying49 hi1 hi2 hi3 hi4 rfl (by decide) (by decide) I8.hJ.ro.own I8.hJ.ro.gr.size ⟨w7.heap.size, 0, none⟩ (sc kd) rfl (alloc_cell w7 #[Z kd, .bool false, .slice none 0 0] 71) (by intro u hu; simp only [sc, List.mem_cons, List.not_mem_nil, or_false] at hu; rcases hu with rfl | rfl | rfl <;> rfl) (by omega)
    obtain ⟨ad9, cap9, rfl⟩ := owns_slice ho9
    refine appQ (ss := [Sum.inl (.slice ad i cap), Sum.inl (.slice (some ⟨w7.heap.size, 0, none⟩) 1 1)]) I8 hr9 ?_
    have htk : (ks.take i).flatMap sc ++ sc kd = (ks.take (i + 1)).flatMap sc := by rw [List.take_add_one, hkd]; simp
    rw [htk] at ho9
    have I9 : SI (FJ w g #[str (ks.map mkS), Z (i + 1 : Nat), Z 0] (.slice ad9 (i + 1) cap9) (i + 1) ((ks.take (i + 1)).flatMap sc)) (FJF w (.slice ad9 (i + 1) cap9)) [] β6 _ _ w9 := I8.moved ⟨hg9.gr.os, hg9.gr.tape, hg9.gr.output, hg9.gr.size, fun k hk hn => hg9.gr.block k hk fun e => hn (.inr e.symm)⟩ ⟨I8.hJ.ro.grown ho9 hg9, by
        obtain ⟨t, ht⟩ := I8.hJ.row
        exact ⟨t, (hg9.gr.block g I8.hJ.row.lt fun e => hown g e.symm rfl).trans ht⟩⟩ (fun k hk h => by
        rcases h with h | h
        · exact .inl h
        · rcases hg9.nb k h with h1 | h1
          · exact .inr h1
          · omega) (.slice ad9 (i + 1) cap9)
    refine goQ [] (FJ.rs _ _ hlt _ _ _ _) I9 fun β10 a10 w10 I hb10 => ?_
    obtain ⟨u', Iu⟩ := I.scr (bodyL Tryd.f36) (scrF 30 [0, 3]) (frm 30 [(0, Sum.inl (ptr0 g)), (3, Sum.inl (.slice ad9 (i + 1) cap9))]) [] 0
    exact endL ⟨ks.length - (i + 1), by omega, i + 1, β10, u', ad9, cap9, rfl, hil, Iu⟩
  · obtain rfl : i = ks.length := by omega
    refine dwT (T := FJ w g #[str (ks.map mkS), Z ks.length, Z 0] (.slice ad ks.length cap) ks.length ((ks.take ks.length).flatMap sc)) 20 [ldA 3 hld1, ldA 9 hld0, lO Tryd.underlying9 (b := ⟨(ks.map mkS).toArray⟩) (n := ks.length) (by rw [hsz]), bO .lss 3 (run_lssZ (x := ks.length) (y := ks.length) (b := false) (by simp))] (FJ.rs _ _ hlt _ _ _ _) (fun _ h => h) (PanOk.then (PanOk.qk PanOk.post)) I fun a5 w5 I => ?_
    refine goQ [] (FJ.rs _ _ hlt _ _ _ _) I fun β6 a6 w6 I hb6 => ?_
    refine endE 0 ?_
    refine goQ [] (FJ.rs _ _ hlt _ _ _ _) (I.exit _) fun β7 a7 w7 I hb7 => ?_
    have hown := I.hJ.ro.own
    rw [List.take_length] at hown
    exact outQ (v := .slice ad ks.length cap) I ⟨_, rfl, I.hJ.row, I.hJ.ro.gr, hown⟩
end Go.Proofs.YtjjiendgmnlokaaDoor
