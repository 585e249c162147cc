/- Rows that grow by whole elements; the reader's row of flat shapes. -/
import Derived.Test.YtjjiendgmnlokaaDoorKdWi
namespace Go.Proofs.YtjjiendgmnlokaaDoor
open Go.RowKit Go.Sort
set_option linter.unusedVariables false
set_option maxRecDepth 100000
theorem app_els {t e sz by_ : Nat} {z : Value} {i : TypeInfo} (ht : Tryd.prog.underlying t = some (.slice e)) (hi : Tryd.prog.info? e = some i) (hz : i.zero = some z) (hs : i.size = sz) (hby : i.bytes = by_) (hzs : z.cells.size = sz) (hsz : 0 < sz) (hb1 : by_ ≤ 1000)
    {w : World} {b : Nat} {v : Value} {n : Nat} {xs : List Value} (h : w.ownsRow b e sz v n xs) (hb : b ≤ w.heap.size) (a : Addr) (news : List Value) (hl : news.length = 1 * sz) (hnews : ∀ j u, news[j]? = some u → w.cell? (a.add j) = some u) (h1 : ∀ u ∈ news, u.oneCell' = true) (hn : n + 1 ≤ 1000000000) :
    ∃ v' w', (Builtin.append_ #[t, t] t #[v, .slice (some a) 1 1]).run Tryd.prog w = .ok v' w' ∧ w'.ownsRow b e sz v' (n + 1) (xs ++ news) ∧ Grw v v' w w' := by
  have hm : n + 1 ≤ maxLen := by simp only [maxLen]; omega
  have hbb : (n + 1) * by_ ≤ 140737488355328 := Nat.le_trans (Nat.mul_le_mul hn hb1) (by decide)
  obtain ⟨v', w', hr, ho, hg, _⟩ := run_append_own (P := Tryd.prog) w b t t e i z sz by_ ht hi hz hs hby hzs hsz v n xs h a 1 1 news hl hnews h1 hm hbb hb
  refine ⟨v', w', hr, ho, hg, ?_⟩
  rcases h.2 with ⟨rfl, rfl⟩ | ⟨g, cap, cur, rfl, hbg, hgc, hnc, hcm, hcs, htake⟩
  · have hr2 := run_append_nil (P := Tryd.prog) w t t e i z ht hi hz a 1 1 news (by rw [hs]; exact hl) hnews (by omega) (by omega) (by rw [hby]; simp only [Nat.zero_add, Nat.one_mul] at hbb ⊢; omega)
    rw [hr2] at hr; cases hr
    intro k hk; simp only [Value.ownBlock, Option.some.injEq] at hk; exact .inr (by omega)
  · by_cases hroom : n + 1 ≤ cap
    · have hfit : n * i.size + news.length ≤ cur.size := by rw [hl, hcs, hs, ← Nat.add_mul]; exact Nat.mul_le_mul_right _ hroom
      have hr2 := run_append_room (P := Tryd.prog) w t t e i ht hi g n cap cur hgc a 1 1 news (by rw [hs]; exact hl) hnews h1 hroom hfit
      rw [hr2] at hr; cases hr
      intro k hk; exact .inl hk
    · have hr2 := run_append_grow (P := Tryd.prog) w t t e i z ht hi hz ⟨g, 0, none⟩ n cap xs (by rw [hs]; exact h.1) (h.cells (g := g) rfl) a 1 1 news (by rw [hs]; exact hl) hnews (by omega) (by omega) (by rw [hby]; exact growslice_fits (by omega) hbb)
      rw [hr2] at hr; cases hr
      intro k hk; simp only [Value.ownBlock, Option.some.injEq] at hk; exact .inr (by omega)
theorem info_of {t : Nat} {z : Value} {s b : Nat} (h : (Tryd.prog.info? t).map (fun i => (i.zero, i.size, i.bytes)) = some (some z, s, b)) : ∃ i, Tryd.prog.info? t = some i ∧ i.zero = some z ∧ i.size = s ∧ i.bytes = b := by
  cases hq : Tryd.prog.info? t with
  | none => rw [hq] at h; simp at h
  | some i => rw [hq] at h; simp at h; exact ⟨i, rfl, h.1, h.2.1, h.2.2⟩
theorem hI41 : ∃ i, Tryd.prog.info? 41 = some i ∧ i.zero = some (term7 0 0 [] (.slice none 0 0)) ∧ i.size = 7 ∧ i.bytes = 80 := info_of (by kernel_rfl)
theorem hI71 : ∃ i, Tryd.prog.info? 71 = some i ∧ i.zero = some (shp 0) ∧ i.size = 3 ∧ i.bytes = 40 := info_of (by kernel_rfl)
/-- A slice of one element is built. -/
theorem bs_term (c0 c1 c2 c3 c4 c5 c6 : Value) (w : World) : (Instr.buildSlice 22 1 #[(0, .agg #[c0, c1, c2, c3, c4, c5, c6])]).run Tryd.prog w = .ok (.slice (some ⟨w.heap.size, 0, none⟩) 1 1) (w.alloc (.cells #[c0, c1, c2, c3, c4, c5, c6] 41)) := by
  simp [go_sem]
theorem bs_shape (c0 c1 c2 : Value) (w : World) : (Instr.buildSlice 49 1 #[(0, .agg #[c0, c1, c2])]).run Tryd.prog w = .ok (.slice (some ⟨w.heap.size, 0, none⟩) 1 1) (w.alloc (.cells #[c0, c1, c2] 71)) := by
  simp [go_sem]
theorem alloc_cell (w : World) (cs : Array Value) (t : TypeId) : ∀ j u, cs.toList[j]? = some u → (w.alloc (.cells cs t)).cell? ((⟨w.heap.size, 0, none⟩ : Addr).add j) = some u := by
  intro j u h
  have hr : HasRow (w.alloc (.cells cs t)) w.heap.size cs := HasRow.last rfl
  rw [add_off, Nat.zero_add, hr.cell]
  simpa using h
theorem RO.grown {wE : World} {g e sz : Nat} {v v' : Value} {n n' : Nat} {xs xs' : List Value} {w w' : World} (h : RO wE g e sz v n xs w) (ho : w'.ownsRow wE.heap.size e sz v' n' xs') (hg : Grw v v' w w') : RO wE g e sz v' n' xs' w' :=
  ⟨⟨hg.gr.os.trans h.gr.os, hg.gr.tape.trans h.gr.tape, hg.gr.output.trans h.gr.output, Nat.le_trans h.gr.size hg.gr.size, fun k hk hn => (hg.gr.block k (Nat.lt_of_lt_of_le hk h.gr.size) fun e => by have := (h.own.lt k e.symm).1; omega).trans (h.gr.block k hk hn)⟩, ho⟩
theorem SI.grownR {wE : World} {g e sz : Nat} {v v' : Value} {n n' : Nat} {xs xs' : List Value} {w w' : World} {ds : List Deferred} {β : Nat → Nat} {c : Cf} {a : Act} (I : SI (RO wE g e sz v n xs) (ROF wE g v) ds β c a w) (ho : w'.ownsRow wE.heap.size e sz v' n' xs') (hg : Grw v v' w w') (r : Value) :
    SI (RO wE g e sz v' n' xs') (ROF wE g v') ds β (nxtQ c r) (a.put (dstQ c) r) w' := by
  refine I.moved ⟨hg.gr.os, hg.gr.tape, hg.gr.output, hg.gr.size, fun k hk hn => hg.gr.block k hk fun e => hn (.inr e.symm)⟩ (I.hJ.grown ho hg) (fun k hk h => ?_) r
  rcases h with h | h
  · exact .inl h
  · rcases hg.nb k h with h1 | h1
    · exact .inr h1
    · omega
theorem SI.alloc {J : World → Prop} {F : Nat → Prop} {ds : List Deferred} {β : Nat → Nat} {c : Cf} {a : Act} {w : World} (I : SI J F ds β c a w) (R : Rsrc J F) (o : Obj) (r : Value) : SI J F ds β (nxtQ c r) (a.put (dstQ c) r) (w.alloc o) :=
  I.moved (Grow.of_below (below_alloc w o)) (R.loc w _ I.hJ (Grow.of_below (below_alloc w o))) (fun _ _ h => h) r
/-- Flat shapes in memory. -/
def SAf (w : World) (v : Value) (ks : List Int) : Prop := ∃ ad cap, v = .slice ad ks.length cap ∧ ∀ (i : Nat) (k : Int), ks[i]? = some k → ∃ g off, ad = some ⟨g, off, none⟩ ∧ CellsAt w g (off + i * 3) [Z k, .bool false, .slice none 0 0]
abbrev tc (t : Int × Nat × List UInt8) : List Value := [Z t.1, B (l0 t.2.1), B (l1 t.2.1), B (l2 t.2.1), B (l3 t.2.1), str t.2.2, .slice none 0 0]
/-- One term of a flat shape is read. -/
def StepR (S : List UInt8) (p0 at_ : Nat) (k : Int) (word : List UInt8) (t : Int × Nat × List UInt8) (at' : Nat) : Prop :=
  (k = 0 ∧ t = (0, nm word, []) ∧ at' = at_) ∨
  (k = 1 ∧ nm word = at_ - p0 ∧ ∃ n, nm ((S.drop at_).take 32) = n ∧ n ≤ 16384 ∧ at_ + 32 + n + pad n ≤ S.length ∧ (∀ b ∈ (S.drop (at_ + 32 + n)).take (pad n), b = 0) ∧ t = (1, 0, (S.drop (at_ + 32)).take n) ∧ at' = at_ + 32 + n + pad n)
theorem term_ok {g : Nat} {S : List UInt8} {p0 p : Nat} {k : Int} {word : List UInt8} {t : Int × Nat × List UInt8} {p' : Nat} {w : World} (h : StepR S p0 p k word t p') (hw : word.length ≤ 32) (hr : HasRow w g #[str S, Z p]) (hS : S.length < 1000000000000) (hp : p ≤ S.length) :
    Calls Tryd.prog 35 #[ptr0 g, shp k, str word, Z (p - p0 : Nat)] w fun e w' => e = .returned (.agg (tc t).toArray) ∧ HasRow w' g #[str S, Z p'] ∧ Grow (fun k => k ≠ g) w w' := by
  rcases h with ⟨rfl, rfl, rfl⟩ | ⟨rfl, h1, n, h2, h3, h4, h5, rfl, rfl⟩
  · exact term0_ok word hw hr
  · exact term1_ok word hw (by omega) h1 hr hS (by omega) h2 h3 h4 h5
abbrev rrK : List Nat := [0, 1, 5, 6, 7, 19, 20, 21]
abbrev rrV (wv hd out : Value) (p0 len i : Nat) : Vs := frm 45 [(0, Sum.inr (0, 0)), (1, Sum.inl wv), (5, Sum.inl (Z p0)), (6, Sum.inl hd), (7, Sum.inl out), (19, Sum.inl wv), (20, Sum.inl (Z len)), (21, Sum.inl (Z i))]
theorem loadShp {w : World} {g o : Nat} {k : Int} (h : CellsAt w g o [Z k, .bool false, .slice none 0 0]) : (loadVar 71 ⟨g, o, none⟩).run Tryd.prog w = .ok (shp k) w := by
  have hl : (loadCells ⟨g, o, none⟩ 3).run Tryd.prog w = .ok #[Z k, .bool false, .slice none 0 0] w := by
    have := run_loadCells_list (P := Tryd.prog) w ⟨g, o, none⟩ [Z k, .bool false, .slice none 0 0] (fun j c hc => by
      rw [add_off]
      exact h j c hc)
    exact this
  have hA : (isAgg 71).run Tryd.prog w = .ok true w := by
    unfold isAgg
    simp only [Sem.run_bind, run_underlying Tryd.underlying71, Result.andThen_ok]
    rfl
  have hS : (sizeOf 71).run Tryd.prog w = .ok 3 w := by
    obtain ⟨i, hi, _, hs, _⟩ := hI71
    simp [sizeOf, typeInfo, hi, hs]
  unfold loadVar
  simp only [Sem.run_bind, hA, Result.andThen_ok, if_true, hS, hl, Sem.run_pure]
abbrev hdW (S : List UInt8) (p0 n : Nat) : List UInt8 := (S.drop p0).take (n * 32)
theorem rrow_flat {g : Nat} {S : List UInt8} {p0 : Nat} {w : World} {wv : Value} {ks : List Int} (f : Nat → Nat) (ts : List (Int × Nat × List UInt8)) (hr : HasRow w g #[str S, Z p0]) (hS0 : S.length < 10000000000) (hwv : SAf w wv ks) (hne : ∀ k, wv.ownBlock = some k → k ≠ g)
    (hf0 : f 0 = p0 + ks.length * 32) (hf : ∀ i, i ≤ ks.length → f i ≤ S.length ∧ p0 ≤ f i) (hts : ts.length = ks.length)
    (hstep : ∀ (i : Nat) (k : Int) (t : Int × Nat × List UInt8), ks[i]? = some k → ts[i]? = some t → StepR S p0 (f i) k ((((S.drop p0).take (ks.length * 32)).drop (i * 32)).take 32) t (f (i + 1))) :
    Calls Tryd.prog 22 #[ptr0 g, wv] w fun e w' => ∃ v, e = .returned v ∧ HasRow w' g #[str S, Z (f ks.length)] ∧ Grow (fun k => k ≠ g) w w' ∧ w'.ownsRow w.heap.size 41 7 v ts.length (ts.flatMap tc) := by
  have hlt := hr.lt
  have hS : S.length < 1000000000000 := by omega
  obtain ⟨adw, capw, rfl, hmem⟩ := hwv
  have hk0 := hf 0 (Nat.zero_le _)
  rw [hf0] at hk0
  refine inG (J := RO w g 41 7 (.slice none 0 0) 0 []) (F := ROF w g (.slice none 0 0)) [.slice adw ks.length capw] Tryd.func22 (RO.start _ _ _ _) hr RO.not fun a I => ?_
  refine goQ [lS Tryd.underlying49 (ad := adw) (n := ks.length) (cap := capw) rfl, bO .mul 3 (run_mulZ (x := ks.length) (y := 32) (z := (ks.length * 32 : Nat)) (by rw [wz (by omega) (by omega)]; omega))] (RO.rs _ _ _ _ _ _ _) I fun β a w0 I hb => ?_
  have hb0 : β 0 = g := agr hb 0 rfl
  refine rmcall [Z (ks.length * 32 : Nat)] Tryd.func34 #[str S, Z p0] #[str S, Z (p0 + ks.length * 32 : Nat)] I hb0 hlt (take_any (I.rowG 0 hb0 (r := #[str S, Z p0])) hS (by omega) (by omega)) fun w1 I => ?_
  refine goQ [lS Tryd.underlying49 (ad := adw) (n := ks.length) (cap := capw) rfl] (RO.rs _ _ _ _ _ _ _) I fun β1 a w2 I hb1 => ?_
  have hb10 : β1 0 = g := agr hb1 0 hb0
  let St : Nat → Act → World → Prop := fun k a w' => ∃ i β u ad cap, k = ks.length - i ∧ i ≤ ks.length ∧ β 0 = g ∧
    SI (RO w g 41 7 (.slice ad i cap) i ((ts.take i).flatMap tc)) (ROF w g (.slice ad i cap)) [] β
      (cfC (bodyL Tryd.f22) (fillF (scrF 45 rrK) u 0 (rrV (.slice adw ks.length capw) (str (hdW S p0 ks.length)) (.slice ad i cap) p0 ks.length i)) [(0, #[str S, Z (f i)])] 1) a w'
  refine lpM (bodyL Tryd.f22) St ks.length ?_ ?_
  · obtain ⟨u, Iu⟩ := I.scr (bodyL Tryd.f22) (scrF 45 rrK) (rrV (.slice adw ks.length capw) (str (hdW S p0 ks.length)) (.slice none 0 0) p0 ks.length 0) [(0, #[str S, Z (p0 + ks.length * 32 : Nat)])] 1
    exact ⟨0, β1, u, none, 0, by omega, Nat.zero_le _, hb10, by rw [hf0]; exact Iu⟩
  rintro k a3 w3 ⟨i, β3, u, ad, cap, rfl, hi, hb3, I⟩
  refine wp_cfC (tm := fillF (scrF 45 rrK) u 0 (rrV (.slice adw ks.length capw) (str (hdW S p0 ks.length)) (.slice ad i cap) p0 ks.length i)) (rows := [(0, #[str S, Z (f i)])]) (nx := 1) ?_
  rcases Nat.lt_or_ge i ks.length with hil | hil
  · obtain ⟨kd, hkd⟩ : ∃ k, ks[i]? = some k := ⟨_, List.getElem?_eq_getElem hil⟩
    obtain ⟨t, htt⟩ : ∃ t, ts[i]? = some t := ⟨_, List.getElem?_eq_getElem (by omega)⟩
    obtain ⟨gw, off, rfl, hcm⟩ := hmem i kd hkd
    have hgw : gw ≠ g := hne gw rfl
    have hst := hstep i kd t hkd htt
    have hfi := hf i hi
    have hld : ∀ w', Grow (fun k => k ≠ g) w w' → (loadVar 71 ⟨gw, off + i * 3, none⟩).run Tryd.prog w' = .ok (shp kd) w' := fun w' hb => loadShp (hcm.keep (hb.block gw hcm.lt hgw))
    have hhl : (hdW S p0 ks.length).length = ks.length * 32 := by rw [List.length_take, List.length_drop]; omega
    have hmul : IntKind.i64.wrap ((i : Int) * 32) = ((i * 32 : Nat) : Int) := by rw [wz (by omega) (by omega)]; omega
    refine goT (T := fun w' => Grow (fun k => k ≠ g) w w') [bO .lss 3 (run_lssZ (x := i) (y := ks.length) (b := true) (by simp; omega)), iA 49 Tryd.underlying49 (sz := 3) (by kernel_rfl) (g := gw) (off := off) (n := ks.length) (cap := capw) hil, ldA 71 hld] (RO.rs _ _ _ _ _ _ _) (fun w h => h.gr) I fun β4 a4 w4 I hb4 => ?_
    have hb40 : β4 0 = g := agr hb4 0 hb3
    refine dwQ 14 [bO .mul 3 (run_mulZ (x := i) (y := 32) hmul), sO 9 (p := str (hdW S p0 ks.length)) (l := Z (i * 32 : Nat)) (v := str ((hdW S p0 ks.length).drop (i * 32))) (from_run (by omega)), sT 9 (p := str ((hdW S p0 ks.length).drop (i * 32))) (l := Z (32 : Nat)) (v := str (((hdW S p0 ks.length).drop (i * 32)).take 32)) (to_run (by rw [List.length_drop]; omega)), bO .sub 3 (run_subZ (x := f i) (y := p0) (z := (f i - p0 : Nat)) (by rw [wz (by omega) (by omega)]; omega))] (RO.rs _ _ _ _ _ _ _) (PanOk.then (PanOk.qk PanOk.post)) I fun a5 w5 I => ?_
    refine rmcall [shp kd, str (((hdW S p0 ks.length).drop (i * 32)).take 32), Z (f i - p0 : Nat)] Tryd.func35 #[str S, Z (f i)] #[str S, Z (f (i + 1))] I hb40 hlt (term_ok hst (by rw [List.length_take]; omega) (I.rowG 0 hb40 (r := #[str S, Z (f i)])) hS hfi.1) fun w6 I => ?_
    refine bslQ (ss := [(0, Sum.inl (.agg (tc t).toArray))]) I (bs_term _ _ _ _ _ _ _ w6) ?_
    have I7 := I.alloc (RO.rs _ _ _ _ _ _ _) (.cells (tc t).toArray 41) (.slice (some ⟨w6.heap.size, 0, none⟩) 1 1)
    obtain ⟨inf, hi1, hi2, hi3, hi4⟩ := hI41
    obtain ⟨v', w8, hr8, ho8, hg8⟩ := app_els Tryd.underlying22 hi1 hi2 hi3 hi4 rfl (by decide) (by decide) I7.hJ.own I7.hJ.gr.size ⟨w6.heap.size, 0, none⟩ (tc t) rfl (alloc_cell w6 (tc t).toArray 41) (by intro u hu; simp only [tc, List.mem_cons, List.not_mem_nil, or_false] at hu; rcases hu with rfl | rfl | rfl | rfl | rfl | rfl | rfl <;> rfl) (by omega)
    obtain ⟨ad8, cap8, rfl⟩ := owns_slice ho8
    refine appQ (ss := [Sum.inl (.slice ad i cap), Sum.inl (.slice (some ⟨w6.heap.size, 0, none⟩) 1 1)]) I7 hr8 ?_
    have htk : (ts.take i).flatMap tc ++ tc t = (ts.take (i + 1)).flatMap tc := by rw [List.take_add_one, htt]; simp
    rw [htk] at ho8
    refine goQ [bO .add 3 (run_addZ (x := i) (y := 1) (z := (i + 1 : Nat)) (by rw [wz (by omega) (by omega)]; omega))] (RO.rs _ _ _ _ _ _ _) (I7.grownR ho8 hg8 _) fun β9 a9 w9 I hb9 => ?_
    have hb90 : β9 0 = g := agr hb9 0 hb40
    obtain ⟨u', Iu⟩ := I.scr (bodyL Tryd.f22) (scrF 45 rrK) (rrV (.slice (some ⟨gw, off, none⟩) ks.length capw) (str (hdW S p0 ks.length)) (.slice ad8 (i + 1) cap8) p0 ks.length (i + 1)) [(0, #[str S, Z (f (i + 1))])] 1
    exact endL ⟨ks.length - (i + 1), by omega, i + 1, β9, u', ad8, cap8, rfl, hil, hb90, Iu⟩
  · obtain rfl : i = ks.length := by omega
    refine goQ [bO .lss 3 (run_lssZ (x := ks.length) (y := ks.length) (b := false) (by simp))] (RO.rs _ _ _ _ _ _ _) I fun β4 a4 w4 I hb4 => ?_
    have hb40 : β4 0 = g := agr hb4 0 hb3
    refine endE 0 ?_
    refine goQ [] (RO.rs _ _ _ _ _ _ _) (I.exit _) fun β5 a5 w5 I hb5 => ?_
    have hb50 : β5 0 = g := agr hb5 0 hb40
    have hown := I.hJ.own
    rw [← hts, List.take_length] at hown
    exact outQ (v := .slice ad ks.length cap) I ⟨_, rfl, I.rowG 0 hb50 (r := #[str S, Z (f ks.length)]), I.hJ.gr, by rw [← hts]; exact hown⟩
end Go.Proofs.YtjjiendgmnlokaaDoor
