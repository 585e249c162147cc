import Derived.Test.YtdlanihbpbfbcaaDoorQk
/- The law LogBegins, walked. -/
namespace Go.Proofs.YtdlanihbpbfbcaaDoor
open Go.RowKit Go.Sort
set_option linter.unusedVariables false
set_option maxRecDepth 100000
/-- A whole number without its sign. -/
def uN (x : Int) : Nat := (x % 18446744073709551616).toNat
theorem cnvU (x : Int) (w : World) : (convert 3 29 (Z x)).run Tryd.prog w = .ok (.int .u64 (uN x)) w := by
  have e : IntKind.u64.wrap x = ((uN x : Nat) : Int) := by
    rw [IntKind.wrap_u64]
    unfold uN
    omega
  simp [convert, run_underlying Tryd.underlying3, run_underlying Tryd.underlying29, go_sem, e]
theorem cnvUn (n : Nat) (h : n < 1000000000000) (w : World) : (convert 3 29 (Z n)).run Tryd.prog w = .ok (.int .u64 n) w := by
  have := cnvU n w
  rwa [show uN n = n from by unfold uN; omega] at this
theorem cnvUZ (n : Nat) (h : n < 1000000000000) (w : World) : (convert 29 3 (.int .u64 n)).run Tryd.prog w = .ok (Z n) w := by
  simp [convert, run_underlying Tryd.underlying3, run_underlying Tryd.underlying29, go_sem]
  exact wz (by omega) (by omega)
theorem remU {x y z : Nat} (hy : y ≠ 0) (h : x % y = z) (o1 o2 : Operand) (w : World) : (do eqGuard .rem 29 o1 o2 (.int .u64 x) (.int .u64 y); binOp .rem 29 (.int .u64 x) (.int .u64 y) : Sem Value).run Tryd.prog w = .ok (.int .u64 z) w := by
  have h1 : (x : Int).tmod y = z := by rw [← h]; rfl
  simp [go_sem, h1, hy]
theorem sz23 (w : World) : (sizeOf (Tryd.prog.elem 23)).run Tryd.prog w = .ok 1 w := by kernel_rfl
theorem sl_toT (ad : Option Addr) (n cap k : Nat) (h : k ≤ cap) (w : World) : (Instr.sliceAt 23 (.slice ad n cap) none (some (Z k)) none).run Tryd.prog w = .ok (.slice ad k cap) w := by
  rw [run_sliceAt_slice w 23 _ _ _ _ Tryd.underlying23, run_slice_h w 23 ad n cap Tryd.underlying23 .i64 k (by omega) (by omega), sz23]
  have e : (if cap = 0 then ad else ad.map (·.add (0 * 1))) = ad := by
    split
    · rfl
    · cases ad with
      | none => rfl
      | some a => obtain ⟨b, o, q⟩ := a; rfl
  simp only [Result.andThen_ok, sliced, e]
  rfl
theorem sli_take {w : World} {K : Nat → Prop} {ad : Option Addr} {cap : Nat} {l : List Tx} (h : SlI 1 C1s K w (.slice ad l.length cap) l) {j : Nat} (hj : j ≤ l.length) : SlI 1 C1s K w (.slice ad j cap) (l.take j) := by
  obtain ⟨ad', cap', he, hm⟩ := h
  cases he
  refine ⟨ad, cap, by rw [List.length_take, Nat.min_eq_left hj], fun i x hi => hm i x ?_⟩
  rw [List.getElem?_take] at hi
  split at hi
  · exact hi
  · cases hi
abbrev bgK : List Nat := [0, 1, 4, 5, 6, 7, 21, 22, 23]
abbrev bgV (b : Tx) (x : Int) (v : Value) (p : Nat) (s : Tx) (n i : Nat) : Vs := frm 82 [(0, Sum.inl (str b)), (1, Sum.inl (Z x)), (4, Sum.inl (.bool false)), (5, Sum.inl v), (6, Sum.inl (Z p)), (7, Sum.inl (str s)), (21, Sum.inl v), (22, Sum.inl (Z n)), (23, Sum.inl (Z i))]
set_option maxHeartbeats 1000000 in
theorem begins_walk {w : World} (ht : Tabs w ki) (b : Tx) (x : Int) : Calls Tryd.prog 5 #[str b, Z x] w fun e w' => e = .returned (.bool true) ∧ Below w.heap.size w w' := by
  by_cases h1 : 20000 < b.length
  · refine inQ (J := Below w.heap.size w) (F := (· < w.heap.size)) Tryd.func5 (Below.refl _ _) fun a I => ?_
    refine goT (T := Below w.heap.size w) [lnO b, gT b.length 20000 h1, awF fun w' h => ht.below h] (nonR w) (fun _ h => h) I fun β a w1 I hb => ?_
    exact outQ (v := .bool true) I ⟨rfl, I.hJ⟩
  have hP := fun (w' : World) (h : Tabs w' ki) => frames_any b (by omega) h
  have hat := rd_at b _ (Nat.le_refl _)
  have hbg := rd_begins b
  obtain ⟨c, hc⟩ : ∃ c, uN x % (b.length + 1) = c := ⟨_, rfl⟩
  have hcl : c ≤ b.length := by
    have := Nat.mod_lt (uN x) (show 0 < b.length + 1 by omega)
    omega
  have hP2 := fun (w' : World) (h : Tabs w' ki) => frames_any (b.take c) (by rw [List.length_take]; omega) h
  obtain ⟨j, hj, hrc⟩ := rd_cut b c
  have hmem := rd_mem b
  rw [hrc, pos_take, List.length_take, Nat.min_eq_left hj] at hP2
  have hpm := pos_mono (rdA b) hj
  clear hrc
  generalize rdA b = l at *
  obtain ⟨p, hp⟩ : ∃ p, pos l l.length = p := ⟨_, rfl⟩
  obtain ⟨q, hq⟩ : ∃ q, pos l j = q := ⟨_, rfl⟩
  rw [hp] at hP hat hbg hpm
  rw [hq] at hP2 hpm
  clear hp hq
  refine inQ (J := GS w w w.heap.size noK (· < w.heap.size) [] []) (F := GF noK (· < w.heap.size) []) Tryd.func5 (GS.start w fun f hf => by cases hf) fun a I => ?_
  refine goQ [lnO b, gF b.length 20000 h1] (GS.rsr _ _ _ _ _ _ _) I fun β1 a1 w1 I hb1 => ?_
  refine mcall (f := 8) (ss := [Sum.inl (str b)]) Tryd.func8 I ((hP w1 (ht.below I.hJ.bw)).mono fun e w2 he => ?_)
  obtain ⟨ad, cap, rfl, hcap, hn⟩ := he
  obtain ⟨K, I⟩ := I.gs hn (.tuple #[.slice ad l.length cap, Z p])
  refine goQ [lnT ad l.length cap] (GS.rsr _ _ _ _ _ _ _) I fun β3 a3 w3 I hb3 => ?_
  let St : Nat → Act → World → Prop := fun k a w' => ∃ (i : Nat) (β : Nat → Nat) (u : Nat → Value), k = l.length - i ∧ i ≤ l.length ∧ SI (GS w w w.heap.size noK K [txF (.slice ad l.length cap) l] []) (GF noK K []) [] β (cfC (bodyL Tryd.f5) (fillF (scrF 82 bgK) u 0 (bgV b x (.slice ad l.length cap) p (frs (l.take i)) l.length i)) [] 0) a w'
  refine lpM (bodyL Tryd.f5) St l.length ?_ ?_
  · obtain ⟨u, Iu⟩ := I.scr (bodyL Tryd.f5) (scrF 82 bgK) (bgV b x (.slice ad l.length cap) p [] l.length 0) [] 0
    exact ⟨0, β3, u, by omega, Nat.zero_le _, Iu⟩
  rintro k a4 w4 ⟨i, β4, u, rfl, hi, I⟩
  refine wp_cfC (tm := fillF (scrF 82 bgK) u 0 (bgV b x (.slice ad l.length cap) p (frs (l.take i)) l.length i)) (rows := []) (nx := 0) ?_
  rcases Nat.lt_or_ge i l.length with hil | hil
  · obtain ⟨t, hx⟩ : ∃ t, l[i]? = some t := ⟨_, List.getElem?_eq_getElem hil⟩
    have hfr := frs_take hx
    have hA := fun (w' : World) (h : Tabs w' ki) => frame_any t h
    have hl1 := frs_le (l.take i)
    have hl2 := fr_le t
    rw [List.length_take] at hl1
    obtain ⟨g, off, rfl⟩ : ∃ g off, ad = some ⟨g, off, none⟩ := by
      obtain ⟨ad', cap', he, hm⟩ := I.hJ.at 0 (f := txF (.slice ad l.length cap) l) rfl
      cases he
      obtain ⟨g, off, cs, h1, _⟩ := hm i t hx
      exact ⟨g, off, h1⟩
    have hld : ∀ w', GS w w w.heap.size noK K [txF (.slice (some ⟨g, off, none⟩) l.length cap) l] [] w' → (loadVar 9 ⟨g, off + i * 1, none⟩).run Tryd.prog w' = .ok (str t) w' := fun w' h => by
      obtain ⟨ad', cap', he, hm⟩ := h.at 0 (f := txF (.slice (some ⟨g, off, none⟩) l.length cap) l) rfl
      cases he
      obtain ⟨g', off', cs, he2, _, hca, rfl⟩ := hm i t hx
      cases he2
      exact loadT hca
    obtain ⟨s', hs'⟩ : ∃ s', frs (l.take (i + 1)) = s' := ⟨_, rfl⟩
    rw [hs'] at hfr
    have hadd : ∀ x y w, (do eqGuard .add 9 x y (str (frs (l.take i))) (str (fr t)); binOp .add 9 (str (frs (l.take i))) (str (fr t)) : Sem Value).run Tryd.prog w = .ok (str s') w := fun x y w => by
      rw [hfr]
      exact addS_run _ _ (by omega) x y w
    refine goT (T := GS w w w.heap.size noK K [txF (.slice (some ⟨g, off, none⟩) l.length cap) l] []) [lT i l.length (by omega), ixT g off l.length cap i hil, ldA 9 hld, cA Tryd.func10 (fun w' h => hA w' (ht.below h.bw)), bO .add 9 hadd, p1 i (by omega)] (GS.rsr _ _ _ _ _ _ _) (fun _ h => h) I fun β5 a5 w5 I hb5 => ?_
    obtain ⟨u', Iu⟩ := I.scr (bodyL Tryd.f5) (scrF 82 bgK) (bgV b x (.slice (some ⟨g, off, none⟩) l.length cap) p s' l.length (i + 1)) [] 0
    exact endL ⟨l.length - (i + 1), by omega, i + 1, β5, u', rfl, hil, by rw [hs']; exact Iu⟩
  · obtain rfl : i = l.length := by omega
    have hfe : frs (l.take l.length) = b.take p := by rw [List.take_length, hbg]
    refine goQ [lF l.length l.length (by omega)] (GS.rsr _ _ _ _ _ _ _) I fun β5 a5 w5 I hb5 => ?_
    refine endE 0 ?_
    refine goQ [lF p 0 (by omega), lnO b, gF p b.length (by omega), sT 9 (to_run (l := b) (k := p) (by omega)), bO .neq 9 (neqX_run (a := frs (l.take l.length)) (b := b.take p) (q := false) (decide_eq_false (not_not_intro hfe))), vO 3 29 (cnvU x), lnO b, aN b.length 1 (b.length + 1) rfl (by omega), vO 3 29 (cnvUn (b.length + 1) (by omega)), bO .rem 29 (remU (x := uN x) (y := b.length + 1) (z := c) (by omega) hc), vO 29 3 (cnvUZ c (by omega)), sT 9 (to_run (l := b) (k := c) hcl)] (GS.rsr _ _ _ _ _ _ _) (I.exit _) fun β6 a6 w6 I hb6 => ?_
    refine mcall (f := 8) (ss := [Sum.inl (str (b.take c))]) Tryd.func8 I ((hP2 w6 (ht.below I.hJ.bw)).mono fun e w7 he => ?_)
    obtain ⟨ad2, cap2, rfl, _, hn⟩ := he
    obtain ⟨K2, I⟩ := I.gs hn (.tuple #[.slice ad2 j cap2, Z q])
    refine goT (T := GS w w w.heap.size noK K2 [txF (.slice ad2 j cap2) (l.take j), txF (.slice ad l.length cap) l] []) [lnT ad2 j cap2, lnT ad l.length cap, bO .leq 3 (run_leqZ (x := j) (y := l.length) (b := true) (decide_eq_true (by omega))), lnT ad2 j cap2, sT 23 (sl_toT ad l.length cap j (by omega)), cA Tryd.func12 (fun w' h => same_self (h.at 0 (f := txF (.slice ad2 j cap2) (l.take j)) rfl) (sli_take (h.at 1 (f := txF (.slice ad l.length cap) l) rfl) hj) (by rw [List.length_take]; omega)), bO .leq 3 (run_leqZ (x := q) (y := p) (b := true) (decide_eq_true (by omega))), awF fun w' h => ht.below h.bw] (GS.rsr _ _ _ _ _ _ _) (fun _ h => h) I fun β8 a8 w8 I hb8 => ?_
    exact outQ (v := .bool true) I ⟨rfl, I.hJ.bw⟩
end Go.Proofs.YtdlanihbpbfbcaaDoor
/- The law LogBack, walked. -/
namespace Go.Proofs.YtdlanihbpbfbcaaDoor
open Go.RowKit Go.Sort
set_option linter.unusedVariables false
set_option maxRecDepth 100000
/-- Many elements behind a row of one's own. -/
theorem app_many {t e sz by_ : Nat} {z : Value} {i : TypeInfo} (ht : Tryd.prog.underlying t = some (.slice e)) (hi : Tryd.prog.info? e = some i) (hz : i.zero = some z) (hs : i.size = sz) (hby : i.bytes = by_) (hzs : z.cells.size = sz) (hsz : 0 < sz) (hb1 : by_ ≤ 1000)
    {w : World} {b g n cap : Nat} {xs : List Value} (h : w.ownsRow b e sz (.slice (some ⟨g, 0, none⟩) n cap) n xs) (hb : b ≤ w.heap.size) (a : Addr) (m c : Nat) (news : List Value) (hl : news.length = m * sz) (hnews : ∀ j u, news[j]? = some u → w.cell? (a.add j) = some u) (h1 : ∀ u ∈ news, u.oneCell' = true) (hn : n + m ≤ 1000000000) :
    ∃ v' w', (Builtin.append_ #[t, t] t #[.slice (some ⟨g, 0, none⟩) n cap, .slice (some a) m c]).run Tryd.prog w = .ok v' w' ∧ w'.ownsRow b e sz v' (n + m) (xs ++ news) ∧ Grw (.slice (some ⟨g, 0, none⟩) n cap) v' w w' := by
  have hm : n + m ≤ maxLen := by simp only [maxLen]; omega
  have hbb : (n + m) * by_ ≤ 140737488355328 := Nat.le_trans (Nat.mul_le_mul hn hb1) (by decide)
  obtain ⟨v', w', hr, ho, hg, _⟩ := run_append_own (P := Tryd.prog) w b t t e i z sz by_ ht hi hz hs hby hzs hsz _ n xs h a m c news hl hnews h1 hm hbb hb
  refine ⟨v', w', hr, ho, hg, ?_⟩
  have h2 := h.2
  rcases h2 with ⟨hq, _⟩ | ⟨g', cap', cur, hq, hbg, hgc, hnc, hcm, hcs, htake⟩
  · cases hq
  · cases hq
    by_cases hroom : n + m ≤ cap
    · have hfit : n * i.size + news.length ≤ cur.size := by rw [hl, hcs, hs, ← Nat.add_mul]; exact Nat.mul_le_mul_right _ hroom
      have hr2 := run_append_room (P := Tryd.prog) w t t e i ht hi g n cap cur hgc a m c news (by rw [hs]; exact hl) hnews h1 hroom hfit
      rw [hr2] at hr; cases hr
      intro k hk; exact .inl hk
    · have hr2 := run_append_grow (P := Tryd.prog) w t t e i z ht hi hz ⟨g, 0, none⟩ n cap xs (by rw [hs]; exact h.1) (h.cells (g := g) rfl) a m c news (by rw [hs]; exact hl) hnews (by omega) (by omega) (by rw [hby]; exact growslice_fits (by omega) hbb)
      rw [hr2] at hr; cases hr
      intro k hk; simp only [Value.ownBlock, Option.some.injEq] at hk; exact .inr (by omega)
section
variable {w0 WR : World} {b : Nat} {Kp K : Nat → Prop} {Fs : List Lf} {ds : List Deferred} {β : Nat → Nat} {c : Cf} {a : Act} {w w7 w8 : World} {Q : Exit → Act → World → Prop}
/-- An empty row of one's own, laid anew. -/
theorem SI.own0 (I : SI (GS w0 WR b Kp K Fs []) (GF Kp K []) ds β c a w) (r : Value) : SI (GS w0 WR b Kp K Fs [txO (.slice (some ⟨w.heap.size, 0, none⟩) 0 0) []]) (GF Kp K [txO (.slice (some ⟨w.heap.size, 0, none⟩) 0 0) []]) ds β (nxtQ c r) (a.put (dstQ c) r) (w.alloc (.cells #[] 9)) := by
  have hb := below_alloc w (.cells #[] 9)
  have H := I.hJ.below hb
  have hown : ∀ o ∈ ([txO (.slice (some ⟨w.heap.size, 0, none⟩) 0 0) []] : List Ow), ∀ k, o.v.ownBlock = some k → k = w.heap.size := fun o ho k hk => by
    rw [List.mem_singleton.1 ho] at hk
    simp only [Value.ownBlock, Option.some.injEq] at hk
    exact hk.symm
  have J2 : GS w0 WR b Kp K Fs [txO (.slice (some ⟨w.heap.size, 0, none⟩) 0 0) []] (w.alloc (.cells #[] 9)) := by
    refine ⟨H.bw, H.rs, H.bs, H.kk, H.nc, H.kb, H.lo, H.sl, fun o ho => ?_, fun o ho k hk => ?_, List.pairwise_singleton _ _⟩
    · rw [List.mem_singleton.1 ho]
      exact ⟨rfl, .inr ⟨w.heap.size, 0, #[], rfl, I.hJ.bs, heap_alloc_last w _, Nat.le_refl _, Nat.zero_le _, rfl, rfl⟩⟩
    · have := hown o ho k hk
      subst this
      exact ⟨fun h => Nat.lt_irrefl _ (I.hJ.kb _ h), fun h => Nat.lt_irrefl _ (Nat.lt_of_lt_of_le (I.hJ.kk _ h) I.hJ.rs)⟩
  refine I.moved (Grow.of_below hb) J2 (fun k hk h => ?_) r
  rcases h with h | ⟨o, ho, h⟩ | h
  · exact .inl h
  · have := hown o ho k h
    omega
  · exact .inr (.inr h)
/-- A row of one's own that has grown. -/
theorem SI.grow1 {e sz : Nat} {v v' : Value} {X X' : List (List Value)} (I : SI (GS w0 WR b Kp K Fs [⟨e, sz, v, X⟩]) (GF Kp K [⟨e, sz, v, X⟩]) ds β c a w7) (ho : w8.ownsRow b e sz v' X'.length X'.flatten) (hg : Grw v v' w7 w8) : SI (GS w0 WR b Kp K Fs [⟨e, sz, v', X'⟩]) (GF Kp K [⟨e, sz, v', X'⟩]) ds β (nxtQ c v') (a.put (dstQ c) v') w8 := by
  have H := I.hJ
  have hon := H.on _ List.mem_cons_self
  simp only [] at hon
  have hblk : ∀ k, k < w7.heap.size → v.ownBlock ≠ some k → w8.heap[k]? = w7.heap[k]? := fun k hk hn => hg.gr.block k hk fun e => hn e.symm
  have J2 : GS w0 WR b Kp K Fs [⟨e, sz, v', X'⟩] w8 := by
    refine ⟨?_, Nat.le_trans H.rs hg.gr.size, Nat.le_trans H.bs hg.gr.size, H.kk, fun k hk => ?_, fun k hk => Nat.lt_of_lt_of_le (H.kb k hk) hg.gr.size, H.lo, fun f hf => ?_, fun o hm => ?_, fun o hm k hk => ?_, List.pairwise_singleton _ _⟩
    · exact ⟨hg.gr.os.trans H.bw.os, hg.gr.tape.trans H.bw.tape, hg.gr.output.trans H.bw.output, Nat.le_trans H.bw.size hg.gr.size, fun k hk => (hblk k (Nat.lt_of_lt_of_le hk H.bw.size) fun e => (hon k e).1 (H.lo k hk)).trans (H.bw.block k hk)⟩
    · exact (hblk k (Nat.lt_of_lt_of_le (H.kk k hk) H.rs) fun e => (hon k e).2 hk).trans (H.nc k hk)
    · exact f.loc _ _ _ _ (fun k hk => ⟨hk, hblk k (H.kb k hk) fun e => (hon k e).1 hk⟩) (H.sl f hf)
    · rw [List.mem_singleton.1 hm]
      exact ho
    · rw [List.mem_singleton.1 hm] at hk
      rcases hg.nb k hk with h4 | h4
      · exact hon k h4
      · exact ⟨fun q => by have := H.kb k q; omega, fun q => by have := H.kk k q; have := H.rs; omega⟩
  have hG : Grow (fun k => ¬ GF Kp K [⟨e, sz, v, X⟩] k) w7 w8 := ⟨hg.gr.os, hg.gr.tape, hg.gr.output, hg.gr.size, fun k hk hn => hblk k hk fun e => hn (.inr (.inl ⟨_, List.mem_cons_self, e⟩))⟩
  refine I.moved hG J2 (fun k hk h => ?_) v'
  rcases h with h | ⟨o, hm, h⟩ | h
  · exact .inl h
  · rw [List.mem_singleton.1 hm] at h
    rcases hg.nb k h with h4 | h4
    · exact .inr (.inl ⟨_, List.mem_cons_self, h4⟩)
    · omega
  · exact .inr (.inr h)
theorem GS.atO {v : Value} {l : List Tx} (h : GS w0 WR b Kp K Fs [txO v l] w) : SlI 1 C1s (· < w.heap.size) w v l :=
  (txF v l).loc _ _ _ _ (fun k hk => ⟨((h.ow _ List.mem_cons_self).lt k hk).2, rfl⟩) (txO_list (h.ow _ List.mem_cons_self))
theorem bs23_0 (w : World) : (Instr.buildSlice 23 0 #[]).run Tryd.prog w = .ok (.slice (some ⟨w.heap.size, 0, none⟩) 0 0) (w.alloc (.cells #[] 9)) := by kernel_rfl
/-- A list behind an empty row. -/
theorem app_l {g cap : Nat} {ad : Option Addr} {l : List Tx} (hl : l.length ≤ 1000) (hc : ad = none → cap = 0)
    (hv : SlI 1 C1s (· < w.heap.size) w (.slice ad l.length cap) l) (h : w.ownsRow b 9 1 (.slice (some ⟨g, 0, none⟩) 0 0) 0 []) (hb : b ≤ w.heap.size) :
    ∃ ad8 cap8 w8, (Builtin.append_ #[23, 23] 23 #[.slice (some ⟨g, 0, none⟩) 0 0, .slice ad l.length cap]).run Tryd.prog w = .ok (.slice ad8 l.length cap8) w8 ∧ w8.ownsRow b 9 1 (.slice ad8 l.length cap8) (l.map fun t => [str t]).length (l.map fun t => [str t]).flatten ∧ Grw (.slice (some ⟨g, 0, none⟩) 0 0) (.slice ad8 l.length cap8) w w8 := by
  obtain ⟨inf, hi1, hi2, hi3, hi4⟩ := hI9
  obtain ⟨ad', cap', he, hm⟩ := hv
  cases he
  cases ad with
  | none =>
    have hl0 : l = [] := by
      cases l with
      | nil => rfl
      | cons x l =>
        obtain ⟨g, off, cs, h1, _⟩ := hm 0 x rfl
        cases h1
    subst hl0
    rw [hc rfl]
    exact ⟨_, _, w, run_append_owned_none w b 23 23 9 inf 1 Tryd.underlying23 hi1 _ 0 [] h, h, ⟨⟨rfl, rfl, rfl, Nat.le_refl _, fun _ _ _ => rfl⟩, fun k hk => .inl hk⟩⟩
  | some a0 =>
    obtain ⟨v', w8, hr, ho, hg⟩ := app_many Tryd.underlying23 hi1 hi2 hi3 hi4 rfl (by decide) (by decide) h hb a0 l.length cap (l.map str) (by rw [List.length_map, Nat.mul_one]) (fun j u hj => by
      rw [List.getElem?_map] at hj
      obtain ⟨t, ht, rfl⟩ := Option.map_eq_some_iff.1 hj
      obtain ⟨g', off, cs, h1, _, hca, rfl⟩ := hm j t ht
      cases h1
      have := hca 0 (str t) rfl
      rw [add_off]
      rwa [Nat.mul_one, Nat.add_zero] at this) (fun u hu => by
      obtain ⟨t, _, rfl⟩ := List.mem_map.1 hu
      rfl) (by omega)
    obtain ⟨ad8, cap8, rfl⟩ := owns_slice ho
    rw [Nat.zero_add] at hr ho hg
    refine ⟨ad8, cap8, w8, hr, ?_, hg⟩
    have e : (l.map fun t => [str t]).flatten = l.map str := by
      clear hr ho hg hm hl
      induction l with
      | nil => rfl
      | cons x l ih => rw [List.map_cons, List.flatten_cons, ih]; rfl
    rw [List.length_map, e]
    exact ho
end
end Go.Proofs.YtdlanihbpbfbcaaDoor
/- The law LogBack, walked. -/
namespace Go.Proofs.YtdlanihbpbfbcaaDoor
open Go.RowKit Go.Sort
set_option linter.unusedVariables false
set_option maxRecDepth 100000
abbrev bkK : List Nat := [0, 1, 2, 6, 7, 24, 25, 26]
abbrev bkV (v : Value) (s : Tx) (x : Int) (r : Tx) (n i : Nat) : Vs := frm 97 [(0, Sum.inl v), (1, Sum.inl (str s)), (2, Sum.inl (Z x)), (6, Sum.inl (.bool false)), (7, Sum.inl (str r)), (24, Sum.inl v), (25, Sum.inl (Z n)), (26, Sum.inl (Z i))]
set_option maxHeartbeats 2000000 in
theorem back_walk {w : World} (ht : Tabs w ki) {ad : Option Addr} {cap : Nat} {l : List Tx} (hv : TxI w (.slice ad l.length cap) l) (hc0 : ad = none → cap = 0) (s : Tx) (x : Int) : Calls Tryd.prog 4 #[.slice ad l.length cap, str s, Z x] w fun e w' => e = .returned (.bool true) ∧ Below w.heap.size w w' := by
  by_cases h1 : 30 < l.length
  · refine inQ (J := Below w.heap.size w) (F := (· < w.heap.size)) Tryd.func4 (Below.refl _ _) fun a I => ?_
    refine goT (T := Below w.heap.size w) [lnT ad l.length cap, gT l.length 30 h1, awF fun w' h => ht.below h] (nonR w) (fun _ h => h) I fun β a w1 I hb => ?_
    exact outQ (v := .bool true) I ⟨rfl, I.hJ⟩
  by_cases h2 : 2000 < s.length
  · refine inQ (J := Below w.heap.size w) (F := (· < w.heap.size)) Tryd.func4 (Below.refl _ _) fun a I => ?_
    refine goT (T := Below w.heap.size w) [lnT ad l.length cap, gF l.length 30 h1, lnO s, gT s.length 2000 h2, awF fun w' h => ht.below h] (nonR w) (fun _ h => h) I fun β a w1 I hb => ?_
    exact outQ (v := .bool true) I ⟨rfl, I.hJ⟩
  refine inQ (J := GS w w w.heap.size noK (· < w.heap.size) [txF (.slice ad l.length cap) l] []) (F := GF noK (· < w.heap.size) []) Tryd.func4 (GS.start w fun f hf => by rw [List.mem_singleton.1 hf]; exact hv) fun a I => ?_
  refine goQ [lnT ad l.length cap, gF l.length 30 h1, lnO s, gF s.length 2000 h2, lnT ad l.length cap] (GS.rsr _ _ _ _ _ _ _) I fun β3 a3 w3 I hb3 => ?_
  let St : Nat → Act → World → Prop := fun k a w' => ∃ (i : Nat) (β : Nat → Nat) (u : Nat → Value), k = l.length - i ∧ i ≤ l.length ∧ (∀ t ∈ l.take i, t.length ≤ 2000) ∧ SI (GS w w w.heap.size noK (· < w.heap.size) [txF (.slice ad l.length cap) l] []) (GF noK (· < w.heap.size) []) [] β (cfC (bodyL Tryd.f4) (fillF (scrF 97 bkK) u 0 (bkV (.slice ad l.length cap) s x (frs (l.take i)) l.length i)) [] 0) a w'
  refine lpM (bodyL Tryd.f4) St l.length ?_ ?_
  · obtain ⟨u, Iu⟩ := I.scr (bodyL Tryd.f4) (scrF 97 bkK) (bkV (.slice ad l.length cap) s x [] l.length 0) [] 0
    exact ⟨0, β3, u, by omega, Nat.zero_le _, (fun t h => by simp at h), Iu⟩
  rintro k a4 w4 ⟨i, β4, u, rfl, hi, hsm, I⟩
  refine wp_cfC (tm := fillF (scrF 97 bkK) u 0 (bkV (.slice ad l.length cap) s x (frs (l.take i)) l.length i)) (rows := []) (nx := 0) ?_
  rcases Nat.lt_or_ge i l.length with hil | hil
  · obtain ⟨t, hx⟩ : ∃ t, l[i]? = some t := ⟨_, List.getElem?_eq_getElem hil⟩
    have hfr := frs_take hx
    have hA := fun (w' : World) (h : Tabs w' ki) => frame_any t h
    have hl1 := frs_le (l.take i)
    have hl2 := fr_le t
    rw [List.length_take] at hl1
    obtain ⟨g, off, rfl⟩ : ∃ g off, ad = some ⟨g, off, none⟩ := by
      obtain ⟨ad', cap', he, hm⟩ := hv
      cases he
      obtain ⟨g, off, cs, h1, _⟩ := hm i t hx
      exact ⟨g, off, h1⟩
    have hld : ∀ w', GS w w w.heap.size noK (· < w.heap.size) [txF (.slice (some ⟨g, off, none⟩) l.length cap) l] [] w' → (loadVar 9 ⟨g, off + i * 1, none⟩).run Tryd.prog w' = .ok (str t) w' := fun w' h => by
      obtain ⟨ad', cap', he, hm⟩ := h.at 0 (f := txF (.slice (some ⟨g, off, none⟩) l.length cap) l) rfl
      cases he
      obtain ⟨g', off', cs, he2, _, hca, rfl⟩ := hm i t hx
      cases he2
      exact loadT hca
    by_cases h3 : 2000 < t.length
    · refine goT (T := GS w w w.heap.size noK (· < w.heap.size) [txF (.slice (some ⟨g, off, none⟩) l.length cap) l] []) [lT i l.length (by omega), ixT g off l.length cap i hil, ldA 9 hld, lnO t, gT t.length 2000 h3, awF fun w' h => ht.below h.bw] (GS.rsr _ _ _ _ _ _ _) (fun _ h => h) I fun β5 a5 w5 I hb5 => ?_
      exact endR (retV (v := .bool true) I ⟨rfl, I.hJ.bw⟩)
    obtain ⟨s', hs'⟩ : ∃ s', frs (l.take (i + 1)) = s' := ⟨_, rfl⟩
    rw [hs'] at hfr
    have hadd : ∀ x y w, (do eqGuard .add 9 x y (str (frs (l.take i))) (str (fr t)); binOp .add 9 (str (frs (l.take i))) (str (fr t)) : Sem Value).run Tryd.prog w = .ok (str s') w := fun x y w => by
      rw [hfr]
      exact addS_run _ _ (by omega) x y w
    have hsm2 : ∀ y ∈ l.take (i + 1), y.length ≤ 2000 := fun y hy => by
      rw [List.take_add_one, hx, Option.toList_some] at hy
      rcases List.mem_append.1 hy with hy | hy
      · exact hsm y hy
      · rw [List.mem_singleton.1 hy]; omega
    refine goT (T := GS w w w.heap.size noK (· < w.heap.size) [txF (.slice (some ⟨g, off, none⟩) l.length cap) l] []) [lT i l.length (by omega), ixT g off l.length cap i hil, ldA 9 hld, lnO t, gF t.length 2000 h3, cA Tryd.func10 (fun w' h => hA w' (ht.below h.bw)), bO .add 9 hadd, p1 i (by omega)] (GS.rsr _ _ _ _ _ _ _) (fun _ h => h) I fun β5 a5 w5 I hb5 => ?_
    obtain ⟨u', Iu⟩ := I.scr (bodyL Tryd.f4) (scrF 97 bkK) (bkV (.slice (some ⟨g, off, none⟩) l.length cap) s x s' l.length (i + 1)) [] 0
    exact endL ⟨l.length - (i + 1), by omega, i + 1, β5, u', rfl, hil, hsm2, by rw [hs']; exact Iu⟩
  · obtain rfl : i = l.length := by omega
    have hb16 : ∀ t ∈ l, t.length ≤ 65536 := fun t h => by
      have := hsm t (by rw [List.take_length]; exact h)
      omega
    have hA := fun (w' : World) (h : Tabs w' ki) => frame_any s h
    have hlm : (fr s).length = 8 + s.length := fr_len (by omega)
    have hls : (frs l).length = pos l l.length := frs_len hb16
    have hls2 := frs_le l
    obtain ⟨c, hc⟩ : ∃ c, uN x % (fr s).length = c := ⟨_, rfl⟩
    have hcl : c < (fr s).length := by
      have := Nat.mod_lt (uN x) (show 0 < (fr s).length by omega)
      omega
    have hr1 : rdA (frs l ++ (fr s).take c) = l := by
      rw [rd_back _ l hb16, rdA_none (rd1_pre (by omega) (by omega)), List.append_nil]
    have hr2 : rdA (frs l ++ fr s) = l ++ [s] := by rw [rd_back _ l hb16, rd_one (by omega)]
    have hp2 : pos (l ++ [s]) (l ++ [s]).length = (frs l).length + (fr s).length := by
      rw [← frs_len (fun t h => by
        rcases List.mem_append.1 h with h | h
        · exact hb16 t h
        · rw [List.mem_singleton.1 h]; omega), frs_snoc, List.length_append]
    have hP1 := fun (w' : World) (h : Tabs w' ki) => frames_any (frs l ++ (fr s).take c) (by rw [List.length_append, List.length_take]; omega) h
    have hP2 := fun (w' : World) (h : Tabs w' ki) => frames_any (frs l ++ fr s) (by rw [List.length_append]; omega) h
    rw [hr1, ← hls] at hP1
    rw [hr2, hp2, List.length_append, List.length_singleton] at hP2
    clear hr1 hr2 hp2 hls
    rw [List.take_length] at I ⊢
    generalize frs l = r at *
    generalize fr s = m at *
    refine goT (T := GS w w w.heap.size noK (· < w.heap.size) [txF (.slice ad l.length cap) l] []) [lF l.length l.length (by omega)] (GS.rsr _ _ _ _ _ _ _) (fun _ h => h) I fun β5 a5 w5 I hb5 => ?_
    refine endE 0 ?_
    refine goT (T := GS w w w.heap.size noK (· < w.heap.size) [txF (.slice ad l.length cap) l] []) [cA Tryd.func10 (fun w' h => hA w' (ht.below h.bw)), lnO m, bO .eql 3 (run_eqlZ (x := m.length) (y := 0) (b := false) (decide_eq_false (by omega))), vO 3 29 (cnvU x), lnO m, vO 3 29 (cnvUn m.length (by omega)), bO .rem 29 (remU (x := uN x) (y := m.length) (z := c) (by omega) hc), vO 29 3 (cnvUZ c (by omega)), sT 9 (to_run (l := m) (k := c) (by omega)), bO .add 9 (addS_run r (m.take c) (by rw [List.length_take]; omega))] (GS.rsr _ _ _ _ _ _ _) (fun _ h => h) (I.exit _) fun β6 a6 w6 I hb6 => ?_
    refine mcall (f := 8) (ss := [Sum.inl (str (r ++ m.take c))]) Tryd.func8 I ((hP1 w6 (ht.below I.hJ.bw)).mono fun e w7 he => ?_)
    obtain ⟨ad1, cap1, rfl, _, hn⟩ := he
    obtain ⟨K1, I⟩ := I.gs hn (.tuple #[.slice ad1 l.length cap1, Z r.length])
    refine goQ [bO .add 9 (addS_run r m (by omega))] (GS.rsr _ _ _ _ _ _ _) I fun β8 a8 w8 I hb8 => ?_
    refine mcall (f := 8) (ss := [Sum.inl (str (r ++ m))]) Tryd.func8 I ((hP2 w8 (ht.below I.hJ.bw)).mono fun e w9 he => ?_)
    obtain ⟨ad2, cap2, rfl, _, hn⟩ := he
    obtain ⟨K2, I⟩ := I.gs hn (.tuple #[.slice ad2 (l.length + 1) cap2, Z ((r.length + m.length : Nat) : Int)])
    refine goT (T := GS w w w.heap.size noK K2 [txF (.slice ad2 (l.length + 1) cap2) (l ++ [s]), txF (.slice ad1 l.length cap1) l, txF (.slice ad l.length cap) l] []) [cA Tryd.func12 (fun w' h => same_self (h.at 1 (f := txF (.slice ad1 l.length cap1) l) rfl) (h.at 2 (f := txF (.slice ad l.length cap) l) rfl) (by omega)), lnO r, eT r.length r.length rfl] (GS.rsr _ _ _ _ _ _ _) (fun _ h => h) I fun β10 a10 w10 I hb10 => ?_
    refine bslQ (ss := []) I (bs23_0 w10) ?_
    have I := I.own0 (.slice (some ⟨w10.heap.size, 0, none⟩) 0 0)
    obtain ⟨g, hg⟩ : ∃ g, w10.heap.size = g := ⟨_, rfl⟩
    rw [hg] at I ⊢
    refine goQ [] (GS.rsr _ _ _ _ _ _ _) I fun β11 a11 w11 I hb11 => ?_
    obtain ⟨ad3, cap3, w12, hr12, ho12, hg12⟩ := app_l (b := w.heap.size) (g := g) (by omega) hc0 (I.hJ.at 2 (f := txF (.slice ad l.length cap) l) rfl) (I.hJ.ow _ List.mem_cons_self) I.hJ.bs
    refine appQ (ss := [Sum.inl (.slice (some ⟨g, 0, none⟩) 0 0), Sum.inl (.slice ad l.length cap)]) I hr12 ?_
    have I := I.grow1 ho12 hg12
    refine goQ [] (GS.rsr _ _ _ _ _ _ _) I fun β13 a13 w13 I hb13 => ?_
    refine app_tx [] [] s rfl I rfl (by omega) fun ad4 cap4 a14 w14 I => ?_
    refine goT (T := GS w w w.heap.size noK K2 [txF (.slice ad2 (l.length + 1) cap2) (l ++ [s]), txF (.slice ad1 l.length cap1) l, txF (.slice ad l.length cap) l] [txO (.slice ad4 (l.length + 1) cap4) (l ++ [s])]) [cA Tryd.func12 (fun w' h => same_self (h.at 0 (f := txF (.slice ad2 (l.length + 1) cap2) (l ++ [s])) rfl) h.atO (by rw [List.length_append, List.length_singleton]; omega)), lnO r, lnO m, aN r.length m.length (r.length + m.length) rfl (by omega), eT (r.length + m.length) (r.length + m.length) rfl, awF fun w' h => ht.below h.bw] (GS.rsr _ _ _ _ _ _ _) (fun _ h => h) I fun β15 a15 w15 I hb15 => ?_
    exact outQ (v := .bool true) I ⟨rfl, I.hJ.bw⟩
end Go.Proofs.YtdlanihbpbfbcaaDoor
