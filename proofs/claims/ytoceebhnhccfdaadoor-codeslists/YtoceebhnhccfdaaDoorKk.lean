/- Bytes as digits and back: rows of bytes that grow; the program's toHex. -/
import Derived.Test.YtoceebhnhccfdaaDoorKi
namespace Go.Proofs.YtoceebhnhccfdaaDoor
open Go.RowKit Go.Sort Go.Shelf
set_option linter.unusedVariables false
set_option maxRecDepth 100000
/-- A row of bytes that grows. -/
abbrev BJ (w : World) (v : Value) (l : List UInt8) : World → Prop := RO w w.heap.size 5 1 v l.length (bc l)
abbrev BF (w : World) (v : Value) : Nat → Prop := ROF w w.heap.size v
theorem BJ.rs (w : World) (v : Value) (l : List UInt8) : Rsrc (BJ w v l) (BF w v) := RO.rs _ _ _ _ _ _ _
theorem run_shr4 (x : UInt8) (o1 o2 : Operand) (w : World) : (do eqGuard .shr 5 o1 o2 (.int .u8 (x.toNat : Nat)) (.int .u64 4); binOp .shr 5 (.int .u8 (x.toNat : Nat)) (.int .u64 4) : Sem Value).run Tryd.prog w = .ok (b8 (x.toNat / 16)) w := by
  have h := x.toNat_lt
  simp [go_sem]
theorem and15 : ∀ x : Fin 256, bits .and .u8 (x.val : Int) 15 = ((x.val % 16 : Nat) : Int) := by decide +kernel
theorem run_and15 (x : UInt8) (o1 o2 : Operand) (w : World) : (do eqGuard .and 5 o1 o2 (.int .u8 (x.toNat : Nat)) (.int .u8 15); binOp .and 5 (.int .u8 (x.toNat : Nat)) (.int .u8 15) : Sem Value).run Tryd.prog w = .ok (b8 (x.toNat % 16)) w := by
  have h := and15 ⟨x.toNat, x.toNat_lt⟩
  simp only [] at h
  simp [go_sem, h]
theorem idx8_run {l : List UInt8} {k : Nat} {b : UInt8} (h : l[k]? = some b) (w : World) : (Instr.index 9 (str l) (b8 k)).run Tryd.prog w = .ok (.int .u8 b.toNat) w := by
  have hk : k < l.length := (List.getElem?_eq_some_iff.1 h).1
  have hb : (⟨l.toArray⟩ : ByteArray)[k]? = some b := by
    have h2 : k < (⟨l.toArray⟩ : ByteArray).size := by rw [str_size]; exact hk
    rw [ByteArray.getElem?_lt' _ _ h2]
    congr 1
    have : l[k] = b := (List.getElem?_eq_some_iff.1 h).2
    rw [← this]
    rfl
  rw [run_index_string (P := Tryd.prog) w 9 ⟨l.toArray⟩ .u8 (k : Int) Tryd.underlying9]
  have h2 : k < (⟨l.toArray⟩ : ByteArray).size := by rw [str_size]; exact hk
  rw [ByteArray.getElem?_lt' _ _ h2] at hb
  have hb2 := Option.some.inj hb
  simp [h2, hb2]
def dig16 : List UInt8 := [48, 49, 50, 51, 52, 53, 54, 55, 56, 57, 97, 98, 99, 100, 101, 102]
def dgO (n : Nat) : UInt8 := dig16.getD n 0
theorem dgO_get (n : Nat) (h : n < 16) : dig16[n]? = some (dgO n) := by unfold dgO; rw [List.getD_eq_getElem?_getD, List.getElem?_eq_getElem (show n < dig16.length from h)]; rfl
def hex2 (b : UInt8) : List UInt8 := [dgO (b.toNat / 16), dgO (b.toNat % 16)]
def hexL (s : List UInt8) : List UInt8 := s.flatMap hex2
theorem hexL_len : ∀ s, (hexL s).length = 2 * s.length
  | [] => rfl
  | b :: s => by unfold hexL; rw [List.flatMap_cons, List.length_append]; have := hexL_len s; unfold hexL at this; rw [this]; simp [hex2]; omega
theorem bs2 (x y : UInt8) (w : World) : (Instr.buildSlice 49 2 #[(0, .int .u8 (x.toNat : Nat)), (1, .int .u8 (y.toNat : Nat))]).run Tryd.prog w = .ok (.slice (some ⟨w.heap.size, 0, none⟩) 2 2) (w.alloc (.cells (bc [x, y]).toArray 5)) := by kernel_rfl
theorem app_elN {t e sz by_ : Nat} {z : Value} {i : TypeInfo} (ht : Tryd.prog.underlying t = some (.slice e)) (hi : Tryd.prog.info? e = some i) (hz : i.zero = some z) (hs : i.size = sz) (hby : i.bytes = by_) (hzs : z.cells.size = sz) (hsz : 0 < sz) (hb1 : by_ ≤ 1000)
    {w : World} {b : Nat} {v : Value} {n : Nat} {xs : List Value} (h : w.ownsRow b e sz v n xs) (hb : b ≤ w.heap.size) (a : Addr) (m : Nat) (hm1 : 1 ≤ m) (news : List Value) (hl : news.length = m * sz) (hnews : ∀ j u, news[j]? = some u → w.cell? (a.add j) = some u) (h1 : ∀ u ∈ news, u.oneCell' = true) (hn : n + m ≤ 1000000000) :
    ∃ v' w', (Builtin.append_ #[t, t] t #[v, .slice (some a) m m]).run Tryd.prog w = .ok v' w' ∧ w'.ownsRow b e sz v' (n + m) (xs ++ news) ∧ Grw v v' w w' := by
  have hm : n + m ≤ maxLen := by simp only [maxLen]; omega
  have hbb : (n + m) * by_ ≤ 140737488355328 := Nat.le_trans (Nat.mul_le_mul hn hb1) (by decide)
  obtain ⟨v', w', hr, ho, hg, _⟩ := run_append_own (P := Tryd.prog) w b t t e i z sz by_ ht hi hz hs hby hzs hsz v n xs h a m m news hl hnews h1 hm hbb hb
  refine ⟨v', w', hr, ho, hg, ?_⟩
  rcases h.2 with ⟨rfl, rfl⟩ | ⟨g, cap, cur, rfl, hbg, hgc, hnc, hcm, hcs, htake⟩
  · have hr2 := run_append_nil (P := Tryd.prog) w t t e i z ht hi hz a m m news (by rw [hs]; exact hl) hnews (by omega) (by omega) (by rw [hby]; simp only [Nat.zero_add] at hbb ⊢; omega)
    rw [hr2] at hr; cases hr
    intro k hk; simp only [Value.ownBlock, Option.some.injEq] at hk; exact .inr (by omega)
  · by_cases hroom : n + m ≤ cap
    · have hfit : n * i.size + news.length ≤ cur.size := by rw [hl, hcs, hs, ← Nat.add_mul]; exact Nat.mul_le_mul_right _ hroom
      have hr2 := run_append_room (P := Tryd.prog) w t t e i ht hi g n cap cur hgc a m m news (by rw [hs]; exact hl) hnews h1 hroom hfit
      rw [hr2] at hr; cases hr
      intro k hk; exact .inl hk
    · have hr2 := run_append_grow (P := Tryd.prog) w t t e i z ht hi hz ⟨g, 0, none⟩ n cap xs (by rw [hs]; exact h.1) (h.cells (g := g) rfl) a m m news (by rw [hs]; exact hl) hnews (by omega) (by omega) (by rw [hby]; exact growslice_fits (by omega) hbb)
      rw [hr2] at hr; cases hr
      intro k hk; simp only [Value.ownBlock, Option.some.injEq] at hk; exact .inr (by omega)
/-- Bytes that are built and put behind the others. -/
theorem app_bytes (bs : List UInt8) (ss : List (Nat × SV)) (m : Nat) (hm : bs.length = m) {w : World} {ad : Option Addr} {cap : Nat} {l : List UInt8} {ds : List Deferred} {β : Nat → Nat} {c : Cf} {a : Act} {w6 : World} {Q : Exit → Act → World → Prop}
    (hbs : (Instr.buildSlice 49 m (ss.map fun p => (p.1, up β p.2)).toArray).run Tryd.prog w6 = .ok (.slice (some ⟨w6.heap.size, 0, none⟩) m m) (w6.alloc (.cells (bc bs).toArray 5)))
    (I6 : SI (BJ w (.slice ad l.length cap) l) (BF w (.slice ad l.length cap)) ds β c a w6) (h1b : 1 ≤ bs.length) (hl : l.length + bs.length < 1000000000)
    (k : ∀ ad8 cap8 a8 w8, SI (BJ w (.slice ad8 (l ++ bs).length cap8) (l ++ bs)) (BF w (.slice ad8 (l ++ bs).length cap8)) ds β (nxtQ (nxtQ c (.slice (some ⟨w6.heap.size, 0, none⟩) m m)) (.slice ad8 (l ++ bs).length cap8)) a8 w8 → At Tryd.prog Q (nxtQ (nxtQ c (.slice (some ⟨w6.heap.size, 0, none⟩) m m)) (.slice ad8 (l ++ bs).length cap8)) a8 w8)
    (hc1 : bsQ c = some (49, m, ss) := by kernel_rfl)
    (hc2 : bltQ (nxtQ c (.slice (some ⟨w6.heap.size, 0, none⟩) m m)) = some (.append, #[49, 49], 49, [Sum.inl (.slice ad l.length cap), Sum.inl (.slice (some ⟨w6.heap.size, 0, none⟩) m m)]) := by kernel_rfl) : At Tryd.prog Q c a w6 := by
  subst hm
  have hxb : bc l ++ bc bs = bc (l ++ bs) := by simp [bc]
  have hRs := BJ.rs w (.slice ad l.length cap) l
  refine bslQ (ss := ss) I6 hbs ?_ hc1
  have I7 := I6.alloc hRs (.cells (bc bs).toArray 5) (.slice (some ⟨w6.heap.size, 0, none⟩) bs.length bs.length)
  obtain ⟨inf, hi1, hi2, hi3, hi4⟩ := hI5
  obtain ⟨v', w8, hr8, ho8, hg8⟩ := app_elN Tryd.underlying49 hi1 hi2 hi3 hi4 rfl Nat.one_pos (by decide) I7.hJ.own I7.hJ.gr.size ⟨w6.heap.size, 0, none⟩ bs.length h1b (bc bs) (by simp [bc]) (alloc_cell w6 (bc bs).toArray 5) (fun u hu => by
    obtain ⟨x, _, rfl⟩ := List.mem_map.1 hu
    rfl) (by omega)
  rw [hxb, ← List.length_append] at ho8
  obtain ⟨ad8, cap8, rfl⟩ := owns_slice ho8
  refine appQ (ss := [Sum.inl (.slice ad l.length cap), Sum.inl (.slice (some ⟨w6.heap.size, 0, none⟩) bs.length bs.length)]) I7 hr8 ?_ hc2
  refine k ad8 cap8 _ _ (I7.moved ⟨hg8.gr.os, hg8.gr.tape, hg8.gr.output, hg8.gr.size, fun k hk hn => hg8.gr.block k hk fun e => hn (.inr e.symm)⟩ (I7.hJ.grown ho8 hg8) (fun k hk h => ?_) _)
  rcases h with h | h
  · exact .inl h
  · rcases hg8.nb k h with h | h
    · exact .inr h
    · omega
theorem SI.nul {J' : World → Prop} {F' : Nat → Prop} {J : World → Prop} {F : Nat → Prop} {ds : List Deferred} {β : Nat → Nat} {c : Cf} {a : Act} {w : World} (I : SI J F ds β c a w) (hJ : J' w) (hF : ∀ k, k < w.heap.size → F' k → F k) : SI J' F' ds β c a w :=
  ⟨I.fr, I.df, hJ, I.row, fun p hp h => I.dis p hp (hF _ (I.row p hp).lt h), I.lt, I.inj, I.ids⟩
theorem BJ.nil {w w' : World} (h : RowKit.Below w.heap.size w w') : BJ w (.slice none 0 0) [] w' := ⟨⟨h.os, h.tape, h.output, h.size, fun k hk _ => h.block k hk⟩, rfl, .inl ⟨rfl, rfl⟩⟩
theorem BJ.below {w w' : World} {v : Value} {l : List UInt8} (h : BJ w v l w') : RowKit.Below w.heap.size w w' := ⟨h.gr.os, h.gr.tape, h.gr.output, h.gr.size, fun k hk => h.gr.block k hk (by omega)⟩
theorem mk_room {w w1 : World} {n : Nat} (h : RowKit.Below w.heap.size w w1) (hn : n < 1000000000) : ∃ w2, (Instr.makeSlice 49 (Z 0) (Z n)).run Tryd.prog w1 = .ok (.slice (some ⟨w1.heap.size, 0, none⟩) 0 n) w2 ∧ BJ w (.slice (some ⟨w1.heap.size, 0, none⟩) 0 n) [] w2 ∧ RowKit.Below w1.heap.size w1 w2 := by
  obtain ⟨i, hi, hz, h1, h2⟩ := hI5
  obtain ⟨w2, hr, ho, hg⟩ := run_make_own (P := Tryd.prog) w1 w.heap.size 49 5 i _ 1 Tryd.underlying49 hi hz h1 .i64 .i64 n (by rw [h2]; omega) (by simp only [maxLen]; omega) h.size
  have hb : RowKit.Below w1.heap.size w1 w2 := ⟨hg.os, hg.tape, hg.output, hg.size, fun k hk => hg.block k hk (by simp)⟩
  have hb2 := h.trans (hb.mono h.size)
  exact ⟨w2, hr, ⟨⟨hb2.os, hb2.tape, hb2.output, hb2.size, fun k hk _ => hb2.block k hk⟩, ho⟩, hb⟩
theorem hexL_take {s : List UInt8} {i : Nat} {x : UInt8} (h : s[i]? = some x) : hexL (s.take (i + 1)) = hexL (s.take i) ++ hex2 x := by
  unfold hexL
  rw [List.take_add_one, h, List.flatMap_append]
  simp
abbrev thK : List Nat := [0, 2, 3, 10, 11]
abbrev thW (s : List UInt8) (v : Value) (i : Nat) : Vs := frm 30 [(0, Sum.inl (str s)), (2, Sum.inl (str [])), (3, Sum.inl v), (10, Sum.inl (Z s.length)), (11, Sum.inl (Z i))]
set_option maxHeartbeats 4000000 in
theorem toHex_any (s : List UInt8) (hs : s.length < 100000000) (w : World) : Calls Tryd.prog 47 #[str s] w fun e w' => e = .returned (str (hexL s)) ∧ RowKit.Below w.heap.size w w' := by
  refine inQ (J := RowKit.Below w.heap.size w) (F := (· < w.heap.size)) Tryd.func47 (RowKit.Below.refl _ _) fun a I => ?_
  refine goQ [lnO s, bO .mul 3 (run_mulZ (x := 2) (y := s.length) (z := (2 * s.length : Nat)) (by rw [wz (by omega) (by omega)]; omega))] (nonR w) I fun β a w1 I1 hb => ?_
  obtain ⟨w2, hr2, hj2, hb2⟩ := mk_room (n := 2 * s.length) I1.hJ (by omega)
  have hw1 := I1.hJ.size
  refine mksQ (t := 49) (x := Sum.inl (Z 0)) (y := Sum.inl (Z (2 * s.length : Nat))) I1 hr2 ?_
  have I2 := I1.moved (J' := BJ w (.slice (some ⟨w1.heap.size, 0, none⟩) 0 (2 * s.length)) []) (F' := BF w (.slice (some ⟨w1.heap.size, 0, none⟩) 0 (2 * s.length))) (Grow.of_below hb2) hj2 (fun k hk h => by
    rcases h with h | h
    · exact h.1
    · simp only [Value.ownBlock, Option.some.injEq] at h; omega) (.slice (some ⟨w1.heap.size, 0, none⟩) 0 (2 * s.length))
  generalize w1.heap.size = g at *
  refine goQ [lnO s] (BJ.rs _ _ _) I2 fun β a w3 I3 hb => ?_
  let St : Nat → Act → World → Prop := fun k a w' => ∃ (i : Nat) (β : Nat → Nat) (u : Nat → Value) (ad : Option Addr) (cap : Nat), k = s.length - i ∧ i ≤ s.length ∧ SI (BJ w (.slice ad (hexL (s.take i)).length cap) (hexL (s.take i))) (BF w (.slice ad (hexL (s.take i)).length cap)) [] β (cfC (bodyL Tryd.f47) (fillF (scrF 30 thK) u 0 (thW s (.slice ad (hexL (s.take i)).length cap) i)) [] 0) a w'
  refine lpM (bodyL Tryd.f47) St s.length ?_ ?_
  · obtain ⟨u, Iu⟩ := I3.scr (bodyL Tryd.f47) (scrF 30 thK) (thW s (.slice (some ⟨g, 0, none⟩) 0 (2 * s.length)) 0) [] 0
    exact ⟨0, β, u, some ⟨g, 0, none⟩, 2 * s.length, by omega, Nat.zero_le _, Iu⟩
  rintro k a3 w3 ⟨i, β3, u, ad, cap, rfl, hi, I4⟩
  refine wp_cfC (tm := fillF (scrF 30 thK) u 0 (thW s (.slice ad (hexL (s.take i)).length cap) i)) (rows := []) (nx := 0) ?_
  rcases Nat.lt_or_ge i s.length with hil | hil
  · obtain ⟨x, hx⟩ : ∃ x, s[i]? = some x := ⟨_, List.getElem?_eq_getElem hil⟩
    have hxl := x.toNat_lt
    have hlen : (hexL (s.take i)).length = 2 * i := by rw [hexL_len, List.length_take, Nat.min_eq_left hi]
    have htk := hexL_take hx
    have hd1 := dgO_get (x.toNat / 16) (by omega)
    have hd2 := dgO_get (x.toNat % 16) (by omega)
    unfold hex2 at htk
    generalize dgO (x.toNat / 16) = d1 at *
    generalize dgO (x.toNat % 16) = d2 at *
    generalize hexL (s.take i) = l at *
    refine goQ [bO .lss 3 (run_lssZ (x := i) (y := s.length) (b := true) (by simp; omega))] (BJ.rs _ _ _) I4 fun β5 a5 w5 I5 hb5 => ?_
    refine dwQ 11 [iO 9 (p := str s) (i := Z i) (v := b8 x.toNat) (idx_run hx), bO .shr 5 (run_shr4 x), iO 9 (p := str dig16) (i := b8 (x.toNat / 16)) (v := b8 d1.toNat) (idx8_run hd1), iO 9 (p := str s) (i := Z i) (v := b8 x.toNat) (idx_run hx), bO .and 5 (run_and15 x), iO 9 (p := str dig16) (i := b8 (x.toNat % 16)) (v := b8 d2.toNat) (idx8_run hd2)] (BJ.rs _ _ _) (PanOk.then PanOk.post.qk) I5 fun a6 w6 I6 => ?_
    refine app_bytes [d1, d2] [(0, Sum.inl (b8 d1.toNat)), (1, Sum.inl (b8 d2.toNat))] 2 rfl (bs2 d1 d2 w6) I6 (by simp) (by rw [hlen]; simp; omega) fun ad8 cap8 a8 w8 I8 => ?_
    refine goQ [bO .add 3 (run_addZ (x := i) (y := 1) (z := (i + 1 : Nat)) (by rw [wz (by omega) (by omega)]; omega))] (BJ.rs _ _ _) I8 fun β9 a9 w9 I9 hb9 => ?_
    obtain ⟨u', Iu⟩ := I9.scr (bodyL Tryd.f47) (scrF 30 thK) (thW s (.slice ad8 (l ++ [d1, d2]).length cap8) (i + 1)) [] 0
    refine endL ⟨s.length - (i + 1), by omega, i + 1, β9, u', ad8, cap8, rfl, hil, ?_⟩
    rw [htk]
    exact Iu
  · obtain rfl : i = s.length := by omega
    rw [List.take_length] at I4 ⊢
    refine goQ [bO .lss 3 (run_lssZ (x := s.length) (y := s.length) (b := false) (by simp))] (BJ.rs _ _ _) I4 fun β5 a5 w5 I5 hb5 => ?_
    refine endE 0 ?_
    refine goQ [] (BJ.rs _ _ _) (I5.exit _) fun β6 a6 w6 I6 hb6 => ?_
    refine cnvQ I6 (text_own I6.hJ.own) ?_
    have I7 := I6.same (str (hexL s))
    refine goQ [] (BJ.rs _ _ _) I7 fun β8 a8 w8 I8 hb8 => ?_
    exact outQ (v := str (hexL s)) I8 ⟨rfl, I8.hJ.below⟩
end Go.Proofs.YtoceebhnhccfdaaDoor
