/- Encode, and how many terms there are. -/
import Derived.Test.YtjjiendgmnlokaaDoorKdWe
namespace Go.Proofs.YtjjiendgmnlokaaDoor
open Go.RowKit Go.Sort
set_option linter.unusedVariables false
set_option maxRecDepth 100000
structure EJ (W0 : World) (g : Nat) (v : Value) (l : List UInt8) (w : World) : Prop where
  bw : Below W0.heap.size W0 w
  own : w.ownsRow (g + 1) 5 1 v l.length (bc l)
def EF (W0 : World) (v : Value) (k : Nat) : Prop := k < W0.heap.size ∨ v.ownBlock = some k
theorem EJ.rs (W0 : World) (g : Nat) (v : Value) (l : List UInt8) : Rsrc (EJ W0 g v l) (EF W0 v) := by
  refine ⟨fun w w' h gr => ⟨⟨gr.os.trans h.bw.os, gr.tape.trans h.bw.tape, gr.output.trans h.bw.output, Nat.le_trans h.bw.size gr.size, fun k hk => (gr.block k (Nat.lt_of_lt_of_le hk h.bw.size) (.inl hk)).trans (h.bw.block k hk)⟩, owns_grow h.own gr fun k hk => .inr hk⟩, fun w k h hk => ?_⟩
  rcases hk with hk | hk
  · exact Nat.lt_of_lt_of_le hk h.bw.size
  · exact (h.own.lt k hk).2
abbrev str (l : List UInt8) : Value := .string ⟨l.toArray⟩
theorem encode_any (n : Nat) (l : TL n) {w : World} {sv : Value} (h : LA w n sv l) (hs : (enc n l).length + 1000 ≤ 1000000000000) : Calls Tryd.prog 12 #[sv] w fun e w' => e = .returned (str (enc n l)) ∧ Below w.heap.size w w' := by
  refine inQ (J := Below w.heap.size w) (F := (· < w.heap.size)) Tryd.func12 (Below.refl _ _) fun a I => ?_
  refine goQ [] (nonR w) I fun β a w1 I hb => ?_
  have hr := I.rowAt 0 (r := #[.slice none 0 0])
  have hd : ¬ (β 0 < w.heap.size) := I.dis _ (rowOf_mem (show rowOf _ 0 = some #[.slice none 0 0] by kernel_rfl))
  have W1 : Wr w (β 0) (.slice none 0 0) [] w1 := ⟨I.hJ, Nat.le_of_not_lt hd, hr, World.ownsRow_nil _ _ _ _⟩
  refine mcall (ss := [Sum.inr (0, 0), Sum.inl sv]) Tryd.func27 I ?_
  refine (row_any n l h W1 (by simpa using hs)).mono fun e w2 he => ?_
  obtain ⟨rfl, v', hp⟩ := he
  obtain ⟨ad, cap, rfl⟩ := owns_slice hp.wr.own
  rw [List.nil_append] at hp
  refine (at_row (id := 0) (r := #[.slice ad (enc n l).length cap])).1 ?_
  have I2 : SI (EJ w (β 0) (.slice ad (enc n l).length cap) (enc n l)) (EF w (.slice ad (enc n l).length cap)) [] β _ _ w2 := I.rowed (id := 0) (r0 := #[.slice none 0 0]) (by kernel_rfl) ⟨hp.gr.os, hp.gr.tape, hp.gr.output, hp.gr.size, fun k hk hn => hp.gr.block k hk (by
      rintro (h1 | h1 | h1)
      · exact hn.1 h1
      · exact hn.2 h1
      · cases h1)⟩ hp.wr.row ⟨hp.wr.bw, hp.wr.own⟩ (fun k hk h1 => by
      rcases h1 with h1 | h1
      · exact h1
      · rcases hp.nb k h1 with h2 | h2
        · cases h2
        · omega) T0
  refine goQ [] (EJ.rs _ _ _ _) I2 fun β3 a3 w3 I3 hb3 => ?_
  refine cnvQ I3 (text_own I3.hJ.own) ?_
  refine goQ [] (EJ.rs _ _ _ _) (I3.same _) fun β4 a4 w4 I4 hb4 => ?_
  exact outQ I4 ⟨rfl, I4.hJ.bw⟩
section
variable {P : Program} {J : World → Prop} {F : Nat → Prop} {ds : List Deferred} {β : Nat → Nat} {c : Cf} {a : Act} {w : World} {Q : Exit → Act → World → Prop}
/-- A call that turns nothing that was there; what it hands back is told by a law. -/
theorem bcall {f : Nat} {fn : Func} (ss : List SV) (hf : P.funcs[f]? = some fn) (R : Rsrc J F) (I : SI J F ds β c a w) (post : Value → Prop) (hcall : Calls P f (ss.map (up β)).toArray w fun e w' => Below w.heap.size w w' ∧ ∃ v, e = .returned v ∧ post v)
    (k : ∀ v w', post v → SI J F ds β (nxtQ c v) (a.put (dstQ c) v) w' → At P Q (nxtQ c v) (a.put (dstQ c) v) w') (hc : callQ c = some (f, ss) := by kernel_rfl)
    (hb : fn.body.isNone = false := by kernel_rfl) (hn : (fn.name == "runtime.NumGoroutine") = false := by kernel_rfl) : At P Q c a w := by
  refine mcall hf I (hcall.mono fun e w' he => ?_) hc hb hn
  obtain ⟨hbl, v, rfl, hv⟩ := he
  exact k v w' hv (I.moved (Grow.of_below hbl) (R.loc w w' I.hJ (Grow.of_below hbl)) (fun _ _ h => h) v)
end
/-- Terms in memory, as deep as one likes to look. -/
def LR (w : World) : Nat → Value → Prop
  | 0, v => ∃ ad len cap, v = .slice ad len cap
  | n + 1, v => ∃ ad len cap, v = .slice ad len cap ∧ len ≤ maxLen ∧ ∀ i, i < len → ∃ g off k u s lv, ad = some ⟨g, off, none⟩ ∧ CellsAt w g (off + i * 7) (cells7 k u s lv) ∧ u < W ∧ s.size ≤ maxLen ∧ LR w n lv
def tot : (n : Nat) → TL n → Nat
  | 0, _ => 0
  | n + 1, l => List.length (α := TT n) l + (List.map (fun t : TT n => tot n t.2.2.2) l).sum
def tok : (n : Nat) → TL n → Prop
  | 0, _ => True
  | n + 1, l => ∀ t : TT n, List.Mem t l → t.2.2.1.size ≤ 20000 ∧ t.2.1 < W ∧ tok n t.2.2.2
theorem size_deep (sv : Value) (most deep : Int) (h : 8 < deep) (w : World) : Calls Tryd.prog 19 #[sv, Z most, Z deep] w fun e w' => Below w.heap.size w w' ∧ ∃ v, e = .returned v ∧ v = Z (-1) := by
  refine inQ (J := Below w.heap.size w) (F := (· < w.heap.size)) Tryd.func19 (Below.refl _ _) fun a I => ?_
  refine goQ [bO .gtr 3 (run_gtrZ (x := deep) (y := 8) (b := true) (by simpa using h))] (nonR w) I fun β a w1 I hb => ?_
  exact outQ I ⟨I.hJ, _, rfl, rfl⟩
abbrev szK : List Nat := [0, 1, 2, 7, 8]
abbrev szV (sv : Value) (most deep : Int) (n i : Nat) : Vs := frm 50 [(0, Sum.inl sv), (1, Sum.inl (Z most)), (2, Sum.inl (Z deep)), (7, Sum.inl (Z n)), (8, Sum.inl (Z i))]
theorem size_gen {α : Type} {W0 : World} {L : Value → α → Prop} {tt : α → Nat} {ok : α → Prop} {R : Value → Prop} (deep : Nat) (hd : deep ≤ 8)
    (hR : ∀ lv, R lv → ∃ ad len cap, lv = .slice ad len cap)
    (hsub : ∀ (lv : Value) (m : Nat) (w : World), R lv → Below W0.heap.size W0 w → m ≤ 1000000 → Calls Tryd.prog 19 #[lv, Z m, Z (deep + 1 : Nat)] w fun e w' => Below w.heap.size w w' ∧ ∃ v, e = .returned v ∧ (v = Z (-1) ∨ ∃ x, L lv x ∧ ok x ∧ tt x ≤ m ∧ v = Z (tt x)))
    {ad0 : Option Addr} {len cap0 : Nat} (hmem : ∀ i, i < len → ∃ g off k u s lv, ad0 = some ⟨g, off, none⟩ ∧ CellsAt W0 g (off + i * 7) (cells7 k u s lv) ∧ u < W ∧ s.size ≤ maxLen ∧ R lv) (most : Nat) (hm : most ≤ 1000000) (wS : World) (hbS : Below W0.heap.size W0 wS) :
    Calls Tryd.prog 19 #[.slice ad0 len cap0, Z most, Z deep] wS fun e w' => Below wS.heap.size wS w' ∧ ∃ v, e = .returned v ∧ (v = Z (-1) ∨ ∃ l : List (Int × Nat × ByteArray × α), LAs W0 L (.slice ad0 len cap0) l ∧ (∀ t ∈ l, t.2.2.1.size ≤ 20000 ∧ t.2.1 < W ∧ ok t.2.2.2) ∧ l.length + (l.map fun t => tt t.2.2.2).sum ≤ most ∧ v = Z (l.length + (l.map fun t => tt t.2.2.2).sum : Nat)) := by
  refine inQ (J := Below wS.heap.size wS) (F := (· < wS.heap.size)) Tryd.func19 (Below.refl _ _) fun a I => ?_
  rcases Nat.lt_or_ge most len with hlm | hlm
  · refine goQ [bO .gtr 3 (run_gtrZ (x := deep) (y := 8) (b := false) (by simp; omega)), lS Tryd.underlying22 (ad := ad0) (n := len) (cap := cap0) rfl, bO .gtr 3 (run_gtrZ (x := len) (y := most) (b := true) (by simp; omega))] (nonR wS) I fun β a w1 I hb => ?_
    exact outQ I ⟨I.hJ, _, rfl, .inl rfl⟩
  refine goQ [bO .gtr 3 (run_gtrZ (x := deep) (y := 8) (b := false) (by simp; omega)), lS Tryd.underlying22 (ad := ad0) (n := len) (cap := cap0) rfl, bO .gtr 3 (run_gtrZ (x := len) (y := most) (b := false) (by simp; omega)), lS Tryd.underlying22 (ad := ad0) (n := len) (cap := cap0) rfl] (nonR wS) I fun β a w1 I hb => ?_
  let St : Nat → Act → World → Prop := fun k a w' => ∃ (i : Nat) (l : List (Int × Nat × ByteArray × α)) (β : Nat → Nat) (u : Nat → Value), k = len - i ∧ i ≤ len ∧ l.length = i ∧
    (∀ (j : Nat) (t : Int × Nat × ByteArray × α), l[j]? = some t → ∃ g off lv, ad0 = some ⟨g, off, none⟩ ∧ CellsAt W0 g (off + j * 7) (cells7 t.1 t.2.1 t.2.2.1 lv) ∧ L lv t.2.2.2) ∧ (∀ t ∈ l, t.2.2.1.size ≤ 20000 ∧ t.2.1 < W ∧ ok t.2.2.2) ∧ len + (l.map fun t => tt t.2.2.2).sum ≤ most ∧
    SI (Below wS.heap.size wS) (· < wS.heap.size) [] β (cfC (bodyL Tryd.f19) (fillF (scrF 50 szK) u 0 (szV (.slice ad0 len cap0) most deep (len + (l.map fun t => tt t.2.2.2).sum) i)) [] 0) a w'
  refine lpM (bodyL Tryd.f19) St len ?_ ?_
  · obtain ⟨u, Iu⟩ := I.scr (bodyL Tryd.f19) (scrF 50 szK) (szV (.slice ad0 len cap0) most deep len 0) [] 0
    exact ⟨0, [], β, u, rfl, Nat.zero_le _, rfl, fun j t h => (by simp at h), fun t h => (by cases h), by simpa using hlm, by simpa using Iu⟩
  rintro k a3 w3 ⟨i, l, β3, u, rfl, hi, hl, hL, hO, hS, I⟩
  refine wp_cfC (tm := fillF (scrF 50 szK) u 0 (szV (.slice ad0 len cap0) most deep (len + (l.map fun t => tt t.2.2.2).sum) i)) (rows := []) (nx := 0) ?_
  rcases Nat.lt_or_ge i len with hil | hil
  · obtain ⟨gm, off, kd, nu, tx, lv, rfl, hcm, hu, htx, hlv⟩ := hmem i hil
    obtain ⟨adl, lenl, capl, rfl⟩ := hR lv hlv
    have hld : ∀ w, Below wS.heap.size wS w → (loadVar 9 ⟨gm, off + i * 7 + 5, none⟩).run Tryd.prog w = .ok (.string tx) w := fun w hb => load1 (hcm.keep ((hbS.trans (hb.mono hbS.size)).block gm hcm.lt)) 5 rfl 9 Tryd.underlying9 rfl
    have hld2 : ∀ w, Below wS.heap.size wS w → (loadVar 22 ⟨gm, off + i * 7 + 6, none⟩).run Tryd.prog w = .ok (.slice adl lenl capl) w := fun w hb => load1 (hcm.keep ((hbS.trans (hb.mono hbS.size)).block gm hcm.lt)) 6 rfl 22 Tryd.underlying22 rfl
    rcases Nat.lt_or_ge 20000 tx.size with htb | htb
    · refine goT (T := fun w => Below wS.heap.size wS w) [lS Tryd.underlying22 (ad := some ⟨gm, off, none⟩) (n := len) (cap := cap0) rfl, bO .lss 3 (run_lssZ (x := i) (y := len) (b := true) (by simp; omega)), iA 22 Tryd.underlying22 (sz := 7) (by kernel_rfl) (g := gm) (off := off) (n := len) (cap := cap0) hil, ldA 9 hld, lO Tryd.underlying9 (b := tx) (n := tx.size) rfl, bO .gtr 3 (run_gtrZ (x := tx.size) (y := 20000) (b := true) (by simp; omega))] (nonR wS) (fun w h => h) I fun β4 a4 w4 I hb4 => ?_
      exact endR (retV I ⟨I.hJ, _, rfl, .inl rfl⟩)
    refine goT (T := fun w => Below wS.heap.size wS w) [lS Tryd.underlying22 (ad := some ⟨gm, off, none⟩) (n := len) (cap := cap0) rfl, bO .lss 3 (run_lssZ (x := i) (y := len) (b := true) (by simp; omega)), iA 22 Tryd.underlying22 (sz := 7) (by kernel_rfl) (g := gm) (off := off) (n := len) (cap := cap0) hil, ldA 9 hld, lO Tryd.underlying9 (b := tx) (n := tx.size) rfl, bO .gtr 3 (run_gtrZ (x := tx.size) (y := 20000) (b := false) (by simp; omega)),
      iA 22 Tryd.underlying22 (sz := 7) (by kernel_rfl) (g := gm) (off := off) (n := len) (cap := cap0) hil, ldA 22 hld2, bO .sub 3 (run_subZ (x := most) (y := (len + (l.map fun t => tt t.2.2.2).sum : Nat)) (z := (most - (len + (l.map fun t => tt t.2.2.2).sum) : Nat)) (by rw [wz (by omega) (by omega)]; omega)), bO .add 3 (run_addZ (x := deep) (y := 1) (z := (deep + 1 : Nat)) (by rw [wz (by omega) (by omega)]; omega))] (nonR wS) (fun w h => h) I fun β4 a4 w4 I hb4 => ?_
    refine bcall [Sum.inl (.slice adl lenl capl), Sum.inl (Z (most - (len + (l.map fun t => tt t.2.2.2).sum) : Nat)), Sum.inl (Z (deep + 1 : Nat))] Tryd.func19 (nonR wS) I _ (hsub _ (most - (len + (l.map fun t => tt t.2.2.2).sum)) w4 hlv (hbS.trans (I.hJ.mono hbS.size)) (by omega)) fun v w5 hv I => ?_
    rcases hv with rfl | ⟨x, hx1, hx2, hx3, rfl⟩
    · refine goQ [bO .lss 3 (run_lssZ (x := -1) (y := 0) (b := true) (by decide))] (nonR wS) I fun β6 a6 w6 I hb6 => ?_
      exact endR (retV I ⟨I.hJ, _, rfl, .inl rfl⟩)
    · refine goQ [bO .lss 3 (run_lssZ (x := tt x) (y := 0) (b := false) (by simp)), bO .add 3 (run_addZ (x := (len + (l.map fun t => tt t.2.2.2).sum : Nat)) (y := tt x) (z := (len + ((l ++ [(kd, nu, tx, x)]).map fun t => tt t.2.2.2).sum : Nat)) (by rw [wz (by omega) (by omega)]; simp; omega)), bO .add 3 (run_addZ (x := i) (y := 1) (z := (i + 1 : Nat)) (by rw [wz (by omega) (by omega)]; omega))] (nonR wS) I fun β6 a6 w6 I hb6 => ?_
      obtain ⟨u', Iu⟩ := I.scr (bodyL Tryd.f19) (scrF 50 szK) (szV (.slice (some ⟨gm, off, none⟩) len cap0) most deep (len + ((l ++ [(kd, nu, tx, x)]).map fun t => tt t.2.2.2).sum) (i + 1)) [] 0
      refine endL ⟨len - (i + 1), by omega, i + 1, l ++ [(kd, nu, tx, x)], β6, u', rfl, hil, by simp [hl], fun j t hj => ?_, fun t ht => ?_, by simp; omega, Iu⟩
      · rcases Nat.lt_or_ge j l.length with h1 | h1
        · rw [List.getElem?_append_left h1] at hj
          exact hL j t hj
        · rw [List.getElem?_append_right h1] at hj
          have hj0 : j - l.length = 0 := by
            rcases Nat.eq_zero_or_pos (j - l.length) with h2 | h2
            · exact h2
            · rw [List.getElem?_eq_none (by simp; omega)] at hj; cases hj
          rw [hj0] at hj
          simp only [List.getElem?_cons_zero, Option.some.injEq] at hj
          subst hj
          obtain rfl : j = i := by omega
          exact ⟨gm, off, _, rfl, hcm, hx1⟩
      · rcases List.mem_append.1 ht with h1 | h1
        · exact hO t h1
        · rw [List.mem_singleton] at h1
          subst h1
          exact ⟨htb, hu, hx2⟩
  · obtain rfl : i = len := by omega
    refine goQ [lS Tryd.underlying22 (ad := ad0) (n := i) (cap := cap0) rfl, bO .lss 3 (run_lssZ (x := i) (y := i) (b := false) (by simp))] (nonR wS) I fun β4 a4 w4 I hb4 => ?_
    refine endE 0 ?_
    refine goQ [] (nonR wS) (I.cf rfl rfl rfl) fun β5 a5 w5 I hb5 => ?_
    refine outQ I ⟨I.hJ, Z (i + (l.map fun t => tt t.2.2.2).sum : Nat), rfl, .inr ⟨l, ⟨ad0, cap0, by rw [hl], hL⟩, hO, by omega, by rw [hl]⟩⟩
theorem LR.slice {w : World} : ∀ {n : Nat} {v : Value}, LR w n v → ∃ ad len cap, v = .slice ad len cap
  | 0, v, h => h
  | n + 1, v, h => by obtain ⟨ad, len, cap, hv, _⟩ := h; exact ⟨ad, len, cap, hv⟩
theorem size_any : ∀ (n deep : Nat), deep + n = 8 → ∀ {W0 : World} {v : Value}, LR W0 (n + 1) v → ∀ (most : Nat), most ≤ 1000000 → ∀ w, Below W0.heap.size W0 w →
    Calls Tryd.prog 19 #[v, Z most, Z deep] w fun e w' => Below w.heap.size w w' ∧ ∃ v', e = .returned v' ∧ (v' = Z (-1) ∨ ∃ l : TL n, LA W0 n v l ∧ tok n l ∧ tot n l ≤ most ∧ v' = Z (tot n l))
  | 0, deep, hd, W0, v, h, most, hm, w, hb => by
    obtain ⟨ad, len, cap, rfl, _, hmem⟩ := h
    refine (size_gen (α := Unit) (L := fun _ _ => False) (tt := fun _ => 0) (ok := fun _ => True) (R := LR W0 0) deep (by omega) (fun lv h => h) (fun lv m w hR hb hm => ?_) hmem most hm w hb).mono fun e w' he => ?_
    · refine (size_deep lv m (deep + 1 : Nat) (by omega) w).mono fun e w' he => ⟨he.1, he.2.imp fun v h => ⟨h.1, .inl h.2⟩⟩
    · obtain ⟨h1, v', h2, h3 | ⟨l, ⟨ad', cap', hv, hL⟩, h5, h6, h7⟩⟩ := he
      · exact ⟨h1, v', h2, .inl h3⟩
      · have hl : l = [] := by
          cases l with
          | nil => rfl
          | cons t l => obtain ⟨_, _, _, _, _, hf⟩ := hL 0 t rfl; exact hf.elim
        subst hl
        exact ⟨h1, v', h2, .inr ⟨(), ⟨ad', cap', hv⟩, trivial, Nat.zero_le _, h7⟩⟩
  | n + 1, deep, hd, W0, v, h, most, hm, w, hb => by
    obtain ⟨ad, len, cap, rfl, _, hmem⟩ := h
    refine (size_gen (α := TL n) (L := LA W0 n) (tt := tot n) (ok := tok n) (R := LR W0 (n + 1)) deep (by omega) (fun lv h => h.slice) (fun lv m w hR hb hm => size_any n (deep + 1) (by omega) hR m hm w hb) hmem most hm w hb).mono fun e w' he => ?_
    obtain ⟨h1, v', h2, h3 | ⟨l, h4, h5, h6, h7⟩⟩ := he
    · exact ⟨h1, v', h2, .inl h3⟩
    · exact ⟨h1, v', h2, .inr ⟨l, h4, h5, h6, h7⟩⟩
/-- Few terms, or not. -/
theorem few_any {w : World} {v : Value} (h : LR w 9 v) : Calls Tryd.prog 8 #[v] w fun e w' => Below w.heap.size w w' ∧ ∃ v', e = .returned v' ∧ (v' = .bool false ∨ ∃ l : TL 8, LA w 8 v l ∧ tok 8 l ∧ tot 8 l ≤ 300 ∧ v' = .bool true) := by
  refine inQ (J := Below w.heap.size w) (F := (· < w.heap.size)) Tryd.func8 (Below.refl _ _) fun a I => ?_
  refine goQ [] (nonR w) I fun β a w1 I hb => ?_
  refine bcall [Sum.inl v, Sum.inl (Z (300 : Nat)), Sum.inl (Z (0 : Nat))] Tryd.func19 (nonR w) I _ (size_any 8 0 rfl h 300 (by omega) w1 I.hJ) fun v' w2 hv I => ?_
  rcases hv with rfl | ⟨l, h1, h2, h3, rfl⟩
  · refine goQ [bO .geq 3 (run_geqZ (x := -1) (y := 0) (b := false) (by decide))] (nonR w) I fun β6 a6 w6 I hb6 => ?_
    exact outQ I ⟨I.hJ, _, rfl, .inl rfl⟩
  · refine goQ [bO .geq 3 (run_geqZ (x := tot 8 l) (y := 0) (b := true) (by simp))] (nonR w) I fun β6 a6 w6 I hb6 => ?_
    exact outQ I ⟨I.hJ, _, rfl, .inr ⟨l, h1, h2, h3, rfl⟩⟩
end Go.Proofs.YtjjiendgmnlokaaDoor
