/- The document's Reclaim. -/
import Derived.Test.YtdiblfgnnliifaaTk
namespace Go.Proofs.Ytdiblfgnnliifaa
open Go.RowKit Go.Sort
set_option linter.unusedVariables false
set_option maxRecDepth 100000
section
variable {w0 : World} {b : Nat} {K : Nat → Prop} {Fs : List Lf} {O : List Ow} {ds : List Deferred} {β : Nat → Nat} {c : Cf} {a : Act} {w w' : World} {Q : Exit → Act → World → Prop}
/-- What a call hands back: what it was handed, or a list laid anew. -/
def OrN (w : World) (v : Value) (l : List Al) (v' : Value) (l' : List Al) (w' : World) : Prop := (v' = v ∧ l' = l ∧ Below w.heap.size w w') ∨ NW w [alF v' l'] w'
theorem SI.gsOr {v v' : Value} {l l' : List Al} {i : Nat} (I : SI (GS w0 w0 b noK K Fs []) (GF noK K []) ds β c a w) (hi : Fs[i]? = some (alF v l)) (h : OrN w v l v' l' w') (r : Value) : ∃ K', SI (GS w0 w0 b noK K' ([alF v' l'] ++ Fs) []) (GF noK K' []) ds β (nxtQ c r) (a.put (dstQ c) r) w' := by
  rcases h with ⟨rfl, rfl, hb⟩ | h
  · have hJ := I.hJ.below hb
    exact ⟨K, I.moved (Grow.of_below hb) ⟨hJ.bw, hJ.rs, hJ.bs, hJ.kk, hJ.nc, hJ.kb, hJ.lo, fun f hf => by
      rcases List.mem_append.1 hf with hf | hf
      · rw [List.mem_singleton.1 hf]; exact hJ.sl _ (List.mem_of_getElem? hi)
      · exact hJ.sl f hf, fun o ho => (by cases ho), fun o ho => (by cases ho), List.Pairwise.nil⟩ (fun _ _ h => h) r⟩
  · exact I.gs h r
/-- A piece of a list is laid behind a row of one's own. -/
theorem appL {ad ad2 : Option Addr} {cap c2 n1 n2 : Nat} {m l2 : List Al} (I : SI (GS w0 w0 b noK K Fs [alO (.slice ad n1 cap) m]) (GF noK K [alO (.slice ad n1 cap) m]) ds β c a w) (hn1 : m.length = n1) (hn : n2 = l2.length) (h2 : n2 ≠ 0 → ∃ a2 : Addr, ad2 = some a2 ∧ ∀ j u, ((l2.map al8).flatten)[j]? = some u → w.cell? (a2.add j) = some u) (hm : n1 + n2 < 1000000)
    (k : ∀ ad8 cap8 a8 w8, SI (GS w0 w0 b noK K Fs [alO (.slice ad8 (n1 + n2) cap8) (m ++ l2)]) (GF noK K [alO (.slice ad8 (n1 + n2) cap8) (m ++ l2)]) ds β (nxtQ c (.slice ad8 (n1 + n2) cap8)) a8 w8 → At Try.prog Q (nxtQ c (.slice ad8 (n1 + n2) cap8)) a8 w8)
    (hc : bltQ c = some (.append, #[22, 22], 22, [Sum.inl (.slice ad n1 cap), Sum.inl (.slice ad2 n2 c2)]) := by kernel_rfl) : At Try.prog Q c a w := by
  subst hn1
  subst hn
  have ho := I.hJ.oRow
  have hbs := I.hJ.bs
  have happ : ∃ v' w', (Builtin.append_ #[22, 22] 22 #[.slice ad m.length cap, .slice ad2 l2.length c2]).run Try.prog w = .ok v' w' ∧ w'.ownsRow b 39 8 v' (m.length + l2.length) ((m.map al8).flatten ++ (l2.map al8).flatten) ∧ Grw (.slice ad m.length cap) v' w w' := by
    by_cases hz : l2.length = 0
    · have e : l2 = [] := List.eq_nil_of_length_eq_zero hz
      subst e
      exact ⟨.slice ad m.length cap, w, app_zero ho ad2 c2, by simpa using ho, ⟨⟨rfl, rfl, rfl, Nat.le_refl _, fun _ _ _ => rfl⟩, fun k hk => .inl hk⟩⟩
    · obtain ⟨a2, hA, hc⟩ := h2 hz
      rw [hA]
      exact app_many ho hbs a2 l2.length c2 _ (flat_len8 _) (by omega) hc (fun u hu => one8 hu) (by omega)
  obtain ⟨v', w2, hr, ho2, hg⟩ := happ
  refine appQ (ss := [Sum.inl (.slice ad m.length cap), Sum.inl (.slice ad2 l2.length c2)]) I hr ?_ hc
  obtain ⟨ad8, cap8, rfl⟩ := owns_slice ho2
  have H := I.hJ
  have hon := H.on _ (List.mem_singleton.2 rfl)
  have hJ : GS w0 w0 b noK K Fs [alO (.slice ad8 (m.length + l2.length) cap8) (m ++ l2)] w2 := by
    refine ⟨⟨hg.gr.os.trans H.bw.os, hg.gr.tape.trans H.bw.tape, hg.gr.output.trans H.bw.output, Nat.le_trans H.bw.size hg.gr.size, fun k hk => (hg.gr.block k (Nat.lt_of_lt_of_le hk H.bw.size) fun e => (hon k e.symm).1 (H.lo k hk)).trans (H.bw.block k hk)⟩, Nat.le_trans H.rs hg.gr.size, Nat.le_trans H.bs hg.gr.size, H.kk, fun k hk => hk.elim, fun k hk => Nat.lt_of_lt_of_le (H.kb k hk) hg.gr.size, H.lo, fun f hf => f.loc _ _ _ _ (fun k hk => ⟨hk, hg.gr.block k (H.kb k hk) fun e => (hon k e.symm).1 hk⟩) (H.sl f hf), fun o ho => ?_, fun o ho k hk => ?_, List.pairwise_singleton _ _⟩
    · rw [List.mem_singleton.1 ho]
      simpa using ho2
    · rw [List.mem_singleton.1 ho] at hk
      rcases hg.nb k hk with h4 | h4
      · exact hon k h4
      · exact ⟨fun q => by have := H.kb k q; omega, fun q => q⟩
  refine k ad8 cap8 _ w2 (I.moved ⟨hg.gr.os, hg.gr.tape, hg.gr.output, hg.gr.size, fun k hk hn => hg.gr.block k hk fun e => hn (.inr (.inl ⟨_, List.mem_singleton.2 rfl, e.symm⟩))⟩ hJ (fun k hk hF => ?_) (.slice ad8 (m.length + l2.length) cap8))
  rcases hF with hF | ⟨o, ho, hq⟩ | hF
  · exact .inl hF
  · rw [List.mem_singleton.1 ho] at hq
    rcases hg.nb k hq with h4 | h4
    · exact .inr (.inl ⟨_, List.mem_singleton.2 rfl, h4⟩)
    · omega
  · exact .inr (.inr hF)
end
theorem stO' {w0 WR : World} {b : Nat} {Kp K : Nat → Prop} {Fs : List Lf} {ds : List Deferred} {β : Nat → Nat} {c : Cf} {a : Act} {w : World} {Q : Exit → Act → World → Prop} {g cap i n m : Nat} {l : List Al} (hm : l.length = m) (hi : i < l.length) (I : SI (GS w0 WR b Kp K Fs [alO (.slice (some ⟨g, 0, none⟩) m cap) l]) (GF Kp K [alO (.slice (some ⟨g, 0, none⟩) m cap) l]) ds β c a w)
    (k : ∀ w', SI (GS w0 WR b Kp K Fs [alO (.slice (some ⟨g, 0, none⟩) m cap) (stA l i n)]) (GF Kp K [alO (.slice (some ⟨g, 0, none⟩) m cap) (stA l i n)]) ds β (nextQ c (dstQ c) none) (a.put (dstQ c) undef) w' → At Try.prog Q (nextQ c (dstQ c) none) (a.put (dstQ c) undef) w')
    (hc : stQ c = some (25, Sum.inl (.pointer (some ⟨g, 0 + i * 8 + 1, none⟩)), Sum.inl (U n)) := by kernel_rfl) : At Try.prog Q c a w := by
  subst hm
  exact stO hi I k hc
theorem GS.blk' {w0 : World} {b : Nat} {K : Nat → Prop} {Fs : List Lf} {w : World} {ad : Option Addr} {cap m : Nat} {l : List Al} (h : GS w0 w0 b noK K Fs [alO (.slice ad m cap) l] w) (h0 : 0 < l.length) : ∃ g, ad = some ⟨g, 0, none⟩ := by
  rcases h.oRow.2 with ⟨he, hn⟩ | ⟨g, cap', cur, he, _⟩
  · omega
  · simp only [Value.slice.injEq] at he
    exact ⟨g, he.1⟩
theorem GS.ownA {w0 : World} {b : Nat} {K : Nat → Prop} {Fs : List Lf} {w : World} {v : Value} {l : List Al} (h : GS w0 w0 b noK K Fs [alO v l] w) (hl : Lt l) : AlI w v l := (h.own hl).keep C8.loc fun k hk => ⟨(h.oRow.lt k hk).2, rfl⟩
theorem ali_take {w : World} {ad : Option Addr} {cap : Nat} {l : List Al} (h : AlI w (.slice ad l.length cap) l) (k : Nat) (hk : k ≤ l.length) : k ≠ 0 → ∃ a2 : Addr, ad = some a2 ∧ ∀ j u, (((l.take k).map al8).flatten)[j]? = some u → w.cell? (a2.add j) = some u := fun h0 => by
  obtain ⟨a2, e, hc⟩ := ali_cells h (by omega)
  refine ⟨a2, e, fun j u hu => hc w (Below.refl _ _) j u ?_⟩
  rw [← flat_take, List.getElem?_take] at hu
  split at hu
  · exact hu
  · cases hu
theorem ali_drop {w : World} {ad : Option Addr} {cap : Nat} {l : List Al} (h : AlI w (.slice ad l.length cap) l) (hcap : l.length ≤ cap) (k : Nat) : l.length - k ≠ 0 → ∃ a2 : Addr, adF ad cap k = some a2 ∧ ∀ j u, (((l.drop k).map al8).flatten)[j]? = some u → w.cell? (a2.add j) = some u := fun h0 => by
  obtain ⟨ad', cap', he, hm⟩ := id h
  cases he
  obtain ⟨x, hx⟩ : ∃ t, l[0]? = some t := ⟨_, List.getElem?_eq_getElem (by omega)⟩
  obtain ⟨g, off, cs, rfl, _⟩ := hm 0 x hx
  obtain ⟨a2, e, hc⟩ := ali_cells h (by omega)
  cases e
  refine ⟨⟨g, off + k * 8, none⟩, ?_, fun j u hu => ?_⟩
  · unfold adF
    rw [if_neg (by omega), Option.map_some, add_off]
  · rw [← flat_drop, List.getElem?_drop] at hu
    have := hc w (Below.refl _ _) _ u hu
    rw [add_off] at this ⊢
    rw [Nat.add_assoc]
    exact this
abbrev lpKr : List Nat := [0, 2, 8, 11, 12]
abbrev lpVr (v vs vo : Value) (i : Nat) : Vs := frm 128 [(0, Sum.inl v), (2, Sum.inl vs), (8, Sum.inr (0, 0)), (11, Sum.inl vo), (12, Sum.inl (Z i))]
def rrO (l : List Al) (k p q a b : Nat) : Nat → List Al
  | 0 => l.eraseIdx k
  | 1 => (stA l p (am l p + a)).eraseIdx k
  | _ => (sdL l p q a b).eraseIdx k
/-- Why shares can't end what is bound: as the document asks it, one after the other. -/
theorem rf_kind {l : List Al} {i : Nat} {x : Al} {s : List Al} (hx : l[i]? = some x) (h : x.2.2.1 ≠ 1 ∨ s.length ≠ 2 ∨ s.any npP = true) : rcE l i s = 2 ∧ rcL l i s = l := by
  have hil := (List.getElem?_eq_some_iff.1 hx).1
  have hP : isP l (i : Int) = true := by unfold isP; rw [decide_eq_true (by omega), decide_eq_true (by omega)]; rfl
  have e : rfE l i s = 2 := by
    unfold rfE
    rw [hP, if_neg (by decide), Int.toNat_natCast, getD_is hx, if_pos h]
  have e1 : rcE l i s = 2 := by unfold rcE; rw [e]; rfl
  exact ⟨e1, by unfold rcL; rw [e1]; rfl⟩
theorem rf_sum {l : List Al} {i : Nat} {x y0 y1 : Al} (hx : l[i]? = some x) (hk : x.2.2.1 = 1) (hn : ([y0, y1] : List Al).any npP = false) (h : W ≤ y0.2.1 + y1.2.1 ∨ y0.2.1 + y1.2.1 ≠ x.2.1) : rcE l i [y0, y1] = 16 ∧ rcL l i [y0, y1] = l := by
  have hil := (List.getElem?_eq_some_iff.1 hx).1
  have hP : isP l (i : Int) = true := by unfold isP; rw [decide_eq_true (by omega), decide_eq_true (by omega)]; rfl
  have e : rfE l i [y0, y1] = 16 := by
    unfold rfE
    rw [hP, if_neg (by decide), Int.toNat_natCast, getD_is hx, am_is hx, if_neg (fun h => h.elim (fun h => h hk) fun h => h.elim (fun h => h rfl) fun h => by rw [hn] at h; cases h), show am [y0, y1] 0 = y0.2.1 from rfl, show am [y0, y1] 1 = y1.2.1 from rfl, if_pos h]
  have e1 : rcE l i [y0, y1] = 16 := by unfold rcE; rw [e]; rfl
  exact ⟨e1, by unfold rcL; rw [e1]; rfl⟩
theorem rf_side {l : List Al} {i : Nat} {x y0 y1 : Al} (hx : l[i]? = some x) (hk : x.2.2.1 = 1) (hn : ([y0, y1] : List Al).any npP = false) (h : ¬ (W ≤ y0.2.1 + y1.2.1 ∨ y0.2.1 + y1.2.1 ≠ x.2.1)) :
    rcE l i [y0, y1] = sdE l (pl l x.2.2.2.1) (pl l x.2.2.2.2) y0.2.1 y1.2.1 ∧ rcL l i [y0, y1] = if sdE l (pl l x.2.2.2.1) (pl l x.2.2.2.2) y0.2.1 y1.2.1 ≠ 0 then l else (sdL l (pl l x.2.2.2.1) (pl l x.2.2.2.2) y0.2.1 y1.2.1).eraseIdx i := by
  have hil := (List.getElem?_eq_some_iff.1 hx).1
  have hP : isP l (i : Int) = true := by unfold isP; rw [decide_eq_true (by omega), decide_eq_true (by omega)]; rfl
  have e : rfE l i [y0, y1] = 0 := by
    unfold rfE
    rw [hP, if_neg (by decide), Int.toNat_natCast, getD_is hx, am_is hx, if_neg (fun h => h.elim (fun h => h hk) fun h => h.elim (fun h => h rfl) fun h => by rw [hn] at h; cases h), show am [y0, y1] 0 = y0.2.1 from rfl, show am [y0, y1] 1 = y1.2.1 from rfl, if_neg h]
  have e1 : rcE l i [y0, y1] = sdE l (pl l x.2.2.2.1) (pl l x.2.2.2.2) y0.2.1 y1.2.1 := by
    unfold rcE
    rw [if_neg (by rw [e]; decide), Int.toNat_natCast]
    unfold lfD rgD
    rw [getD_is hx]
    rfl
  refine ⟨e1, ?_⟩
  unfold rcL
  rw [e1, Int.toNat_natCast]
  unfold lfD rgD
  rw [getD_is hx]
  rfl
set_option maxHeartbeats 8000000 in
theorem rreclaim_any {w : World} {v vs : Value} {l s : List Al} (hv : AlI w v l) (hs : AlI w vs s) (hl : l.length ≤ 1000) (hsl : s.length < 1000000000) (k : Int) (hcap : ∀ ad cap, v = .slice ad l.length cap → l.length ≤ cap) :
    Calls Try.prog 10 #[v, Z k, vs] w fun e w' => ∃ v', e = .returned (.tuple #[v', Z (rcE l k s)]) ∧ OrN w v l v' (rcL l k s) w' := by
  have hL : Lt l := fun x hx => ali_lt hv hx
  have hpl := fun (ad : Option Addr) (cap : Nat) (w' : World) => place_raw 26 (.inl rfl) (w := w') ad cap l k
  obtain ⟨ad, cap, hv0⟩ := hv.slice
  obtain ⟨ads, caps, hs0⟩ := hs.slice
  subst hv0 hs0
  have hcp := hcap ad cap rfl
  clear hcap
  refine inQ (J := GS w w w.heap.size noK (· < w.heap.size) [alF (.slice ad l.length cap) l, alF (.slice ads s.length caps) s] []) (F := GF noK (· < w.heap.size) []) Try.func10 (GS.start w fun f hf => by
    rcases List.mem_cons.1 hf with rfl | hf
    · exact hv
    · rw [List.mem_singleton.1 hf]; exact hs) fun a I => ?_
  cases hP : isP l k with
  | false =>
    rw [hP] at hpl
    have e0 : rfE l k s = 3 := by unfold rfE; rw [if_pos hP]
    have e1 : rcE l k s = 3 := by unfold rcE; rw [e0]; rfl
    have e2 : rcL l k s = l := by unfold rcL; rw [e1]; rfl
    rw [e1, e2]
    refine goQ [kC Try.func26 (hpl ad cap), ntO false] (GS.rsr _ _ _ _ _ _ _) I fun β1 a1 w1 I hb1 => ?_
    exact outQ (v := .tuple #[.slice ad l.length cap, Z 3]) I ⟨_, rfl, .inl ⟨rfl, rfl, I.hJ.bw⟩⟩
  | true =>
    rw [hP] at hpl
    obtain ⟨i, rfl, hil⟩ := isP_nat hP
    obtain ⟨x, hx⟩ : ∃ t, l[i]? = some t := ⟨_, List.getElem?_eq_getElem hil⟩
    obtain ⟨ad', cap', he, hm⟩ := id hv
    cases he
    obtain ⟨ga, off, cs, rfl, hlt, hca, rfl, hxW⟩ := hm i x hx
    have hld : ∀ w', GS w w w.heap.size noK (· < w.heap.size) [alF (.slice (some ⟨ga, off, none⟩) l.length cap) l, alF (.slice ads s.length caps) s] [] w' → (loadVar 39 ⟨ga, off + i * 8, none⟩).run Try.prog w' = .ok (alV x) w' := fun w' h => loadAl (hca.keep (h.bw.block ga hlt))
    have hkd := fun h => rf_kind (s := s) hx h
    have hsd := fun (y0 y1 : Al) hk hn h => rf_side (y0 := y0) (y1 := y1) hx hk hn h
    have hsu := fun (y0 y1 : Al) hk hn h => rf_sum (y0 := y0) (y1 := y1) hx hk hn h
    obtain ⟨dx, nx, kx, le, ri⟩ := x
    simp only [] at hkd hsd hsu hxW
    by_cases hk : kx = 1
    · by_cases h2 : s.length = 2
      · obtain ⟨y0, y1, rfl⟩ := two_of h2
        obtain ⟨ads', caps', he2, hm2⟩ := id hs
        cases he2
        obtain ⟨gs, offs, cs2, rfl, hlt2, hcb, rfl, hyW⟩ := hm2 0 y0 rfl
        obtain ⟨gs3, offs3, cs3, he3, hlt3, hcc, rfl, hzW⟩ := hm2 1 y1 rfl
        cases he3
        have hk0 : ∀ w', GS w w w.heap.size noK (· < w.heap.size) [alF (.slice (some ⟨ga, off, none⟩) l.length cap) l, alF (.slice (some ⟨gs, offs, none⟩) [y0, y1].length caps) [y0, y1]] [] w' → (loadVar 3 ⟨gs, offs + 0 * 8 + 5, none⟩).run Try.prog w' = .ok (Z y0.2.2.1) w' := fun w' h => loadK (hcb.keep (h.bw.block gs hlt2))
        have hk1 : ∀ w', GS w w w.heap.size noK (· < w.heap.size) [alF (.slice (some ⟨ga, off, none⟩) l.length cap) l, alF (.slice (some ⟨gs, offs, none⟩) [y0, y1].length caps) [y0, y1]] [] w' → (loadVar 3 ⟨gs, offs + 1 * 8 + 5, none⟩).run Try.prog w' = .ok (Z y1.2.2.1) w' := fun w' h => loadK (hcc.keep (h.bw.block gs hlt2))
        have ha0 : ∀ w', Below w.heap.size w w' → (loadVar 25 ⟨gs, offs + 0 * 8 + 1, none⟩).run Try.prog w' = .ok (U y0.2.1) w' := fun w' h => loadU (hcb.keep (h.block gs hlt2))
        have ha1 : ∀ w', Below w.heap.size w w' → (loadVar 25 ⟨gs, offs + 1 * 8 + 1, none⟩).run Try.prog w' = .ok (U y1.2.1) w' := fun w' h => loadU (hcc.keep (h.block gs hlt2))
        by_cases q0 : y0.2.2.1 = 0
        · by_cases q1 : y1.2.2.1 = 0
          · have hnp : ([y0, y1] : List Al).any npP = false := by
              simp only [List.any_cons, List.any_nil, npP, q0, q1]; decide
            have hsd := hsd y0 y1 hk hnp
            have hsu := hsu y0 y1 hk hnp
            generalize y0.2.1 = a0 at *
            generalize y1.2.1 = a1 at *
            obtain ⟨qo, hqo⟩ : ∃ q, decide (W ≤ a0 + a1) = q := ⟨_, rfl⟩
            have hadd := addT radd_any hyW hzW hqo
            obtain ⟨s2, hs2⟩ : ∃ t, (a0 + a1) % W = t := ⟨_, rfl⟩
            rw [hs2] at hadd
            have hs2W : s2 < W := by rw [← hs2]; exact Nat.mod_lt _ W_pos
            refine goT (T := GS w w w.heap.size noK (· < w.heap.size) [alF (.slice (some ⟨ga, off, none⟩) l.length cap) l, alF (.slice (some ⟨gs, offs, none⟩) [y0, y1].length caps) [y0, y1]] []) [kC Try.func26 (hpl (some ⟨ga, off, none⟩) cap), ntO true, ixA ga off l.length cap i hil, ldA 39 hld, bO .neq 3 (run_neqZ (x := kx) (y := 1) (b := false) (decide_eq_false (not_not_intro hk))), lnA (some ⟨gs, offs, none⟩) 2 caps, bO .neq 3 (run_neqZ (x := (2 : Nat)) (y := 2) (b := false) (decide_eq_false (not_not_intro rfl))), ixA gs offs 2 caps 0 (by decide), ldA 3 hk0, bO .neq 3 (run_neqZ (x := y0.2.2.1) (y := 0) (b := false) (decide_eq_false (not_not_intro q0))), ixA gs offs 2 caps 1 (by decide), ldA 3 hk1, bO .neq 3 (run_neqZ (x := y1.2.2.1) (y := 0) (b := false) (decide_eq_false (not_not_intro q1)))] (GS.rsr _ _ _ _ _ _ _) (fun _ h => h) I fun β3 a3 w3 I hb3 => ?_
            refine dwA (T := GS w w w.heap.size noK (· < w.heap.size) [alF (.slice (some ⟨ga, off, none⟩) l.length cap) l, alF (.slice (some ⟨gs, offs, none⟩) [y0, y1].length caps) [y0, y1]] []) 12 13 9 59 s2 [ixA gs offs 2 caps 0 (by decide), ldA 25 (fun w' h => ha0 w' h.bw), ixA gs offs 2 caps 1 (by decide), ldA 25 (fun w' h => ha1 w' h.bw), kC Try.func16 hadd] (GS.rsr _ _ _ _ _ _ _) (fun _ h => h) I fun bb vs β4 a4 w4 hb4 I => ?_
            cases qo with
            | true =>
              obtain ⟨e1, e2⟩ := hsu (.inl (of_decide_eq_true hqo))
              rw [e1, e2]
              refine goQ [] (GS.rsr _ _ _ _ _ _ _) I fun β5 a5 w5 I hb5 => ?_
              exact outQ (v := .tuple #[.slice (some ⟨ga, off, none⟩) l.length cap, Z 16]) I ⟨_, rfl, .inl ⟨rfl, rfl, I.hJ.bw⟩⟩
            | false =>
              have hlt01 : a0 + a1 < W := by have := of_decide_eq_false hqo; omega
              rw [Nat.mod_eq_of_lt hlt01] at hs2
              subst hs2
              by_cases hne : a0 + a1 = nx
              · obtain ⟨e1, e2⟩ := hsd (fun h => h.elim (fun h => by omega) fun h => h hne)
                rw [e1, e2]
                have hz0 := fun (w' : World) (h : GS w w w.heap.size noK (· < w.heap.size) [alF (.slice (some ⟨ga, off, none⟩) l.length cap) l, alF (.slice (some ⟨gs, offs, none⟩) [y0, y1].length caps) [y0, y1]] [] w') => rplain_any (h.al (i := 0) rfl) (by omega) le
                have hz1 := fun (w' : World) (h : GS w w w.heap.size noK (· < w.heap.size) [alF (.slice (some ⟨ga, off, none⟩) l.length cap) l, alF (.slice (some ⟨gs, offs, none⟩) [y0, y1].length caps) [y0, y1]] [] w') => rplain_any (h.al (i := 0) rfl) (by omega) ri
                obtain ⟨z0, hzz0⟩ : ∃ z, ixZ (plP le) l = z := ⟨_, rfl⟩
                obtain ⟨z1, hzz1⟩ : ∃ z, ixZ (plP ri) l = z := ⟨_, rfl⟩
                rw [hzz0] at hz0
                rw [hzz1] at hz1
                by_cases hn0 : z0 < 0
                · have e9 : sdE l (pl l le) (pl l ri) a0 a1 = 9 := by unfold sdE; rw [if_pos (.inl (ixZ_pln (by rw [hzz0]; exact hn0)))]
                  rw [e9, if_pos (by decide)]
                  refine goT (T := GS w w w.heap.size noK (· < w.heap.size) [alF (.slice (some ⟨ga, off, none⟩) l.length cap) l, alF (.slice (some ⟨gs, offs, none⟩) [y0, y1].length caps) [y0, y1]] []) [bO .neq 25 (neqU_run hs2W hxW (b := false) (decide_eq_false (not_not_intro hne))), cA Try.func27 hz0, bO .lss 3 (run_lssZ (x := z0) (y := 0) (b := true) (decide_eq_true hn0))] (GS.rsr _ _ _ _ _ _ _) (fun _ h => h) I fun β5 a5 w5 I hb5 => ?_
                  exact outQ (v := .tuple #[.slice (some ⟨ga, off, none⟩) l.length cap, Z 9]) I ⟨_, rfl, .inl ⟨rfl, rfl, I.hJ.bw⟩⟩
                by_cases hn1 : z1 < 0
                · have e9 : sdE l (pl l le) (pl l ri) a0 a1 = 9 := by unfold sdE; rw [if_pos (.inr (ixZ_pln (by rw [hzz1]; exact hn1)))]
                  rw [e9, if_pos (by decide)]
                  refine goT (T := GS w w w.heap.size noK (· < w.heap.size) [alF (.slice (some ⟨ga, off, none⟩) l.length cap) l, alF (.slice (some ⟨gs, offs, none⟩) [y0, y1].length caps) [y0, y1]] []) [bO .neq 25 (neqU_run hs2W hxW (b := false) (decide_eq_false (not_not_intro hne))), cA Try.func27 hz0, bO .lss 3 (run_lssZ (x := z0) (y := 0) (b := false) (decide_eq_false hn0)), cA Try.func27 hz1, bO .lss 3 (run_lssZ (x := z1) (y := 0) (b := true) (decide_eq_true hn1))] (GS.rsr _ _ _ _ _ _ _) (fun _ h => h) I fun β5 a5 w5 I hb5 => ?_
                  exact outQ (v := .tuple #[.slice (some ⟨ga, off, none⟩) l.length cap, Z 9]) I ⟨_, rfl, .inl ⟨rfl, rfl, I.hJ.bw⟩⟩
                obtain ⟨_, hp⟩ := ixZ_pl (d := le) (l := l) (by rw [hzz0]; exact hn0)
                obtain ⟨_, hq⟩ := ixZ_pl (d := ri) (l := l) (by rw [hzz1]; exact hn1)
                refine goT (T := GS w w w.heap.size noK (· < w.heap.size) [alF (.slice (some ⟨ga, off, none⟩) l.length cap) l, alF (.slice (some ⟨gs, offs, none⟩) [y0, y1].length caps) [y0, y1]] []) [bO .neq 25 (neqU_run hs2W hxW (b := false) (decide_eq_false (not_not_intro hne))), cA Try.func27 hz0, bO .lss 3 (run_lssZ (x := z0) (y := 0) (b := false) (decide_eq_false hn0)), cA Try.func27 hz1, bO .lss 3 (run_lssZ (x := z1) (y := 0) (b := false) (decide_eq_false hn1)), sT 22 (sl_to (some ⟨ga, off, none⟩) l.length cap i (by omega))] (GS.rsr _ _ _ _ _ _ _) (fun _ h => h) I fun β5 a5 w5 I hb5 => ?_
                refine appL (ad := none) (cap := 0) (c2 := cap) (m := []) (l2 := l.take i) (n1 := 0) (n2 := i) (I.nil 39 8) rfl (by rw [List.length_take]; omega) (ali_take (I.hJ.al (i := 0) rfl) i (by omega)) (by omega) fun ad6 cap6 a6 w6 I => ?_
                rw [Nat.zero_add] at I ⊢
                rw [List.nil_append] at I
                have hlt : (l.take i).length = i := by rw [List.length_take]; omega
                refine goQ [bO .add 3 (run_addZ (x := i) (y := 1) (z := (i + 1 : Nat)) (by rw [wz (by omega) (by omega)]; omega)), sO 22 (sl_from (some ⟨ga, off, none⟩) l.length cap (i + 1) (by omega))] (GS.rsr _ _ _ _ _ _ _) I fun β7 a7 w7 I hb7 => ?_
                refine appL (c2 := cap - (i + 1)) (l2 := l.drop (i + 1)) (n1 := i) (n2 := l.length - (i + 1)) I hlt (by rw [List.length_drop]) (ali_drop (I.hJ.al (i := 0) rfl) hcp (i + 1)) (by omega) fun ad8 cap8 a8 w8 I => ?_
                have hlen8 : i + (l.length - (i + 1)) = l.length - 1 := by omega
                rw [hlen8] at I ⊢
                rw [← er_split] at I
                have hnpl : ∀ d, plP d (dx, nx, kx, le, ri) = false := fun d => by unfold plP; simp only []; rw [hk]; rfl
                have hpi : pl l le ≠ i := fun e => by
                  obtain ⟨y, h1, h2⟩ := ix_get (plP le) l hp
                  rw [show ixN (plP le) l = i from e, hx] at h1
                  cases h1
                  rw [hnpl le] at h2; cases h2
                have hqi : pl l ri ≠ i := fun e => by
                  obtain ⟨y, h1, h2⟩ := ix_get (plP ri) l hq
                  rw [show ixN (plP ri) l = i from e, hx] at h1
                  cases h1
                  rw [hnpl ri] at h2; cases h2
                have hn8 : (l.eraseIdx i).length = l.length - 1 := by rw [List.length_eraseIdx, if_pos hil]
                generalize l.length - 1 = n8 at *
                obtain ⟨go, hgo⟩ := I.hJ.blk' (by rw [List.length_eraseIdx, if_pos hil]; omega)
                subst hgo
                refine goQ [] (GS.rsr _ _ _ _ _ _ _) I fun β9 a9 w9 I hb9 => ?_
                refine lpM (bodyL Try.f10) (fun k a w' => ∃ (t : Nat) (β : Nat → Nat) (u : Nat → Value), k = 2 - t ∧ t ≤ 2 ∧ (1 ≤ t → am l (pl l le) + a0 < W) ∧ (2 ≤ t → sdE l (pl l le) (pl l ri) a0 a1 = 0) ∧ SI (GS w w w.heap.size noK (· < w.heap.size) [alF (.slice (some ⟨ga, off, none⟩) l.length cap) l, alF (.slice (some ⟨gs, offs, none⟩) [y0, y1].length caps) [y0, y1]] [alO (.slice (some ⟨go, 0, none⟩) n8 cap8) (rrO l i (pl l le) (pl l ri) a0 a1 t)]) (GF noK (· < w.heap.size) [alO (.slice (some ⟨go, 0, none⟩) n8 cap8) (rrO l i (pl l le) (pl l ri) a0 a1 t)]) [] β (cfC (bodyL Try.f10) (fillF (scrF 128 lpKr) u 0 (lpVr (.slice (some ⟨ga, off, none⟩) l.length cap) (.slice (some ⟨gs, offs, none⟩) [y0, y1].length caps) (.slice (some ⟨go, 0, none⟩) n8 cap8) t)) [(0, #[.string dx, B (l0 nx), B (l1 nx), B (l2 nx), B (l3 nx), Z kx, .string le, .string ri])] 1) a w') 2 ?_ ?_
                · obtain ⟨u, Iu⟩ := I.scr (bodyL Try.f10) (scrF 128 lpKr) (lpVr (.slice (some ⟨ga, off, none⟩) l.length cap) (.slice (some ⟨gs, offs, none⟩) [y0, y1].length caps) (.slice (some ⟨go, 0, none⟩) n8 cap8) 0) [(0, #[.string dx, B (l0 nx), B (l1 nx), B (l2 nx), B (l3 nx), Z kx, .string le, .string ri])] 1
                  exact ⟨0, β9, u, rfl, by decide, fun h => by omega, fun h => by omega, Iu⟩
                rintro k a11 w11 ⟨t, β11, u11, rfl, ht, hc1, hc2, I⟩
                refine wp_cfC (tm := fillF (scrF 128 lpKr) u11 0 (lpVr (.slice (some ⟨ga, off, none⟩) l.length cap) (.slice (some ⟨gs, offs, none⟩) [y0, y1].length caps) (.slice (some ⟨go, 0, none⟩) n8 cap8) t)) (rows := [(0, #[.string dx, B (l0 nx), B (l1 nx), B (l2 nx), B (l3 nx), Z kx, .string le, .string ri])]) (nx := 1) ?_
                rcases (by omega : t = 0 ∨ t = 1 ∨ t = 2) with rfl | rfl | rfl
                · have hmL : Lt l := hL
                  have hcur : (rrO l i (pl l le) (pl l ri) a0 a1 0) = (l).eraseIdx i := rfl
                  have hxm : (l)[i]? = some (dx, nx, kx, le, ri) := hx
                  have hpm : pl l le = (pl l le) := rfl
                  have hplt : (pl l le) < (l).length := hp
                  have hpe : pl (rrO l i (pl l le) (pl l ri) a0 a1 0) le = shK i (pl l le) := by
                    have := er_pl hxm (hnpl le) (by rw [hpm]; exact hplt)
                    rw [hpm] at this
                    exact this
                  have hne2 : (pl l le) ≠ i := hpi
                  have hel : (rrO l i (pl l le) (pl l ri) a0 a1 0).length = n8 := by rw [hcur, List.length_eraseIdx, if_pos (by exact hil), ← hn8, List.length_eraseIdx, if_pos hil]
                  obtain ⟨y, hy⟩ : ∃ y, (l)[(pl l le)]? = some y := ⟨_, List.getElem?_eq_getElem hplt⟩
                  have hye : (rrO l i (pl l le) (pl l ri) a0 a1 0)[shK i (pl l le)]? = some y := by rw [hcur, er_get hne2]; exact hy
                  have hpl2 : shK i (pl l le) < (rrO l i (pl l le) (pl l ri) a0 a1 0).length := (List.getElem?_eq_some_iff.1 hye).1
                  have hame : am (rrO l i (pl l le) (pl l ri) a0 a1 0) (shK i (pl l le)) = am l (pl l le) := by rw [hcur]; exact er_am hne2
                  have hste : ∀ n, stA (rrO l i (pl l le) (pl l ri) a0 a1 0) (shK i (pl l le)) n = (stA l (pl l le) n).eraseIdx i := fun n => by rw [hcur]; exact er_st n hne2
                  have hcL : Lt (rrO l i (pl l le) (pl l ri) a0 a1 0) := fun z hz => hmL z (List.mem_of_mem_eraseIdx hz)
                  have hpz := fun (w' : World) (h : GS w w w.heap.size noK (· < w.heap.size) [alF (.slice (some ⟨ga, off, none⟩) l.length cap) l, alF (.slice (some ⟨gs, offs, none⟩) [y0, y1].length caps) [y0, y1]] [alO (.slice (some ⟨go, 0, none⟩) n8 cap8) (rrO l i (pl l le) (pl l ri) a0 a1 0)] w') => rplain_any (h.ownA hcL) (by rw [hel, ← hn8, List.length_eraseIdx, if_pos hil]; omega) le
                  have hzi : ixZ (plP le) (rrO l i (pl l le) (pl l ri) a0 a1 0) = (shK i (pl l le) : Nat) := by
                    have := ixZ_pl (d := le) (l := (rrO l i (pl l le) (pl l ri) a0 a1 0))
                    unfold ixZ
                    rw [show ixN (plP le) (rrO l i (pl l le) (pl l ri) a0 a1 0) = shK i (pl l le) from hpe, if_pos hpl2]
                  rw [hzi] at hpz
                  have hlo : ∀ w', GS w w w.heap.size noK (· < w.heap.size) [alF (.slice (some ⟨ga, off, none⟩) l.length cap) l, alF (.slice (some ⟨gs, offs, none⟩) [y0, y1].length caps) [y0, y1]] [alO (.slice (some ⟨go, 0, none⟩) n8 cap8) (rrO l i (pl l le) (pl l ri) a0 a1 0)] w' → (loadVar 25 ⟨go, 0 + shK i (pl l le) * 8 + 1, none⟩).run Try.prog w' = .ok (U (am l (pl l le))) w' := fun w' h => by rw [am_is hy]; exact loadU (h.oAt hcL hye)
                  have hWa := am_lt hmL (pl l le)
                  rw [hel] at hpl2
                  obtain ⟨qz, hqz⟩ : ∃ t, decide (W ≤ am l (pl l le) + a0) = t := ⟨_, rfl⟩
                  have hadd2 := addT radd_any hWa hyW hqz
                  obtain ⟨s5, hs5⟩ : ∃ t, (am l (pl l le) + a0) % W = t := ⟨_, rfl⟩
                  rw [hs5] at hadd2
                  obtain ⟨pp, hpp⟩ : ∃ t, shK i (pl l le) = t := ⟨_, rfl⟩
                  rw [hpp] at hpz hlo hpl2 hste
                  generalize hma : am l (pl l le) = ma at *
                  refine goT (T := GS w w w.heap.size noK (· < w.heap.size) [alF (.slice (some ⟨ga, off, none⟩) l.length cap) l, alF (.slice (some ⟨gs, offs, none⟩) [y0, y1].length caps) [y0, y1]] [alO (.slice (some ⟨go, 0, none⟩) n8 cap8) (rrO l i (pl l le) (pl l ri) a0 a1 0)]) [bO .lss 3 (run_lssZ (x := (0 : Nat)) (y := 2) (b := true) (decide_eq_true (by decide))), bO .eql 3 (run_eqlZ (x := (0 : Nat)) (y := 1) (b := false) rfl), cA Try.func27 hpz] (GS.rsr _ _ _ _ _ _ _) (fun _ h => h) I fun β13 a13 w13 I hb13 => ?_
                  refine dwA (T := GS w w w.heap.size noK (· < w.heap.size) [alF (.slice (some ⟨ga, off, none⟩) l.length cap) l, alF (.slice (some ⟨gs, offs, none⟩) [y0, y1].length caps) [y0, y1]] [alO (.slice (some ⟨go, 0, none⟩) n8 cap8) (rrO l i (pl l le) (pl l ri) a0 a1 0)]) 14 15 15 118 s5 [ixA go 0 n8 cap8 pp hpl2, ldA 25 hlo, ixA gs offs 2 caps 0 (by decide), ldA 25 (fun w' h => ha0 w' h.bw), kC Try.func16 hadd2] (GS.rsr _ _ _ _ _ _ _) (fun _ h => h) I fun b14 vs14 β14 a14 w14 hb14 I => ?_
                  cases qz with
                  | true =>
                    have e7 : sdE l (pl l le) (pl l ri) a0 a1 = 7 := by
                      unfold sdE
                      rw [if_neg (by omega)]
                      rw [if_pos (by rw [hma]; exact of_decide_eq_true hqz)]
                    rw [e7, if_pos (by decide)]
                    refine goQ [] (GS.rsr _ _ _ _ _ _ _) I fun β15 a15 w15 I hb15 => ?_
                    exact endR (retV (v := .tuple #[.slice (some ⟨ga, off, none⟩) l.length cap, Z 7]) I ⟨_, rfl, .inl ⟨rfl, rfl, I.hJ.bw⟩⟩)
                  | false =>
                    have hno : ma + a0 < W := by have := of_decide_eq_false hqz; omega
                    rw [Nat.mod_eq_of_lt hno] at hs5
                    subst hs5
                    refine goQ [ixA go 0 n8 cap8 pp hpl2] (GS.rsr _ _ _ _ _ _ _) I fun β15 a15 w15 I hb15 => ?_
                    refine stO' (i := pp) (n := ma + a0) hel (by rw [hel]; exact hpl2) I fun w16 I => ?_
                    rw [hste] at I
                    refine goQ [bO .add 3 (run_addZ (x := (0 : Nat)) (y := 1) (z := (1 : Nat)) (by decide))] (GS.rsr _ _ _ _ _ _ _) I fun β17 a17 w17 I hb17 => ?_
                    obtain ⟨u', Iu⟩ := I.scr (bodyL Try.f10) (scrF 128 lpKr) (lpVr (.slice (some ⟨ga, off, none⟩) l.length cap) (.slice (some ⟨gs, offs, none⟩) [y0, y1].length caps) (.slice (some ⟨go, 0, none⟩) n8 cap8) 1) [(0, #[.string dx, B (l0 nx), B (l1 nx), B (l2 nx), B (l3 nx), Z kx, .string le, .string ri])] 1
                    refine endL ⟨2 - 1, by decide, 1, β17, u', rfl, by decide, fun _ => hno, fun h => ?_, ?_⟩
                    · omega
                    · rw [← hma] at Iu
                      exact Iu
                · have hmL : Lt (stA l (pl l le) (am l (pl l le) + a0)) := stA_lt hL _ (hc1 (by decide))
                  have hcur : (rrO l i (pl l le) (pl l ri) a0 a1 1) = ((stA l (pl l le) (am l (pl l le) + a0))).eraseIdx i := rfl
                  have hxm : ((stA l (pl l le) (am l (pl l le) + a0)))[i]? = some (dx, nx, kx, le, ri) := by rw [stA_other _ _ hpi]; exact hx
                  have hpm : pl (stA l (pl l le) (am l (pl l le) + a0)) ri = (pl l ri) := stA_pl _ _ _ _
                  have hplt : (pl l ri) < ((stA l (pl l le) (am l (pl l le) + a0))).length := by rw [stA_len]; exact hq
                  have hpe : pl (rrO l i (pl l le) (pl l ri) a0 a1 1) ri = shK i (pl l ri) := by
                    have := er_pl hxm (hnpl ri) (by rw [hpm]; exact hplt)
                    rw [hpm] at this
                    exact this
                  have hne2 : (pl l ri) ≠ i := hqi
                  have hel : (rrO l i (pl l le) (pl l ri) a0 a1 1).length = n8 := by rw [hcur, List.length_eraseIdx, if_pos (by rw [stA_len]; exact hil), stA_len, ← hn8, List.length_eraseIdx, if_pos hil]
                  obtain ⟨y, hy⟩ : ∃ y, ((stA l (pl l le) (am l (pl l le) + a0)))[(pl l ri)]? = some y := ⟨_, List.getElem?_eq_getElem hplt⟩
                  have hye : (rrO l i (pl l le) (pl l ri) a0 a1 1)[shK i (pl l ri)]? = some y := by rw [hcur, er_get hne2]; exact hy
                  have hpl2 : shK i (pl l ri) < (rrO l i (pl l le) (pl l ri) a0 a1 1).length := (List.getElem?_eq_some_iff.1 hye).1
                  have hame : am (rrO l i (pl l le) (pl l ri) a0 a1 1) (shK i (pl l ri)) = am (stA l (pl l le) (am l (pl l le) + a0)) (pl l ri) := by rw [hcur]; exact er_am hne2
                  have hste : ∀ n, stA (rrO l i (pl l le) (pl l ri) a0 a1 1) (shK i (pl l ri)) n = (stA (stA l (pl l le) (am l (pl l le) + a0)) (pl l ri) n).eraseIdx i := fun n => by rw [hcur]; exact er_st n hne2
                  have hcL : Lt (rrO l i (pl l le) (pl l ri) a0 a1 1) := fun z hz => hmL z (List.mem_of_mem_eraseIdx hz)
                  have hpz := fun (w' : World) (h : GS w w w.heap.size noK (· < w.heap.size) [alF (.slice (some ⟨ga, off, none⟩) l.length cap) l, alF (.slice (some ⟨gs, offs, none⟩) [y0, y1].length caps) [y0, y1]] [alO (.slice (some ⟨go, 0, none⟩) n8 cap8) (rrO l i (pl l le) (pl l ri) a0 a1 1)] w') => rplain_any (h.ownA hcL) (by rw [hel, ← hn8, List.length_eraseIdx, if_pos hil]; omega) ri
                  have hzi : ixZ (plP ri) (rrO l i (pl l le) (pl l ri) a0 a1 1) = (shK i (pl l ri) : Nat) := by
                    have := ixZ_pl (d := ri) (l := (rrO l i (pl l le) (pl l ri) a0 a1 1))
                    unfold ixZ
                    rw [show ixN (plP ri) (rrO l i (pl l le) (pl l ri) a0 a1 1) = shK i (pl l ri) from hpe, if_pos hpl2]
                  rw [hzi] at hpz
                  have hlo : ∀ w', GS w w w.heap.size noK (· < w.heap.size) [alF (.slice (some ⟨ga, off, none⟩) l.length cap) l, alF (.slice (some ⟨gs, offs, none⟩) [y0, y1].length caps) [y0, y1]] [alO (.slice (some ⟨go, 0, none⟩) n8 cap8) (rrO l i (pl l le) (pl l ri) a0 a1 1)] w' → (loadVar 25 ⟨go, 0 + shK i (pl l ri) * 8 + 1, none⟩).run Try.prog w' = .ok (U (am (stA l (pl l le) (am l (pl l le) + a0)) (pl l ri))) w' := fun w' h => by rw [am_is hy]; exact loadU (h.oAt hcL hye)
                  have hWa := am_lt hmL (pl l ri)
                  rw [hel] at hpl2
                  obtain ⟨qz, hqz⟩ : ∃ t, decide (W ≤ am (stA l (pl l le) (am l (pl l le) + a0)) (pl l ri) + a1) = t := ⟨_, rfl⟩
                  have hadd2 := addT radd_any hWa hzW hqz
                  obtain ⟨s5, hs5⟩ : ∃ t, (am (stA l (pl l le) (am l (pl l le) + a0)) (pl l ri) + a1) % W = t := ⟨_, rfl⟩
                  rw [hs5] at hadd2
                  obtain ⟨pp, hpp⟩ : ∃ t, shK i (pl l ri) = t := ⟨_, rfl⟩
                  rw [hpp] at hpz hlo hpl2 hste
                  generalize hma : am (stA l (pl l le) (am l (pl l le) + a0)) (pl l ri) = ma at *
                  refine goT (T := GS w w w.heap.size noK (· < w.heap.size) [alF (.slice (some ⟨ga, off, none⟩) l.length cap) l, alF (.slice (some ⟨gs, offs, none⟩) [y0, y1].length caps) [y0, y1]] [alO (.slice (some ⟨go, 0, none⟩) n8 cap8) (rrO l i (pl l le) (pl l ri) a0 a1 1)]) [bO .lss 3 (run_lssZ (x := (1 : Nat)) (y := 2) (b := true) (decide_eq_true (by decide))), bO .eql 3 (run_eqlZ (x := (1 : Nat)) (y := 1) (b := true) rfl), cA Try.func27 hpz] (GS.rsr _ _ _ _ _ _ _) (fun _ h => h) I fun β13 a13 w13 I hb13 => ?_
                  refine dwA (T := GS w w w.heap.size noK (· < w.heap.size) [alF (.slice (some ⟨ga, off, none⟩) l.length cap) l, alF (.slice (some ⟨gs, offs, none⟩) [y0, y1].length caps) [y0, y1]] [alO (.slice (some ⟨go, 0, none⟩) n8 cap8) (rrO l i (pl l le) (pl l ri) a0 a1 1)]) 14 15 15 118 s5 [ixA go 0 n8 cap8 pp hpl2, ldA 25 hlo, ixA gs offs 2 caps 1 (by decide), ldA 25 (fun w' h => ha1 w' h.bw), kC Try.func16 hadd2] (GS.rsr _ _ _ _ _ _ _) (fun _ h => h) I fun b14 vs14 β14 a14 w14 hb14 I => ?_
                  cases qz with
                  | true =>
                    have e7 : sdE l (pl l le) (pl l ri) a0 a1 = 7 := by
                      unfold sdE
                      rw [if_neg (by omega)]
                      rw [if_neg (by have := hc1 (by decide); omega), if_pos (by rw [hma]; exact of_decide_eq_true hqz)]
                    rw [e7, if_pos (by decide)]
                    refine goQ [] (GS.rsr _ _ _ _ _ _ _) I fun β15 a15 w15 I hb15 => ?_
                    exact endR (retV (v := .tuple #[.slice (some ⟨ga, off, none⟩) l.length cap, Z 7]) I ⟨_, rfl, .inl ⟨rfl, rfl, I.hJ.bw⟩⟩)
                  | false =>
                    have hno : ma + a1 < W := by have := of_decide_eq_false hqz; omega
                    rw [Nat.mod_eq_of_lt hno] at hs5
                    subst hs5
                    refine goQ [ixA go 0 n8 cap8 pp hpl2] (GS.rsr _ _ _ _ _ _ _) I fun β15 a15 w15 I hb15 => ?_
                    refine stO' (i := pp) (n := ma + a1) hel (by rw [hel]; exact hpl2) I fun w16 I => ?_
                    rw [hste] at I
                    refine goQ [bO .add 3 (run_addZ (x := (1 : Nat)) (y := 1) (z := (2 : Nat)) (by decide))] (GS.rsr _ _ _ _ _ _ _) I fun β17 a17 w17 I hb17 => ?_
                    obtain ⟨u', Iu⟩ := I.scr (bodyL Try.f10) (scrF 128 lpKr) (lpVr (.slice (some ⟨ga, off, none⟩) l.length cap) (.slice (some ⟨gs, offs, none⟩) [y0, y1].length caps) (.slice (some ⟨go, 0, none⟩) n8 cap8) 2) [(0, #[.string dx, B (l0 nx), B (l1 nx), B (l2 nx), B (l3 nx), Z kx, .string le, .string ri])] 1
                    refine endL ⟨2 - 2, by decide, 2, β17, u', rfl, by decide, fun _ => hc1 (by decide), fun h => ?_, ?_⟩
                    · unfold sdE; rw [if_neg (by omega), if_neg (by have := hc1 (by decide); omega), if_neg (by rw [hma]; omega)]
                    · rw [← hma] at Iu
                      exact Iu
                · have h0 := hc2 (by decide)
                  rw [h0, if_neg (fun h => h rfl)]
                  refine goQ [bO .lss 3 (run_lssZ (x := (2 : Nat)) (y := 2) (b := false) (decide_eq_false (by decide)))] (GS.rsr _ _ _ _ _ _ _) I fun β13 a13 w13 I hb13 => ?_
                  refine endE 0 ?_
                  refine goQ [] (GS.rsr _ _ _ _ _ _ _) (I.exit _) fun β14 a14 w14 I hb14 => ?_
                  have hsd0 := h0
                  unfold sdE at hsd0
                  rw [if_neg (by omega), if_neg (by have := hc1 (by decide); omega)] at hsd0
                  have h3 : ¬ W ≤ am (stA l (pl l le) (am l (pl l le) + a0)) (pl l ri) + a1 := fun h => by rw [if_pos h] at hsd0; cases hsd0
                  refine outQ (v := .tuple #[.slice (some ⟨go, 0, none⟩) n8 cap8, Z 0]) I ⟨_, rfl, .inr (I.hJ.newA fun z hz => ?_)⟩
                  exact stA_lt (stA_lt hL _ (hc1 (by decide))) _ (by omega) z (List.mem_of_mem_eraseIdx hz)
              · obtain ⟨e1, e2⟩ := hsu (.inr hne)
                rw [e1, e2]
                refine goQ [bO .neq 25 (neqU_run hs2W hxW (b := true) (decide_eq_true hne))] (GS.rsr _ _ _ _ _ _ _) I fun β5 a5 w5 I hb5 => ?_
                exact outQ (v := .tuple #[.slice (some ⟨ga, off, none⟩) l.length cap, Z 16]) I ⟨_, rfl, .inl ⟨rfl, rfl, I.hJ.bw⟩⟩
          · obtain ⟨e1, e2⟩ := hkd (.inr (.inr (by simp [npP, q1])))
            rw [e1, e2]
            refine goT (T := GS w w w.heap.size noK (· < w.heap.size) [alF (.slice (some ⟨ga, off, none⟩) l.length cap) l, alF (.slice (some ⟨gs, offs, none⟩) [y0, y1].length caps) [y0, y1]] []) [kC Try.func26 (hpl (some ⟨ga, off, none⟩) cap), ntO true, ixA ga off l.length cap i hil, ldA 39 hld, bO .neq 3 (run_neqZ (x := kx) (y := 1) (b := false) (decide_eq_false (not_not_intro hk))), lnA (some ⟨gs, offs, none⟩) 2 caps, bO .neq 3 (run_neqZ (x := (2 : Nat)) (y := 2) (b := false) (decide_eq_false (not_not_intro rfl))), ixA gs offs 2 caps 0 (by decide), ldA 3 hk0, bO .neq 3 (run_neqZ (x := y0.2.2.1) (y := 0) (b := false) (decide_eq_false (not_not_intro q0))), ixA gs offs 2 caps 1 (by decide), ldA 3 hk1, bO .neq 3 (run_neqZ (x := y1.2.2.1) (y := 0) (b := true) (decide_eq_true q1))] (GS.rsr _ _ _ _ _ _ _) (fun _ h => h) I fun β3 a3 w3 I hb3 => ?_
            exact outQ (v := .tuple #[.slice (some ⟨ga, off, none⟩) l.length cap, Z 2]) I ⟨_, rfl, .inl ⟨rfl, rfl, I.hJ.bw⟩⟩
        · obtain ⟨e1, e2⟩ := hkd (.inr (.inr (by simp [npP, q0])))
          rw [e1, e2]
          refine goT (T := GS w w w.heap.size noK (· < w.heap.size) [alF (.slice (some ⟨ga, off, none⟩) l.length cap) l, alF (.slice (some ⟨gs, offs, none⟩) [y0, y1].length caps) [y0, y1]] []) [kC Try.func26 (hpl (some ⟨ga, off, none⟩) cap), ntO true, ixA ga off l.length cap i hil, ldA 39 hld, bO .neq 3 (run_neqZ (x := kx) (y := 1) (b := false) (decide_eq_false (not_not_intro hk))), lnA (some ⟨gs, offs, none⟩) 2 caps, bO .neq 3 (run_neqZ (x := (2 : Nat)) (y := 2) (b := false) (decide_eq_false (not_not_intro rfl))), ixA gs offs 2 caps 0 (by decide), ldA 3 hk0, bO .neq 3 (run_neqZ (x := y0.2.2.1) (y := 0) (b := true) (decide_eq_true q0))] (GS.rsr _ _ _ _ _ _ _) (fun _ h => h) I fun β3 a3 w3 I hb3 => ?_
          exact outQ (v := .tuple #[.slice (some ⟨ga, off, none⟩) l.length cap, Z 2]) I ⟨_, rfl, .inl ⟨rfl, rfl, I.hJ.bw⟩⟩
      · obtain ⟨e1, e2⟩ := hkd (.inr (.inl h2))
        rw [e1, e2]
        refine goT (T := GS w w w.heap.size noK (· < w.heap.size) [alF (.slice (some ⟨ga, off, none⟩) l.length cap) l, alF (.slice ads s.length caps) s] []) [kC Try.func26 (hpl (some ⟨ga, off, none⟩) cap), ntO true, ixA ga off l.length cap i hil, ldA 39 hld, bO .neq 3 (run_neqZ (x := kx) (y := 1) (b := false) (decide_eq_false (not_not_intro hk))), lnA ads s.length caps, bO .neq 3 (run_neqZ (x := s.length) (y := 2) (b := true) (decide_eq_true (by omega)))] (GS.rsr _ _ _ _ _ _ _) (fun _ h => h) I fun β3 a3 w3 I hb3 => ?_
        exact outQ (v := .tuple #[.slice (some ⟨ga, off, none⟩) l.length cap, Z 2]) I ⟨_, rfl, .inl ⟨rfl, rfl, I.hJ.bw⟩⟩
    · obtain ⟨e1, e2⟩ := hkd (.inl hk)
      rw [e1, e2]
      refine goT (T := GS w w w.heap.size noK (· < w.heap.size) [alF (.slice (some ⟨ga, off, none⟩) l.length cap) l, alF (.slice ads s.length caps) s] []) [kC Try.func26 (hpl (some ⟨ga, off, none⟩) cap), ntO true, ixA ga off l.length cap i hil, ldA 39 hld, bO .neq 3 (run_neqZ (x := kx) (y := 1) (b := true) (decide_eq_true hk))] (GS.rsr _ _ _ _ _ _ _) (fun _ h => h) I fun β3 a3 w3 I hb3 => ?_
      exact outQ (v := .tuple #[.slice (some ⟨ga, off, none⟩) l.length cap, Z 2]) I ⟨_, rfl, .inl ⟨rfl, rfl, I.hJ.bw⟩⟩
end Go.Proofs.Ytdiblfgnnliifaa
