/- Out of Mi. -/
import Derived.Test.YtdeompgdhaomgaaGreatDoorKrMd
import Derived.Test.YtdeompgdhaomgaaGreatDoorKrMg
namespace Go.Proofs.YtdeompgdhaomgaaGreatDoor
open Go.RowKit Go.Sort
set_option linter.unusedVariables false
set_option maxRecDepth 100000
def wgk : (n : Nat) → TL n → Nat
  | 0, _ => 0
  | n + 1, l => (List.map (fun t : TT n => if t.1 = 0 then 32 else 127 + t.2.2.1.size + wgk n t.2.2.2) l).sum
theorem foldE_k {α : Type} {E : α → List UInt8} {cnt : α → Nat} {H : Nat} {tt : α → Nat} : ∀ (l : List (Int × Nat × ByteArray × α)) (acc : List UInt8 × List UInt8), (∀ t ∈ l, (E t.2.2.2).length ≤ tt t.2.2.2) → (l.foldl (stepE E cnt H) acc).2.length + 32 * l.length ≤ acc.2.length + (l.map fun t => if t.1 = 0 then 32 else 127 + t.2.2.1.size + tt t.2.2.2).sum
  | [], acc, h => by simp
  | t :: l, acc, h => by
    have ih := foldE_k (cnt := cnt) (H := H) l (stepE E cnt H acc t) fun u hu => h u (List.mem_cons_of_mem _ hu)
    have h2 := h t List.mem_cons_self
    have hs : (stepE E cnt H acc t).2.length + 32 ≤ acc.2.length + (if t.1 = 0 then 32 else 127 + t.2.2.1.size + tt t.2.2.2) := by
      unfold stepE
      split
      · next h0 => simp only []; omega
      · split
        · have := txt_len t.2.2.1
          unfold pad at this
          simp only [List.length_append]; omega
        · split
          · have h3 := wb_len (cnt t.2.2.2)
            simp only [List.length_append, h3]; omega
          · simp only []; omega
    simp only [List.foldl_cons, List.length_cons, List.map_cons, List.sum_cons]
    omega
theorem enc_wgk : ∀ (n : Nat) (l : TL n), (enc n l).length ≤ wgk n l
  | 0, _ => Nat.zero_le _
  | n + 1, l => by
    have h1 := foldE_k (E := enc n) (cnt := cntL n) (H := 32 * List.length (α := TT n) l) (tt := wgk n) l ([], []) fun t ht => enc_wgk n t.2.2.2
    have h2 := hd_len (E := enc n) (cnt := cntL n) (l := l) (i := List.length (α := TT n) l) (Nat.le_refl _)
    have e : List.take (List.length (α := TT n) l) l = l := List.take_length
    rw [e] at h2
    simp only [enc, List.length_append, wgk]
    have h3 : (foldE (enc n) (cntL n) (32 * List.length (α := TT n) l) l).2.length + 32 * List.length (α := TT n) l ≤ 0 + (List.map (fun t : TT n => if t.1 = 0 then 32 else 127 + t.2.2.1.size + wgk n t.2.2.2) l).sum := h1
    omega
theorem alTs_k (n : Nat) (a : Al) : wgk (n + 1) (alTs n a) = 160 := rfl
theorem wgk_nil : ∀ n, wgk n (nilT n) = 0
  | 0 => rfl
  | n + 1 => rfl
theorem exTs_k (n : Nat) {x : Ex} (hl : x.2.length ≤ 8) : wgk (n + 3) (exTs n x) ≤ 2455 := by
  have key : wgk (n + 2) (x.2.map fun a => lstT (n + 1) (alTs n a)) ≤ 2296 := by
    have hsum : ((x.2.map fun a => lstT (n + 1) (alTs n a)).map fun t : TT (n + 1) => if t.1 = 0 then 32 else 127 + t.2.2.1.size + wgk (n + 1) t.2.2.2).sum ≤ (x.2.map fun a => lstT (n + 1) (alTs n a)).length * 287 := sum_le_mul fun t ht => by
      obtain ⟨a, ha, rfl⟩ := List.mem_map.1 ht
      show (if (2 : Int) = 0 then 32 else 127 + eB.size + wgk (n + 1) (alTs n a)) ≤ 287
      rw [alTs_k, eB_zero]
      decide
    rw [List.length_map] at hsum
    exact Nat.le_trans hsum (by omega)
  show (if (0 : Int) = 0 then 32 else 127 + eB.size + wgk (n + 2) (nilT (n + 2))) + ((if (2 : Int) = 0 then 32 else 127 + eB.size + wgk (n + 2) (x.2.map fun a => lstT (n + 1) (alTs n a))) + 0) ≤ 2455
  rw [if_pos rfl, if_neg (by decide), eB_zero]
  omega
theorem wrV_s (v : Va) : (wrV v).length ≤ 9000 := by
  unfold wrV
  split
  · next hf =>
    obtain ⟨h1, h2, h3⟩ := fitV_put hf
    obtain ⟨q1, _, q3⟩ := fitXs_put h3
    have key : wgk 8 (v.2.2.2.map fun x => lstT 7 (exTs 4 x)) ≤ 7746 := by
      have hsum : ((v.2.2.2.map fun x => lstT 7 (exTs 4 x)).map fun t : TT 7 => if t.1 = 0 then 32 else 127 + t.2.2.1.size + wgk 7 t.2.2.2).sum ≤ (v.2.2.2.map fun x => lstT 7 (exTs 4 x)).length * 2582 := sum_le_mul fun t ht => by
        obtain ⟨x, hx, rfl⟩ := List.mem_map.1 ht
        show (if (2 : Int) = 0 then 32 else 127 + eB.size + wgk 7 (exTs 4 x)) ≤ 2582
        have : wgk 7 (exTs 4 x) ≤ 2455 := exTs_k 4 (fitE_put (q3 x hx)).2.1
        rw [if_neg (by decide), eB_zero]; omega
      rw [List.length_map] at hsum
      exact Nat.le_trans hsum (by omega)
    refine Nat.le_trans (enc_wgk 9 (vaT 4 v)) ?_
    show (if (0 : Int) = 0 then 32 else 127 + eB.size + wgk 8 (nilT 8)) + ((if (0 : Int) = 0 then 32 else 127 + eB.size + wgk 8 (nilT 8)) + ((if (1 : Int) = 0 then 32 else 127 + v.2.2.1.size + wgk 8 (nilT 8)) + ((if (2 : Int) = 0 then 32 else 127 + eB.size + wgk 8 (v.2.2.2.map fun x => lstT 7 (exTs 4 x))) + 0))) ≤ 9000
    rw [if_pos rfl, if_neg (by decide), if_neg (by decide), wgk_nil, eB_zero]
    omega
  · simp
theorem ml_fitS {f : Fi} {v : Va} {l : List Se} (hl : l.length ≤ 4) : fitR (fitS 8) (shM 7) (mlT f v l) := by
  have h1 := wrF_w f
  have h2 := wrV_s v
  refine ⟨txt_fitS (by rw [str_size]; omega), txt_fitS (by rw [str_size]; omega), many_fitS ?_ fun t ht => ?_, trivial⟩
  · show (l.map (seT 7)).length ≤ 64
    rw [List.length_map]; omega
  · have ht' : t ∈ l.map (seT 7) := ht
    obtain ⟨s, hs, rfl⟩ := List.mem_map.1 ht'
    exact txt_fitS (by rw [str_size, wrS_len]; decide)
theorem rdM_back {f : Fi} {v : Va} {l : List Se} (hf : fitM f v l = true) (nf : f.2.1 < M) (nv : v.1 < M) (av : amtX v.2.2.2) (hs : ∀ s ∈ l, s.1 < W ∧ s.2.1 < W) : rdM (wrM f v l) = some (f, v, l) := by
  obtain ⟨q1, q2, q3, q4⟩ := fitM_len hf
  have hw : wrM f v l = enc 9 (mlT f v l) := by unfold wrM; rw [if_pos hf]
  have hlen := mlT_w (f := f) (v := v) q4
  have hd : decM fmM (wrM f v l) = some (mlT f v l) := dec_compl parts_fmM (by rw [hw]; exact Nat.lt_of_le_of_lt hlen (by decide)) (by rw [sh_fmM]; exact ml_fitS q4) hw.symm
  have hm : l.map (seT 7) = (l.map fun s => bA (wrS s)).map (txtT 7) := by rw [List.map_map]; rfl
  have hml : mlT f v l = [txtT 8 (bA (wrF f)), txtT 8 (bA (wrV v)), lstT 8 ((l.map fun s => bA (wrS s)).map (txtT 7))] := by rw [← hm]; rfl
  rw [hml] at hd
  rw [rdM_eq hd]
  have hse : seOf (l.map fun s => bA (wrS s)) = some l := by
    have hall : (l.map fun s => bA (wrS s)).all sOk = true := by
      rw [List.all_eq_true]
      intro b hb
      obtain ⟨s, hs2, rfl⟩ := List.mem_map.1 hb
      show (rdS (wrS s)).isSome = true
      rw [rdS_back (hs s hs2).1 (hs s hs2).2]; rfl
    unfold seOf
    rw [if_pos hall, List.map_map]
    congr 1
    have : l.map (sOf ∘ fun s => bA (wrS s)) = l.map id := List.map_congr_left fun s hs2 => by
      show (rdS (wrS s)).getD zSe = s
      rw [rdS_back (hs s hs2).1 (hs s hs2).2]; rfl
    rw [this, List.map_id]
  have hmo : mlOf (bA (wrF f)) (bA (wrV v)) (l.map fun s => bA (wrS s)) = some (f, v, l) := by
    unfold mlOf
    show (rdF (wrF f)).bind (fun f => (rdV (wrV v)).bind fun v => (seOf (l.map fun s => bA (wrS s))).map fun l => (f, v, l)) = some (f, v, l)
    rw [rdF_back q1 nf, Option.bind_some, rdV_back q2 nv av, Option.bind_some, hse]
    rfl
  rw [hmo, Option.bind_some]
  simp only []
  rw [if_pos hf]
theorem rdM_sound {S : List UInt8} (hS : S.length < W) {f : Fi} {v : Va} {l : List Se} (h : rdM S = some (f, v, l)) : fitM f v l = true ∧ wrM f v l = S ∧ f.2.1 < M ∧ v.1 < M ∧ okX v.2.2.2 ∧ l.length < 100000000 ∧ f.1.length < 1000000000 := by
  have h' := h
  unfold rdM at h
  simp only [Option.bind_eq_some_iff] at h
  obtain ⟨ts, hd, m, hm, hc⟩ := h
  obtain ⟨ps, hp, hfr, henc⟩ := dec_sound hS hd
  rw [parts_fmM] at hp
  cases hp
  rw [sh_fmM] at hfr
  obtain ⟨s0, s1, bs, rfl, h0, h1, hn, hbz⟩ := okMl_of (n := 7) hfr
  rw [rdM_eq hd] at h'
  simp only [Option.bind_eq_some_iff] at h'
  obtain ⟨m', hm', hc'⟩ := h'
  split at hc'
  · next hfit =>
    cases hc'
    simp only [] at hfit
    obtain ⟨k1, k2, k3, k4, k5⟩ := mlOf_ok h0 h1 hn hm'
    obtain ⟨q1, q2, q3⟩ := mlOf_some hm'
    refine ⟨hfit, ?_, k1, k2, k3, k4, k5⟩
    have w1 : wrF f = s0.data.toList := by
      unfold rdF at q1
      simp only [Option.bind_eq_some_iff] at q1
      obtain ⟨t, _, q1⟩ := q1
      split at q1
      · next e => cases q1; exact e
      · cases q1
    have w2 : wrV v = s1.data.toList := by
      unfold rdV at q2
      simp only [Option.bind_eq_some_iff] at q2
      obtain ⟨t, _, q2⟩ := q2
      split at q2
      · next e => cases q2; exact e
      · cases q2
    obtain ⟨hl, hall⟩ := seOf_some q3
    have w3 : l.map (seT 7) = bs.map (txtT 7) := by
      rw [hl, List.map_map]
      refine List.map_congr_left fun b hb => ?_
      have hb2 := List.all_eq_true.1 hall b hb
      cases hr : rdS b.data.toList with
      | none => rw [sOk, hr] at hb2; cases hb2
      | some s =>
        have e := (wrS_back hr).1
        show txtT 7 (bA (wrS ((rdS b.data.toList).getD zSe))) = txtT 7 b
        rw [hr]
        show txtT 7 (bA (wrS s)) = txtT 7 b
        rw [e]
    unfold wrM
    rw [if_pos hfit, ← henc]
    unfold mlT
    rw [w1, w2, w3]
  · cases hc'
theorem wrM_eq {f g : Fi} {v u : Va} {l m : List Se} (hf : fitM f v l = true) (hg : fitM g u m = true) (nf : f.2.1 < M) (nv : v.1 < M) (av : amtX v.2.2.2) (hs : ∀ s ∈ l, s.1 < W ∧ s.2.1 < W) (ng : g.2.1 < M) (nu : u.1 < M) (au : amtX u.2.2.2) (hm : ∀ s ∈ m, s.1 < W ∧ s.2.1 < W) : decide ((⟨(wrM f v l).toArray⟩ : ByteArray) = ⟨(wrM g u m).toArray⟩) = eqM f v l g u m := by
  cases h : eqM f v l g u m with
  | true =>
    obtain ⟨rfl, rfl, rfl⟩ := eqM_iff.1 h
    exact decide_eq_true rfl
  | false =>
    refine decide_eq_false fun e => ?_
    have e2 : wrM f v l = wrM g u m := by
      simp only [ByteArray.mk.injEq] at e
      exact List.toArray_inj e
    have h1 := rdM_back hf nf nv av hs
    rw [e2, rdM_back hg ng nu au hm] at h1
    cases h1
    rw [eqM_iff.2 ⟨rfl, rfl, rfl⟩] at h; cases h
theorem rdM_nil : rdM [] = none := by
  cases h : rdM [] with
  | none => rfl
  | some m =>
    obtain ⟨f, v, l⟩ := m
    obtain ⟨h1, h2, _⟩ := rdM_sound (S := []) (by decide) h
    unfold wrM at h2
    rw [if_pos h1] at h2
    have h3 : 32 * List.length (α := TT 8) (mlT f v l) ≤ (enc 9 (mlT f v l)).length := enc_ge 8 (mlT f v l)
    rw [h2] at h3
    have h4 : List.length (α := TT 8) (mlT f v l) = 3 := rfl
    rw [h4] at h3
    exact absurd h3 (by decide)
theorem SlI.seals {K : Nat → Prop} {w : World} {sv : Value} {l : List Se} (h : SlI 9 CZ K w sv l) : ∀ s ∈ l, s.1 < W ∧ s.2.1 < W := by
  intro s hs
  obtain ⟨ad, cap, _, hm⟩ := h
  obtain ⟨i, hi⟩ := List.mem_iff_getElem?.1 hs
  obtain ⟨_, _, _, _, _, _, _, h1, h2⟩ := hm i s hi
  exact ⟨h1, h2⟩
end Go.Proofs.YtdeompgdhaomgaaGreatDoor
