/- The program's Transfer. -/
import Derived.Test.YtabghfcjpaileaaPj
namespace Go.Proofs.Ytabghfcjpaileaa
open Go.RowKit Go.Sort
set_option linter.unusedVariables false
set_option maxRecDepth 100000
theorem cvE_l (h : Nat) (l : List Al) (i : Nat) : (cvE h l i).toList = [alV (l.getD i aD), U (shN h l i (l.getD i aD))] := by
  unfold cvE
  generalize shN h l i (l.getD i aD) = m
  generalize l.getD i aD = x
  rfl
theorem wpIn_blockN {F : Fence} {n : Nat} {P : Program} {x : Code} {id : Nat} {a : Act} {w : World} {R : Act → World → Prop} (h : x.wpIn F n P (fun e a w => e = .normal ∧ R a w) a w) : (Code.block id x).wpIn F n P (fun e a w => e = .normal ∧ R a w) a w := wpIn_block (wpIn_mono h fun e a w hq => by
  obtain ⟨rfl, hr⟩ := hq
  exact ⟨rfl, hr⟩)
abbrev tsT : Type := (Option Addr × Nat) × (Option Addr × Nat)
abbrev tsO (h : Nat) (l : List Al) (p : List Int) (i : Nat) (s : tsT) : List Ow := [alO (.slice s.1.1 i s.1.2) ((rsL h l p).take i), nuO (.slice s.2.1 i s.2.2) ((pdL h l p).take i)]
abbrev tsR (h : Nat) (l : List Al) (p : List Int) (vp : Value) (i : Nat) (s : tsT) : Rows := [(0, rU h), (1, #[vp]), (2, rU 0), (3, #[.slice s.1.1 i s.1.2]), (4, #[.slice s.2.1 i s.2.2]), (5, rU (hdN h l p i))]
abbrev tmR : Vs := frm 68 [(11, Sum.inr (3, 0)), (12, Sum.inr (4, 0)), (13, Sum.inr (5, 0)), (14, Sum.inr (6, 0)), (15, Sum.inr (7, 0))]
abbrev tbV : Vs := frm 68 [(5, Sum.inr (1, 0)), (11, Sum.inr (3, 0)), (12, Sum.inr (4, 0)), (13, Sum.inr (5, 0)), (14, Sum.inr (6, 0)), (15, Sum.inr (7, 0))]
abbrev tbK : List Nat := [5, 11, 12, 13, 14, 15]
abbrev tmRK : List Nat := [11, 12, 13, 14, 15]
set_option maxHeartbeats 8000000 in
theorem transfer_ok {w : World} {v vp : Value} {l : List Al} {p : List Int} {h : Nat} (hv : AlI w v l) (hp : InI w vp p) (hl : l.length < 1000000) (hpl : p.length < 1000000000) (he : rfE l p = 0) (hrs : p.Pairwise (· < ·)) (hh : h < W) :
    Calls Try.prog 9 #[U h, v, vp] w fun e w' => ∃ v1 v2, e = .returned (.tuple #[v1, v2, U (h - (pdL h l p).sum), Z 0]) ∧ NW w [alF v1 (rsL h l p), nuF v2 (pdL h l p)] w' := by
  have hrf := fun (w' : World) (hb : Below w.heap.size w w') => refused_any (hv.below C8.loc hb) (hp.below C1.loc hb) hpl hl
  rw [he] at hrf
  have hlW : ∀ x ∈ l, x.2.1 < W := fun x hx => ali_lt hv hx
  obtain ⟨ad, cap, hv0⟩ := hv.slice
  obtain ⟨adp, capp, hp0⟩ := hp.slice
  subst hv0 hp0
  refine inM (J := GS w w w.heap.size noK (· < w.heap.size) [alF (.slice ad l.length cap) l, inF (.slice adp p.length capp) p] []) (F := GF noK (· < w.heap.size) []) 6 Try.func9 (GS.start w fun f hf => by
    rcases List.mem_cons.1 hf with rfl | hf
    · exact hv
    · rw [List.mem_singleton.1 hf]; exact hp) fun a I => ?_
  refine goT (T := GS w w w.heap.size noK (· < w.heap.size) [alF (.slice ad l.length cap) l, inF (.slice adp p.length capp) p] []) [cA Try.func17 (fun w' h => hrf w' h.bw), bO .neq 30 (run_neE (x := 0) (y := 0) (b := false) rfl)] (GS.rsr _ _ _ _ _ _ _) (fun _ h => h) I fun β1 a1 w1 I hb1 => ?_
  refine mcall (f := 19) (ss := [Sum.inl (U h), Sum.inl (.slice ad l.length cap)]) Try.func19 I ((covers_new h ad l.length cap w1).mono fun e w2 he => ?_)
  obtain ⟨gh, gl, rfl, hn⟩ := he
  obtain ⟨K, I⟩ := I.gs hn (.func (.func 29) #[] #[.pointer (some ⟨gh, 0, none⟩), .pointer (some ⟨gl, 0, none⟩)])
  refine goQ [] (GS.rsr _ _ _ _ _ _ _) ((I.nil 24 4).nil 42 8) fun β3 a3 w3 I hb3 => ?_
  have hws := I.hJ.bw.size
  have h0 : hdN h l p 0 = h := by simp [hdN]
  refine rangeG 6 (by decide) Try.func29 (covers_seq 5 gh gl h hh (.slice ad l.length cap) l hl) (tsO h l p) (fun i s => tsR h l p (.slice adp p.length capp) i s) ((none, 0), (none, 0)) I
    (fun o ho => by
      rcases List.mem_cons.1 ho with rfl | ho
      · exact ⟨rfl, rfl⟩
      · rw [List.mem_singleton.1 ho]; exact ⟨rfl, rfl⟩) (fun i s => rfl) (fun i s W Is => ⟨(Is.hJ.atK 0 rfl).2.2.1, (Is.hJ.atK 0 rfl).2.2.2, Is.hJ.at 1 (f := alF (.slice ad l.length cap) l) rfl⟩) (fun i => by kernel_rfl)
    (fun i => ((parV [30, 31] (cvE h l i).toList I.cfg.tm).set 14 (some (Sum.inr (6, 0)))).set 15 (some (Sum.inr (7, 0)))) (fun i => [(7, rU (shN h l i (l.getD i aD))), (6, (al8 (l.getD i aD)).toArray)]) 8 (of_decide_eq_true (by kernel_rfl)) ?_ ?_ ?_ (hr0 := by kernel_rfl)
  · intro y i W K' a' hi IA hK
    have hA : rfA I.cfg = (Code.region 8 (regO Try.f9 8) false).seq (.region 9 (regO Try.f9 9) false) := by kernel_rfl
    show (rfA I.cfg).wpIn _ _ _ _ _ _
    rw [hA]
    refine wpIn_seq (regR IA fun IA => ?_)
    refine goQ [] (nonR W) IA fun β4 a4 w4 IB hb4 => ?_
    refine atN (regR IB fun IB => ?_)
    refine goQ [] (nonR W) IB fun β5 a5 w5 IC hb5 => ?_
    exact atN (hK β5 a5 w5 _ IC (agT (agL hb4) (agL hb5)) (by kernel_rfl) (by kernel_rfl) (by kernel_rfl))
  · intro y i s β4 a4 WR Kp hi I4
    obtain ⟨⟨ad1, cap1⟩, ⟨ad2, cap2⟩⟩ := s
    obtain ⟨x, hx⟩ : ∃ t, l[i]? = some t := ⟨_, List.getElem?_eq_getElem hi⟩
    have hxD : l.getD i aD = x := by rw [List.getD_eq_getElem?_getD, hx]; rfl
    have hT1 := take_get (rsL_get h p hx)
    have hT2 := take_get (pdL_get h p hx)
    obtain ⟨hle, hhd⟩ := hd_step h p hx
    have hxl := hlW x (List.mem_of_getElem? hx)
    have hs1 := subOk sub_any hxl (Nat.le_trans (pdN_le h l p i x) (shN_le h l i x).2)
    have hs2 := subOk sub_any (hd_lt hh l p i) hle
    have hpn : pdN h l p i x = if x.2.2.1 = 0 ∧ nmB p i = true then shN h l i x else 0 := rfl
    rw [← hhd] at hs2
    have hnm := fun (w' : World) (hw : (GS w WR (w3.heap.size + 2) Kp K ([rwF gh gl h (.slice ad l.length cap)] ++ [alF (.slice ad l.length cap) l, inF (.slice adp p.length capp) p]) (tsO h l p i ((ad1, cap1), (ad2, cap2)))) w') => named_any (hw.at 2 (f := inF (.slice adp p.length capp) p) rfl) hpl hrs (i : Int)
    have hB : rfB I.cfg = Code.block 1 (((Code.region 10 (regO Try.f9 10) false).seq (.cond (.tmp 41) (.region 11 (regO Try.f9 11) false) .skip)).seq ((Code.region 12 (regO Try.f9 12) false).seq ((Code.region 13 (regO Try.f9 13) false).seq ((Code.region 14 (regO Try.f9 14) false).seq (.region 15 (regO Try.f9 15) false))))) := by kernel_rfl
    show (rfB I.cfg).wpIn _ _ _ _ _ _
    rw [hB]
    obtain ⟨u, I5⟩ := I4.scr .skip (scrF 68 tbK) tbV [(7, rU (shN h l i (l.getD i aD))), (6, (al8 (l.getD i aD)).toArray), (0, rU h), (1, #[.slice adp p.length capp]), (2, rU 0), (3, #[.slice ad1 i cap1]), (4, #[.slice ad2 i cap2]), (5, rU (hdN h l p i))] 8
    clear I4
    rw [hxD] at I5
    obtain ⟨d, am, kd, le, ri⟩ := x
    unfold rsX at hT1
    simp only [] at hT1 hs1 hpn hxl
    have I6 : SI (GS w WR (w3.heap.size + 2) Kp K ([rwF gh gl h (.slice ad l.length cap)] ++ [alF (.slice ad l.length cap) l, inF (.slice adp p.length capp) p]) (tsO h l p i ((ad1, cap1), (ad2, cap2)))) (GF Kp K (tsO h l p i ((ad1, cap1), (ad2, cap2)))) [] β4 (cfC .skip (fillF (scrF 68 tbK) u 0 tbV) [(7, rU (shN h l i (d, am, kd, le, ri))), (6, #[.string d, B (l0 am), B (l1 am), B (l2 am), B (l3 am), Z kd, .string le, .string ri]), (0, rU h), (1, #[.slice adp p.length capp]), (2, rU 0), (3, #[.slice ad1 i cap1]), (4, #[.slice ad2 i cap2]), (5, rU (hdN h l p i))] 8) a4 WR := I5
    clear I5
    obtain ⟨hd1, hhd1⟩ : ∃ z, hdN h l p (i + 1) = z := ⟨_, rfl⟩
    rw [hhd1] at hs2
    obtain ⟨pd, hpd⟩ : ∃ z, pdN h l p i (d, am, kd, le, ri) = z := ⟨_, rfl⟩
    rw [hpd] at hT1 hT2 hs1 hs2 hpn
    refine wpIn_blockN (wpIn_seq ?_)
    have rest : ∀ (Qn : Exit → Act → World → Prop), (∀ a' w' s' β2 c2, Agree 6 β4 β2 → SI (GS w WR (w3.heap.size + 2) Kp K ([rwF gh gl h (.slice ad l.length cap)] ++ [alF (.slice ad l.length cap) l, inF (.slice adp p.length capp) p]) (tsO h l p (i + 1) s')) (GF Kp K (tsO h l p (i + 1) s')) [] β2 c2 a' w' → (tsR h l p (.slice adp p.length capp) (i + 1) s').map (fun p => rowOf c2.rows p.1) = (tsR h l p (.slice adp p.length capp) (i + 1) s').map (fun p => some p.2) → Qn .normal a' w') → ∀ (β5 : Nat → Nat) (a5 : Act) (w5 : World) (u5 : Nat → Value), Agree 6 β4 β5 → SI (GS w WR (w3.heap.size + 2) Kp K ([rwF gh gl h (.slice ad l.length cap)] ++ [alF (.slice ad l.length cap) l, inF (.slice adp p.length capp) p]) (tsO h l p i ((ad1, cap1), (ad2, cap2)))) (GF Kp K (tsO h l p i ((ad1, cap1), (ad2, cap2)))) [] β5 (cfC .skip (fillF (scrF 68 tmRK) u5 0 tmR) [(7, rU pd), (6, #[.string d, B (l0 am), B (l1 am), B (l2 am), B (l3 am), Z kd, .string le, .string ri]), (0, rU h), (1, #[.slice adp p.length capp]), (2, rU 0), (3, #[.slice ad1 i cap1]), (4, #[.slice ad2 i cap2]), (5, rU (hdN h l p i))] 8) a5 w5 →
        ((Code.region 12 (regO Try.f9 12) false).seq ((Code.region 13 (regO Try.f9 13) false).seq ((Code.region 14 (regO Try.f9 14) false).seq (.region 15 (regO Try.f9 15) false)))).wpIn (Fence.wide.inRound y) (6 - 1 - 1) Try.prog Qn a5 w5 := by
      intro Qn hQn β5 a5 w5 u5 hag I
      refine wpIn_seq (regR I fun I => ?_)
      refine goQ [kC Try.func21 hs1] (GS.rsr _ _ _ _ _ _ _) I fun β6 a6 w6 I hb6 => ?_
      refine atN (wpIn_seq (regR I fun I => ?_))
      refine goQ [kC Try.func21 hs2] (GS.rsr _ _ _ _ _ _ _) I fun β7 a7 w7 I hb7 => ?_
      refine atN (wpIn_seq (regR I fun I => ?_))
      refine goQ [] (GS.rsr _ _ _ _ _ _ _) I fun β8 a8 w8 I hb8 => ?_
      refine app_al [] _ (d, am - pd, kd, le, ri) hT1 I (by rw [List.length_take, rsL_len]; omega) (by omega) fun ad9 cap9 a9 w9 I => ?_
      refine goQ [] (GS.rsr _ _ _ _ _ _ _) I fun β10 a10 w10 I hb10 => ?_
      refine atN (regR I fun I => ?_)
      refine goQ [] (GS.rsr _ _ _ _ _ _ _) I fun β11 a11 w11 I hb11 => ?_
      refine app_nu [alO (.slice ad9 (i + 1) cap9) ((rsL h l p).take (i + 1))] [] pd hT2 I (by rw [List.length_take, pdL_len]; omega) (by omega) fun ad12 cap12 a12 w12 I => ?_
      refine goQ [] (GS.rsr _ _ _ _ _ _ _) I fun β13 a13 w13 I hb13 => ?_
      refine atN (hQn _ _ ((ad9, cap9), (ad12, cap12)) β13 _ (agT (agL hag) (agT (agL hb6) (agT (agL hb7) (agT (agL hb8) (agT (agL hb10) (agT (agL hb11) (agL hb13))))))) I ?_)
      unfold tsR
      rw [hhd1]
      kernel_rfl
    refine wpIn_seq (regR I6 fun I => ?_)
    by_cases hk : kd = 0
    · cases hq : nmB p i with
      | true =>
        rw [hq] at hnm
        have e : pd = (shN h l i (d, am, kd, le, ri)) := by rw [hpn, if_pos ⟨hk, hq⟩]
        refine goT (T := (GS w WR (w3.heap.size + 2) Kp K ([rwF gh gl h (.slice ad l.length cap)] ++ [alF (.slice ad l.length cap) l, inF (.slice adp p.length capp) p]) (tsO h l p i ((ad1, cap1), (ad2, cap2))))) [bO .neq 3 (run_neqZ (x := kd) (y := 0) (b := false) (decide_eq_false (not_not_intro hk))), lnU ad2 i cap2, cA Try.func20 hnm, ntO true] (GS.rsr _ _ _ _ _ _ _) (fun _ h => h) I fun β7 a7 w7 I hb7 => ?_
        obtain ⟨u', Iu⟩ := I.scr .skip (scrF 68 tmRK) tmR [(7, rU (shN h l i (d, am, kd, le, ri))), (6, #[.string d, B (l0 am), B (l1 am), B (l2 am), B (l3 am), Z kd, .string le, .string ri]), (0, rU h), (1, #[.slice adp p.length capp]), (2, rU 0), (3, #[.slice ad1 i cap1]), (4, #[.slice ad2 i cap2]), (5, rU (hdN h l p i))] 8
        exact atN (wpIn_cond_false (evQ_ok (x := .tmp 41) (s := Sum.inl (.bool false)) I.fr (by kernel_rfl)) (wpIn_skip (rest _ (fun a' w' s' β2 c2 hag I hr => ⟨rfl, s', β2, c2, agL hag, I, hr⟩) β7 a7 w7 u' (agL hb7) (by rw [e]; exact Iu))))
      | false =>
        rw [hq] at hnm
        have e : pd = 0 := by rw [hpn, if_neg fun q => by rw [hq] at q; cases q.2]
        refine goT (T := (GS w WR (w3.heap.size + 2) Kp K ([rwF gh gl h (.slice ad l.length cap)] ++ [alF (.slice ad l.length cap) l, inF (.slice adp p.length capp) p]) (tsO h l p i ((ad1, cap1), (ad2, cap2))))) [bO .neq 3 (run_neqZ (x := kd) (y := 0) (b := false) (decide_eq_false (not_not_intro hk))), lnU ad2 i cap2, cA Try.func20 hnm, ntO false] (GS.rsr _ _ _ _ _ _ _) (fun _ h => h) I fun β7 a7 w7 I hb7 => ?_
        refine atN (wpIn_cond_true (evQ_ok (x := .tmp 41) (s := Sum.inl (.bool true)) I.fr (by kernel_rfl)) (regR I fun I => ?_))
        refine goQ [dO 24 [] bd_Uz] (GS.rsr _ _ _ _ _ _ _) I fun β8 a8 w8 I hb8 => ?_
        obtain ⟨u', Iu⟩ := I.scr .skip (scrF 68 tmRK) tmR [(7, rU 0), (6, #[.string d, B (l0 am), B (l1 am), B (l2 am), B (l3 am), Z kd, .string le, .string ri]), (0, rU h), (1, #[.slice adp p.length capp]), (2, rU 0), (3, #[.slice ad1 i cap1]), (4, #[.slice ad2 i cap2]), (5, rU (hdN h l p i))] 8
        exact atN (rest _ (fun a' w' s' β2 c2 hag I hr => ⟨rfl, s', β2, c2, agL hag, I, hr⟩) β8 a8 w8 u' (agT (agL hb7) (agL hb8)) (by rw [e]; exact Iu))
    · have e : pd = 0 := by rw [hpn, if_neg fun q => hk q.1]
      refine goT (T := (GS w WR (w3.heap.size + 2) Kp K ([rwF gh gl h (.slice ad l.length cap)] ++ [alF (.slice ad l.length cap) l, inF (.slice adp p.length capp) p]) (tsO h l p i ((ad1, cap1), (ad2, cap2))))) [bO .neq 3 (run_neqZ (x := kd) (y := 0) (b := true) (decide_eq_true hk))] (GS.rsr _ _ _ _ _ _ _) (fun _ h => h) I fun β7 a7 w7 I hb7 => ?_
      refine atN (wpIn_cond_true (evQ_ok (x := .tmp 41) (s := Sum.inl (.bool true)) I.fr (by kernel_rfl)) (regR I fun I => ?_))
      refine goQ [dO 24 [] bd_Uz] (GS.rsr _ _ _ _ _ _ _) I fun β8 a8 w8 I hb8 => ?_
      obtain ⟨u', Iu⟩ := I.scr .skip (scrF 68 tmRK) tmR [(7, rU 0), (6, #[.string d, B (l0 am), B (l1 am), B (l2 am), B (l3 am), Z kd, .string le, .string ri]), (0, rU h), (1, #[.slice adp p.length capp]), (2, rU 0), (3, #[.slice ad1 i cap1]), (4, #[.slice ad2 i cap2]), (5, rU (hdN h l p i))] 8
      exact atN (rest _ (fun a' w' s' β2 c2 hag I hr => ⟨rfl, s', β2, c2, agL hag, I, hr⟩) β8 a8 w8 u' (agT (agL hb7) (agL hb8)) (by rw [e]; exact Iu))
  · intro D W a' s hD hDD
    refine fun I4 => (atK I4 fun I4 => ?_ : QK _ _ _ _ _ _)
    refine goQ [] (GS.rsr _ _ _ _ _ _ _) I4 fun β5 a5 w5 I5 hb5 => ?_
    refine dwR (T := fun _ => True) 5 8 2 67 (hdN h l p l.length) [(0, rU h), (1, #[.slice adp p.length capp]), (3, #[.slice s.1.1 l.length s.1.2]), (4, #[.slice s.2.1 l.length s.2.2]), (5, rU (hdN h l p l.length))] [] [] (fun _ _ _ => True) (fun _ _ _ _ _ _ => trivial) (GS.rsr _ _ _ _ _ _ _) (fun _ _ => trivial) I5 (fun q hq => (by cases hq)) fun vs a6 w6 _ I6 => ?_
    refine goQ [] (GS.rsr _ _ _ _ _ _ _) I6 fun β7 a7 w7 I7 hb7 => ?_
    have hJ := I7.hJ
    unfold tsO at hJ
    have e1 : (rsL h l p).take l.length = rsL h l p := by rw [← rsL_len h l p, List.take_length]
    have e2 : (pdL h l p).take l.length = pdL h l p := by rw [← pdL_len h l p, List.take_length]
    rw [e1, e2] at hJ
    have e3 := hd_all h l p
    refine outM4 (v := .tuple #[.slice s.1.1 l.length s.1.2, .slice s.2.1 l.length s.2.2, U (hdN h l p l.length), Z 0]) I7 ((hJ.nc D rfl).trans hDD) ⟨_, _, by rw [e3], (hJ.fin (by omega) (by omega) _).new2 (rsL_lt hlW h p) (pdL_lt hh l p)⟩
end Go.Proofs.Ytabghfcjpaileaa
