/- Laid one behind the other: Tm, Tn, To, Tp. -/
import Derived.Test.YtdeompgdhaomgaaGreatDoorKrTh
namespace Go.Proofs.YtdeompgdhaomgaaGreatDoor
open Go.RowKit Go.Sort
set_option linter.unusedVariables false
set_option maxRecDepth 100000
/-- A member that is handed back, with what it has in memory. -/
def MemP {α : Type} (C : Cl α) (val : List Value → Value) (x : α) (w : World) (e : Ending) (w' : World) : Prop := Below w.heap.size w w' ∧ ∃ cs K, e = .returned (val cs) ∧ (∀ k, K k → w.heap.size ≤ k ∧ k < w'.heap.size) ∧ C K w' x cs
/-- A slice that is handed back. -/
def SlP {α : Type} (sz : Nat) (C : Cl α) (l : List α) (w : World) (e : Ending) (w' : World) : Prop := Below w.heap.size w w' ∧ ∃ ad cap K, e = .returned (.slice ad l.length cap) ∧ l.length ≤ cap ∧ (∀ k, K k → w.heap.size ≤ k ∧ k < w'.heap.size) ∧ SlI sz C K w' (.slice ad l.length cap) l
theorem QJ.room {α : Type} {C : Cl α} {wE w : World} {e sz i cap : Nat} {ad : Option Addr} {X : List (List Value)} {l : List α} {K : Nat → Prop} (h : QJ C wE e sz (.slice ad i cap) X l K w) (hi : X.length = i) : i ≤ cap := by
  rcases h.ro.own.2 with ⟨hv, hn⟩ | ⟨g, cap', cur, hv, hb, hg, hnc, _⟩
  · cases hv; omega
  · cases hv; omega
abbrev ulK : List Nat := [0, 1, 2, 4, 5, 9, 10, 11]
abbrev ulV (tv fv ov lv : Value) (n i : Nat) : Vs := frm 23 [(0, Sum.inl tv), (1, Sum.inl fv), (2, Sum.inr (0, 0)), (4, Sum.inl (.slice none 0 0)), (5, Sum.inl ov), (9, Sum.inl lv), (10, Sum.inl (Z n)), (11, Sum.inl (Z i))]
theorem hI38 : ∃ i, Tryz.prog.info? 47 = some i ∧ i.zero = some (.agg #[.string eB, .slice none 0 0]) ∧ i.size = 2 ∧ i.bytes = 40 := info_of (by kernel_rfl)
theorem hI59 : ∃ i, Tryz.prog.info? 133 = some i ∧ i.zero = some (.agg (al8 (eB, 0, 0, eB, eB)).toArray) ∧ i.size = 8 ∧ i.bytes = 88 := info_of (by kernel_rfl)
theorem bs_al (a : Al) (w : World) : (Instr.buildSlice 45 1 #[(0, .agg (al8 a).toArray)]).run Tryz.prog w = .ok (.slice (some ⟨w.heap.size, 0, none⟩) 1 1) (w.alloc (.cells (al8 a).toArray 133)) := by kernel_rfl
theorem bs_ex (a b : Value) (w : World) : (Instr.buildSlice 26 1 #[(0, .agg #[a, b])]).run Tryz.prog w = .ok (.slice (some ⟨w.heap.size, 0, none⟩) 1 1) (w.alloc (.cells [a, b].toArray 47)) := by kernel_rfl
theorem bs_st (s : ByteArray) (w : World) : (Instr.buildSlice 22 1 #[(0, .string s)]).run Tryz.prog w = .ok (.slice (some ⟨w.heap.size, 0, none⟩) 1 1) (w.alloc (.cells [.string s].toArray 9)) := by kernel_rfl
theorem one8 (a : Al) : ∀ x ∈ al8 a, x.oneCell' = true := by
  intro u hu
  simp only [al8, List.mem_cons, List.not_mem_nil, or_false] at hu
  rcases hu with rfl | rfl | rfl | rfl | rfl | rfl | rfl | rfl <;> rfl
theorem one2 (s : ByteArray) (ad : Option Addr) (n cap : Nat) : ∀ x ∈ [.string s, .slice ad n cap], Value.oneCell' x = true := by
  intro u hu
  simp only [List.mem_cons, List.not_mem_nil, or_false] at hu
  rcases hu with rfl | rfl <;> rfl
theorem one1 (s : ByteArray) : ∀ x ∈ [Value.string s], Value.oneCell' x = true := by
  intro u hu
  rw [List.mem_singleton] at hu
  subst hu; rfl
theorem unlisted101 {w : World} {n : Nat} (f : TT n → ByteArray) {k : Int} {u : Nat} {s : ByteArray} {ad0 : Option Addr} {cap0 : Nat} {ts : List (TT n)} (h : LAf (· < w.heap.size) w (n + 1) (.slice ad0 ts.length cap0) ts) (hl : ts.length < 100000000)
    (hone : ∀ t ∈ ts, ∀ adt mt capt, LAf (· < w.heap.size) w n (.slice adt mt capt) t.2.2.2 → ∀ w', Below w.heap.size w w' → Calls Tryz.prog 106 #[.agg (tx (t.1, t.2.1, t.2.2.1, .slice adt mt capt)).toArray] w' (MemP CS (fun cs => (cs[0]?).getD undef) (f t) w')) : Calls Tryz.prog 108 #[.agg (tx (k, u, s, .slice ad0 ts.length cap0)).toArray, .func (.func 106) #[] #[]] w (SlP 1 CS (ts.map f) w) := by
  obtain ⟨_, _, he, hm⟩ := h
  simp only [Value.slice.injEq, true_and] at he
  obtain ⟨rfl, rfl⟩ := he
  refine inQ (J := QJ CS w 9 1 (.slice none 0 0) [] [] noK) (F := QF w (.slice none 0 0) noK) Tryz.func108 (QJ.start _ _ _ _) fun a I => ?_
  refine goQ [lS Tryz.underlying48 (ad := ad0) (n := ts.length) (cap := cap0) rfl] (QJ.rs CS.loc _ _ _ _ _ _ _) I fun β a w1 I hb => ?_
  let St : Nat → Act → World → Prop := fun j a w' => ∃ (i : Nat) (β : Nat → Nat) (u' : Nat → Value) (ad : Option Addr) (cap : Nat) (X : List (List Value)) (K : Nat → Prop), j = ts.length - i ∧ i ≤ ts.length ∧ X.length = i ∧
    SI (QJ CS w 9 1 (.slice ad i cap) X ((ts.take i).map f) K) (QF w (.slice ad i cap) K) [] β (cfC (bodyL Tryz.f108) (fillF (scrF 23 ulK) u' 0 (ulV (.agg (tx (k, u, s, .slice ad0 ts.length cap0)).toArray) (.func (.func 106) #[] #[]) (.slice ad i cap) (.slice ad0 ts.length cap0) ts.length i)) [(0, (tx (k, u, s, .slice ad0 ts.length cap0)).toArray)] 1) a w'
  refine lpM (bodyL Tryz.f108) St ts.length ?_ ?_
  · obtain ⟨u', Iu⟩ := I.scr (bodyL Tryz.f108) (scrF 23 ulK) (ulV (.agg (tx (k, u, s, .slice ad0 ts.length cap0)).toArray) (.func (.func 106) #[] #[]) (.slice none 0 0) (.slice ad0 ts.length cap0) ts.length 0) [(0, (tx (k, u, s, .slice ad0 ts.length cap0)).toArray)] 1
    exact ⟨0, β, u', none, 0, [], noK, by omega, Nat.zero_le _, rfl, Iu⟩
  rintro j a3 w3 ⟨i, β3, u3, ad, cap, X, K, rfl, hi, hXi, I⟩
  refine wp_cfC (tm := fillF (scrF 23 ulK) u3 0 (ulV (.agg (tx (k, u, s, .slice ad0 ts.length cap0)).toArray) (.func (.func 106) #[] #[]) (.slice ad i cap) (.slice ad0 ts.length cap0) ts.length i)) (rows := [(0, (tx (k, u, s, .slice ad0 ts.length cap0)).toArray)]) (nx := 1) ?_
  rcases Nat.lt_or_ge i ts.length with hil | hil
  · obtain ⟨⟨tk, tu, tx_, tl⟩, h1⟩ : ∃ t, ts[i]? = some t := ⟨_, List.getElem?_eq_getElem hil⟩
    obtain ⟨ga, offa, lv, rfl, hlt, hca, hLt⟩ := hm i _ h1
    obtain ⟨adt, mt, capt, rfl⟩ := hLt.slice
    have hxl := List.mem_of_getElem? h1
    have hld : ∀ w', QJ CS w 9 1 (.slice ad i cap) X ((ts.take i).map f) K w' → (loadVar 59 ⟨ga, offa + i * 7, none⟩).run Tryz.prog w' = .ok (.agg (tx (tk, tu, tx_, .slice adt mt capt)).toArray) w' := fun w' hb => load7 (hca.keep (hb.below.block ga hlt))
    refine goT (T := QJ CS w 9 1 (.slice ad i cap) X ((ts.take i).map f) K) [bO .lss 3 (run_lssZ (x := i) (y := ts.length) (b := true) (by simp; omega)), iA 48 Tryz.underlying48 (sz := 7) (by kernel_rfl) (g := ga) (off := offa) (n := ts.length) (cap := cap0) hil, ldA 59 hld] (QJ.rs CS.loc _ _ _ _ _ _ _) (fun _ h => h) I fun β4 a4 w4 I hb4 => ?_
    refine mcallX [Sum.inl (.agg (tx (tk, tu, tx_, .slice adt mt capt)).toArray)] Tryz.func106 I ?_
    refine (hone (tk, tu, tx_, tl) hxl adt mt capt hLt w4 I.hJ.below).mono fun e w5 he => ?_
    obtain ⟨hb5, cs, K1, rfl, hK1, hC⟩ := he
    have hn5 := mem_new I.hJ hK1
    obtain ⟨x, hx⟩ : ∃ x, f (tk, tu, tx_, tl) = x := ⟨_, rfl⟩
    rw [hx] at hC
    have hC0 := hC
    obtain rfl : cs = [.string x] := hC
    have I5 := mem_moved CS.loc I hb5 hK1 hC0 (.string x)
    refine app_gen CS.loc Tryz.underlying22 hI9 rfl (by decide) (by decide) (ev := .string x) (bs_st x w5) rfl (one1 x) I5 hXi (by omega) hn5 fun ad8 cap8 a8 w8 I8 => ?_
    refine goQ [bO .add 3 (run_addZ (x := i) (y := 1) (z := (i + 1 : Nat)) (by rw [wz (by omega) (by omega)]; omega))] (QJ.rs CS.loc _ _ _ _ _ _ _) I8 fun β9 a9 w9 I hb9 => ?_
    obtain ⟨u', Iu⟩ := I.scr (bodyL Tryz.f108) (scrF 23 ulK) (ulV (.agg (tx (k, u, s, .slice (some ⟨ga, offa, none⟩) ts.length cap0)).toArray) (.func (.func 106) #[] #[]) (.slice ad8 (i + 1) cap8) (.slice (some ⟨ga, offa, none⟩) ts.length cap0) ts.length (i + 1)) [(0, (tx (k, u, s, .slice (some ⟨ga, offa, none⟩) ts.length cap0)).toArray)] 1
    have htk : (ts.take (i + 1)).map f = (ts.take i).map f ++ [f (tk, tu, tx_, tl)] := by rw [List.take_add_one, h1, List.map_append]; rfl
    rw [hx] at htk
    refine endL ⟨ts.length - (i + 1), by omega, i + 1, β9, u', ad8, cap8, X ++ [[.string x]], (fun k => K k ∨ K1 k), rfl, hil, by rw [List.length_append, hXi]; rfl, ?_⟩
    rw [htk]
    exact Iu
  · obtain rfl : i = ts.length := by omega
    refine goQ [bO .lss 3 (run_lssZ (x := ts.length) (y := ts.length) (b := false) (by simp))] (QJ.rs CS.loc _ _ _ _ _ _ _) I fun β4 a4 w4 I hb4 => ?_
    refine endE 0 ?_
    refine goQ [] (QJ.rs CS.loc _ _ _ _ _ _ _) (I.exit _) fun β5 a5 w5 I hb5 => ?_
    rw [List.take_length] at I
    have hd := I.hJ.done CS.loc
    have hr := I.hJ.room hXi
    refine outQ (v := .slice ad ts.length cap) I ⟨I.hJ.below, ad, cap, _, by rw [List.length_map], by rw [List.length_map]; exact hr, I.hJ.kb2, ?_⟩
    rw [List.length_map]
    exact hd
theorem unlisted110 {w : World} {n : Nat} {gq : Nat} (f : TT n → Al) {k : Int} {u : Nat} {s : ByteArray} {ad0 : Option Addr} {cap0 : Nat} {ts : List (TT n)} (h : LAf (· < w.heap.size) w (n + 1) (.slice ad0 ts.length cap0) ts) (hl : ts.length < 100000000)
    (hone : ∀ t ∈ ts, ∀ adt mt capt, LAf (· < w.heap.size) w n (.slice adt mt capt) t.2.2.2 → ∀ w', Below w.heap.size w w' → Calls Tryz.prog 111 #[.agg (tx (t.1, t.2.1, t.2.2.1, .slice adt mt capt)).toArray, .pointer (some ⟨gq, 0, none⟩)] w' (MemP CA (fun cs => .agg cs.toArray) (f t) w')) : Calls Tryz.prog 115 #[.agg (tx (k, u, s, .slice ad0 ts.length cap0)).toArray, .func (.func 111) #[] #[.pointer (some ⟨gq, 0, none⟩)]] w (SlP 8 CA (ts.map f) w) := by
  obtain ⟨_, _, he, hm⟩ := h
  simp only [Value.slice.injEq, true_and] at he
  obtain ⟨rfl, rfl⟩ := he
  refine inQ (J := QJ CA w 133 8 (.slice none 0 0) [] [] noK) (F := QF w (.slice none 0 0) noK) Tryz.func115 (QJ.start _ _ _ _) fun a I => ?_
  refine goQ [lS Tryz.underlying48 (ad := ad0) (n := ts.length) (cap := cap0) rfl] (QJ.rs CA.loc _ _ _ _ _ _ _) I fun β a w1 I hb => ?_
  let St : Nat → Act → World → Prop := fun j a w' => ∃ (i : Nat) (β : Nat → Nat) (u' : Nat → Value) (ad : Option Addr) (cap : Nat) (X : List (List Value)) (K : Nat → Prop), j = ts.length - i ∧ i ≤ ts.length ∧ X.length = i ∧
    SI (QJ CA w 133 8 (.slice ad i cap) X ((ts.take i).map f) K) (QF w (.slice ad i cap) K) [] β (cfC (bodyL Tryz.f115) (fillF (scrF 23 ulK) u' 0 (ulV (.agg (tx (k, u, s, .slice ad0 ts.length cap0)).toArray) (.func (.func 111) #[] #[.pointer (some ⟨gq, 0, none⟩)]) (.slice ad i cap) (.slice ad0 ts.length cap0) ts.length i)) [(0, (tx (k, u, s, .slice ad0 ts.length cap0)).toArray)] 1) a w'
  refine lpM (bodyL Tryz.f115) St ts.length ?_ ?_
  · obtain ⟨u', Iu⟩ := I.scr (bodyL Tryz.f115) (scrF 23 ulK) (ulV (.agg (tx (k, u, s, .slice ad0 ts.length cap0)).toArray) (.func (.func 111) #[] #[.pointer (some ⟨gq, 0, none⟩)]) (.slice none 0 0) (.slice ad0 ts.length cap0) ts.length 0) [(0, (tx (k, u, s, .slice ad0 ts.length cap0)).toArray)] 1
    exact ⟨0, β, u', none, 0, [], noK, by omega, Nat.zero_le _, rfl, Iu⟩
  rintro j a3 w3 ⟨i, β3, u3, ad, cap, X, K, rfl, hi, hXi, I⟩
  refine wp_cfC (tm := fillF (scrF 23 ulK) u3 0 (ulV (.agg (tx (k, u, s, .slice ad0 ts.length cap0)).toArray) (.func (.func 111) #[] #[.pointer (some ⟨gq, 0, none⟩)]) (.slice ad i cap) (.slice ad0 ts.length cap0) ts.length i)) (rows := [(0, (tx (k, u, s, .slice ad0 ts.length cap0)).toArray)]) (nx := 1) ?_
  rcases Nat.lt_or_ge i ts.length with hil | hil
  · obtain ⟨⟨tk, tu, tx_, tl⟩, h1⟩ : ∃ t, ts[i]? = some t := ⟨_, List.getElem?_eq_getElem hil⟩
    obtain ⟨ga, offa, lv, rfl, hlt, hca, hLt⟩ := hm i _ h1
    obtain ⟨adt, mt, capt, rfl⟩ := hLt.slice
    have hxl := List.mem_of_getElem? h1
    have hld : ∀ w', QJ CA w 133 8 (.slice ad i cap) X ((ts.take i).map f) K w' → (loadVar 59 ⟨ga, offa + i * 7, none⟩).run Tryz.prog w' = .ok (.agg (tx (tk, tu, tx_, .slice adt mt capt)).toArray) w' := fun w' hb => load7 (hca.keep (hb.below.block ga hlt))
    refine goT (T := QJ CA w 133 8 (.slice ad i cap) X ((ts.take i).map f) K) [bO .lss 3 (run_lssZ (x := i) (y := ts.length) (b := true) (by simp; omega)), iA 48 Tryz.underlying48 (sz := 7) (by kernel_rfl) (g := ga) (off := offa) (n := ts.length) (cap := cap0) hil, ldA 59 hld] (QJ.rs CA.loc _ _ _ _ _ _ _) (fun _ h => h) I fun β4 a4 w4 I hb4 => ?_
    refine mcallX [Sum.inl (.agg (tx (tk, tu, tx_, .slice adt mt capt)).toArray), Sum.inl (.pointer (some ⟨gq, 0, none⟩))] Tryz.func111 I ?_
    refine (hone (tk, tu, tx_, tl) hxl adt mt capt hLt w4 I.hJ.below).mono fun e w5 he => ?_
    obtain ⟨hb5, cs, K1, rfl, hK1, hC⟩ := he
    have hn5 := mem_new I.hJ hK1
    obtain ⟨x, hx⟩ : ∃ x, f (tk, tu, tx_, tl) = x := ⟨_, rfl⟩
    rw [hx] at hC
    have hC0 := hC
    obtain rfl : cs = al8 x := hC.1
    obtain ⟨de, am, kd, le, ri⟩ := x
    have I5 := mem_moved CA.loc I hb5 hK1 hC0 (.agg (al8 (de, am, kd, le, ri)).toArray)
    refine app_gen CA.loc Tryz.underlying45 hI59 rfl (by decide) (by decide) (ev := .agg (al8 (de, am, kd, le, ri)).toArray) (bs_al (de, am, kd, le, ri) w5) rfl (one8 (de, am, kd, le, ri)) I5 hXi (by omega) hn5 fun ad8 cap8 a8 w8 I8 => ?_
    refine goQ [bO .add 3 (run_addZ (x := i) (y := 1) (z := (i + 1 : Nat)) (by rw [wz (by omega) (by omega)]; omega))] (QJ.rs CA.loc _ _ _ _ _ _ _) I8 fun β9 a9 w9 I hb9 => ?_
    obtain ⟨u', Iu⟩ := I.scr (bodyL Tryz.f115) (scrF 23 ulK) (ulV (.agg (tx (k, u, s, .slice (some ⟨ga, offa, none⟩) ts.length cap0)).toArray) (.func (.func 111) #[] #[.pointer (some ⟨gq, 0, none⟩)]) (.slice ad8 (i + 1) cap8) (.slice (some ⟨ga, offa, none⟩) ts.length cap0) ts.length (i + 1)) [(0, (tx (k, u, s, .slice (some ⟨ga, offa, none⟩) ts.length cap0)).toArray)] 1
    have htk : (ts.take (i + 1)).map f = (ts.take i).map f ++ [f (tk, tu, tx_, tl)] := by rw [List.take_add_one, h1, List.map_append]; rfl
    rw [hx] at htk
    refine endL ⟨ts.length - (i + 1), by omega, i + 1, β9, u', ad8, cap8, X ++ [al8 (de, am, kd, le, ri)], (fun k => K k ∨ K1 k), rfl, hil, by rw [List.length_append, hXi]; rfl, ?_⟩
    rw [htk]
    exact Iu
  · obtain rfl : i = ts.length := by omega
    refine goQ [bO .lss 3 (run_lssZ (x := ts.length) (y := ts.length) (b := false) (by simp))] (QJ.rs CA.loc _ _ _ _ _ _ _) I fun β4 a4 w4 I hb4 => ?_
    refine endE 0 ?_
    refine goQ [] (QJ.rs CA.loc _ _ _ _ _ _ _) (I.exit _) fun β5 a5 w5 I hb5 => ?_
    rw [List.take_length] at I
    have hd := I.hJ.done CA.loc
    have hr := I.hJ.room hXi
    refine outQ (v := .slice ad ts.length cap) I ⟨I.hJ.below, ad, cap, _, by rw [List.length_map], by rw [List.length_map]; exact hr, I.hJ.kb2, ?_⟩
    rw [List.length_map]
    exact hd
theorem unlisted108 {w : World} {n : Nat} {gq : Nat} (f : TT n → Ex) {k : Int} {u : Nat} {s : ByteArray} {ad0 : Option Addr} {cap0 : Nat} {ts : List (TT n)} (h : LAf (· < w.heap.size) w (n + 1) (.slice ad0 ts.length cap0) ts) (hl : ts.length < 100000000)
    (hone : ∀ t ∈ ts, ∀ adt mt capt, LAf (· < w.heap.size) w n (.slice adt mt capt) t.2.2.2 → ∀ w', Below w.heap.size w w' → Calls Tryz.prog 114 #[.agg (tx (t.1, t.2.1, t.2.2.1, .slice adt mt capt)).toArray, .pointer (some ⟨gq, 0, none⟩)] w' (MemP CE (fun cs => .agg cs.toArray) (f t) w')) : Calls Tryz.prog 113 #[.agg (tx (k, u, s, .slice ad0 ts.length cap0)).toArray, .func (.func 114) #[] #[.pointer (some ⟨gq, 0, none⟩)]] w (SlP 2 CE (ts.map f) w) := by
  obtain ⟨_, _, he, hm⟩ := h
  simp only [Value.slice.injEq, true_and] at he
  obtain ⟨rfl, rfl⟩ := he
  refine inQ (J := QJ CE w 47 2 (.slice none 0 0) [] [] noK) (F := QF w (.slice none 0 0) noK) Tryz.func113 (QJ.start _ _ _ _) fun a I => ?_
  refine goQ [lS Tryz.underlying48 (ad := ad0) (n := ts.length) (cap := cap0) rfl] (QJ.rs CE.loc _ _ _ _ _ _ _) I fun β a w1 I hb => ?_
  let St : Nat → Act → World → Prop := fun j a w' => ∃ (i : Nat) (β : Nat → Nat) (u' : Nat → Value) (ad : Option Addr) (cap : Nat) (X : List (List Value)) (K : Nat → Prop), j = ts.length - i ∧ i ≤ ts.length ∧ X.length = i ∧
    SI (QJ CE w 47 2 (.slice ad i cap) X ((ts.take i).map f) K) (QF w (.slice ad i cap) K) [] β (cfC (bodyL Tryz.f113) (fillF (scrF 23 ulK) u' 0 (ulV (.agg (tx (k, u, s, .slice ad0 ts.length cap0)).toArray) (.func (.func 114) #[] #[.pointer (some ⟨gq, 0, none⟩)]) (.slice ad i cap) (.slice ad0 ts.length cap0) ts.length i)) [(0, (tx (k, u, s, .slice ad0 ts.length cap0)).toArray)] 1) a w'
  refine lpM (bodyL Tryz.f113) St ts.length ?_ ?_
  · obtain ⟨u', Iu⟩ := I.scr (bodyL Tryz.f113) (scrF 23 ulK) (ulV (.agg (tx (k, u, s, .slice ad0 ts.length cap0)).toArray) (.func (.func 114) #[] #[.pointer (some ⟨gq, 0, none⟩)]) (.slice none 0 0) (.slice ad0 ts.length cap0) ts.length 0) [(0, (tx (k, u, s, .slice ad0 ts.length cap0)).toArray)] 1
    exact ⟨0, β, u', none, 0, [], noK, by omega, Nat.zero_le _, rfl, Iu⟩
  rintro j a3 w3 ⟨i, β3, u3, ad, cap, X, K, rfl, hi, hXi, I⟩
  refine wp_cfC (tm := fillF (scrF 23 ulK) u3 0 (ulV (.agg (tx (k, u, s, .slice ad0 ts.length cap0)).toArray) (.func (.func 114) #[] #[.pointer (some ⟨gq, 0, none⟩)]) (.slice ad i cap) (.slice ad0 ts.length cap0) ts.length i)) (rows := [(0, (tx (k, u, s, .slice ad0 ts.length cap0)).toArray)]) (nx := 1) ?_
  rcases Nat.lt_or_ge i ts.length with hil | hil
  · obtain ⟨⟨tk, tu, tx_, tl⟩, h1⟩ : ∃ t, ts[i]? = some t := ⟨_, List.getElem?_eq_getElem hil⟩
    obtain ⟨ga, offa, lv, rfl, hlt, hca, hLt⟩ := hm i _ h1
    obtain ⟨adt, mt, capt, rfl⟩ := hLt.slice
    have hxl := List.mem_of_getElem? h1
    have hld : ∀ w', QJ CE w 47 2 (.slice ad i cap) X ((ts.take i).map f) K w' → (loadVar 59 ⟨ga, offa + i * 7, none⟩).run Tryz.prog w' = .ok (.agg (tx (tk, tu, tx_, .slice adt mt capt)).toArray) w' := fun w' hb => load7 (hca.keep (hb.below.block ga hlt))
    refine goT (T := QJ CE w 47 2 (.slice ad i cap) X ((ts.take i).map f) K) [bO .lss 3 (run_lssZ (x := i) (y := ts.length) (b := true) (by simp; omega)), iA 48 Tryz.underlying48 (sz := 7) (by kernel_rfl) (g := ga) (off := offa) (n := ts.length) (cap := cap0) hil, ldA 59 hld] (QJ.rs CE.loc _ _ _ _ _ _ _) (fun _ h => h) I fun β4 a4 w4 I hb4 => ?_
    refine mcallX [Sum.inl (.agg (tx (tk, tu, tx_, .slice adt mt capt)).toArray), Sum.inl (.pointer (some ⟨gq, 0, none⟩))] Tryz.func114 I ?_
    refine (hone (tk, tu, tx_, tl) hxl adt mt capt hLt w4 I.hJ.below).mono fun e w5 he => ?_
    obtain ⟨hb5, cs, K1, rfl, hK1, hC⟩ := he
    have hn5 := mem_new I.hJ hK1
    obtain ⟨x, hx⟩ : ∃ x, f (tk, tu, tx_, tl) = x := ⟨_, rfl⟩
    rw [hx] at hC
    have hC0 := hC
    obtain ⟨av, rfl, hAl⟩ := hC
    obtain ⟨adx, capx, rfl⟩ := hAl.slice
    obtain ⟨sx_, lx⟩ := x
    have I5 := mem_moved CE.loc I hb5 hK1 hC0 (.agg #[.string sx_, .slice adx lx.length capx])
    refine app_gen CE.loc Tryz.underlying26 hI38 rfl (by decide) (by decide) (ev := .agg #[.string sx_, .slice adx lx.length capx]) (bs_ex (.string sx_) (.slice adx lx.length capx) w5) rfl (one2 sx_ adx lx.length capx) I5 hXi (by omega) hn5 fun ad8 cap8 a8 w8 I8 => ?_
    refine goQ [bO .add 3 (run_addZ (x := i) (y := 1) (z := (i + 1 : Nat)) (by rw [wz (by omega) (by omega)]; omega))] (QJ.rs CE.loc _ _ _ _ _ _ _) I8 fun β9 a9 w9 I hb9 => ?_
    obtain ⟨u', Iu⟩ := I.scr (bodyL Tryz.f113) (scrF 23 ulK) (ulV (.agg (tx (k, u, s, .slice (some ⟨ga, offa, none⟩) ts.length cap0)).toArray) (.func (.func 114) #[] #[.pointer (some ⟨gq, 0, none⟩)]) (.slice ad8 (i + 1) cap8) (.slice (some ⟨ga, offa, none⟩) ts.length cap0) ts.length (i + 1)) [(0, (tx (k, u, s, .slice (some ⟨ga, offa, none⟩) ts.length cap0)).toArray)] 1
    have htk : (ts.take (i + 1)).map f = (ts.take i).map f ++ [f (tk, tu, tx_, tl)] := by rw [List.take_add_one, h1, List.map_append]; rfl
    rw [hx] at htk
    refine endL ⟨ts.length - (i + 1), by omega, i + 1, β9, u', ad8, cap8, X ++ [[.string sx_, .slice adx lx.length capx]], (fun k => K k ∨ K1 k), rfl, hil, by rw [List.length_append, hXi]; rfl, ?_⟩
    rw [htk]
    exact Iu
  · obtain rfl : i = ts.length := by omega
    refine goQ [bO .lss 3 (run_lssZ (x := ts.length) (y := ts.length) (b := false) (by simp))] (QJ.rs CE.loc _ _ _ _ _ _ _) I fun β4 a4 w4 I hb4 => ?_
    refine endE 0 ?_
    refine goQ [] (QJ.rs CE.loc _ _ _ _ _ _ _) (I.exit _) fun β5 a5 w5 I hb5 => ?_
    rw [List.take_length] at I
    have hd := I.hJ.done CE.loc
    have hr := I.hJ.room hXi
    refine outQ (v := .slice ad ts.length cap) I ⟨I.hJ.below, ad, cap, _, by rw [List.length_map], by rw [List.length_map]; exact hr, I.hJ.kb2, ?_⟩
    rw [List.length_map]
    exact hd
end Go.Proofs.YtdeompgdhaomgaaGreatDoor
namespace Go.Proofs.YtdeompgdhaomgaaGreatDoor
open Go.RowKit Go.Sort
set_option linter.unusedVariables false
set_option maxRecDepth 100000
abbrev bsL (u n : Nat) : ByteArray := ⟨(lastL u n).toArray⟩
def kdOf (u : Nat) : Int := IntKind.i64.wrap (l0 u : Int)
def sideN (k : Int) : Nat := if k = 1 then 32 else 0
theorem sideN_eq (k : Int) : sideV k = (sideN k : Int) := by unfold sideV sideN; split <;> rfl
theorem sideN_le (k : Int) : sideN k ≤ 32 := by unfold sideN; split <;> decide
def alcOf (u0 u1 u2 u3 u4 : Nat) : Al := (bsL u0 32, u1, kdOf u2, bsL u3 (sideN (kdOf u2)), bsL u4 (sideN (kdOf u2)))
theorem cnvZ (u : Nat) (w : World) : (convert 23 3 (B (l0 u))).run Tryz.prog w = .ok (Z (kdOf u)) w := by
  simp [go_sem, kdOf]
theorem who_any {n : Nat} (k : Int) (u : Nat) (s : ByteArray) (ad : Option Addr) (m cap : Nat) (w : World) : Calls Tryz.prog 106 #[.agg (tx (k, u, s, .slice ad m cap)).toArray] w (MemP CS (fun cs => (cs[0]?).getD undef) (bsL u 20) w) := by
  refine inQ (J := Below w.heap.size w) (F := (· < w.heap.size)) Tryz.func106 (Below.refl _ _) fun a I => ?_
  refine goQ [kC Tryz.func107 (lastBytes_any k u s ad m cap 20 (by decide))] (nonR w) I fun β a w1 I hb => ?_
  exact outQ (v := .string (bsL u 20)) I ⟨I.hJ, [.string (bsL u 20)], noK, rfl, fun k hk => hk.elim, rfl⟩
theorem row_load {t : TypeId} {d : TypeDesc} (hu : Tryz.prog.underlying t = some d) (hd : aggB d = false) {w : World} {g : Nat} {v : Value} (h : HasRow w g #[v]) : (loadVar t ⟨g, 0, none⟩).run Tryz.prog w = .ok v w := by
  obtain ⟨ty, h⟩ := h
  exact load1 (cells_block (cs := [v]) h) 0 rfl t hu hd
theorem bd_al (x0 : ByteArray) (u1 : Nat) (k : Int) (x3 x4 : ByteArray) (w : World) : (Instr.build 133 (([0, 1, 2, 3, 4] : List Nat).zip [.string x0, U u1, Z k, .string x3, .string x4]).toArray).run Tryz.prog w = .ok (.agg (al8 (x0, u1, k, x3, x4)).toArray) w := by kernel_rfl
theorem allocOf_any {n : Nat} {w : World} {ad : Option Addr} {cap g : Nat} {t0 t1 t2 t3 t4 : TT n} (h : LAf (· < w.heap.size) w (n + 1) (.slice ad 5 cap) [t0, t1, t2, t3, t4]) (hm : SM w g) : Calls Tryz.prog 112 #[.slice ad 5 cap, .map (some g)] w fun e w' => e = .returned (.agg (al8 (alcOf t0.2.1 t1.2.1 t2.2.1 t3.2.1 t4.2.1)).toArray) ∧ Below w.heap.size w w' := by
  have hgl : g < w.heap.size := (Array.getElem?_eq_some_iff.1 hm).1
  obtain ⟨ad', cap', he, hh⟩ := h
  have he1 : ad = ad' := by injection he
  subst he1
  obtain ⟨ga, offa, v0, rfl, hlt, hc0, hL0⟩ := hh 0 t0 rfl
  obtain ⟨g1, o1, v1, e1, _, hc1, hL1⟩ := hh 1 t1 rfl
  obtain ⟨g2, o2, v2, e2, _, hc2, hL2⟩ := hh 2 t2 rfl
  obtain ⟨g3, o3, v3, e3, _, hc3, hL3⟩ := hh 3 t3 rfl
  obtain ⟨g4, o4, v4, e4, _, hc4, hL4⟩ := hh 4 t4 rfl
  cases e1; cases e2; cases e3; cases e4
  obtain ⟨ad0, m0, cap0, rfl⟩ := hL0.slice
  obtain ⟨ad2, m2, cap2, rfl⟩ := hL2.slice
  obtain ⟨ad3, m3, cap3, rfl⟩ := hL3.slice
  obtain ⟨ad4, m4, cap4, rfl⟩ := hL4.slice
  obtain ⟨k0, u0, s0, x0⟩ := t0
  obtain ⟨k1, u1, s1, x1⟩ := t1
  obtain ⟨k2, u2, s2, x2⟩ := t2
  obtain ⟨k3, u3, s3, x3⟩ := t3
  obtain ⟨k4, u4, s4, x4⟩ := t4
  simp only [] at hc0 hc1 hc2 hc3 hc4 ⊢
  have ld0 : ∀ w', Below w.heap.size w w' → (loadVar 59 ⟨ga, offa + 0 * 7, none⟩).run Tryz.prog w' = .ok (.agg (tx (k0, u0, s0, .slice ad0 m0 cap0)).toArray) w' := fun w' hb => load7 (hc0.keep (hb.block ga hlt))
  have ld1 : ∀ w', Below w.heap.size w w' → (loadVar 57 ⟨ga, offa + 1 * 7 + 1, none⟩).run Tryz.prog w' = .ok (U u1) w' := fun w' hb => load4 (CellsAt.num (hc1.keep (hb.block ga hlt)))
  have ld2 : ∀ w', Below w.heap.size w w' → (loadVar 59 ⟨ga, offa + 2 * 7, none⟩).run Tryz.prog w' = .ok (.agg (tx (k2, u2, s2, .slice ad2 m2 cap2)).toArray) w' := fun w' hb => load7 (hc2.keep (hb.block ga hlt))
  have ld3 : ∀ w', Below w.heap.size w w' → (loadVar 59 ⟨ga, offa + 3 * 7, none⟩).run Tryz.prog w' = .ok (.agg (tx (k3, u3, s3, .slice ad3 m3 cap3)).toArray) w' := fun w' hb => load7 (hc3.keep (hb.block ga hlt))
  have ld4 : ∀ w', Below w.heap.size w w' → (loadVar 59 ⟨ga, offa + 4 * 7, none⟩).run Tryz.prog w' = .ok (.agg (tx (k4, u4, s4, .slice ad4 m4 cap4)).toArray) w' := fun w' hb => load7 (hc4.keep (hb.block ga hlt))
  refine inQ (J := Below w.heap.size w) (F := (· < w.heap.size)) Tryz.func112 (Below.refl _ _) fun a I => ?_
  obtain ⟨kd, hkd⟩ : ∃ kd, kdOf u2 = kd := ⟨_, rfl⟩
  have cnv := cnvZ u2
  rw [hkd] at cnv
  refine goT (T := Below w.heap.size w) [iA 48 Tryz.underlying48 (sz := 7) (by kernel_rfl) (g := ga) (off := offa) (n := 5) (cap := cap) (i := 2) (by decide), ldA 59 ld2, kC Tryz.func109 (small_term k2 u2 s2 ad2 m2 cap2), vO 23 3 (p := B (l0 u2)) (v := Z kd) cnv] (nonR w) (fun _ h => h) I fun β a w1 I hb => ?_
  have h1 : SM w1 g := by unfold SM; rw [I.hJ.block g hgl]; exact hm
  obtain ⟨sn, hsn⟩ : ∃ sn, sideN kd = sn := ⟨_, rfl⟩
  have hsl : sn ≤ 32 := by rw [← hsn]; exact sideN_le kd
  have hal : alcOf u0 u1 u2 u3 u4 = (bsL u0 32, u1, kd, bsL u3 sn, bsL u4 sn) := by unfold alcOf; rw [hkd, hsn]
  rw [hal]
  have hlk := sm_look1 h1 kd
  rw [sideN_eq, hsn] at hlk
  refine lokX (t := 164) (m := .map (some g)) (k := Z kd) (ok := false) (v := Z sn) I hlk ?_
  have I := I.same (Z sn)
  refine goQ [] (nonR w) I fun β2 a2 w2 I hb2 => ?_
  refine dwT (T := Below w.heap.size w) 19 [iA 48 Tryz.underlying48 (sz := 7) (by kernel_rfl) (g := ga) (off := offa) (n := 5) (cap := cap) (i := 0) (by decide), ldA 59 ld0, kC Tryz.func107 (lastBytes_any k0 u0 s0 ad0 m0 cap0 32 (by decide)),
    iA 48 Tryz.underlying48 (sz := 7) (by kernel_rfl) (g := ga) (off := offa) (n := 5) (cap := cap) (i := 1) (by decide), ldA 57 ld1,
    iA 48 Tryz.underlying48 (sz := 7) (by kernel_rfl) (g := ga) (off := offa) (n := 5) (cap := cap) (i := 3) (by decide), ldA 59 ld3, kC Tryz.func107 (lastBytes_any k3 u3 s3 ad3 m3 cap3 sn hsl),
    iA 48 Tryz.underlying48 (sz := 7) (by kernel_rfl) (g := ga) (off := offa) (n := 5) (cap := cap) (i := 4) (by decide), ldA 59 ld4, kC Tryz.func107 (lastBytes_any k4 u4 s4 ad4 m4 cap4 sn hsl)] (nonR w) (fun _ h => h) PanOk.post I fun a3 w3 I => ?_
  refine goQ [dO 133 [0, 1, 2, 3, 4] (bd_al (bsL u0 32) u1 kd (bsL u3 sn) (bsL u4 sn))] (nonR w) I fun β4 a4 w4 I hb4 => ?_
  exact outQ (v := .agg (al8 (bsL u0 32, u1, kd, bsL u3 sn, bsL u4 sn)).toArray) I ⟨rfl, I.hJ⟩
end Go.Proofs.YtdeompgdhaomgaaGreatDoor
namespace Go.Proofs.YtdeompgdhaomgaaGreatDoor
open Go.RowKit Go.Sort
set_option linter.unusedVariables false
set_option maxRecDepth 100000
def uAt {n : Nat} (l : List (TT n)) (i : Nat) : Nat := ((l[i]?).map fun t => t.2.1).getD 0
def alOfT {n : Nat} (t : TT (n + 1)) : Al := alcOf (uAt (n := n) t.2.2.2 0) (uAt (n := n) t.2.2.2 1) (uAt (n := n) t.2.2.2 2) (uAt (n := n) t.2.2.2 3) (uAt (n := n) t.2.2.2 4)
def alsOf {n : Nat} (t : TT (n + 2)) : List Al := List.map (α := TT (n + 1)) alOfT t.2.2.2
def tlist {n : Nat} (t : TT (n + 1)) : List (TT n) := t.2.2.2
def exOfT {n : Nat} (t : TT (n + 3)) : Ex := (bsL (uAt (tlist t) 0) 20, (((tlist t)[1]?).map alsOf).getD [])
def okAl {n : Nat} (t : TT (n + 1)) : Prop := ∃ t0 t1 t2 t3 t4 : TT n, t.2.2.2 = [t0, t1, t2, t3, t4] ∧ t1.2.1 < W
def okEx {n : Nat} (t : TT (n + 3)) : Prop := ∃ (t0 t1 : TT (n + 2)), t.2.2.2 = [t0, t1] ∧ List.length (α := TT (n + 1)) t1.2.2.2 < 100000000 ∧ ∀ a : TT (n + 1), List.Mem a t1.2.2.2 → okAl a
/-- The closure of allocations. -/
theorem alloc_clo {n : Nat} {w : World} {gs g : Nat} (hr : HasRow w gs #[.map (some g)]) (hm : SM w g) {t : TT (n + 1)} (ht : okAl t) {ad : Option Addr} {m cap : Nat} (h : LAf (· < w.heap.size) w (n + 1) (.slice ad m cap) t.2.2.2) : Calls Tryz.prog 111 #[.agg (tx (t.1, t.2.1, t.2.2.1, .slice ad m cap)).toArray, .pointer (some ⟨gs, 0, none⟩)] w (MemP CA (fun cs => .agg cs.toArray) (alOfT t) w) := by
  obtain ⟨k, u, s, l⟩ := t
  obtain ⟨t0, t1, t2, t3, t4, hl, hW⟩ := ht
  simp only [] at hl h ⊢
  subst hl
  have hgl : g < w.heap.size := (Array.getElem?_eq_some_iff.1 hm).1
  have hsl := hr.lt
  obtain rfl : m = 5 := by
    obtain ⟨ad', cap', he, _⟩ := h
    injection he
  have hA : ∀ w', Below w.heap.size w w' → Calls Tryz.prog 112 #[.slice ad 5 cap, .map (some g)] w' fun e w'' => e = .returned (.agg (al8 (alcOf t0.2.1 t1.2.1 t2.2.1 t3.2.1 t4.2.1)).toArray) ∧ Below w'.heap.size w' w'' := fun w' hb => allocOf_any ((h.keep fun k hk => hb.block k hk).mono fun k hk => Nat.lt_of_lt_of_le hk hb.size) (by unfold SM; rw [hb.block g hgl]; exact hm)
  have hld : ∀ w', Below w.heap.size w w' → (loadVar 164 ⟨gs, 0, none⟩).run Tryz.prog w' = .ok (.map (some g)) w' := fun w' hb => row_load Tryz.underlying164 rfl (hr.below hb)
  have hof : alOfT (n := n) (k, u, s, [t0, t1, t2, t3, t4]) = alcOf t0.2.1 t1.2.1 t2.2.1 t3.2.1 t4.2.1 := rfl
  rw [hof]
  obtain ⟨x, hx⟩ : ∃ x, alcOf t0.2.1 t1.2.1 t2.2.1 t3.2.1 t4.2.1 = x := ⟨_, rfl⟩
  have hxW : x.2.1 < W := by rw [← hx]; exact hW
  rw [hx] at hA ⊢
  obtain ⟨de, am, kd, le, ri⟩ := x
  refine inQ (J := Below w.heap.size w) (F := (· < w.heap.size)) Tryz.func111 (Below.refl _ _) fun a I => ?_
  refine goT (T := Below w.heap.size w) [ldA 164 hld, cA Tryz.func112 hA] (nonR w) (fun _ h => h) I fun β a w1 I hb => ?_
  exact outQ (v := .agg (al8 (de, am, kd, le, ri)).toArray) I ⟨I.hJ, al8 (de, am, kd, le, ri), noK, rfl, fun k hk => hk.elim, rfl, hxW⟩
theorem bd_ex (s : ByteArray) (ad : Option Addr) (n cap : Nat) (w : World) : (Instr.build 47 (([0, 1] : List Nat).zip [.string s, .slice ad n cap]).toArray).run Tryz.prog w = .ok (.agg #[.string s, .slice ad n cap]) w := by kernel_rfl
/-- A slice in memory that is kept. -/
structure SK {α : Type} (sz : Nat) (C : Cl α) (K : Nat → Prop) (lo : Nat) (v : Value) (l : List α) (w : World) : Prop where
  kb : ∀ k, K k → lo ≤ k ∧ k < w.heap.size
  sl : SlI sz C K w v l
theorem SK.rs {α : Type} {C : Cl α} (hC : Loc C) (sz : Nat) (K : Nat → Prop) (lo : Nat) (v : Value) (l : List α) : Rsrc (SK sz C K lo v l) K :=
  ⟨fun w w' h gr => ⟨fun k hk => ⟨(h.kb k hk).1, Nat.lt_of_lt_of_le (h.kb k hk).2 gr.size⟩, h.sl.keep hC fun k hk => ⟨hk, gr.block k (h.kb k hk).2 hk⟩⟩, fun w k h hk => (h.kb k hk).2⟩
/-- The closure of exits. -/
theorem exit_clo {n : Nat} {w : World} {gc gs g : Nat} (hc : HasRow w gc #[.func (.func 111) #[] #[.pointer (some ⟨gs, 0, none⟩)]]) (hr : HasRow w gs #[.map (some g)]) (hm : SM w g) {t : TT (n + 3)} (ht : okEx t) {ad : Option Addr} {m cap : Nat} (h : LAf (· < w.heap.size) w (n + 3) (.slice ad m cap) t.2.2.2) : Calls Tryz.prog 114 #[.agg (tx (t.1, t.2.1, t.2.2.1, .slice ad m cap)).toArray, .pointer (some ⟨gc, 0, none⟩)] w (MemP CE (fun cs => .agg cs.toArray) (exOfT t) w) := by
  obtain ⟨k, u, s, l⟩ := t
  obtain ⟨⟨k0, u0, s0, x0⟩, ⟨k1, u1, s1, x1⟩, hl, hn1, hok⟩ := ht
  simp only [] at hl h hn1 hok ⊢
  subst hl
  have hgl : g < w.heap.size := (Array.getElem?_eq_some_iff.1 hm).1
  obtain ⟨ad', cap', he, hh⟩ := h
  have he1 : ad = ad' ∧ m = 2 := by injection he with h1 h2 h3; exact ⟨h1, h2⟩
  obtain ⟨rfl, rfl⟩ := he1
  obtain ⟨ga, offa, v0, rfl, hlt, hc0, hL0⟩ := hh 0 (k0, u0, s0, x0) rfl
  obtain ⟨g1, o1, v1, e1, _, hc1, hL1⟩ := hh 1 (k1, u1, s1, x1) rfl
  cases e1
  obtain ⟨ad0, m0, cap0, rfl⟩ := hL0.slice
  simp only [] at hc0 hc1 hL1
  obtain ⟨ad1, cap1, hv1⟩ : ∃ ad1 cap1, v1 = .slice ad1 (List.length (α := TT (n + 1)) x1) cap1 := by
    obtain ⟨a1, c1, hv, _⟩ := hL1
    exact ⟨a1, c1, hv⟩
  subst hv1
  have ld0 : ∀ w', Below w.heap.size w w' → (loadVar 59 ⟨ga, offa + 0 * 7, none⟩).run Tryz.prog w' = .ok (.agg (tx (k0, u0, s0, .slice ad0 m0 cap0)).toArray) w' := fun w' hb => load7 (hc0.keep (hb.block ga hlt))
  have ld1 : ∀ w', Below w.heap.size w w' → (loadVar 59 ⟨ga, offa + 1 * 7, none⟩).run Tryz.prog w' = .ok (.agg (tx (k1, u1, s1, .slice ad1 (List.length (α := TT (n + 1)) x1) cap1)).toArray) w' := fun w' hb => load7 (hc1.keep (hb.block ga hlt))
  have ldc : ∀ w', Below w.heap.size w w' → (loadVar 167 ⟨gc, 0, none⟩).run Tryz.prog w' = .ok (.func (.func 111) #[] #[.pointer (some ⟨gs, 0, none⟩)]) w' := fun w' hb => row_load Tryz.underlying167 rfl (hc.below hb)
  refine inQ (J := Below w.heap.size w) (F := (· < w.heap.size)) Tryz.func114 (Below.refl _ _) fun a I => ?_
  refine goQ [] (nonR w) I fun β a w1 I hb => ?_
  refine dwT (T := Below w.heap.size w) 10 [iA 48 Tryz.underlying48 (sz := 7) (by kernel_rfl) (g := ga) (off := offa) (n := 2) (cap := cap) (i := 0) (by decide), ldA 59 ld0, kC Tryz.func107 (lastBytes_any k0 u0 s0 ad0 m0 cap0 20 (by decide)), iA 48 Tryz.underlying48 (sz := 7) (by kernel_rfl) (g := ga) (off := offa) (n := 2) (cap := cap) (i := 1) (by decide), ldA 59 ld1, ldA 167 ldc] (nonR w) (fun _ h => h) PanOk.post I fun a2 w2 I => ?_
  refine mcall (ss := [Sum.inl (.agg (tx (k1, u1, s1, .slice ad1 (List.length (α := TT (n + 1)) x1) cap1)).toArray), Sum.inl (.func (.func 111) #[] #[.pointer (some ⟨gs, 0, none⟩)])]) Tryz.func115 I ?_
  have hb2 := I.hJ
  have hsz2 := hb2.size
  have hL2 : LAf (· < w2.heap.size) w2 (n + 2) (.slice ad1 (List.length (α := TT (n + 1)) x1) cap1) x1 := (hL1.keep fun k hk => hb2.block k hk).mono fun k hk => Nat.lt_of_lt_of_le hk hsz2
  refine (unlisted110 (w := w2) (n := n + 1) (gq := gs) alOfT (k := k1) (u := u1) (s := s1) hL2 hn1 fun t ht adt mt capt hLt w' hb => alloc_clo ((hr.below hb2).below hb) (by unfold SM; rw [hb.block g (by omega), hb2.block g hgl]; exact hm) (hok t ht) ((hLt.keep fun k hk => hb.block k hk).mono fun k hk => Nat.lt_of_lt_of_le hk hb.size)).mono fun e w3 he => ?_
  obtain ⟨hb3, adr, capr, K, rfl, hcr, hK, hS⟩ := he
  have hex : exOfT (n := n) (k, u, s, [(k0, u0, s0, x0), (k1, u1, s1, x1)]) = (bsL u0 20, List.map (α := TT (n + 1)) alOfT x1) := rfl
  rw [hex]
  obtain ⟨L, hLL⟩ : ∃ L, List.map (α := TT (n + 1)) alOfT x1 = L := ⟨_, rfl⟩
  rw [hLL] at hS hcr ⊢
  have I3 : SI (fun w' => Below w.heap.size w w' ∧ SK 8 CA K w2.heap.size (.slice adr L.length capr) L w') (fun k => k < w.heap.size ∨ K k) [] β _ _ w3 := I.moved (Grow.of_below hb3) ⟨hb2.trans (hb3.mono hsz2), hK, hS⟩ (fun k hk h => by
    rcases h with h | h
    · exact h
    · have := (hK k h).1; omega) (.slice adr L.length capr)
  refine goQ [dO 47 [0, 1] (bd_ex (bsL u0 20) adr L.length capr)] ((nonR w).both (SK.rs CA.loc _ _ _ _ _)) I3 fun β4 a4 w4 I hb4 => ?_
  exact outQ (v := .agg #[.string (bsL u0 20), .slice adr L.length capr]) I ⟨I.hJ.1, [.string (bsL u0 20), .slice adr L.length capr], K, rfl, fun k hk => ⟨by have := (I.hJ.2.kb k hk).1; omega, (I.hJ.2.kb k hk).2⟩, _, rfl, I.hJ.2.sl⟩
end Go.Proofs.YtdeompgdhaomgaaGreatDoor
namespace Go.Proofs.YtdeompgdhaomgaaGreatDoor
open Go.RowKit Go.Sort
set_option linter.unusedVariables false
set_option maxRecDepth 100000
def exsOf {n : Nat} (t : TT (n + 4)) : List Ex := (tlist t).map exOfT
def vaOf {n : Nat} (ts : List (TT (n + 4))) : Va := (l0 (uAt ts 0), decide (l0 (uAt ts 1) = 1), ((ts[2]?).map fun t => t.2.2.1).getD eB, ((ts[3]?).map exsOf).getD [])
def okVa {n : Nat} (ts : List (TT (n + 4))) : Prop := ∃ t0 t1 t2 t3 : TT (n + 4), ts = [t0, t1, t2, t3] ∧ List.length (α := TT (n + 3)) t3.2.2.2 < 100000000 ∧ ∀ a : TT (n + 3), List.Mem a t3.2.2.2 → okEx a
theorem run_eqlU {x y : Nat} {b : Bool} (h : decide (x = y) = b) (o1 o2 : Operand) (w : World) : (do eqGuard .eql 23 o1 o2 (B x) (B y); binOp .eql 23 (B x) (B y) : Sem Value).run Tryz.prog w = .ok (.bool b) w := by
  rw [← h]
  by_cases q : x = y
  · subst q; simp [go_sem]
  · have q' : ¬ (x : Int) = (y : Int) := by omega
    simp [go_sem, q, q']
theorem bd_va (tu : Nat) (fi : Bool) (da : ByteArray) (ad : Option Addr) (n cap : Nat) (w : World) : (Instr.build 28 (([0, 1, 2, 3] : List Nat).zip [B tu, .bool fi, .string da, .slice ad n cap]).toArray).run Tryz.prog w = .ok (.agg #[B tu, .bool fi, .string da, .slice ad n cap]) w := by kernel_rfl
/-- A state that is handed back. -/
def VaP (v : Va) (w : World) (e : Ending) (w' : World) : Prop := Below w.heap.size w w' ∧ ∃ ad cap K, e = .returned (vaV v (.slice ad v.2.2.2.length cap)) ∧ (∀ k, K k → w.heap.size ≤ k ∧ k < w'.heap.size) ∧ SlI 2 CE K w' (.slice ad v.2.2.2.length cap) v.2.2.2
theorem varOf_any {n : Nat} {w : World} {ad : Option Addr} {m cap : Nat} {ts : List (TT (n + 4))} (hok : okVa ts) (h : LAf (· < w.heap.size) w (n + 5) (.slice ad m cap) ts) : Calls Tryz.prog 74 #[.slice ad m cap] w (VaP (vaOf ts) w) := by
  obtain ⟨⟨k0, u0, s0, x0⟩, ⟨k1, u1, s1, x1⟩, ⟨k2, u2, s2, x2⟩, ⟨k3, u3, s3, x3⟩, rfl, hn3, hok⟩ := hok
  simp only [] at hn3 hok
  obtain ⟨ad', cap', he, hh⟩ := h
  have he1 : ad = ad' ∧ m = 4 := by injection he with h1 h2 h3; exact ⟨h1, h2⟩
  obtain ⟨rfl, rfl⟩ := he1
  obtain ⟨ga, offa, v0, rfl, hlt, hc0, hL0⟩ := hh 0 (k0, u0, s0, x0) rfl
  obtain ⟨g1, o1, v1, e1, _, hc1, hL1⟩ := hh 1 (k1, u1, s1, x1) rfl
  obtain ⟨g2, o2, v2, e2, _, hc2, hL2⟩ := hh 2 (k2, u2, s2, x2) rfl
  obtain ⟨g3, o3, v3, e3, _, hc3, hL3⟩ := hh 3 (k3, u3, s3, x3) rfl
  cases e1; cases e2; cases e3
  obtain ⟨ad0, m0, cap0, rfl⟩ := hL0.slice
  obtain ⟨ad1, m1, cap1, rfl⟩ := hL1.slice
  simp only [] at hc0 hc1 hc2 hc3 hL3
  obtain ⟨ad3, cap3, hv3⟩ : ∃ ad3 cap3, v3 = .slice ad3 (List.length (α := TT (n + 3)) x3) cap3 := by
    obtain ⟨a1, c1, hv, _⟩ := hL3
    exact ⟨a1, c1, hv⟩
  subst hv3
  have ld0 : ∀ w', Below w.heap.size w w' → (loadVar 59 ⟨ga, offa + 0 * 7, none⟩).run Tryz.prog w' = .ok (.agg (tx (k0, u0, s0, .slice ad0 m0 cap0)).toArray) w' := fun w' hb => load7 (hc0.keep (hb.block ga hlt))
  have ld1 : ∀ w', Below w.heap.size w w' → (loadVar 59 ⟨ga, offa + 1 * 7, none⟩).run Tryz.prog w' = .ok (.agg (tx (k1, u1, s1, .slice ad1 m1 cap1)).toArray) w' := fun w' hb => load7 (hc1.keep (hb.block ga hlt))
  have ld2 : ∀ w', Below w.heap.size w w' → (loadVar 9 ⟨ga, offa + 2 * 7 + 5, none⟩).run Tryz.prog w' = .ok (.string s2) w' := fun w' hb => load1 (hc2.keep (hb.block ga hlt)) 5 rfl 9 Tryz.underlying9 rfl
  have ld3 : ∀ w', Below w.heap.size w w' → (loadVar 59 ⟨ga, offa + 3 * 7, none⟩).run Tryz.prog w' = .ok (.agg (tx (k3, u3, s3, .slice ad3 (List.length (α := TT (n + 3)) x3) cap3)).toArray) w' := fun w' hb => load7 (hc3.keep (hb.block ga hlt))
  refine inQ (J := Below w.heap.size w) (F := (· < w.heap.size)) Tryz.func74 (Below.refl _ _) fun a I => ?_
  refine goQ [] (nonR w) I fun β a w1 I hb => ?_
  refine mcall (ss := []) Tryz.func110 I ?_
  refine (sides_any w1).mono fun e w2 he => ?_
  obtain ⟨hb2, g, rfl, hg1, hg2, hg3⟩ := he
  have hsz1 := I.hJ.size
  have I2 : SI (MJ w g smA 2) (fun k => k < w.heap.size ∨ k = g) [] β _ _ w2 := I.moved (Grow.of_below hb2) ⟨I.hJ.trans (hb2.mono hsz1), by omega, hg3⟩ (fun k hk h => by
    rcases h with h | h
    · exact h
    · omega) (.map (some g))
  refine goQ [] (MJ.rs w g smA 2) I2 fun β3 a3 w3 I hb3 => ?_
  refine mfnQ (.func 111) [Sum.inr (1, 0)] I ?_
  obtain ⟨gs, hgs⟩ : ∃ gs, β3 1 = gs := ⟨_, rfl⟩
  have I4 := I.same (.func (.func 111) #[] #[.pointer (some ⟨gs, 0, none⟩)])
  have hup : (List.map (up β3) [Sum.inr (1, 0)]).toArray = #[.pointer (some ⟨gs, 0, none⟩)] := by rw [← hgs]; rfl
  rw [hup]
  refine goT (T := MJ w g smA 2) [iA 48 Tryz.underlying48 (sz := 7) (by kernel_rfl) (g := ga) (off := offa) (n := 4) (cap := cap) (i := 3) (by decide), ldA 59 fun w' h => ld3 w' h.bw] (MJ.rs w g smA 2) (fun _ h => h) I4 fun β5 a5 w5 I hb5 => ?_
  refine mfnQ (.func 114) [Sum.inr (2, 0)] I ?_
  obtain ⟨gc, hgc⟩ : ∃ gc, β5 2 = gc := ⟨_, rfl⟩
  have hgs5 : β5 1 = gs := agr hb5 1 hgs
  have hrow1 := I.rowG 1 hgs5 (r := #[.map (some g)])
  have hrow2 := I.rowG 2 hgc (r := #[.func (.func 111) #[] #[.pointer (some ⟨gs, 0, none⟩)]])
  have I6 := I.same (.func (.func 114) #[] #[.pointer (some ⟨gc, 0, none⟩)])
  have hup2 : (List.map (up β5) [Sum.inr (2, 0)]).toArray = #[.pointer (some ⟨gc, 0, none⟩)] := by rw [← hgc]; rfl
  rw [hup2]
  refine mcall (ss := [Sum.inl (.agg (tx (k3, u3, s3, .slice ad3 (List.length (α := TT (n + 3)) x3) cap3)).toArray), Sum.inl (.func (.func 114) #[] #[.pointer (some ⟨gc, 0, none⟩)])]) Tryz.func113 I6 ?_
  have hJ6 := I6.hJ
  have hsz6 := hJ6.bw.size
  have hgl6 : g < w5.heap.size := (Array.getElem?_eq_some_iff.1 hJ6.at_).1
  have hL6 : LAf (· < w5.heap.size) w5 (n + 4) (.slice ad3 (List.length (α := TT (n + 3)) x3) cap3) x3 := (hL3.keep fun k hk => hJ6.bw.block k hk).mono fun k hk => Nat.lt_of_lt_of_le hk hsz6
  refine (unlisted108 (w := w5) (n := n + 3) (gq := gc) exOfT (k := k3) (u := u3) (s := s3) hL6 hn3 fun t ht adt mt capt hLt w' hb => exit_clo (hrow2.below hb) (hrow1.below hb) (by unfold SM; rw [hb.block g hgl6]; exact hJ6.at_) (hok t ht) ((hLt.keep fun k hk => hb.block k hk).mono fun k hk => Nat.lt_of_lt_of_le hk hb.size)).mono fun e w7 he => ?_
  obtain ⟨hb7, adr, capr, K, rfl, hcr, hK, hS⟩ := he
  have hva : vaOf (n := n) [(k0, u0, s0, x0), (k1, u1, s1, x1), (k2, u2, s2, x2), (k3, u3, s3, x3)] = (l0 u0, decide (l0 u1 = 1), s2, List.map (α := TT (n + 3)) exOfT x3) := rfl
  rw [hva]
  obtain ⟨L, hLL⟩ : ∃ L, List.map (α := TT (n + 3)) exOfT x3 = L := ⟨_, rfl⟩
  rw [hLL] at hS hcr ⊢
  have I8 : SI (fun w' => MJ w g smA 2 w' ∧ SK 2 CE K w5.heap.size (.slice adr L.length capr) L w') (fun k => (k < w.heap.size ∨ k = g) ∨ K k) [] β5 _ _ w7 := I6.moved (Grow.of_below hb7) ⟨(MJ.rs w g smA 2).loc w5 w7 hJ6 (Grow.of_below hb7), hK, hS⟩ (fun k hk h => by
    rcases h with h | h
    · exact h
    · have := (hK k h).1; omega) (.slice adr L.length capr)
  refine goQ [] ((MJ.rs w g smA 2).both (SK.rs CE.loc _ _ _ _ _)) I8 fun β9 a9 w9 I hb9 => ?_
  refine dwT (T := Below w.heap.size w) 14 [iA 48 Tryz.underlying48 (sz := 7) (by kernel_rfl) (g := ga) (off := offa) (n := 4) (cap := cap) (i := 0) (by decide), ldA 59 ld0, kC Tryz.func109 (small_term k0 u0 s0 ad0 m0 cap0), iA 48 Tryz.underlying48 (sz := 7) (by kernel_rfl) (g := ga) (off := offa) (n := 4) (cap := cap) (i := 1) (by decide), ldA 59 ld1, kC Tryz.func109 (small_term k1 u1 s1 ad1 m1 cap1), bO .eql 23 (run_eqlU (x := l0 u1) (y := 1) (b := decide (l0 u1 = 1)) rfl), iA 48 Tryz.underlying48 (sz := 7) (by kernel_rfl) (g := ga) (off := offa) (n := 4) (cap := cap) (i := 2) (by decide), ldA 9 ld2] ((MJ.rs w g smA 2).both (SK.rs CE.loc _ _ _ _ _)) (fun _ h => h.1.bw) PanOk.post I fun a10 w10 I => ?_
  refine goQ [dO 28 [0, 1, 2, 3] (bd_va (l0 u0) (decide (l0 u1 = 1)) s2 adr L.length capr)] ((MJ.rs w g smA 2).both (SK.rs CE.loc _ _ _ _ _)) I fun β11 a11 w11 I hb11 => ?_
  exact outQ (v := .agg #[B (l0 u0), .bool (decide (l0 u1 = 1)), .string s2, .slice adr L.length capr]) I ⟨I.hJ.1.bw, adr, capr, K, rfl, fun k hk => ⟨by have := (I.hJ.2.kb k hk).1; omega, (I.hJ.2.kb k hk).2⟩, I.hJ.2.sl⟩
def pasOf {n : Nat} (t : TT (n + 1)) : List ByteArray := (tlist t).map fun t => bsL t.2.1 20
def fiOf {n : Nat} (ts : List (TT (n + 1))) : Fi := (((ts[0]?).map pasOf).getD [], l0 (uAt ts 1), ((ts[2]?).map fun t => t.2.2.1).getD eB, kdOf (uAt ts 3))
def okFi {n : Nat} (ts : List (TT (n + 1))) : Prop := ∃ t0 t1 t2 t3 : TT (n + 1), ts = [t0, t1, t2, t3] ∧ List.length (α := TT n) t0.2.2.2 < 100000000
theorem bd_fi (ad : Option Addr) (n cap : Nat) (no : Nat) (da : ByteArray) (ti : Int) (w : World) : (Instr.build 25 #[(0, .slice ad n cap), (1, B no), (2, .string da), (3, Z ti)]).run Tryz.prog w = .ok (.agg #[.slice ad n cap, B no, .string da, Z ti]) w := by kernel_rfl
/-- A channel that is handed back. -/
def FiP (f : Fi) (w : World) (e : Ending) (w' : World) : Prop := Below w.heap.size w w' ∧ ∃ ad cap K, e = .returned (fxdV f (.slice ad f.1.length cap)) ∧ f.1.length ≤ cap ∧ (∀ k, K k → w.heap.size ≤ k ∧ k < w'.heap.size) ∧ SlI 1 CS K w' (.slice ad f.1.length cap) f.1
theorem fixedOf_any {n : Nat} {w : World} {ad : Option Addr} {m cap : Nat} {ts : List (TT (n + 1))} (hok : okFi ts) (h : LAf (· < w.heap.size) w (n + 2) (.slice ad m cap) ts) : Calls Tryz.prog 73 #[.slice ad m cap] w (FiP (fiOf ts) w) := by
  obtain ⟨⟨k0, u0, s0, x0⟩, ⟨k1, u1, s1, x1⟩, ⟨k2, u2, s2, x2⟩, ⟨k3, u3, s3, x3⟩, rfl, hn0⟩ := hok
  simp only [] at hn0
  obtain ⟨ad', cap', he, hh⟩ := h
  have he1 : ad = ad' ∧ m = 4 := by injection he with h1 h2 h3; exact ⟨h1, h2⟩
  obtain ⟨rfl, rfl⟩ := he1
  obtain ⟨ga, offa, v0, rfl, hlt, hc0, hL0⟩ := hh 0 (k0, u0, s0, x0) rfl
  obtain ⟨g1, o1, v1, e1, _, hc1, hL1⟩ := hh 1 (k1, u1, s1, x1) rfl
  obtain ⟨g2, o2, v2, e2, _, hc2, hL2⟩ := hh 2 (k2, u2, s2, x2) rfl
  obtain ⟨g3, o3, v3, e3, _, hc3, hL3⟩ := hh 3 (k3, u3, s3, x3) rfl
  cases e1; cases e2; cases e3
  obtain ⟨ad1, m1, cap1, rfl⟩ := hL1.slice
  obtain ⟨ad3, m3, cap3, rfl⟩ := hL3.slice
  simp only [] at hc0 hc1 hc2 hc3 hL0
  obtain ⟨ad0, cap0, hv0⟩ : ∃ ad0 cap0, v0 = .slice ad0 (List.length (α := TT n) x0) cap0 := by
    obtain ⟨a1, c1, hv, _⟩ := hL0
    exact ⟨a1, c1, hv⟩
  subst hv0
  have ld0 : ∀ w', Below w.heap.size w w' → (loadVar 59 ⟨ga, offa + 0 * 7, none⟩).run Tryz.prog w' = .ok (.agg (tx (k0, u0, s0, .slice ad0 (List.length (α := TT n) x0) cap0)).toArray) w' := fun w' hb => load7 (hc0.keep (hb.block ga hlt))
  have ld1 : ∀ w', Below w.heap.size w w' → (loadVar 59 ⟨ga, offa + 1 * 7, none⟩).run Tryz.prog w' = .ok (.agg (tx (k1, u1, s1, .slice ad1 m1 cap1)).toArray) w' := fun w' hb => load7 (hc1.keep (hb.block ga hlt))
  have ld2 : ∀ w', Below w.heap.size w w' → (loadVar 9 ⟨ga, offa + 2 * 7 + 5, none⟩).run Tryz.prog w' = .ok (.string s2) w' := fun w' hb => load1 (hc2.keep (hb.block ga hlt)) 5 rfl 9 Tryz.underlying9 rfl
  have ld3 : ∀ w', Below w.heap.size w w' → (loadVar 59 ⟨ga, offa + 3 * 7, none⟩).run Tryz.prog w' = .ok (.agg (tx (k3, u3, s3, .slice ad3 m3 cap3)).toArray) w' := fun w' hb => load7 (hc3.keep (hb.block ga hlt))
  have hfi : fiOf (n := n) [(k0, u0, s0, x0), (k1, u1, s1, x1), (k2, u2, s2, x2), (k3, u3, s3, x3)] = (List.map (α := TT n) (fun t => bsL t.2.1 20) x0, l0 u1, s2, kdOf u3) := rfl
  rw [hfi]
  obtain ⟨L, hLL⟩ : ∃ L, List.map (α := TT n) (fun t => bsL t.2.1 20) x0 = L := ⟨_, rfl⟩
  rw [hLL]
  obtain ⟨kd, hkd⟩ : ∃ kd, kdOf u3 = kd := ⟨_, rfl⟩
  have cnv := cnvZ u3
  rw [hkd] at cnv ⊢
  refine inQ (J := Below w.heap.size w) (F := (· < w.heap.size)) Tryz.func73 (Below.refl _ _) fun a I => ?_
  refine goQ [] (nonR w) I fun β a w1 I hb => ?_
  refine mkfX (fn := .func 106) (ss := []) I ?_
  have I2 := I.same (fnV 106)
  refine goQ [] (nonR w) I2 fun β2 a2 w2 I hb2 => ?_
  have hsz : a2.tmps.size = 23 := by rw [I.fr]; kernel_rfl
  have hbw1 := I.hJ
  have hge1 := hbw1.size
  have I1 := I
  refine dwL (T := Below w.heap.size w) [(4, none), (18, none)] [iA 48 Tryz.underlying48 (sz := 7) (by kernel_rfl) (g := ga) (off := offa) (n := 4) (cap := cap) (i := 0) (by decide), ldA 59 ld0, iA 48 Tryz.underlying48 (sz := 7) (by kernel_rfl) (g := ga) (off := offa) (n := 4) (cap := cap) (i := 1) (by decide), ldA 59 ld1, kC Tryz.func109 (small_term k1 u1 s1 ad1 m1 cap1), iA 48 Tryz.underlying48 (sz := 7) (by kernel_rfl) (g := ga) (off := offa) (n := 4) (cap := cap) (i := 2) (by decide), ldA 9 ld2, iA 48 Tryz.underlying48 (sz := 7) (by kernel_rfl) (g := ga) (off := offa) (n := 4) (cap := cap) (i := 3) (by decide), ldA 59 ld3, kC Tryz.func109 (small_term k3 u3 s3 ad3 m3 cap3), vO 23 3 (p := B (l0 u3)) (v := Z kd) cnv]
    (fun j v w' => (j = 4 → ∃ adr capr K, v = .slice adr L.length capr ∧ L.length ≤ capr ∧ (∀ k, K k → w2.heap.size ≤ k ∧ k < w'.heap.size) ∧ SlI 1 CS K w' (.slice adr L.length capr) L) ∧ (j = 18 → ∃ adr capr K, v = .agg #[.slice adr L.length capr, B (l0 u1), .string s2, Z kd] ∧ L.length ≤ capr ∧ (∀ k, K k → w2.heap.size ≤ k ∧ k < w'.heap.size) ∧ SlI 1 CS K w' (.slice adr L.length capr) L)) ?_ (nonR w) (fun _ h => h) I ?_ ?_
  · intro j v w' w'' h hb
    refine ⟨fun hj => ?_, fun hj => ?_⟩
    · obtain ⟨adr, capr, K, q1, q0, q2, q3⟩ := h.1 hj
      exact ⟨adr, capr, K, q1, q0, fun k hk => ⟨(q2 k hk).1, Nat.lt_of_lt_of_le (q2 k hk).2 hb.size⟩, q3.keep CS.loc fun k hk => ⟨hk, hb.block k (q2 k hk).2⟩⟩
    · obtain ⟨adr, capr, K, q1, q0, q2, q3⟩ := h.2 hj
      exact ⟨adr, capr, K, q1, q0, fun k hk => ⟨(q2 k hk).1, Nat.lt_of_lt_of_le (q2 k hk).2 hb.size⟩, q3.keep CS.loc fun k hk => ⟨hk, hb.block k (q2 k hk).2⟩⟩
  · intro p hp2 o ho listed vs a' w' hF hrd hbw hV hev
    have hbw' : Below w.heap.size w w' := hbw1.trans (hbw.mono hbw1.size)
    have hge := hbw.size
    simp only [List.mem_cons, List.not_mem_nil, or_false] at hp2
    rcases hp2 with rfl | rfl
    · obtain ⟨o1, o2, o3⟩ := opD_get (x := .call ⟨.value (.func 108), #[.tmp 6, .tmp 7], #[59, 110]⟩) (d := some 8) ho (by kernel_rfl)
      have q1 : a'.eval (.tmp 6) = .agg (tx (k0, u0, s0, .slice ad0 (List.length (α := TT n) x0) cap0)).toArray := hev (.tmp 6) (Sum.inl (.agg (tx (k0, u0, s0, .slice ad0 (List.length (α := TT n) x0) cap0)).toArray)) (by kernel_rfl)
      have q2 : a'.eval (.tmp 7) = fnV 106 := hev (.tmp 7) (Sum.inl (fnV 106)) (by kernel_rfl)
      refine callG o1 o3 Tryz.func108 (by kernel_rfl) (by kernel_rfl) (args := #[.agg (tx (k0, u0, s0, .slice ad0 (List.length (α := TT n) x0) cap0)).toArray, fnV 106]) (by rw [map2, q1, q2]) ?_
      refine (unlisted101 (w := w') (n := n) (fun t => bsL t.2.1 20) (k := k0) (u := u0) (s := s0) (ts := x0) ((hL0.keep fun k hk => hbw'.block k hk).mono fun k hk => Nat.lt_of_lt_of_le hk hbw'.size) hn0 fun t ht adt mt capt hLt w2 hb => who_any (n := n) t.1 t.2.1 t.2.2.1 adt mt capt w2).mono fun e w2 he => ?_
      obtain ⟨hb2, adr, capr, K, rfl, hcr, hK, hS⟩ := he
      rw [hLL] at hcr hS ⊢
      exact ⟨_, rfl, fun u hu => (by cases hu), ⟨fun _ => ⟨adr, capr, K, rfl, hcr, fun k hk => ⟨by have := (hK k hk).1; omega, (hK k hk).2⟩, hS⟩, fun hj => (by cases hj)⟩, hb2⟩
    · obtain ⟨o1, o2, o3⟩ := opD_get (x := .build 25 #[(0, .tmp 8), (1, .tmp 12), (2, .tmp 16), (3, .tmp 21)]) (d := some 22) ho (by kernel_rfl)
      have hl4 := waits_done (ops := opsD _) (i := 18) (j := 4) (by kernel_rfl) hrd
      have q1 : a'.eval (.tmp 8) = vs 4 := hF.new (i := 4) (by kernel_rfl) (by omega) hl4
      have q2 : a'.eval (.tmp 12) = B (l0 u1) := hev (.tmp 12) (Sum.inl (B (l0 u1))) (by kernel_rfl)
      have q3 : a'.eval (.tmp 16) = .string s2 := hev (.tmp 16) (Sum.inl (.string s2)) (by kernel_rfl)
      have q4 : a'.eval (.tmp 21) = Z kd := hev (.tmp 21) (Sum.inl (Z kd)) (by kernel_rfl)
      obtain ⟨adr, capr, K, e4, hcr, hK, hS⟩ := (hV (4, none) (by simp) hl4).1 rfl
      refine wpG_mono (fun a'' w'' h => ?_) (buildG (v := .agg #[.slice adr L.length capr, B (l0 u1), .string s2, Z kd]) o1 o3 ?_)
      · obtain ⟨rfl, rfl⟩ := h
        exact ⟨_, rfl, fun u hu => (by cases hu), ⟨fun hj => (by cases hj), fun _ => ⟨adr, capr, K, rfl, hcr, hK, hS⟩⟩, Below.refl _ _⟩
      · rw [map4]
        simp only [q1, q2, q3, q4, e4]
        exact bd_fi adr L.length capr (l0 u1) s2 kd w'
  · intro vs a3 w3 hV I
    obtain ⟨adr, capr, K, e18, hcr, hK, hS⟩ := (hV (18, none) (by simp) (of_decide_eq_true (by kernel_rfl))).2 rfl
    obtain ⟨vs', rfl⟩ : ∃ vs', vs = fun j => if j = 18 then .agg #[.slice adr L.length capr, B (l0 u1), .string s2, Z kd] else vs' j := ⟨vs, funext fun j => by split <;> rename_i hj <;> simp [hj, e18]⟩
    have I2 := I.also (J' := SK 1 CS K w2.heap.size (.slice adr L.length capr) L) (F' := K) ⟨hK, hS⟩ (fun p hp h => by
      have q1 := (I1.row p hp).lt
      have q2 := (hK _ h).1
      omega)
    refine goQ [] ((nonR w).both (SK.rs CS.loc _ _ _ _ _)) I2 fun β4 a4 w4 I hb4 => ?_
    exact outQ (v := .agg #[.slice adr L.length capr, B (l0 u1), .string s2, Z kd]) I ⟨I.hJ.1, adr, capr, K, rfl, hcr, fun k hk => ⟨by have := (hK k hk).1; omega, (I.hJ.2.kb k hk).2⟩, I.hJ.2.sl⟩
end Go.Proofs.YtdeompgdhaomgaaGreatDoor
