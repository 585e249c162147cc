/- Rows of terms that are the same. -/
import Derived.Test.YtjjiendgmnlokaaDoorKdWm
namespace Go.Proofs.YtjjiendgmnlokaaDoor
open Go.RowKit Go.Sort
set_option linter.unusedVariables false
set_option maxRecDepth 100000
theorem neqU_run {n m : Nat} (hn : n < W) (hm : m < W) {q : Bool} (h : decide (n ≠ m) = q) (x y : Operand) (w : World) : (do eqGuard .neq 39 x y (U n) (U m); binOp .neq 39 (U n) (U m) : Sem Value).run Tryd.prog w = .ok (.bool q) w := by
  have e := run_eqU n m hn hm w
  rw [← h]
  by_cases hx : n = m
  · subst hx
    have e2 := run_eqU_same n w
    simp [go_sem, e2]
  · rw [decide_eq_false hx] at e
    simp [go_sem, e, hx]
theorem neqT_run {a b : ByteArray} {q : Bool} (h : decide (a ≠ b) = q) (x y : Operand) (w : World) : (do eqGuard .neq 9 x y (.string a) (.string b); binOp .neq 9 (.string a) (.string b) : Sem Value).run Tryd.prog w = .ok (.bool q) w := by
  obtain ⟨la, rfl⟩ : ∃ l : List UInt8, a = ⟨l.toArray⟩ := ⟨a.data.toList, by simp⟩
  obtain ⟨lb, rfl⟩ : ∃ l : List UInt8, b = ⟨l.toArray⟩ := ⟨b.data.toList, by simp⟩
  have e : ((⟨la.toArray⟩ : ByteArray) = ⟨lb.toArray⟩) ↔ la = lb := ⟨fun e => by have := congrArg ByteArray.data e; simpa using this, fun e => by rw [e]⟩
  rw [← h]
  by_cases hx : la = lb
  · simp [go_sem, hx]
  · have h2 : ¬ ((⟨la.toArray⟩ : ByteArray) = ⟨lb.toArray⟩) := fun q => hx (e.1 q)
    simp [go_sem, hx]
def eqT {α : Type} (eq : α → α → Bool) (t u : Int × Nat × ByteArray × α) : Bool := decide (t.1 = u.1) && decide (t.2.1 = u.2.1) && decide (t.2.2.1 = u.2.2.1) && eq t.2.2.2 u.2.2.2
def sameL {α : Type} (eq : α → α → Bool) : List (Int × Nat × ByteArray × α) → List (Int × Nat × ByteArray × α) → Bool
  | [], [] => true
  | t :: l, u :: m => eqT eq t u && sameL eq l m
  | _, _ => false
def same : (n : Nat) → TL n → TL n → Bool
  | 0, _, _ => true
  | n + 1, l, m => sameL (same n) l m
theorem sameL_len {α : Type} {eq : α → α → Bool} : ∀ {l m : List (Int × Nat × ByteArray × α)}, l.length ≠ m.length → sameL eq l m = false
  | [], [], h => absurd rfl h
  | [], _ :: _, _ => rfl
  | _ :: _, [], _ => rfl
  | t :: l, u :: m, h => by rw [sameL, sameL_len (l := l) (m := m) (by simpa using h), Bool.and_false]
theorem sameL_bad {α : Type} {eq : α → α → Bool} : ∀ {l m : List (Int × Nat × ByteArray × α)} (i : Nat) {t u : Int × Nat × ByteArray × α}, l[i]? = some t → m[i]? = some u → eqT eq t u = false → sameL eq l m = false
  | [], _, i, t, u, h, _, _ => by simp at h
  | _ :: _, [], i, t, u, _, h, _ => by simp at h
  | t' :: l, u' :: m, 0, t, u, h1, h2, h => by
    simp only [List.getElem?_cons_zero, Option.some.injEq] at h1 h2
    subst h1 h2
    rw [sameL, h, Bool.false_and]
  | t' :: l, u' :: m, i + 1, t, u, h1, h2, h => by rw [sameL, sameL_bad (l := l) (m := m) i (by simpa using h1) (by simpa using h2) h, Bool.and_false]
theorem sameL_ok {α : Type} {eq : α → α → Bool} : ∀ {l m : List (Int × Nat × ByteArray × α)}, l.length = m.length → (∀ (i : Nat) t u, l[i]? = some t → m[i]? = some u → eqT eq t u = true) → sameL eq l m = true
  | [], [], _, _ => rfl
  | [], _ :: _, h, _ => by simp at h
  | _ :: _, [], h, _ => by simp at h
  | t :: l, u :: m, h, k => by rw [sameL, k 0 t u rfl rfl, sameL_ok (l := l) (m := m) (by simpa using h) (fun i t u h1 h2 => k (i + 1) t u (by simpa using h1) (by simpa using h2))]; rfl
abbrev smK : List Nat := [0, 1, 13, 14, 15]
abbrev smV (a b : Value) (len i : Nat) : Vs := frm 52 [(0, Sum.inl a), (1, Sum.inl b), (13, Sum.inl a), (14, Sum.inl (Z len)), (15, Sum.inl (Z i))]
theorem same_gen {α : Type} {W0 : World} {L : Value → α → Prop} {eq : α → α → Bool} {ok : α → Prop} (hc : ∀ lv x, L lv x → ∃ ad n cap, lv = .slice ad n cap)
    (hsub : ∀ (lv lv' : Value) (x y : α) (w : World), L lv x → L lv' y → ok x → ok y → Below W0.heap.size W0 w → Calls Tryd.prog 17 #[lv, lv'] w fun e w' => e = .returned (.bool (eq x y)) ∧ Below w.heap.size w w')
    {va vb : Value} {l m : List (Int × Nat × ByteArray × α)} (hl : LAs W0 L va l) (hm : LAs W0 L vb m) (okl : ∀ t ∈ l, t.2.1 < W ∧ ok t.2.2.2) (okm : ∀ t ∈ m, t.2.1 < W ∧ ok t.2.2.2) (bl : l.length < 1000000000) (wS : World) (hbS : Below W0.heap.size W0 wS) :
    Calls Tryd.prog 17 #[va, vb] wS fun e w' => e = .returned (.bool (sameL eq l m)) ∧ Below wS.heap.size wS w' := by
  obtain ⟨ada, capa, rfl, hma⟩ := hl
  obtain ⟨adb, capb, rfl, hmb⟩ := hm
  refine inQ (J := Below wS.heap.size wS) (F := (· < wS.heap.size)) Tryd.func17 (Below.refl _ _) fun a I => ?_
  by_cases hlen : ¬ l.length = m.length
  · refine goQ [lS Tryd.underlying22 (ad := ada) (n := l.length) (cap := capa) rfl, lS Tryd.underlying22 (ad := adb) (n := m.length) (cap := capb) rfl, bO .neq 3 (run_neqZ (x := l.length) (y := m.length) (b := true) (by simp; omega))] (nonR wS) I fun β a w1 I hb => ?_
    exact outQ (v := .bool false) I ⟨by rw [sameL_len hlen], I.hJ⟩
  have hlen := Classical.not_not.1 hlen
  refine goQ [lS Tryd.underlying22 (ad := ada) (n := l.length) (cap := capa) rfl, lS Tryd.underlying22 (ad := adb) (n := m.length) (cap := capb) rfl, bO .neq 3 (run_neqZ (x := l.length) (y := m.length) (b := false) (by simp; omega)), lS Tryd.underlying22 (ad := ada) (n := l.length) (cap := capa) rfl] (nonR wS) I fun β a w1 I hb => ?_
  let St : Nat → Act → World → Prop := fun k a w' => ∃ (i : Nat) (β : Nat → Nat) (u : Nat → Value), k = l.length - i ∧ i ≤ l.length ∧ (∀ (j : Nat) t u, j < i → l[j]? = some t → m[j]? = some u → eqT eq t u = true) ∧
    SI (Below wS.heap.size wS) (· < wS.heap.size) [] β (cfC (bodyL Tryd.f17) (fillF (scrF 52 smK) u 0 (smV (.slice ada l.length capa) (.slice adb m.length capb) l.length i)) [] 0) a w'
  refine lpM (bodyL Tryd.f17) St l.length ?_ ?_
  · obtain ⟨u, Iu⟩ := I.scr (bodyL Tryd.f17) (scrF 52 smK) (smV (.slice ada l.length capa) (.slice adb m.length capb) l.length 0) [] 0
    exact ⟨0, β, u, by omega, Nat.zero_le _, fun j t u h => absurd h (Nat.not_lt_zero j), Iu⟩
  rintro k a3 w3 ⟨i, β3, u, rfl, hi, hok, I⟩
  refine wp_cfC (tm := fillF (scrF 52 smK) u 0 (smV (.slice ada l.length capa) (.slice adb m.length capb) l.length i)) (rows := []) (nx := 0) ?_
  rcases Nat.lt_or_ge i l.length with hil | hil
  · obtain ⟨⟨k1, n1, t1, s1⟩, h1⟩ : ∃ t, l[i]? = some t := ⟨_, List.getElem?_eq_getElem hil⟩
    obtain ⟨⟨k2, n2, t2, s2⟩, h2⟩ : ∃ t, m[i]? = some t := ⟨_, List.getElem?_eq_getElem (by omega)⟩
    obtain ⟨ga, offa, lva, rfl, hca, hLa⟩ := hma i _ h1
    obtain ⟨gb, offb, lvb, rfl, hcb, hLb⟩ := hmb i _ h2
    simp only [] at hca hLa hcb hLb
    obtain ⟨adx, nx, capx, rfl⟩ := hc _ _ hLa
    obtain ⟨ady, ny, capy, rfl⟩ := hc _ _ hLb
    obtain ⟨hW1, ho1⟩ := okl _ (List.mem_of_getElem? h1)
    obtain ⟨hW2, ho2⟩ := okm _ (List.mem_of_getElem? h2)
    simp only [] at hW1 ho1 hW2 ho2
    have hlda : ∀ w, Below wS.heap.size wS w → (loadVar 41 ⟨ga, offa + i * 7, none⟩).run Tryd.prog w = .ok (.agg #[Z k1, B (l0 n1), B (l1 n1), B (l2 n1), B (l3 n1), .string t1, .slice adx nx capx]) w := fun w hb => load7 (hca.keep ((hbS.trans (hb.mono hbS.size)).block ga hca.lt))
    have hldb : ∀ w, Below wS.heap.size wS w → (loadVar 41 ⟨gb, offb + i * 7, none⟩).run Tryd.prog w = .ok (.agg #[Z k2, B (l0 n2), B (l1 n2), B (l2 n2), B (l3 n2), .string t2, .slice ady ny capy]) w := fun w hb => load7 (hcb.keep ((hbS.trans (hb.mono hbS.size)).block gb hcb.lt))
    have him : i < m.length := by omega
    have bad : eqT eq (k1, n1, t1, s1) (k2, n2, t2, s2) = false → sameL eq l m = false := sameL_bad i h1 h2
    by_cases hk : ¬ k1 = k2
    · refine goT (T := Below wS.heap.size wS) [bO .lss 3 (run_lssZ (x := i) (y := l.length) (b := true) (by simp; omega)), iA 22 Tryd.underlying22 (sz := 7) (by kernel_rfl) (g := ga) (off := offa) (n := l.length) (cap := capa) hil, ldA 41 hlda, iA 22 Tryd.underlying22 (sz := 7) (by kernel_rfl) (g := gb) (off := offb) (n := m.length) (cap := capb) him, ldA 41 hldb, bO .neq 3 (run_neqZ (x := k1) (y := k2) (b := true) (by simp [hk]))] (nonR wS) (fun _ h => h) I fun β4 a4 w4 I hb4 => ?_
      exact endR (retV (v := .bool false) I ⟨by rw [bad (by simp [eqT, hk])], I.hJ⟩)
    have hk := Classical.not_not.1 hk
    by_cases hnn : ¬ n1 = n2
    · refine goT (T := Below wS.heap.size wS) [bO .lss 3 (run_lssZ (x := i) (y := l.length) (b := true) (by simp; omega)), iA 22 Tryd.underlying22 (sz := 7) (by kernel_rfl) (g := ga) (off := offa) (n := l.length) (cap := capa) hil, ldA 41 hlda, iA 22 Tryd.underlying22 (sz := 7) (by kernel_rfl) (g := gb) (off := offb) (n := m.length) (cap := capb) him, ldA 41 hldb, bO .neq 3 (run_neqZ (x := k1) (y := k2) (b := false) (by simp [hk])), bO .neq 39 (neqU_run (n := n1) (m := n2) hW1 hW2 (q := true) (by simp [hnn]))] (nonR wS) (fun _ h => h) I fun β4 a4 w4 I hb4 => ?_
      exact endR (retV (v := .bool false) I ⟨by rw [bad (by simp [eqT, hnn])], I.hJ⟩)
    have hnn := Classical.not_not.1 hnn
    by_cases htt : ¬ t1 = t2
    · refine goT (T := Below wS.heap.size wS) [bO .lss 3 (run_lssZ (x := i) (y := l.length) (b := true) (by simp; omega)), iA 22 Tryd.underlying22 (sz := 7) (by kernel_rfl) (g := ga) (off := offa) (n := l.length) (cap := capa) hil, ldA 41 hlda, iA 22 Tryd.underlying22 (sz := 7) (by kernel_rfl) (g := gb) (off := offb) (n := m.length) (cap := capb) him, ldA 41 hldb, bO .neq 3 (run_neqZ (x := k1) (y := k2) (b := false) (by simp [hk])), bO .neq 39 (neqU_run (n := n1) (m := n2) hW1 hW2 (q := false) (by simp [hnn])), bO .neq 9 (neqT_run (a := t1) (b := t2) (q := true) (by simp [htt]))] (nonR wS) (fun _ h => h) I fun β4 a4 w4 I hb4 => ?_
      exact endR (retV (v := .bool false) I ⟨by rw [bad (by simp [eqT, htt])], I.hJ⟩)
    have htt := Classical.not_not.1 htt
    have hs : ∀ w, Below wS.heap.size wS w → Calls Tryd.prog 17 #[.slice adx nx capx, .slice ady ny capy] w fun e w' => e = .returned (.bool (eq s1 s2)) ∧ Below w.heap.size w w' := fun w hb => hsub _ _ s1 s2 w hLa hLb ho1 ho2 (hbS.trans (hb.mono hbS.size))
    cases hq : eq s1 s2 with
    | false =>
      rw [hq] at hs
      refine goT (T := Below wS.heap.size wS) [bO .lss 3 (run_lssZ (x := i) (y := l.length) (b := true) (by simp; omega)), iA 22 Tryd.underlying22 (sz := 7) (by kernel_rfl) (g := ga) (off := offa) (n := l.length) (cap := capa) hil, ldA 41 hlda, iA 22 Tryd.underlying22 (sz := 7) (by kernel_rfl) (g := gb) (off := offb) (n := m.length) (cap := capb) him, ldA 41 hldb, bO .neq 3 (run_neqZ (x := k1) (y := k2) (b := false) (by simp [hk])), bO .neq 39 (neqU_run (n := n1) (m := n2) hW1 hW2 (q := false) (by simp [hnn])), bO .neq 9 (neqT_run (a := t1) (b := t2) (q := false) (by simp [htt])), cA Tryd.func17 hs, uO .not (p := .bool false) (v := .bool true) (by intros; rfl)] (nonR wS) (fun _ h => h) I fun β4 a4 w4 I hb4 => ?_
      exact endR (retV (v := .bool false) I ⟨by rw [bad (by simp [eqT, hq])], I.hJ⟩)
    | true =>
      rw [hq] at hs
      refine goT (T := Below wS.heap.size wS) [bO .lss 3 (run_lssZ (x := i) (y := l.length) (b := true) (by simp; omega)), iA 22 Tryd.underlying22 (sz := 7) (by kernel_rfl) (g := ga) (off := offa) (n := l.length) (cap := capa) hil, ldA 41 hlda, iA 22 Tryd.underlying22 (sz := 7) (by kernel_rfl) (g := gb) (off := offb) (n := m.length) (cap := capb) him, ldA 41 hldb, bO .neq 3 (run_neqZ (x := k1) (y := k2) (b := false) (by simp [hk])), bO .neq 39 (neqU_run (n := n1) (m := n2) hW1 hW2 (q := false) (by simp [hnn])), bO .neq 9 (neqT_run (a := t1) (b := t2) (q := false) (by simp [htt])), cA Tryd.func17 hs, uO .not (p := .bool true) (v := .bool false) (by intros; rfl), bO .add 3 (run_addZ (x := i) (y := 1) (z := (i + 1 : Nat)) (by rw [wz (by omega) (by omega)]; omega))] (nonR wS) (fun _ h => h) I fun β4 a4 w4 I hb4 => ?_
      obtain ⟨u', Iu⟩ := I.scr (bodyL Tryd.f17) (scrF 52 smK) (smV (.slice (some ⟨ga, offa, none⟩) l.length capa) (.slice (some ⟨gb, offb, none⟩) m.length capb) l.length (i + 1)) [] 0
      refine endL ⟨l.length - (i + 1), by omega, i + 1, β4, u', rfl, hil, fun j t u hj ht hu => ?_, Iu⟩
      rcases Nat.lt_or_ge j i with hji | hji
      · exact hok j t u hji ht hu
      · obtain rfl : j = i := by omega
        rw [h1] at ht; rw [h2] at hu; cases ht; cases hu
        simp [eqT, hk, hnn, htt, hq]
  · obtain rfl : i = l.length := by omega
    refine goQ [bO .lss 3 (run_lssZ (x := l.length) (y := l.length) (b := false) (by simp))] (nonR wS) I fun β4 a4 w4 I hb4 => ?_
    refine endE 0 ?_
    refine goQ [] (nonR wS) (I.exit _) fun β5 a5 w5 I hb5 => ?_
    exact outQ (v := .bool true) I ⟨by rw [sameL_ok hlen fun i t u h1 h2 => hok i t u (List.getElem?_eq_some_iff.1 h1).1 h1 h2], I.hJ⟩
theorem LA.slice {w : World} : ∀ {n : Nat} {v : Value} {l : TL n}, LA w n v l → ∃ ad m cap, v = .slice ad m cap
  | 0, v, l, h => by obtain ⟨ad, cap, hv⟩ := h; exact ⟨ad, 0, cap, hv⟩
  | n + 1, v, l, h => by obtain ⟨ad, cap, hv, _⟩ := h; exact ⟨ad, _, cap, hv⟩
/-- What a row must be for Same: numbers below 2^256, not too long. -/
def fit : (n : Nat) → TL n → Prop
  | 0, _ => True
  | n + 1, l => List.length (α := TT n) l < 1000000000 ∧ ∀ t : TT n, List.Mem t l → t.2.1 < W ∧ fit n t.2.2.2
theorem same_any : ∀ (n : Nat) {W0 : World} {va vb : Value} {l m : TL n}, LA W0 n va l → LA W0 n vb m → fit n l → fit n m → ∀ w, Below W0.heap.size W0 w →
    Calls Tryd.prog 17 #[va, vb] w fun e w' => e = .returned (.bool (same n l m)) ∧ Below w.heap.size w w'
  | 0, W0, va, vb, l, m, hl, hm, fl, fm, w, hb => by
    obtain ⟨ad, cap, rfl⟩ := hl
    obtain ⟨ad', cap', rfl⟩ := hm
    have := same_gen (α := Unit) (W0 := W0) (L := fun _ _ => False) (eq := fun _ _ => true) (ok := fun _ => True) (fun _ _ h => h.elim) (fun _ _ _ _ _ h => h.elim) (l := []) (m := []) ⟨ad, cap, rfl, fun i t h => (by simp at h)⟩ ⟨ad', cap', rfl, fun i t h => (by simp at h)⟩ (fun t h => (by cases h)) (fun t h => (by cases h)) (by decide) w hb
    exact this
  | n + 1, W0, va, vb, l, m, hl, hm, fl, fm, w, hb =>
    same_gen (α := TL n) (L := LA W0 n) (eq := same n) (ok := fit n) (fun lv x h => h.slice) (fun lv lv' x y w h1 h2 h3 h4 hb => same_any n h1 h2 h3 h4 w hb) hl hm (fun t h => fl.2 t h) (fun t h => fm.2 t h) fl.1 w hb
theorem same_refl : ∀ (n : Nat) (l : TL n), same n l l = true
  | 0, _ => rfl
  | n + 1, l => sameL_ok rfl fun i t u h1 h2 => by
    rw [h1] at h2; cases h2
    simp [eqT, same_refl n]
end Go.Proofs.YtjjiendgmnlokaaDoor
