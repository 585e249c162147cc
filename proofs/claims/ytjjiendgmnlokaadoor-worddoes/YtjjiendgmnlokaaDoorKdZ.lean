/- Laid one behind the other: Va, Vg, Vb, Vc, Vd, Ve, Vf, Vh. -/
import Derived.Test.YtjjiendgmnlokaaDoorKdWn
import Derived.Test.YtjjiendgmnlokaaDoorKdRk
import Derived.Test.YtjjiendgmnlokaaDoorKdP
/- Forms as texts, and which terms are of one; no function of the program is walked here. -/
namespace Go.Proofs.YtjjiendgmnlokaaDoor
set_option linter.unusedVariables false
/-- What p takes, again and again, up to the end or to a mark. -/
def scan (p : List UInt8 → Nat) (e : Option UInt8) : Nat → List UInt8 → Option (List (List UInt8) × List UInt8)
  | 0, f => if f = [] ∨ f.head? = e then some ([], f) else none
  | F + 1, f => if f = [] ∨ f.head? = e then some ([], f) else if p f = 0 then none else (scan p e F (f.drop (p f))).map fun x => (f.take (p f) :: x.1, x.2)
def clo (b : UInt8) : UInt8 := if b = 91 then 93 else 41
def brk (p : List UInt8 → Nat) (b : UInt8) (g : List UInt8) : Nat := match scan p (some (clo b)) g.length g with
  | none => 0
  | some (ps, rest) => if rest = [] ∨ (b = 91 ∧ ps.length ≠ 1) then 0 else ps.flatten.length + 2
/-- A form's first term: how many bytes; brackets at most so deep. -/
def prt : Nat → List UInt8 → Nat
  | 0, f => match f with
    | [] => 0
    | b :: _ => if b = 110 ∨ b = 116 then 1 else 0
  | n + 1, f => match f with
    | [] => 0
    | b :: g => if b = 110 ∨ b = 116 then 1 else if b = 40 ∨ b = 91 then brk (prt n) b g else 0
/-- A form of one term. -/
def Pt : Nat → List UInt8 → Prop
  | 0, q => q = [110] ∨ q = [116]
  | n + 1, q => q = [110] ∨ q = [116] ∨ (∃ ps : List (List UInt8), (∀ p ∈ ps, Pt n p) ∧ q = 40 :: (ps.flatten ++ [41])) ∨ ∃ p : List UInt8, Pt n p ∧ q = 91 :: (p ++ [93])
theorem Pt.num (n : Nat) : Pt n [110] := by cases n <;> exact .inl rfl
theorem Pt.txt (n : Nat) : Pt n [116] := by
  cases n with
  | zero => exact .inr rfl
  | succ n => exact .inr (.inl rfl)
theorem Pt.tup (n : Nat) (ps : List (List UInt8)) (h : ∀ p ∈ ps, Pt n p) : Pt (n + 1) (40 :: (ps.flatten ++ [41])) := .inr (.inr (.inl ⟨ps, h, rfl⟩))
theorem Pt.arr (n : Nat) (p : List UInt8) (h : Pt n p) : Pt (n + 1) (91 :: (p ++ [93])) := .inr (.inr (.inr ⟨p, h, rfl⟩))
theorem Pt.head {n : Nat} {q : List UInt8} (h : Pt n q) : ∃ b g, q = b :: g ∧ (b = 110 ∨ b = 116 ∨ b = 40 ∨ b = 91) := by
  cases n with
  | zero => rcases h with rfl | rfl <;> exact ⟨_, _, rfl, by decide⟩
  | succ n => rcases h with rfl | rfl | ⟨ps, h, rfl⟩ | ⟨p, h, rfl⟩ <;> exact ⟨_, _, rfl, by decide⟩
theorem scan_inv {p : List UInt8 → Nat} {e : Option UInt8} (hp : ∀ f, p f ≤ f.length) : ∀ (F : Nat) (f : List UInt8) {ps : List (List UInt8)} {rest : List UInt8}, scan p e F f = some (ps, rest) →
    f = ps.flatten ++ rest ∧ (rest = [] ∨ rest.head? = e) ∧ ∀ q ∈ ps, ∃ r, p (q ++ r) = q.length ∧ q ≠ []
  | 0, f, ps, rest, h => by
    unfold scan at h
    split at h
    · next hs => cases h; exact ⟨rfl, hs, fun q hq => by cases hq⟩
    · cases h
  | F + 1, f, ps, rest, h => by
    unfold scan at h
    split at h
    · next hs => cases h; exact ⟨rfl, hs, fun q hq => by cases hq⟩
    · split at h
      · cases h
      · next hk =>
        cases hq : scan p e F (f.drop (p f)) with
        | none => rw [hq] at h; cases h
        | some x =>
          rw [hq] at h
          obtain ⟨ps', rest'⟩ := x
          simp only [Option.map_some, Option.some.injEq, Prod.mk.injEq] at h
          obtain ⟨rfl, rfl⟩ := h
          obtain ⟨h1, h2, h3⟩ := scan_inv hp F _ hq
          have hl := hp f
          refine ⟨by rw [List.flatten_cons, List.append_assoc, ← h1, List.take_append_drop], h2, fun q hq' => ?_⟩
          rcases List.mem_cons.1 hq' with rfl | hq'
          · refine ⟨f.drop (p f), ?_, fun h0 => ?_⟩
            · rw [List.take_append_drop, List.length_take]; omega
            · have := congrArg List.length h0
              rw [List.length_take, List.length_nil] at this
              omega
          · exact h3 q hq'
theorem scan_ok {p : List UInt8 → Nat} {e : Option UInt8} {tail : List UInt8} (ht : tail = [] ∨ tail.head? = e) : ∀ (ps : List (List UInt8)) (F : Nat), ps.length ≤ F → (∀ q ∈ ps, (∀ r, p (q ++ r) = q.length) ∧ q ≠ [] ∧ q.head? ≠ e) → scan p e F (ps.flatten ++ tail) = some (ps, tail)
  | [], F, _, _ => by
    rw [List.flatten_nil, List.nil_append]
    cases F <;> (unfold scan; rw [if_pos ht])
  | q :: ps, 0, h, _ => absurd h (by simp)
  | q :: ps, F + 1, h, hq => by
    obtain ⟨h1, h2, h3⟩ := hq q List.mem_cons_self
    obtain ⟨b, g, rfl⟩ : ∃ b g, q = b :: g := by cases q with | nil => exact absurd rfl h2 | cons b g => exact ⟨b, g, rfl⟩
    have ih := scan_ok ht ps F (by simpa using h) fun q hq' => hq q (List.mem_cons_of_mem _ hq')
    rw [List.flatten_cons, List.append_assoc]
    unfold scan
    rw [if_neg (by simpa using h3), h1, if_neg (by simp), List.drop_left, ih, List.take_left]
    rfl
theorem flat_len {n : Nat} : ∀ {ps : List (List UInt8)}, (∀ p ∈ ps, Pt n p) → ps.length ≤ ps.flatten.length
  | [], _ => Nat.le_refl _
  | p :: ps, h => by
    have := flat_len fun q hq => h q (List.mem_cons_of_mem _ hq)
    obtain ⟨b, g, rfl, _⟩ := (h p List.mem_cons_self).head
    simp only [List.flatten_cons, List.length_append, List.length_cons]
    omega
theorem prt_pt : ∀ (n : Nat) (f : List UInt8), prt n f ≤ f.length ∧ (prt n f ≠ 0 → Pt n (f.take (prt n f)))
  | 0, [] => ⟨Nat.le_refl _, fun h => absurd rfl h⟩
  | 0, b :: g => by
    unfold prt
    simp only
    split
    · next h =>
      refine ⟨by simp, fun _ => ?_⟩
      rcases h with rfl | rfl
      · exact Pt.num 0
      · exact Pt.txt 0
    · exact ⟨Nat.zero_le _, fun h => absurd rfl h⟩
  | n + 1, [] => ⟨Nat.le_refl _, fun h => absurd rfl h⟩
  | n + 1, b :: g => by
    unfold prt
    simp only
    split
    · next h =>
      refine ⟨by simp, fun _ => ?_⟩
      rcases h with rfl | rfl
      · exact Pt.num _
      · exact Pt.txt _
    · split
      · next hb =>
        unfold brk
        cases hq : scan (prt n) (some (clo b)) g.length g with
        | none => exact ⟨Nat.zero_le _, fun h => absurd rfl h⟩
        | some x =>
          obtain ⟨ps, rest⟩ := x
          simp only
          split
          · exact ⟨Nat.zero_le _, fun h => absurd rfl h⟩
          · next hr =>
            obtain ⟨h1, h2, h3⟩ := scan_inv (fun f => (prt_pt n f).1) _ _ hq
            have hr0 : rest ≠ [] := fun h => hr (.inl h)
            rcases h2 with h2 | h2
            · exact absurd h2 hr0
            cases rest with
            | nil => exact absurd rfl hr0
            | cons c rest =>
              simp only [List.head?_cons, Option.some.injEq] at h2
              subst h2
              have hps : ∀ q ∈ ps, Pt n q := fun q hq => by
                obtain ⟨r, h4, h5⟩ := h3 q hq
                have h6 := (prt_pt n (q ++ r)).2 (by rw [h4]; simpa using h5)
                rw [h4, List.take_left] at h6
                exact h6
              refine ⟨by rw [h1]; simp, fun _ => ?_⟩
              have e : (b :: g).take (ps.flatten.length + 2) = b :: (ps.flatten ++ [clo b]) := by
                rw [h1, List.take_succ_cons, List.take_length_add_append]
                rfl
              rw [e]
              rcases hb with rfl | rfl
              · exact Pt.tup n ps hps
              · have hl : ps.length = 1 := by
                  rcases Nat.decEq ps.length 1 with h | h
                  · exact absurd (.inr ⟨rfl, h⟩) hr
                  · exact h
                match ps, hl with
                | [q], _ =>
                  have := Pt.arr n q (hps q List.mem_cons_self)
                  simpa [clo] using this
      · exact ⟨Nat.zero_le _, fun h => absurd rfl h⟩
theorem pt_prt {n : Nat} {q : List UInt8} (h : Pt n q) : ∀ (m : Nat) (r : List UInt8), n ≤ m → prt m (q ++ r) = q.length := by
  induction n generalizing q with
  | zero =>
    intro m r _
    rcases h with rfl | rfl <;> cases m <;> rfl
  | succ n ih =>
    rcases h with rfl | rfl | ⟨ps, hps, rfl⟩ | ⟨p, hp, rfl⟩
    · intro m r _; cases m <;> rfl
    · intro m r _; cases m <;> rfl
    ·
      intro m r hm
      obtain ⟨m, rfl⟩ : ∃ k, m = k + 1 := ⟨m - 1, by omega⟩
      have hs := scan_ok (p := prt m) (e := some 41) (tail := 41 :: r) (.inr rfl) ps (ps.flatten ++ 41 :: r).length (by have := flat_len hps; rw [List.length_append]; omega) fun q hq => by
        obtain ⟨b, g, e, hb⟩ := (hps q hq).head
        refine ⟨fun r' => ih (hps q hq) m r' (by omega), by rw [e]; simp, ?_⟩
        rw [e]
        rcases hb with rfl | rfl | rfl | rfl <;> simp
      have e : (40 :: (ps.flatten ++ [41]) : List UInt8) ++ r = 40 :: (ps.flatten ++ 41 :: r) := by simp
      rw [e]
      unfold prt
      simp only [brk, show clo 40 = 41 from rfl, hs]
      simp
    ·
      intro m r hm
      obtain ⟨m, rfl⟩ : ∃ k, m = k + 1 := ⟨m - 1, by omega⟩
      have hs := scan_ok (p := prt m) (e := some 93) (tail := 93 :: r) (.inr rfl) [p] (p ++ 93 :: r).length (by simp; omega) fun q hq => by
        rw [List.mem_singleton] at hq
        subst hq
        obtain ⟨b, g, e, hb⟩ := hp.head
        refine ⟨fun r' => ih hp m r' (by omega), by rw [e]; simp, ?_⟩
        rw [e]
        rcases hb with rfl | rfl | rfl | rfl <;> simp
      have e : (91 :: (p ++ [93]) : List UInt8) ++ r = 91 :: (p ++ 93 :: r) := by simp
      rw [List.flatten_cons, List.flatten_nil, List.append_nil] at hs
      rw [e]
      unfold prt
      simp only [brk, show clo 91 = 93 from rfl, hs]
      simp
theorem Pt.up {n : Nat} {q : List UInt8} (h : Pt n q) : ∀ {m : Nat}, n ≤ m → Pt m q := by
  intro m hm
  have h1 := pt_prt h m [] hm
  rw [List.append_nil] at h1
  have h2 := (prt_pt m q).2 (by obtain ⟨b, g, rfl, _⟩ := h.head; rw [h1]; simp)
  rwa [h1, List.take_length] at h2
/-- A form's terms. -/
def partsM (f : List UInt8) : Option (List (List UInt8)) := (scan (prt 8) none f.length f).map (·.1)
theorem parts_inv {f : List UInt8} {ps : List (List UInt8)} (h : partsM f = some ps) : f = ps.flatten ∧ ∀ p ∈ ps, Pt 8 p := by
  unfold partsM at h
  cases hq : scan (prt 8) none f.length f with
  | none => rw [hq] at h; cases h
  | some x =>
    obtain ⟨ps', rest⟩ := x
    rw [hq] at h
    cases h
    obtain ⟨h1, h2, h3⟩ := scan_inv (fun f => (prt_pt 8 f).1) _ _ hq
    have hr : rest = [] := by
      rcases h2 with h2 | h2
      · exact h2
      · cases rest with
        | nil => rfl
        | cons b g => cases h2
    refine ⟨by rw [h1, hr, List.append_nil], fun q hq => ?_⟩
    obtain ⟨r, h4, h5⟩ := h3 q hq
    have h6 := (prt_pt 8 (q ++ r)).2 (by rw [h4]; simpa using h5)
    rw [h4, List.take_left] at h6
    exact h6
theorem parts_ok {ps : List (List UInt8)} (h : ∀ p ∈ ps, Pt 8 p) : partsM ps.flatten = some ps := by
  have hs := scan_ok (p := prt 8) (e := none) (tail := []) (.inl rfl) ps ps.flatten.length (flat_len h) fun q hq => by
    obtain ⟨b, g, e, hb⟩ := (h q hq).head
    refine ⟨fun r' => pt_prt (h q hq) 8 r' (Nat.le_refl _), by rw [e]; simp, by rw [e]; simp⟩
  rw [List.append_nil] at hs
  unfold partsM
  rw [hs]
  rfl
/-- All terms of a row, each with its place. -/
def allI {α : Type} (F : Nat → α → Bool) : Nat → List α → Bool
  | _, [] => true
  | i, t :: l => F i t && allI F (i + 1) l
theorem allI_ok {α : Type} {F : Nat → α → Bool} : ∀ {l : List α} {k : Nat}, (∀ i t, l[i]? = some t → F (k + i) t = true) → allI F k l = true
  | [], k, _ => rfl
  | t :: l, k, h => by
    unfold allI
    rw [show F k t = true from h 0 t rfl, allI_ok fun i u hi => by have := h (i + 1) u hi; rwa [show k + (i + 1) = k + 1 + i by omega] at this]
    rfl
theorem allI_bad {α : Type} {F : Nat → α → Bool} : ∀ {l : List α} {k i : Nat} {t : α}, l[i]? = some t → F (k + i) t = false → allI F k l = false
  | [], k, i, t, h, _ => by simp at h
  | u :: l, k, 0, t, h, hF => by
    simp only [List.getElem?_cons_zero, Option.some.injEq] at h
    subst h
    unfold allI
    rw [show k = k + 0 from rfl, hF]
    rfl
  | u :: l, k, i + 1, t, h, hF => by
    unfold allI
    rw [allI_bad (i := i) (t := t) (by simpa using h) (by rwa [show k + 1 + i = k + (i + 1) by omega])]
    simp
theorem allI_inv {α : Type} {F : Nat → α → Bool} {l : List α} (h : allI F 0 l = true) : ∀ i t, l[i]? = some t → F i t = true := fun i t hi => by
  cases hq : F i t with
  | true => rfl
  | false => rw [allI_bad (k := 0) hi (by rwa [Nat.zero_add])] at h; cases h
/-- Whether a term is of a form of one term. -/
def fitG {α : Type} (cnt : α → Nat) (sub : Bool → List (List UInt8) → α → Bool) (f : List UInt8) (t : Int × Nat × ByteArray × α) : Bool :=
  if f.head? = some 110 then decide (t.1 = 0) && decide (t.2.2.1.size = 0) && decide (cnt t.2.2.2 = 0)
  else if f.head? = some 116 then decide (t.1 = 1) && decide (t.2.1 = 0) && decide (cnt t.2.2.2 = 0) && decide (t.2.2.1.size ≤ 16384)
  else if t.1 ≠ 2 ∨ t.2.1 ≠ 0 ∨ t.2.2.1.size ≠ 0 ∨ 64 < cnt t.2.2.2 then false
  else if f.head? = some 40 ∧ ((partsM (f.drop 1).dropLast).getD []).length ≠ cnt t.2.2.2 then false
  else sub (decide (f.head? = some 40)) ((partsM (f.drop 1).dropLast).getD []) t.2.2.2
def sel (tup : Bool) (ps : List (List UInt8)) (i : Nat) : List UInt8 := if tup then ps.getD i [] else ps.getD 0 []
def fitsT : (n : Nat) → List UInt8 → TT n → Bool
  | 0 => fitG (fun _ => 0) (fun _ _ _ => true)
  | n + 1 => fitG (fun l : TL (n + 1) => List.length (α := TT n) l) (fun tup ps (l : TL (n + 1)) => allI (fun i t => fitsT n (sel tup ps i) t) 0 l)
/-- Whether terms are of a form. -/
def fitsM (n : Nat) (f : List UInt8) (l : List (TT n)) : Bool := match partsM f with
  | none => false
  | some ps => decide (ps.length = l.length) && allI (fun i t => fitsT n (ps.getD i []) t) 0 l
/-- What lies within the brackets of a form of one term. -/
theorem Pt.inner {n : Nat} {q : List UInt8} (h : Pt n q) (hn : n ≤ 8) : q = [110] ∨ q = [116] ∨ (∃ ps, q.head? = some 40 ∧ (∀ p ∈ ps, Pt 8 p) ∧ partsM (q.drop 1).dropLast = some ps) ∨ ∃ p, q.head? = some 91 ∧ Pt 8 p ∧ partsM (q.drop 1).dropLast = some [p] := by
  cases n with
  | zero =>
    rcases h with rfl | rfl
    · exact .inl rfl
    · exact .inr (.inl rfl)
  | succ n =>
  rcases h with rfl | rfl | ⟨ps, h, rfl⟩ | ⟨p, h, rfl⟩
  · exact .inl rfl
  · exact .inr (.inl rfl)
  ·
    have h8 : ∀ p ∈ ps, Pt 8 p := fun p hp => (h p hp).up (by omega)
    refine .inr (.inr (.inl ⟨ps, rfl, h8, ?_⟩))
    rw [List.drop_one, List.tail_cons, List.dropLast_concat]
    exact parts_ok h8
  ·
    have h8 : Pt 8 p := h.up (by omega)
    refine .inr (.inr (.inr ⟨p, rfl, h8, ?_⟩))
    rw [List.drop_one, List.tail_cons, List.dropLast_concat]
    have := parts_ok (ps := [p]) (fun q hq => by rw [List.mem_singleton] at hq; subst hq; exact h8)
    rwa [List.flatten_cons, List.flatten_nil, List.append_nil] at this
end Go.Proofs.YtjjiendgmnlokaaDoor

/- Unlike terms of one form have unlike bytes; no function of the program is walked here. -/
namespace Go.Proofs.YtjjiendgmnlokaaDoor
set_option linter.unusedVariables false
set_option maxRecDepth 100000
theorem wb_inj {n m : Nat} (hn : n < W) (hm : m < W) (h : wb n = wb m) : n = m := by
  have e : strN n = strN m := by
    apply ByteArray.ext
    exact Array.toList_inj.1 h
  rw [← rd_back n hn, ← rd_back m hm, e]
def tailOf {α : Type} (E : α → List UInt8) (cnt : α → Nat) (t : Int × Nat × ByteArray × α) : List UInt8 :=
  if t.1 = 0 then [] else if t.1 = 1 then txt t.2.2.1 else if t.1 = 2 then wb (cnt t.2.2.2) ++ E t.2.2.2 else []
section
variable {α : Type} {E : α → List UInt8} {cnt : α → Nat} {H : Nat}
theorem fold_tail : ∀ (l : List (Int × Nat × ByteArray × α)) (acc : List UInt8 × List UInt8), (l.foldl (stepE E cnt H) acc).2 = acc.2 ++ l.flatMap (tailOf E cnt)
  | [], acc => by simp
  | t :: l, acc => by
    rw [List.foldl_cons, fold_tail l, List.flatMap_cons, ← List.append_assoc]
    congr 1
    unfold stepE tailOf
    split
    · simp
    · split
      · rfl
      · split
        · rfl
        · simp
/-- The word of one term. -/
def wordOf (acc : List UInt8 × List UInt8) (H : Nat) (t : Int × Nat × ByteArray × α) : List UInt8 :=
  if t.1 = 0 then wb t.2.1 else if t.1 = 1 then wb (H + acc.2.length) else if t.1 = 2 then wb (H + acc.2.length) else List.replicate 32 0
theorem step_word (acc : List UInt8 × List UInt8) (t : Int × Nat × ByteArray × α) : (stepE E cnt H acc t).1 = acc.1 ++ wordOf acc H t ∧ (wordOf acc H t).length = 32 := by
  unfold stepE wordOf
  split
  · exact ⟨rfl, wb_len _⟩
  · split
    · exact ⟨rfl, wb_len _⟩
    · split
      · exact ⟨rfl, wb_len _⟩
      · exact ⟨rfl, by simp⟩
theorem heads_inj : ∀ (l m : List (Int × Nat × ByteArray × α)) (acc acc' : List UInt8 × List UInt8), l.length = m.length → acc.1.length = acc'.1.length → (l.foldl (stepE E cnt H) acc).1 = (m.foldl (stepE E cnt H) acc').1 →
    acc.1 = acc'.1 ∧ ∀ (i : Nat) (t t' : Int × Nat × ByteArray × α), l[i]? = some t → m[i]? = some t' → t.1 = 0 → t'.1 = 0 → wb t.2.1 = wb t'.2.1
  | [], [], acc, acc', _, _, h => ⟨h, fun i t t' h => by simp at h⟩
  | [], _ :: _, _, _, h, _, _ => absurd h (by simp)
  | _ :: _, [], _, _, h, _, _ => absurd h (by simp)
  | t :: l, t' :: m, acc, acc', hl, ha, h => by
    rw [List.foldl_cons, List.foldl_cons] at h
    obtain ⟨e1, l1⟩ := step_word (E := E) (cnt := cnt) (H := H) acc t
    obtain ⟨e2, l2⟩ := step_word (E := E) (cnt := cnt) (H := H) acc' t'
    obtain ⟨h1, h2⟩ := heads_inj l m _ _ (by simpa using hl) (by rw [e1, e2, List.length_append, List.length_append, l1, l2, ha]) h
    rw [e1, e2] at h1
    obtain ⟨h3, h4⟩ := List.append_inj h1 ha
    refine ⟨h3, fun i u u' hi hi' k0 k0' => ?_⟩
    cases i with
    | zero =>
      simp only [List.getElem?_cons_zero, Option.some.injEq] at hi hi'
      subst hi hi'
      unfold wordOf at h4
      rwa [if_pos k0, if_pos k0'] at h4
    | succ i => exact h2 i u u' (by simpa using hi) (by simpa using hi') k0 k0'
theorem txt_inj {s s' : ByteArray} {R R' : List UInt8} (hs : s.size ≤ 20000) (hs' : s'.size ≤ 20000) (h : txt s ++ R = txt s' ++ R') : s = s' ∧ R = R' := by
  unfold txt at h
  simp only [List.append_assoc] at h
  obtain ⟨h1, h2⟩ := List.append_inj h (by rw [wb_len, wb_len])
  have hsz : s.size = s'.size := wb_inj (Nat.lt_of_le_of_lt hs (by decide)) (Nat.lt_of_le_of_lt hs' (by decide)) h1
  have e : s.data.toList.length = s'.data.toList.length := by
    rw [Array.length_toList, Array.length_toList]; exact hsz
  obtain ⟨h3, h4⟩ := List.append_inj h2 e
  have h5 : s = s' := by
    apply ByteArray.ext
    exact Array.toList_inj.1 h3
  subst h5
  exact ⟨rfl, List.append_cancel_left h4⟩
theorem tails_inj {sub : Bool → List (List UInt8) → α → Bool} {ok : α → Prop} (h0 : ∀ x y, cnt x = 0 → cnt y = 0 → x = y)
    (hE : ∀ tup ps x y R R', ok x → ok y → sub tup ps x = true → sub tup ps y = true → cnt x = cnt y → E x ++ R = E y ++ R' → x = y ∧ R = R') :
    ∀ (l m : List (Int × Nat × ByteArray × α)) (sl : Nat → List UInt8) (r r' : List UInt8), l.length = m.length → (∀ i t, l[i]? = some t → fitG cnt sub (sl i) t = true) → (∀ i t, m[i]? = some t → fitG cnt sub (sl i) t = true) →
      (∀ t ∈ l, t.2.2.1.size ≤ 20000 ∧ t.2.1 < W ∧ ok t.2.2.2) → (∀ t ∈ m, t.2.2.1.size ≤ 20000 ∧ t.2.1 < W ∧ ok t.2.2.2) → (∀ (i : Nat) (t t' : Int × Nat × ByteArray × α), l[i]? = some t → m[i]? = some t' → t.1 = 0 → t'.1 = 0 → wb t.2.1 = wb t'.2.1) →
      l.flatMap (tailOf E cnt) ++ r = m.flatMap (tailOf E cnt) ++ r' → l = m ∧ r = r'
  | [], [], _, r, r', _, _, _, _, _, _, h => ⟨rfl, h⟩
  | [], _ :: _, _, _, _, h, _, _, _, _, _, _ => absurd h (by simp)
  | _ :: _, [], _, _, _, h, _, _, _, _, _, _ => absurd h (by simp)
  | (k, u, s, x) :: l, (k', u', s', y) :: m, sl, r, r', hl, fl, fm, ol, om, hn, h => by
    have f1 := fl 0 _ rfl
    have f2 := fm 0 _ rfl
    obtain ⟨o1, o2, o3⟩ := ol _ List.mem_cons_self
    obtain ⟨p1, p2, p3⟩ := om _ List.mem_cons_self
    simp only [] at o1 o2 o3 p1 p2 p3
    have IH : ∀ R R', l.flatMap (tailOf E cnt) ++ R = m.flatMap (tailOf E cnt) ++ R' → l = m ∧ R = R' := fun R R' h => tails_inj h0 hE l m (fun i => sl (i + 1)) R R' (by simpa using hl) (fun i t hi => fl (i + 1) t hi) (fun i t hi => fm (i + 1) t hi) (fun t ht => ol t (List.mem_cons_of_mem _ ht)) (fun t ht => om t (List.mem_cons_of_mem _ ht)) (fun i t t' hi hi' => hn (i + 1) t t' hi hi') h
    have key : (k, u, s, x) = (k', u', s', y) ∧ (l.flatMap (tailOf E cnt) ++ r = m.flatMap (tailOf E cnt) ++ r') := by
      rw [List.flatMap_cons, List.flatMap_cons, List.append_assoc, List.append_assoc] at h
      unfold fitG at f1 f2
      split at f1
      · next hh =>
        rw [if_pos hh] at f2
        simp only [Bool.and_eq_true, decide_eq_true_eq] at f1 f2
        obtain ⟨⟨rfl, a2⟩, a3⟩ := f1
        obtain ⟨⟨rfl, b2⟩, b3⟩ := f2
        have e1 := wb_inj o2 p2 (hn 0 _ _ rfl rfl rfl rfl)
        have e2 : s = s' := by
          apply ByteArray.ext
          rw [Array.eq_empty_of_size_eq_zero a2, Array.eq_empty_of_size_eq_zero b2]
        have e3 := h0 x y a3 b3
        subst e1 e2 e3
        refine ⟨rfl, ?_⟩
        simpa [tailOf] using h
      · next hh =>
        rw [if_neg hh] at f2
        split at f1
        · next hh2 =>
          rw [if_pos hh2] at f2
          simp only [Bool.and_eq_true, decide_eq_true_eq] at f1 f2
          obtain ⟨⟨⟨rfl, a2⟩, a3⟩, a4⟩ := f1
          obtain ⟨⟨⟨rfl, b2⟩, b3⟩, b4⟩ := f2
          have e3 := h0 x y a3 b3
          have hh3 : txt s ++ (l.flatMap (tailOf E cnt) ++ r) = txt s' ++ (m.flatMap (tailOf E cnt) ++ r') := by simpa [tailOf] using h
          obtain ⟨e2, e4⟩ := txt_inj o1 p1 hh3
          subst e2 e3
          rw [a2, b2]
          exact ⟨rfl, e4⟩
        · next hh2 =>
          rw [if_neg hh2] at f2
          split at f1
          · cases f1
          · next hb1 =>
            split at f2
            · cases f2
            · next hb2 =>
              split at f1
              · cases f1
              · split at f2
                · cases f2
                · have k1 : k = 2 := Classical.byContradiction fun h => hb1 (.inl h)
                  have k2 : k' = 2 := Classical.byContradiction fun h => hb2 (.inl h)
                  have u1 : u = 0 := Classical.byContradiction fun h => hb1 (.inr (.inl h))
                  have u2 : u' = 0 := Classical.byContradiction fun h => hb2 (.inr (.inl h))
                  have s1 : s.size = 0 := Classical.byContradiction fun h => hb1 (.inr (.inr (.inl h)))
                  have s2 : s'.size = 0 := Classical.byContradiction fun h => hb2 (.inr (.inr (.inl h)))
                  have c1 : cnt x ≤ 64 := Nat.le_of_not_lt fun h => hb1 (.inr (.inr (.inr h)))
                  have c2 : cnt y ≤ 64 := Nat.le_of_not_lt fun h => hb2 (.inr (.inr (.inr h)))
                  have e2 : s = s' := by
                    apply ByteArray.ext
                    rw [Array.eq_empty_of_size_eq_zero s1, Array.eq_empty_of_size_eq_zero s2]
                  subst k1 k2 u1 u2 e2
                  have hh3 : wb (cnt x) ++ (E x ++ (l.flatMap (tailOf E cnt) ++ r)) = wb (cnt y) ++ (E y ++ (m.flatMap (tailOf E cnt) ++ r')) := by simpa [tailOf] using h
                  obtain ⟨h5, h6⟩ := List.append_inj hh3 (by rw [wb_len, wb_len])
                  have hc := wb_inj (Nat.lt_of_le_of_lt c1 (by decide)) (Nat.lt_of_le_of_lt c2 (by decide)) h5
                  obtain ⟨e3, e4⟩ := hE _ _ x y _ _ o3 p3 f1 f2 hc h6
                  subst e3
                  exact ⟨rfl, e4⟩
    obtain ⟨e1, e2⟩ := key
    obtain ⟨e3, e4⟩ := IH r r' e2
    rw [e1, e3]
    exact ⟨rfl, e4⟩
end
theorem enc_succ (n : Nat) (l : List (TT n)) : enc (n + 1) l = (l.foldl (stepE (enc n) (cntL n) (32 * l.length)) ([], [])).1 ++ (l.foldl (stepE (enc n) (cntL n) (32 * l.length)) ([], [])).2 := rfl
theorem enc_main (n : Nat) (sub : Bool → List (List UInt8) → TL n → Bool) (hfit : fitsT n = fitG (cntL n) sub) (h0 : ∀ x y : TL n, cntL n x = 0 → cntL n y = 0 → x = y)
    (hE : ∀ tup ps (x y : TL n) R R', tok n x → tok n y → sub tup ps x = true → sub tup ps y = true → cntL n x = cntL n y → enc n x ++ R = enc n y ++ R' → x = y ∧ R = R')
    (l m : List (TT n)) (sl : Nat → List UInt8) (r r' : List UInt8) (hl : l.length = m.length) (fl : ∀ i t, l[i]? = some t → fitsT n (sl i) t = true) (fm : ∀ i t, m[i]? = some t → fitsT n (sl i) t = true)
    (ol : ∀ t ∈ l, t.2.2.1.size ≤ 20000 ∧ t.2.1 < W ∧ tok n t.2.2.2) (om : ∀ t ∈ m, t.2.2.1.size ≤ 20000 ∧ t.2.1 < W ∧ tok n t.2.2.2) (h : enc (n + 1) l ++ r = enc (n + 1) m ++ r') : l = m ∧ r = r' := by
  rw [hfit] at fl fm
  rw [enc_succ, enc_succ, List.append_assoc, List.append_assoc] at h
  have hlen : ∀ l : List (TT n), (l.foldl (stepE (enc n) (cntL n) (32 * l.length)) ([], [])).1.length = 32 * l.length := fun l => by
    have := (foldE_len (E := enc n) (cnt := cntL n) (H := 32 * l.length) l ([], [])).1
    simpa using this
  obtain ⟨h1, h2⟩ := List.append_inj h (by rw [hlen, hlen, hl])
  rw [← hl] at h1 h2
  obtain ⟨_, hn⟩ := heads_inj l m ([], []) ([], []) hl rfl h1
  rw [fold_tail, fold_tail] at h2
  exact tails_inj h0 hE l m sl r r' hl fl fm ol om hn (by simpa using h2)
theorem enc_inj : ∀ (n : Nat) (l m : List (TT n)) (sl : Nat → List UInt8) (r r' : List UInt8), l.length = m.length → (∀ i t, l[i]? = some t → fitsT n (sl i) t = true) → (∀ i t, m[i]? = some t → fitsT n (sl i) t = true) →
    (∀ t ∈ l, t.2.2.1.size ≤ 20000 ∧ t.2.1 < W ∧ tok n t.2.2.2) → (∀ t ∈ m, t.2.2.1.size ≤ 20000 ∧ t.2.1 < W ∧ tok n t.2.2.2) → enc (n + 1) l ++ r = enc (n + 1) m ++ r' → l = m ∧ r = r' := by
  intro n
  induction n with
  | zero => exact enc_main 0 (fun _ _ _ => true) rfl (fun _ _ _ _ => rfl) fun tup ps x y R R' _ _ _ _ _ h => ⟨rfl, h⟩
  | succ n ih =>
    refine enc_main (n + 1) (fun tup ps (l : TL (n + 1)) => allI (fun i t => fitsT n (sel tup ps i) t) 0 l) rfl ?_ ?_
    · intro x y hx hy
      exact (List.length_eq_zero_iff.1 hx).trans (List.length_eq_zero_iff.1 hy).symm
    · intro tup ps x y R R' hx hy s1 s2 hc h
      exact ih x y (sel tup ps) R R' hc (allI_inv s1) (allI_inv s2) (fun t ht => hx t ht) (fun t ht => hy t ht) h
theorem sameL_eq {α : Type} {eq : α → α → Bool} (he : ∀ x y, eq x y = true → x = y) : ∀ {l m : List (Int × Nat × ByteArray × α)}, sameL eq l m = true → l = m
  | [], [], _ => rfl
  | [], _ :: _, h => by cases h
  | _ :: _, [], h => by cases h
  | (k, u, s, x) :: l, (k', u', s', y) :: m, h => by
    simp only [sameL, eqT, Bool.and_eq_true, decide_eq_true_eq] at h
    obtain ⟨⟨⟨⟨rfl, rfl⟩, rfl⟩, h4⟩, h5⟩ := h
    rw [he x y h4, sameL_eq he h5]
theorem same_eq : ∀ (n : Nat) (l m : TL n), same n l m = true → l = m
  | 0, _, _, _ => rfl
  | n + 1, l, m, h => sameL_eq (same_eq n) h
end Go.Proofs.YtjjiendgmnlokaaDoor

/- The document's part and parts of forms. -/
namespace Go.Proofs.YtjjiendgmnlokaaDoor
open Go.RowKit Go.Sort
set_option linter.unusedVariables false
set_option maxRecDepth 100000
theorem neqB_run {x y : UInt8} {q : Bool} (h : decide (x ≠ y) = q) (o1 o2 : Operand) (w : World) : (do eqGuard .neq 5 o1 o2 (.int .u8 x.toNat) (.int .u8 y.toNat); binOp .neq 5 (.int .u8 x.toNat) (.int .u8 y.toNat) : Sem Value).run Tryd.prog w = .ok (.bool q) w := by
  have h2 : (x.toNat = y.toNat) = (x = y) := propext ⟨fun h => UInt8.toNat_inj.1 h, fun h => by rw [h]⟩
  subst h
  by_cases hx : x = y
  · subst hx; simp [go_sem]
  · have h3 : ¬ ((x.toNat : Int) = (y.toNat : Int)) := fun e => hx (UInt8.toNat_inj.1 (by omega))
    simp [go_sem, hx, h3]
abbrev paK : List Nat := [0, 1, 5, 6, 7]
abbrev paV (f : List UInt8) (deep : Nat) (e : UInt8) (i c : Nat) : Vs := frm 73 [(0, Sum.inl (str f)), (1, Sum.inl (Z deep)), (5, Sum.inl (.int .u8 e.toNat)), (6, Sum.inl (Z i)), (7, Sum.inl (Z c))]
theorem scan_nil {p : List UInt8 → Nat} {e : Option UInt8} (F : Nat) : scan p e F [] = some ([], []) := by cases F <;> (unfold scan; simp)
theorem scan_hit {p : List UInt8 → Nat} {e : UInt8} (F : Nat) (r : List UInt8) : scan p (some e) F (e :: r) = some ([], e :: r) := by cases F <;> (unfold scan; simp)
theorem scan_step {p : List UInt8 → Nat} {e : Option UInt8} {F : Nat} {c : UInt8} {r : List UInt8} (hF : (c :: r).length ≤ F) (hc : some c ≠ e) : ∃ F', F = F' + 1 ∧ scan p e F (c :: r) = if p (c :: r) = 0 then none else (scan p e F' ((c :: r).drop (p (c :: r)))).map fun x => ((c :: r).take (p (c :: r)) :: x.1, x.2) := by
  cases F with
  | zero => simp at hF
  | succ F =>
    refine ⟨F, rfl, ?_⟩
    show (if (c :: r) = [] ∨ (c :: r).head? = e then _ else _) = _
    rw [if_neg (by simpa using hc)]
theorem part_tup {n deep : Nat} (hd : deep + (n + 1) = 9) (ih : ∀ f : List UInt8, f.length ≤ 1000 → ∀ w, Calls Tryd.prog 37 #[str f, Z (deep + 1 : Nat)] w fun e w' => e = .returned (Z (prt n f)) ∧ Below w.heap.size w w') (g : List UInt8) (hg : g.length < 1000) (w : World) :
    Calls Tryd.prog 37 #[str (40 :: g), Z deep] w fun e w' => e = .returned (Z (brk (prt n) 40 g)) ∧ Below w.heap.size w w' := by
  have hsz := str_size (40 :: g)
  have hcl : (40 :: g).length = g.length + 1 := rfl
  refine inQ (J := Below w.heap.size w) (F := (· < w.heap.size)) Tryd.func37 (Below.refl _ _) fun a I => ?_
  refine goQ [bO .eql 9 (eqS_run (a := 40 :: g) (b := []) (q := false) (by simp)), iO 9 (p := str (40 :: g)) (i := Z (0 : Nat)) (v := .int .u8 (40 : UInt8).toNat) (idx_run rfl), bO .eql 5 (eqB_run (x := 40) (y := 110) (q := false) (by decide)), iO 9 (p := str (40 :: g)) (i := Z (0 : Nat)) (v := .int .u8 (40 : UInt8).toNat) (idx_run rfl), bO .eql 5 (eqB_run (x := 40) (y := 116) (q := false) (by decide)), iO 9 (p := str (40 :: g)) (i := Z (0 : Nat)) (v := .int .u8 (40 : UInt8).toNat) (idx_run rfl), bO .neq 5 (neqB_run (x := 40) (y := 40) (q := false) (by decide)), bO .gtr 3 (run_gtrZ (x := deep) (y := 8) (b := false) (by simp; omega)), iO 9 (p := str (40 :: g)) (i := Z (0 : Nat)) (v := .int .u8 (40 : UInt8).toNat) (idx_run rfl), bO .eql 5 (eqB_run (x := 40) (y := 91) (q := false) (by decide))] (nonR w) I fun β a w1 I hb => ?_
  let St : Nat → Act → World → Prop := fun k a w' => ∃ (done : List (List UInt8)) (rest : List UInt8) (F : Nat) (β : Nat → Nat) (u : Nat → Value), k = rest.length ∧ g = done.flatten ++ rest ∧ rest.length ≤ F ∧ done.length ≤ done.flatten.length ∧
    scan (prt n) (some 41) g.length g = (scan (prt n) (some 41) F rest).map (fun x => (done ++ x.1, x.2)) ∧
    SI (Below w.heap.size w) (· < w.heap.size) [] β (cfC (bodyL Tryd.f37) (fillF (scrF 73 paK) u 0 (paV (40 :: g) deep 41 (1 + done.flatten.length) done.length)) [] 0) a w'
  refine lpM (bodyL Tryd.f37) St g.length ?_ ?_
  · obtain ⟨u, Iu⟩ := I.scr (bodyL Tryd.f37) (scrF 73 paK) (paV (40 :: g) deep 41 1 0) [] 0
    exact ⟨[], g, g.length, β, u, rfl, rfl, Nat.le_refl _, Nat.le_refl _, by simp, Iu⟩
  rintro k a3 w3 ⟨done, rest, F, β3, u, rfl, hgr, hF, hdl, hsc, I⟩
  refine wp_cfC (tm := fillF (scrF 73 paK) u 0 (paV (40 :: g) deep 41 (1 + done.flatten.length) done.length)) (rows := []) (nx := 0) ?_
  have hgl : g.length = done.flatten.length + rest.length := by rw [hgr, List.length_append]
  have hdr : (40 :: g).drop (1 + done.flatten.length) = rest := by rw [Nat.add_comm, List.drop_succ_cons, hgr, List.drop_left]
  cases rest with
  | nil =>
    rw [List.length_nil] at hgl
    have hbr : brk (prt n) 40 g = 0 := by unfold brk; rw [show clo 40 = 41 from rfl, hsc, scan_nil]; simp
    refine goQ [lO Tryd.underlying9 (b := ⟨(40 :: g).toArray⟩) (n := (40 :: g).length) (by rw [hsz]), bO .lss 3 (run_lssZ (x := (1 + done.flatten.length : Nat)) (y := (40 :: g).length) (b := false) (decide_eq_false (by rw [hcl]; omega)))] (nonR w) I fun β4 a4 w4 I hb4 => ?_
    refine endE 0 ?_
    refine goQ [lO Tryd.underlying9 (b := ⟨(40 :: g).toArray⟩) (n := (40 :: g).length) (by rw [hsz]), bO .geq 3 (run_geqZ (x := (1 + done.flatten.length : Nat)) (y := (40 :: g).length) (b := true) (decide_eq_true (by rw [hcl]; omega)))] (nonR w) (I.exit _) fun β5 a5 w5 I hb5 => ?_
    exact outQ (v := Z (0 : Nat)) I ⟨by rw [hbr], I.hJ⟩
  | cons c r =>
    rw [List.length_cons] at hgl
    have hix : (40 :: g)[1 + done.flatten.length]? = some c := by
      have := congrArg (·[0]?) hdr
      simpa [List.getElem?_drop] using this
    have ic : ∀ w, (Instr.index 9 (str (40 :: g)) (Z (1 + done.flatten.length : Nat))).run Tryd.prog w = .ok (.int .u8 c.toNat) w := fun w => idx_run hix w
    by_cases hce : c = 41
    · subst hce
      have hbr : brk (prt n) 40 g = if (40 : UInt8) = 91 ∧ done.length ≠ 1 then 0 else done.flatten.length + 2 := by unfold brk; rw [show clo 40 = 41 from rfl, hsc, scan_hit]; simp
      refine goQ [lO Tryd.underlying9 (b := ⟨(40 :: g).toArray⟩) (n := (40 :: g).length) (by rw [hsz]), bO .lss 3 (run_lssZ (x := (1 + done.flatten.length : Nat)) (y := (40 :: g).length) (b := true) (decide_eq_true (by rw [hcl]; omega))), iO 9 (p := str (40 :: g)) (i := Z (1 + done.flatten.length : Nat)) (v := .int .u8 (41 : UInt8).toNat) ic, bO .neq 5 (neqB_run (x := 41) (y := 41) (q := false) (by decide))] (nonR w) I fun β4 a4 w4 I hb4 => ?_
      refine endE 0 ?_
      refine goQ [lO Tryd.underlying9 (b := ⟨(40 :: g).toArray⟩) (n := (40 :: g).length) (by rw [hsz]), bO .geq 3 (run_geqZ (x := (1 + done.flatten.length : Nat)) (y := (40 :: g).length) (b := false) (decide_eq_false (by rw [hcl]; omega))), iO 9 (p := str (40 :: g)) (i := Z (0 : Nat)) (v := .int .u8 (40 : UInt8).toNat) (idx_run rfl), bO .eql 5 (eqB_run (x := 40) (y := 91) (q := false) (by decide)), bO .add 3 (run_addZ (x := (1 + done.flatten.length : Nat)) (y := 1) (z := (done.flatten.length + 2 : Nat)) (by rw [wz (by omega) (by omega)]; omega))] (nonR w) (I.exit _) fun β5 a5 w5 I hb5 => ?_
      exact outQ (v := Z (done.flatten.length + 2 : Nat)) I ⟨by rw [hbr]; simp, I.hJ⟩
    · have hfr : ∀ w, (Instr.sliceAt 9 (str (40 :: g)) (some (Z (1 + done.flatten.length : Nat))) none none).run Tryd.prog w = .ok (str (c :: r)) w := fun w => by
        have := from_run (l := 40 :: g) (k := 1 + done.flatten.length) (by rw [hcl]; omega) w
        rw [hdr] at this
        exact this
      obtain ⟨F', rfl, hst⟩ := scan_step (p := prt n) (e := some 41) hF (by simpa using hce)
      obtain ⟨kk, hkk⟩ : ∃ kk, prt n (c :: r) = kk := ⟨_, rfl⟩
      have hkl := (prt_pt n (c :: r)).1
      rw [hst, hkk] at hsc
      rw [hkk, List.length_cons] at hkl
      have ihc : ∀ w, Calls Tryd.prog 37 #[str (c :: r), Z (deep + 1 : Nat)] w fun e w' => e = .returned (Z kk) ∧ Below w.heap.size w w' := fun w => by have := ih (c :: r) (by rw [List.length_cons]; omega) w; rw [hkk] at this; exact this
      by_cases hk0 : kk = 0
      · subst hk0
        have hbr : brk (prt n) 40 g = 0 := by unfold brk; rw [show clo 40 = 41 from rfl, hsc]; simp
        refine goQ [lO Tryd.underlying9 (b := ⟨(40 :: g).toArray⟩) (n := (40 :: g).length) (by rw [hsz]), bO .lss 3 (run_lssZ (x := (1 + done.flatten.length : Nat)) (y := (40 :: g).length) (b := true) (decide_eq_true (by rw [hcl]; omega))), iO 9 (p := str (40 :: g)) (i := Z (1 + done.flatten.length : Nat)) (v := .int .u8 c.toNat) ic, bO .neq 5 (neqB_run (x := c) (y := 41) (q := true) (by simpa using hce)),
          sO 9 (p := str (40 :: g)) (l := Z (1 + done.flatten.length : Nat)) (v := str (c :: r)) hfr, bO .add 3 (run_addZ (x := deep) (y := 1) (z := (deep + 1 : Nat)) (by rw [wz (by omega) (by omega)]; omega)), kC Tryd.func37 ihc, bO .eql 3 (run_eqlZ (x := (0 : Nat)) (y := 0) (b := true) (by simp))] (nonR w) I fun β4 a4 w4 I hb4 => ?_
        exact endR (retV (v := Z (0 : Nat)) I ⟨by rw [hbr], I.hJ⟩)
      · rw [if_neg hk0] at hsc
        have hfl : (done ++ [(c :: r).take kk]).flatten.length = done.flatten.length + kk := by simp only [List.flatten_append, List.length_append, List.flatten_cons, List.flatten_nil, List.append_nil, List.length_take, List.length_cons]; omega
        refine goQ [lO Tryd.underlying9 (b := ⟨(40 :: g).toArray⟩) (n := (40 :: g).length) (by rw [hsz]), bO .lss 3 (run_lssZ (x := (1 + done.flatten.length : Nat)) (y := (40 :: g).length) (b := true) (decide_eq_true (by rw [hcl]; omega))), iO 9 (p := str (40 :: g)) (i := Z (1 + done.flatten.length : Nat)) (v := .int .u8 c.toNat) ic, bO .neq 5 (neqB_run (x := c) (y := 41) (q := true) (by simpa using hce)),
          sO 9 (p := str (40 :: g)) (l := Z (1 + done.flatten.length : Nat)) (v := str (c :: r)) hfr, bO .add 3 (run_addZ (x := deep) (y := 1) (z := (deep + 1 : Nat)) (by rw [wz (by omega) (by omega)]; omega)), kC Tryd.func37 ihc, bO .eql 3 (run_eqlZ (x := kk) (y := 0) (b := false) (by simp; omega)), bO .add 3 (run_addZ (x := (1 + done.flatten.length : Nat)) (y := kk) (z := (1 + (done ++ [(c :: r).take kk]).flatten.length : Nat)) (by rw [hfl, wz (by omega) (by omega)]; omega)), bO .add 3 (run_addZ (x := done.length) (y := 1) (z := (done ++ [(c :: r).take kk]).length) (by rw [wz (by omega) (by omega)]; simp))] (nonR w) I fun β4 a4 w4 I hb4 => ?_
        obtain ⟨u', Iu⟩ := I.scr (bodyL Tryd.f37) (scrF 73 paK) (paV (40 :: g) deep 41 (1 + (done ++ [(c :: r).take kk]).flatten.length) (done ++ [(c :: r).take kk]).length) [] 0
        refine endL ⟨((c :: r).drop kk).length, by rw [List.length_drop]; simp; omega, done ++ [(c :: r).take kk], (c :: r).drop kk, F', β4, u', rfl, ?_, by rw [List.length_drop, List.length_cons]; rw [List.length_cons] at hF; omega, by rw [hfl, List.length_append, List.length_singleton]; omega, ?_, Iu⟩
        · rw [List.flatten_append, List.flatten_cons, List.flatten_nil, List.append_nil, List.append_assoc, List.take_append_drop]; exact hgr
        · rw [hsc, Option.map_map]
          congr 1
          funext x
          simp
theorem part_arr {n deep : Nat} (hd : deep + (n + 1) = 9) (ih : ∀ f : List UInt8, f.length ≤ 1000 → ∀ w, Calls Tryd.prog 37 #[str f, Z (deep + 1 : Nat)] w fun e w' => e = .returned (Z (prt n f)) ∧ Below w.heap.size w w') (g : List UInt8) (hg : g.length < 1000) (w : World) :
    Calls Tryd.prog 37 #[str (91 :: g), Z deep] w fun e w' => e = .returned (Z (brk (prt n) 91 g)) ∧ Below w.heap.size w w' := by
  have hsz := str_size (91 :: g)
  have hcl : (91 :: g).length = g.length + 1 := rfl
  refine inQ (J := Below w.heap.size w) (F := (· < w.heap.size)) Tryd.func37 (Below.refl _ _) fun a I => ?_
  refine goQ [bO .eql 9 (eqS_run (a := 91 :: g) (b := []) (q := false) (by simp)), iO 9 (p := str (91 :: g)) (i := Z (0 : Nat)) (v := .int .u8 (91 : UInt8).toNat) (idx_run rfl), bO .eql 5 (eqB_run (x := 91) (y := 110) (q := false) (by decide)), iO 9 (p := str (91 :: g)) (i := Z (0 : Nat)) (v := .int .u8 (91 : UInt8).toNat) (idx_run rfl), bO .eql 5 (eqB_run (x := 91) (y := 116) (q := false) (by decide)), iO 9 (p := str (91 :: g)) (i := Z (0 : Nat)) (v := .int .u8 (91 : UInt8).toNat) (idx_run rfl), bO .neq 5 (neqB_run (x := 91) (y := 40) (q := true) (by decide)), iO 9 (p := str (91 :: g)) (i := Z (0 : Nat)) (v := .int .u8 (91 : UInt8).toNat) (idx_run rfl), bO .neq 5 (neqB_run (x := 91) (y := 91) (q := false) (by decide)), bO .gtr 3 (run_gtrZ (x := deep) (y := 8) (b := false) (by simp; omega)), iO 9 (p := str (91 :: g)) (i := Z (0 : Nat)) (v := .int .u8 (91 : UInt8).toNat) (idx_run rfl), bO .eql 5 (eqB_run (x := 91) (y := 91) (q := true) (by decide))] (nonR w) I fun β a w1 I hb => ?_
  let St : Nat → Act → World → Prop := fun k a w' => ∃ (done : List (List UInt8)) (rest : List UInt8) (F : Nat) (β : Nat → Nat) (u : Nat → Value), k = rest.length ∧ g = done.flatten ++ rest ∧ rest.length ≤ F ∧ done.length ≤ done.flatten.length ∧
    scan (prt n) (some 93) g.length g = (scan (prt n) (some 93) F rest).map (fun x => (done ++ x.1, x.2)) ∧
    SI (Below w.heap.size w) (· < w.heap.size) [] β (cfC (bodyL Tryd.f37) (fillF (scrF 73 paK) u 0 (paV (91 :: g) deep 93 (1 + done.flatten.length) done.length)) [] 0) a w'
  refine lpM (bodyL Tryd.f37) St g.length ?_ ?_
  · obtain ⟨u, Iu⟩ := I.scr (bodyL Tryd.f37) (scrF 73 paK) (paV (91 :: g) deep 93 1 0) [] 0
    exact ⟨[], g, g.length, β, u, rfl, rfl, Nat.le_refl _, Nat.le_refl _, by simp, Iu⟩
  rintro k a3 w3 ⟨done, rest, F, β3, u, rfl, hgr, hF, hdl, hsc, I⟩
  refine wp_cfC (tm := fillF (scrF 73 paK) u 0 (paV (91 :: g) deep 93 (1 + done.flatten.length) done.length)) (rows := []) (nx := 0) ?_
  have hgl : g.length = done.flatten.length + rest.length := by rw [hgr, List.length_append]
  have hdr : (91 :: g).drop (1 + done.flatten.length) = rest := by rw [Nat.add_comm, List.drop_succ_cons, hgr, List.drop_left]
  cases rest with
  | nil =>
    rw [List.length_nil] at hgl
    have hbr : brk (prt n) 91 g = 0 := by unfold brk; rw [show clo 91 = 93 from rfl, hsc, scan_nil]; simp
    refine goQ [lO Tryd.underlying9 (b := ⟨(91 :: g).toArray⟩) (n := (91 :: g).length) (by rw [hsz]), bO .lss 3 (run_lssZ (x := (1 + done.flatten.length : Nat)) (y := (91 :: g).length) (b := false) (decide_eq_false (by rw [hcl]; omega)))] (nonR w) I fun β4 a4 w4 I hb4 => ?_
    refine endE 0 ?_
    refine goQ [lO Tryd.underlying9 (b := ⟨(91 :: g).toArray⟩) (n := (91 :: g).length) (by rw [hsz]), bO .geq 3 (run_geqZ (x := (1 + done.flatten.length : Nat)) (y := (91 :: g).length) (b := true) (decide_eq_true (by rw [hcl]; omega)))] (nonR w) (I.exit _) fun β5 a5 w5 I hb5 => ?_
    exact outQ (v := Z (0 : Nat)) I ⟨by rw [hbr], I.hJ⟩
  | cons c r =>
    rw [List.length_cons] at hgl
    have hix : (91 :: g)[1 + done.flatten.length]? = some c := by
      have := congrArg (·[0]?) hdr
      simpa [List.getElem?_drop] using this
    have ic : ∀ w, (Instr.index 9 (str (91 :: g)) (Z (1 + done.flatten.length : Nat))).run Tryd.prog w = .ok (.int .u8 c.toNat) w := fun w => idx_run hix w
    by_cases hce : c = 93
    · subst hce
      have hbr : brk (prt n) 91 g = if (91 : UInt8) = 91 ∧ done.length ≠ 1 then 0 else done.flatten.length + 2 := by unfold brk; rw [show clo 91 = 93 from rfl, hsc, scan_hit]; simp
      refine goQ [lO Tryd.underlying9 (b := ⟨(91 :: g).toArray⟩) (n := (91 :: g).length) (by rw [hsz]), bO .lss 3 (run_lssZ (x := (1 + done.flatten.length : Nat)) (y := (91 :: g).length) (b := true) (decide_eq_true (by rw [hcl]; omega))), iO 9 (p := str (91 :: g)) (i := Z (1 + done.flatten.length : Nat)) (v := .int .u8 (93 : UInt8).toNat) ic, bO .neq 5 (neqB_run (x := 93) (y := 93) (q := false) (by decide))] (nonR w) I fun β4 a4 w4 I hb4 => ?_
      refine endE 0 ?_
      rcases Nat.decEq done.length 1 with h1 | h1
      · refine goQ [lO Tryd.underlying9 (b := ⟨(91 :: g).toArray⟩) (n := (91 :: g).length) (by rw [hsz]), bO .geq 3 (run_geqZ (x := (1 + done.flatten.length : Nat)) (y := (91 :: g).length) (b := false) (decide_eq_false (by rw [hcl]; omega))), iO 9 (p := str (91 :: g)) (i := Z (0 : Nat)) (v := .int .u8 (91 : UInt8).toNat) (idx_run rfl), bO .eql 5 (eqB_run (x := 91) (y := 91) (q := true) (by decide)), bO .neq 3 (run_neqZ (x := done.length) (y := 1) (b := true) (decide_eq_true (by omega)))] (nonR w) (I.exit _) fun β5 a5 w5 I hb5 => ?_
        exact outQ (v := Z (0 : Nat)) I ⟨by rw [hbr]; simp [h1], I.hJ⟩
      · refine goQ [lO Tryd.underlying9 (b := ⟨(91 :: g).toArray⟩) (n := (91 :: g).length) (by rw [hsz]), bO .geq 3 (run_geqZ (x := (1 + done.flatten.length : Nat)) (y := (91 :: g).length) (b := false) (decide_eq_false (by rw [hcl]; omega))), iO 9 (p := str (91 :: g)) (i := Z (0 : Nat)) (v := .int .u8 (91 : UInt8).toNat) (idx_run rfl), bO .eql 5 (eqB_run (x := 91) (y := 91) (q := true) (by decide)), bO .neq 3 (run_neqZ (x := done.length) (y := 1) (b := false) (by simp; omega)), bO .add 3 (run_addZ (x := (1 + done.flatten.length : Nat)) (y := 1) (z := (done.flatten.length + 2 : Nat)) (by rw [wz (by omega) (by omega)]; omega))] (nonR w) (I.exit _) fun β5 a5 w5 I hb5 => ?_
        exact outQ (v := Z (done.flatten.length + 2 : Nat)) I ⟨by rw [hbr]; simp [h1], I.hJ⟩
    · have hfr : ∀ w, (Instr.sliceAt 9 (str (91 :: g)) (some (Z (1 + done.flatten.length : Nat))) none none).run Tryd.prog w = .ok (str (c :: r)) w := fun w => by
        have := from_run (l := 91 :: g) (k := 1 + done.flatten.length) (by rw [hcl]; omega) w
        rw [hdr] at this
        exact this
      obtain ⟨F', rfl, hst⟩ := scan_step (p := prt n) (e := some 93) hF (by simpa using hce)
      obtain ⟨kk, hkk⟩ : ∃ kk, prt n (c :: r) = kk := ⟨_, rfl⟩
      have hkl := (prt_pt n (c :: r)).1
      rw [hst, hkk] at hsc
      rw [hkk, List.length_cons] at hkl
      have ihc : ∀ w, Calls Tryd.prog 37 #[str (c :: r), Z (deep + 1 : Nat)] w fun e w' => e = .returned (Z kk) ∧ Below w.heap.size w w' := fun w => by have := ih (c :: r) (by rw [List.length_cons]; omega) w; rw [hkk] at this; exact this
      by_cases hk0 : kk = 0
      · subst hk0
        have hbr : brk (prt n) 91 g = 0 := by unfold brk; rw [show clo 91 = 93 from rfl, hsc]; simp
        refine goQ [lO Tryd.underlying9 (b := ⟨(91 :: g).toArray⟩) (n := (91 :: g).length) (by rw [hsz]), bO .lss 3 (run_lssZ (x := (1 + done.flatten.length : Nat)) (y := (91 :: g).length) (b := true) (decide_eq_true (by rw [hcl]; omega))), iO 9 (p := str (91 :: g)) (i := Z (1 + done.flatten.length : Nat)) (v := .int .u8 c.toNat) ic, bO .neq 5 (neqB_run (x := c) (y := 93) (q := true) (by simpa using hce)),
          sO 9 (p := str (91 :: g)) (l := Z (1 + done.flatten.length : Nat)) (v := str (c :: r)) hfr, bO .add 3 (run_addZ (x := deep) (y := 1) (z := (deep + 1 : Nat)) (by rw [wz (by omega) (by omega)]; omega)), kC Tryd.func37 ihc, bO .eql 3 (run_eqlZ (x := (0 : Nat)) (y := 0) (b := true) (by simp))] (nonR w) I fun β4 a4 w4 I hb4 => ?_
        exact endR (retV (v := Z (0 : Nat)) I ⟨by rw [hbr], I.hJ⟩)
      · rw [if_neg hk0] at hsc
        have hfl : (done ++ [(c :: r).take kk]).flatten.length = done.flatten.length + kk := by simp only [List.flatten_append, List.length_append, List.flatten_cons, List.flatten_nil, List.append_nil, List.length_take, List.length_cons]; omega
        refine goQ [lO Tryd.underlying9 (b := ⟨(91 :: g).toArray⟩) (n := (91 :: g).length) (by rw [hsz]), bO .lss 3 (run_lssZ (x := (1 + done.flatten.length : Nat)) (y := (91 :: g).length) (b := true) (decide_eq_true (by rw [hcl]; omega))), iO 9 (p := str (91 :: g)) (i := Z (1 + done.flatten.length : Nat)) (v := .int .u8 c.toNat) ic, bO .neq 5 (neqB_run (x := c) (y := 93) (q := true) (by simpa using hce)),
          sO 9 (p := str (91 :: g)) (l := Z (1 + done.flatten.length : Nat)) (v := str (c :: r)) hfr, bO .add 3 (run_addZ (x := deep) (y := 1) (z := (deep + 1 : Nat)) (by rw [wz (by omega) (by omega)]; omega)), kC Tryd.func37 ihc, bO .eql 3 (run_eqlZ (x := kk) (y := 0) (b := false) (by simp; omega)), bO .add 3 (run_addZ (x := (1 + done.flatten.length : Nat)) (y := kk) (z := (1 + (done ++ [(c :: r).take kk]).flatten.length : Nat)) (by rw [hfl, wz (by omega) (by omega)]; omega)), bO .add 3 (run_addZ (x := done.length) (y := 1) (z := (done ++ [(c :: r).take kk]).length) (by rw [wz (by omega) (by omega)]; simp))] (nonR w) I fun β4 a4 w4 I hb4 => ?_
        obtain ⟨u', Iu⟩ := I.scr (bodyL Tryd.f37) (scrF 73 paK) (paV (91 :: g) deep 93 (1 + (done ++ [(c :: r).take kk]).flatten.length) (done ++ [(c :: r).take kk]).length) [] 0
        refine endL ⟨((c :: r).drop kk).length, by rw [List.length_drop]; simp; omega, done ++ [(c :: r).take kk], (c :: r).drop kk, F', β4, u', rfl, ?_, by rw [List.length_drop, List.length_cons]; rw [List.length_cons] at hF; omega, by rw [hfl, List.length_append, List.length_singleton]; omega, ?_, Iu⟩
        · rw [List.flatten_append, List.flatten_cons, List.flatten_nil, List.append_nil, List.append_assoc, List.take_append_drop]; exact hgr
        · rw [hsc, Option.map_map]
          congr 1
          funext x
          simp
theorem part_nil (deep : Nat) (w : World) : Calls Tryd.prog 37 #[str [], Z deep] w fun e w' => e = .returned (Z (0 : Nat)) ∧ Below w.heap.size w w' := by
  refine inQ (J := Below w.heap.size w) (F := (· < w.heap.size)) Tryd.func37 (Below.refl _ _) fun a I => ?_
  refine goQ [bO .eql 9 (eqS_run (a := []) (b := []) (q := true) (by simp))] (nonR w) I fun β a w1 I hb => ?_
  exact outQ (v := Z (0 : Nat)) I ⟨rfl, I.hJ⟩
theorem part_one (deep : Nat) (b : UInt8) (g : List UInt8) (h : b = 110 ∨ b = 116) (w : World) : Calls Tryd.prog 37 #[str (b :: g), Z deep] w fun e w' => e = .returned (Z (1 : Nat)) ∧ Below w.heap.size w w' := by
  refine inQ (J := Below w.heap.size w) (F := (· < w.heap.size)) Tryd.func37 (Below.refl _ _) fun a I => ?_
  by_cases h1 : b = 110
  · refine goQ [bO .eql 9 (eqS_run (a := b :: g) (b := []) (q := false) (by simp)), iO 9 (p := str (b :: g)) (i := Z (0 : Nat)) (v := .int .u8 b.toNat) (idx_run rfl), bO .eql 5 (eqB_run (x := b) (y := 110) (q := true) (decide_eq_true h1))] (nonR w) I fun β a w1 I hb => ?_
    exact outQ (v := Z (1 : Nat)) I ⟨rfl, I.hJ⟩
  · have h2 : b = 116 := h.resolve_left h1
    refine goQ [bO .eql 9 (eqS_run (a := b :: g) (b := []) (q := false) (by simp)), iO 9 (p := str (b :: g)) (i := Z (0 : Nat)) (v := .int .u8 b.toNat) (idx_run rfl), bO .eql 5 (eqB_run (x := b) (y := 110) (q := false) (decide_eq_false h1)), iO 9 (p := str (b :: g)) (i := Z (0 : Nat)) (v := .int .u8 b.toNat) (idx_run rfl), bO .eql 5 (eqB_run (x := b) (y := 116) (q := true) (decide_eq_true h2))] (nonR w) I fun β a w1 I hb => ?_
    exact outQ (v := Z (1 : Nat)) I ⟨rfl, I.hJ⟩
theorem part_no (deep : Nat) (b : UInt8) (g : List UInt8) (h : ¬ (b = 110 ∨ b = 116)) (hb' : ¬ (b = 40 ∨ b = 91)) (w : World) : Calls Tryd.prog 37 #[str (b :: g), Z deep] w fun e w' => e = .returned (Z (0 : Nat)) ∧ Below w.heap.size w w' := by
  have h1 : ¬ b = 110 := fun e => h (.inl e)
  have h2 : ¬ b = 116 := fun e => h (.inr e)
  have h3 : b ≠ 40 := fun e => hb' (.inl e)
  have h4 : b ≠ 91 := fun e => hb' (.inr e)
  refine inQ (J := Below w.heap.size w) (F := (· < w.heap.size)) Tryd.func37 (Below.refl _ _) fun a I => ?_
  refine goQ [bO .eql 9 (eqS_run (a := b :: g) (b := []) (q := false) (by simp)), iO 9 (p := str (b :: g)) (i := Z (0 : Nat)) (v := .int .u8 b.toNat) (idx_run rfl), bO .eql 5 (eqB_run (x := b) (y := 110) (q := false) (decide_eq_false h1)), iO 9 (p := str (b :: g)) (i := Z (0 : Nat)) (v := .int .u8 b.toNat) (idx_run rfl), bO .eql 5 (eqB_run (x := b) (y := 116) (q := false) (decide_eq_false h2)), iO 9 (p := str (b :: g)) (i := Z (0 : Nat)) (v := .int .u8 b.toNat) (idx_run rfl), bO .neq 5 (neqB_run (x := b) (y := 40) (q := true) (decide_eq_true h3)), iO 9 (p := str (b :: g)) (i := Z (0 : Nat)) (v := .int .u8 b.toNat) (idx_run rfl), bO .neq 5 (neqB_run (x := b) (y := 91) (q := true) (decide_eq_true h4))] (nonR w) I fun β a w1 I hb => ?_
  exact outQ (v := Z (0 : Nat)) I ⟨rfl, I.hJ⟩
theorem part_deep (deep : Nat) (hd : 8 < deep) (b : UInt8) (g : List UInt8) (h : b = 40 ∨ b = 91) (w : World) : Calls Tryd.prog 37 #[str (b :: g), Z deep] w fun e w' => e = .returned (Z (0 : Nat)) ∧ Below w.heap.size w w' := by
  have h1 : ¬ b = 110 := by rcases h with rfl | rfl <;> decide
  have h2 : ¬ b = 116 := by rcases h with rfl | rfl <;> decide
  refine inQ (J := Below w.heap.size w) (F := (· < w.heap.size)) Tryd.func37 (Below.refl _ _) fun a I => ?_
  by_cases h3 : b = 40
  · refine goQ [bO .eql 9 (eqS_run (a := b :: g) (b := []) (q := false) (by simp)), iO 9 (p := str (b :: g)) (i := Z (0 : Nat)) (v := .int .u8 b.toNat) (idx_run rfl), bO .eql 5 (eqB_run (x := b) (y := 110) (q := false) (decide_eq_false h1)), iO 9 (p := str (b :: g)) (i := Z (0 : Nat)) (v := .int .u8 b.toNat) (idx_run rfl), bO .eql 5 (eqB_run (x := b) (y := 116) (q := false) (decide_eq_false h2)), iO 9 (p := str (b :: g)) (i := Z (0 : Nat)) (v := .int .u8 b.toNat) (idx_run rfl), bO .neq 5 (neqB_run (x := b) (y := 40) (q := false) (by simp [h3])), bO .gtr 3 (run_gtrZ (x := deep) (y := 8) (b := true) (by simp; omega))] (nonR w) I fun β a w1 I hb => ?_
    exact outQ (v := Z (0 : Nat)) I ⟨rfl, I.hJ⟩
  · have h4 : b = 91 := h.resolve_left h3
    refine goQ [bO .eql 9 (eqS_run (a := b :: g) (b := []) (q := false) (by simp)), iO 9 (p := str (b :: g)) (i := Z (0 : Nat)) (v := .int .u8 b.toNat) (idx_run rfl), bO .eql 5 (eqB_run (x := b) (y := 110) (q := false) (decide_eq_false h1)), iO 9 (p := str (b :: g)) (i := Z (0 : Nat)) (v := .int .u8 b.toNat) (idx_run rfl), bO .eql 5 (eqB_run (x := b) (y := 116) (q := false) (decide_eq_false h2)), iO 9 (p := str (b :: g)) (i := Z (0 : Nat)) (v := .int .u8 b.toNat) (idx_run rfl), bO .neq 5 (neqB_run (x := b) (y := 40) (q := true) (decide_eq_true h3)), iO 9 (p := str (b :: g)) (i := Z (0 : Nat)) (v := .int .u8 b.toNat) (idx_run rfl), bO .neq 5 (neqB_run (x := b) (y := 91) (q := false) (by simp [h4])), bO .gtr 3 (run_gtrZ (x := deep) (y := 8) (b := true) (by simp; omega))] (nonR w) I fun β a w1 I hb => ?_
    exact outQ (v := Z (0 : Nat)) I ⟨rfl, I.hJ⟩
theorem part_any : ∀ (n deep : Nat), deep + n = 9 → ∀ f : List UInt8, f.length ≤ 1000 → ∀ w, Calls Tryd.prog 37 #[str f, Z deep] w fun e w' => e = .returned (Z (prt n f)) ∧ Below w.heap.size w w' := by
  intro n
  induction n with
  | zero =>
    intro deep hd f hf w
    cases f with
    | nil => exact part_nil deep w
    | cons b g =>
      by_cases h : b = 110 ∨ b = 116
      · have := part_one deep b g h w
        unfold prt; simp only [if_pos h]; exact this
      · unfold prt; simp only [if_neg h]
        by_cases hb : b = 40 ∨ b = 91
        · exact part_deep deep (by omega) b g hb w
        · exact part_no deep b g h hb w
  | succ n ih =>
    intro deep hd f hf w
    cases f with
    | nil => exact part_nil deep w
    | cons b g =>
      by_cases h : b = 110 ∨ b = 116
      · have := part_one deep b g h w
        unfold prt; simp only [if_pos h]; exact this
      · unfold prt; simp only [if_neg h]
        by_cases hb : b = 40 ∨ b = 91
        · simp only [if_pos hb]
          rw [List.length_cons] at hf
          rcases hb with rfl | rfl
          · exact part_tup hd (fun f hf w => ih (deep + 1) (by omega) f hf w) g (by omega) w
          · exact part_arr hd (fun f hf w => ih (deep + 1) (by omega) f hf w) g (by omega) w
        · simp only [if_neg hb]
          exact part_no deep b g h hb w
theorem bs_str (s_ : ByteArray) (w : World) : (Instr.buildSlice 52 1 #[(0, .string s_)]).run Tryd.prog w = .ok (.slice (some ⟨w.heap.size, 0, none⟩) 1 1) (w.alloc (.cells #[.string s_] 9)) := by
  simp [go_sem]
end Go.Proofs.YtjjiendgmnlokaaDoor

/- The document's parts. -/
namespace Go.Proofs.YtjjiendgmnlokaaDoor
open Go.RowKit Go.Sort
set_option linter.unusedVariables false
set_option maxRecDepth 100000
theorem hI9 : ∃ i, Tryd.prog.info? 9 = some i ∧ i.zero = some (.string ⟨#[]⟩) ∧ i.size = 1 ∧ i.bytes = 16 := info_of (by kernel_rfl)
abbrev ptK : List Nat := [0, 4]
abbrev ptV (rest : List UInt8) (v : Value) : Vs := frm 22 [(0, Sum.inl (str rest)), (4, Sum.inl v)]
theorem neqS_run {a b : List UInt8} {q : Bool} (h : decide (a ≠ b) = q) (x y : Operand) (w : World) : (do eqGuard .neq 9 x y (str a) (str b); binOp .neq 9 (str a) (str b) : Sem Value).run Tryd.prog w = .ok (.bool q) w :=
  neqT_run (by rw [← h]; exact decide_eq_decide.2 (not_congr ⟨fun e => by simpa using congrArg (fun b : ByteArray => b.data.toList) e, fun e => by rw [e]⟩)) x y w
theorem parts_any (f : List UInt8) (hf : f.length ≤ 1000) (w : World) : Calls Tryd.prog 25 #[str f] w fun e w' => Below w.heap.size w w' ∧
    ((partsM f = none ∧ e = .returned (.tuple #[.slice none 0 0, .bool false])) ∨ ∃ ps v, partsM f = some ps ∧ e = .returned (.tuple #[v, .bool true]) ∧ w'.ownsRow w.heap.size 9 1 v ps.length (ps.map str)) := by
  refine inQ (J := EO w 9 1 (.slice none 0 0) 0 []) (F := EF w (.slice none 0 0)) Tryd.func25 ⟨Below.refl _ _, World.ownsRow_nil _ _ _ _⟩ fun a I => ?_
  refine goQ [] (EO.rs _ _ _ _ _ _) I fun β a w1 I hb => ?_
  let St : Nat → Act → World → Prop := fun k a w' => ∃ (done : List (List UInt8)) (rest : List UInt8) (F : Nat) (β : Nat → Nat) (u : Nat → Value) (ad : Option Addr) (cap : Nat), k = rest.length ∧ f.length = done.flatten.length + rest.length ∧ rest.length ≤ F ∧ done.length ≤ done.flatten.length ∧
    scan (prt 8) none f.length f = (scan (prt 8) none F rest).map (fun x => (done ++ x.1, x.2)) ∧
    SI (EO w 9 1 (.slice ad done.length cap) done.length (done.map str)) (EF w (.slice ad done.length cap)) [] β (cfC (bodyL Tryd.f25) (fillF (scrF 22 ptK) u 0 (ptV rest (.slice ad done.length cap))) [] 0) a w'
  refine lpM (bodyL Tryd.f25) St f.length ?_ ?_
  · obtain ⟨u, Iu⟩ := I.scr (bodyL Tryd.f25) (scrF 22 ptK) (ptV f (.slice none 0 0)) [] 0
    exact ⟨[], f, f.length, β, u, none, 0, rfl, by simp, Nat.le_refl _, Nat.le_refl _, by simp, Iu⟩
  rintro k a3 w3 ⟨done, rest, F, β3, u, ad, cap, rfl, hgl, hF, hdl, hsc, I⟩
  refine wp_cfC (tm := fillF (scrF 22 ptK) u 0 (ptV rest (.slice ad done.length cap))) (rows := []) (nx := 0) ?_
  cases rest with
  | nil =>
    have hbr : partsM f = some done := by unfold partsM; rw [hsc, scan_nil]; simp
    refine goQ [bO .neq 9 (neqS_run (a := []) (b := []) (q := false) (by simp))] (EO.rs _ _ _ _ _ _) I fun β4 a4 w4 I hb4 => ?_
    refine endE 0 ?_
    refine goQ [] (EO.rs _ _ _ _ _ _) (I.exit _) fun β5 a5 w5 I hb5 => ?_
    exact outQ (v := .tuple #[.slice ad done.length cap, .bool true]) I ⟨I.hJ.bw, .inr ⟨done, _, hbr, rfl, I.hJ.own⟩⟩
  | cons c r =>
    obtain ⟨F', rfl, hst⟩ := scan_step (p := prt 8) (e := none) hF (by simp)
    obtain ⟨kk, hkk⟩ : ∃ kk, prt 8 (c :: r) = kk := ⟨_, rfl⟩
    have hkl := (prt_pt 8 (c :: r)).1
    rw [hst, hkk] at hsc
    rw [hkk, List.length_cons] at hkl
    rw [List.length_cons] at hgl
    have ihc : ∀ w, Calls Tryd.prog 37 #[str (c :: r), Z (1 : Nat)] w fun e w' => e = .returned (Z kk) ∧ Below w.heap.size w w' := fun w => by have := part_any 8 1 rfl (c :: r) (by rw [List.length_cons]; omega) w; rw [hkk] at this; exact this
    by_cases hk0 : kk = 0
    · subst hk0
      have hbr : partsM f = none := by unfold partsM; rw [hsc]; simp
      refine goQ [bO .neq 9 (neqS_run (a := c :: r) (b := []) (q := true) (by simp)), kC Tryd.func37 ihc, bO .eql 3 (run_eqlZ (x := (0 : Nat)) (y := 0) (b := true) (by simp))] (EO.rs _ _ _ _ _ _) I fun β4 a4 w4 I hb4 => ?_
      exact endR (retV (v := .tuple #[.slice none 0 0, .bool false]) I ⟨I.hJ.bw, .inl ⟨hbr, rfl⟩⟩)
    · rw [if_neg hk0] at hsc
      have hfl : (done ++ [(c :: r).take kk]).flatten.length = done.flatten.length + kk := by simp only [List.flatten_append, List.length_append, List.flatten_cons, List.flatten_nil, List.append_nil, List.length_take, List.length_cons]; omega
      have d1 : ∀ w, (Instr.sliceAt 9 (str (c :: r)) none (some (Z kk)) none).run Tryd.prog w = .ok (str ((c :: r).take kk)) w := fun w => to_run (by rw [List.length_cons]; omega) w
      have d2 : ∀ w, (Instr.sliceAt 9 (str (c :: r)) (some (Z kk)) none none).run Tryd.prog w = .ok (str ((c :: r).drop kk)) w := fun w => from_run (by rw [List.length_cons]; omega) w
      refine goQ [bO .neq 9 (neqS_run (a := c :: r) (b := []) (q := true) (by simp)), kC Tryd.func37 ihc, bO .eql 3 (run_eqlZ (x := kk) (y := 0) (b := false) (by simp; omega)), sT 9 (p := str (c :: r)) (l := Z kk) (v := str ((c :: r).take kk)) d1] (EO.rs _ _ _ _ _ _) I fun β4 a4 w4 I hb4 => ?_
      refine bslQ (ss := [(0, Sum.inl (str ((c :: r).take kk)))]) I (bs_str _ w4) ?_
      have I7 := I.alloc (EO.rs _ _ _ _ _ _) (.cells #[str ((c :: r).take kk)] 9) (.slice (some ⟨w4.heap.size, 0, none⟩) 1 1)
      obtain ⟨inf, hi1, hi2, hi3, hi4⟩ := hI9
      obtain ⟨v', w8, hr8, ho8, hg8⟩ := app_els Tryd.underlying52 hi1 hi2 hi3 hi4 rfl (by decide) (by decide) I7.hJ.own I7.hJ.bw.size ⟨w4.heap.size, 0, none⟩ [str ((c :: r).take kk)] rfl (alloc_cell w4 #[str ((c :: r).take kk)] 9) (by intro u hu; rw [List.mem_singleton] at hu; subst hu; rfl) (by omega)
      have hdl1 : (done ++ [(c :: r).take kk]).length = done.length + 1 := by simp
      have hdm : done.map str ++ [str ((c :: r).take kk)] = (done ++ [(c :: r).take kk]).map str := by simp
      rw [hdm, ← hdl1] at ho8
      obtain ⟨ad8, cap8, rfl⟩ := owns_slice ho8
      refine appQ (ss := [Sum.inl (.slice ad done.length cap), Sum.inl (.slice (some ⟨w4.heap.size, 0, none⟩) 1 1)]) I7 hr8 ?_
      refine goQ [sO 9 (p := str (c :: r)) (l := Z kk) (v := str ((c :: r).drop kk)) d2] (EO.rs _ _ _ _ _ _) (I7.grownE ho8 hg8 _) fun β9 a9 w9 I hb9 => ?_
      obtain ⟨u', Iu⟩ := I.scr (bodyL Tryd.f25) (scrF 22 ptK) (ptV ((c :: r).drop kk) (.slice ad8 (done ++ [(c :: r).take kk]).length cap8)) [] 0
      refine endL ⟨((c :: r).drop kk).length, by rw [List.length_drop]; simp; omega, done ++ [(c :: r).take kk], (c :: r).drop kk, F', β9, u', ad8, cap8, rfl, by rw [hfl, List.length_drop, List.length_cons]; omega, by rw [List.length_drop, List.length_cons]; rw [List.length_cons] at hF; omega, by rw [hfl, hdl1]; omega, ?_, Iu⟩
      rw [hsc, Option.map_map]
      congr 1
      funext x
      simp
end Go.Proofs.YtjjiendgmnlokaaDoor

/- The document's fits and Fits. -/
namespace Go.Proofs.YtjjiendgmnlokaaDoor
open Go.RowKit Go.Sort
set_option linter.unusedVariables false
set_option maxRecDepth 100000
set_option linter.unusedSectionVars false
theorem flat_mem {q : List UInt8} : ∀ {ps : List (List UInt8)}, q ∈ ps → q.length ≤ ps.flatten.length
  | p :: ps, h => by
    rw [List.flatten_cons, List.length_append]
    rcases List.mem_cons.1 h with rfl | h
    · omega
    · have := flat_mem h; omega
theorem eqU_run {n m : Nat} (hn : n < W) (hm : m < W) {q : Bool} (h : decide (n = m) = q) (x y : Operand) (w : World) : (do eqGuard .eql 39 x y (U n) (U m); binOp .eql 39 (U n) (U m) : Sem Value).run Tryd.prog w = .ok (.bool q) w := by
  have e := run_eqU n m hn hm w
  rw [← h]
  by_cases hx : n = m
  · subst hx
    have e2 := run_eqU_same n w
    simp [go_sem, e2]
  · rw [decide_eq_false hx] at e
    simp [go_sem, e, hx]
theorem eqT_run {a b : ByteArray} {q : Bool} (h : decide (a = b) = q) (x y : Operand) (w : World) : (do eqGuard .eql 9 x y (.string a) (.string b); binOp .eql 9 (.string a) (.string b) : Sem Value).run Tryd.prog w = .ok (.bool q) w := by
  obtain ⟨la, rfl⟩ : ∃ l : List UInt8, a = ⟨l.toArray⟩ := ⟨a.data.toList, by simp⟩
  obtain ⟨lb, rfl⟩ : ∃ l : List UInt8, b = ⟨l.toArray⟩ := ⟨b.data.toList, by simp⟩
  have e : ((⟨la.toArray⟩ : ByteArray) = ⟨lb.toArray⟩) ↔ la = lb := ⟨fun e => by have := congrArg ByteArray.data e; simpa using this, fun e => by rw [e]⟩
  rw [← h]
  by_cases hx : la = lb
  · simp [go_sem, hx]
  · have h2 : ¬ ((⟨la.toArray⟩ : ByteArray) = ⟨lb.toArray⟩) := fun q => hx (e.1 q)
    simp [go_sem, hx]
theorem size0 {s : ByteArray} : s = ⟨#[]⟩ ↔ s.size = 0 := by
  refine ⟨fun h => by rw [h]; rfl, fun h => ?_⟩
  apply ByteArray.ext
  exact Array.eq_empty_of_size_eq_zero h
theorem bd_U0 (w : World) : (Instr.build 39 (([] : List Nat).zip ([] : List Value)).toArray).run Tryd.prog w = .ok (U 0) w := by kernel_rfl
theorem fits_n (g : List UInt8) (k : Int) (u : Nat) (hu : u < W) (s : ByteArray) (ad : Option Addr) (m cap : Nat) (w : World) : Calls Tryd.prog 32 #[str (110 :: g), .agg #[Z k, B (l0 u), B (l1 u), B (l2 u), B (l3 u), .string s, .slice ad m cap]] w fun e w' => e = .returned (.bool (decide (k = 0) && decide (s.size = 0) && decide (m = 0))) ∧ Below w.heap.size w w' := by
  refine inQ (J := Below w.heap.size w) (F := (· < w.heap.size)) Tryd.func32 (Below.refl _ _) fun a I => ?_
  by_cases h1 : k = 0
  · by_cases h2 : s.size = 0
    · by_cases h3 : m = 0
      · refine goQ [iO 9 (p := str (110 :: g)) (i := Z (0 : Nat)) (v := .int .u8 (110 : UInt8).toNat) (idx_run rfl), bO .eql 5 (eqB_run (x := 110) (y := 110) (q := true) (by decide)), bO .eql 3 (run_eqlZ (x := k) (y := 0) (b := true) (decide_eq_true h1)), bO .eql 9 (eqT_run (a := s) (b := ⟨#[]⟩) (q := true) (decide_eq_true (size0.2 h2))), lS Tryd.underlying22 (ad := ad) (n := m) (cap := cap) rfl, bO .eql 3 (run_eqlZ (x := m) (y := 0) (b := true) (by simp [h3]))] (nonR w) I fun β a w1 I hb => ?_
        exact outQ (v := .bool true) I ⟨by simp [h1, h2, h3], I.hJ⟩
      · refine goQ [iO 9 (p := str (110 :: g)) (i := Z (0 : Nat)) (v := .int .u8 (110 : UInt8).toNat) (idx_run rfl), bO .eql 5 (eqB_run (x := 110) (y := 110) (q := true) (by decide)), bO .eql 3 (run_eqlZ (x := k) (y := 0) (b := true) (decide_eq_true h1)), bO .eql 9 (eqT_run (a := s) (b := ⟨#[]⟩) (q := true) (decide_eq_true (size0.2 h2))), lS Tryd.underlying22 (ad := ad) (n := m) (cap := cap) rfl, bO .eql 3 (run_eqlZ (x := m) (y := 0) (b := false) (by simp [h3]))] (nonR w) I fun β a w1 I hb => ?_
        exact outQ (v := .bool false) I ⟨by simp [h1, h2, h3], I.hJ⟩
    · refine goQ [iO 9 (p := str (110 :: g)) (i := Z (0 : Nat)) (v := .int .u8 (110 : UInt8).toNat) (idx_run rfl), bO .eql 5 (eqB_run (x := 110) (y := 110) (q := true) (by decide)), bO .eql 3 (run_eqlZ (x := k) (y := 0) (b := true) (decide_eq_true h1)), bO .eql 9 (eqT_run (a := s) (b := ⟨#[]⟩) (q := false) (decide_eq_false fun h => h2 (size0.1 h)))] (nonR w) I fun β a w1 I hb => ?_
      exact outQ (v := .bool false) I ⟨by simp [h1, h2], I.hJ⟩
  · refine goQ [iO 9 (p := str (110 :: g)) (i := Z (0 : Nat)) (v := .int .u8 (110 : UInt8).toNat) (idx_run rfl), bO .eql 5 (eqB_run (x := 110) (y := 110) (q := true) (by decide)), bO .eql 3 (run_eqlZ (x := k) (y := 0) (b := false) (decide_eq_false h1))] (nonR w) I fun β a w1 I hb => ?_
    exact outQ (v := .bool false) I ⟨by simp [h1], I.hJ⟩
theorem fits_t (g : List UInt8) (k : Int) (u : Nat) (hu : u < W) (s : ByteArray) (ad : Option Addr) (m cap : Nat) (w : World) : Calls Tryd.prog 32 #[str (116 :: g), .agg #[Z k, B (l0 u), B (l1 u), B (l2 u), B (l3 u), .string s, .slice ad m cap]] w fun e w' => e = .returned (.bool (decide (k = 1) && decide (u = 0) && decide (m = 0) && decide (s.size ≤ 16384))) ∧ Below w.heap.size w w' := by
  refine inQ (J := Below w.heap.size w) (F := (· < w.heap.size)) Tryd.func32 (Below.refl _ _) fun a I => ?_
  by_cases h1 : k = 1
  · by_cases h2 : u = 0
    · by_cases h3 : m = 0
      · by_cases h4 : s.size ≤ 16384
        · refine goQ [iO 9 (p := str (116 :: g)) (i := Z (0 : Nat)) (v := .int .u8 (116 : UInt8).toNat) (idx_run rfl), bO .eql 5 (eqB_run (x := 116) (y := 110) (q := false) (by decide)), bO .eql 5 (eqB_run (x := 116) (y := 116) (q := true) (by decide)), bO .eql 3 (run_eqlZ (x := k) (y := 1) (b := true) (decide_eq_true h1)), dO 39 [] (xs := []) bd_U0, bO .eql 39 (eqU_run (n := u) (m := 0) hu (by decide) (q := true) (decide_eq_true h2)), lS Tryd.underlying22 (ad := ad) (n := m) (cap := cap) rfl, bO .eql 3 (run_eqlZ (x := m) (y := 0) (b := true) (by simp [h3])), lO Tryd.underlying9 (b := s) (n := s.size) rfl, bO .leq 3 (run_leqZ (x := s.size) (y := 16384) (b := true) (by simp; omega))] (nonR w) I fun β a w1 I hb => ?_
          exact outQ (v := .bool true) I ⟨by simp [h1, h2, h3, h4], I.hJ⟩
        · refine goQ [iO 9 (p := str (116 :: g)) (i := Z (0 : Nat)) (v := .int .u8 (116 : UInt8).toNat) (idx_run rfl), bO .eql 5 (eqB_run (x := 116) (y := 110) (q := false) (by decide)), bO .eql 5 (eqB_run (x := 116) (y := 116) (q := true) (by decide)), bO .eql 3 (run_eqlZ (x := k) (y := 1) (b := true) (decide_eq_true h1)), dO 39 [] (xs := []) bd_U0, bO .eql 39 (eqU_run (n := u) (m := 0) hu (by decide) (q := true) (decide_eq_true h2)), lS Tryd.underlying22 (ad := ad) (n := m) (cap := cap) rfl, bO .eql 3 (run_eqlZ (x := m) (y := 0) (b := true) (by simp [h3])), lO Tryd.underlying9 (b := s) (n := s.size) rfl, bO .leq 3 (run_leqZ (x := s.size) (y := 16384) (b := false) (by simp; omega))] (nonR w) I fun β a w1 I hb => ?_
          exact outQ (v := .bool false) I ⟨by simp [h1, h2, h3, h4], I.hJ⟩
      · refine goQ [iO 9 (p := str (116 :: g)) (i := Z (0 : Nat)) (v := .int .u8 (116 : UInt8).toNat) (idx_run rfl), bO .eql 5 (eqB_run (x := 116) (y := 110) (q := false) (by decide)), bO .eql 5 (eqB_run (x := 116) (y := 116) (q := true) (by decide)), bO .eql 3 (run_eqlZ (x := k) (y := 1) (b := true) (decide_eq_true h1)), dO 39 [] (xs := []) bd_U0, bO .eql 39 (eqU_run (n := u) (m := 0) hu (by decide) (q := true) (decide_eq_true h2)), lS Tryd.underlying22 (ad := ad) (n := m) (cap := cap) rfl, bO .eql 3 (run_eqlZ (x := m) (y := 0) (b := false) (by simp [h3]))] (nonR w) I fun β a w1 I hb => ?_
        exact outQ (v := .bool false) I ⟨by simp [h1, h2, h3], I.hJ⟩
    · refine goQ [iO 9 (p := str (116 :: g)) (i := Z (0 : Nat)) (v := .int .u8 (116 : UInt8).toNat) (idx_run rfl), bO .eql 5 (eqB_run (x := 116) (y := 110) (q := false) (by decide)), bO .eql 5 (eqB_run (x := 116) (y := 116) (q := true) (by decide)), bO .eql 3 (run_eqlZ (x := k) (y := 1) (b := true) (decide_eq_true h1)), dO 39 [] (xs := []) bd_U0, bO .eql 39 (eqU_run (n := u) (m := 0) hu (by decide) (q := false) (decide_eq_false h2))] (nonR w) I fun β a w1 I hb => ?_
      exact outQ (v := .bool false) I ⟨by simp [h1, h2], I.hJ⟩
  · refine goQ [iO 9 (p := str (116 :: g)) (i := Z (0 : Nat)) (v := .int .u8 (116 : UInt8).toNat) (idx_run rfl), bO .eql 5 (eqB_run (x := 116) (y := 110) (q := false) (by decide)), bO .eql 5 (eqB_run (x := 116) (y := 116) (q := true) (by decide)), bO .eql 3 (run_eqlZ (x := k) (y := 1) (b := false) (decide_eq_false h1))] (nonR w) I fun β a w1 I hb => ?_
    exact outQ (v := .bool false) I ⟨by simp [h1], I.hJ⟩
theorem fits_bad_tup (g : List UInt8) (k : Int) (u : Nat) (hu : u < W) (s : ByteArray) (ad : Option Addr) (m cap : Nat) (w : World) (hm : m < 1000000000) (h : k ≠ 2 ∨ u ≠ 0 ∨ s.size ≠ 0 ∨ 64 < m) : Calls Tryd.prog 32 #[str (40 :: g), .agg #[Z k, B (l0 u), B (l1 u), B (l2 u), B (l3 u), .string s, .slice ad m cap]] w fun e w' => e = .returned (.bool false) ∧ Below w.heap.size w w' := by
  refine inQ (J := Below w.heap.size w) (F := (· < w.heap.size)) Tryd.func32 (Below.refl _ _) fun a I => ?_
  by_cases h1 : k = 2
  · by_cases h2 : u = 0
    · by_cases h3 : s.size = 0
      · have h4 : 64 < m := by rcases h with h | h | h | h <;> first | exact absurd h1 h | exact absurd h2 h | exact absurd h3 h | exact h
        refine goQ [iO 9 (p := str (40 :: g)) (i := Z (0 : Nat)) (v := .int .u8 (40 : UInt8).toNat) (idx_run rfl), bO .eql 5 (eqB_run (x := 40) (y := 110) (q := false) (by decide)), bO .eql 5 (eqB_run (x := 40) (y := 116) (q := false) (by decide)), bO .neq 3 (run_neqZ (x := k) (y := 2) (b := false) (by simp [h1])), dO 39 [] (xs := []) bd_U0, bO .neq 39 (neqU_run (n := u) (m := 0) hu (by decide) (q := false) (by simp [h2])), bO .neq 9 (neqT_run (a := s) (b := ⟨#[]⟩) (q := false) (by simp [size0.2 h3])), lS Tryd.underlying22 (ad := ad) (n := m) (cap := cap) rfl, bO .gtr 3 (run_gtrZ (x := m) (y := 64) (b := true) (by simp; omega))] (nonR w) I fun β a w1 I hb => ?_
        exact outQ (v := .bool false) I ⟨by rfl, I.hJ⟩
      · refine goQ [iO 9 (p := str (40 :: g)) (i := Z (0 : Nat)) (v := .int .u8 (40 : UInt8).toNat) (idx_run rfl), bO .eql 5 (eqB_run (x := 40) (y := 110) (q := false) (by decide)), bO .eql 5 (eqB_run (x := 40) (y := 116) (q := false) (by decide)), bO .neq 3 (run_neqZ (x := k) (y := 2) (b := false) (by simp [h1])), dO 39 [] (xs := []) bd_U0, bO .neq 39 (neqU_run (n := u) (m := 0) hu (by decide) (q := false) (by simp [h2])), bO .neq 9 (neqT_run (a := s) (b := ⟨#[]⟩) (q := true) (decide_eq_true fun h => h3 (size0.1 h)))] (nonR w) I fun β a w1 I hb => ?_
        exact outQ (v := .bool false) I ⟨by rfl, I.hJ⟩
    · refine goQ [iO 9 (p := str (40 :: g)) (i := Z (0 : Nat)) (v := .int .u8 (40 : UInt8).toNat) (idx_run rfl), bO .eql 5 (eqB_run (x := 40) (y := 110) (q := false) (by decide)), bO .eql 5 (eqB_run (x := 40) (y := 116) (q := false) (by decide)), bO .neq 3 (run_neqZ (x := k) (y := 2) (b := false) (by simp [h1])), dO 39 [] (xs := []) bd_U0, bO .neq 39 (neqU_run (n := u) (m := 0) hu (by decide) (q := true) (decide_eq_true h2))] (nonR w) I fun β a w1 I hb => ?_
      exact outQ (v := .bool false) I ⟨by rfl, I.hJ⟩
  · refine goQ [iO 9 (p := str (40 :: g)) (i := Z (0 : Nat)) (v := .int .u8 (40 : UInt8).toNat) (idx_run rfl), bO .eql 5 (eqB_run (x := 40) (y := 110) (q := false) (by decide)), bO .eql 5 (eqB_run (x := 40) (y := 116) (q := false) (by decide)), bO .neq 3 (run_neqZ (x := k) (y := 2) (b := true) (decide_eq_true h1))] (nonR w) I fun β a w1 I hb => ?_
    exact outQ (v := .bool false) I ⟨by rfl, I.hJ⟩
theorem fits_bad_arr (g : List UInt8) (k : Int) (u : Nat) (hu : u < W) (s : ByteArray) (ad : Option Addr) (m cap : Nat) (w : World) (hm : m < 1000000000) (h : k ≠ 2 ∨ u ≠ 0 ∨ s.size ≠ 0 ∨ 64 < m) : Calls Tryd.prog 32 #[str (91 :: g), .agg #[Z k, B (l0 u), B (l1 u), B (l2 u), B (l3 u), .string s, .slice ad m cap]] w fun e w' => e = .returned (.bool false) ∧ Below w.heap.size w w' := by
  refine inQ (J := Below w.heap.size w) (F := (· < w.heap.size)) Tryd.func32 (Below.refl _ _) fun a I => ?_
  by_cases h1 : k = 2
  · by_cases h2 : u = 0
    · by_cases h3 : s.size = 0
      · have h4 : 64 < m := by rcases h with h | h | h | h <;> first | exact absurd h1 h | exact absurd h2 h | exact absurd h3 h | exact h
        refine goQ [iO 9 (p := str (91 :: g)) (i := Z (0 : Nat)) (v := .int .u8 (91 : UInt8).toNat) (idx_run rfl), bO .eql 5 (eqB_run (x := 91) (y := 110) (q := false) (by decide)), bO .eql 5 (eqB_run (x := 91) (y := 116) (q := false) (by decide)), bO .neq 3 (run_neqZ (x := k) (y := 2) (b := false) (by simp [h1])), dO 39 [] (xs := []) bd_U0, bO .neq 39 (neqU_run (n := u) (m := 0) hu (by decide) (q := false) (by simp [h2])), bO .neq 9 (neqT_run (a := s) (b := ⟨#[]⟩) (q := false) (by simp [size0.2 h3])), lS Tryd.underlying22 (ad := ad) (n := m) (cap := cap) rfl, bO .gtr 3 (run_gtrZ (x := m) (y := 64) (b := true) (by simp; omega))] (nonR w) I fun β a w1 I hb => ?_
        exact outQ (v := .bool false) I ⟨by rfl, I.hJ⟩
      · refine goQ [iO 9 (p := str (91 :: g)) (i := Z (0 : Nat)) (v := .int .u8 (91 : UInt8).toNat) (idx_run rfl), bO .eql 5 (eqB_run (x := 91) (y := 110) (q := false) (by decide)), bO .eql 5 (eqB_run (x := 91) (y := 116) (q := false) (by decide)), bO .neq 3 (run_neqZ (x := k) (y := 2) (b := false) (by simp [h1])), dO 39 [] (xs := []) bd_U0, bO .neq 39 (neqU_run (n := u) (m := 0) hu (by decide) (q := false) (by simp [h2])), bO .neq 9 (neqT_run (a := s) (b := ⟨#[]⟩) (q := true) (decide_eq_true fun h => h3 (size0.1 h)))] (nonR w) I fun β a w1 I hb => ?_
        exact outQ (v := .bool false) I ⟨by rfl, I.hJ⟩
    · refine goQ [iO 9 (p := str (91 :: g)) (i := Z (0 : Nat)) (v := .int .u8 (91 : UInt8).toNat) (idx_run rfl), bO .eql 5 (eqB_run (x := 91) (y := 110) (q := false) (by decide)), bO .eql 5 (eqB_run (x := 91) (y := 116) (q := false) (by decide)), bO .neq 3 (run_neqZ (x := k) (y := 2) (b := false) (by simp [h1])), dO 39 [] (xs := []) bd_U0, bO .neq 39 (neqU_run (n := u) (m := 0) hu (by decide) (q := true) (decide_eq_true h2))] (nonR w) I fun β a w1 I hb => ?_
      exact outQ (v := .bool false) I ⟨by rfl, I.hJ⟩
  · refine goQ [iO 9 (p := str (91 :: g)) (i := Z (0 : Nat)) (v := .int .u8 (91 : UInt8).toNat) (idx_run rfl), bO .eql 5 (eqB_run (x := 91) (y := 110) (q := false) (by decide)), bO .eql 5 (eqB_run (x := 91) (y := 116) (q := false) (by decide)), bO .neq 3 (run_neqZ (x := k) (y := 2) (b := true) (decide_eq_true h1))] (nonR w) I fun β a w1 I hb => ?_
    exact outQ (v := .bool false) I ⟨by rfl, I.hJ⟩
abbrev ftK : List Nat := [0, 3, 5, 7]
abbrev ftV (f : List UInt8) (v : Value) (i : Nat) : Vs := frm 115 [(0, Sum.inl (str f)), (3, Sum.inr (0, 0)), (5, Sum.inl v), (7, Sum.inl (Z i))]
theorem inn_load {w : World} {b gi n cap : Nat} {ps : List (List UInt8)} (h : w.ownsRow b 9 1 (.slice (some ⟨gi, 0, none⟩) n cap) n (ps.map str)) {j : Nat} {q : List UInt8} (hq : ps[j]? = some q) : (loadVar 9 ⟨gi, 0 + j * 1, none⟩).run Tryd.prog w = .ok (str q) w := by
  have hC : CellsAt w gi 0 (ps.map str) := fun j c hc => by
    have := h.cells (g := gi) rfl j c hc
    rw [add_off] at this
    exact this
  rw [Nat.mul_one]
  exact load1 hC j (by rw [List.getElem?_map, hq]; rfl) 9 Tryd.underlying9 rfl
theorem mid_inner {b : UInt8} {g : List UInt8} (hg : 1 ≤ g.length) : ((b :: g).take g.length).drop 1 = ((b :: g).drop 1).dropLast := by
  obtain ⟨n, hn⟩ : ∃ n, g.length = n + 1 := ⟨g.length - 1, by omega⟩
  rw [hn, List.take_succ_cons, List.drop_one, List.tail_cons, List.drop_one, List.tail_cons, List.dropLast_eq_take, hn]
  rfl
theorem fits_tup {α : Type} {W0 : World} {L : Value → α → Prop} {F : List UInt8 → (Int × Nat × ByteArray × α) → Bool} {ok : α → Prop}
    (hsub : ∀ (q : List UInt8), Pt 8 q → q.length ≤ 1000 → ∀ (t : Int × Nat × ByteArray × α) (lv : Value) (w : World), L lv t.2.2.2 → t.2.1 < W → ok t.2.2.2 → Below W0.heap.size W0 w → Calls Tryd.prog 32 #[str q, .agg #[Z t.1, B (l0 t.2.1), B (l1 t.2.1), B (l2 t.2.1), B (l3 t.2.1), .string t.2.2.1, lv]] w fun e w' => e = .returned (.bool (F q t)) ∧ Below w.heap.size w w')
    (g : List UInt8) (hg1 : 1 ≤ g.length) (hg : g.length < 1000) (ps : List (List UInt8)) (hps : partsM ((40 :: g).drop 1).dropLast = some ps) {ad : Option Addr} {cap : Nat} {l : List (Int × Nat × ByteArray × α)} (hlen : ps.length = l.length) (hl : LAs W0 L (.slice ad l.length cap) l) (okl : ∀ t ∈ l, t.2.1 < W ∧ ok t.2.2.2) (h64 : l.length ≤ 64) (wS : World) (hbS : Below W0.heap.size W0 wS) :
    Calls Tryd.prog 32 #[str (40 :: g), .agg #[Z 2, B (l0 0), B (l1 0), B (l2 0), B (l3 0), .string ⟨#[]⟩, .slice ad l.length cap]] wS fun e w' => e = .returned (.bool (allI (fun i t => F (ps.getD i []) t) 0 l)) ∧ Below wS.heap.size wS w' := by
  have hsz := str_size (40 :: g)
  have hcl : (40 :: g).length = g.length + 1 := rfl
  obtain ⟨ad', cap', hv, hmem⟩ := hl
  cases hv
  obtain ⟨hfl, hpt⟩ := parts_inv hps
  obtain ⟨inn, hinn⟩ : ∃ inn, ((40 :: g).drop 1).dropLast = inn := ⟨_, rfl⟩
  rw [hinn] at hps hfl
  have hil2 : inn.length ≤ 1000 := by rw [← hinn, List.length_dropLast, List.length_drop, hcl]; omega
  have hpl : ∀ q ∈ ps, q.length ≤ 1000 := fun q hq => by
    have : q.length ≤ ps.flatten.length := flat_mem hq
    rw [← hfl] at this; omega
  have dinn : ∀ w, (Instr.sliceAt 9 (str (40 :: g)) (some (Z (1 : Nat))) (some (Z g.length)) none).run Tryd.prog w = .ok (str inn) w := fun w => by
    have := both_run (l := 40 :: g) (i := 1) (j := g.length) hg1 (by rw [hcl]; omega) w
    rw [mid_inner hg1, hinn] at this
    exact this
  refine inQ (J := Below wS.heap.size wS) (F := (· < wS.heap.size)) Tryd.func32 (Below.refl _ _) fun a I => ?_
  refine goQ [iO 9 (p := str (40 :: g)) (i := Z (0 : Nat)) (v := .int .u8 (40 : UInt8).toNat) (idx_run rfl), bO .eql 5 (eqB_run (x := 40) (y := 110) (q := false) (by decide)), bO .eql 5 (eqB_run (x := 40) (y := 116) (q := false) (by decide)), bO .neq 3 (run_neqZ (x := 2) (y := 2) (b := false) (by simp)), dO 39 [] (xs := []) bd_U0, bO .neq 39 (neqU_run (n := 0) (m := 0) (by decide) (by decide) (q := false) (by simp)), bO .neq 9 (neqT_run (a := ⟨#[]⟩) (b := ⟨#[]⟩) (q := false) (by simp)), lS Tryd.underlying22 (ad := ad) (n := l.length) (cap := cap) rfl, bO .gtr 3 (run_gtrZ (x := l.length) (y := 64) (b := false) (by simp; omega)), lO Tryd.underlying9 (b := ⟨(40 :: g).toArray⟩) (n := (40 :: g).length) (by rw [hsz]), bO .sub 3 (run_subZ (x := (40 :: g).length) (y := 1) (z := g.length) (by rw [wz (by omega) (by omega), hcl]; omega)), sLH 9 (p := str (40 :: g)) (l := Z (1 : Nat)) (m := Z g.length) (v := str inn) dinn] (nonR wS) I fun β a w1 I hb => ?_
  refine mcall (ss := [Sum.inl (str inn)]) Tryd.func25 I ?_
  refine (parts_any inn hil2 w1).mono fun e w2 he => ?_
  obtain ⟨hb2, h2⟩ := he
  rcases h2 with ⟨hn, _⟩ | ⟨ps', v, hp', rfl, ho⟩
  · rw [hps] at hn; cases hn
  rw [hps] at hp'
  cases hp'
  obtain ⟨adi, capi, rfl⟩ := owns_slice ho
  have hsz1 := I.hJ.size
  have ho2 := owns_base ho hsz1
  have I2 : SI (EO wS 9 1 (.slice adi ps.length capi) ps.length (ps.map str)) (EF wS (.slice adi ps.length capi)) [] β _ _ w2 := I.moved (Grow.of_below hb2) ⟨I.hJ.trans (hb2.mono hsz1), ho2⟩ (fun k hk h => by
      rcases h with h | h
      · exact h
      · have := (ho.lt k h).1; omega) (.tuple #[.slice adi ps.length capi, .bool true])
  refine goQ [iO 9 (p := str (40 :: g)) (i := Z (0 : Nat)) (v := .int .u8 (40 : UInt8).toNat) (idx_run rfl), bO .eql 5 (eqB_run (x := 40) (y := 40) (q := true) (by decide)), lS Tryd.underlying52 (ad := adi) (n := ps.length) (cap := capi) rfl, lS Tryd.underlying22 (ad := ad) (n := l.length) (cap := cap) rfl, bO .neq 3 (run_neqZ (x := ps.length) (y := l.length) (b := false) (by simp; omega))] (EO.rs _ _ _ _ _ _) I2 fun β3 a w3 I hb3 => ?_
  let St : Nat → Act → World → Prop := fun k a w' => ∃ (i : Nat) (β : Nat → Nat) (u : Nat → Value), k = l.length - i ∧ i ≤ l.length ∧ (∀ j t, j < i → l[j]? = some t → F (ps.getD j []) t = true) ∧
    SI (EO wS 9 1 (.slice adi ps.length capi) ps.length (ps.map str)) (EF wS (.slice adi ps.length capi)) [] β (cfC (bodyL Tryd.f32) (fillF (scrF 115 ftK) u 0 (ftV (40 :: g) (.slice adi ps.length capi) i)) [(0, #[Z 2, B (l0 0), B (l1 0), B (l2 0), B (l3 0), .string ⟨#[]⟩, .slice ad l.length cap])] 1) a w'
  refine lpM (bodyL Tryd.f32) St l.length ?_ ?_
  · obtain ⟨u, Iu⟩ := I.scr (bodyL Tryd.f32) (scrF 115 ftK) (ftV (40 :: g) (.slice adi ps.length capi) 0) [(0, #[Z 2, B (l0 0), B (l1 0), B (l2 0), B (l3 0), .string ⟨#[]⟩, .slice ad l.length cap])] 1
    exact ⟨0, β3, u, rfl, Nat.zero_le _, fun j t h => absurd h (Nat.not_lt_zero j), Iu⟩
  rintro k a4 w4 ⟨i, β4, u, rfl, hi, hok, I⟩
  refine wp_cfC (tm := fillF (scrF 115 ftK) u 0 (ftV (40 :: g) (.slice adi ps.length capi) i)) (rows := [(0, #[Z 2, B (l0 0), B (l1 0), B (l2 0), B (l3 0), .string ⟨#[]⟩, .slice ad l.length cap])]) (nx := 1) ?_
  rcases Nat.lt_or_ge i l.length with hil | hil
  · obtain ⟨t, ht⟩ : ∃ t, l[i]? = some t := ⟨_, List.getElem?_eq_getElem hil⟩
    obtain ⟨gm, off, lv, rfl, hcm, hL⟩ := hmem i t ht
    have hmt := List.mem_of_getElem? ht
    obtain ⟨htW, hto⟩ := okl t hmt
    obtain ⟨gi, rfl⟩ : ∃ gi, adi = some ⟨gi, 0, none⟩ := by
      rcases ho.2 with ⟨_, h0⟩ | ⟨gi, _, _, h1, _⟩
      · omega
      · cases h1; exact ⟨gi, rfl⟩
    obtain ⟨q, hq⟩ : ∃ q, ps[i]? = some q := ⟨_, List.getElem?_eq_getElem (by omega)⟩
    obtain ⟨q0, hq0⟩ : ∃ q0, ps[0]? = some q0 := ⟨_, List.getElem?_eq_getElem (by omega)⟩
    have hqs : ps.getD i [] = q := by rw [List.getD_eq_getElem?_getD, hq]; rfl
    have hld : ∀ w, Below W0.heap.size W0 w → (loadVar 41 ⟨gm, off + i * 7, none⟩).run Tryd.prog w = .ok (.agg #[Z t.1, B (l0 t.2.1), B (l1 t.2.1), B (l2 t.2.1), B (l3 t.2.1), .string t.2.2.1, lv]) w := fun w hb => load7 (hcm.keep (hb.block gm hcm.lt))
    have hcl32 : ∀ w, Below W0.heap.size W0 w → Calls Tryd.prog 32 #[str q, .agg #[Z t.1, B (l0 t.2.1), B (l1 t.2.1), B (l2 t.2.1), B (l3 t.2.1), .string t.2.2.1, lv]] w fun e w' => e = .returned (.bool (F q t)) ∧ Below w.heap.size w w' := fun w hb => hsub q (hpt q (List.mem_of_getElem? hq)) (hpl q (List.mem_of_getElem? hq)) t lv w hL htW hto hb
    have hT : ∀ w', EO wS 9 1 (.slice (some ⟨gi, 0, none⟩) ps.length capi) ps.length (ps.map str) w' → Below W0.heap.size W0 w' ∧ EO wS 9 1 (.slice (some ⟨gi, 0, none⟩) ps.length capi) ps.length (ps.map str) w' := fun w' h => ⟨hbS.trans (h.bw.mono hbS.size), h⟩
    cases hF : F q t with
    | false =>
      rw [hF] at hcl32
      refine goT (T := fun w' => Below W0.heap.size W0 w' ∧ EO wS 9 1 (.slice (some ⟨gi, 0, none⟩) ps.length capi) ps.length (ps.map str) w') [lS Tryd.underlying22 (ad := some ⟨gm, off, none⟩) (n := l.length) (cap := cap) rfl, bO .lss 3 (run_lssZ (x := i) (y := l.length) (b := true) (by simp; omega)), iA 52 Tryd.underlying52 (sz := 1) (by kernel_rfl) (g := gi) (off := 0) (n := ps.length) (cap := capi) (show 0 < ps.length by omega), ldA 9 (fun w h => inn_load (ps := ps) h.2.own hq0), iO 9 (p := str (40 :: g)) (i := Z (0 : Nat)) (v := .int .u8 (40 : UInt8).toNat) (idx_run rfl), bO .eql 5 (eqB_run (x := 40) (y := 40) (q := true) (by decide)), iA 52 Tryd.underlying52 (sz := 1) (by kernel_rfl) (g := gi) (off := 0) (n := ps.length) (cap := capi) (show i < ps.length by omega), ldA 9 (fun w h => inn_load (ps := ps) h.2.own hq), iA 22 Tryd.underlying22 (sz := 7) (by kernel_rfl) (g := gm) (off := off) (n := l.length) (cap := cap) hil, ldA 41 (fun w h => hld w h.1), cA Tryd.func32 (fun w h => hcl32 w h.1), uO .not (p := .bool false) (v := .bool true) (by intros; rfl)] (EO.rs _ _ _ _ _ _) hT I fun β5 a5 w5 I hb5 => ?_
      exact endR (retV (v := .bool false) I ⟨by rw [allI_bad (k := 0) ht (by first | (rw [Nat.zero_add, hqs]; exact hF) | (rw [hqs]; exact hF))], I.hJ.bw⟩)
    | true =>
      rw [hF] at hcl32
      refine goT (T := fun w' => Below W0.heap.size W0 w' ∧ EO wS 9 1 (.slice (some ⟨gi, 0, none⟩) ps.length capi) ps.length (ps.map str) w') [lS Tryd.underlying22 (ad := some ⟨gm, off, none⟩) (n := l.length) (cap := cap) rfl, bO .lss 3 (run_lssZ (x := i) (y := l.length) (b := true) (by simp; omega)), iA 52 Tryd.underlying52 (sz := 1) (by kernel_rfl) (g := gi) (off := 0) (n := ps.length) (cap := capi) (show 0 < ps.length by omega), ldA 9 (fun w h => inn_load (ps := ps) h.2.own hq0), iO 9 (p := str (40 :: g)) (i := Z (0 : Nat)) (v := .int .u8 (40 : UInt8).toNat) (idx_run rfl), bO .eql 5 (eqB_run (x := 40) (y := 40) (q := true) (by decide)), iA 52 Tryd.underlying52 (sz := 1) (by kernel_rfl) (g := gi) (off := 0) (n := ps.length) (cap := capi) (show i < ps.length by omega), ldA 9 (fun w h => inn_load (ps := ps) h.2.own hq), iA 22 Tryd.underlying22 (sz := 7) (by kernel_rfl) (g := gm) (off := off) (n := l.length) (cap := cap) hil, ldA 41 (fun w h => hld w h.1), cA Tryd.func32 (fun w h => hcl32 w h.1), uO .not (p := .bool true) (v := .bool false) (by intros; rfl), bO .add 3 (run_addZ (x := i) (y := 1) (z := (i + 1 : Nat)) (by rw [wz (by omega) (by omega)]; omega))] (EO.rs _ _ _ _ _ _) hT I fun β5 a5 w5 I hb5 => ?_
      obtain ⟨u', Iu⟩ := I.scr (bodyL Tryd.f32) (scrF 115 ftK) (ftV (40 :: g) (.slice (some ⟨gi, 0, none⟩) ps.length capi) (i + 1)) [(0, #[Z 2, B (l0 0), B (l1 0), B (l2 0), B (l3 0), .string ⟨#[]⟩, .slice (some ⟨gm, off, none⟩) l.length cap])] 1
      refine endL ⟨l.length - (i + 1), by omega, i + 1, β5, u', rfl, hil, fun j t' hj hj' => ?_, Iu⟩
      rcases Nat.lt_or_ge j i with h1 | h1
      · exact hok j t' h1 hj'
      · obtain rfl : j = i := by omega
        rw [ht] at hj'
        cases hj'
        rw [hqs]; exact hF
  · obtain rfl : i = l.length := by omega
    refine goQ [lS Tryd.underlying22 (ad := ad) (n := l.length) (cap := cap) rfl, bO .lss 3 (run_lssZ (x := l.length) (y := l.length) (b := false) (by simp))] (EO.rs _ _ _ _ _ _) I fun β5 a5 w5 I hb5 => ?_
    refine endE 1 ?_
    refine goQ [] (EO.rs _ _ _ _ _ _) (I.exit _) fun β6 a6 w6 I hb6 => ?_
    exact outQ (v := .bool true) I ⟨by rw [allI_ok fun i t hi => by first | (rw [Nat.zero_add]; exact hok i t (List.getElem?_eq_some_iff.1 hi).1 hi) | exact hok i t (List.getElem?_eq_some_iff.1 hi).1 hi], I.hJ.bw⟩
theorem fits_arr {α : Type} {W0 : World} {L : Value → α → Prop} {F : List UInt8 → (Int × Nat × ByteArray × α) → Bool} {ok : α → Prop}
    (hsub : ∀ (q : List UInt8), Pt 8 q → q.length ≤ 1000 → ∀ (t : Int × Nat × ByteArray × α) (lv : Value) (w : World), L lv t.2.2.2 → t.2.1 < W → ok t.2.2.2 → Below W0.heap.size W0 w → Calls Tryd.prog 32 #[str q, .agg #[Z t.1, B (l0 t.2.1), B (l1 t.2.1), B (l2 t.2.1), B (l3 t.2.1), .string t.2.2.1, lv]] w fun e w' => e = .returned (.bool (F q t)) ∧ Below w.heap.size w w')
    (g : List UInt8) (hg1 : 1 ≤ g.length) (hg : g.length < 1000) (ps : List (List UInt8)) (hps : partsM ((91 :: g).drop 1).dropLast = some ps) {ad : Option Addr} {cap : Nat} {l : List (Int × Nat × ByteArray × α)} (hlen : ps.length = 1) (hl : LAs W0 L (.slice ad l.length cap) l) (okl : ∀ t ∈ l, t.2.1 < W ∧ ok t.2.2.2) (h64 : l.length ≤ 64) (wS : World) (hbS : Below W0.heap.size W0 wS) :
    Calls Tryd.prog 32 #[str (91 :: g), .agg #[Z 2, B (l0 0), B (l1 0), B (l2 0), B (l3 0), .string ⟨#[]⟩, .slice ad l.length cap]] wS fun e w' => e = .returned (.bool (allI (fun i t => F (ps.getD 0 []) t) 0 l)) ∧ Below wS.heap.size wS w' := by
  have hsz := str_size (91 :: g)
  have hcl : (91 :: g).length = g.length + 1 := rfl
  obtain ⟨ad', cap', hv, hmem⟩ := hl
  cases hv
  obtain ⟨hfl, hpt⟩ := parts_inv hps
  obtain ⟨inn, hinn⟩ : ∃ inn, ((91 :: g).drop 1).dropLast = inn := ⟨_, rfl⟩
  rw [hinn] at hps hfl
  have hil2 : inn.length ≤ 1000 := by rw [← hinn, List.length_dropLast, List.length_drop, hcl]; omega
  have hpl : ∀ q ∈ ps, q.length ≤ 1000 := fun q hq => by
    have : q.length ≤ ps.flatten.length := flat_mem hq
    rw [← hfl] at this; omega
  have dinn : ∀ w, (Instr.sliceAt 9 (str (91 :: g)) (some (Z (1 : Nat))) (some (Z g.length)) none).run Tryd.prog w = .ok (str inn) w := fun w => by
    have := both_run (l := 91 :: g) (i := 1) (j := g.length) hg1 (by rw [hcl]; omega) w
    rw [mid_inner hg1, hinn] at this
    exact this
  refine inQ (J := Below wS.heap.size wS) (F := (· < wS.heap.size)) Tryd.func32 (Below.refl _ _) fun a I => ?_
  refine goQ [iO 9 (p := str (91 :: g)) (i := Z (0 : Nat)) (v := .int .u8 (91 : UInt8).toNat) (idx_run rfl), bO .eql 5 (eqB_run (x := 91) (y := 110) (q := false) (by decide)), bO .eql 5 (eqB_run (x := 91) (y := 116) (q := false) (by decide)), bO .neq 3 (run_neqZ (x := 2) (y := 2) (b := false) (by simp)), dO 39 [] (xs := []) bd_U0, bO .neq 39 (neqU_run (n := 0) (m := 0) (by decide) (by decide) (q := false) (by simp)), bO .neq 9 (neqT_run (a := ⟨#[]⟩) (b := ⟨#[]⟩) (q := false) (by simp)), lS Tryd.underlying22 (ad := ad) (n := l.length) (cap := cap) rfl, bO .gtr 3 (run_gtrZ (x := l.length) (y := 64) (b := false) (by simp; omega)), lO Tryd.underlying9 (b := ⟨(91 :: g).toArray⟩) (n := (91 :: g).length) (by rw [hsz]), bO .sub 3 (run_subZ (x := (91 :: g).length) (y := 1) (z := g.length) (by rw [wz (by omega) (by omega), hcl]; omega)), sLH 9 (p := str (91 :: g)) (l := Z (1 : Nat)) (m := Z g.length) (v := str inn) dinn] (nonR wS) I fun β a w1 I hb => ?_
  refine mcall (ss := [Sum.inl (str inn)]) Tryd.func25 I ?_
  refine (parts_any inn hil2 w1).mono fun e w2 he => ?_
  obtain ⟨hb2, h2⟩ := he
  rcases h2 with ⟨hn, _⟩ | ⟨ps', v, hp', rfl, ho⟩
  · rw [hps] at hn; cases hn
  rw [hps] at hp'
  cases hp'
  obtain ⟨adi, capi, rfl⟩ := owns_slice ho
  have hsz1 := I.hJ.size
  have ho2 := owns_base ho hsz1
  have I2 : SI (EO wS 9 1 (.slice adi ps.length capi) ps.length (ps.map str)) (EF wS (.slice adi ps.length capi)) [] β _ _ w2 := I.moved (Grow.of_below hb2) ⟨I.hJ.trans (hb2.mono hsz1), ho2⟩ (fun k hk h => by
      rcases h with h | h
      · exact h
      · have := (ho.lt k h).1; omega) (.tuple #[.slice adi ps.length capi, .bool true])
  refine goQ [iO 9 (p := str (91 :: g)) (i := Z (0 : Nat)) (v := .int .u8 (91 : UInt8).toNat) (idx_run rfl), bO .eql 5 (eqB_run (x := 91) (y := 40) (q := false) (by decide))] (EO.rs _ _ _ _ _ _) I2 fun β3 a w3 I hb3 => ?_
  let St : Nat → Act → World → Prop := fun k a w' => ∃ (i : Nat) (β : Nat → Nat) (u : Nat → Value), k = l.length - i ∧ i ≤ l.length ∧ (∀ j t, j < i → l[j]? = some t → F (ps.getD 0 []) t = true) ∧
    SI (EO wS 9 1 (.slice adi ps.length capi) ps.length (ps.map str)) (EF wS (.slice adi ps.length capi)) [] β (cfC (bodyL Tryd.f32) (fillF (scrF 115 ftK) u 0 (ftV (91 :: g) (.slice adi ps.length capi) i)) [(0, #[Z 2, B (l0 0), B (l1 0), B (l2 0), B (l3 0), .string ⟨#[]⟩, .slice ad l.length cap])] 1) a w'
  refine lpM (bodyL Tryd.f32) St l.length ?_ ?_
  · obtain ⟨u, Iu⟩ := I.scr (bodyL Tryd.f32) (scrF 115 ftK) (ftV (91 :: g) (.slice adi ps.length capi) 0) [(0, #[Z 2, B (l0 0), B (l1 0), B (l2 0), B (l3 0), .string ⟨#[]⟩, .slice ad l.length cap])] 1
    exact ⟨0, β3, u, rfl, Nat.zero_le _, fun j t h => absurd h (Nat.not_lt_zero j), Iu⟩
  rintro k a4 w4 ⟨i, β4, u, rfl, hi, hok, I⟩
  refine wp_cfC (tm := fillF (scrF 115 ftK) u 0 (ftV (91 :: g) (.slice adi ps.length capi) i)) (rows := [(0, #[Z 2, B (l0 0), B (l1 0), B (l2 0), B (l3 0), .string ⟨#[]⟩, .slice ad l.length cap])]) (nx := 1) ?_
  rcases Nat.lt_or_ge i l.length with hil | hil
  · obtain ⟨t, ht⟩ : ∃ t, l[i]? = some t := ⟨_, List.getElem?_eq_getElem hil⟩
    obtain ⟨gm, off, lv, rfl, hcm, hL⟩ := hmem i t ht
    have hmt := List.mem_of_getElem? ht
    obtain ⟨htW, hto⟩ := okl t hmt
    obtain ⟨gi, rfl⟩ : ∃ gi, adi = some ⟨gi, 0, none⟩ := by
      rcases ho.2 with ⟨_, h0⟩ | ⟨gi, _, _, h1, _⟩
      · omega
      · cases h1; exact ⟨gi, rfl⟩
    obtain ⟨q, hq⟩ : ∃ q, ps[0]? = some q := ⟨_, List.getElem?_eq_getElem (by omega)⟩
    have hq0 := hq
    have hqs : ps.getD 0 [] = q := by rw [List.getD_eq_getElem?_getD, hq]; rfl
    have hld : ∀ w, Below W0.heap.size W0 w → (loadVar 41 ⟨gm, off + i * 7, none⟩).run Tryd.prog w = .ok (.agg #[Z t.1, B (l0 t.2.1), B (l1 t.2.1), B (l2 t.2.1), B (l3 t.2.1), .string t.2.2.1, lv]) w := fun w hb => load7 (hcm.keep (hb.block gm hcm.lt))
    have hcl32 : ∀ w, Below W0.heap.size W0 w → Calls Tryd.prog 32 #[str q, .agg #[Z t.1, B (l0 t.2.1), B (l1 t.2.1), B (l2 t.2.1), B (l3 t.2.1), .string t.2.2.1, lv]] w fun e w' => e = .returned (.bool (F q t)) ∧ Below w.heap.size w w' := fun w hb => hsub q (hpt q (List.mem_of_getElem? hq)) (hpl q (List.mem_of_getElem? hq)) t lv w hL htW hto hb
    have hT : ∀ w', EO wS 9 1 (.slice (some ⟨gi, 0, none⟩) ps.length capi) ps.length (ps.map str) w' → Below W0.heap.size W0 w' ∧ EO wS 9 1 (.slice (some ⟨gi, 0, none⟩) ps.length capi) ps.length (ps.map str) w' := fun w' h => ⟨hbS.trans (h.bw.mono hbS.size), h⟩
    cases hF : F q t with
    | false =>
      rw [hF] at hcl32
      refine goT (T := fun w' => Below W0.heap.size W0 w' ∧ EO wS 9 1 (.slice (some ⟨gi, 0, none⟩) ps.length capi) ps.length (ps.map str) w') [lS Tryd.underlying22 (ad := some ⟨gm, off, none⟩) (n := l.length) (cap := cap) rfl, bO .lss 3 (run_lssZ (x := i) (y := l.length) (b := true) (by simp; omega)), iA 52 Tryd.underlying52 (sz := 1) (by kernel_rfl) (g := gi) (off := 0) (n := ps.length) (cap := capi) (show 0 < ps.length by omega), ldA 9 (fun w h => inn_load (ps := ps) h.2.own hq), iO 9 (p := str (91 :: g)) (i := Z (0 : Nat)) (v := .int .u8 (91 : UInt8).toNat) (idx_run rfl), bO .eql 5 (eqB_run (x := 91) (y := 40) (q := false) (by decide)), iA 22 Tryd.underlying22 (sz := 7) (by kernel_rfl) (g := gm) (off := off) (n := l.length) (cap := cap) hil, ldA 41 (fun w h => hld w h.1), cA Tryd.func32 (fun w h => hcl32 w h.1), uO .not (p := .bool false) (v := .bool true) (by intros; rfl)] (EO.rs _ _ _ _ _ _) hT I fun β5 a5 w5 I hb5 => ?_
      exact endR (retV (v := .bool false) I ⟨by rw [allI_bad (k := 0) ht (by first | (rw [Nat.zero_add, hqs]; exact hF) | (rw [hqs]; exact hF))], I.hJ.bw⟩)
    | true =>
      rw [hF] at hcl32
      refine goT (T := fun w' => Below W0.heap.size W0 w' ∧ EO wS 9 1 (.slice (some ⟨gi, 0, none⟩) ps.length capi) ps.length (ps.map str) w') [lS Tryd.underlying22 (ad := some ⟨gm, off, none⟩) (n := l.length) (cap := cap) rfl, bO .lss 3 (run_lssZ (x := i) (y := l.length) (b := true) (by simp; omega)), iA 52 Tryd.underlying52 (sz := 1) (by kernel_rfl) (g := gi) (off := 0) (n := ps.length) (cap := capi) (show 0 < ps.length by omega), ldA 9 (fun w h => inn_load (ps := ps) h.2.own hq), iO 9 (p := str (91 :: g)) (i := Z (0 : Nat)) (v := .int .u8 (91 : UInt8).toNat) (idx_run rfl), bO .eql 5 (eqB_run (x := 91) (y := 40) (q := false) (by decide)), iA 22 Tryd.underlying22 (sz := 7) (by kernel_rfl) (g := gm) (off := off) (n := l.length) (cap := cap) hil, ldA 41 (fun w h => hld w h.1), cA Tryd.func32 (fun w h => hcl32 w h.1), uO .not (p := .bool true) (v := .bool false) (by intros; rfl), bO .add 3 (run_addZ (x := i) (y := 1) (z := (i + 1 : Nat)) (by rw [wz (by omega) (by omega)]; omega))] (EO.rs _ _ _ _ _ _) hT I fun β5 a5 w5 I hb5 => ?_
      obtain ⟨u', Iu⟩ := I.scr (bodyL Tryd.f32) (scrF 115 ftK) (ftV (91 :: g) (.slice (some ⟨gi, 0, none⟩) ps.length capi) (i + 1)) [(0, #[Z 2, B (l0 0), B (l1 0), B (l2 0), B (l3 0), .string ⟨#[]⟩, .slice (some ⟨gm, off, none⟩) l.length cap])] 1
      refine endL ⟨l.length - (i + 1), by omega, i + 1, β5, u', rfl, hil, fun j t' hj hj' => ?_, Iu⟩
      rcases Nat.lt_or_ge j i with h1 | h1
      · exact hok j t' h1 hj'
      · obtain rfl : j = i := by omega
        rw [ht] at hj'
        cases hj'
        rw [hqs]; exact hF
  · obtain rfl : i = l.length := by omega
    refine goQ [lS Tryd.underlying22 (ad := ad) (n := l.length) (cap := cap) rfl, bO .lss 3 (run_lssZ (x := l.length) (y := l.length) (b := false) (by simp))] (EO.rs _ _ _ _ _ _) I fun β5 a5 w5 I hb5 => ?_
    refine endE 1 ?_
    refine goQ [] (EO.rs _ _ _ _ _ _) (I.exit _) fun β6 a6 w6 I hb6 => ?_
    exact outQ (v := .bool true) I ⟨by rw [allI_ok fun i t hi => by first | (rw [Nat.zero_add]; exact hok i t (List.getElem?_eq_some_iff.1 hi).1 hi) | exact hok i t (List.getElem?_eq_some_iff.1 hi).1 hi], I.hJ.bw⟩
end Go.Proofs.YtjjiendgmnlokaaDoor

/- The document's fits and Fits for terms as deep as they are; the document's Same. -/
namespace Go.Proofs.YtjjiendgmnlokaaDoor
open Go.RowKit Go.Sort
set_option linter.unusedVariables false
set_option maxRecDepth 100000
theorem fits_tup_ne (g : List UInt8) (hg1 : 1 ≤ g.length) (hg : g.length < 1000) (ps : List (List UInt8)) (hps : partsM ((40 :: g).drop 1).dropLast = some ps) {ad : Option Addr} {m cap : Nat} (hlen : ps.length ≠ m) (h64 : m ≤ 64) (wS : World) :
    Calls Tryd.prog 32 #[str (40 :: g), .agg #[Z 2, B (l0 0), B (l1 0), B (l2 0), B (l3 0), .string ⟨#[]⟩, .slice ad m cap]] wS fun e w' => e = .returned (.bool false) ∧ Below wS.heap.size wS w' := by
  have hsz := str_size (40 :: g)
  have hcl : (40 :: g).length = g.length + 1 := rfl
  obtain ⟨hfl, hpt⟩ := parts_inv hps
  obtain ⟨inn, hinn⟩ : ∃ inn, ((40 :: g).drop 1).dropLast = inn := ⟨_, rfl⟩
  rw [hinn] at hps hfl
  have hil2 : inn.length ≤ 1000 := by rw [← hinn, List.length_dropLast, List.length_drop, hcl]; omega
  have dinn : ∀ w, (Instr.sliceAt 9 (str (40 :: g)) (some (Z (1 : Nat))) (some (Z g.length)) none).run Tryd.prog w = .ok (str inn) w := fun w => by
    have := both_run (l := 40 :: g) (i := 1) (j := g.length) hg1 (by rw [hcl]; omega) w
    rw [mid_inner hg1, hinn] at this
    exact this
  refine inQ (J := Below wS.heap.size wS) (F := (· < wS.heap.size)) Tryd.func32 (Below.refl _ _) fun a I => ?_
  refine goQ [iO 9 (p := str (40 :: g)) (i := Z (0 : Nat)) (v := .int .u8 (40 : UInt8).toNat) (idx_run rfl), bO .eql 5 (eqB_run (x := 40) (y := 110) (q := false) (by decide)), bO .eql 5 (eqB_run (x := 40) (y := 116) (q := false) (by decide)), bO .neq 3 (run_neqZ (x := 2) (y := 2) (b := false) (by simp)), dO 39 [] (xs := []) bd_U0, bO .neq 39 (neqU_run (n := 0) (m := 0) (by decide) (by decide) (q := false) (by simp)), bO .neq 9 (neqT_run (a := ⟨#[]⟩) (b := ⟨#[]⟩) (q := false) (by simp)), lS Tryd.underlying22 (ad := ad) (n := m) (cap := cap) rfl, bO .gtr 3 (run_gtrZ (x := m) (y := 64) (b := false) (by simp; omega)), lO Tryd.underlying9 (b := ⟨(40 :: g).toArray⟩) (n := (40 :: g).length) (by rw [hsz]), bO .sub 3 (run_subZ (x := (40 :: g).length) (y := 1) (z := g.length) (by rw [wz (by omega) (by omega), hcl]; omega)), sLH 9 (p := str (40 :: g)) (l := Z (1 : Nat)) (m := Z g.length) (v := str inn) dinn] (nonR wS) I fun β a w1 I hb => ?_
  refine mcall (ss := [Sum.inl (str inn)]) Tryd.func25 I ?_
  refine (parts_any inn hil2 w1).mono fun e w2 he => ?_
  obtain ⟨hb2, h2⟩ := he
  rcases h2 with ⟨hn, _⟩ | ⟨ps', v, hp', rfl, ho⟩
  · rw [hps] at hn; cases hn
  rw [hps] at hp'
  cases hp'
  obtain ⟨adi, capi, rfl⟩ := owns_slice ho
  have I2 : SI (Below wS.heap.size wS) (· < wS.heap.size) [] β _ _ w2 := I.moved (Grow.of_below hb2) (I.hJ.trans (hb2.mono I.hJ.size)) (fun k hk h => h) (.tuple #[.slice adi ps.length capi, .bool true])
  refine goQ [iO 9 (p := str (40 :: g)) (i := Z (0 : Nat)) (v := .int .u8 (40 : UInt8).toNat) (idx_run rfl), bO .eql 5 (eqB_run (x := 40) (y := 40) (q := true) (by decide)), lS Tryd.underlying52 (ad := adi) (n := ps.length) (cap := capi) rfl, lS Tryd.underlying22 (ad := ad) (n := m) (cap := cap) rfl, bO .neq 3 (run_neqZ (x := ps.length) (y := m) (b := true) (by simp; omega))] (nonR wS) I2 fun β3 a w3 I hb3 => ?_
  exact outQ (v := .bool false) I ⟨rfl, I.hJ⟩
theorem pt_one {b : UInt8} {g : List UInt8} (h : Pt 8 (b :: g)) (hb : b = 40 ∨ b = 91) : 1 ≤ g.length := by
  cases g with
  | nil =>
    have h1 := pt_prt h 8 [] (Nat.le_refl _)
    rcases hb with rfl | rfl
    · exact absurd h1 (by decide)
    · exact absurd h1 (by decide)
  | cons c g => simp
theorem fits_gen {α : Type} {W0 : World} {L : Value → α → Prop} {F : List UInt8 → (Int × Nat × ByteArray × α) → Bool} {ok : α → Prop}
    (hsub : ∀ (q : List UInt8), Pt 8 q → q.length ≤ 1000 → ∀ (t : Int × Nat × ByteArray × α) (lv : Value) (w : World), L lv t.2.2.2 → t.2.1 < W → ok t.2.2.2 → Below W0.heap.size W0 w → Calls Tryd.prog 32 #[str q, .agg #[Z t.1, B (l0 t.2.1), B (l1 t.2.1), B (l2 t.2.1), B (l3 t.2.1), .string t.2.2.1, lv]] w fun e w' => e = .returned (.bool (F q t)) ∧ Below w.heap.size w w')
    {q : List UInt8} (hp : Pt 8 q) (hq : q.length ≤ 1000) (k : Int) (u : Nat) (hu : u < W) (s : ByteArray) {lv : Value} {l : List (Int × Nat × ByteArray × α)} (hl : LAs W0 L lv l) (okl : ∀ t ∈ l, t.2.1 < W ∧ ok t.2.2.2) (bl : l.length < 1000000000) (wS : World) (hbS : Below W0.heap.size W0 wS) :
    Calls Tryd.prog 32 #[str q, .agg #[Z k, B (l0 u), B (l1 u), B (l2 u), B (l3 u), .string s, lv]] wS fun e w' => e = .returned (.bool (fitG List.length (fun tup ps l => allI (fun i t => F (sel tup ps i) t) 0 l) q (k, u, s, l))) ∧ Below wS.heap.size wS w' := by
  obtain ⟨ad, cap, rfl, hmem⟩ := id hl
  rcases hp.inner (Nat.le_refl _) with rfl | rfl | ⟨ps, hh, hpt, hps⟩ | ⟨p, hh, hpt, hps⟩
  · exact fits_n [] k u hu s ad l.length cap wS
  · exact fits_t [] k u hu s ad l.length cap wS
  · obtain ⟨g, rfl⟩ : ∃ g, q = 40 :: g := by
      cases q with
      | nil => cases hh
      | cons c g => simp only [List.head?_cons, Option.some.injEq] at hh; subst hh; exact ⟨g, rfl⟩
    have hg1 := pt_one hp (by decide)
    rw [List.length_cons] at hq
    by_cases hbad : k ≠ 2 ∨ u ≠ 0 ∨ s.size ≠ 0 ∨ 64 < l.length
    · have e : fitG List.length (fun tup ps l => allI (fun i t => F (sel tup ps i) t) 0 l) (40 :: g) (k, u, s, l) = false := by
        unfold fitG
        rw [if_neg (by simp), if_neg (by simp), if_pos hbad]
      rw [e]
      exact fits_bad_tup g k u hu s ad l.length cap wS bl hbad
    · have hk : k = 2 := Classical.byContradiction fun h => hbad (.inl h)
      have hu0 : u = 0 := Classical.byContradiction fun h => hbad (.inr (.inl h))
      have hs0 : s.size = 0 := Classical.byContradiction fun h => hbad (.inr (.inr (.inl h)))
      have h64 : l.length ≤ 64 := Nat.le_of_not_lt fun h => hbad (.inr (.inr (.inr h)))
      obtain rfl := size0.2 hs0
      subst hk hu0
      by_cases hlen : ps.length = l.length
      · have e : fitG List.length (fun tup ps l => allI (fun i t => F (sel tup ps i) t) 0 l) (40 :: g) (2, 0, ⟨#[]⟩, l) = allI (fun i t => F (ps.getD i []) t) 0 l := by
          unfold fitG
          rw [if_neg (by simp), if_neg (by simp), if_neg hbad, if_neg (by rw [hps]; simp [hlen]), hps]
          simp [sel]
        rw [e]
        exact fits_tup hsub g hg1 (by omega) ps hps hlen hl okl h64 wS hbS
      · have e : fitG List.length (fun tup ps l => allI (fun i t => F (sel tup ps i) t) 0 l) (40 :: g) (2, 0, ⟨#[]⟩, l) = false := by
          unfold fitG
          rw [if_neg (by simp), if_neg (by simp), if_neg hbad, if_pos (by rw [hps]; simp [hlen])]
        rw [e]
        exact fits_tup_ne g hg1 (by omega) ps hps hlen h64 wS
  · obtain ⟨g, rfl⟩ : ∃ g, q = 91 :: g := by
      cases q with
      | nil => cases hh
      | cons c g => simp only [List.head?_cons, Option.some.injEq] at hh; subst hh; exact ⟨g, rfl⟩
    have hg1 := pt_one hp (by decide)
    rw [List.length_cons] at hq
    by_cases hbad : k ≠ 2 ∨ u ≠ 0 ∨ s.size ≠ 0 ∨ 64 < l.length
    · have e : fitG List.length (fun tup ps l => allI (fun i t => F (sel tup ps i) t) 0 l) (91 :: g) (k, u, s, l) = false := by
        unfold fitG
        rw [if_neg (by simp), if_neg (by simp), if_pos hbad]
      rw [e]
      exact fits_bad_arr g k u hu s ad l.length cap wS bl hbad
    · have hk : k = 2 := Classical.byContradiction fun h => hbad (.inl h)
      have hu0 : u = 0 := Classical.byContradiction fun h => hbad (.inr (.inl h))
      have hs0 : s.size = 0 := Classical.byContradiction fun h => hbad (.inr (.inr (.inl h)))
      have h64 : l.length ≤ 64 := Nat.le_of_not_lt fun h => hbad (.inr (.inr (.inr h)))
      obtain rfl := size0.2 hs0
      subst hk hu0
      have e : fitG List.length (fun tup ps l => allI (fun i t => F (sel tup ps i) t) 0 l) (91 :: g) (2, 0, ⟨#[]⟩, l) = allI (fun i t => F (([p] : List (List UInt8)).getD 0 []) t) 0 l := by
        unfold fitG
        rw [if_neg (by simp), if_neg (by simp), if_neg hbad, if_neg (by simp), hps]
        simp [sel]
      rw [e]
      exact fits_arr hsub g hg1 (by omega) [p] hps rfl hl okl h64 wS hbS
theorem fits_any : ∀ (n : Nat) {W0 : World} (q : List UInt8), Pt 8 q → q.length ≤ 1000 → ∀ (t : TT n) (lv : Value) (w : World), LA W0 n lv t.2.2.2 → t.2.1 < W → fit n t.2.2.2 → Below W0.heap.size W0 w →
    Calls Tryd.prog 32 #[str q, .agg #[Z t.1, B (l0 t.2.1), B (l1 t.2.1), B (l2 t.2.1), B (l3 t.2.1), .string t.2.2.1, lv]] w fun e w' => e = .returned (.bool (fitsT n q t)) ∧ Below w.heap.size w w'
  | 0, W0, q, hp, hq, (k, u, s, x), lv, w, hl, hu, hf, hb => by
    obtain ⟨ad, cap, rfl⟩ := hl
    exact fits_gen (α := Unit) (W0 := W0) (L := fun _ _ => False) (F := fun _ _ => true) (ok := fun _ => True) (fun _ _ _ _ _ _ h => h.elim) hp hq k u hu s (l := []) ⟨ad, cap, rfl, fun i t h => (by simp at h)⟩ (fun t h => (by cases h)) (by decide) w hb
  | n + 1, W0, q, hp, hq, (k, u, s, l), lv, w, hl, hu, hf, hb =>
    fits_gen (α := TL n) (L := LA W0 n) (F := fitsT n) (ok := fit n) (fun q hp hq t lv w h1 h2 h3 hb => fits_any n q hp hq t lv w h1 h2 h3 hb) hp hq k u hu s (l := l) hl (fun t ht => hf.2 t ht) hf.1 w hb
abbrev fsK : List Nat := [1, 5, 7]
abbrev fsV (lv v : Value) (i : Nat) : Vs := frm 38 [(1, Sum.inl lv), (5, Sum.inl v), (7, Sum.inl (Z i))]
theorem Fits_any (n : Nat) {W0 : World} (f : List UInt8) (hf : f.length ≤ 1000) {lv : Value} {l : List (TT n)} (hl : LAs W0 (LA W0 n) lv l) (okl : ∀ t ∈ l, t.2.1 < W ∧ fit n t.2.2.2) (bl : l.length < 1000000000) (wS : World) (hbS : Below W0.heap.size W0 wS) :
    Calls Tryd.prog 16 #[str f, lv] wS fun e w' => e = .returned (.bool (fitsM n f l)) ∧ Below wS.heap.size wS w' := by
  obtain ⟨ad, cap, rfl, hmem⟩ := hl
  refine inQ (J := Below wS.heap.size wS) (F := (· < wS.heap.size)) Tryd.func16 (Below.refl _ _) fun a I => ?_
  refine goQ [] (nonR wS) I fun β a w1 I hb => ?_
  refine mcall (ss := [Sum.inl (str f)]) Tryd.func25 I ?_
  refine (parts_any f hf w1).mono fun e w2 he => ?_
  obtain ⟨hb2, h2⟩ := he
  have hsz1 := I.hJ.size
  rcases h2 with ⟨hn, rfl⟩ | ⟨ps, v, hps, rfl, ho⟩
  · have I2 : SI (Below wS.heap.size wS) (· < wS.heap.size) [] β _ _ w2 := I.moved (Grow.of_below hb2) (I.hJ.trans (hb2.mono hsz1)) (fun k hk h => h) (.tuple #[.slice none 0 0, .bool false])
    refine goQ [uO .not (p := .bool false) (v := .bool true) (by intros; rfl)] (nonR wS) I2 fun β3 a w3 I hb3 => ?_
    exact outQ (v := .bool false) I ⟨by unfold fitsM; rw [hn], I.hJ⟩
  obtain ⟨adi, capi, rfl⟩ := owns_slice ho
  have ho2 := owns_base ho hsz1
  obtain ⟨hfl, hpt⟩ := parts_inv hps
  have hpl : ∀ q ∈ ps, q.length ≤ 1000 := fun q hq => by
    have := flat_mem hq
    rw [← hfl] at this; omega
  have I2 : SI (EO wS 9 1 (.slice adi ps.length capi) ps.length (ps.map str)) (EF wS (.slice adi ps.length capi)) [] β _ _ w2 := I.moved (Grow.of_below hb2) ⟨I.hJ.trans (hb2.mono hsz1), ho2⟩ (fun k hk h => by
      rcases h with h | h
      · exact h
      · have := (ho.lt k h).1; omega) (.tuple #[.slice adi ps.length capi, .bool true])
  by_cases hlen : ps.length = l.length
  case neg =>
    refine goQ [uO .not (p := .bool true) (v := .bool false) (by intros; rfl), lS Tryd.underlying52 (ad := adi) (n := ps.length) (cap := capi) rfl, lS Tryd.underlying22 (ad := ad) (n := l.length) (cap := cap) rfl, bO .neq 3 (run_neqZ (x := ps.length) (y := l.length) (b := true) (by simp; omega))] (EO.rs _ _ _ _ _ _) I2 fun β3 a w3 I hb3 => ?_
    exact outQ (v := .bool false) I ⟨by unfold fitsM; rw [hps]; simp [hlen], I.hJ.bw⟩
  have hres : fitsM n f l = allI (fun i t => fitsT n (ps.getD i []) t) 0 l := by unfold fitsM; rw [hps]; simp [hlen]
  refine goQ [uO .not (p := .bool true) (v := .bool false) (by intros; rfl), lS Tryd.underlying52 (ad := adi) (n := ps.length) (cap := capi) rfl, lS Tryd.underlying22 (ad := ad) (n := l.length) (cap := cap) rfl, bO .neq 3 (run_neqZ (x := ps.length) (y := l.length) (b := false) (by simp; omega))] (EO.rs _ _ _ _ _ _) I2 fun β3 a w3 I hb3 => ?_
  let St : Nat → Act → World → Prop := fun k a w' => ∃ (i : Nat) (β : Nat → Nat) (u : Nat → Value), k = l.length - i ∧ i ≤ l.length ∧ (∀ j t, j < i → l[j]? = some t → fitsT n (ps.getD j []) t = true) ∧
    SI (EO wS 9 1 (.slice adi ps.length capi) ps.length (ps.map str)) (EF wS (.slice adi ps.length capi)) [] β (cfC (bodyL Tryd.f16) (fillF (scrF 38 fsK) u 0 (fsV (.slice ad l.length cap) (.slice adi ps.length capi) i)) [] 0) a w'
  refine lpM (bodyL Tryd.f16) St l.length ?_ ?_
  · obtain ⟨u, Iu⟩ := I.scr (bodyL Tryd.f16) (scrF 38 fsK) (fsV (.slice ad l.length cap) (.slice adi ps.length capi) 0) [] 0
    exact ⟨0, β3, u, rfl, Nat.zero_le _, fun j t h => absurd h (Nat.not_lt_zero j), Iu⟩
  rintro k a4 w4 ⟨i, β4, u, rfl, hi, hok, I⟩
  refine wp_cfC (tm := fillF (scrF 38 fsK) u 0 (fsV (.slice ad l.length cap) (.slice adi ps.length capi) i)) (rows := []) (nx := 0) ?_
  rcases Nat.lt_or_ge i l.length with hil | hil
  · obtain ⟨t, ht⟩ : ∃ t, l[i]? = some t := ⟨_, List.getElem?_eq_getElem hil⟩
    obtain ⟨gm, off, lv, rfl, hcm, hL⟩ := hmem i t ht
    have hmt := List.mem_of_getElem? ht
    obtain ⟨htW, hto⟩ := okl t hmt
    obtain ⟨gi, rfl⟩ : ∃ gi, adi = some ⟨gi, 0, none⟩ := by
      rcases ho.2 with ⟨_, h0⟩ | ⟨gi, _, _, h1, _⟩
      · omega
      · cases h1; exact ⟨gi, rfl⟩
    obtain ⟨q, hq⟩ : ∃ q, ps[i]? = some q := ⟨_, List.getElem?_eq_getElem (by omega)⟩
    have hqs : ps.getD i [] = q := by rw [List.getD_eq_getElem?_getD, hq]; rfl
    have hld : ∀ w, Below W0.heap.size W0 w → (loadVar 41 ⟨gm, off + i * 7, none⟩).run Tryd.prog w = .ok (.agg #[Z t.1, B (l0 t.2.1), B (l1 t.2.1), B (l2 t.2.1), B (l3 t.2.1), .string t.2.2.1, lv]) w := fun w hb => load7 (hcm.keep (hb.block gm hcm.lt))
    have hcl32 : ∀ w, Below W0.heap.size W0 w → Calls Tryd.prog 32 #[str q, .agg #[Z t.1, B (l0 t.2.1), B (l1 t.2.1), B (l2 t.2.1), B (l3 t.2.1), .string t.2.2.1, lv]] w fun e w' => e = .returned (.bool (fitsT n q t)) ∧ Below w.heap.size w w' := fun w hb => fits_any n q (hpt q (List.mem_of_getElem? hq)) (hpl q (List.mem_of_getElem? hq)) t lv w hL htW hto hb
    have hT : ∀ w', EO wS 9 1 (.slice (some ⟨gi, 0, none⟩) ps.length capi) ps.length (ps.map str) w' → Below W0.heap.size W0 w' ∧ EO wS 9 1 (.slice (some ⟨gi, 0, none⟩) ps.length capi) ps.length (ps.map str) w' := fun w' h => ⟨hbS.trans (h.bw.mono hbS.size), h⟩
    refine goQ [lS Tryd.underlying22 (ad := some ⟨gm, off, none⟩) (n := l.length) (cap := cap) rfl, bO .lss 3 (run_lssZ (x := i) (y := l.length) (b := true) (by simp; omega))] (EO.rs _ _ _ _ _ _) I fun β5 a5 w5 I hb5 => ?_
    cases hF : fitsT n q t with
    | false =>
      rw [hF] at hcl32
      refine dwT (T := fun w' => Below W0.heap.size W0 w' ∧ EO wS 9 1 (.slice (some ⟨gi, 0, none⟩) ps.length capi) ps.length (ps.map str) w') 10 [iA 52 Tryd.underlying52 (sz := 1) (by kernel_rfl) (g := gi) (off := 0) (n := ps.length) (cap := capi) (show i < ps.length by omega), ldA 9 (fun w h => inn_load (ps := ps) h.2.own hq), iA 22 Tryd.underlying22 (sz := 7) (by kernel_rfl) (g := gm) (off := off) (n := l.length) (cap := cap) hil, ldA 41 (fun w h => hld w h.1), cA Tryd.func32 (fun w h => hcl32 w h.1), uO .not (p := .bool false) (v := .bool true) (by intros; rfl)] (EO.rs _ _ _ _ _ _) hT (PanOk.then (PanOk.qk PanOk.post)) I fun a5 w5 I => ?_
      refine goQ [] (EO.rs _ _ _ _ _ _) I fun β6 a6 w6 I hb6 => ?_
      exact endR (retV (v := .bool false) I ⟨by rw [hres, allI_bad (k := 0) ht (by rw [Nat.zero_add, hqs]; exact hF)], I.hJ.bw⟩)
    | true =>
      rw [hF] at hcl32
      refine dwT (T := fun w' => Below W0.heap.size W0 w' ∧ EO wS 9 1 (.slice (some ⟨gi, 0, none⟩) ps.length capi) ps.length (ps.map str) w') 10 [iA 52 Tryd.underlying52 (sz := 1) (by kernel_rfl) (g := gi) (off := 0) (n := ps.length) (cap := capi) (show i < ps.length by omega), ldA 9 (fun w h => inn_load (ps := ps) h.2.own hq), iA 22 Tryd.underlying22 (sz := 7) (by kernel_rfl) (g := gm) (off := off) (n := l.length) (cap := cap) hil, ldA 41 (fun w h => hld w h.1), cA Tryd.func32 (fun w h => hcl32 w h.1), uO .not (p := .bool true) (v := .bool false) (by intros; rfl)] (EO.rs _ _ _ _ _ _) hT (PanOk.then (PanOk.qk PanOk.post)) I fun a5 w5 I => ?_
      refine goQ [bO .add 3 (run_addZ (x := i) (y := 1) (z := (i + 1 : Nat)) (by rw [wz (by omega) (by omega)]; omega))] (EO.rs _ _ _ _ _ _) I fun β6 a6 w6 I hb6 => ?_
      obtain ⟨u', Iu⟩ := I.scr (bodyL Tryd.f16) (scrF 38 fsK) (fsV (.slice (some ⟨gm, off, none⟩) l.length cap) (.slice (some ⟨gi, 0, none⟩) ps.length capi) (i + 1)) [] 0
      refine endL ⟨l.length - (i + 1), by omega, i + 1, β6, u', rfl, hil, fun j t' hj hj' => ?_, Iu⟩
      rcases Nat.lt_or_ge j i with h1 | h1
      · exact hok j t' h1 hj'
      · obtain rfl : j = i := by omega
        rw [ht] at hj'
        cases hj'
        rw [hqs]; exact hF
  · obtain rfl : i = l.length := by omega
    refine goQ [lS Tryd.underlying22 (ad := ad) (n := l.length) (cap := cap) rfl, bO .lss 3 (run_lssZ (x := l.length) (y := l.length) (b := false) (by simp))] (EO.rs _ _ _ _ _ _) I fun β5 a5 w5 I hb5 => ?_
    refine endE 0 ?_
    refine goQ [] (EO.rs _ _ _ _ _ _) (I.exit _) fun β6 a6 w6 I hb6 => ?_
    exact outQ (v := .bool true) I ⟨by rw [hres, allI_ok fun i t hi => by rw [Nat.zero_add]; exact hok i t (List.getElem?_eq_some_iff.1 hi).1 hi], I.hJ.bw⟩
end Go.Proofs.YtjjiendgmnlokaaDoor

/- The document's Same. -/
namespace Go.Proofs.YtjjiendgmnlokaaDoor
open Go.RowKit Go.Sort
set_option linter.unusedVariables false
set_option maxRecDepth 100000
theorem CellsAt.num {w : World} {g o : Nat} {k : Int} {u : Nat} {s : ByteArray} {lv : Value} (h : CellsAt w g o (cells7 k u s lv)) : CellsAt w g (o + 1) [B (l0 u), B (l1 u), B (l2 u), B (l3 u)] := fun j c hc => by
  have hj : j < 4 := (List.getElem?_eq_some_iff.1 hc).1
  have := h (j + 1) c (by
    match j, hj with
    | 0, _ => exact hc
    | 1, _ => exact hc
    | 2, _ => exact hc
    | 3, _ => exact hc)
  rw [show o + 1 + j = o + (j + 1) by omega]
  exact this
abbrev rsK : List Nat := [0, 1, 5]
abbrev rsV (a b : Value) (i : Nat) : Vs := frm 68 [(0, Sum.inl a), (1, Sum.inl b), (5, Sum.inl (Z i))]
theorem rsame_gen {α : Type} {W0 : World} {L : Value → α → Prop} {eq : α → α → Bool} {ok : α → Prop} (hc : ∀ lv x, L lv x → ∃ ad n cap, lv = .slice ad n cap)
    (hsub : ∀ (lv lv' : Value) (x y : α) (w : World), L lv x → L lv' y → ok x → ok y → Below W0.heap.size W0 w → Calls Tryd.prog 14 #[lv, lv'] w fun e w' => e = .returned (.bool (eq x y)) ∧ Below w.heap.size w w')
    {va vb : Value} {l m : List (Int × Nat × ByteArray × α)} (hl : LAs W0 L va l) (hm : LAs W0 L vb m) (okl : ∀ t ∈ l, t.2.1 < W ∧ ok t.2.2.2) (okm : ∀ t ∈ m, t.2.1 < W ∧ ok t.2.2.2) (bl : l.length < 1000000000) (wS : World) (hbS : Below W0.heap.size W0 wS) :
    Calls Tryd.prog 14 #[va, vb] wS fun e w' => e = .returned (.bool (sameL eq l m)) ∧ Below wS.heap.size wS w' := by
  obtain ⟨ada, capa, rfl, hma⟩ := hl
  obtain ⟨adb, capb, rfl, hmb⟩ := hm
  refine inQ (J := Below wS.heap.size wS) (F := (· < wS.heap.size)) Tryd.func14 (Below.refl _ _) fun a I => ?_
  by_cases hlen : ¬ l.length = m.length
  · refine goQ [lS Tryd.underlying22 (ad := ada) (n := l.length) (cap := capa) rfl, lS Tryd.underlying22 (ad := adb) (n := m.length) (cap := capb) rfl, bO .neq 3 (run_neqZ (x := l.length) (y := m.length) (b := true) (by simp; omega))] (nonR wS) I fun β a w1 I hb => ?_
    exact outQ (v := .bool false) I ⟨by rw [sameL_len hlen], I.hJ⟩
  have hlen := Classical.not_not.1 hlen
  refine goQ [lS Tryd.underlying22 (ad := ada) (n := l.length) (cap := capa) rfl, lS Tryd.underlying22 (ad := adb) (n := m.length) (cap := capb) rfl, bO .neq 3 (run_neqZ (x := l.length) (y := m.length) (b := false) (by simp; omega))] (nonR wS) I fun β a w1 I hb => ?_
  let St : Nat → Act → World → Prop := fun k a w' => ∃ (i : Nat) (β : Nat → Nat) (u : Nat → Value), k = l.length - i ∧ i ≤ l.length ∧ (∀ (j : Nat) t u, j < i → l[j]? = some t → m[j]? = some u → eqT eq t u = true) ∧
    SI (Below wS.heap.size wS) (· < wS.heap.size) [] β (cfC (bodyL Tryd.f14) (fillF (scrF 68 rsK) u 0 (rsV (.slice ada l.length capa) (.slice adb m.length capb) i)) [] 0) a w'
  refine lpM (bodyL Tryd.f14) St l.length ?_ ?_
  · obtain ⟨u, Iu⟩ := I.scr (bodyL Tryd.f14) (scrF 68 rsK) (rsV (.slice ada l.length capa) (.slice adb m.length capb) 0) [] 0
    exact ⟨0, β, u, by omega, Nat.zero_le _, fun j t u h => absurd h (Nat.not_lt_zero j), Iu⟩
  rintro k a3 w3 ⟨i, β3, u, rfl, hi, hok, I⟩
  refine wp_cfC (tm := fillF (scrF 68 rsK) u 0 (rsV (.slice ada l.length capa) (.slice adb m.length capb) i)) (rows := []) (nx := 0) ?_
  rcases Nat.lt_or_ge i l.length with hil | hil
  · obtain ⟨⟨k1, n1, t1, s1⟩, h1⟩ : ∃ t, l[i]? = some t := ⟨_, List.getElem?_eq_getElem hil⟩
    obtain ⟨⟨k2, n2, t2, s2⟩, h2⟩ : ∃ t, m[i]? = some t := ⟨_, List.getElem?_eq_getElem (by omega)⟩
    obtain ⟨ga, offa, lva, rfl, hca, hLa⟩ := hma i _ h1
    obtain ⟨gb, offb, lvb, rfl, hcb, hLb⟩ := hmb i _ h2
    simp only [] at hca hLa hcb hLb
    obtain ⟨adx, nx, capx, rfl⟩ := hc _ _ hLa
    obtain ⟨ady, ny, capy, rfl⟩ := hc _ _ hLb
    obtain ⟨hW1, ho1⟩ := okl _ (List.mem_of_getElem? h1)
    obtain ⟨hW2, ho2⟩ := okm _ (List.mem_of_getElem? h2)
    simp only [] at hW1 ho1 hW2 ho2
    have hka : ∀ w, Below wS.heap.size wS w → (loadVar 3 ⟨ga, offa + i * 7 + 0, none⟩).run Tryd.prog w = .ok (Z k1) w := fun w hb => load1 (hca.keep ((hbS.trans (hb.mono hbS.size)).block ga hca.lt)) 0 rfl 3 Tryd.underlying3 rfl
    have hna : ∀ w, Below wS.heap.size wS w → (loadVar 39 ⟨ga, offa + i * 7 + 1, none⟩).run Tryd.prog w = .ok (U n1) w := fun w hb => load4 (CellsAt.num (hca.keep ((hbS.trans (hb.mono hbS.size)).block ga hca.lt)))
    have hta : ∀ w, Below wS.heap.size wS w → (loadVar 9 ⟨ga, offa + i * 7 + 5, none⟩).run Tryd.prog w = .ok (.string t1) w := fun w hb => load1 (hca.keep ((hbS.trans (hb.mono hbS.size)).block ga hca.lt)) 5 rfl 9 Tryd.underlying9 rfl
    have hla : ∀ w, Below wS.heap.size wS w → (loadVar 22 ⟨ga, offa + i * 7 + 6, none⟩).run Tryd.prog w = .ok (.slice adx nx capx) w := fun w hb => load1 (hca.keep ((hbS.trans (hb.mono hbS.size)).block ga hca.lt)) 6 rfl 22 Tryd.underlying22 rfl
    have hkb : ∀ w, Below wS.heap.size wS w → (loadVar 3 ⟨gb, offb + i * 7 + 0, none⟩).run Tryd.prog w = .ok (Z k2) w := fun w hb => load1 (hcb.keep ((hbS.trans (hb.mono hbS.size)).block gb hcb.lt)) 0 rfl 3 Tryd.underlying3 rfl
    have hnb : ∀ w, Below wS.heap.size wS w → (loadVar 39 ⟨gb, offb + i * 7 + 1, none⟩).run Tryd.prog w = .ok (U n2) w := fun w hb => load4 (CellsAt.num (hcb.keep ((hbS.trans (hb.mono hbS.size)).block gb hcb.lt)))
    have htb : ∀ w, Below wS.heap.size wS w → (loadVar 9 ⟨gb, offb + i * 7 + 5, none⟩).run Tryd.prog w = .ok (.string t2) w := fun w hb => load1 (hcb.keep ((hbS.trans (hb.mono hbS.size)).block gb hcb.lt)) 5 rfl 9 Tryd.underlying9 rfl
    have hlb : ∀ w, Below wS.heap.size wS w → (loadVar 22 ⟨gb, offb + i * 7 + 6, none⟩).run Tryd.prog w = .ok (.slice ady ny capy) w := fun w hb => load1 (hcb.keep ((hbS.trans (hb.mono hbS.size)).block gb hcb.lt)) 6 rfl 22 Tryd.underlying22 rfl
    have him : i < m.length := by omega
    have bad : eqT eq (k1, n1, t1, s1) (k2, n2, t2, s2) = false → sameL eq l m = false := sameL_bad i h1 h2
    refine goQ [lS Tryd.underlying22 (ad := some ⟨ga, offa, none⟩) (n := l.length) (cap := capa) rfl, bO .lss 3 (run_lssZ (x := i) (y := l.length) (b := true) (by simp; omega))] (nonR wS) I fun β4 a4 w4 I hb4 => ?_
    by_cases hk : ¬ k1 = k2
    · refine dwT (T := Below wS.heap.size wS) 51 [iA 22 Tryd.underlying22 (sz := 7) (by kernel_rfl) (g := ga) (off := offa) (n := l.length) (cap := capa) hil, ldA 3 hka, iA 22 Tryd.underlying22 (sz := 7) (by kernel_rfl) (g := gb) (off := offb) (n := m.length) (cap := capb) him, ldA 3 hkb, bO .neq 3 (run_neqZ (x := k1) (y := k2) (b := true) (by simp [hk]))] (nonR wS) (fun _ h => h) (PanOk.then (PanOk.qk PanOk.post)) I fun a5 w5 I => ?_
      refine goQ [] (nonR wS) I fun β6 a6 w6 I hb6 => ?_
      exact endR (retV (v := .bool false) I ⟨by rw [bad (by simp [eqT, hk])], I.hJ⟩)
    have hk := Classical.not_not.1 hk
    by_cases hnn : ¬ n1 = n2
    · refine dwT (T := Below wS.heap.size wS) 51 [iA 22 Tryd.underlying22 (sz := 7) (by kernel_rfl) (g := ga) (off := offa) (n := l.length) (cap := capa) hil, ldA 3 hka, iA 22 Tryd.underlying22 (sz := 7) (by kernel_rfl) (g := gb) (off := offb) (n := m.length) (cap := capb) him, ldA 3 hkb, bO .neq 3 (run_neqZ (x := k1) (y := k2) (b := false) (by simp [hk])), iA 22 Tryd.underlying22 (sz := 7) (by kernel_rfl) (g := ga) (off := offa) (n := l.length) (cap := capa) hil, ldA 39 hna, iA 22 Tryd.underlying22 (sz := 7) (by kernel_rfl) (g := gb) (off := offb) (n := m.length) (cap := capb) him, ldA 39 hnb, bO .neq 39 (neqU_run (n := n1) (m := n2) hW1 hW2 (q := true) (by simp [hnn]))] (nonR wS) (fun _ h => h) (PanOk.then (PanOk.qk PanOk.post)) I fun a5 w5 I => ?_
      refine goQ [] (nonR wS) I fun β6 a6 w6 I hb6 => ?_
      exact endR (retV (v := .bool false) I ⟨by rw [bad (by simp [eqT, hnn])], I.hJ⟩)
    have hnn := Classical.not_not.1 hnn
    by_cases htt : ¬ t1 = t2
    · refine dwT (T := Below wS.heap.size wS) 51 [iA 22 Tryd.underlying22 (sz := 7) (by kernel_rfl) (g := ga) (off := offa) (n := l.length) (cap := capa) hil, ldA 3 hka, iA 22 Tryd.underlying22 (sz := 7) (by kernel_rfl) (g := gb) (off := offb) (n := m.length) (cap := capb) him, ldA 3 hkb, bO .neq 3 (run_neqZ (x := k1) (y := k2) (b := false) (by simp [hk])), iA 22 Tryd.underlying22 (sz := 7) (by kernel_rfl) (g := ga) (off := offa) (n := l.length) (cap := capa) hil, ldA 39 hna, iA 22 Tryd.underlying22 (sz := 7) (by kernel_rfl) (g := gb) (off := offb) (n := m.length) (cap := capb) him, ldA 39 hnb, bO .neq 39 (neqU_run (n := n1) (m := n2) hW1 hW2 (q := false) (by simp [hnn])), iA 22 Tryd.underlying22 (sz := 7) (by kernel_rfl) (g := ga) (off := offa) (n := l.length) (cap := capa) hil, ldA 9 hta, iA 22 Tryd.underlying22 (sz := 7) (by kernel_rfl) (g := gb) (off := offb) (n := m.length) (cap := capb) him, ldA 9 htb, bO .neq 9 (neqT_run (a := t1) (b := t2) (q := true) (by simp [htt]))] (nonR wS) (fun _ h => h) (PanOk.then (PanOk.qk PanOk.post)) I fun a5 w5 I => ?_
      refine goQ [] (nonR wS) I fun β6 a6 w6 I hb6 => ?_
      exact endR (retV (v := .bool false) I ⟨by rw [bad (by simp [eqT, htt])], I.hJ⟩)
    have htt := Classical.not_not.1 htt
    have hs : ∀ w, Below wS.heap.size wS w → Calls Tryd.prog 14 #[.slice adx nx capx, .slice ady ny capy] w fun e w' => e = .returned (.bool (eq s1 s2)) ∧ Below w.heap.size w w' := fun w hb => hsub _ _ s1 s2 w hLa hLb ho1 ho2 (hbS.trans (hb.mono hbS.size))
    cases hq : eq s1 s2 with
    | false =>
      rw [hq] at hs
      refine dwT (T := Below wS.heap.size wS) 51 [iA 22 Tryd.underlying22 (sz := 7) (by kernel_rfl) (g := ga) (off := offa) (n := l.length) (cap := capa) hil, ldA 3 hka, iA 22 Tryd.underlying22 (sz := 7) (by kernel_rfl) (g := gb) (off := offb) (n := m.length) (cap := capb) him, ldA 3 hkb, bO .neq 3 (run_neqZ (x := k1) (y := k2) (b := false) (by simp [hk])), iA 22 Tryd.underlying22 (sz := 7) (by kernel_rfl) (g := ga) (off := offa) (n := l.length) (cap := capa) hil, ldA 39 hna, iA 22 Tryd.underlying22 (sz := 7) (by kernel_rfl) (g := gb) (off := offb) (n := m.length) (cap := capb) him, ldA 39 hnb, bO .neq 39 (neqU_run (n := n1) (m := n2) hW1 hW2 (q := false) (by simp [hnn])), iA 22 Tryd.underlying22 (sz := 7) (by kernel_rfl) (g := ga) (off := offa) (n := l.length) (cap := capa) hil, ldA 9 hta, iA 22 Tryd.underlying22 (sz := 7) (by kernel_rfl) (g := gb) (off := offb) (n := m.length) (cap := capb) him, ldA 9 htb, bO .neq 9 (neqT_run (a := t1) (b := t2) (q := false) (by simp [htt])), iA 22 Tryd.underlying22 (sz := 7) (by kernel_rfl) (g := ga) (off := offa) (n := l.length) (cap := capa) hil, ldA 22 hla, iA 22 Tryd.underlying22 (sz := 7) (by kernel_rfl) (g := gb) (off := offb) (n := m.length) (cap := capb) him, ldA 22 hlb, cA Tryd.func14 hs, uO .not (p := .bool false) (v := .bool true) (by intros; rfl)] (nonR wS) (fun _ h => h) (PanOk.then (PanOk.qk PanOk.post)) I fun a5 w5 I => ?_
      refine goQ [] (nonR wS) I fun β6 a6 w6 I hb6 => ?_
      exact endR (retV (v := .bool false) I ⟨by rw [bad (by simp [eqT, hq])], I.hJ⟩)
    | true =>
      rw [hq] at hs
      refine dwT (T := Below wS.heap.size wS) 51 [iA 22 Tryd.underlying22 (sz := 7) (by kernel_rfl) (g := ga) (off := offa) (n := l.length) (cap := capa) hil, ldA 3 hka, iA 22 Tryd.underlying22 (sz := 7) (by kernel_rfl) (g := gb) (off := offb) (n := m.length) (cap := capb) him, ldA 3 hkb, bO .neq 3 (run_neqZ (x := k1) (y := k2) (b := false) (by simp [hk])), iA 22 Tryd.underlying22 (sz := 7) (by kernel_rfl) (g := ga) (off := offa) (n := l.length) (cap := capa) hil, ldA 39 hna, iA 22 Tryd.underlying22 (sz := 7) (by kernel_rfl) (g := gb) (off := offb) (n := m.length) (cap := capb) him, ldA 39 hnb, bO .neq 39 (neqU_run (n := n1) (m := n2) hW1 hW2 (q := false) (by simp [hnn])), iA 22 Tryd.underlying22 (sz := 7) (by kernel_rfl) (g := ga) (off := offa) (n := l.length) (cap := capa) hil, ldA 9 hta, iA 22 Tryd.underlying22 (sz := 7) (by kernel_rfl) (g := gb) (off := offb) (n := m.length) (cap := capb) him, ldA 9 htb, bO .neq 9 (neqT_run (a := t1) (b := t2) (q := false) (by simp [htt])), iA 22 Tryd.underlying22 (sz := 7) (by kernel_rfl) (g := ga) (off := offa) (n := l.length) (cap := capa) hil, ldA 22 hla, iA 22 Tryd.underlying22 (sz := 7) (by kernel_rfl) (g := gb) (off := offb) (n := m.length) (cap := capb) him, ldA 22 hlb, cA Tryd.func14 hs, uO .not (p := .bool true) (v := .bool false) (by intros; rfl)] (nonR wS) (fun _ h => h) (PanOk.then (PanOk.qk PanOk.post)) I fun a5 w5 I => ?_
      refine goQ [bO .add 3 (run_addZ (x := i) (y := 1) (z := (i + 1 : Nat)) (by rw [wz (by omega) (by omega)]; omega))] (nonR wS) I fun β6 a6 w6 I hb6 => ?_
      obtain ⟨u', Iu⟩ := I.scr (bodyL Tryd.f14) (scrF 68 rsK) (rsV (.slice (some ⟨ga, offa, none⟩) l.length capa) (.slice (some ⟨gb, offb, none⟩) m.length capb) (i + 1)) [] 0
      refine endL ⟨l.length - (i + 1), by omega, i + 1, β6, u', rfl, hil, fun j t u hj ht hu => ?_, Iu⟩
      rcases Nat.lt_or_ge j i with hji | hji
      · exact hok j t u hji ht hu
      · obtain rfl : j = i := by omega
        rw [h1] at ht; rw [h2] at hu; cases ht; cases hu
        simp [eqT, hk, hnn, htt, hq]
  · obtain rfl : i = l.length := by omega
    refine goQ [lS Tryd.underlying22 (ad := ada) (n := l.length) (cap := capa) rfl, bO .lss 3 (run_lssZ (x := l.length) (y := l.length) (b := false) (by simp))] (nonR wS) I fun β4 a4 w4 I hb4 => ?_
    refine endE 0 ?_
    refine goQ [] (nonR wS) (I.exit _) fun β5 a5 w5 I hb5 => ?_
    exact outQ (v := .bool true) I ⟨by rw [sameL_ok hlen fun i t u h1 h2 => hok i t u (List.getElem?_eq_some_iff.1 h1).1 h1 h2], I.hJ⟩
theorem rsame_any : ∀ (n : Nat) {W0 : World} {va vb : Value} {l m : TL n}, LA W0 n va l → LA W0 n vb m → fit n l → fit n m → ∀ w, Below W0.heap.size W0 w →
    Calls Tryd.prog 14 #[va, vb] w fun e w' => e = .returned (.bool (same n l m)) ∧ Below w.heap.size w w'
  | 0, W0, va, vb, l, m, hl, hm, fl, fm, w, hb => by
    obtain ⟨ad, cap, rfl⟩ := hl
    obtain ⟨ad', cap', rfl⟩ := hm
    have := rsame_gen (α := Unit) (W0 := W0) (L := fun _ _ => False) (eq := fun _ _ => true) (ok := fun _ => True) (fun _ _ h => h.elim) (fun _ _ _ _ _ h => h.elim) (l := []) (m := []) ⟨ad, cap, rfl, fun i t h => (by simp at h)⟩ ⟨ad', cap', rfl, fun i t h => (by simp at h)⟩ (fun t h => (by cases h)) (fun t h => (by cases h)) (by decide) w hb
    exact this
  | n + 1, W0, va, vb, l, m, hl, hm, fl, fm, w, hb =>
    rsame_gen (α := TL n) (L := LA W0 n) (eq := same n) (ok := fit n) (fun lv x h => h.slice) (fun lv lv' x y w h1 h2 h3 h4 hb => rsame_any n h1 h2 h3 h4 w hb) hl hm (fun t h => fl.2 t h) (fun t h => fm.2 t h) fl.1 w hb
end Go.Proofs.YtjjiendgmnlokaaDoor

/- WordUnlike: for all rows of terms and every form. -/
namespace Go.Proofs.YtjjiendgmnlokaaDoor
open Go.RowKit Go.Sort
set_option linter.unusedVariables false
set_option maxRecDepth 100000
theorem sum_mem {α : Type} {g : α → Nat} : ∀ {l : List α} {t : α}, t ∈ l → g t ≤ (l.map g).sum
  | u :: l, t, h => by
    rw [List.map_cons, List.sum_cons]
    rcases List.mem_cons.1 h with rfl | h
    · omega
    · have := sum_mem (g := g) h; omega
theorem fit_of : ∀ (n : Nat) (l : TL n), tok n l → tot n l ≤ 100000 → fit n l
  | 0, _, _, _ => trivial
  | n + 1, l, h, ht => by
    have ht' : List.length (α := TT n) l + (List.map (fun t : TT n => tot n t.2.2.2) l).sum ≤ 100000 := ht
    refine ⟨by omega, fun t hm => ⟨(h t hm).2.1, fit_of n t.2.2.2 (h t hm).2.2 ?_⟩⟩
    have := sum_mem (g := fun t : TT n => tot n t.2.2.2) (l := l) hm
    omega
theorem eqlB_run (q : Bool) (x y : Operand) (w : World) : (do eqGuard .eql 4 x y (.bool q) (.bool q); binOp .eql 4 (.bool q) (.bool q) : Sem Value).run Tryd.prog w = .ok (.bool true) w := by
  cases q <;> simp [go_sem]
theorem unlike_walk {w : World} {va vb : Value} (ha : LR w 9 va) (hb : LR w 9 vb) (f : List UInt8) : Calls Tryd.prog 5 #[va, vb, str f] w fun e w' => e = .returned (.bool true) ∧ Below w.heap.size w w' := by
  have hsz := str_size f
  refine inQ (J := Below w.heap.size w) (F := (· < w.heap.size)) Tryd.func5 (Below.refl _ _) fun a I => ?_
  refine goQ [] (nonR w) I fun β a w1 I hb1 => ?_
  refine bcall [Sum.inl va] Tryd.func8 (nonR w) I _ (few_at ha I.hJ) fun v' w2 hv I => ?_
  rcases hv with rfl | ⟨l, h1, h2, h3, rfl⟩
  · refine goQ [uO .not (p := .bool false) (v := .bool true) (by intros; rfl), kC Tryd.func9 awake_any] (nonR w) I fun β6 a6 w6 I hb6 => ?_
    exact outQ (v := .bool true) I ⟨rfl, I.hJ⟩
  refine goQ [uO .not (p := .bool true) (v := .bool false) (by intros; rfl)] (nonR w) I fun β3 a w3 I hb3 => ?_
  refine bcall [Sum.inl vb] Tryd.func8 (nonR w) I _ (few_at hb I.hJ) fun v' w4 hv I => ?_
  rcases hv with rfl | ⟨m, k1, k2, k3, rfl⟩
  · refine goQ [uO .not (p := .bool false) (v := .bool true) (by intros; rfl), kC Tryd.func9 awake_any] (nonR w) I fun β6 a6 w6 I hb6 => ?_
    exact outQ (v := .bool true) I ⟨rfl, I.hJ⟩
  have fl := fit_of 8 l h2 (by omega)
  have fm := fit_of 8 m k2 (by omega)
  rcases Nat.lt_or_ge 200 f.length with hf | hf
  · refine goQ [uO .not (p := .bool true) (v := .bool false) (by intros; rfl), lO Tryd.underlying9 (b := ⟨f.toArray⟩) (n := f.length) (by rw [hsz]), bO .gtr 3 (run_gtrZ (x := f.length) (y := 200) (b := true) (by simp; omega)), kC Tryd.func9 awake_any] (nonR w) I fun β6 a6 w6 I hb6 => ?_
    exact outQ (v := .bool true) I ⟨rfl, I.hJ⟩
  have F1 : ∀ w', Below w.heap.size w w' → Calls Tryd.prog 16 #[str f, va] w' fun e w'' => e = .returned (.bool (fitsM 7 f l)) ∧ Below w'.heap.size w' w'' := fun w' hb => Fits_any 7 f (by omega) h1 (fun t ht => fl.2 t ht) fl.1 w' hb
  have F2 : ∀ w', Below w.heap.size w w' → Calls Tryd.prog 16 #[str f, vb] w' fun e w'' => e = .returned (.bool (fitsM 7 f m)) ∧ Below w'.heap.size w' w'' := fun w' hb => Fits_any 7 f (by omega) k1 (fun t ht => fm.2 t ht) fm.1 w' hb
  cases q1 : fitsM 7 f l with
  | false =>
    rw [q1] at F1
    refine goT (T := Below w.heap.size w) [uO .not (p := .bool true) (v := .bool false) (by intros; rfl), lO Tryd.underlying9 (b := ⟨f.toArray⟩) (n := f.length) (by rw [hsz]), bO .gtr 3 (run_gtrZ (x := f.length) (y := 200) (b := false) (by simp; omega)), cA Tryd.func16 F1, uO .not (p := .bool false) (v := .bool true) (by intros; rfl), kC Tryd.func9 awake_any] (nonR w) (fun _ h => h) I fun β6 a6 w6 I hb6 => ?_
    exact outQ (v := .bool true) I ⟨rfl, I.hJ⟩
  | true =>
    rw [q1] at F1
    cases q2 : fitsM 7 f m with
    | false =>
      rw [q2] at F2
      refine goT (T := Below w.heap.size w) [uO .not (p := .bool true) (v := .bool false) (by intros; rfl), lO Tryd.underlying9 (b := ⟨f.toArray⟩) (n := f.length) (by rw [hsz]), bO .gtr 3 (run_gtrZ (x := f.length) (y := 200) (b := false) (by simp; omega)), cA Tryd.func16 F1, uO .not (p := .bool true) (v := .bool false) (by intros; rfl), cA Tryd.func16 F2, uO .not (p := .bool false) (v := .bool true) (by intros; rfl), kC Tryd.func9 awake_any] (nonR w) (fun _ h => h) I fun β6 a6 w6 I hb6 => ?_
      exact outQ (v := .bool true) I ⟨rfl, I.hJ⟩
    | true =>
      rw [q2] at F2
      have b1 := enc_bound 8 l h2
      have b2 := enc_bound 8 m k2
      have E1 : ∀ w', Below w.heap.size w w' → Calls Tryd.prog 12 #[va] w' fun e w'' => e = .returned (str (enc 8 l)) ∧ Below w'.heap.size w' w'' := fun w' hb => encode_any 8 l (h1.below hb) (by omega)
      have E2 : ∀ w', Below w.heap.size w w' → Calls Tryd.prog 12 #[vb] w' fun e w'' => e = .returned (str (enc 8 m)) ∧ Below w'.heap.size w' w'' := fun w' hb => encode_any 8 m (k1.below hb) (by omega)
      have S1 : ∀ w', Below w.heap.size w w' → Calls Tryd.prog 14 #[va, vb] w' fun e w'' => e = .returned (.bool (same 8 l m)) ∧ Below w'.heap.size w' w'' := fun w' hb => rsame_any 8 h1 k1 fl fm w' hb
      have hQ : decide (enc 8 l = enc 8 m) = same 8 l m := by
        cases hs : same 8 l m with
        | true => rw [same_eq 8 l m hs]; simp
        | false =>
          refine decide_eq_false fun he => ?_
          unfold fitsM at q1 q2
          cases hp : partsM f with
          | none => rw [hp] at q1; cases q1
          | some ps =>
            rw [hp] at q1 q2
            simp only [Bool.and_eq_true, decide_eq_true_eq] at q1 q2
            have h8 : enc 8 l ++ [] = enc 8 m ++ [] := by rw [he]
            obtain ⟨e, _⟩ := enc_inj 7 l m (fun i => ps.getD i []) [] [] (q1.1.symm.trans q2.1) (allI_inv q1.2) (allI_inv q2.2) (fun t ht => h2 t ht) (fun t ht => k2 t ht) h8
            have hr := same_refl 8 l
            have he2 : same 8 l m = same 8 l l := congrArg (same 8 l) (show m = l from e.symm)
            rw [hs, hr] at he2
            cases he2
      refine goT (T := Below w.heap.size w) [uO .not (p := .bool true) (v := .bool false) (by intros; rfl), lO Tryd.underlying9 (b := ⟨f.toArray⟩) (n := f.length) (by rw [hsz]), bO .gtr 3 (run_gtrZ (x := f.length) (y := 200) (b := false) (by simp; omega)), cA Tryd.func16 F1, uO .not (p := .bool true) (v := .bool false) (by intros; rfl), cA Tryd.func16 F2, uO .not (p := .bool true) (v := .bool false) (by intros; rfl),
        cA Tryd.func12 E1, cA Tryd.func12 E2, bO .eql 9 (eqS_run (a := enc 8 l) (b := enc 8 m) (q := same 8 l m) hQ), cA Tryd.func14 S1, bO .eql 4 (p := .bool (same 8 l m)) (q := .bool (same 8 l m)) (v := .bool true) (eqlB_run (same 8 l m)), kC Tryd.func9 awake_any] (nonR w) (fun _ h => h) I fun β6 a6 w6 I hb6 => ?_
      exact outQ (v := .bool true) I ⟨rfl, I.hJ⟩
theorem unlike_any {w : World} {va vb : Value} (ha : LR w 9 va) (hb : LR w 9 vb) (b : ByteArray) : Calls Tryd.prog 5 #[va, vb, .string b] w fun e w' => e = .returned (.bool true) ∧ Below w.heap.size w w' :=
  unlike_walk ha hb b.data.toList
end Go.Proofs.YtjjiendgmnlokaaDoor
