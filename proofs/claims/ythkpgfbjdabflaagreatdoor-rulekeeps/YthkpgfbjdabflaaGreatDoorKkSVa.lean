/- Laid one behind the other: SVa, SWp, SWq, SWr, SVf, SVi, SVj, SVl, SVm, SVn, SVo, SVp, SVq, SVr, SVt. -/
import Derived.Test.YthkpgfbjdabflaaGreatDoorKkSWb
import Derived.ReadAgain
import Derived.Deep.Slices
import Derived.Lib.SmallJoins
import Derived.ChangeShapes
import Derived.Shelf.Bits.Mul64
namespace Go.Proofs.YthkpgfbjdabflaaGreatDoor
open Go.RowKit Go.Sort Go.Proofs.Tryz
set_option linter.unusedVariables false
set_option maxRecDepth 100000
set_option maxHeartbeats 4000000
/-- What p takes, again and again, up to the end or to a mark. -/
def scan (p : List UInt8 → Nat) (e : Option UInt8) : Nat → List UInt8 → Option (List (List UInt8) × List UInt8)
  | 0, f => if f = [] ∨ f.head? = e then some ([], f) else none
  | F + 1, f => if f = [] ∨ f.head? = e then some ([], f) else if p f = 0 then none else (scan p e F (f.drop (p f))).map fun x => (f.take (p f) :: x.1, x.2)
def clo (b : UInt8) : UInt8 := if b = 91 then 93 else 41
def brk (p : List UInt8 → Nat) (b : UInt8) (g : List UInt8) : Nat := match scan p (some (clo b)) g.length g with
  | none => 0
  | some (ps, rest) => if rest = [] ∨ (b = 91 ∧ ps.length ≠ 1) then 0 else ps.flatten.length + 2
/-- A form's first term: how many bytes; brackets at most so deep. -/
def prt : Nat → List UInt8 → Nat
  | 0, f => match f with
    | [] => 0
    | b :: _ => if b = 110 ∨ b = 116 then 1 else 0
  | n + 1, f => match f with
    | [] => 0
    | b :: g => if b = 110 ∨ b = 116 then 1 else if b = 40 ∨ b = 91 then brk (prt n) b g else 0
/-- A form of one term. -/
def Pt : Nat → List UInt8 → Prop
  | 0, q => q = [110] ∨ q = [116]
  | n + 1, q => q = [110] ∨ q = [116] ∨ (∃ ps : List (List UInt8), (∀ p ∈ ps, Pt n p) ∧ q = 40 :: (ps.flatten ++ [41])) ∨ ∃ p : List UInt8, Pt n p ∧ q = 91 :: (p ++ [93])
theorem Pt.num (n : Nat) : Pt n [110] := by cases n <;> exact .inl rfl
theorem Pt.txt (n : Nat) : Pt n [116] := by
  cases n with
  | zero => exact .inr rfl
  | succ n => exact .inr (.inl rfl)
theorem Pt.tup (n : Nat) (ps : List (List UInt8)) (h : ∀ p ∈ ps, Pt n p) : Pt (n + 1) (40 :: (ps.flatten ++ [41])) := .inr (.inr (.inl ⟨ps, h, rfl⟩))
theorem Pt.arr (n : Nat) (p : List UInt8) (h : Pt n p) : Pt (n + 1) (91 :: (p ++ [93])) := .inr (.inr (.inr ⟨p, h, rfl⟩))
theorem Pt.head {n : Nat} {q : List UInt8} (h : Pt n q) : ∃ b g, q = b :: g ∧ (b = 110 ∨ b = 116 ∨ b = 40 ∨ b = 91) := by
  cases n with
  | zero => rcases h with rfl | rfl <;> exact ⟨_, _, rfl, by decide⟩
  | succ n => rcases h with rfl | rfl | ⟨ps, h, rfl⟩ | ⟨p, h, rfl⟩ <;> exact ⟨_, _, rfl, by decide⟩
theorem scan_inv {p : List UInt8 → Nat} {e : Option UInt8} (hp : ∀ f, p f ≤ f.length) : ∀ (F : Nat) (f : List UInt8) {ps : List (List UInt8)} {rest : List UInt8}, scan p e F f = some (ps, rest) →
    f = ps.flatten ++ rest ∧ (rest = [] ∨ rest.head? = e) ∧ ∀ q ∈ ps, ∃ r, p (q ++ r) = q.length ∧ q ≠ []
  | 0, f, ps, rest, h => by
    unfold scan at h
    split at h
    · next hs => cases h; exact ⟨rfl, hs, fun q hq => by cases hq⟩
    · cases h
  | F + 1, f, ps, rest, h => by
    unfold scan at h
    split at h
    · next hs => cases h; exact ⟨rfl, hs, fun q hq => by cases hq⟩
    · split at h
      · cases h
      · next hk =>
        cases hq : scan p e F (f.drop (p f)) with
        | none => rw [hq] at h; cases h
        | some x =>
          rw [hq] at h
          obtain ⟨ps', rest'⟩ := x
          simp only [Option.map_some, Option.some.injEq, Prod.mk.injEq] at h
          obtain ⟨rfl, rfl⟩ := h
          obtain ⟨h1, h2, h3⟩ := scan_inv hp F _ hq
          have hl := hp f
          refine ⟨by rw [List.flatten_cons, List.append_assoc, ← h1, List.take_append_drop], h2, fun q hq' => ?_⟩
          rcases List.mem_cons.1 hq' with rfl | hq'
          · refine ⟨f.drop (p f), ?_, fun h0 => ?_⟩
            · rw [List.take_append_drop, List.length_take]; omega
            · have := congrArg List.length h0
              rw [List.length_take, List.length_nil] at this
              omega
          · exact h3 q hq'
theorem scan_ok {p : List UInt8 → Nat} {e : Option UInt8} {tail : List UInt8} (ht : tail = [] ∨ tail.head? = e) : ∀ (ps : List (List UInt8)) (F : Nat), ps.length ≤ F → (∀ q ∈ ps, (∀ r, p (q ++ r) = q.length) ∧ q ≠ [] ∧ q.head? ≠ e) → scan p e F (ps.flatten ++ tail) = some (ps, tail)
  | [], F, _, _ => by
    rw [List.flatten_nil, List.nil_append]
    cases F <;> (unfold scan; rw [if_pos ht])
  | q :: ps, 0, h, _ => absurd h (by simp)
  | q :: ps, F + 1, h, hq => by
    obtain ⟨h1, h2, h3⟩ := hq q List.mem_cons_self
    obtain ⟨b, g, rfl⟩ : ∃ b g, q = b :: g := by cases q with | nil => exact absurd rfl h2 | cons b g => exact ⟨b, g, rfl⟩
    have ih := scan_ok ht ps F (by simpa using h) fun q hq' => hq q (List.mem_cons_of_mem _ hq')
    rw [List.flatten_cons, List.append_assoc]
    unfold scan
    rw [if_neg (by simpa using h3), h1, if_neg (by simp), List.drop_left, ih, List.take_left]
    rfl
theorem flat_len {n : Nat} : ∀ {ps : List (List UInt8)}, (∀ p ∈ ps, Pt n p) → ps.length ≤ ps.flatten.length
  | [], _ => Nat.le_refl _
  | p :: ps, h => by
    have := flat_len fun q hq => h q (List.mem_cons_of_mem _ hq)
    obtain ⟨b, g, rfl, _⟩ := (h p List.mem_cons_self).head
    simp only [List.flatten_cons, List.length_append, List.length_cons]
    omega
theorem prt_pt : ∀ (n : Nat) (f : List UInt8), prt n f ≤ f.length ∧ (prt n f ≠ 0 → Pt n (f.take (prt n f)))
  | 0, [] => ⟨Nat.le_refl _, fun h => absurd rfl h⟩
  | 0, b :: g => by
    unfold prt
    simp only
    split
    · next h =>
      refine ⟨by simp, fun _ => ?_⟩
      rcases h with rfl | rfl
      · exact Pt.num 0
      · exact Pt.txt 0
    · exact ⟨Nat.zero_le _, fun h => absurd rfl h⟩
  | n + 1, [] => ⟨Nat.le_refl _, fun h => absurd rfl h⟩
  | n + 1, b :: g => by
    unfold prt
    simp only
    split
    · next h =>
      refine ⟨by simp, fun _ => ?_⟩
      rcases h with rfl | rfl
      · exact Pt.num _
      · exact Pt.txt _
    · split
      · next hb =>
        unfold brk
        cases hq : scan (prt n) (some (clo b)) g.length g with
        | none => exact ⟨Nat.zero_le _, fun h => absurd rfl h⟩
        | some x =>
          obtain ⟨ps, rest⟩ := x
          simp only
          split
          · exact ⟨Nat.zero_le _, fun h => absurd rfl h⟩
          · next hr =>
            obtain ⟨h1, h2, h3⟩ := scan_inv (fun f => (prt_pt n f).1) _ _ hq
            have hr0 : rest ≠ [] := fun h => hr (.inl h)
            rcases h2 with h2 | h2
            · exact absurd h2 hr0
            cases rest with
            | nil => exact absurd rfl hr0
            | cons c rest =>
              simp only [List.head?_cons, Option.some.injEq] at h2
              subst h2
              have hps : ∀ q ∈ ps, Pt n q := fun q hq => by
                obtain ⟨r, h4, h5⟩ := h3 q hq
                have h6 := (prt_pt n (q ++ r)).2 (by rw [h4]; simpa using h5)
                rw [h4, List.take_left] at h6
                exact h6
              refine ⟨by rw [h1]; simp, fun _ => ?_⟩
              have e : (b :: g).take (ps.flatten.length + 2) = b :: (ps.flatten ++ [clo b]) := by
                rw [h1, List.take_succ_cons, List.take_length_add_append]
                rfl
              rw [e]
              rcases hb with rfl | rfl
              · exact Pt.tup n ps hps
              · have hl : ps.length = 1 := by
                  rcases Nat.decEq ps.length 1 with h | h
                  · exact absurd (.inr ⟨rfl, h⟩) hr
                  · exact h
                match ps, hl with
                | [q], _ =>
                  have := Pt.arr n q (hps q List.mem_cons_self)
                  simpa [clo] using this
      · exact ⟨Nat.zero_le _, fun h => absurd rfl h⟩
theorem pt_prt {n : Nat} {q : List UInt8} (h : Pt n q) : ∀ (m : Nat) (r : List UInt8), n ≤ m → prt m (q ++ r) = q.length := by
  induction n generalizing q with
  | zero =>
    intro m r _
    rcases h with rfl | rfl <;> cases m <;> rfl
  | succ n ih =>
    rcases h with rfl | rfl | ⟨ps, hps, rfl⟩ | ⟨p, hp, rfl⟩
    · intro m r _; cases m <;> rfl
    · intro m r _; cases m <;> rfl
    ·
      intro m r hm
      obtain ⟨m, rfl⟩ : ∃ k, m = k + 1 := ⟨m - 1, by omega⟩
      have hs := scan_ok (p := prt m) (e := some 41) (tail := 41 :: r) (.inr rfl) ps (ps.flatten ++ 41 :: r).length (by have := flat_len hps; rw [List.length_append]; omega) fun q hq => by
        obtain ⟨b, g, e, hb⟩ := (hps q hq).head
        refine ⟨fun r' => ih (hps q hq) m r' (by omega), by rw [e]; simp, ?_⟩
        rw [e]
        rcases hb with rfl | rfl | rfl | rfl <;> simp
      have e : (40 :: (ps.flatten ++ [41]) : List UInt8) ++ r = 40 :: (ps.flatten ++ 41 :: r) := by simp
      rw [e]
      unfold prt
      simp only [brk, show clo 40 = 41 from rfl, hs]
      simp
    ·
      intro m r hm
      obtain ⟨m, rfl⟩ : ∃ k, m = k + 1 := ⟨m - 1, by omega⟩
      have hs := scan_ok (p := prt m) (e := some 93) (tail := 93 :: r) (.inr rfl) [p] (p ++ 93 :: r).length (by simp; omega) fun q hq => by
        rw [List.mem_singleton] at hq
        subst hq
        obtain ⟨b, g, e, hb⟩ := hp.head
        refine ⟨fun r' => ih hp m r' (by omega), by rw [e]; simp, ?_⟩
        rw [e]
        rcases hb with rfl | rfl | rfl | rfl <;> simp
      have e : (91 :: (p ++ [93]) : List UInt8) ++ r = 91 :: (p ++ 93 :: r) := by simp
      rw [List.flatten_cons, List.flatten_nil, List.append_nil] at hs
      rw [e]
      unfold prt
      simp only [brk, show clo 91 = 93 from rfl, hs]
      simp
theorem Pt.up {n : Nat} {q : List UInt8} (h : Pt n q) : ∀ {m : Nat}, n ≤ m → Pt m q := by
  intro m hm
  have h1 := pt_prt h m [] hm
  rw [List.append_nil] at h1
  have h2 := (prt_pt m q).2 (by obtain ⟨b, g, rfl, _⟩ := h.head; rw [h1]; simp)
  rwa [h1, List.take_length] at h2
/-- A form's terms. -/
def partsM (f : List UInt8) : Option (List (List UInt8)) := (scan (prt 8) none f.length f).map (·.1)
section
open Go.RowKit Go.Sort Go.ChangeShapes Go.WideShapes Go.ChangeAt
theorem txt_len (s : ByteArray) : (txt s).length = 32 + s.size + pad s.size := by
  unfold txt
  have h := qu s.size
  have e : s.data.toList.length = s.size := Array.length_toList
  simp only [List.length_append, h, e, List.length_replicate]
theorem foldE_bound {α : Type} {E : α → List UInt8} {cnt : α → Nat} {H : Nat} {tt : α → Nat} : ∀ (l : List (Int × Nat × ByteArray × α)) (acc : List UInt8 × List UInt8), (∀ t ∈ l, t.2.2.1.size ≤ 20000 ∧ (E t.2.2.2).length ≤ 20127 * tt t.2.2.2) → (l.foldl (vr E cnt H) acc).2.length ≤ acc.2.length + 20095 * l.length + 20127 * (l.map fun t => tt t.2.2.2).sum
  | [], acc, h => by simp
  | t :: l, acc, h => by
    have ih := foldE_bound (cnt := cnt) (H := H) l (vr E cnt H acc t) fun u hu => h u (List.mem_cons_of_mem _ hu)
    obtain ⟨h1, h2⟩ := h t List.mem_cons_self
    have hs : (vr E cnt H acc t).2.length ≤ acc.2.length + 20095 + 20127 * tt t.2.2.2 := by
      unfold vr
      split
      · simp; omega
      · split
        · have := txt_len t.2.2.1
          unfold pad at this
          simp only [List.length_append]; omega
        · split
          · have h3 := qu (cnt t.2.2.2)
            simp only [List.length_append, h3]; omega
          · simp; omega
    simp only [List.foldl_cons, List.length_cons, List.map_cons, List.sum_cons]
    omega
theorem enc_bound : ∀ (n : Nat) (l : TL n), tok n l → (enc n l).length ≤ 20127 * tot n l
  | 0, _, _ => Nat.zero_le _
  | n + 1, l, h => by
    have h1 := foldE_bound (E := enc n) (cnt := cntL n) (H := 32 * List.length (α := xq n) l) (tt := tot n) l ([], []) fun t ht => ⟨(h t ht).1, enc_bound n t.2.2.2 (h t ht).2.2⟩
    have h2 := hd_len (E := enc n) (cnt := cntL n) (l := l) (i := List.length (α := xq n) l) (Nat.le_refl _)
    have e : List.take (List.length (α := xq n) l) l = l := List.take_length
    rw [e] at h2
    simp only [enc, List.length_append, tot]
    have h3 : (xj (enc n) (cntL n) (32 * List.length (α := xq n) l) l).2.length ≤ 0 + 20095 * List.length (α := xq n) l + 20127 * (List.map (fun t : xq n => tot n t.2.2.2) l).sum := h1
    omega
theorem c3 : Tryz.prog.cellsOf 3 = 1 := by kernel_rfl
theorem c9 : Tryz.prog.cellsOf 9 = 1 := by kernel_rfl
section
variable {H : Type} {enc : TypeId × Value → H} {w : World} {base : Nat} {spare : Nat → Bool} {held : Bool}
theorem num_raw {fuel : Nat} {c0 c1 c2 c3 : Value} {x : DataW H × List MemPlace} (h : DataW.trod enc Tryz.prog w base spare held fuel 45 [c0, c1, c2, c3] = some x) : ∃ n, n < W ∧ c0 = B (l0 n) ∧ c1 = B (l1 n) ∧ c2 = B (l2 n) ∧ c3 = B (l3 n) := by
  obtain ⟨y0, y1, y2, y3, m, hx, h0, h1, h2, h3⟩ := trod_array4 Tryz.underlying45 cellsA22 h
  obtain ⟨a0, e0, rfl, w0⟩ := DataW.trod_int Tryz.underlying23 h0
  obtain ⟨a1, e1, rfl, w1⟩ := DataW.trod_int Tryz.underlying23 h1
  obtain ⟨a2, e2, rfl, w2⟩ := DataW.trod_int Tryz.underlying23 h2
  obtain ⟨a3, e3, rfl, w3⟩ := DataW.trod_int Tryz.underlying23 h3
  simp only [List.cons.injEq, and_true] at e0 e1 e2 e3
  subst e0 e1 e2 e3
  obtain ⟨k0, rfl, g0⟩ := wf_u64 w0
  obtain ⟨k1, rfl, g1⟩ := wf_u64 w1
  obtain ⟨k2, rfl, g2⟩ := wf_u64 w2
  obtain ⟨k3, rfl, g3⟩ := wf_u64 w3
  refine ⟨mk k0 k1 k2 k3, mk_lt _ _ _ _ g0 g1 g2 g3, ?_, ?_, ?_, ?_⟩
  · rw [l0_mk _ _ _ _ g0]
  · rw [l1_mk _ _ _ _ g0 g1]
  · rw [l2_mk _ _ _ _ g0 g1 g2]
  · rw [l3_mk _ _ _ _ g0 g1 g2 g3]
end
end
theorem s_LR.below {w w' : World} (hb : Below w.heap.size w w') : ∀ {n : Nat} {v : Value}, s_LR w n v → s_LR w' n v
  | 0, v, h => h
  | n + 1, v, h => by
    obtain ⟨ad, len, cap, hv, hl, ht⟩ := h
    refine ⟨ad, len, cap, hv, hl, fun i hi => ?_⟩
    obtain ⟨g, off, k, u, s, lv, h1, h2, h3, h4, h5⟩ := ht i hi
    exact ⟨g, off, k, u, s, lv, h1, h2.keep (hb.block g h2.lt), h3, h4, s_LR.below hb h5⟩
theorem EO.grown {W0 : World} {e sz : Nat} {v v' : Value} {n n' : Nat} {xs xs' : List Value} {w w' : World} (h : EO W0 e sz v n xs w) (ho : w'.ownsRow W0.heap.size e sz v' n' xs') (hg : Grw v v' w w') : EO W0 e sz v' n' xs' w' :=
  ⟨⟨hg.gr.os.trans h.bw.os, hg.gr.tape.trans h.bw.tape, hg.gr.output.trans h.bw.output, Nat.le_trans h.bw.size hg.gr.size, fun k hk => (hg.gr.block k (Nat.lt_of_lt_of_le hk h.bw.size) fun e => by have := (h.own.lt k e.symm).1; omega).trans (h.bw.block k hk)⟩, ho⟩
abbrev N0 : Unit → Nat := fun _ => 0
theorem zcu (x y : Nat) (h : x + y < M) (o1 o2 : Operand) (w : World) : (do eqGuard .add 23 o1 o2 (B x) (B y); binOp .add 23 (B x) (B y) : Sem Value).run Tryz.prog w = .ok (B (x + y)) w := by
  have hw : IntKind.u64.wrap ((x : Int) + (y : Int)) = ((x + y : Nat) : Int) := by
    unfold M at h
    have := IntKind.wrap_u64 ((x : Int) + (y : Int))
    omega
  simp [go_sem, hw]
theorem cnvB (n : Nat) (hn : n < 1000000000000) (w : World) : (convert 3 23 (Z n)).run Tryz.prog w = .ok (B n) w := by
  have := IntKind.wrap_u64 (n : Int); simp [go_sem]; omega
theorem yi.num {w : World} {g o : Nat} {k : Int} {u : Nat} {s : ByteArray} {lv : Value} (h : yi w g o (zcz k u s lv)) : yi w g (o + 1) [B (l0 u), B (l1 u), B (l2 u), B (l3 u)] := fun j c hc => by
  have hj : j < 4 := (List.getElem?_eq_some_iff.1 hc).1
  have := h (j + 1) c (by
    match j, hj with
    | 0, _ => exact hc
    | 1, _ => exact hc
    | 2, _ => exact hc
    | 3, _ => exact hc)
  rw [show o + 1 + j = o + (j + 1) by omega]
  exact this
/-- Shapes, at most so many lists within one another: a shape is its kind, whether it is of many, and its list. -/
def SL : Nat → Type
  | 0 => Unit
  | n + 1 => List (Int × Bool × SL n)
abbrev ST (n : Nat) : Type := Int × Bool × SL n
abbrev inr_ (q : List UInt8) : List (List UInt8) := (partsM (q.drop 1).dropLast).getD []
abbrev sx (x : Int × Bool × Value) : List Value := [Z x.1, .bool x.2.1, x.2.2]
def SAs {α : Type} (K : Nat → Prop) (w : World) (L : Value → α → Prop) (v : Value) (l : List (Int × Bool × α)) : Prop :=
  ∃ ad cap, v = .slice ad l.length cap ∧ ∀ (i : Nat) (t : Int × Bool × α), l[i]? = some t → ∃ g off iv, ad = some ⟨g, off, none⟩ ∧ K g ∧ yi w g (off + i * 3) (sx (t.1, t.2.1, iv)) ∧ L iv t.2.2
/-- A slice in memory that holds shapes, all in blocks of K. -/
def SLA (K : Nat → Prop) (w : World) : (n : Nat) → Value → SL n → Prop
  | 0, v, _ => ∃ ad cap, v = .slice ad 0 cap
  | n + 1, v, l => SAs K w (SLA K w n) v l
theorem SLA.keep {K : Nat → Prop} {w w' : World} (h : ∀ k, K k → w'.heap[k]? = w.heap[k]?) : ∀ {n : Nat} {v : Value} {l : SL n}, SLA K w n v l → SLA K w' n v l
  | 0, v, l, H => H
  | n + 1, v, l, H => by
    obtain ⟨ad, cap, hv, hm⟩ := H
    refine ⟨ad, cap, hv, fun i t hi => ?_⟩
    obtain ⟨g, off, iv, h1, h2, h3, h4⟩ := hm i t hi
    exact ⟨g, off, iv, h1, h2, h3.keep (h g h2), SLA.keep h h4⟩
theorem SLA.mono {K K' : Nat → Prop} {w : World} (h : ∀ k, K k → K' k) : ∀ {n : Nat} {v : Value} {l : SL n}, SLA K w n v l → SLA K' w n v l
  | 0, v, l, H => H
  | n + 1, v, l, H => by
    obtain ⟨ad, cap, hv, hm⟩ := H
    refine ⟨ad, cap, hv, fun i t hi => ?_⟩
    obtain ⟨g, off, iv, h1, h2, h3, h4⟩ := hm i t hi
    exact ⟨g, off, iv, h1, h g h2, h3, SLA.mono h h4⟩
theorem SLA.slice {K : Nat → Prop} {w : World} : ∀ {n : Nat} {v : Value} {l : SL n}, SLA K w n v l → ∃ ad m cap, v = .slice ad m cap
  | 0, v, l, h => by obtain ⟨ad, cap, hv⟩ := h; exact ⟨ad, 0, cap, hv⟩
  | n + 1, v, l, h => by obtain ⟨ad, cap, hv, _⟩ := h; exact ⟨ad, _, cap, hv⟩
theorem SLA.nil {K : Nat → Prop} {w : World} (n : Nat) : SLA K w (n + 1) (.slice none 0 0) ([] : List (ST n)) := ⟨none, 0, rfl, fun i t h => by simp at h⟩
/-- What lies in a row, and which shapes that is. -/
def InL (K : Nat → Prop) (w : World) (n : Nat) (X : List (Int × Bool × Value)) (l : List (ST n)) : Prop := X.length = l.length ∧ ∀ (i : Nat) (x : Int × Bool × Value) (t : ST n), X[i]? = some x → l[i]? = some t → x.1 = t.1 ∧ x.2.1 = t.2.1 ∧ SLA K w n x.2.2 t.2.2
theorem InL.keep {K : Nat → Prop} {w w' : World} (h : ∀ k, K k → w'.heap[k]? = w.heap[k]?) {n : Nat} {X : List (Int × Bool × Value)} {l : List (ST n)} (H : InL K w n X l) : InL K w' n X l :=
  ⟨H.1, fun i x t hx ht => ⟨(H.2 i x t hx ht).1, (H.2 i x t hx ht).2.1, (H.2 i x t hx ht).2.2.keep h⟩⟩
theorem InL.mono {K K' : Nat → Prop} {w : World} (h : ∀ k, K k → K' k) {n : Nat} {X : List (Int × Bool × Value)} {l : List (ST n)} (H : InL K w n X l) : InL K' w n X l :=
  ⟨H.1, fun i x t hx ht => ⟨(H.2 i x t hx ht).1, (H.2 i x t hx ht).2.1, (H.2 i x t hx ht).2.2.mono h⟩⟩
structure RKJ (wE : World) (g : Nat) (K : Nat → Prop) (n : Nat) (v : Value) (l : SL n) (w : World) : Prop where
  gr : zq (fun k => k ≠ g) wE w
  kb : ∀ k, K k → wE.heap.size ≤ k ∧ k < w.heap.size
  sl : SLA K w n v l
def RKF (wE : World) (g : Nat) (K : Nat → Prop) (k : Nat) : Prop := (k < wE.heap.size ∧ k ≠ g) ∨ K k
theorem RKJ.rs (wE : World) (g : Nat) (K : Nat → Prop) (n : Nat) (v : Value) (l : SL n) : y8 (RKJ wE g K n v l) (RKF wE g K) := by
  refine ⟨fun w w' h gr => ⟨⟨gr.os.trans h.gr.os, gr.tape.trans h.gr.tape, gr.output.trans h.gr.output, Nat.le_trans h.gr.size gr.size, fun k hk hn => (gr.block k (Nat.lt_of_lt_of_le hk h.gr.size) (.inl ⟨hk, hn⟩)).trans (h.gr.block k hk hn)⟩, fun k hk => ⟨(h.kb k hk).1, Nat.lt_of_lt_of_le (h.kb k hk).2 gr.size⟩, h.sl.keep fun k hk => gr.block k (h.kb k hk).2 (.inr hk)⟩, fun w k h hk => ?_⟩
  rcases hk with hk | hk
  · exact Nat.lt_of_lt_of_le hk.1 h.gr.size
  · exact (h.kb k hk).2
abbrev noK : Nat → Prop := fun _ => False
theorem RKJ.start (w : World) (g : Nat) : RKJ w g noK 0 (.slice none 0 0) () w := ⟨zq.refl _ _, fun _ h => h.elim, none, 0, rfl⟩
theorem RKJ.not {w : World} {g : Nat} : ¬ RKF w g noK g := by
  intro h
  rcases h with h | h
  · exact h.2 rfl
  · exact h
structure BK (wE : World) (K : Nat → Prop) (n : Nat) (v : Value) (l : SL n) (w : World) : Prop where
  bw : Below wE.heap.size wE w
  kb : ∀ k, K k → k < w.heap.size
  sl : SLA K w n v l
def BKF (wE : World) (K : Nat → Prop) (k : Nat) : Prop := k < wE.heap.size ∨ K k
theorem BK.rs (wE : World) (K : Nat → Prop) (n : Nat) (v : Value) (l : SL n) : y8 (BK wE K n v l) (BKF wE K) := by
  refine ⟨fun w w' h gr => ⟨⟨gr.os.trans h.bw.os, gr.tape.trans h.bw.tape, gr.output.trans h.bw.output, Nat.le_trans h.bw.size gr.size, fun k hk => (gr.block k (Nat.lt_of_lt_of_le hk h.bw.size) (.inl hk)).trans (h.bw.block k hk)⟩, fun k hk => Nat.lt_of_lt_of_le (h.kb k hk) gr.size, h.sl.keep fun k hk => gr.block k (h.kb k hk) (.inr hk)⟩, fun w k h hk => ?_⟩
  rcases hk with hk | hk
  · exact Nat.lt_of_lt_of_le hk h.bw.size
  · exact h.kb k hk
theorem and32 (a : Nat) (ha : a < 4294967296) (x y : Operand) (w : World) : (do eqGuard .and 23 x y (B a) (B 4294967295); binOp .and 23 (B a) (B 4294967295) : Sem Value).run Tryz.prog w = .ok (B a) w := by
  have h := Go.Proofs.Mul64.maskN a (by omega)
  rw [Nat.mod_eq_of_lt ha] at h
  simp [go_sem, h]
theorem shr32 (a : Nat) (ha : a < 4294967296) (x y : Operand) (w : World) : (do eqGuard .shr 23 x y (B a) (B 32); binOp .shr 23 (B a) (B 32) : Sem Value).run Tryz.prog w = .ok (B 0) w := by
  have h : (a : Int) / 4294967296 = 0 := by omega
  simp [go_sem, h]
theorem mulB (a b c : Nat) (h : a * b = c) (hc : c < M) (x y : Operand) (w : World) : (do eqGuard .mul 23 x y (B a) (B b); binOp .mul 23 (B a) (B b) : Sem Value).run Tryz.prog w = .ok (B c) w := by
  have hw : IntKind.u64.wrap ((a : Int) * (b : Int)) = (c : Int) := by
    have e : (a : Int) * (b : Int) = (c : Int) := by rw [← h]; exact (Int.natCast_mul a b).symm
    unfold M at hc
    rw [e]
    have := IntKind.wrap_u64 (c : Int)
    omega
  simp [go_sem, hw]
theorem mul64_one (n : Nat) (hn : n ≤ 64) (w : World) : Calls Tryz.prog 289 #[B 1, B n] w fun e w' => e = .returned (.tuple #[B 0, B n]) ∧ Below w.heap.size w w' := by
  have hM : n < M := by unfold M; omega
  have h0 : (0 : Nat) < M := by decide
  refine inQ (J := Below w.heap.size w) (F := (· < w.heap.size)) Tryz.func289 (Below.refl _ _) fun a I => ?_
  refine goQ [bO .and 23 (and32 1 (by decide)), bO .shr 23 (shr32 1 (by decide)), bO .and 23 (and32 n (by omega)), bO .shr 23 (shr32 n (by omega)), bO .mul 23 (mulB 1 n n (by omega) hM),
    bO .mul 23 (mulB 0 n 0 (by omega) h0), bO .shr 23 (shr32 n (by omega)), bO .add 23 (zcu 0 0 h0), bO .and 23 (and32 0 (by decide)), bO .shr 23 (shr32 0 (by decide)), bO .mul 23 (mulB 1 0 0 rfl h0), bO .add 23 (zcu 0 0 h0),
    bO .mul 23 (mulB 0 0 0 rfl h0), bO .add 23 (zcu 0 0 h0), bO .shr 23 (shr32 0 (by decide)), bO .add 23 (zcu 0 0 h0), bO .mul 23 (mulB 1 n n (by omega) hM)] (zd w) I fun β a w1 I hb => ?_
  exact zm (v := .tuple #[B 0, B n]) I ⟨rfl, I.hJ⟩
theorem mul_one (n : Nat) (hn : n ≤ 64) (w : World) : Calls Tryz.prog 306 #[B 1, B n] w fun e w' => e = .returned (.tuple #[B 0, B n]) ∧ Below w.heap.size w w' := by
  refine inQ (J := Below w.heap.size w) (F := (· < w.heap.size)) Tryz.func306 (Below.refl _ _) fun a I => ?_
  refine goQ [kC Tryz.func289 (mul64_one n hn)] (zd w) I fun β a w1 I hb => ?_
  exact zm (v := .tuple #[B 0, B n]) I ⟨rfl, I.hJ⟩
/-- Nothing. -/
def nilS : (n : Nat) → SL n
  | 0 => ()
  | _ + 1 => []
def insM {n : Nat} (N : Nat) (many : Bool) (l : List (ST n)) : Option (List (ST n)) := if 64 < N then none else if many then some (List.replicate N (l.headD (0, false, nilS n))) else if N = l.length then some l else none
/-- How many there are, at most so many. -/
def rdC (S : List UInt8) (p most : Nat) : Option Nat := if p + 32 ≤ S.length then (if nm ((S.drop p).take 32) ≤ most then some (nm ((S.drop p).take 32)) else none) else none
/-- A text's tail. -/
def rdX (S : List UInt8) (p : Nat) : Option (List UInt8 × Nat) := (rdC S p 16384).bind fun n => if p + 32 + n + pad n ≤ S.length ∧ ∀ b ∈ (S.drop (p + 32 + n)).take (pad n), b = 0 then some ((S.drop (p + 32)).take n, p + 32 + n + pad n) else none
section
variable {P : Program} {ops : Array Oper} {Q : Exit → Act → World → Prop}
variable {J : World → Prop} {F : Nat → Prop} {ds : List Deferred} {β : Nat → Nat} {c : Cf} {a : Act} {w : World}
theorem s_at_reg {ks : List Ki} (hm : P.follows .mixedOrders = true) (hc : drQ c = some (ops, ks)) (h : RegV P ops (QK P Q ks) a w) : At P Q c a w := by
  unfold drQ at hc
  split at hc
  · next rid ops' ks' hd hr hk =>
    cases hc
    refine ⟨?_⟩
    unfold AtD
    rw [hd, hr, hk]
    show (Code.region rid ops true).wp P (QK P Q ks) a w
    exact RegV.wp hm h
  · cases hc
end
def LFs {α : Type} (K : Nat → Prop) (w : World) (L : Value → α → Prop) (v : Value) (l : List (Int × Nat × ByteArray × α)) : Prop :=
  ∃ ad cap, v = .slice ad l.length cap ∧ ∀ (i : Nat) (t : Int × Nat × ByteArray × α), l[i]? = some t → ∃ g off lv, ad = some ⟨g, off, none⟩ ∧ K g ∧ yi w g (off + i * 7) (zcz t.1 t.2.1 t.2.2.1 lv) ∧ L lv t.2.2.2
/-- A slice in memory that holds terms, all in blocks of K. -/
def LAf (K : Nat → Prop) (w : World) : (n : Nat) → Value → TL n → Prop
  | 0, v, _ => ∃ ad cap, v = .slice ad 0 cap
  | n + 1, v, l => LFs K w (LAf K w n) v l
theorem LAf.keep {K : Nat → Prop} {w w' : World} (h : ∀ k, K k → w'.heap[k]? = w.heap[k]?) : ∀ {n : Nat} {v : Value} {l : TL n}, LAf K w n v l → LAf K w' n v l
  | 0, v, l, H => H
  | n + 1, v, l, H => by
    obtain ⟨ad, cap, hv, hm⟩ := H
    refine ⟨ad, cap, hv, fun i t hi => ?_⟩
    obtain ⟨g, off, iv, h1, h2, h3, h4⟩ := hm i t hi
    exact ⟨g, off, iv, h1, h2, h3.keep (h g h2), LAf.keep h h4⟩
theorem LAf.mono {K K' : Nat → Prop} {w : World} (h : ∀ k, K k → K' k) : ∀ {n : Nat} {v : Value} {l : TL n}, LAf K w n v l → LAf K' w n v l
  | 0, v, l, H => H
  | n + 1, v, l, H => by
    obtain ⟨ad, cap, hv, hm⟩ := H
    refine ⟨ad, cap, hv, fun i t hi => ?_⟩
    obtain ⟨g, off, iv, h1, h2, h3, h4⟩ := hm i t hi
    exact ⟨g, off, iv, h1, h g h2, h3, LAf.mono h h4⟩
theorem LAf.slice {K : Nat → Prop} {w : World} : ∀ {n : Nat} {v : Value} {l : TL n}, LAf K w n v l → ∃ ad m cap, v = .slice ad m cap
  | 0, v, l, h => by obtain ⟨ad, cap, hv⟩ := h; exact ⟨ad, 0, cap, hv⟩
  | n + 1, v, l, h => by obtain ⟨ad, cap, hv, _⟩ := h; exact ⟨ad, _, cap, hv⟩
theorem LAf.la {K : Nat → Prop} {w : World} : ∀ {n : Nat} {v : Value} {l : TL n}, LAf K w n v l → LA w n v l
  | 0, v, l, h => h
  | n + 1, v, l, h => by
    obtain ⟨ad, cap, hv, hm⟩ := h
    refine ⟨ad, cap, hv, fun i t hi => ?_⟩
    obtain ⟨g, off, iv, h1, h2, h3, h4⟩ := hm i t hi
    exact ⟨g, off, iv, h1, h3, h4.la⟩
def nilT : (n : Nat) → TL n
  | 0 => ()
  | n + 1 => ([] : List (xq n))
theorem LAf.nil (K : Nat → Prop) (w : World) : ∀ n, LAf K w n (.slice none 0 0) (nilT n)
  | 0 => ⟨none, 0, rfl⟩
  | n + 1 => ⟨none, 0, rfl, fun i t h => by
    have h' : ([] : List (xq n))[i]? = some t := h
    simp at h'⟩
abbrev tx (x : Int × Nat × ByteArray × Value) : List Value := zcz x.1 x.2.1 x.2.2.1 x.2.2.2
def InT (K : Nat → Prop) (w : World) (n : Nat) (X : List (Int × Nat × ByteArray × Value)) (l : List (xq n)) : Prop := X.length = l.length ∧ ∀ (i : Nat) (x : Int × Nat × ByteArray × Value) (t : xq n), X[i]? = some x → l[i]? = some t → x.1 = t.1 ∧ x.2.1 = t.2.1 ∧ x.2.2.1 = t.2.2.1 ∧ LAf K w n x.2.2.2 t.2.2.2
theorem InT.keep {K : Nat → Prop} {w w' : World} (h : ∀ k, K k → w'.heap[k]? = w.heap[k]?) {n : Nat} {X : List (Int × Nat × ByteArray × Value)} {l : List (xq n)} (H : InT K w n X l) : InT K w' n X l :=
  ⟨H.1, fun i x t hx ht => ⟨(H.2 i x t hx ht).1, (H.2 i x t hx ht).2.1, (H.2 i x t hx ht).2.2.1, (H.2 i x t hx ht).2.2.2.keep h⟩⟩
theorem InT.mono {K K' : Nat → Prop} {w : World} (h : ∀ k, K k → K' k) {n : Nat} {X : List (Int × Nat × ByteArray × Value)} {l : List (xq n)} (H : InT K w n X l) : InT K' w n X l :=
  ⟨H.1, fun i x t hx ht => ⟨(H.2 i x t hx ht).1, (H.2 i x t hx ht).2.1, (H.2 i x t hx ht).2.2.1, (H.2 i x t hx ht).2.2.2.mono h⟩⟩
/-- Terms by shapes, one behind the other. -/
def goL {n : Nat} (f : ST n → List UInt8 → Nat → Nat → Option (xq n × Nat)) (hd : List UInt8) (p0 : Nat) : List (ST n) → Nat → Nat → Option (List (xq n) × Nat)
  | [], _, p => some ([], p)
  | t :: l, i, p => (f t ((hd.drop (i * 32)).take 32) (p - p0) p).bind fun x => (goL f hd p0 l (i + 1) x.2).map fun y => (x.1 :: y.1, y.2)
def rdL {n : Nat} (f : ST n → List UInt8 → Nat → Nat → Option (xq n × Nat)) (S : List UInt8) (l : List (ST n)) (p0 : Nat) : Option (List (xq n) × Nat) :=
  if p0 + l.length * 32 ≤ S.length then goL f ((S.drop p0).take (l.length * 32)) p0 l 0 (p0 + l.length * 32) else none
/-- A term by its shape: its word, how many bytes are ahead of its tail, the place of its tail. -/
def rdT (S : List UInt8) : (n : Nat) → ST n → List UInt8 → Nat → Nat → Option (xq n × Nat)
  | 0, t, word, ahead, p => if t.1 = 0 then some ((0, nm word, ⟨#[]⟩, nilT 0), p) else if nm word ≠ ahead then none else if t.1 = 1 then (rdX S p).map fun x => ((1, 0, ⟨x.1.toArray⟩, nilT 0), x.2) else none
  | n + 1, t, word, ahead, p => if t.1 = 0 then some ((0, nm word, ⟨#[]⟩, nilT (n + 1)), p) else if nm word ≠ ahead then none else if t.1 = 1 then (rdX S p).map fun x => ((1, 0, ⟨x.1.toArray⟩, nilT (n + 1)), x.2)
    else (rdC S p 64).bind fun c => (insM c t.2.1 t.2.2).bind fun l => (rdL (rdT S n) S l (p + 32)).map fun x => ((2, 0, ⟨#[]⟩, x.1), x.2)
section
variable {P : Program} {ops : Array Oper} {Q : Exit → Act → World → Prop} {K : Act → World → Prop} {o : Oper} {a : Act} {w : World}
theorem callG {f : Nat} {fn : Func} {xs : Array Operand} {ts : Array TypeId} (hop : o.op = .call ⟨.value (.func f), xs, ts⟩) (hg : o.guard = none) (hf : P.funcs[f]? = some fn) (hb : fn.body.isNone = false) (hn : (fn.name == "runtime.NumGoroutine") = false) {args : Array Value} (hx : xs.map a.eval = args)
    (h : Calls P f args w fun e w' => match e with | .returned v => K (a.put o.dst v) w' | .panicked ch => Q (.panic ch) a w' | .outgrown => False) : wpG ops o P a w K Q := by
  refine zi hg ?_
  have he : (execOp a.eval o).run P w = .ok (.enter f (xs.map a.eval)) w := by
    unfold execOp
    simp only [hop]
    exact fc_any hf hb hn xs ts a o.type w
  unfold Oper.wp
  rw [he, hx, Oper.upon_enter]
  refine h.mono fun e w' he => ?_
  cases e with
  | returned v => exact he
  | panicked ch => exact he
  | outgrown => exact he.elim
end
theorem row_grow {F : Nat → Prop} {w w' : World} {g : Nat} {r : Array Value} (h : zb w g r) (hg : zq F w w') (hF : F g) : zb w' g r := by
  have hl := h.lt
  obtain ⟨t, ht⟩ := h
  exact ⟨t, (hg.block g hl hF).trans ht⟩
abbrev z7 : Array Value := (tx (0, 0, ⟨#[]⟩, .slice none 0 0)).toArray
/-- What stays while a list is read. -/
structure s_CR (g b5 b8 : Nat) (r5 : Array Value) (w6 : World) (k : Nat) (w' : World) : Prop where
  gr : zq (fun k => k ≠ g ∧ k ≠ b8) w6 w'
  h5 : zb w' b5 r5
  h8 : k ≤ 7 → zb w' b8 z7
theorem s_CR.next {g b5 b8 : Nat} {r5 : Array Value} {w6 w' w'' : World} {k : Nat} (h : s_CR g b5 b8 r5 w6 k w') (hk : k ≤ 7) (hg : zq (fun k => k ≠ g) w' w'') (h5 : b5 ≠ g) (h8 : b8 ≠ g) : s_CR g b5 b8 r5 w6 (k + 1) w'' :=
  ⟨h.gr.trans (hg.mono fun i hi => hi.1), row_grow h.h5 hg h5, fun _ => row_grow (h.h8 hk) hg h8⟩
def SpL (S : List UInt8) (p g b8 : Nat) (w6 : World) (m : Nat) (many : Bool) (l : List (ST m)) (word : List UInt8) (ahead : Nat) (k : Nat) (vs : Nat → Value) (w' : World) : Prop := match k with
  | 3 => zb w' g #[str S, Z p]
  | 4 => ∃ c : Nat, vs 3 = Z c ∧ rdC S p 64 = some c ∧ zb w' g #[str S, Z (p + 32 : Nat)]
  | 5 => ∃ (c : Nat) (l' : List (ST m)) (K' : Nat → Prop), rdC S p 64 = some c ∧ insM c many l = some l' ∧ zb w' g #[str S, Z (p + 32 : Nat)] ∧ (∀ k, K' k → k ≠ g ∧ k < w'.heap.size) ∧ SLA K' w' (m + 1) (vs 4) l'
  | 6 => ∃ (ts : List (xq m)) (p' : Nat) (K' : Nat → Prop), rdT S (m + 1) (2, many, l) word ahead p = some ((2, 0, ⟨#[]⟩, ts), p') ∧ p ≤ p' ∧ p' ≤ S.length ∧ zb w' g #[str S, Z p'] ∧ (∀ k, K' k → w6.heap.size ≤ k ∧ k < w'.heap.size) ∧ LAf K' w' (m + 1) (vs 5) ts
  | 7 => ∃ (ts : List (xq m)) (p' : Nat) (K' : Nat → Prop) (lv : Value), rdT S (m + 1) (2, many, l) word ahead p = some ((2, 0, ⟨#[]⟩, ts), p') ∧ p ≤ p' ∧ p' ≤ S.length ∧ zb w' g #[str S, Z p'] ∧ (∀ k, K' k → w6.heap.size ≤ k ∧ k < w'.heap.size) ∧ LAf K' w' (m + 1) lv ts ∧ vs 6 = .agg (tx (2, 0, ⟨#[]⟩, lv)).toArray
  | 8 => ∃ (ts : List (xq m)) (p' : Nat) (K' : Nat → Prop) (lv : Value), rdT S (m + 1) (2, many, l) word ahead p = some ((2, 0, ⟨#[]⟩, ts), p') ∧ p ≤ p' ∧ p' ≤ S.length ∧ zb w' g #[str S, Z p'] ∧ (∀ k, K' k → w6.heap.size ≤ k ∧ k < w'.heap.size) ∧ LAf K' w' (m + 1) lv ts ∧ zb w' b8 (tx (2, 0, ⟨#[]⟩, lv)).toArray
  | _ => False
theorem SpL.ext {S : List UInt8} {p g b8 : Nat} {w6 : World} {m : Nat} {many : Bool} {l : List (ST m)} {word : List UInt8} {ahead : Nat} {k : Nat} {vs vs' : Nat → Value} {w' : World} (h : ∀ j, 3 ≤ j → vs j = vs' j) (H : SpL S p g b8 w6 m many l word ahead k vs w') : SpL S p g b8 w6 m many l word ahead k vs' w' := by
  unfold SpL at H ⊢
  split at H
  · exact H
  · rw [← h 3 (by omega)]; exact H
  · rw [← h 4 (by omega)]; exact H
  · rw [← h 5 (by omega)]; exact H
  · rw [← h 6 (by omega)]; exact H
  · exact H
  · exact H
theorem map2 {α β : Type} (f : α → β) (x y : α) : (#[x, y] : Array α).map f = #[f x, f y] := by simp
/-- A list of terms in memory. -/
structure LK (K : Nat → Prop) (lo n : Nat) (v : Value) (l : TL n) (w : World) : Prop where
  kb : ∀ k, K k → lo ≤ k ∧ k < w.heap.size
  la : LAf K w n v l
theorem LK.rs (K : Nat → Prop) (lo n : Nat) (v : Value) (l : TL n) : y8 (LK K lo n v l) K :=
  ⟨fun w w' h gr => ⟨fun k hk => ⟨(h.kb k hk).1, Nat.lt_of_lt_of_le (h.kb k hk).2 gr.size⟩, h.la.keep fun k hk => gr.block k (h.kb k hk).2 hk⟩, fun w k h hk => (h.kb k hk).2⟩
/-- Terms that grow. -/
structure WJ (wE : World) (g n : Nat) (v : Value) (X : List (Int × Nat × ByteArray × Value)) (l : List (xq n)) (K : Nat → Prop) (w : World) : Prop where
  ro : RO wE g 83 7 v X.length (X.flatMap tx) w
  kb : ∀ k, K k → wE.heap.size ≤ k ∧ k < w.heap.size ∧ v.ownBlock ≠ some k
  inn : InT K w n X l
def WJF (wE : World) (g : Nat) (v : Value) (K : Nat → Prop) (k : Nat) : Prop := (k < wE.heap.size ∧ k ≠ g) ∨ v.ownBlock = some k ∨ K k
theorem WJ.rs (wE : World) (g n : Nat) (v : Value) (X : List (Int × Nat × ByteArray × Value)) (l : List (xq n)) (K : Nat → Prop) : y8 (WJ wE g n v X l K) (WJF wE g v K) := by
  refine ⟨fun w w' h gr => ⟨(RO.rs wE g 83 7 v X.length (X.flatMap tx)).loc w w' h.ro ⟨gr.os, gr.tape, gr.output, gr.size, fun k hk hF => gr.block k hk (hF.elim .inl fun h => .inr (.inl h))⟩, fun k hk => ⟨(h.kb k hk).1, Nat.lt_of_lt_of_le (h.kb k hk).2.1 gr.size, (h.kb k hk).2.2⟩, h.inn.keep fun k hk => gr.block k (h.kb k hk).2.1 (.inr (.inr hk))⟩, fun w k h hk => ?_⟩
  rcases hk with hk | hk | hk
  · exact Nat.lt_of_lt_of_le hk.1 h.ro.gr.size
  · exact (h.ro.own.lt k hk).2
  · exact (h.kb k hk).2.1
theorem WJ.start (w : World) (g n : Nat) : WJ w g n (.slice none 0 0) [] [] noK w := ⟨RO.start _ _ _ _, fun _ h => h.elim, rfl, fun i x t h => by simp at h⟩
theorem WJ.not {w : World} {g : Nat} : ¬ WJF w g (.slice none 0 0) noK g := by
  intro h
  rcases h with h | h | h
  · exact h.2 rfl
  · cases h
  · exact h
/-- Bytes stand at a place. -/
def Has (S : List UInt8) (p : Nat) (X : List UInt8) : Prop := ∃ R, S.drop p = X ++ R
theorem Has.le {S : List UInt8} {p : Nat} {X : List UInt8} (h : Has S p X) (hp : p ≤ S.length) : p + X.length ≤ S.length := by
  obtain ⟨R, h⟩ := h
  have := congrArg List.length h
  rw [List.length_drop, List.length_append] at this
  omega
theorem Has.take {S : List UInt8} {p : Nat} {X : List UInt8} {n : Nat} (h : Has S p X) (hn : X.length = n) : (S.drop p).take n = X := by
  obtain ⟨R, h⟩ := h
  rw [h, ← hn, List.take_left]
theorem Has.nil (S : List UInt8) (p : Nat) : Has S p [] := ⟨_, rfl⟩
def wrd {α : Type} (t : Int × Nat × ByteArray × α) (a : Nat) : List UInt8 := if t.1 = 0 then wb t.2.1 else wb a
def hds {α : Type} (T : Int × Nat × ByteArray × α → List UInt8) : List (Int × Nat × ByteArray × α) → Nat → List UInt8
  | [], _ => []
  | t :: l, a => wrd t a ++ hds T l (a + (T t).length)
end Go.Proofs.YthkpgfbjdabflaaGreatDoor
