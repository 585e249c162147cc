/- Polynomials in x1, y1, x2, y2, x3, y3, where each y times itself is x times x times x and 7: sums and products that are reckoned out in order, each coefficient laid out before the next. No program is named here. -/
import Derived.Test.YtpdoonofipcbeaaDoorXsME
namespace Go.Proofs.YtpdoonofipcbeaaDoor
set_option linter.unusedVariables false
def a0 (x y : Nat) (k : Nat → Bool) : Bool := fo (Nat.mod (Nat.add x y) 115792089237316195423570985008687907853269984665640564039457584007908834671663) k
def m0 (x y : Nat) (k : Nat → Bool) : Bool := fo (Nat.mod (Nat.mul x y) 115792089237316195423570985008687907853269984665640564039457584007908834671663) k
def n0 (x : Nat) (k : Nat → Bool) : Bool := fo (Nat.mod (Nat.sub 115792089237316195423570985008687907853269984665640564039457584007908834671663 (Nat.mod x 115792089237316195423570985008687907853269984665640564039457584007908834671663)) 115792089237316195423570985008687907853269984665640564039457584007908834671663) k
section
variable [NeZero Pp]
/-- A number as one by the prime. -/
def cf (c : Nat) : Fin Pp := Fin.ofNat Pp c
theorem cf_mod (c : Nat) : cf (c % Pp) = cf c := by unfold cf; apply Fin.ext; simp [Fin.ofNat]
theorem cf_add (a b : Nat) : cf (a + b) = cf a + cf b := by unfold cf; apply Fin.ext; simp [Fin.ofNat, Fin.add_def]
theorem cf_mul (a b : Nat) : cf (a * b) = cf a * cf b := by unfold cf; apply Fin.ext; simp [Fin.ofNat, Fin.mul_def, Nat.mul_mod]
theorem cf_zero : cf 0 = 0 := by unfold cf; apply Fin.ext; simp [Fin.ofNat]
theorem cf_one : cf 1 = 1 := by unfold cf; rfl
theorem cf_seven : cf 7 = 7 := by unfold cf; rfl
theorem m_z (a : Fin Pp) : a * 0 = 0 := by apply Fin.ext; simp [Fin.mul_def]
theorem z_m (a : Fin Pp) : 0 * a = 0 := by apply Fin.ext; simp [Fin.mul_def]
theorem n_z : (- 0 : Fin Pp) = 0 := by apply Fin.ext; simp [Fin.neg_def]
theorem a0_sp (a b : Nat) : ∃ c, (∀ k, a0 a b k = k c) ∧ cf c = cf a + cf b := ⟨(a + b) % Pp, fun k => fo_eq _ _, by rw [cf_mod, cf_add]⟩
theorem m0_sp (a b : Nat) : ∃ c, (∀ k, m0 a b k = k c) ∧ cf c = cf a * cf b := ⟨(a * b) % Pp, fun k => fo_eq _ _, by rw [cf_mod, cf_mul]⟩
theorem n0_sp (a : Nat) : ∃ c, (∀ k, n0 a k = k c) ∧ cf c = - cf a := ⟨(Pp - a % Pp) % Pp, fun k => fo_eq _ _, by
  have h : cf (Pp - a % Pp) + cf (a % Pp) = 0 := by
    rw [← cf_add, Nat.sub_add_cancel (Nat.le_of_lt (Nat.mod_lt _ (by decide))), ← cf_mod, Nat.mod_self, cf_zero]
  rw [cf_mod] at h ⊢
  grind⟩
end

abbrev P1 : Type := List Nat
abbrev Q1 : Type := P1 × P1
def cn1 (c : Nat) (r : P1) (k : P1 → Bool) : Bool :=
  match r with
  | [] => match c with | 0 => k [] | m + 1 => k [Nat.add m 1]
  | a :: q => k (c :: a :: q)
def aPk1 : P1 → P1 → (P1 → Bool) → Bool
  | [], q, k => k q
  | a :: p, [], k => k (a :: p)
  | a :: p, b :: q, k => a0 a b fun c => aPk1 p q fun r => cn1 c r k
def sPl1 (a : Nat) : P1 → (P1 → Bool) → Bool
  | [], k => k []
  | b :: q, k => m0 a b fun c => sPl1 a q fun r => cn1 c r k
def sPk1 (a : Nat) (q : P1) (k : P1 → Bool) : Bool := match a with | 0 => k [] | m + 1 => sPl1 (Nat.add m 1) q k
def mPk1 : P1 → P1 → (P1 → Bool) → Bool
  | [], _, k => k []
  | a :: p, q, k => sPk1 a q fun s => mPk1 p q fun r => match r with | [] => k s | b :: t => aPk1 s (0 :: b :: t) k
def nPk1 : P1 → (P1 → Bool) → Bool
  | [], k => k []
  | a :: p, k => n0 a fun c => nPk1 p fun r => k (c :: r)
def cub1 : P1 := [7, 0, 0, 1]
def aQk1 (p q : Q1) (k : Q1 → Bool) : Bool := match p, q with | (a, b), (c, d) => aPk1 a c fun r => aPk1 b d fun s => k (r, s)
def nQk1 (p : Q1) (k : Q1 → Bool) : Bool := match p with | (a, b) => nPk1 a fun r => nPk1 b fun s => k (r, s)
def mQk1 (p q : Q1) (k : Q1 → Bool) : Bool :=
  match p, q with
  | (a, b), (c, d) => mPk1 b d fun bd => mPk1 bd cub1 fun e => mPk1 a c fun ac => aPk1 ac e fun r => mPk1 a d fun ad => mPk1 b c fun bc => aPk1 ad bc fun s => k (r, s)
def k1 (n : Nat) : Q1 := ([n], [])
def qP1 : P1 → P1 → Bool
  | [], [] => true
  | a :: p, b :: q => match Nat.beq a b with | true => qP1 p q | false => false
  | _, _ => false
def qQ1 (p q : Q1) : Bool := match qP1 p.1 q.1 with | true => qP1 p.2 q.2 | false => false
section
variable [NeZero Pp] (v : Nat → Fin Pp)
def eP1 : P1 → Fin Pp
  | [] => 0
  | a :: p => cf a + v 0 * eP1 p
def eQ1 (p : Q1) : Fin Pp := eP1 v p.1 + v 1 * eP1 v p.2
theorem eQ1_zero : eQ1 v ([], []) = 0 := by show (0 : Fin Pp) + v 1 * 0 = 0; rw [m_z, Fin.add_zero]
theorem k1_ev (n : Nat) : eQ1 v (k1 n) = cf n := by show cf n + v 0 * 0 + v 1 * 0 = cf n; grind
theorem cub1_ev : eP1 v cub1 = v 0 * v 0 * v 0 + 7 := by show cf 7 + v 0 * (cf 0 + v 0 * (cf 0 + v 0 * (cf 1 + v 0 * 0))) = v 0 * v 0 * v 0 + 7; rw [cf_zero, cf_one, cf_seven]; grind
theorem cn1_sp (c : Nat) (r : P1) : ∃ s, (∀ k, cn1 c r k = k s) ∧ eP1 v s = cf c + v 0 * eP1 v r := by
  cases r with
  | nil =>
    cases c with
    | zero => exact ⟨[], fun k => rfl, by show (0 : Fin Pp) = cf 0 + v 0 * 0; rw [cf_zero]; simp [m_z]⟩
    | succ m => exact ⟨[Nat.add m 1], fun k => rfl, rfl⟩
  | cons a q => exact ⟨c :: a :: q, fun k => rfl, rfl⟩
theorem aP1_sp : ∀ p q : P1, ∃ r, (∀ k, aPk1 p q k = k r) ∧ eP1 v r = eP1 v p + eP1 v q
  | [], q => ⟨q, fun k => by rw [aPk1], by show eP1 v q = 0 + eP1 v q; grind⟩
  | a :: p, [] => ⟨a :: p, fun k => by rw [aPk1], by show eP1 v (a :: p) = eP1 v (a :: p) + 0; grind⟩
  | a :: p, b :: q => by
    obtain ⟨c, hc, ec⟩ := a0_sp a b
    obtain ⟨r, hr, er⟩ := aP1_sp p q
    obtain ⟨s, hs, es⟩ := cn1_sp v c r
    refine ⟨s, fun k => by rw [aPk1, hc, hr, hs], ?_⟩
    show eP1 v s = (cf a + v 0 * eP1 v p) + (cf b + v 0 * eP1 v q)
    rw [es, ec, er]
    grind
theorem sPl1_sp (a : Nat) : ∀ q : P1, ∃ r, (∀ k, sPl1 a q k = k r) ∧ eP1 v r = cf a * eP1 v q
  | [] => ⟨[], fun k => by rw [sPl1], by show (0 : Fin Pp) = _ * 0; rw [m_z]⟩
  | b :: q => by
    obtain ⟨c, hc, ec⟩ := m0_sp a b
    obtain ⟨r, hr, er⟩ := sPl1_sp  a q
    obtain ⟨s, hs, es⟩ := cn1_sp v c r
    refine ⟨s, fun k => by rw [sPl1, hc, hr, hs], ?_⟩
    show eP1 v s = cf a * (cf b + v 0 * eP1 v q)
    rw [es, ec, er]
    grind
theorem sP1_sp (a : Nat) (q : P1) : ∃ r, (∀ k, sPk1 a q k = k r) ∧ eP1 v r = cf a * eP1 v q := by
  cases a with
  | zero => exact ⟨[], fun k => rfl, by show (0 : Fin Pp) = cf 0 * _; rw [cf_zero]; simp [z_m]⟩
  | succ m => exact sPl1_sp v (Nat.add m 1) q
theorem mP1_sp  : ∀ p q : P1, ∃ r, (∀ k, mPk1 p q k = k r) ∧ eP1 v r = eP1 v p * eP1 v q
  | [], q => ⟨[], fun k => by rw [mPk1], by show (0 : Fin Pp) = 0 * eP1 v q; rw [z_m]⟩
  | a :: p, q => by
    obtain ⟨s, hs, es⟩ := sP1_sp v  a q
    obtain ⟨r, hr, er⟩ := mP1_sp  p q
    cases r with
    | nil =>
      refine ⟨s, fun k => by rw [mPk1, hs, hr], ?_⟩
      have er' : (0 : Fin Pp) = eP1 v p * eP1 v q := er
      show eP1 v s = (cf a + v 0 * eP1 v p) * eP1 v q
      rw [es]
      grind
    | cons b t =>
      obtain ⟨u, hu, eu⟩ := aP1_sp v s (0 :: b :: t)
      refine ⟨u, fun k => by rw [mPk1, hs, hr]; exact hu k, ?_⟩
      show eP1 v u = (cf a + v 0 * eP1 v p) * eP1 v q
      rw [eu, es, show eP1 v (0 :: b :: t) = cf 0 + v 0 * eP1 v (b :: t) from rfl, er, cf_zero]
      grind
theorem nP1_sp : ∀ p : P1, ∃ r, (∀ k, nPk1 p k = k r) ∧ eP1 v r = - eP1 v p
  | [] => ⟨[], fun k => by rw [nPk1], by show (0 : Fin Pp) = - 0; rw [n_z]⟩
  | a :: p => by
    obtain ⟨c, hc, ec⟩ := n0_sp a
    obtain ⟨r, hr, er⟩ := nP1_sp p
    refine ⟨c :: r, fun k => by rw [nPk1, hc, hr], ?_⟩
    show cf c + v 0 * eP1 v r = - (cf a + v 0 * eP1 v p)
    rw [ec, er]
    grind
theorem aQ1_sp (p q : Q1) : ∃ r, (∀ k, aQk1 p q k = k r) ∧ eQ1 v r = eQ1 v p + eQ1 v q := by
  obtain ⟨a, b⟩ := p
  obtain ⟨c, d⟩ := q
  obtain ⟨r, hr, er⟩ := aP1_sp v a c
  obtain ⟨s, hs, es⟩ := aP1_sp v b d
  refine ⟨(r, s), fun k => by rw [aQk1]; show aPk1 a c _ = _; rw [hr, hs], ?_⟩
  show eP1 v r + v 1 * eP1 v s = (eP1 v a + v 1 * eP1 v b) + (eP1 v c + v 1 * eP1 v d)
  rw [er, es]
  grind
theorem nQ1_sp (p : Q1) : ∃ r, (∀ k, nQk1 p k = k r) ∧ eQ1 v r = - eQ1 v p := by
  obtain ⟨a, b⟩ := p
  obtain ⟨r, hr, er⟩ := nP1_sp v a
  obtain ⟨s, hs, es⟩ := nP1_sp v b
  refine ⟨(r, s), fun k => by rw [nQk1]; show nPk1 a _ = _; rw [hr, hs], ?_⟩
  show eP1 v r + v 1 * eP1 v s = - (eP1 v a + v 1 * eP1 v b)
  rw [er, es]
  grind
theorem mQ1_sp  (h1 : v 1 * v 1 = v 0 * v 0 * v 0 + 7) (p q : Q1) : ∃ r, (∀ k, mQk1 p q k = k r) ∧ eQ1 v r = eQ1 v p * eQ1 v q := by
  obtain ⟨a, b⟩ := p
  obtain ⟨c, d⟩ := q
  obtain ⟨bd, g1, e1⟩ := mP1_sp v  b d
  obtain ⟨e, g2, e2⟩ := mP1_sp v  bd cub1
  obtain ⟨ac, g3, e3⟩ := mP1_sp v  a c
  obtain ⟨r, g4, e4⟩ := aP1_sp v ac e
  obtain ⟨ad, g5, e5⟩ := mP1_sp v  a d
  obtain ⟨bc, g6, e6⟩ := mP1_sp v  b c
  obtain ⟨s, g7, e7⟩ := aP1_sp v ad bc
  refine ⟨(r, s), fun k => by rw [mQk1]; show mPk1 b d _ = _; rw [g1, g2, g3, g4, g5, g6, g7], ?_⟩
  show eP1 v r + v 1 * eP1 v s = (eP1 v a + v 1 * eP1 v b) * (eP1 v c + v 1 * eP1 v d)
  rw [e4, e3, e2, e1, cub1_ev, e7, e5, e6]
  generalize eP1 v a = ta
  generalize eP1 v b = tb
  generalize eP1 v c = tc
  generalize eP1 v d = td
  generalize v 0 = tx at *
  generalize v 1 = ty at *
  grind
theorem qP1_ev : ∀ p q : P1, qP1 p q = true → eP1 v p = eP1 v q
  | [], [], _ => rfl
  | [], _ :: _, h => by rw [qP1] at h; cases h; all_goals (intros; contradiction)
  | _ :: _, [], h => by rw [qP1] at h; cases h; all_goals (intros; contradiction)
  | a :: p, b :: q, h => by
    rw [qP1] at h
    split at h
    · next e =>
      show cf a + v 0 * eP1 v p = cf b + v 0 * eP1 v q
      rw [qP1_ev p q h, Nat.eq_of_beq_eq_true e]
    · cases h
theorem qQ1_ev (p q : Q1) (h : qQ1 p q = true) : eQ1 v p = eQ1 v q := by
  rw [qQ1] at h
  split at h
  · next e => unfold eQ1; rw [qP1_ev v _ _ e, qP1_ev v _ _ h]
  · cases h
end

abbrev P2 : Type := List Q1
abbrev Q2 : Type := P2 × P2
def cn2 (c : Q1) (r : P2) (k : P2 → Bool) : Bool :=
  match r with
  | [] => match c with | ([], []) => k [] | (u :: t, d) => k [(u :: t, d)] | ([], u :: t) => k [([], u :: t)]
  | a :: q => k (c :: a :: q)
def aPk2 : P2 → P2 → (P2 → Bool) → Bool
  | [], q, k => k q
  | a :: p, [], k => k (a :: p)
  | a :: p, b :: q, k => aQk1 a b fun c => aPk2 p q fun r => cn2 c r k
def sPl2 (a : Q1) : P2 → (P2 → Bool) → Bool
  | [], k => k []
  | b :: q, k => mQk1 a b fun c => sPl2 a q fun r => cn2 c r k
def sPk2 (a : Q1) (q : P2) (k : P2 → Bool) : Bool := match a with | ([], []) => k [] | (u :: t, d) => sPl2 (u :: t, d) q k | ([], u :: t) => sPl2 ([], u :: t) q k
def mPk2 : P2 → P2 → (P2 → Bool) → Bool
  | [], _, k => k []
  | a :: p, q, k => sPk2 a q fun s => mPk2 p q fun r => match r with | [] => k s | b :: t => aPk2 s (([], []) :: b :: t) k
def nPk2 : P2 → (P2 → Bool) → Bool
  | [], k => k []
  | a :: p, k => nQk1 a fun c => nPk2 p fun r => k (c :: r)
def cub2 : P2 := [k1 7, ([], []), ([], []), k1 1]
def aQk2 (p q : Q2) (k : Q2 → Bool) : Bool := match p, q with | (a, b), (c, d) => aPk2 a c fun r => aPk2 b d fun s => k (r, s)
def nQk2 (p : Q2) (k : Q2 → Bool) : Bool := match p with | (a, b) => nPk2 a fun r => nPk2 b fun s => k (r, s)
def mQk2 (p q : Q2) (k : Q2 → Bool) : Bool :=
  match p, q with
  | (a, b), (c, d) => mPk2 b d fun bd => mPk2 bd cub2 fun e => mPk2 a c fun ac => aPk2 ac e fun r => mPk2 a d fun ad => mPk2 b c fun bc => aPk2 ad bc fun s => k (r, s)
def k2 (n : Nat) : Q2 := ([k1 n], [])
def qP2 : P2 → P2 → Bool
  | [], [] => true
  | a :: p, b :: q => match qQ1 a b with | true => qP2 p q | false => false
  | _, _ => false
def qQ2 (p q : Q2) : Bool := match qP2 p.1 q.1 with | true => qP2 p.2 q.2 | false => false
section
variable [NeZero Pp] (v : Nat → Fin Pp)
def eP2 : P2 → Fin Pp
  | [] => 0
  | a :: p => eQ1 v a + v 2 * eP2 p
def eQ2 (p : Q2) : Fin Pp := eP2 v p.1 + v 3 * eP2 v p.2
theorem eQ2_zero : eQ2 v ([], []) = 0 := by show (0 : Fin Pp) + v 3 * 0 = 0; rw [m_z, Fin.add_zero]
theorem k2_ev (n : Nat) : eQ2 v (k2 n) = cf n := by show eQ1 v (k1 n) + v 2 * 0 + v 3 * 0 = cf n; rw [k1_ev]; grind
theorem cub2_ev : eP2 v cub2 = v 2 * v 2 * v 2 + 7 := by show eQ1 v (k1 7) + v 2 * (eQ1 v ([], []) + v 2 * (eQ1 v ([], []) + v 2 * (eQ1 v (k1 1) + v 2 * 0))) = v 2 * v 2 * v 2 + 7; rw [k1_ev, k1_ev, eQ1_zero, cf_one, cf_seven]; grind
theorem cn2_sp (c : Q1) (r : P2) : ∃ s, (∀ k, cn2 c r k = k s) ∧ eP2 v s = eQ1 v c + v 2 * eP2 v r := by
  cases r with
  | nil =>
    obtain ⟨c1, c2⟩ := c
    cases c1 with
    | nil => cases c2 with
      | nil => exact ⟨[], fun k => rfl, by show (0 : Fin Pp) = eQ1 v ([], []) + v 2 * 0; rw [eQ1_zero]; simp [m_z]⟩
      | cons u t => exact ⟨[([], u :: t)], fun k => rfl, rfl⟩
    | cons u t => exact ⟨[(u :: t, c2)], fun k => rfl, rfl⟩
  | cons a q => exact ⟨c :: a :: q, fun k => rfl, rfl⟩
theorem aP2_sp : ∀ p q : P2, ∃ r, (∀ k, aPk2 p q k = k r) ∧ eP2 v r = eP2 v p + eP2 v q
  | [], q => ⟨q, fun k => by rw [aPk2], by show eP2 v q = 0 + eP2 v q; grind⟩
  | a :: p, [] => ⟨a :: p, fun k => by rw [aPk2], by show eP2 v (a :: p) = eP2 v (a :: p) + 0; grind⟩
  | a :: p, b :: q => by
    obtain ⟨c, hc, ec⟩ := aQ1_sp v a b
    obtain ⟨r, hr, er⟩ := aP2_sp p q
    obtain ⟨s, hs, es⟩ := cn2_sp v c r
    refine ⟨s, fun k => by rw [aPk2, hc, hr, hs], ?_⟩
    show eP2 v s = (eQ1 v a + v 2 * eP2 v p) + (eQ1 v b + v 2 * eP2 v q)
    rw [es, ec, er]
    grind
theorem sPl2_sp (h1 : v 1 * v 1 = v 0 * v 0 * v 0 + 7) (a : Q1) : ∀ q : P2, ∃ r, (∀ k, sPl2 a q k = k r) ∧ eP2 v r = eQ1 v a * eP2 v q
  | [] => ⟨[], fun k => by rw [sPl2], by show (0 : Fin Pp) = _ * 0; rw [m_z]⟩
  | b :: q => by
    obtain ⟨c, hc, ec⟩ := mQ1_sp v h1 a b
    obtain ⟨r, hr, er⟩ := sPl2_sp h1 a q
    obtain ⟨s, hs, es⟩ := cn2_sp v c r
    refine ⟨s, fun k => by rw [sPl2, hc, hr, hs], ?_⟩
    show eP2 v s = eQ1 v a * (eQ1 v b + v 2 * eP2 v q)
    rw [es, ec, er]
    grind
theorem sP2_sp (h1 : v 1 * v 1 = v 0 * v 0 * v 0 + 7) (a : Q1) (q : P2) : ∃ r, (∀ k, sPk2 a q k = k r) ∧ eP2 v r = eQ1 v a * eP2 v q := by
  obtain ⟨c1, c2⟩ := a
  cases c1 with
  | nil => cases c2 with
    | nil => exact ⟨[], fun k => rfl, by show (0 : Fin Pp) = eQ1 v ([], []) * _; rw [eQ1_zero]; simp [z_m]⟩
    | cons u t => exact sPl2_sp v h1 ([], u :: t) q
  | cons u t => exact sPl2_sp v h1 (u :: t, c2) q
theorem mP2_sp (h1 : v 1 * v 1 = v 0 * v 0 * v 0 + 7) : ∀ p q : P2, ∃ r, (∀ k, mPk2 p q k = k r) ∧ eP2 v r = eP2 v p * eP2 v q
  | [], q => ⟨[], fun k => by rw [mPk2], by show (0 : Fin Pp) = 0 * eP2 v q; rw [z_m]⟩
  | a :: p, q => by
    obtain ⟨s, hs, es⟩ := sP2_sp v h1 a q
    obtain ⟨r, hr, er⟩ := mP2_sp h1 p q
    cases r with
    | nil =>
      refine ⟨s, fun k => by rw [mPk2, hs, hr], ?_⟩
      have er' : (0 : Fin Pp) = eP2 v p * eP2 v q := er
      show eP2 v s = (eQ1 v a + v 2 * eP2 v p) * eP2 v q
      rw [es]
      grind
    | cons b t =>
      obtain ⟨u, hu, eu⟩ := aP2_sp v s (([], []) :: b :: t)
      refine ⟨u, fun k => by rw [mPk2, hs, hr]; exact hu k, ?_⟩
      show eP2 v u = (eQ1 v a + v 2 * eP2 v p) * eP2 v q
      rw [eu, es, show eP2 v (([], []) :: b :: t) = eQ1 v ([], []) + v 2 * eP2 v (b :: t) from rfl, er, eQ1_zero]
      grind
theorem nP2_sp : ∀ p : P2, ∃ r, (∀ k, nPk2 p k = k r) ∧ eP2 v r = - eP2 v p
  | [] => ⟨[], fun k => by rw [nPk2], by show (0 : Fin Pp) = - 0; rw [n_z]⟩
  | a :: p => by
    obtain ⟨c, hc, ec⟩ := nQ1_sp v a
    obtain ⟨r, hr, er⟩ := nP2_sp p
    refine ⟨c :: r, fun k => by rw [nPk2, hc, hr], ?_⟩
    show eQ1 v c + v 2 * eP2 v r = - (eQ1 v a + v 2 * eP2 v p)
    rw [ec, er]
    grind
theorem aQ2_sp (p q : Q2) : ∃ r, (∀ k, aQk2 p q k = k r) ∧ eQ2 v r = eQ2 v p + eQ2 v q := by
  obtain ⟨a, b⟩ := p
  obtain ⟨c, d⟩ := q
  obtain ⟨r, hr, er⟩ := aP2_sp v a c
  obtain ⟨s, hs, es⟩ := aP2_sp v b d
  refine ⟨(r, s), fun k => by rw [aQk2]; show aPk2 a c _ = _; rw [hr, hs], ?_⟩
  show eP2 v r + v 3 * eP2 v s = (eP2 v a + v 3 * eP2 v b) + (eP2 v c + v 3 * eP2 v d)
  rw [er, es]
  grind
theorem nQ2_sp (p : Q2) : ∃ r, (∀ k, nQk2 p k = k r) ∧ eQ2 v r = - eQ2 v p := by
  obtain ⟨a, b⟩ := p
  obtain ⟨r, hr, er⟩ := nP2_sp v a
  obtain ⟨s, hs, es⟩ := nP2_sp v b
  refine ⟨(r, s), fun k => by rw [nQk2]; show nPk2 a _ = _; rw [hr, hs], ?_⟩
  show eP2 v r + v 3 * eP2 v s = - (eP2 v a + v 3 * eP2 v b)
  rw [er, es]
  grind
theorem mQ2_sp (h1 : v 1 * v 1 = v 0 * v 0 * v 0 + 7) (h2 : v 3 * v 3 = v 2 * v 2 * v 2 + 7) (p q : Q2) : ∃ r, (∀ k, mQk2 p q k = k r) ∧ eQ2 v r = eQ2 v p * eQ2 v q := by
  obtain ⟨a, b⟩ := p
  obtain ⟨c, d⟩ := q
  obtain ⟨bd, g1, e1⟩ := mP2_sp v h1 b d
  obtain ⟨e, g2, e2⟩ := mP2_sp v h1 bd cub2
  obtain ⟨ac, g3, e3⟩ := mP2_sp v h1 a c
  obtain ⟨r, g4, e4⟩ := aP2_sp v ac e
  obtain ⟨ad, g5, e5⟩ := mP2_sp v h1 a d
  obtain ⟨bc, g6, e6⟩ := mP2_sp v h1 b c
  obtain ⟨s, g7, e7⟩ := aP2_sp v ad bc
  refine ⟨(r, s), fun k => by rw [mQk2]; show mPk2 b d _ = _; rw [g1, g2, g3, g4, g5, g6, g7], ?_⟩
  show eP2 v r + v 3 * eP2 v s = (eP2 v a + v 3 * eP2 v b) * (eP2 v c + v 3 * eP2 v d)
  rw [e4, e3, e2, e1, cub2_ev, e7, e5, e6]
  generalize eP2 v a = ta
  generalize eP2 v b = tb
  generalize eP2 v c = tc
  generalize eP2 v d = td
  generalize v 2 = tx at *
  generalize v 3 = ty at *
  grind
theorem qP2_ev : ∀ p q : P2, qP2 p q = true → eP2 v p = eP2 v q
  | [], [], _ => rfl
  | [], _ :: _, h => by rw [qP2] at h; cases h; all_goals (intros; contradiction)
  | _ :: _, [], h => by rw [qP2] at h; cases h; all_goals (intros; contradiction)
  | a :: p, b :: q, h => by
    rw [qP2] at h
    split at h
    · next e =>
      show eQ1 v a + v 2 * eP2 v p = eQ1 v b + v 2 * eP2 v q
      rw [qP2_ev p q h, qQ1_ev v a b e]
    · cases h
theorem qQ2_ev (p q : Q2) (h : qQ2 p q = true) : eQ2 v p = eQ2 v q := by
  rw [qQ2] at h
  split at h
  · next e => unfold eQ2; rw [qP2_ev v _ _ e, qP2_ev v _ _ h]
  · cases h
end

abbrev P3 : Type := List Q2
abbrev Q3 : Type := P3 × P3
def cn3 (c : Q2) (r : P3) (k : P3 → Bool) : Bool :=
  match r with
  | [] => match c with | ([], []) => k [] | (u :: t, d) => k [(u :: t, d)] | ([], u :: t) => k [([], u :: t)]
  | a :: q => k (c :: a :: q)
def aPk3 : P3 → P3 → (P3 → Bool) → Bool
  | [], q, k => k q
  | a :: p, [], k => k (a :: p)
  | a :: p, b :: q, k => aQk2 a b fun c => aPk3 p q fun r => cn3 c r k
def sPl3 (a : Q2) : P3 → (P3 → Bool) → Bool
  | [], k => k []
  | b :: q, k => mQk2 a b fun c => sPl3 a q fun r => cn3 c r k
def sPk3 (a : Q2) (q : P3) (k : P3 → Bool) : Bool := match a with | ([], []) => k [] | (u :: t, d) => sPl3 (u :: t, d) q k | ([], u :: t) => sPl3 ([], u :: t) q k
def mPk3 : P3 → P3 → (P3 → Bool) → Bool
  | [], _, k => k []
  | a :: p, q, k => sPk3 a q fun s => mPk3 p q fun r => match r with | [] => k s | b :: t => aPk3 s (([], []) :: b :: t) k
def nPk3 : P3 → (P3 → Bool) → Bool
  | [], k => k []
  | a :: p, k => nQk2 a fun c => nPk3 p fun r => k (c :: r)
def cub3 : P3 := [k2 7, ([], []), ([], []), k2 1]
def aQk3 (p q : Q3) (k : Q3 → Bool) : Bool := match p, q with | (a, b), (c, d) => aPk3 a c fun r => aPk3 b d fun s => k (r, s)
def nQk3 (p : Q3) (k : Q3 → Bool) : Bool := match p with | (a, b) => nPk3 a fun r => nPk3 b fun s => k (r, s)
def mQk3 (p q : Q3) (k : Q3 → Bool) : Bool :=
  match p, q with
  | (a, b), (c, d) => mPk3 b d fun bd => mPk3 bd cub3 fun e => mPk3 a c fun ac => aPk3 ac e fun r => mPk3 a d fun ad => mPk3 b c fun bc => aPk3 ad bc fun s => k (r, s)
def k3 (n : Nat) : Q3 := ([k2 n], [])
def qP3 : P3 → P3 → Bool
  | [], [] => true
  | a :: p, b :: q => match qQ2 a b with | true => qP3 p q | false => false
  | _, _ => false
def qQ3 (p q : Q3) : Bool := match qP3 p.1 q.1 with | true => qP3 p.2 q.2 | false => false
section
variable [NeZero Pp] (v : Nat → Fin Pp)
def eP3 : P3 → Fin Pp
  | [] => 0
  | a :: p => eQ2 v a + v 4 * eP3 p
def eQ3 (p : Q3) : Fin Pp := eP3 v p.1 + v 5 * eP3 v p.2
theorem eQ3_zero : eQ3 v ([], []) = 0 := by show (0 : Fin Pp) + v 5 * 0 = 0; rw [m_z, Fin.add_zero]
theorem k3_ev (n : Nat) : eQ3 v (k3 n) = cf n := by show eQ2 v (k2 n) + v 4 * 0 + v 5 * 0 = cf n; rw [k2_ev]; grind
theorem cub3_ev : eP3 v cub3 = v 4 * v 4 * v 4 + 7 := by show eQ2 v (k2 7) + v 4 * (eQ2 v ([], []) + v 4 * (eQ2 v ([], []) + v 4 * (eQ2 v (k2 1) + v 4 * 0))) = v 4 * v 4 * v 4 + 7; rw [k2_ev, k2_ev, eQ2_zero, cf_one, cf_seven]; grind
theorem cn3_sp (c : Q2) (r : P3) : ∃ s, (∀ k, cn3 c r k = k s) ∧ eP3 v s = eQ2 v c + v 4 * eP3 v r := by
  cases r with
  | nil =>
    obtain ⟨c1, c2⟩ := c
    cases c1 with
    | nil => cases c2 with
      | nil => exact ⟨[], fun k => rfl, by show (0 : Fin Pp) = eQ2 v ([], []) + v 4 * 0; rw [eQ2_zero]; simp [m_z]⟩
      | cons u t => exact ⟨[([], u :: t)], fun k => rfl, rfl⟩
    | cons u t => exact ⟨[(u :: t, c2)], fun k => rfl, rfl⟩
  | cons a q => exact ⟨c :: a :: q, fun k => rfl, rfl⟩
theorem aP3_sp : ∀ p q : P3, ∃ r, (∀ k, aPk3 p q k = k r) ∧ eP3 v r = eP3 v p + eP3 v q
  | [], q => ⟨q, fun k => by rw [aPk3], by show eP3 v q = 0 + eP3 v q; grind⟩
  | a :: p, [] => ⟨a :: p, fun k => by rw [aPk3], by show eP3 v (a :: p) = eP3 v (a :: p) + 0; grind⟩
  | a :: p, b :: q => by
    obtain ⟨c, hc, ec⟩ := aQ2_sp v a b
    obtain ⟨r, hr, er⟩ := aP3_sp p q
    obtain ⟨s, hs, es⟩ := cn3_sp v c r
    refine ⟨s, fun k => by rw [aPk3, hc, hr, hs], ?_⟩
    show eP3 v s = (eQ2 v a + v 4 * eP3 v p) + (eQ2 v b + v 4 * eP3 v q)
    rw [es, ec, er]
    grind
theorem sPl3_sp (h1 : v 1 * v 1 = v 0 * v 0 * v 0 + 7) (h2 : v 3 * v 3 = v 2 * v 2 * v 2 + 7) (a : Q2) : ∀ q : P3, ∃ r, (∀ k, sPl3 a q k = k r) ∧ eP3 v r = eQ2 v a * eP3 v q
  | [] => ⟨[], fun k => by rw [sPl3], by show (0 : Fin Pp) = _ * 0; rw [m_z]⟩
  | b :: q => by
    obtain ⟨c, hc, ec⟩ := mQ2_sp v h1 h2 a b
    obtain ⟨r, hr, er⟩ := sPl3_sp h1 h2 a q
    obtain ⟨s, hs, es⟩ := cn3_sp v c r
    refine ⟨s, fun k => by rw [sPl3, hc, hr, hs], ?_⟩
    show eP3 v s = eQ2 v a * (eQ2 v b + v 4 * eP3 v q)
    rw [es, ec, er]
    grind
theorem sP3_sp (h1 : v 1 * v 1 = v 0 * v 0 * v 0 + 7) (h2 : v 3 * v 3 = v 2 * v 2 * v 2 + 7) (a : Q2) (q : P3) : ∃ r, (∀ k, sPk3 a q k = k r) ∧ eP3 v r = eQ2 v a * eP3 v q := by
  obtain ⟨c1, c2⟩ := a
  cases c1 with
  | nil => cases c2 with
    | nil => exact ⟨[], fun k => rfl, by show (0 : Fin Pp) = eQ2 v ([], []) * _; rw [eQ2_zero]; simp [z_m]⟩
    | cons u t => exact sPl3_sp v h1 h2 ([], u :: t) q
  | cons u t => exact sPl3_sp v h1 h2 (u :: t, c2) q
theorem mP3_sp (h1 : v 1 * v 1 = v 0 * v 0 * v 0 + 7) (h2 : v 3 * v 3 = v 2 * v 2 * v 2 + 7) : ∀ p q : P3, ∃ r, (∀ k, mPk3 p q k = k r) ∧ eP3 v r = eP3 v p * eP3 v q
  | [], q => ⟨[], fun k => by rw [mPk3], by show (0 : Fin Pp) = 0 * eP3 v q; rw [z_m]⟩
  | a :: p, q => by
    obtain ⟨s, hs, es⟩ := sP3_sp v h1 h2 a q
    obtain ⟨r, hr, er⟩ := mP3_sp h1 h2 p q
    cases r with
    | nil =>
      refine ⟨s, fun k => by rw [mPk3, hs, hr], ?_⟩
      have er' : (0 : Fin Pp) = eP3 v p * eP3 v q := er
      show eP3 v s = (eQ2 v a + v 4 * eP3 v p) * eP3 v q
      rw [es]
      grind
    | cons b t =>
      obtain ⟨u, hu, eu⟩ := aP3_sp v s (([], []) :: b :: t)
      refine ⟨u, fun k => by rw [mPk3, hs, hr]; exact hu k, ?_⟩
      show eP3 v u = (eQ2 v a + v 4 * eP3 v p) * eP3 v q
      rw [eu, es, show eP3 v (([], []) :: b :: t) = eQ2 v ([], []) + v 4 * eP3 v (b :: t) from rfl, er, eQ2_zero]
      grind
theorem nP3_sp : ∀ p : P3, ∃ r, (∀ k, nPk3 p k = k r) ∧ eP3 v r = - eP3 v p
  | [] => ⟨[], fun k => by rw [nPk3], by show (0 : Fin Pp) = - 0; rw [n_z]⟩
  | a :: p => by
    obtain ⟨c, hc, ec⟩ := nQ2_sp v a
    obtain ⟨r, hr, er⟩ := nP3_sp p
    refine ⟨c :: r, fun k => by rw [nPk3, hc, hr], ?_⟩
    show eQ2 v c + v 4 * eP3 v r = - (eQ2 v a + v 4 * eP3 v p)
    rw [ec, er]
    grind
theorem aQ3_sp (p q : Q3) : ∃ r, (∀ k, aQk3 p q k = k r) ∧ eQ3 v r = eQ3 v p + eQ3 v q := by
  obtain ⟨a, b⟩ := p
  obtain ⟨c, d⟩ := q
  obtain ⟨r, hr, er⟩ := aP3_sp v a c
  obtain ⟨s, hs, es⟩ := aP3_sp v b d
  refine ⟨(r, s), fun k => by rw [aQk3]; show aPk3 a c _ = _; rw [hr, hs], ?_⟩
  show eP3 v r + v 5 * eP3 v s = (eP3 v a + v 5 * eP3 v b) + (eP3 v c + v 5 * eP3 v d)
  rw [er, es]
  grind
theorem nQ3_sp (p : Q3) : ∃ r, (∀ k, nQk3 p k = k r) ∧ eQ3 v r = - eQ3 v p := by
  obtain ⟨a, b⟩ := p
  obtain ⟨r, hr, er⟩ := nP3_sp v a
  obtain ⟨s, hs, es⟩ := nP3_sp v b
  refine ⟨(r, s), fun k => by rw [nQk3]; show nPk3 a _ = _; rw [hr, hs], ?_⟩
  show eP3 v r + v 5 * eP3 v s = - (eP3 v a + v 5 * eP3 v b)
  rw [er, es]
  grind
theorem mQ3_sp (h1 : v 1 * v 1 = v 0 * v 0 * v 0 + 7) (h2 : v 3 * v 3 = v 2 * v 2 * v 2 + 7) (h3 : v 5 * v 5 = v 4 * v 4 * v 4 + 7) (p q : Q3) : ∃ r, (∀ k, mQk3 p q k = k r) ∧ eQ3 v r = eQ3 v p * eQ3 v q := by
  obtain ⟨a, b⟩ := p
  obtain ⟨c, d⟩ := q
  obtain ⟨bd, g1, e1⟩ := mP3_sp v h1 h2 b d
  obtain ⟨e, g2, e2⟩ := mP3_sp v h1 h2 bd cub3
  obtain ⟨ac, g3, e3⟩ := mP3_sp v h1 h2 a c
  obtain ⟨r, g4, e4⟩ := aP3_sp v ac e
  obtain ⟨ad, g5, e5⟩ := mP3_sp v h1 h2 a d
  obtain ⟨bc, g6, e6⟩ := mP3_sp v h1 h2 b c
  obtain ⟨s, g7, e7⟩ := aP3_sp v ad bc
  refine ⟨(r, s), fun k => by rw [mQk3]; show mPk3 b d _ = _; rw [g1, g2, g3, g4, g5, g6, g7], ?_⟩
  show eP3 v r + v 5 * eP3 v s = (eP3 v a + v 5 * eP3 v b) * (eP3 v c + v 5 * eP3 v d)
  rw [e4, e3, e2, e1, cub3_ev, e7, e5, e6]
  generalize eP3 v a = ta
  generalize eP3 v b = tb
  generalize eP3 v c = tc
  generalize eP3 v d = td
  generalize v 4 = tx at *
  generalize v 5 = ty at *
  grind
theorem qP3_ev : ∀ p q : P3, qP3 p q = true → eP3 v p = eP3 v q
  | [], [], _ => rfl
  | [], _ :: _, h => by rw [qP3] at h; cases h; all_goals (intros; contradiction)
  | _ :: _, [], h => by rw [qP3] at h; cases h; all_goals (intros; contradiction)
  | a :: p, b :: q, h => by
    rw [qP3] at h
    split at h
    · next e =>
      show eQ2 v a + v 4 * eP3 v p = eQ2 v b + v 4 * eP3 v q
      rw [qP3_ev p q h, qQ2_ev v a b e]
    · cases h
theorem qQ3_ev (p q : Q3) (h : qQ3 p q = true) : eQ3 v p = eQ3 v q := by
  rw [qQ3] at h
  split at h
  · next e => unfold eQ3; rw [qP3_ev v _ _ e, qP3_ev v _ _ h]
  · cases h
end
end Go.Proofs.YtpdoonofipcbeaaDoor
