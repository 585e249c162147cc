/- Out of Vh. -/
import Derived.Test.YthkpgfbjdabflaaGreatDoorKrVg
namespace Go.Proofs.YthkpgfbjdabflaaGreatDoor
open Go.RowKit Go.Sort
set_option linter.unusedVariables false
set_option maxRecDepth 100000
set_option maxHeartbeats 4000000
def mF (n : Nat) : Nat := if n < 12 then 165 + n else if n < 30 then 177 + (n - 16) else if n = 32 then 191 else if n < 58 then 192 + (n - 53) else if n < 84 then 197 + (n - 80) else if n < 92 then 201 + (n - 86) else if n < 128 then 135 else if n < 144 then 136 else if n < 160 then 137 else if n = 243 then 138 else 139
def qF (i j : Nat) : Fa Tryz.prog (fun _ => True) := bO .eql 5 (run_eql8 (x := i) (y := j) (b := decide ((i : Int) = j)) rfl)
def lF (i j : Nat) : Fa Tryz.prog (fun _ => True) := bO .leq 5 (run_leq8 (x := i) (y := j) (b := decide ((i : Int) ≤ j)) rfl)
def gF (n j : Nat) (h : j < n) : Fa Tryz.prog (fun _ => True) := bO .leq 5 (run_leq8 (x := n) (y := j) (b := false) (decide_eq_false (by omega)))
def eF (n j : Nat) (h : n ≤ j) : Fa Tryz.prog (fun _ => True) := bO .leq 5 (run_leq8 (x := n) (y := j) (b := true) (decide_eq_true (by omega)))
def tbs (k : Nat) : List Nat := if k = 131 then List.range 12 else if k = 132 then List.range' 16 14 else if k = 133 then [32, 53, 54, 55, 56, 57] else [80, 81, 82, 83, 86, 87, 88, 89, 90, 91]
def tF (k n : Nat) : List (Fa Tryz.prog (fun _ => True)) := ((tbs k).filter (· ≤ n)).map (qF n)
def uF (k n : Nat) : List (Fa Tryz.prog (fun _ => True)) := ([(131, 11), (132, 29), (133, 57), (134, 91)].filter (·.1 ≤ k)).map (fun p => lF n p.2)
theorem tbX (k n m : Nat) {F : Func} (hF : Tryz.prog.funcs[k]? = some F) (h1 : F.body.isSome = true := by kernel_rfl) (h2 : (rn Tryz.prog (tF k n) (cfF F #[b8 n])).2.2.map (·.1) = (rn Tryz.prog (tF k n) (cfF F #[b8 n])).2.2.map (·.2) := by kernel_rfl) (h3 : mfX (rn Tryz.prog (tF k n) (cfF F #[b8 n])).1 = some (.func m, []) := by kernel_rfl)
    (h4 : (r0 Tryz.prog (nxtQ (rn Tryz.prog (tF k n) (cfF F #[b8 n])).1 (fnV m))).2.2.map (·.1) = (r0 Tryz.prog (nxtQ (rn Tryz.prog (tF k n) (cfF F #[b8 n])).1 (fnV m))).2.2.map (·.2) := by kernel_rfl) (h5 : resX Tryz.prog F ((r0 Tryz.prog (nxtQ (rn Tryz.prog (tF k n) (cfF F #[b8 n])).1 (fnV m))).1.tm, (r0 Tryz.prog (nxtQ (rn Tryz.prog (tF k n) (cfF F #[b8 n])).1 (fnV m))).1.rows, (r0 Tryz.prog (nxtQ (rn Tryz.prog (tF k n) (cfF F #[b8 n])).1 (fnV m))).1.nx) = some (fnV m) := by kernel_rfl) (h6 : (r0 Tryz.prog (nxtQ (rn Tryz.prog (tF k n) (cfF F #[b8 n])).1 (fnV m))).1.dn = some .ret := by kernel_rfl) : ∀ w, Calls Tryz.prog k #[b8 n] w fun e w' => e = .returned (fnV m) ∧ Below w.heap.size w w' := by
  intro w
  refine inQ (J := Below w.heap.size w) (F := (· < w.heap.size)) hF (Below.refl _ _) (fun a I => ?_) h1
  refine goQ (tF k n) (nonR w) I (fun β a w1 I1 hb => ?_) (he := h2)
  refine mkfX (fn := .func m) (ss := []) I1 ?_ h3
  refine goQ [] (nonR w) (I1.same (fnV m)) (fun β2 a2 w2 I2 hb2 => ?_) (he := h4)
  exact outQ (v := fnV m) I2 ⟨rfl, I2.hJ⟩ h5 (.inl h6)
theorem opX (k n m : Nat) {F : Func} (hF : Tryz.prog.funcs[k]? = some F) (ht : ∀ w, Calls Tryz.prog k #[b8 n] w fun e w' => e = .returned (fnV m) ∧ Below w.heap.size w w') (hB : F.body.isNone = false := by kernel_rfl) (hN : (F.name == "runtime.NumGoroutine") = false := by kernel_rfl) (h2 : (rn Tryz.prog (uF k n ++ [kC hF ht hB hN]) (cfF Tryz.f106 #[b8 n])).2.2.map (·.1) = (rn Tryz.prog (uF k n ++ [kC hF ht hB hN]) (cfF Tryz.f106 #[b8 n])).2.2.map (·.2) := by kernel_rfl)
    (h5 : resX Tryz.prog Tryz.f106 ((rn Tryz.prog (uF k n ++ [kC hF ht hB hN]) (cfF Tryz.f106 #[b8 n])).1.tm, (rn Tryz.prog (uF k n ++ [kC hF ht hB hN]) (cfF Tryz.f106 #[b8 n])).1.rows, (rn Tryz.prog (uF k n ++ [kC hF ht hB hN]) (cfF Tryz.f106 #[b8 n])).1.nx) = some (fnV m) := by kernel_rfl) (h6 : (rn Tryz.prog (uF k n ++ [kC hF ht hB hN]) (cfF Tryz.f106 #[b8 n])).1.dn = some .ret := by kernel_rfl) : ∀ w, Calls Tryz.prog 106 #[b8 n] w fun e w' => e = .returned (fnV m) ∧ Below w.heap.size w w' := by
  intro w
  refine inQ (J := Below w.heap.size w) (F := (· < w.heap.size)) Tryz.func106 (Below.refl _ _) fun a I => ?_
  refine goQ (uF k n ++ [kC hF ht hB hN]) (nonR w) I (fun β a w1 I1 hb => ?_) (he := h2)
  exact outQ (v := fnV m) I1 ⟨rfl, I1.hJ⟩ h5 (.inl h6)
theorem ope_r0 (n : Nat) (h1 : 95 ≤ n) (h2 : n ≤ 127) (w : World) : Calls Tryz.prog 106 #[b8 n] w fun e w' => e = .returned (fnV 135) ∧ Below w.heap.size w w' := by
  refine inQ (J := Below w.heap.size w) (F := (· < w.heap.size)) Tryz.func106 (Below.refl _ _) fun a I => ?_
  refine goQ [gF n 11 (by omega), gF n 29 (by omega), gF n 57 (by omega), gF n 91 (by omega), eF 95 n (by omega), eF n 127 (by omega)] (nonR w) I fun β a w1 I1 hb => ?_
  refine mkfX (fn := .func 135) (ss := []) I1 ?_
  refine goQ [] (nonR w) (I1.same (fnV 135)) fun β2 a2 w2 I2 hb2 => ?_
  exact outQ (v := fnV 135) I2 ⟨rfl, I2.hJ⟩
theorem ope_243 (w : World) : Calls Tryz.prog 106 #[b8 243] w fun e w' => e = .returned (fnV 138) ∧ Below w.heap.size w w' := by
  refine inQ (J := Below w.heap.size w) (F := (· < w.heap.size)) Tryz.func106 (Below.refl _ _) fun a I => ?_
  refine goQ [lF 243 11, lF 243 29, lF 243 57, lF 243 91, lF 95 243, lF 243 127, lF 128 243, lF 243 143, lF 144 243, lF 243 159, qF 243 243] (nonR w) I fun β a w1 I1 hb => ?_
  refine mkfX (fn := .func 138) (ss := []) I1 ?_
  refine goQ [] (nonR w) (I1.same (fnV 138)) fun β2 a2 w2 I2 hb2 => ?_
  exact outQ (v := fnV 138) I2 ⟨rfl, I2.hJ⟩
/-- What must hold of a run whose next operation is done. -/
structure Rdy (op : Nat) (f : Fr) : Prop where
  code : f.code.length ≤ 65536
  inp : f.inp.length ≤ 65536
  st : f.st.length ≤ 256
  num : ∀ u ∈ f.st, u < W
  mem : f.mem.length ≤ 1000000
  pc0 : 1 ≤ f.pc
  pc1 : f.pc ≤ 1000000
  gas0 : 0 ≤ f.gas
  gas1 : f.gas ≤ 100000
  tk : (opP op).2.1 ≤ f.st.length
  m1 : op = 32 ∨ op = 243 ∨ op = 253 → tp f.st 1 ≤ 65536
  m2 : op = 55 ∨ op = 57 → tp f.st 2 ≤ 65536 ∧ (tp f.st 2 ≠ 0 → tp f.st 0 ≤ 1000000)
  m3 : op = 82 ∨ op = 83 ∨ op = 86 → tp f.st 0 ≤ 1000000
  m4 : op = 87 → tp f.st 1 ≠ 0 → tp f.st 0 ≤ 1000000
theorem two_of {l : List Nat} (h : 2 ≤ l.length) : ∃ a b s, l = a :: b :: s := by
  rcases l with _ | ⟨a, _ | ⟨b, s⟩⟩
  · simp at h
  · simp at h
  · exact ⟨a, b, s, rfl⟩
theorem Mth.to {fn g : Nat} {xs : List Value} {f f1 f2 : Fr} {op op' : Nat} {pa pa' : Int} {x : Value} (h : Mth fn g xs f op pa x f1 op' pa') (e : f1 = f2) : Mth fn g xs f op pa x f2 op' pa' := e ▸ h
theorem dA {k g op : Nat} {f : Fr} {pa : Int} {F : Func} (hf : Tryz.prog.funcs[k]? = some F) (hm : Mth k g [] f op pa TU0 (doV op f) op pa) (h1 : F.body.isNone = false := by kernel_rfl) (h2 : (F.name == "runtime.NumGoroutine") = false := by kernel_rfl) : ∃ F : Func, Tryz.prog.funcs[k]? = some F ∧ F.body.isNone = false ∧ (F.name == "runtime.NumGoroutine") = false ∧ Mth k g [] f op pa TU0 (doV op f) op pa := ⟨F, hf, h1, h2, hm⟩
theorem do_0 {g : Nat} {f : Fr} {pa : Int} (h : Rdy 0 f) (hpa : pa = f.pc - 1) : Mth 165 g [] f 0 pa TU0 (doV 0 f) 0 pa := by
  obtain ⟨code, inp, st, mem, pc, gas, sd, er, out⟩ := f
  have hst : st.length ≤ 256 := h.st
  exact m_stop.to (by kernel_rfl)
theorem do_82 {g : Nat} {f : Fr} {pa : Int} (h : Rdy 82 f) (hpa : pa = f.pc - 1) : Mth 199 g [] f 82 pa TU0 (doV 82 f) 82 pa := by
  obtain ⟨code, inp, st, mem, pc, gas, sd, er, out⟩ := f
  have hst : st.length ≤ 256 := h.st
  obtain ⟨a, b, s, rfl⟩ := two_of (show 2 ≤ st.length from h.tk)
  exact (m_store rfl (h.num a (by simp)) (h.num b (by simp)) (Nat.le_trans hst (by decide)) (h.m3 (.inl rfl)) h.mem).to (by kernel_rfl)
theorem do_243 {g : Nat} {f : Fr} {pa : Int} (h : Rdy 243 f) (hpa : pa = f.pc - 1) : Mth 138 g [] f 243 pa TU0 (doV 243 f) 243 pa := by
  obtain ⟨code, inp, st, mem, pc, gas, sd, er, out⟩ := f
  have hst : st.length ≤ 256 := h.st
  obtain ⟨a, b, s, rfl⟩ := two_of (show 2 ≤ st.length from h.tk)
  exact (m_out rfl (h.num a (by simp)) (h.num b (by simp)) (Nat.le_trans hst (by decide)) h.mem (h.m1 (.inr (.inl rfl)))).to (by kernel_rfl)
theorem do_r0 {g : Nat} {f : Fr} {op : Nat} {pa : Int} (h1 : 95 ≤ op) (h2 : op ≤ 127) (h : Rdy op f) : Mth 135 g [] f op pa TU0 (doV op f) op pa := by
  refine (m_push h1 (by omega) (Nat.le_trans h.code (by decide)) (Int.le_trans (by decide) h.pc0) h.pc1 (Nat.le_trans h.st (by decide))).to ?_
  unfold doV
  repeat rw [if_neg (by omega)]
  rw [if_pos (by omega)]
end Go.Proofs.YthkpgfbjdabflaaGreatDoor
