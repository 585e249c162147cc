/- The program's search: closures, sort.Find, place, find. -/
import Derived.Test.YtpjplicioidknaaJf
namespace Go.Proofs.Ytpjplicioidknaa
open Go.RowKit Go.Sort
set_option linter.unusedVariables false
set_option maxRecDepth 100000
abbrev clV (g : Nat) : Value := .func (.func 40) #[] #[ptr0 g]
abbrev plV (gf gl : Nat) : Value := .func (.func 45) #[] #[ptr0 gf, ptr0 gl]
abbrev skR (k : Kk) : Array Value := (co6 (k.1, k.2, 0)).toArray
theorem clo_any {w : World} {g : Nat} {k : Kk} (hr : HasRow w g (skR k)) (c : Co) : Calls Try.prog 40 #[coV c, ptr0 g] w fun e w' => e = .returned (Z (cmK k (ky c))) ∧ Below w.heap.size w w' := by
  have hO := order_any (k.1, k.2, 0) c
  have hk : cmK (ky (k.1, k.2, 0)) (ky c) = cmK k (ky c) := rfl
  rw [hk] at hO
  generalize cmK k (ky c) = z at *
  have hld : ∀ w', Below w.heap.size w w' → (loadVar 41 ⟨g, 0, none⟩).run Try.prog w' = .ok (coV (k.1, k.2, 0)) w' := fun w' hb => loadCo (fun j u hu => by
    have := (hr.below hb).cell 0
    rw [(hr.below hb).cell]
    simpa using hu)
  obtain ⟨x, y, n⟩ := c
  unfold coV co6 at *
  simp only [] at *
  generalize l0 n = n0 at *
  generalize l1 n = n1 at *
  generalize l2 n = n2 at *
  generalize l3 n = n3 at *
  refine inQ (J := Below w.heap.size w) (F := (· < w.heap.size)) Try.func40 (Below.refl _ _) fun a I => ?_
  refine goT (T := Below w.heap.size w) [ldA 41 hld, kC Try.func38 hO] (nonR w) (fun _ h => h) I fun β a w1 I hb => ?_
  exact outQ (v := Z z) I ⟨rfl, I.hJ⟩
theorem pla_any {w : World} {g gf gl : Nat} {k : Kk} {v : Value} {l : List Co} (hr : HasRow w g (skR k)) (hf : HasRow w gf #[clV g]) (hs : HasRow w gl #[v]) (h : CoI w v l) {i : Nat} {c : Co} (hc : l[i]? = some c) : Calls Try.prog 45 #[Z i, ptr0 gf, ptr0 gl] w fun e w' => e = .returned (Z (cmK k (ky c))) ∧ Below w.heap.size w w' := by
  have hil := (List.getElem?_eq_some_iff.1 hc).1
  have hC : ∀ w', Below w.heap.size w w' → Calls Try.prog 40 #[coV c, ptr0 g] w' fun e w'' => e = .returned (Z (cmK k (ky c))) ∧ Below w'.heap.size w' w'' := fun w' hb => clo_any (hr.below hb) c
  generalize cmK k (ky c) = z at *
  obtain ⟨ad, cap, rfl, hm⟩ := h
  obtain ⟨ga, off, cs, rfl, hlt, hca, rfl, ham⟩ := hm i _ hc
  have hl1 : ∀ w', Below w.heap.size w w' → (loadVar 58 ⟨gf, 0, none⟩).run Try.prog w' = .ok (clV g) w' := fun w' hb => load1 (o := 0) (cs := [clV g]) (fun j u hu => by rw [(hf.below hb).cell]; simpa using hu) 0 rfl 58 Try.underlying58 rfl
  have hl2 : ∀ w', Below w.heap.size w w' → (loadVar 22 ⟨gl, 0, none⟩).run Try.prog w' = .ok (.slice (some ⟨ga, off, none⟩) l.length cap) w' := fun w' hb => load1 (o := 0) (cs := [.slice (some ⟨ga, off, none⟩) l.length cap]) (fun j u hu => by rw [(hs.below hb).cell]; simpa using hu) 0 rfl 22 Try.underlying22 rfl
  have hl3 : ∀ w', Below w.heap.size w w' → (loadVar 41 ⟨ga, off + i * 6, none⟩).run Try.prog w' = .ok (coV c) w' := fun w' hb => loadCo (hca.keep (hb.block ga hlt))
  refine inQ (J := Below w.heap.size w) (F := (· < w.heap.size)) Try.func45 (Below.refl _ _) fun a I => ?_
  refine goQ [] (nonR w) I fun β a w1 I hb => ?_
  have hsz1 : a.tmps.size = 11 := by rw [I.fr]; kernel_rfl
  have hbw := I.hJ
  refine dwS (T := Below w.heap.size w) [(5, some (Z z))] [ldA 58 hl1, ldA 22 hl2, ixC ga off l.length cap i hil, ldA 41 hl3] (fun i v w' => True) (fun i v w' w'' h hb => trivial) (nonR w) (fun _ h => h) I ?_ ?_
  · intro p hp o ho listed vs a' w' hF hrd hb2 hV hev
    simp only [List.mem_cons, List.not_mem_nil, or_false] at hp
    subst hp
    obtain ⟨h1, h2, h3⟩ := opD_get (x := .call ⟨.value (.tmp 5), #[.tmp 9], #[41]⟩) (d := some 10) ho (by kernel_rfl)
    have e5 : a'.eval (.tmp 5) = clV g := hev (.tmp 5) (Sum.inl (clV g)) (by kernel_rfl)
    have e9 : a'.eval (.tmp 9) = coV c := hev (.tmp 9) (Sum.inl (coV c)) (by kernel_rfl)
    refine wpG_plain h3 (wp_callG (f := 40) (args := #[coV c, ptr0 g]) (by rw [call_run h1 Try.func40 e5]; simp only [List.map_toArray, List.map_cons, List.map_nil, e9]; rfl) ((hC w' (hbw.trans (hb2.mono hbw.size))).mono fun e w6 he => ?_))
    obtain ⟨rfl, hb6⟩ := he
    exact ⟨_, rfl, _, rfl, fun u hu => (by cases hu; rfl), trivial, hb6⟩
  · intro vs a2 w2 hV I
    refine goQ [] (nonR w) I fun β3 a w3 I hb3 => ?_
    exact outQ (v := Z z) I ⟨rfl, I.hJ⟩
theorem cv_iu (n : Nat) (h : n < 9223372036854775808) (w : World) : (convert 3 67 (Z n)).run Try.prog w = .ok (.int .u64 n) w := by
  have e : IntKind.u64.wrap (n : Int) = n := by rw [IntKind.wrap_u64]; omega
  simp [go_sem, e]
theorem cv_ui (n : Nat) (h : n < 9223372036854775808) (w : World) : (convert 67 3 (.int .u64 n)).run Try.prog w = .ok (Z n) w := by
  have e : IntKind.i64.wrap (n : Int) = n := by rw [IntKind.wrap_i64]; omega
  simp [go_sem, e]
theorem shr1_run (n : Nat) (h : n < 9223372036854775808) (x y : Operand) (w : World) : (do eqGuard .shr 67 x y (.int .u64 n) (.int .u64 1); binOp .shr 67 (.int .u64 n) (.int .u64 1) : Sem Value).run Try.prog w = .ok (.int .u64 (n / 2 : Nat)) w := by
  simp [go_sem]
abbrev sfK : List Nat := [0, 1, 4, 5, 6]
abbrev sfV (n : Nat) (f : Value) (i j : Nat) : Vs := frm 35 [(0, Sum.inl (Z n)), (1, Sum.inl f), (4, Sum.inl (Z i)), (5, Sum.inl (.bool false)), (6, Sum.inl (Z j))]
/-- sort.Find over a list that rises. -/
theorem sfind_any {w : World} {gf gl n p : Nat} {f : Nat → Int} (hn : n < 1000000000) (hp : p ≤ n) (hlo : ∀ i, i < p → 0 < f i) (hhi : ∀ i, p ≤ i → i < n → f i ≤ 0)
    (hC : ∀ i, i < n → ∀ w', Below w.heap.size w w' → Calls Try.prog 45 #[Z i, ptr0 gf, ptr0 gl] w' fun e w'' => e = .returned (Z (f i)) ∧ Below w'.heap.size w' w'') :
    Calls Try.prog 44 #[Z n, plV gf gl] w fun e w' => e = .returned (.tuple #[Z p, .bool (decide (p < n) && decide (f p = 0))]) ∧ Below w.heap.size w w' := by
  refine inQ (J := Below w.heap.size w) (F := (· < w.heap.size)) Try.func44 (Below.refl _ _) fun a I => ?_
  refine goQ [] (nonR w) I fun β a w1 I hb => ?_
  refine lpM (bodyL Try.f44) (fun k a w' => ∃ (i j : Nat) (β : Nat → Nat) (u : Nat → Value), k = j - i ∧ i ≤ p ∧ p ≤ j ∧ j ≤ n ∧ SI (Below w.heap.size w) (· < w.heap.size) [] β (cfC (bodyL Try.f44) (fillF (scrF 35 sfK) u 0 (sfV n (plV gf gl) i j)) [] 0) a w') n ?_ ?_
  · obtain ⟨u, Iu⟩ := I.scr (bodyL Try.f44) (scrF 35 sfK) (sfV n (plV gf gl) 0 n) [] 0
    exact ⟨0, n, β, u, by omega, Nat.zero_le _, hp, Nat.le_refl _, Iu⟩
  rintro k a3 w3 ⟨i, j, β3, u, rfl, hi, hj, hjn, I⟩
  refine wp_cfC (tm := fillF (scrF 35 sfK) u 0 (sfV n (plV gf gl) i j)) (rows := []) (nx := 0) ?_
  rcases Nat.lt_or_ge i j with hij | hij
  · obtain ⟨m, hm⟩ : ∃ m, (i + j) / 2 = m := ⟨_, rfl⟩
    have hmn : m < n := by omega
    have hsh := shr1_run (i + j) (by omega)
    have hcu := cv_ui ((i + j) / 2) (by omega)
    have hci := cv_iu (i + j) (by omega)
    rw [hm] at hsh hcu
    have hCm := hC m hmn
    have hlo' := hlo m
    have hhi' := hhi m
    obtain ⟨s, hs⟩ : ∃ s, i + j = s := ⟨_, rfl⟩
    have hadd : IntKind.i64.wrap ((i : Int) + (j : Int)) = (s : Int) := by rw [wz (by omega) (by omega)]; omega
    rw [hs] at hsh hci
    generalize f m = z at *
    refine goQ [lT i j (by omega), bO .add 3 (run_addZ (x := i) (y := j) (z := s) hadd), vO 3 67 hci, bO .shr 67 hsh, vO 67 3 hcu] (nonR w) I fun β4 a4 w4 I hb4 => ?_
    refine inY I fun I => ?_
    refine goQ [] (nonR w) I fun β5 a5 w5 I hb5 => ?_
    refine bcallX [Sum.inl (Z m), Sum.inl (ptr0 gf), Sum.inl (ptr0 gl)] Try.func45 (nonR w) I (fun v => v = Z z) ((hCm w5 I.hJ).mono fun e w' he => ⟨he.2, _, he.1, rfl⟩) fun v w6 hv I => ?_
    subst hv
    by_cases hz : 0 < z
    · refine goQ [bO .gtr 3 (run_gtrZ (x := z) (y := 0) (b := true) (decide_eq_true hz)), p1 m (by omega)] (nonR w) I fun β7 a7 w7 I hb7 => ?_
      obtain ⟨u', Iu⟩ := I.scr (bodyL Try.f44) (scrF 35 sfK) (sfV n (plV gf gl) (m + 1) j) [] 0
      have : m < p := by
        rcases Nat.lt_or_ge m p with h | h
        · exact h
        · have := hhi' h hmn; omega
      exact endL ⟨j - (m + 1), by omega, m + 1, j, β7, u', rfl, by omega, hj, hjn, Iu⟩
    · refine goQ [bO .gtr 3 (run_gtrZ (x := z) (y := 0) (b := false) (decide_eq_false hz))] (nonR w) I fun β7 a7 w7 I hb7 => ?_
      obtain ⟨u', Iu⟩ := I.scr (bodyL Try.f44) (scrF 35 sfK) (sfV n (plV gf gl) i m) [] 0
      have : p ≤ m := by
        rcases Nat.lt_or_ge m p with h | h
        · exact absurd (hlo' h) hz
        · exact h
      exact endL ⟨m - i, by omega, i, m, β7, u', rfl, hi, this, by omega, Iu⟩
  · obtain rfl : i = p := by omega
    obtain rfl : j = i := by omega
    refine goQ [lF j j (by omega)] (nonR w) I fun β4 a4 w4 I hb4 => ?_
    refine endE 0 ?_
    refine goQ [] (nonR w) (I.exit _) fun β5 a5 w5 I hb5 => ?_
    refine inY I fun I => ?_
    rcases Nat.lt_or_ge j n with hjl | hjl
    · have hCj := hC j hjl
      rw [decide_eq_true hjl, Bool.true_and]
      generalize f j = z at *
      obtain ⟨q, hq⟩ : ∃ q, decide (z = 0) = q := ⟨_, rfl⟩
      refine goQ [lT j n (by omega)] (nonR w) I fun β6 a6 w6 I hb6 => ?_
      refine bcallX [Sum.inl (Z j), Sum.inl (ptr0 gf), Sum.inl (ptr0 gl)] Try.func45 (nonR w) I (fun v => v = Z z) ((hCj w6 I.hJ).mono fun e w' he => ⟨he.2, _, he.1, rfl⟩) fun v w7 hv I => ?_
      subst hv
      rw [hq]
      refine goQ [bO .eql 3 (run_eqlZ (x := z) (y := 0) (b := q) hq)] (nonR w) I fun β8 a8 w8 I hb8 => ?_
      exact outQ (v := .tuple #[Z j, .bool q]) I ⟨rfl, I.hJ⟩
    · rw [decide_eq_false (by omega : ¬ j < n), Bool.false_and]
      refine goQ [lF j n (by omega)] (nonR w) I fun β6 a6 w6 I hb6 => ?_
      exact outQ (v := .tuple #[Z j, .bool false]) I ⟨rfl, I.hJ⟩
end Go.Proofs.Ytpjplicioidknaa
