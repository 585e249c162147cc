import Derived.Test.YtdlanihbpbfbcaaDoorQa
import Derived.Test.YtdlanihbpbfbcaaDoorQb
import Derived.Laws.BitsLemmas
import Derived.Test.YtdlanihbpbfbcaaDoorHv
import Derived.Test.YtdlanihbpbfbcaaDoorUa
/- Texts in memory; lengths as bytes, of both sides. -/
namespace Go.Proofs.YtdlanihbpbfbcaaDoor
open Go.RowKit Go.Sort
set_option linter.unusedVariables false
set_option maxRecDepth 100000
abbrev w32 (n : Nat) : Value := .int .u32 (n : Int)
theorem wrap32 {n : Int} (h0 : 0 ≤ n) (h : n < 4294967296) : IntKind.u32.wrap n = n := by unfold IntKind.wrap; simp [IntKind.signed, IntKind.bits]; omega
theorem cnvT (n : Nat) (w : World) : (convert 3 5 (Z n)).run Tryd.prog w = .ok (.int .u8 (UInt8.ofNat n).toNat) w := by
  have e : (((UInt8.ofNat n).toNat : Nat) : Int) = (n : Int) % 256 := by rw [UInt8.toNat_ofNat']; omega
  rw [e]
  simp [convert, run_underlying Tryd.underlying5, run_underlying Tryd.underlying3, go_sem, IntKind.wrap, IntKind.signed, IntKind.bits]
theorem shrZ {n k m : Nat} (hk : k < 64) (h : n / 2 ^ k = m) (o1 o2 : Operand) (w : World) : (do eqGuard .shr 3 o1 o2 (Z n) (Z k); binOp .shr 3 (Z n) (Z k) : Sem Value).run Tryd.prog w = .ok (Z m) w := by
  subst h
  simp [go_sem]
theorem shrU {n k m : Nat} (hk : k < 64) (h : n / 2 ^ k = m) (o1 o2 : Operand) (w : World) : (do eqGuard .shr 3 o1 o2 (Z n) (.int .u64 k); binOp .shr 3 (Z n) (.int .u64 k) : Sem Value).run Tryd.prog w = .ok (Z m) w := by
  subst h
  simp [go_sem]
theorem shl32 {n m : Nat} (h : n * 256 = m) (hm : m < 4294967296) (o1 o2 : Operand) (w : World) : (do eqGuard .shl 50 o1 o2 (w32 n) (.int .u64 8); binOp .shl 50 (w32 n) (.int .u64 8) : Sem Value).run Tryd.prog w = .ok (w32 m) w := by
  subst h
  simp [go_sem]
  exact wrap32 (by omega) (by omega)
theorem or32 {x b m : Nat} (hx : x % 256 = 0) (h : x + b = m) (hb : b < 256) (hm : m < 4294967296) (o1 o2 : Operand) (w : World) : (do eqGuard .or 50 o1 o2 (w32 x) (w32 b); binOp .or 50 (w32 x) (w32 b) : Sem Value).run Tryd.prog w = .ok (w32 m) w := by
  subst h
  simp [go_sem]
  exact bits_join .u32 32 (by decide) (fun n h0 h1 => wrap32 h0 h1) 8 x b (by omega) (by omega) (by omega) (by omega) (by omega) (by omega)
theorem orZ (i : Nat) {x b m : Nat} (hx : x % 2 ^ i = 0) (h : x + b = m) (hb : b < 2 ^ i) (hm : m < 4294967296) (o1 o2 : Operand) (w : World) : (do eqGuard .or 3 o1 o2 (Z x) (Z b); binOp .or 3 (Z x) (Z b) : Sem Value).run Tryd.prog w = .ok (Z m) w := by
  subst h
  simp [go_sem]
  exact bits_join .i64 32 (by decide) (fun n h0 h1 => wz (by omega) (by omega)) i x b (by omega) (by exact_mod_cast hx) (by omega) (by omega) (by exact_mod_cast hb) (by omega)
theorem shlU {n k m : Nat} (hk : k < 64) (h : n * 2 ^ k = m) (hm : m < 4294967296) (o1 o2 : Operand) (w : World) : (do eqGuard .shl 3 o1 o2 (Z n) (.int .u64 k); binOp .shl 3 (Z n) (.int .u64 k) : Sem Value).run Tryd.prog w = .ok (Z m) w := by
  subst h
  simp [go_sem]
  have e : ((n * 2 ^ k : Nat) : Int) = (n : Int) * 2 ^ k := by simp
  rw [← e]
  exact wz (by omega) (by omega)
theorem cnv32 (n : Nat) (h : n < 256) (w : World) : (convert 5 50 (.int .u8 n)).run Tryd.prog w = .ok (w32 n) w := by
  simp [convert, run_underlying Tryd.underlying5, run_underlying Tryd.underlying50, go_sem]
  exact wrap32 (by omega) (by omega)
theorem cnv23 (n : Nat) (h : n < 4294967296) (w : World) : (convert 50 3 (w32 n)).run Tryd.prog w = .ok (Z n) w := by
  simp [convert, run_underlying Tryd.underlying3, run_underlying Tryd.underlying50, go_sem]
  exact wz (by omega) (by omega)
theorem gtr32 {x y : Nat} {b : Bool} (h : decide (y < x) = b) (o1 o2 : Operand) (w : World) : (do eqGuard .gtr 50 o1 o2 (w32 x) (w32 y); binOp .gtr 50 (w32 x) (w32 y) : Sem Value).run Tryd.prog w = .ok (.bool b) w := by simp [go_sem, h]
theorem text_own {w : World} {b : Nat} {v : Value} {l : List UInt8} (h : w.ownsRow b 5 1 v l.length (bc l)) : (convert 41 9 v).run Tryd.prog w = .ok (.string ⟨l.toArray⟩) w := by
  rcases h.2 with ⟨rfl, hn⟩ | ⟨g, cap, cur, rfl, hbg, hgc, hnc, hcm, hcs, htake⟩
  · have : l = [] := List.eq_nil_of_length_eq_zero hn
    subst this
    exact run_convert_bytes_nil (P := Tryd.prog) w 41 5 Tryd.underlying41 Tryd.underlying5 0 0 9 Tryd.underlying9
  · exact run_convert_bytes_back (P := Tryd.prog) w 41 9 5 ⟨g, 0, none⟩ cap l Tryd.underlying41 Tryd.underlying5 Tryd.underlying9 (fun j hj => by
      have := h.cells (g := g) rfl j (.int .u8 (l[j].toNat : Int)) (by simp [List.getElem?_eq_getElem hj])
      exact this)
theorem conv_new (w : World) (l : List UInt8) (hl : l.length < 1000000000) : (convert 41 9 (.slice (some ⟨w.heap.size, 0, none⟩) l.length l.length)).run Tryd.prog (w.alloc (.cells (bc l).toArray 5)) = .ok (str l) (w.alloc (.cells (bc l).toArray 5)) := by
  refine text_own (b := w.heap.size) (l := l) ⟨by simp [bc], .inr ⟨w.heap.size, l.length, (bc l).toArray, rfl, Nat.le_refl _, heap_alloc_last w _, Nat.le_refl _, ?_, by simp [bc], ?_⟩⟩
  · simp only [maxLen]; omega
  · simp only [Nat.mul_one]
    rw [List.take_of_length_le (by simp [bc])]
abbrev u8v (b : UInt8) : Value := .int .u8 b.toNat
theorem conv_row {w : World} {g : Nat} {a b c d : UInt8} (h : HasRow w g #[u8v a, u8v b, u8v c, u8v d]) : (convert 41 9 (.slice (some ⟨g, 0, none⟩) 4 4)).run Tryd.prog w = .ok (str [a, b, c, d]) w := by
  have := run_convert_bytes_arg (P := Tryd.prog) (w := w) 41 5 Tryd.underlying41 Tryd.underlying5 g 0 4 4 [(a.toNat : Int), b.toNat, c.toNat, d.toNat] rfl (fun i hi => by
    rw [Nat.zero_add, h.cell]
    match i, hi with
    | 0, _ => rfl
    | 1, _ => rfl
    | 2, _ => rfl
    | 3, _ => rfl) 9 Tryd.underlying9
  rw [this]
  simp [strOfNums]
/-- Texts in memory. -/
def C1s : Cl Tx := fun K w l cs => cs = [str l]
theorem C1s.loc : Loc C1s := ⟨fun _ _ _ _ _ _ _ h => h⟩
def txF (v : Value) (l : List Tx) : Lf := ⟨fun K w => SlI 1 C1s K w v l, fun K K' w w' h H => H.keep C1s.loc h⟩
abbrev TxI (w : World) (v : Value) (l : List Tx) : Prop := SlI 1 C1s (· < w.heap.size) w v l
theorem loadT {w : World} {g o : Nat} {l : Tx} (h : CellsAt w g o [str l]) : (loadVar 9 ⟨g, o, none⟩).run Tryd.prog w = .ok (str l) w := load1 h 0 rfl 9 Tryd.underlying9 rfl
theorem hI9 : ∃ i, Tryd.prog.info? 9 = some i ∧ i.zero = some (.string ⟨#[]⟩) ∧ i.size = 1 ∧ i.bytes = 16 := info_of (by kernel_rfl)
theorem bs23_1 (x : Tx) (w : World) : (Instr.buildSlice 23 1 #[(0, str x)]).run Tryd.prog w = .ok (.slice (some ⟨w.heap.size, 0, none⟩) 1 1) (w.alloc (.cells [str x].toArray 9)) := by kernel_rfl
theorem bs23_2 (x y : Tx) (w : World) : (Instr.buildSlice 23 2 #[(0, str x), (1, str y)]).run Tryd.prog w = .ok (.slice (some ⟨w.heap.size, 0, none⟩) 2 2) (w.alloc (.cells [str x, str y].toArray 9)) := by kernel_rfl
theorem one_tx (x : Tx) : ∀ u ∈ [str x], u.oneCell' = true := fun u hu => by
  rw [List.mem_singleton.1 hu]
  rfl
abbrev txO (v : Value) (l : List Tx) : Ow := ⟨9, 1, v, l.map fun t => [str t]⟩
theorem txO_list {w : World} {b : Nat} {v : Value} {l : List Tx} (h : w.ownsRow b (txO v l).e (txO v l).sz (txO v l).v (txO v l).X.length (txO v l).X.flatten) : (txF v l).p (fun k => v.ownBlock = some k) w := own_list (fun t => [str t]) h fun x hx => ⟨rfl, rfl⟩
section
variable {w0 WR : World} {b : Nat} {Kp K : Nat → Prop} {Fs : List Lf} {ds : List Deferred} {β : Nat → Nat} {c : Cf} {a : Act} {w6 : World} {Q : Exit → Act → World → Prop}
theorem app_tx (A B : List Ow) {m cap : Nat} {ad : Option Addr} {l : List Tx} (x : Tx) {l' : List Tx} (hl' : l ++ [x] = l') (I : SI (GS w0 WR b Kp K Fs (A ++ txO (.slice ad m cap) l :: B)) (GF Kp K (A ++ txO (.slice ad m cap) l :: B)) ds β c a w6) (hlm : l.length = m) (hm : m < 100000000)
    (k : ∀ ad8 cap8 a8 w8, SI (GS w0 WR b Kp K Fs (A ++ txO (.slice ad8 (m + 1) cap8) l' :: B)) (GF Kp K (A ++ txO (.slice ad8 (m + 1) cap8) l' :: B)) ds β (nxtQ (nxtQ c (.slice (some ⟨w6.heap.size, 0, none⟩) 1 1)) (.slice ad8 (m + 1) cap8)) a8 w8 → At Tryd.prog Q (nxtQ (nxtQ c (.slice (some ⟨w6.heap.size, 0, none⟩) 1 1)) (.slice ad8 (m + 1) cap8)) a8 w8)
    (hc1 : bsQ c = some (23, 1, [(0, Sum.inl (str x))]) := by kernel_rfl)
    (hc2 : bltQ (nxtQ c (.slice (some ⟨w6.heap.size, 0, none⟩) 1 1)) = some (.append, #[23, 23], 23, [Sum.inl (.slice ad m cap), Sum.inl (.slice (some ⟨w6.heap.size, 0, none⟩) 1 1)]) := by kernel_rfl) : At Tryd.prog Q c a w6 :=
  gapp Tryd.underlying23 hI9 rfl (by decide) (by decide) A B (bs23_1 x w6) rfl (one_tx x) I (by rw [List.length_map]; exact hlm) hm (fun ad8 cap8 a8 w8 I8 => by
    have e : l.map (fun t => [str t]) ++ [[str x]] = l'.map fun t => [str t] := by rw [← hl']; simp
    rw [e] at I8
    exact k ad8 cap8 a8 w8 I8) hc1 hc2
end
/-- A row of one's own, behind a function. -/
theorem GS.newT {w WR : World} {b : Nat} {Kp : Nat → Prop} {Fs : List Lf} {v : Value} {l : List Tx} {w' : World} (h : GS w WR b Kp (· < w.heap.size) Fs [txO v l] w') : NW w [txF v l] w' := by
  refine ⟨h.bw, fun k => v.ownBlock = some k, fun k hk => ?_, fun f hf => ?_⟩
  · have hn : ¬ k < w.heap.size := (h.on (txO v l) (by simp) k hk).1
    exact ⟨by omega, ((h.ow (txO v l) (by simp)).lt k hk).2⟩
  · simp only [List.mem_cons, List.not_mem_nil, or_false] at hf
    subst hf
    exact txO_list (h.ow (txO v l) (by simp))
section
variable {T : World → Prop}
abbrev ixT (g off n cap i : Nat) (hi : i < n) : Fa Tryd.prog T := iA 23 Tryd.underlying23 (sz := 1) (by kernel_rfl) (g := g) (off := off) (n := n) (cap := cap) hi
abbrev lnT (ad : Option Addr) (n cap : Nat) : Fa Tryd.prog T := lS Tryd.underlying23 (ad := ad) (n := n) (cap := cap) rfl
end

/-- The document's head. -/
theorem bs41 (a b c d : UInt8) (w : World) : (Instr.buildSlice 41 4 #[(0, u8v a), (1, u8v b), (2, u8v c), (3, u8v d)]).run Tryd.prog w = .ok (.slice (some ⟨w.heap.size, 0, none⟩) 4 4) (w.alloc (.cells (bc [a, b, c, d]).toArray 5)) := by kernel_rfl
theorem head_any (n : Nat) (w : World) : Calls Tryd.prog 16 #[Z n] w fun e w' => e = .returned (str (hd4 n)) ∧ Below w.heap.size w w' := by
  refine inQ (J := Below w.heap.size w) (F := (· < w.heap.size)) Tryd.func16 (Below.refl _ _) fun a I => ?_
  refine goQ [bO .shr 3 (shrU (n := n) (k := 24) (m := n / 16777216) (by decide) rfl), vO 3 5 (cnvT (n / 16777216)), bO .shr 3 (shrU (n := n) (k := 16) (m := n / 65536) (by decide) rfl), vO 3 5 (cnvT (n / 65536)), bO .shr 3 (shrU (n := n) (k := 8) (m := n / 256) (by decide) rfl), vO 3 5 (cnvT (n / 256)), vO 3 5 (cnvT n)] (nonR w) I fun β a w1 I hb => ?_
  refine bslQ (ss := [(0, Sum.inl (u8v (UInt8.ofNat (n / 16777216)))), (1, Sum.inl (u8v (UInt8.ofNat (n / 65536)))), (2, Sum.inl (u8v (UInt8.ofNat (n / 256)))), (3, Sum.inl (u8v (UInt8.ofNat n)))]) I (bs41 _ _ _ _ w1) ?_
  have I2 := I.lay (nonR w) (.cells (bc (hd4 n)).toArray 5) (.slice (some ⟨w1.heap.size, 0, none⟩) 4 4)
  refine cnvQ I2 (conv_new w1 (hd4 n) (by rw [hd4_len]; decide)) ?_
  have I3 := I2.same (str (hd4 n))
  refine goQ [] ((nonR w).lay _ _) I3 fun β a w1 I hb => ?_
  exact outQ (v := str (hd4 n)) I ⟨rfl, I.hJ.1⟩
end Go.Proofs.YtdlanihbpbfbcaaDoor
/- Lengths as bytes, and out of bytes, of the program; a record, of both sides. -/
namespace Go.Proofs.YtdlanihbpbfbcaaDoor
open Go.RowKit Go.Sort
set_option linter.unusedVariables false
set_option maxRecDepth 100000
/-- A slice of a whole array. -/
def slQ (c : Cf) : Option (TypeId × SV) := match opAtQ c with
  | some o => match o.op with
    | .slice t x none none none => (evQ c.tm x).map fun s => (t, s)
    | _ => none
  | none => none
section
variable {P : Program} {J : World → Prop} {F : Nat → Prop} {ds : List Deferred} {β : Nat → Nat} {c : Cf} {a : Act} {w : World} {Q : Exit → Act → World → Prop}
theorem slrQ {t : TypeId} {s : SV} {v : Value} (I : SI J F ds β c a w) (hr : (Instr.sliceAt t (up β s) none none none).run P w = .ok v w) (k : At P Q (nxtQ c v) (a.put (dstQ c) v) w) (hc : slQ c = some (t, s) := by kernel_rfl) : At P Q c a w := by
  unfold slQ at hc
  split at hc
  · next o ho =>
    split at hc
    · next t' x hop =>
      simp only [Option.map_eq_some_iff, Prod.mk.injEq] at hc
      obtain ⟨s', hm, rfl, rfl⟩ := hc
      refine vstep ho I (v := v) (w' := w) ?_ k
      have h1 := evQ_ok I.fr hm
      unfold execOp
      simp only [hop, h1, Option.map_none, Sem.run_bind, hr, Result.andThen_ok, Sem.run_pure]
    · cases hc
  · cases hc
end
theorem sl40 (g : Nat) (w : World) : (Instr.sliceAt 40 (.pointer (some ⟨g, 0, none⟩)) none none none).run Tryd.prog w = .ok (.slice (some ⟨g, 0, none⟩) 4 4) w := by kernel_rfl
abbrev soK : List Nat := [0, 2, 3, 5]
abbrev soV (n i : Nat) : Vs := frm 19 [(0, Sum.inl (Z n)), (2, Sum.inl (.string ⟨#[]⟩)), (3, Sum.inr (0, 0)), (5, Sum.inl (Z i))]
/-- What is laid so far. -/
def soR (n i : Nat) : Array Value := #[u8v (if 3 < i then UInt8.ofNat (n / 16777216) else 0), u8v (if 2 < i then UInt8.ofNat (n / 65536) else 0), u8v (if 1 < i then UInt8.ofNat (n / 256) else 0), u8v (if 0 < i then UInt8.ofNat n else 0)]
theorem sizeOf_any (n : Nat) (w : World) : Calls Tryd.prog 14 #[Z n] w fun e w' => e = .returned (str (hd4 n)) ∧ Below w.heap.size w w' := by
  refine inQ (J := Below w.heap.size w) (F := (· < w.heap.size)) Tryd.func14 (Below.refl _ _) fun a I => ?_
  refine goQ [] (nonR w) I fun β a w1 I hb => ?_
  let St : Nat → Act → World → Prop := fun k a w' => ∃ (i : Nat) (β : Nat → Nat) (u : Nat → Value), k = 4 - i ∧ i ≤ 4 ∧ SI (Below w.heap.size w) (· < w.heap.size) [] β (cfC (bodyL Tryd.f14) (fillF (scrF 19 soK) u 0 (soV n i)) [(0, soR n i)] 1) a w'
  refine lpM (bodyL Tryd.f14) St 4 ?_ ?_
  · obtain ⟨u, Iu⟩ := I.scr (bodyL Tryd.f14) (scrF 19 soK) (soV n 0) [(0, soR n 0)] 1
    exact ⟨0, β, u, by omega, Nat.zero_le _, Iu⟩
  rintro k a3 w3 ⟨i, β3, u, rfl, hi, I⟩
  refine wp_cfC (tm := fillF (scrF 19 soK) u 0 (soV n i)) (rows := [(0, soR n i)]) (nx := 1) ?_
  have h4 : i = 0 ∨ i = 1 ∨ i = 2 ∨ i = 3 ∨ i = 4 := by omega
  rcases h4 with rfl | rfl | rfl | rfl | rfl
  · refine goQ [lT 0 4 (by decide), bO .sub 3 (run_subZ (x := 3) (y := 0) (z := 3) rfl), bO .mul 3 (run_mulZ (x := 8) (y := 0) (z := 0) rfl), bO .shr 3 (shrZ (n := n) (k := 0) (m := n) (by decide) (by omega)), vO 3 5 (cnvT (n)), p1 0 (by decide)] (nonR w) I fun β4 a4 w4 I hb4 => ?_
    obtain ⟨u', Iu⟩ := I.scr (bodyL Tryd.f14) (scrF 19 soK) (soV n 1) [(0, soR n 1)] 1
    exact endL ⟨3, by decide, 1, β4, u', rfl, by decide, Iu⟩
  · refine goQ [lT 1 4 (by decide), bO .sub 3 (run_subZ (x := 3) (y := 1) (z := 2) rfl), bO .mul 3 (run_mulZ (x := 8) (y := 1) (z := 8) rfl), bO .shr 3 (shrZ (n := n) (k := 8) (m := n / 256) (by decide) rfl), vO 3 5 (cnvT (n / 256)), p1 1 (by decide)] (nonR w) I fun β4 a4 w4 I hb4 => ?_
    obtain ⟨u', Iu⟩ := I.scr (bodyL Tryd.f14) (scrF 19 soK) (soV n 2) [(0, soR n 2)] 1
    exact endL ⟨2, by decide, 2, β4, u', rfl, by decide, Iu⟩
  · refine goQ [lT 2 4 (by decide), bO .sub 3 (run_subZ (x := 3) (y := 2) (z := 1) rfl), bO .mul 3 (run_mulZ (x := 8) (y := 2) (z := 16) rfl), bO .shr 3 (shrZ (n := n) (k := 16) (m := n / 65536) (by decide) rfl), vO 3 5 (cnvT (n / 65536)), p1 2 (by decide)] (nonR w) I fun β4 a4 w4 I hb4 => ?_
    obtain ⟨u', Iu⟩ := I.scr (bodyL Tryd.f14) (scrF 19 soK) (soV n 3) [(0, soR n 3)] 1
    exact endL ⟨1, by decide, 3, β4, u', rfl, by decide, Iu⟩
  · refine goQ [lT 3 4 (by decide), bO .sub 3 (run_subZ (x := 3) (y := 3) (z := 0) rfl), bO .mul 3 (run_mulZ (x := 8) (y := 3) (z := 24) rfl), bO .shr 3 (shrZ (n := n) (k := 24) (m := n / 16777216) (by decide) rfl), vO 3 5 (cnvT (n / 16777216)), p1 3 (by decide)] (nonR w) I fun β4 a4 w4 I hb4 => ?_
    obtain ⟨u', Iu⟩ := I.scr (bodyL Tryd.f14) (scrF 19 soK) (soV n 4) [(0, soR n 4)] 1
    exact endL ⟨0, by decide, 4, β4, u', rfl, by decide, Iu⟩
  · refine goQ [lF 4 4 (by decide)] (nonR w) I fun β4 a4 w4 I hb4 => ?_
    refine endE 0 ?_
    refine goQ [] (nonR w) (I.exit _) fun β5 a5 w5 I hb5 => ?_
    obtain ⟨g, hg⟩ : ∃ g, β5 0 = g := ⟨_, rfl⟩
    have r0 := I.rowG 0 hg (r := soR n 4)
    refine slrQ (s := Sum.inr (0, 0)) (v := .slice (some ⟨g, 0, none⟩) 4 4) I (by rw [← hg]; exact sl40 _ _) ?_
    have I2 := I.same (.slice (some ⟨g, 0, none⟩) 4 4)
    refine cnvQ I2 (conv_row r0) ?_
    have I3 := I2.same (str (hd4 n))
    refine goQ [] (nonR w) I3 fun β6 a6 w6 I hb6 => ?_
    exact outQ (v := str (hd4 n)) I ⟨rfl, I.hJ⟩
abbrev siK : List Nat := [0, 2, 3, 5]
abbrev siV (s : Tx) (v i : Nat) : Vs := frm 17 [(0, Sum.inl (str s)), (2, Sum.inl (w32 0)), (3, Sum.inl (w32 v)), (5, Sum.inl (Z i))]
theorem sizeIn_any (s : Tx) (h8 : 8 ≤ s.length) (w : World) : Calls Tryd.prog 25 #[str s] w fun e w' => e = .returned (w32 (num4 s)) ∧ Below w.heap.size w w' := by
  refine inQ (J := Below w.heap.size w) (F := (· < w.heap.size)) Tryd.func25 (Below.refl _ _) fun a I => ?_
  refine goQ [] (nonR w) I fun β a w1 I hb => ?_
  obtain ⟨b0, e0, f0⟩ := gb_get (l := s) (i := 0) (by omega)
  obtain ⟨b1, e1, f1⟩ := gb_get (l := s) (i := 1) (by omega)
  obtain ⟨b2, e2, f2⟩ := gb_get (l := s) (i := 2) (by omega)
  obtain ⟨b3, e3, f3⟩ := gb_get (l := s) (i := 3) (by omega)
  have g0 := gb_lt s 0
  have g1 := gb_lt s 1
  have g2 := gb_lt s 2
  have g3 := gb_lt s 3
  have i0 : ∀ w, (Instr.index 9 (str s) (Z 0)).run Tryd.prog w = .ok (.int .u8 (gb s 0)) w := fun w => f0 ▸ idx_run (k := 0) e0 w
  have i1 : ∀ w, (Instr.index 9 (str s) (Z 1)).run Tryd.prog w = .ok (.int .u8 (gb s 1)) w := fun w => f1 ▸ idx_run (k := 1) e1 w
  have i2 : ∀ w, (Instr.index 9 (str s) (Z 2)).run Tryd.prog w = .ok (.int .u8 (gb s 2)) w := fun w => f2 ▸ idx_run (k := 2) e2 w
  have i3 : ∀ w, (Instr.index 9 (str s) (Z 3)).run Tryd.prog w = .ok (.int .u8 (gb s 3)) w := fun w => f3 ▸ idx_run (k := 3) e3 w
  obtain ⟨m, hm⟩ : ∃ m, num4 s = m := ⟨_, rfl⟩
  have hm2 := hm
  rw [hm]
  unfold num4 at hm2
  generalize gb s 0 = x0 at *
  generalize gb s 1 = x1 at *
  generalize gb s 2 = x2 at *
  generalize gb s 3 = x3 at *
  clear e0 e1 e2 e3 f0 f1 f2 f3
  let V : Nat → Nat := fun i => match i with
    | 0 => 0
    | 1 => x0
    | 2 => x0 * 256 + x1
    | 3 => (x0 * 256 + x1) * 256 + x2
    | _ => m
  let St : Nat → Act → World → Prop := fun k a w' => ∃ (i : Nat) (β : Nat → Nat) (u : Nat → Value), k = 4 - i ∧ i ≤ 4 ∧ SI (Below w.heap.size w) (· < w.heap.size) [] β (cfC (bodyL Tryd.f25) (fillF (scrF 17 siK) u 0 (siV s (V i) i)) [] 0) a w'
  refine lpM (bodyL Tryd.f25) St 4 ?_ ?_
  · obtain ⟨u, Iu⟩ := I.scr (bodyL Tryd.f25) (scrF 17 siK) (siV s 0 0) [] 0
    exact ⟨0, β, u, by omega, Nat.zero_le _, Iu⟩
  rintro k a3 w3 ⟨i, β3, u, rfl, hi, I⟩
  refine wp_cfC (tm := fillF (scrF 17 siK) u 0 (siV s (V i) i)) (rows := []) (nx := 0) ?_
  have h4 : i = 0 ∨ i = 1 ∨ i = 2 ∨ i = 3 ∨ i = 4 := by omega
  rcases h4 with rfl | rfl | rfl | rfl | rfl
  · refine goQ [lT 0 4 (by decide), bO .shl 50 (shl32 (n := 0) (m := 0 * 256) rfl (by omega)), iO 9 i0, vO 5 50 (cnv32 x0 g0), bO .or 50 (or32 (x := 0 * 256) (b := x0) (m := x0) (by omega) (by omega) g0 (by omega)), p1 0 (by decide)] (nonR w) I fun β4 a4 w4 I hb4 => ?_
    obtain ⟨u', Iu⟩ := I.scr (bodyL Tryd.f25) (scrF 17 siK) (siV s x0 1) [] 0
    exact endL ⟨3, by decide, 1, β4, u', rfl, by decide, Iu⟩
  · refine goQ [lT 1 4 (by decide), bO .shl 50 (shl32 (n := x0) (m := x0 * 256) rfl (by omega)), iO 9 i1, vO 5 50 (cnv32 x1 g1), bO .or 50 (or32 (x := x0 * 256) (b := x1) (m := (x0 * 256 + x1)) (by omega) (by omega) g1 (by omega)), p1 1 (by decide)] (nonR w) I fun β4 a4 w4 I hb4 => ?_
    obtain ⟨u', Iu⟩ := I.scr (bodyL Tryd.f25) (scrF 17 siK) (siV s (x0 * 256 + x1) 2) [] 0
    exact endL ⟨2, by decide, 2, β4, u', rfl, by decide, Iu⟩
  · refine goQ [lT 2 4 (by decide), bO .shl 50 (shl32 (n := (x0 * 256 + x1)) (m := (x0 * 256 + x1) * 256) rfl (by omega)), iO 9 i2, vO 5 50 (cnv32 x2 g2), bO .or 50 (or32 (x := (x0 * 256 + x1) * 256) (b := x2) (m := ((x0 * 256 + x1) * 256 + x2)) (by omega) (by omega) g2 (by omega)), p1 2 (by decide)] (nonR w) I fun β4 a4 w4 I hb4 => ?_
    obtain ⟨u', Iu⟩ := I.scr (bodyL Tryd.f25) (scrF 17 siK) (siV s ((x0 * 256 + x1) * 256 + x2) 3) [] 0
    exact endL ⟨1, by decide, 3, β4, u', rfl, by decide, Iu⟩
  · refine goQ [lT 3 4 (by decide), bO .shl 50 (shl32 (n := ((x0 * 256 + x1) * 256 + x2)) (m := ((x0 * 256 + x1) * 256 + x2) * 256) rfl (by omega)), iO 9 i3, vO 5 50 (cnv32 x3 g3), bO .or 50 (or32 (x := ((x0 * 256 + x1) * 256 + x2) * 256) (b := x3) (m := m) (by omega) (by omega) g3 (by omega)), p1 3 (by decide)] (nonR w) I fun β4 a4 w4 I hb4 => ?_
    obtain ⟨u', Iu⟩ := I.scr (bodyL Tryd.f25) (scrF 17 siK) (siV s m 4) [] 0
    exact endL ⟨0, by decide, 4, β4, u', rfl, by decide, Iu⟩
  · refine goQ [lF 4 4 (by decide)] (nonR w) I fun β4 a4 w4 I hb4 => ?_
    refine endE 0 ?_
    refine goQ [] (nonR w) (I.exit _) fun β5 a5 w5 I hb5 => ?_
    exact outQ (v := w32 m) I ⟨rfl, I.hJ⟩
end Go.Proofs.YtdlanihbpbfbcaaDoor
/- A record, of both sides. -/
namespace Go.Proofs.YtdlanihbpbfbcaaDoor
open Go.RowKit Go.Sort
set_option linter.unusedVariables false
set_option maxRecDepth 100000
theorem sum_str (l : Tx) {w : World} (ht : Tabs w ki) : Calls Tryd.prog 15 #[str l] w fun e w' => e = .returned (str (hsh l)) ∧ Below w.heap.size w w' := sum_any ⟨l.toArray⟩ w ht
theorem rsum_str (l : Tx) (hl : l.length ≤ 100000) (w : World) : Calls Tryd.prog 17 #[str l] w fun e w' => e = .returned (str (hsh l)) ∧ Below w.heap.size w w' := rsum_any ⟨l.toArray⟩ (by rw [str_size]; exact hl) w
theorem frame_any (s : Tx) {w : World} (ht : Tabs w ki) : Calls Tryd.prog 10 #[str s] w fun e w' => e = .returned (str (fr s)) ∧ Below w.heap.size w w' := by
  refine inQ (J := Below w.heap.size w) (F := (· < w.heap.size)) Tryd.func10 (Below.refl _ _) fun a I => ?_
  by_cases h : 65536 < s.length
  · rw [fr_long h]
    refine goQ [lnO s, bO .gtr 3 (run_gtrZ (x := s.length) (y := 65536) (b := true) (decide_eq_true (by omega)))] (nonR w) I fun β a w1 I hb => ?_
    exact outQ (v := .string ⟨#[]⟩) I ⟨rfl, I.hJ⟩
  · have h' : s.length ≤ 65536 := by omega
    rw [fr_short h']
    have hl := hd4_len s.length
    have hk := hsh_len (hd4 s.length ++ s)
    have hs := fun w => sizeOf_any s.length w
    have hh := fun (w' : World) (h : Tabs w' ki) => sum_str (hd4 s.length ++ s) h
    generalize hsh (hd4 s.length ++ s) = k at *
    generalize hd4 s.length = d at *
    have h4 : (k.take 4).length = 4 := by rw [List.length_take]; omega
    refine goT (T := fun w => Tabs w ki) [lnO s, bO .gtr 3 (run_gtrZ (x := s.length) (y := 65536) (b := false) (decide_eq_false (by omega))), lnO s, kC Tryd.func14 hs, bO .add 9 (addS_run d s (by omega)), cA Tryd.func15 hh, sT 9 (to_run (l := k) (k := 4) (by omega)), bO .add 9 (addS_run d (k.take 4) (by omega)), bO .add 9 (addS_run (d ++ k.take 4) s (by rw [List.length_append]; omega))] (nonR w) (fun w' hb => ht.below hb) I fun β a w1 I hb => ?_
    exact outQ (v := str (d ++ k.take 4 ++ s)) I ⟨rfl, I.hJ⟩
theorem rframe_any (s : Tx) (w : World) : Calls Tryd.prog 11 #[str s] w fun e w' => e = .returned (str (fr s)) ∧ Below w.heap.size w w' := by
  refine inQ (J := Below w.heap.size w) (F := (· < w.heap.size)) Tryd.func11 (Below.refl _ _) fun a I => ?_
  by_cases h : 65536 < s.length
  · rw [fr_long h]
    refine goQ [lnO s, bO .gtr 3 (run_gtrZ (x := s.length) (y := 65536) (b := true) (decide_eq_true (by omega)))] (nonR w) I fun β a w1 I hb => ?_
    exact outQ (v := .string ⟨#[]⟩) I ⟨rfl, I.hJ⟩
  · have h' : s.length ≤ 65536 := by omega
    rw [fr_short h']
    have hl := hd4_len s.length
    have hk := hsh_len (hd4 s.length ++ s)
    have hs := fun w => head_any s.length w
    have hh := fun (w' : World) => rsum_str (hd4 s.length ++ s) (by rw [List.length_append]; omega) w'
    generalize hsh (hd4 s.length ++ s) = k at *
    generalize hd4 s.length = d at *
    have h4 : (k.take 4).length = 4 := by rw [List.length_take]; omega
    refine goQ [lnO s, bO .gtr 3 (run_gtrZ (x := s.length) (y := 65536) (b := false) (decide_eq_false (by omega))), lnO s, kC Tryd.func16 hs, bO .add 9 (addS_run d s (by omega)), kC Tryd.func17 hh, sT 9 (to_run (l := k) (k := 4) (by omega)), bO .add 9 (addS_run d (k.take 4) (by omega)), bO .add 9 (addS_run (d ++ k.take 4) s (by rw [List.length_append]; omega))] (nonR w) I fun β a w1 I hb => ?_
    exact outQ (v := str (d ++ k.take 4 ++ s)) I ⟨rfl, I.hJ⟩
end Go.Proofs.YtdlanihbpbfbcaaDoor
/- The reading of records, of the program. -/
namespace Go.Proofs.YtdlanihbpbfbcaaDoor
open Go.RowKit Go.Sort
set_option linter.unusedVariables false
set_option maxRecDepth 100000
/-- The text that 'first' hands out. -/
def rdT (s : Tx) : Tx := if s.length < 8 then [] else if 65536 < num4 s then [] else if s.length - 8 < num4 s then [] else (s.take (8 + num4 s)).drop 8
theorem rdT_some {s t : Tx} (h : rd1 s = some t) : rdT s = t := by
  unfold rd1 at h
  unfold rdT
  split at h
  · cases h
  next h1 =>
  rw [if_neg h1]
  split at h
  · cases h
  next h2 =>
  rw [if_neg h2]
  split at h
  · cases h
  next h3 =>
  rw [if_neg h3]
  split at h
  · exact Option.some.inj h
  · cases h
theorem first_any (s : Tx) (hs : s.length < 100000000000) {w : World} (ht : Tabs w ki) : Calls Tryd.prog 19 #[str s] w fun e w' => e = .returned (.tuple #[str (rdT s), .bool (rd1 s).isSome]) ∧ Below w.heap.size w w' := by
  refine inQ (J := Below w.heap.size w) (F := (· < w.heap.size)) Tryd.func19 (Below.refl _ _) fun a I => ?_
  by_cases h1 : s.length < 8
  · have e1 : rdT s = [] := if_pos h1
    have e2 : rd1 s = none := if_pos h1
    rw [e1, e2]
    refine goQ [lnO s, lT s.length 8 (by omega)] (nonR w) I fun β a w1 I hb => ?_
    exact outQ (v := .tuple #[.string ⟨#[]⟩, .bool false]) I ⟨rfl, I.hJ⟩
  have hN := sizeIn_any s (by omega)
  have hlt : num4 s < 4294967296 := by
    have := gb_lt s 0
    have := gb_lt s 1
    have := gb_lt s 2
    have := gb_lt s 3
    unfold num4
    omega
  by_cases h2 : 65536 < num4 s
  · have e1 : rdT s = [] := by unfold rdT; rw [if_neg h1, if_pos h2]
    have e2 : rd1 s = none := by unfold rd1; rw [if_neg h1, if_pos h2]
    rw [e1, e2]
    generalize num4 s = n at *
    refine goQ [lnO s, lF s.length 8 (by omega), kC Tryd.func25 hN, bO .gtr 50 (gtr32 (x := n) (y := 65536) (b := true) (decide_eq_true h2))] (nonR w) I fun β a w1 I hb => ?_
    exact outQ (v := .tuple #[.string ⟨#[]⟩, .bool false]) I ⟨rfl, I.hJ⟩
  by_cases h3 : s.length - 8 < num4 s
  · have e1 : rdT s = [] := by unfold rdT; rw [if_neg h1, if_neg h2, if_pos h3]
    have e2 : rd1 s = none := by unfold rd1; rw [if_neg h1, if_neg h2, if_pos h3]
    rw [e1, e2]
    generalize num4 s = n at *
    refine goQ [lnO s, lF s.length 8 (by omega), kC Tryd.func25 hN, bO .gtr 50 (gtr32 (x := n) (y := 65536) (b := false) (decide_eq_false h2)), vO 50 3 (cnv23 n hlt), lnO s, bO .sub 3 (run_subZ (x := s.length) (y := 8) (z := (s.length - 8 : Nat)) (by rw [wz (by omega) (by omega)]; omega)), bO .gtr 3 (run_gtrZ (x := n) (y := (s.length - 8 : Nat)) (b := true) (decide_eq_true (by omega)))] (nonR w) I fun β a w1 I hb => ?_
    exact outQ (v := .tuple #[.string ⟨#[]⟩, .bool false]) I ⟨rfl, I.hJ⟩
  have e1 : rdT s = (s.take (8 + num4 s)).drop 8 := by unfold rdT; rw [if_neg h1, if_neg h2, if_neg h3]
  have e2 : (rd1 s).isSome = decide (fr ((s.take (8 + num4 s)).drop 8) = s.take (8 + num4 s)) := by
    unfold rd1
    rw [if_neg h1, if_neg h2, if_neg h3]
    by_cases h : fr ((s.take (8 + num4 s)).drop 8) = s.take (8 + num4 s)
    · rw [if_pos h, decide_eq_true h]; rfl
    · rw [if_neg h, decide_eq_false h]; rfl
  rw [e1, e2]
  clear e1 e2
  generalize num4 s = n at *
  have hf := fun (w' : World) (h : Tabs w' ki) => frame_any ((s.take (8 + n)).drop 8) h
  have hw : (s.take (8 + n)).length = 8 + n := by rw [List.length_take]; omega
  have htk := fun w => to_run (l := s) (k := 8 + n) (by omega) w
  generalize s.take (8 + n) = u at *
  have hfr := fun w => from_run (l := u) (k := 8) (by omega) w
  generalize u.drop 8 = t at *
  generalize fr t = f at *
  refine goT (T := fun w => Tabs w ki) [lnO s, lF s.length 8 (by omega), kC Tryd.func25 hN, bO .gtr 50 (gtr32 (x := n) (y := 65536) (b := false) (decide_eq_false h2)), vO 50 3 (cnv23 n hlt), lnO s, bO .sub 3 (run_subZ (x := s.length) (y := 8) (z := (s.length - 8 : Nat)) (by rw [wz (by omega) (by omega)]; omega)), bO .gtr 3 (run_gtrZ (x := n) (y := (s.length - 8 : Nat)) (b := false) (decide_eq_false (by omega))),
    vO 50 3 (cnv23 n hlt), bO .add 3 (run_addZ (x := 8) (y := n) (z := (8 + n : Nat)) (by rw [wz (by omega) (by omega)]; omega)), sT 9 htk, sO 9 hfr, cA Tryd.func10 hf, bO .eql 9 (eqS_run (a := f) (b := u) rfl)] (nonR w) (fun w' hb => ht.below hb) I fun β a w1 I hb => ?_
  exact outQ (v := .tuple #[str t, .bool (decide (f = u))]) I ⟨rfl, I.hJ⟩
end Go.Proofs.YtdlanihbpbfbcaaDoor
/- The same texts; records, handed out by an iterator; all of them. -/
namespace Go.Proofs.YtdlanihbpbfbcaaDoor
open Go.RowKit Go.Sort
set_option linter.unusedVariables false
set_option maxRecDepth 100000
abbrev saK : List Nat := [0, 1, 4, 5]
abbrev sameV (v v2 : Value) (i : Nat) : Vs := frm 26 [(0, Sum.inl v), (1, Sum.inl v2), (4, Sum.inl (.bool false)), (5, Sum.inl (Z i))]
theorem neqX_run {a b : Tx} {q : Bool} (h : decide (a ≠ b) = q) (x y : Operand) (w : World) : (do eqGuard .neq 9 x y (str a) (str b); binOp .neq 9 (str a) (str b) : Sem Value).run Tryd.prog w = .ok (.bool q) w :=
  neqT_run (by rw [← h]; exact decide_eq_decide.2 ⟨fun h e => h (by rw [e]), fun h e => h (by
    have := congrArg (fun x : ByteArray => x.data.toList) e
    simpa using this)⟩) x y w
theorem same_any {w : World} {v v2 : Value} {l m : List Tx} (h : SlI 1 C1s (· < w.heap.size) w v l) (h2 : SlI 1 C1s (· < w.heap.size) w v2 m) (hl : l.length < 1000000000) : Calls Tryd.prog 12 #[v, v2] w fun e w' => e = .returned (.bool (decide (l = m))) ∧ Below w.heap.size w w' := by
  obtain ⟨ad, cap, rfl, hm⟩ := h
  obtain ⟨ad2, cap2, rfl, hm2⟩ := h2
  refine inQ (J := Below w.heap.size w) (F := (· < w.heap.size)) Tryd.func12 (Below.refl _ _) fun a I => ?_
  by_cases h4 : ¬ l.length = m.length
  · refine goQ [lnT ad l.length cap, lnT ad2 m.length cap2, bO .neq 3 (run_neqZ (x := l.length) (y := m.length) (b := true) (decide_eq_true (by omega)))] (nonR w) I fun β a w1 I hb => ?_
    exact outQ (v := .bool false) I ⟨by rw [decide_eq_false (fun e : l = m => h4 (by rw [e]))], I.hJ⟩
  have h4 := Classical.not_not.1 h4
  refine goQ [lnT ad l.length cap, lnT ad2 m.length cap2, bO .neq 3 (run_neqZ (x := l.length) (y := m.length) (b := false) (decide_eq_false (by omega)))] (nonR w) I fun β a w1 I hb => ?_
  let St : Nat → Act → World → Prop := fun k a w' => ∃ (i : Nat) (β : Nat → Nat) (u : Nat → Value), k = l.length - i ∧ i ≤ l.length ∧ (∀ j, j < i → l[j]? = m[j]?) ∧
    SI (Below w.heap.size w) (· < w.heap.size) [] β (cfC (bodyL Tryd.f12) (fillF (scrF 26 saK) u 0 (sameV (.slice ad l.length cap) (.slice ad2 m.length cap2) i)) [] 0) a w'
  refine lpM (bodyL Tryd.f12) St l.length ?_ ?_
  · obtain ⟨u, Iu⟩ := I.scr (bodyL Tryd.f12) (scrF 26 saK) (sameV (.slice ad l.length cap) (.slice ad2 m.length cap2) 0) [] 0
    exact ⟨0, β, u, by omega, Nat.zero_le _, fun j h => absurd h (Nat.not_lt_zero j), Iu⟩
  rintro k a3 w3 ⟨i, β3, u, rfl, hi, hok, I⟩
  refine wp_cfC (tm := fillF (scrF 26 saK) u 0 (sameV (.slice ad l.length cap) (.slice ad2 m.length cap2) i)) (rows := []) (nx := 0) ?_
  rcases Nat.lt_or_ge i l.length with hil | hil
  · have hil2 : i < m.length := by omega
    obtain ⟨x, k1⟩ : ∃ t, l[i]? = some t := ⟨_, List.getElem?_eq_getElem hil⟩
    obtain ⟨y, k2⟩ : ∃ t, m[i]? = some t := ⟨_, List.getElem?_eq_getElem hil2⟩
    obtain ⟨g, off, cs, rfl, hlt, hca, rfl⟩ := hm i _ k1
    obtain ⟨g2, off2, cs2, rfl, hlt2, hcb, rfl⟩ := hm2 i _ k2
    have hld : ∀ w', Below w.heap.size w w' → (loadVar 9 ⟨g, off + i * 1, none⟩).run Tryd.prog w' = .ok (str x) w' := fun w' hb => loadT (hca.keep (hb.block g hlt))
    have hld2 : ∀ w', Below w.heap.size w w' → (loadVar 9 ⟨g2, off2 + i * 1, none⟩).run Tryd.prog w' = .ok (str y) w' := fun w' hb => loadT (hcb.keep (hb.block g2 hlt2))
    refine goQ [lnT (some ⟨g, off, none⟩) l.length cap, lT i l.length (by omega)] (nonR w) I fun β4 a4 w4 I hb4 => ?_
    by_cases hxy : ¬ x = y
    · refine dwT (T := Below w.heap.size w) 9 [ixT g off l.length cap i hil, ldA 9 hld, ixT g2 off2 m.length cap2 i hil2, ldA 9 hld2, bO .neq 9 (neqX_run (decide_eq_true hxy))] (nonR w) (fun _ h => h) (PanOk.then (PanOk.qk PanOk.post)) I fun a5 w5 I => ?_
      refine goQ [] (nonR w) I fun β6 a6 w6 I hb6 => ?_
      refine endR (retV (v := .bool false) I ⟨?_, I.hJ⟩)
      rw [decide_eq_false (show ¬ l = m from fun h => hxy (by rw [h] at k1; rw [k1] at k2; cases k2; rfl))]
    have hxy := Classical.not_not.1 hxy
    refine dwT (T := Below w.heap.size w) 9 [ixT g off l.length cap i hil, ldA 9 hld, ixT g2 off2 m.length cap2 i hil2, ldA 9 hld2, bO .neq 9 (neqX_run (decide_eq_false (not_not_intro hxy)))] (nonR w) (fun _ h => h) (PanOk.then (PanOk.qk PanOk.post)) I fun a5 w5 I => ?_
    refine goQ [p1 i (by omega)] (nonR w) I fun β6 a6 w6 I hb6 => ?_
    obtain ⟨u', Iu⟩ := I.scr (bodyL Tryd.f12) (scrF 26 saK) (sameV (.slice (some ⟨g, off, none⟩) l.length cap) (.slice (some ⟨g2, off2, none⟩) m.length cap2) (i + 1)) [] 0
    refine endL ⟨l.length - (i + 1), by omega, i + 1, β6, u', rfl, hil, fun j hj => ?_, Iu⟩
    rcases Nat.lt_or_ge j i with hji | hji
    · exact hok j hji
    · obtain rfl : j = i := by omega
      rw [k1, k2, hxy]
  · obtain rfl : i = l.length := by omega
    refine goQ [lnT ad l.length cap, lF l.length l.length (by omega)] (nonR w) I fun β4 a4 w4 I hb4 => ?_
    refine endE 0 ?_
    refine goQ [] (nonR w) (I.exit _) fun β5 a5 w5 I hb5 => ?_
    refine outQ (v := .bool true) I ⟨?_, I.hJ⟩
    rw [decide_eq_true (show l = m from List.ext_getElem? fun j => by
      rcases Nat.lt_or_ge j l.length with hj | hj
      · exact hok j hj
      · rw [List.getElem?_eq_none hj, List.getElem?_eq_none (by omega)])]
/-- A box with a text. -/
def bxF (g : Nat) (s : Tx) : Lf := ⟨fun K w => K g ∧ HasRow w g #[str s], fun K K' w w' hk H => by
  obtain ⟨h1, t3, h3⟩ := H
  exact ⟨(hk g h1).1, t3, (hk g h1).2.trans h3⟩⟩
abbrev bxP (g : Nat) : Value := .pointer (some ⟨g, 0, none⟩)
theorem records_new (s : Tx) (w : World) : Calls Tryd.prog 13 #[str s] w fun e w' => ∃ g, e = .returned (.func (.func 18) #[] #[bxP g]) ∧ NW w [bxF g s] w' := by
  refine inQ (J := Below w.heap.size w) (F := (· < w.heap.size)) Tryd.func13 (Below.refl _ _) fun a I => ?_
  refine goQ [] (nonR w) I fun β a w1 I hb => ?_
  refine mkfX (fn := .func 18) (ss := [Sum.inr (0, 0)]) I ?_
  obtain ⟨g, hg⟩ : ∃ g, β 0 = g := ⟨_, rfl⟩
  have d0 := I.dis _ (rowOf_mem (id := 0) (c := #[str s]) (by kernel_rfl))
  simp only [hg] at d0
  have I := I.same (.func (.func 18) #[] #[bxP g])
  have e : (([Sum.inr (0, 0)] : List SV).map (up β)).toArray = #[bxP g] := by simp [up, hg]
  rw [e]
  refine goQ [] (nonR w) I fun β2 a2 w2 I2 hb2 => ?_
  have e0 : β2 0 = g := by rw [← hg]; exact hb2 0 (show 0 < 1 by decide)
  have r0 := I2.rowG 0 e0 (r := #[str s])
  refine outQ (v := .func (.func 18) #[] #[bxP g]) I2 ⟨g, rfl, I2.hJ, (· = g), fun k hk => ?_, fun f hf => ?_⟩
  · subst hk
    exact ⟨Nat.le_of_not_lt d0, r0.lt⟩
  · rw [List.mem_singleton.1 hf]
    exact ⟨rfl, r0⟩
/-- What the iterator reads. -/
structure XC (g : Nat) (s : Tx) (w : World) : Prop where
  rb : HasRow w g #[str s]
  tb : Tabs w ki
def rcE (l : List Tx) (i : Nat) : Array Value := #[str (l.getD i []), Z (pos l (i + 1))]
abbrev rcK : List Nat := [0, 1, 3]
abbrev rcV (y g p : Nat) : Vs := frm 25 [(0, Sum.inl (.func (.yield y) #[] #[])), (1, Sum.inl (bxP g)), (3, Sum.inl (Z p))]
section
variable {P : Program} {J : World → Prop} {F : Nat → Prop} {ds : List Deferred} {β : Nat → Nat} {c c0 : Cf} {a : Act} {w : World} {Q : Exit → Act → World → Prop} {n k : Nat}
theorem SI.toO (I : SI J F ds β c a w) : SI J F ds β (cfO (rgO c) ((rgO c).toList.take k) c.tm c.rows c.nx) a w := I.cf rfl rfl rfl
theorem atNK {ks : List Ki} (I : SI J F ds β c a w) (h : SI J F ds β (cfQ ks c.tm c.rows c.nx) a w → At P Q (cfQ ks c.tm c.rows c.nx) a w) (hd : c.dn = some .normal := by kernel_rfl) : At P (QK P Q ks) c a w := atN (atK I h) hd
/-- The call of a round, behind the operations ahead of it. -/
theorem yldM (dst : Tmp) {r : Nat} {args : List Value} {R : Ending → World → Prop} (I : SI J F ds β c a w) (hY : YieldAt Fence.wide (n - 1) P r args.toArray w R)
    (k' : ∀ e w', R e w' → ∃ (v : Value) (J' : World → Prop) (F' : Nat → Prop), e = .returned v ∧ Grow (fun k => ¬ F k) w w' ∧ J' w' ∧ (∀ k, k < w.heap.size → F' k → F k) ∧ ∀ a', SI J' F' ds β (cfO (rgO c0) ((rgO c0).toList.drop k).tail (c.tm.set dst (some (Sum.inl v))) c.rows c.nx) a' w' → At P (QK P Q (rgK c0)) (cfO (rgO c0) ((rgO c0).toList.drop k).tail (c.tm.set dst (some (Sum.inl v))) c.rows c.nx) a' w')
    (hc : yQ (rgO c0) c.tm ((rgO c0).toList.drop k) = some (r, args, some dst) := by kernel_rfl) (ho : c.ops = rgO c0 := by kernel_rfl) (hd : c.dn = some .normal := by kernel_rfl) : At P (thenL n P (rgO c0) (QK P Q (rgK c0)) ((rgO c0).toList.drop k)) c a w := by
  refine atN ?_ hd
  refine yieldM ((rgO c0).toList.drop k) dst I hY (fun e w' he => ?_) hc ho
  obtain ⟨v, J', F', rfl, hg, hj, hf, h⟩ := k' e w' he
  exact ⟨v, rfl, h _ ((I.move hg hj hf (some dst) (some v)).cf rfl rfl rfl)⟩
end
set_option maxHeartbeats 400000 in
theorem records_seq (n g : Nat) (s : Tx) (hs : s.length < 1000000000) : SeqM n Tryd.prog 18 #[bxP g] (rcE (rdA s)) (rdA s).length (XC g s) := by
  intro y J M0 V hJ hsz hM hX hY h0
  refine callsIn_wide.2 ?_
  show Calls Tryd.prog 18 #[.func (.yield y) #[] #[], bxP g] V _
  have R : ∀ i M, Rsrc (J i M) (fun k => k < V.heap.size ∨ M k) := fun i M => ⟨fun A B h g => hJ i M A B h g, fun A k h hk => hk.elim (fun hk => Nat.lt_of_lt_of_le hk (hsz i M A h)) (hM i M A k h)⟩
  have hlb : ∀ w', XC g s w' → (loadVar 9 ⟨g, 0, none⟩).run Tryd.prog w' = .ok (str s) w' := fun w' hx => loadT (g := g) (o := 0) fun j u hu => by rw [hx.rb.cell]; simpa using hu
  have hat := rd_at s
  generalize rdA s = l at *
  refine inQ (J := J 0 M0) (F := fun k => k < V.heap.size ∨ M0 k) Tryd.func18 h0 fun a I => ?_
  refine goQ [] (R 0 M0) I fun β a w1 I hb => ?_
  let St : Nat → Act → World → Prop := fun k a w' => ∃ (i : Nat) (M : Nat → Prop) (β : Nat → Nat) (u : Nat → Value), k = l.length - i ∧ i ≤ l.length ∧ SI (J i M) (fun k => k < V.heap.size ∨ M k) [] β (cfC (bodyL Tryd.f18) (fillF (scrF 25 rcK) u 0 (rcV y g (pos l i))) [] 0) a w'
  refine lpM (bodyL Tryd.f18) St l.length ?_ ?_
  · obtain ⟨u, Iu⟩ := I.scr (bodyL Tryd.f18) (scrF 25 rcK) (rcV y g 0) [] 0
    exact ⟨0, M0, β, u, by omega, Nat.zero_le _, by rw [pos_zero]; exact Iu⟩
  rintro k a3 w3 ⟨i, M, β3, u, rfl, hi, I⟩
  refine wp_cfC (tm := fillF (scrF 25 rcK) u 0 (rcV y g (pos l i))) (rows := []) (nx := 0) ?_
  obtain ⟨e1, e2, e3⟩ := hat i hi
  have hfi := fun (w' : World) (h : XC g s w') => first_any (s.drop (pos l i)) (by rw [List.length_drop]; omega) h.tb
  have hdr := fun w => from_run (l := s) (k := pos l i) e2 w
  rcases Nat.lt_or_ge i l.length with hil | hil
  · obtain ⟨x, hx⟩ : ∃ t, l[i]? = some t := ⟨_, List.getElem?_eq_getElem hil⟩
    have hxD : l.getD i [] = x := by rw [List.getD_eq_getElem?_getD, hx]; rfl
    have hY3 := hY i M
    unfold rcE at hY3
    rw [hxD] at hY3
    rw [hx] at e1
    rw [e1, rdT_some e1] at hfi
    have h8 := (rd1_spec e1).2.2
    rw [List.length_drop] at h8
    have hst := pos_step hx
    obtain ⟨p', hp'⟩ : ∃ z, pos l (i + 1) = z := ⟨_, rfl⟩
    have hX2 := hX i M
    rw [hp'] at hY3 hst
    generalize pos l i = p at *
    generalize s.drop p = sd at *
    refine goT (T := XC g s) [ldA 9 hlb, sO 9 hdr, cA Tryd.func19 hfi, ntO true, lnO x, bO .add 3 (run_addZ (x := 8) (y := x.length) (z := (8 + x.length : Nat)) (by rw [wz (by omega) (by omega)]; omega)), bO .add 3 (run_addZ (x := p) (y := (8 + x.length : Nat)) (z := p') (by rw [wz (by omega) (by omega)]; omega))] (R i M) hX2 I fun β4 a4 w4 I hb4 => ?_
    refine regY n 3 ?_
    refine goT (T := XC g s) [] (R i M) hX2 I.toO fun β5 a5 w5 I hb5 => ?_
    refine yldM (args := [str x, Z p']) 23 I (hY3 w5 hil I.hJ) fun e w6 he => ?_
    obtain ⟨rfl, M', hj6, hg6, hm6⟩ := he
    refine ⟨.bool true, J (i + 1) M', fun k => k < V.heap.size ∨ M' k, rfl, hg6, hj6, fun k hk h => h.elim .inl fun h => (hm6 k h).elim .inr fun h => by omega, fun a6 I6 => ?_⟩
    refine goQ [ntO true] (R (i + 1) M') I6 fun β7 a7 w7 I hb7 => ?_
    refine atNK I fun I => ?_
    refine goQ [] (R (i + 1) M') I fun β7 a7 w7 I hb7 => ?_
    obtain ⟨u', Iu⟩ := I.scr (bodyL Tryd.f18) (scrF 25 rcK) (rcV y g p') [] 0
    exact endL ⟨l.length - (i + 1), by omega, i + 1, M', β7, u', rfl, hil, by rw [hp']; exact Iu⟩
  · obtain rfl : i = l.length := by omega
    rw [List.getElem?_eq_none (Nat.le_refl _)] at e1
    rw [e1] at hfi
    generalize pos l l.length = p at *
    generalize s.drop p = sd at *
    refine goT (T := XC g s) [ldA 9 hlb, sO 9 hdr, cA Tryd.func19 hfi, ntO false] (R _ M) (hX _ M) I fun β4 a4 w4 I hb4 => ?_
    exact endR (retV (v := .tuple #[]) I ⟨⟨_, rfl⟩, M, I.hJ⟩)
end Go.Proofs.YtdlanihbpbfbcaaDoor
/- All records that bytes begin with, of the program. -/
namespace Go.Proofs.YtdlanihbpbfbcaaDoor
open Go.RowKit Go.Sort
set_option linter.unusedVariables false
set_option maxRecDepth 100000
theorem wpIn_blockN {F : Fence} {n : Nat} {P : Program} {x : Code} {id : Nat} {a : Act} {w : World} {R : Act → World → Prop} (h : x.wpIn F n P (fun e a w => e = .normal ∧ R a w) a w) : (Code.block id x).wpIn F n P (fun e a w => e = .normal ∧ R a w) a w := wpIn_block (wpIn_mono h fun e a w hq => by
  obtain ⟨rfl, hr⟩ := hq
  exact ⟨rfl, hr⟩)
theorem own_cap {w : World} {b e sz n m cap : Nat} {ad : Option Addr} {xs : List Value} (h : w.ownsRow b e sz (.slice ad m cap) n xs) (hm : m = n) : m ≤ cap := by
  subst hm
  rcases h.2 with ⟨e, _⟩ | ⟨g, cap', cur, e, _, _, h, _⟩
  · cases e
    exact Nat.le_refl _
  · cases e
    exact h
set_option maxHeartbeats 1000000 in
theorem frames_any (s : Tx) (hs : s.length < 100000000) {w : World} (ht : Tabs w ki) : Calls Tryd.prog 8 #[str s] w fun e w' => ∃ ad cap, e = .returned (.tuple #[.slice ad (rdA s).length cap, Z (pos (rdA s) (rdA s).length)]) ∧ (rdA s).length ≤ cap ∧ NW w [txF (.slice ad (rdA s).length cap) (rdA s)] w' := by
  have hsq := fun g => records_seq 5 g s (by omega)
  have hN : (rdA s).length ≤ s.length := by
    have := rd_at s _ (Nat.le_refl _)
    omega
  generalize rdA s = l at *
  refine inM (J := GS w w w.heap.size noK (· < w.heap.size) [] []) (F := GF noK (· < w.heap.size) []) 6 Tryd.func8 (GS.start w fun f hf => by cases hf) fun a I => ?_
  refine goQ [] (GS.rsr _ _ _ _ _ _ _) I fun β1 a1 w1 I hb1 => ?_
  refine mcall (f := 13) (ss := [Sum.inl (str s)]) Tryd.func13 I ((records_new s w1).mono fun e w2 he => ?_)
  obtain ⟨g, rfl, hn⟩ := he
  obtain ⟨K, I⟩ := I.gs hn (.func (.func 18) #[] #[bxP g])
  refine goQ [] (GS.rsr _ _ _ _ _ _ _) (I.nil 9 1) fun β3 a3 w3 I hb3 => ?_
  have hws := I.hJ.bw.size
  refine rangeG 6 (by decide) Tryd.func18 (hsq g) (fun i (s : Option Addr × Nat) => [txO (.slice s.1 i s.2) (l.take i)]) (fun i s => [(0, #[.slice s.1 i s.2]), (1, #[Z (pos l i)])]) (none, 0) I
    (fun o ho => by rw [List.mem_singleton.1 ho]; exact ⟨rfl, rfl⟩) (fun i s => rfl) (fun i s W Is => ⟨(Is.hJ.atK 0 (f := bxF g _) rfl).2, ht.below Is.hJ.bw⟩) (fun i => by kernel_rfl)
    (fun i => ((parV [10, 11] (rcE l i).toList I.cfg.tm).set 6 (some (Sum.inl (str (l.getD i []))))).set 7 (some (Sum.inl (Z (pos l (i + 1)))))) (fun i => []) 2 (of_decide_eq_true (by kernel_rfl)) ?_ ?_ ?_
  · intro y i W K' a' hi IA hK
    have hA : rfA I.cfg = (Code.region 4 (regO Tryd.f8 4) false).seq (.region 5 (regO Tryd.f8 5) false) := by kernel_rfl
    show (rfA I.cfg).wpIn _ _ _ _ _ _
    rw [hA]
    refine wpIn_seq (regR IA fun IA => ?_)
    refine goQ [] (nonR W) IA fun β4 a4 w4 IB hb4 => ?_
    refine atN (regR IB fun IB => ?_)
    refine goQ [] (nonR W) IB fun β5 a5 w5 IC hb5 => ?_
    exact atN (hK β5 a5 w5 _ IC (agT (agL hb4) (agL hb5)) (by kernel_rfl) (by kernel_rfl) (by kernel_rfl))
  · intro y i s β4 a4 WR Kp hi I4
    obtain ⟨x, hx⟩ : ∃ t, l[i]? = some t := ⟨_, List.getElem?_eq_getElem hi⟩
    have hxD : l.getD i [] = x := by rw [List.getD_eq_getElem?_getD, hx]; rfl
    have htk := take_get hx
    obtain ⟨ad', cap'⟩ := s
    have hB : rfB I.cfg = Code.block 1 ((Code.region 6 (regO Tryd.f8 6) false).seq (.region 7 (regO Tryd.f8 7) false)) := by kernel_rfl
    show (rfB I.cfg).wpIn _ _ _ _ _ _
    rw [hB]
    rw [hxD] at I4
    refine wpIn_blockN (wpIn_seq (regR I4 fun I4 => ?_))
    refine goQ [] (GS.rsr _ _ _ _ _ _ _) I4 fun β5 a5 w5 I5 hb5 => ?_
    refine app_tx [] [] x htk I5 (by rw [List.length_take]; omega) (by omega) fun ad8 cap8 a8 w8 I8 => ?_
    refine goQ [] (GS.rsr _ _ _ _ _ _ _) I8 fun β9 a9 w9 I9 hb9 => ?_
    refine atN (regR I9 fun I9 => ?_)
    refine goQ [] (GS.rsr _ _ _ _ _ _ _) I9 fun β10 a10 w10 I10 hb10 => ?_
    exact atN ⟨rfl, (ad8, cap8), β10, _, agT (agL hb5) (agT (agL hb9) (agL hb10)), I10, by kernel_rfl⟩
  · intro D W a' s hD hDD I4
    obtain ⟨ad', cap'⟩ := s
    refine atK I4 fun I4 => ?_
    refine goQ [] (GS.rsr _ _ _ _ _ _ _) I4 fun β5 a5 w5 I5 hb5 => ?_
    refine dwS (T := fun _ => True) [] [] (fun _ _ _ => True) (fun _ _ _ _ _ _ => trivial) (GS.rsr _ _ _ _ _ _ _) (fun _ _ => trivial) I5 (fun q hq => (by cases hq)) fun vs a6 w6 _ I6 => ?_
    refine goQ [] (GS.rsr _ _ _ _ _ _ _) I6 fun β7 a7 w7 I7 hb7 => ?_
    have hJ := I7.hJ
    rw [List.take_length] at hJ
    exact outM (v := .tuple #[.slice ad' l.length cap', Z (pos l l.length)]) I7 ((hJ.nc D rfl).trans hDD) ⟨_, _, rfl, own_cap (hJ.ow _ List.mem_cons_self) (by rw [List.length_map]), (hJ.fin (by omega) (by omega) _).newT⟩
end Go.Proofs.YtdlanihbpbfbcaaDoor
