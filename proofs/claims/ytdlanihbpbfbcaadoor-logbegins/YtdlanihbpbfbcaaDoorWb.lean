/- Ground for word: integers, lengths, and a row of bytes that grows. -/
import Derived.Test.YtdlanihbpbfbcaaDoorXs
import Derived.Lib.AppendStr
import Derived.Lib.AppendZerosOnto
import Derived.Lib.BufferWrite
import Derived.Laws.IdiomStrings
import Derived.Laws.BytesArg
namespace Go.Proofs.YtdlanihbpbfbcaaDoor
open Go.RowKit Go.Sort
set_option linter.unusedVariables false
set_option linter.unusedSimpArgs false
set_option maxRecDepth 100000
abbrev Z (n : Int) : Value := .int .i64 n
theorem wz {n : Int} (h0 : -1000000000000000000 ≤ n) (h : n < 1000000000000000000) : IntKind.i64.wrap n = n := by
  rw [IntKind.wrap_i64 n]; omega
theorem run_addZ {x y z : Int} (h : IntKind.i64.wrap (x + y) = z) (o1 o2 : Operand) (w : World) : (do eqGuard .add 3 o1 o2 (Z x) (Z y); binOp .add 3 (Z x) (Z y) : Sem Value).run Tryd.prog w = .ok (Z z) w := by simp [go_sem, h]
theorem run_subZ {x y z : Int} (h : IntKind.i64.wrap (x - y) = z) (o1 o2 : Operand) (w : World) : (do eqGuard .sub 3 o1 o2 (Z x) (Z y); binOp .sub 3 (Z x) (Z y) : Sem Value).run Tryd.prog w = .ok (Z z) w := by simp [go_sem, h]
theorem run_mulZ {x y z : Int} (h : IntKind.i64.wrap (x * y) = z) (o1 o2 : Operand) (w : World) : (do eqGuard .mul 3 o1 o2 (Z x) (Z y); binOp .mul 3 (Z x) (Z y) : Sem Value).run Tryd.prog w = .ok (Z z) w := by simp [go_sem, h]
theorem run_remZ {x y z : Int} (hy : y ≠ 0) (h : x.tmod y = z) (o1 o2 : Operand) (w : World) : (do eqGuard .rem 3 o1 o2 (Z x) (Z y); binOp .rem 3 (Z x) (Z y) : Sem Value).run Tryd.prog w = .ok (Z z) w := by
  simp [go_sem, h, hy]
theorem run_lssZ {x y : Int} {b : Bool} (h : decide (x < y) = b) (o1 o2 : Operand) (w : World) : (do eqGuard .lss 3 o1 o2 (Z x) (Z y); binOp .lss 3 (Z x) (Z y) : Sem Value).run Tryd.prog w = .ok (.bool b) w := by simp [go_sem, h]
theorem run_gtrZ {x y : Int} {b : Bool} (h : decide (y < x) = b) (o1 o2 : Operand) (w : World) : (do eqGuard .gtr 3 o1 o2 (Z x) (Z y); binOp .gtr 3 (Z x) (Z y) : Sem Value).run Tryd.prog w = .ok (.bool b) w := by simp [go_sem, h]
theorem run_geqZ {x y : Int} {b : Bool} (h : decide (y ≤ x) = b) (o1 o2 : Operand) (w : World) : (do eqGuard .geq 3 o1 o2 (Z x) (Z y); binOp .geq 3 (Z x) (Z y) : Sem Value).run Tryd.prog w = .ok (.bool b) w := by simp [go_sem, h]
theorem run_leqZ {x y : Int} {b : Bool} (h : decide (x ≤ y) = b) (o1 o2 : Operand) (w : World) : (do eqGuard .leq 3 o1 o2 (Z x) (Z y); binOp .leq 3 (Z x) (Z y) : Sem Value).run Tryd.prog w = .ok (.bool b) w := by simp [go_sem, h]
theorem run_eqlZ {x y : Int} {b : Bool} (h : decide (x = y) = b) (o1 o2 : Operand) (w : World) : (do eqGuard .eql 3 o1 o2 (Z x) (Z y); binOp .eql 3 (Z x) (Z y) : Sem Value).run Tryd.prog w = .ok (.bool b) w := by subst h; by_cases hx : x = y <;> simp [go_sem, hx]
theorem run_neqZ {x y : Int} {b : Bool} (h : decide (x ≠ y) = b) (o1 o2 : Operand) (w : World) : (do eqGuard .neq 3 o1 o2 (Z x) (Z y); binOp .neq 3 (Z x) (Z y) : Sem Value).run Tryd.prog w = .ok (.bool b) w := by
  by_cases hx : x = y <;> subst h <;> simp [go_sem, hx]
theorem nonR (N : World) : Rsrc (Below N.heap.size N) (· < N.heap.size) := by
  refine ⟨fun w w' h g => ⟨g.os.trans h.os, g.tape.trans h.tape, g.output.trans h.output, Nat.le_trans h.size g.size, fun k hk => (g.block k (Nat.lt_of_lt_of_le hk h.size) hk).trans (h.block k hk)⟩, fun w k h hk => Nat.lt_of_lt_of_le hk h.size⟩
/-- The row of bytes behind an append. -/
structure Grw (v v' : Value) (w w' : World) : Prop where
  gr : w.grownBy w' v.ownBlock
  nb : ∀ k, v'.ownBlock = some k → v.ownBlock = some k ∨ w.heap.size ≤ k
theorem hI5 : ∃ i, Tryd.prog.info? 5 = some i ∧ i.zero = some (.int .u8 0) ∧ i.size = 1 ∧ i.bytes = 1 := by
  have h : (Tryd.prog.info? 5).map (fun i => (i.zero, i.size, i.bytes)) = some (some (.int .u8 0), 1, 1) := by kernel_rfl
  cases hq : Tryd.prog.info? 5 with
  | none => rw [hq] at h; simp at h
  | some i => rw [hq] at h; simp at h; exact ⟨i, rfl, h.1, h.2.1, h.2.2⟩
abbrev bc (l : List UInt8) : List Value := l.map fun b => Value.int .u8 b.toNat
theorem wrap0 : IntKind.i64.wrap 0 = 0 := by rw [IntKind.wrap_i64]; rfl
theorem zeroC (k : Nat) : (Builtin.zeroCells (Value.int .u8 0).cells k).toList = bc (List.replicate k 0) := by
  apply List.ext_getElem
  · simp [Builtin.zeroCells, Value.cells]
  · intro i h1 h2
    simp [Builtin.zeroCells, Value.cells, Nat.mod_one]
theorem strC (s : ByteArray) : Lib.strCells s = bc s.data.toList := rfl
/-- Bytes over bytes. -/
def ovr {α : Type} (l : List α) (o : Nat) (m : List α) : List α := l.take o ++ m ++ l.drop (o + m.length)
section
variable {P : Program} {J : World → Prop} {F : Nat → Prop} {ds : List Deferred} {β : Nat → Nat} {c : Cf} {a : Act} {w : World} {Q : Exit → Act → World → Prop}
/-- The builtin call that is next. -/
def bltQ (c : Cf) : Option (Builtin × Array TypeId × TypeId × List SV) := match opAtQ c with
  | some o => match o.op with
    | .call { callee := .builtin b, args := xs, argTypes := ts } => (xs.toList.mapM (evQ c.tm)).map fun ss => (b, ts, o.type, ss)
    | _ => none
  | none => none
theorem bltQ_some {b : Builtin} {ts : Array TypeId} {ty : TypeId} {ss : List SV} (hc : bltQ c = some (b, ts, ty, ss)) (I : SI J F ds β c a w) : ∃ o, opAtQ c = some o ∧ ∃ cs, (execOp a.eval o).run P w = (builtin b ts ty cs (ss.map (up β)).toArray).run P w := by
  unfold bltQ at hc
  split at hc
  · next o ho =>
    refine ⟨o, ho, ?_⟩
    split at hc
    · next b' xs ts' hop =>
      simp only [Option.map_eq_some_iff, Prod.mk.injEq] at hc
      obtain ⟨ss', hm, rfl, rfl, rfl, rfl⟩ := hc
      have hx := mapS_ok I.fr hm
      have hxa : xs.map a.eval = (ss'.map (up β)).toArray := by rw [← hx]; apply Array.ext'; simp
      refine ⟨xs.map fun | .const _ => true | _ => false, ?_⟩
      unfold execOp
      simp only [hop, resolve, invoke, Sem.run_bind, Sem.run_pure, Result.andThen_ok, hxa]
      rfl
    · cases hc
  · cases hc
theorem appQ {ts : Array TypeId} {ty : TypeId} {ss : List SV} (I : SI J F ds β c a w) {v : Value} {w' : World} (hr : (Builtin.append_ ts ty (ss.map (up β)).toArray).run P w = .ok v w') (k : At P Q (nxtQ c v) (a.put (dstQ c) v) w') (hc : bltQ c = some (.append, ts, ty, ss) := by kernel_rfl) : At P Q c a w := by
  obtain ⟨o, ho, cs, he⟩ := bltQ_some (P := P) hc I
  refine vstep ho I (v := v) (w' := w') ?_ k
  rw [he]
  simp only [builtin, Sem.run_bind, hr, Result.andThen_ok, Sem.run_pure]
theorem cpyQ {ts : Array TypeId} {ty : TypeId} {ss : List SV} (I : SI J F ds β c a w) {v : Value} {w' : World} (hr : (Builtin.copy_ ts ty (ss.map (up β)).toArray).run P w = .ok v w') (k : At P Q (nxtQ c v) (a.put (dstQ c) v) w') (hc : bltQ c = some (.copy, ts, ty, ss) := by kernel_rfl) : At P Q c a w := by
  obtain ⟨o, ho, cs, he⟩ := bltQ_some (P := P) hc I
  refine vstep ho I (v := v) (w' := w') ?_ k
  rw [he]
  simp only [builtin, Sem.run_bind, hr, Result.andThen_ok, Sem.run_pure]
/-- A load of what is no known row. -/
def ldQ (c : Cf) : Option (TypeId × SV) := match opAtQ c with
  | some o => match o.op with
    | .load t x => (evQ c.tm x).map fun s => (t, s)
    | _ => none
  | none => none
theorem lodQ {t : TypeId} {ad : Addr} (I : SI J F ds β c a w) {v : Value} (hr : (loadVar t ad).run P w = .ok v w) (k : At P Q (nxtQ c v) (a.put (dstQ c) v) w) (hc : ldQ c = some (t, Sum.inl (.pointer (some ad))) := by kernel_rfl) : At P Q c a w := by
  unfold ldQ at hc
  split at hc
  · next o ho =>
    split at hc
    · next t' x hop =>
      simp only [Option.map_eq_some_iff, Prod.mk.injEq] at hc
      obtain ⟨s, hs, rfl, rfl⟩ := hc
      refine vstep ho I (v := v) (w' := w) ?_ k
      unfold execOp
      simp only [hop, evQ_ok I.fr hs, up, Instr.loadAt, Instr.sureAddr, Sem.run_bind, Sem.run_pure, Result.andThen_ok, hr]
    · cases hc
  · cases hc
/-- A store into what is no known row. -/
def stQ (c : Cf) : Option (TypeId × SV × SV) := match opAtQ c with
  | some o => match o.op with
    | .store t x y => match evQ c.tm x, evQ c.tm y with
      | some s, some u => some (t, s, u)
      | _, _ => none
    | _ => none
  | none => none
theorem stoQ {t : TypeId} {ad : Addr} {v : Value} {w' : World} (I : SI J F ds β c a w) (hr : (storeVar t ad v).run P w = .ok () w') (k : At P Q (nextQ c (dstQ c) none) (a.put (dstQ c) undef) w') (hc : stQ c = some (t, Sum.inl (.pointer (some ad)), Sum.inl v) := by kernel_rfl) : At P Q c a w := by
  unfold stQ at hc
  split at hc
  · next o ho =>
    split at hc
    · next t' x y hop =>
      split at hc
      · next s u hs hu =>
        simp only [Option.some.injEq, Prod.mk.injEq] at hc
        obtain ⟨rfl, rfl, rfl⟩ := hc
        obtain ⟨hd, ⟨rest, hr'⟩, hw⟩ := opAtQ_some ho
        refine at_cons hd hr' (wantQ_ok I hw) ?_
        unfold Oper.wp execOp
        simp only [hop, evQ_ok I.fr hs, evQ_ok I.fr hu, up, Instr.storeAt, Instr.sureAddr, Sem.run_bind, Sem.run_pure, Result.andThen_ok, hr]
        replace k := k.out
        unfold AtD at k
        simp only [nextQ, hd, dstQ, hr', List.tail_cons, List.head?_cons, Option.bind_some] at k
        exact k
      · cases hc
    · cases hc
  · cases hc
/-- A conversion that reads memory. -/
def cvQ (c : Cf) : Option (TypeId × TypeId × SV) := match opAtQ c with
  | some o => match o.op with
    | .convert s t x => (evQ c.tm x).map fun u => (s, t, u)
    | _ => none
  | none => none
theorem cnvQ {s t : TypeId} {x v : Value} {w' : World} (I : SI J F ds β c a w) (hr : (convert s t x).run P w = .ok v w') (k : At P Q (nxtQ c v) (a.put (dstQ c) v) w') (hc : cvQ c = some (s, t, Sum.inl x) := by kernel_rfl) : At P Q c a w := by
  unfold cvQ at hc
  split at hc
  · next o ho =>
    split at hc
    · next s' t' y hop =>
      simp only [Option.map_eq_some_iff, Prod.mk.injEq] at hc
      obtain ⟨u, hs, rfl, rfl, rfl⟩ := hc
      refine vstep ho I (v := v) (w' := w') ?_ k
      unfold execOp
      simp only [hop, evQ_ok I.fr hs, up, Sem.run_bind, hr, Result.andThen_ok, Sem.run_pure]
    · cases hc
  · cases hc
end
/-- The length of a slice, as a fact. -/
def lS {T : World → Prop} {t : Nat} {e : TypeId} (hu : Tryd.prog.underlying t = some (.slice e)) {ad : Option Addr} {n cap : Nat} {z : Int} (h : (n : Int) = z) : Fa Tryd.prog T := Sum.inr (Sum.inr
  { ok := fun | .call { callee := .builtin .len, args := _, argTypes := ts } => ts == #[t] | _ => false
    xs := #[.slice ad n cap]
    v := Z z
    fr := true
    h := by
      intro a w oo _ hok hx
      cases hop : oo.op with
      | call cc =>
        obtain ⟨callee, xs, ts⟩ := cc
        rw [hop] at hok hx
        cases callee with
        | builtin b =>
          cases b <;> simp at hok
          subst hok
          simp only [opnds] at hx
          have hx2 : xs.map a.eval = #[.slice ad n cap] := by rw [← hx]; apply Array.ext'; simp
          unfold execOp
          simp only [hop, resolve, invoke, Sem.run_bind, Sem.run_pure, Result.andThen_ok, hx2, builtin]
          subst h
          simp [Builtin.len_, run_underlying hu, goInt]
        | _ => simp at hok
      | _ => rw [hop] at hok; simp at hok })
end Go.Proofs.YtdlanihbpbfbcaaDoor
