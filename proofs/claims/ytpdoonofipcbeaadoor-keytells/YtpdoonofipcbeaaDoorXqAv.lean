/- Operations told one by one, by what their operands are. No function of the program is named here. -/
import Derived.Test.YtpdoonofipcbeaaDoorXqAu
import Derived.WalkSmall
import Derived.Deep.Light
namespace Go.Proofs.YtpdoonofipcbeaaDoor
open Go.RowKit Go.Sort
set_option linter.unusedVariables false
section
variable {P : Program} {Q : Exit → Act → World → Prop} {o : Oper} {a' : Act} {w' : World}
theorem evc (a : Act) (v : Value) : a.eval (.const v) = v := rfl
theorem ob_move (x : Operand) (ho : o.op = .move x) {v : Value} (hx : a'.eval x = v) : o.wp P a' w' (fun a'' w'' => a'' = a'.put o.dst v ∧ Below w'.heap.size w' w'') Q := by
  refine wp_valF (v := v) (w1 := w') ?_ ⟨rfl, Below.refl _ _⟩
  unfold execOp; simp only [ho, hx, Sem.run_pure]
theorem ob_assign (x : Operand) (ho : o.op = .assign x) {v : Value} (hx : a'.eval x = v) : o.wp P a' w' (fun a'' w'' => a'' = a'.put o.dst v ∧ Below w'.heap.size w' w'') Q := by
  refine wp_valF (v := v) (w1 := w') ?_ ⟨rfl, Below.refl _ _⟩
  unfold execOp; simp only [ho, hx, Sem.run_pure]
theorem ob_pick (c x y : Operand) (ho : o.op = .pick c x y) {q : Bool} (hc : a'.eval c = .bool q) {v : Value} (hv : (if q = true then a'.eval x else a'.eval y) = v) : o.wp P a' w' (fun a'' w'' => a'' = a'.put o.dst v ∧ Below w'.heap.size w' w'') Q := by
  refine wp_valF (v := v) (w1 := w') ?_ ⟨rfl, Below.refl _ _⟩
  unfold execOp; simp only [ho, hc, Sem.run_bind, Sem.run_pure, asBool, Result.andThen_ok, hv]
theorem ob_extract (x : Operand) (i : Nat) (ho : o.op = .extract x i) {vs : Array Value} (hx : a'.eval x = .tuple vs) {v : Value} (hv : vs[i]? = some v) : o.wp P a' w' (fun a'' w'' => a'' = a'.put o.dst v ∧ Below w'.heap.size w' w'') Q := by
  refine wp_valF (v := v) (w1 := w') ?_ ⟨rfl, Below.refl _ _⟩
  unfold execOp; simp [ho, hx, Instr.extract, hv]
theorem ob_fieldAddr (t : TypeId) (x : Operand) (f : Nat) (ho : o.op = .fieldAddr t x f) {p v : Value} (hx : a'.eval x = p) (h : (Instr.fieldAt t p f).run P w' = .ok v w') : o.wp P a' w' (fun a'' w'' => a'' = a'.put o.dst v ∧ Below w'.heap.size w' w'') Q := by
  refine wp_valF (v := v) (w1 := w') ?_ ⟨rfl, Below.refl _ _⟩
  unfold execOp; simp only [ho, hx, Sem.run_bind, Sem.run_pure, h, Result.andThen_ok]
theorem ob_indexAddr (t : TypeId) (x y : Operand) (ho : o.op = .indexAddr t x y) {p i v : Value} (hx : a'.eval x = p) (hy : a'.eval y = i) (h : (Instr.indexAt t p i).run P w' = .ok v w') : o.wp P a' w' (fun a'' w'' => a'' = a'.put o.dst v ∧ Below w'.heap.size w' w'') Q := by
  refine wp_valF (v := v) (w1 := w') ?_ ⟨rfl, Below.refl _ _⟩
  unfold execOp; simp only [ho, hx, hy, Sem.run_bind, Sem.run_pure, h, Result.andThen_ok]
theorem ob_unOp (u : UnOp) (t : TypeId) (x : Operand) (ho : o.op = .unOp u t x) {p v : Value} (hx : a'.eval x = p) (h : (Op.unary u p).run P w' = .ok v w') : o.wp P a' w' (fun a'' w'' => a'' = a'.put o.dst v ∧ Below w'.heap.size w' w'') Q := by
  refine wp_valF (v := v) (w1 := w') ?_ ⟨rfl, Below.refl _ _⟩
  unfold execOp; simp only [ho, hx, Sem.run_bind, Sem.run_pure, h, Result.andThen_ok]
theorem ob_binOp (b : BinOp) (t : TypeId) (x y : Operand) (t2 : TypeId) (ho : o.op = .binOp b t x y t2) {p q v : Value} (hx : a'.eval x = p) (hy : a'.eval y = q) (h : (do eqGuard b t x y p q; binOp b t p q : Sem Value).run P w' = .ok v w') : o.wp P a' w' (fun a'' w'' => a'' = a'.put o.dst v ∧ Below w'.heap.size w' w'') Q := by
  refine wp_valF (v := v) (w1 := w') ?_ ⟨rfl, Below.refl _ _⟩
  unfold execOp; simp only [ho, hx, hy]
  rw [Sem.run_bind, h, Result.andThen_ok, Sem.run_pure]
theorem ob_build (t : TypeId) (ps : Array (Nat × Operand)) (ho : o.op = .build t ps) {vs : Array (Nat × Value)} {v : Value} (hp : ps.map (fun x => (x.1, a'.eval x.2)) = vs) (h : (Instr.build t vs).run P w' = .ok v w') : o.wp P a' w' (fun a'' w'' => a'' = a'.put o.dst v ∧ Below w'.heap.size w' w'') Q := by
  refine wp_valF (v := v) (w1 := w') ?_ ⟨rfl, Below.refl _ _⟩
  unfold execOp; simp only [ho]
  rw [Sem.run_bind, show (ps.map fun (i, x) => (i, a'.eval x)) = vs from hp, h, Result.andThen_ok, Sem.run_pure]
theorem ob_fcall (f : FuncId) (xs : Array Operand) (ts : Array TypeId) (ho : o.op = .call { callee := .value (.func f), args := xs, argTypes := ts }) {vs : Array Value} (hx : xs.map a'.eval = vs) {v : Value}
    (hr : ∀ (a : Act) (ty : TypeId) (w : World), (do let d ← resolve a.eval { callee := .value (.func f), args := xs, argTypes := ts } ty; invoke d.target d.args : Sem Next).run P w = .ok (.enter f (xs.map a.eval)) w)
    (hc : Calls P f vs w' fun e w'' => e = .returned v ∧ Below w'.heap.size w' w'') : o.wp P a' w' (fun a'' w'' => a'' = a'.put o.dst v ∧ Below w'.heap.size w' w'') Q := by
  refine ob_call (f := f) (args := vs) ?_ hc
  unfold execOp
  simp only [ho]
  rw [hr, hx]
theorem ob_xcall (f : FuncId) (xs : Array Operand) (ts : Array TypeId) (ho : o.op = .call { callee := .value (.func f), args := xs, argTypes := ts }) {vs : Array Value} (hx : xs.map a'.eval = vs) {v : Value}
    (hr : ∀ (a : Act) (ty : TypeId) (w : World), (do let d ← resolve a.eval { callee := .value (.func f), args := xs, argTypes := ts } ty; invoke d.target d.args : Sem Next).run P w = (callFunc f (xs.map a.eval)).run P w)
    (hc : (callFunc f vs).run P w' = .ok (.value v) w') : o.wp P a' w' (fun a'' w'' => a'' = a'.put o.dst v ∧ Below w'.heap.size w' w'') Q := by
  refine wp_valF (v := v) (w1 := w') ?_ ⟨rfl, Below.refl _ _⟩
  unfold execOp
  simp only [ho]
  rw [hr, hx, hc]
variable {ρ : Operand → Value}
theorem am0 : (#[] : Array Operand).map ρ = #[] := by simp
theorem am1 {x : Operand} {v : Value} (h : ρ x = v) : #[x].map ρ = #[v] := by simp [h]
theorem am2 {x y : Operand} {v u : Value} (h : ρ x = v) (h2 : ρ y = u) : #[x, y].map ρ = #[v, u] := by simp [h, h2]
theorem am3 {x y z : Operand} {v u t : Value} (h : ρ x = v) (h2 : ρ y = u) (h3 : ρ z = t) : #[x, y, z].map ρ = #[v, u, t] := by simp [h, h2, h3]
theorem am4 {x y z q : Operand} {v u t s : Value} (h : ρ x = v) (h2 : ρ y = u) (h3 : ρ z = t) (h4 : ρ q = s) : #[x, y, z, q].map ρ = #[v, u, t, s] := by simp [h, h2, h3, h4]
theorem am5 {x y z q r : Operand} {v u t s k : Value} (h : ρ x = v) (h2 : ρ y = u) (h3 : ρ z = t) (h4 : ρ q = s) (h5 : ρ r = k) : #[x, y, z, q, r].map ρ = #[v, u, t, s, k] := by simp [h, h2, h3, h4, h5]
theorem pm0 : (#[] : Array (Nat × Operand)).map (fun x => (x.1, ρ x.2)) = #[] := by simp
theorem pm1 {i : Nat} {x : Operand} {v : Value} (h : ρ x = v) : #[(i, x)].map (fun x => (x.1, ρ x.2)) = #[(i, v)] := by simp [h]
theorem pm2 {i j : Nat} {x y : Operand} {v u : Value} (h : ρ x = v) (h2 : ρ y = u) : #[(i, x), (j, y)].map (fun x => (x.1, ρ x.2)) = #[(i, v), (j, u)] := by simp [h, h2]
theorem pm3 {i j k : Nat} {x y z : Operand} {v u t : Value} (h : ρ x = v) (h2 : ρ y = u) (h3 : ρ z = t) : #[(i, x), (j, y), (k, z)].map (fun x => (x.1, ρ x.2)) = #[(i, v), (j, u), (k, t)] := by simp [h, h2, h3]
theorem pm4 {i j k l : Nat} {x y z q : Operand} {v u t s : Value} (h : ρ x = v) (h2 : ρ y = u) (h3 : ρ z = t) (h4 : ρ q = s) : #[(i, x), (j, y), (k, z), (l, q)].map (fun x => (x.1, ρ x.2)) = #[(i, v), (j, u), (k, t), (l, s)] := by simp [h, h2, h3, h4]
end
theorem resAT {P : Program} {fn : Func} {p q : Tmp} {ty : TypeId} (h : fn.results = #[.cell p ty, .tmp q]) {tmps : Array Value} {w : World} {g : Nat} {c : Array Value} {d : TypeDesc} {v : Value}
    (h1 : tmps.getD p undef = .pointer (some ⟨g, 0, none⟩)) (h2 : tmps.getD q undef = v) (r1 : HasRow w g c) (hu : P.underlying ty = some d) (hd : aggB d = true) (hi : (P.info? ty).map (·.size) = some c.size) : (results fn tmps).run P w = .ok (.tuple #[.agg c, v]) w := by
  obtain ⟨t, r1⟩ := r1
  have h1' : tmps[p]?.getD undef = .pointer (some ⟨g, 0, none⟩) := by rw [← h1]; simp
  have h2' : tmps[q]?.getD undef = v := by rw [← h2]; simp
  have k1 := run_loadVar_row (P := P) w g t ty c (0, 0) d r1 hu (by cases d <;> simp_all [aggB]) hi
  simp only [results, h]
  simp [h1', h2', asAddr, k1]
abbrev XDoes (f : Nat) (args : Array Value) (v : Value) : Prop := Hid (∀ w, (callFunc f args).run Tryd.prog w = .ok (.value v) w)
section
variable {P : Program} {Q : Exit → Act → World → Prop} {ops : Array Oper} {a : Act} {w : World} {N0 : Nat} {G : List (Nat × Array Value)} {L : List Sp} {k : Nat} {o : Oper} {a' : Act} {w' : World}
theorem RE.n (E : RE ops a w N0 G L k a' w') (v : Value) (t j : Nat) (h1 : newB ops a.tmps.size k t j = true := by kernel_rfl) (h2 : L[j]? = some (sV v) := by rfl) : a'.eval (.tmp t) = v := E.new t j h1 h2
theorem RE.od (E : RE ops a w N0 G L k a' w') (t : Nat) (h1 : wr ops t = none := by kernel_rfl) : a'.eval (.tmp t) = a.eval (.tmp t) := E.old t h1
theorem RE.os (E : RE ops a w N0 G L k a' w') (t j : Nat) (h1 : wr ops t = some j := by kernel_rfl) (h2 : waitsB ops j k = true := by kernel_rfl) : a'.eval (.tmp t) = a.eval (.tmp t) := E.olds t j h1 h2
theorem ob_sa (ty : TypeId) (x y : Operand) {g off : Nat} (hx : a'.eval x = .pointer (some ⟨g, off, none⟩)) {v : Value} (hy : a'.eval y = v) {c : Array Value} (hr : HasRow w' g c) {e : Array Value}
    (ho : o.op = .store ty x y := by rfl) (hi : (P.info? ty).map (·.size) = some v.cells.size := by kernel_rfl) (hn : off + v.cells.size ≤ c.size := by exact Nat.le_of_ble_eq_true rfl) (h1 : v.cells.all (·.oneCell') = true := by kernel_rfl) (he : over c off v.cells = e := by rfl) :
    o.wp P a' w' (fun a'' w'' => a'' = a'.put o.dst undef ∧ w'' = w'.setRow g e) Q := ob_storea ty x y ho hx hy rfl hr hi hn h1 he
theorem ob_la (ty : TypeId) (x : Operand) {g off : Nat} (hx : a'.eval x = .pointer (some ⟨g, off, none⟩)) {c cs : Array Value} {d : TypeDesc} (hr : HasRow w' g c) (hu : P.underlying ty = some d)
    (ho : o.op = .load ty x := by rfl) (hd : aggB d = true := by rfl) (hi : (P.info? ty).map (·.size) = some cs.size := by kernel_rfl) (hc : c.extract off (off + cs.size) = cs := by rfl) :
    o.wp P a' w' (fun a'' w'' => a'' = a'.put o.dst (.agg cs) ∧ Below w'.heap.size w' w'') Q := ob_loada ty x ho hx hr hu hd hi hc
theorem Rc {g : Nat} {c : Array Value} (h : HasRow w g c) (t : RowsAt w G) : RowsAt w ((g, c) :: G) := RowsAt.cons h t
theorem wp_told {id : Nat} {d : Bool} {w0 : World} (G : List (Nat × Array Value)) (L : List Sp) (bw : Below w0.heap.size w0 w) (hG : RowsAt w G) (hS : StOk w0.heap.size w G L)
    (hO : Obs P ops Q a w0 w.heap.size G L 0 L) (hend : ∀ bs w' a', a' = putAll ops (xv L bs) a → RF w0 w.heap.size G L bs w' → Q .normal a' w') (hm : P.follows .mixedOrders = true := by kernel_rfl) (hb : backB2 ops = true := by kernel_rfl) (hB : onceG ops = true := by kernel_rfl) (hst : stB ops L = true := by kernel_rfl) :
    (Code.region id ops d).wp P Q a w := wp_region_told hm hb hB G L hst bw hG hS hO hend
end
/-- What lies in no slot yet. -/
abbrev ud : Value := undef
end Go.Proofs.YtpdoonofipcbeaaDoor
