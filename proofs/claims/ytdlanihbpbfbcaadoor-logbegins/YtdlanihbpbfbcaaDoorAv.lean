/- Operations told one by one, by what their operands are. No function of the program is named here. -/
import Derived.Test.YtdlanihbpbfbcaaDoorAu
import Derived.WalkSmall
import Derived.Deep.Light
namespace Go.Proofs.YtdlanihbpbfbcaaDoor
open Go.RowKit Go.Sort
set_option linter.unusedVariables false
section
variable {P : Program} {Q : Exit → Act → World → Prop} {o : Oper} {a' : Act} {w' : World}
theorem evc (a : Act) (v : Value) : a.eval (.const v) = v := rfl
theorem ob_move (x : Operand) (ho : o.op = .move x) {v : Value} (hx : a'.eval x = v) : o.wp P a' w' (fun a'' w'' => a'' = a'.put o.dst v ∧ Below w'.heap.size w' w'') Q := by
  refine wp_valF (v := v) (w1 := w') ?_ ⟨rfl, Below.refl _ _⟩
  unfold execOp; simp only [ho, hx, Sem.run_pure]
theorem ob_assign (x : Operand) (ho : o.op = .assign x) {v : Value} (hx : a'.eval x = v) : o.wp P a' w' (fun a'' w'' => a'' = a'.put o.dst v ∧ Below w'.heap.size w' w'') Q := by
  refine wp_valF (v := v) (w1 := w') ?_ ⟨rfl, Below.refl _ _⟩
  unfold execOp; simp only [ho, hx, Sem.run_pure]
theorem ob_pick (c x y : Operand) (ho : o.op = .pick c x y) {q : Bool} (hc : a'.eval c = .bool q) {v : Value} (hv : (if q = true then a'.eval x else a'.eval y) = v) : o.wp P a' w' (fun a'' w'' => a'' = a'.put o.dst v ∧ Below w'.heap.size w' w'') Q := by
  refine wp_valF (v := v) (w1 := w') ?_ ⟨rfl, Below.refl _ _⟩
  unfold execOp; simp only [ho, hc, Sem.run_bind, Sem.run_pure, asBool, Result.andThen_ok, hv]
theorem ob_extract (x : Operand) (i : Nat) (ho : o.op = .extract x i) {vs : Array Value} (hx : a'.eval x = .tuple vs) {v : Value} (hv : vs[i]? = some v) : o.wp P a' w' (fun a'' w'' => a'' = a'.put o.dst v ∧ Below w'.heap.size w' w'') Q := by
  refine wp_valF (v := v) (w1 := w') ?_ ⟨rfl, Below.refl _ _⟩
  unfold execOp; simp [ho, hx, Instr.extract, hv]
theorem ob_fieldAddr (t : TypeId) (x : Operand) (f : Nat) (ho : o.op = .fieldAddr t x f) {p v : Value} (hx : a'.eval x = p) (h : (Instr.fieldAt t p f).run P w' = .ok v w') : o.wp P a' w' (fun a'' w'' => a'' = a'.put o.dst v ∧ Below w'.heap.size w' w'') Q := by
  refine wp_valF (v := v) (w1 := w') ?_ ⟨rfl, Below.refl _ _⟩
  unfold execOp; simp only [ho, hx, Sem.run_bind, Sem.run_pure, h, Result.andThen_ok]
theorem ob_field (t : TypeId) (x : Operand) (f : Nat) (ho : o.op = .field t x f) {p v : Value} (hx : a'.eval x = p) (h : (Instr.field t p f).run P w' = .ok v w') : o.wp P a' w' (fun a'' w'' => a'' = a'.put o.dst v ∧ Below w'.heap.size w' w'') Q := by
  refine wp_valF (v := v) (w1 := w') ?_ ⟨rfl, Below.refl _ _⟩
  unfold execOp; simp only [ho, hx, Sem.run_bind, Sem.run_pure, h, Result.andThen_ok]
theorem ob_indexAddr (t : TypeId) (x y : Operand) (ho : o.op = .indexAddr t x y) {p i v : Value} (hx : a'.eval x = p) (hy : a'.eval y = i) (h : (Instr.indexAt t p i).run P w' = .ok v w') : o.wp P a' w' (fun a'' w'' => a'' = a'.put o.dst v ∧ Below w'.heap.size w' w'') Q := by
  refine wp_valF (v := v) (w1 := w') ?_ ⟨rfl, Below.refl _ _⟩
  unfold execOp; simp only [ho, hx, hy, Sem.run_bind, Sem.run_pure, h, Result.andThen_ok]
theorem ob_index (t : TypeId) (x y : Operand) (ho : o.op = .index t x y) {p i v : Value} (hx : a'.eval x = p) (hy : a'.eval y = i) (h : (Instr.index t p i).run P w' = .ok v w') : o.wp P a' w' (fun a'' w'' => a'' = a'.put o.dst v ∧ Below w'.heap.size w' w'') Q := by
  refine wp_valF (v := v) (w1 := w') ?_ ⟨rfl, Below.refl _ _⟩
  unfold execOp; simp only [ho, hx, hy, Sem.run_bind, Sem.run_pure, h, Result.andThen_ok]
theorem ob_unOp (u : UnOp) (t : TypeId) (x : Operand) (ho : o.op = .unOp u t x) {p v : Value} (hx : a'.eval x = p) (h : (Op.unary u p).run P w' = .ok v w') : o.wp P a' w' (fun a'' w'' => a'' = a'.put o.dst v ∧ Below w'.heap.size w' w'') Q := by
  refine wp_valF (v := v) (w1 := w') ?_ ⟨rfl, Below.refl _ _⟩
  unfold execOp; simp only [ho, hx, Sem.run_bind, Sem.run_pure, h, Result.andThen_ok]
theorem ob_convert (s t : TypeId) (x : Operand) (ho : o.op = .convert s t x) {p v : Value} (hx : a'.eval x = p) (h : (convert s t p).run P w' = .ok v w') : o.wp P a' w' (fun a'' w'' => a'' = a'.put o.dst v ∧ Below w'.heap.size w' w'') Q := by
  refine wp_valF (v := v) (w1 := w') ?_ ⟨rfl, Below.refl _ _⟩
  unfold execOp; simp only [ho, hx, Sem.run_bind, Sem.run_pure, h, Result.andThen_ok]
theorem ob_binOp (b : BinOp) (t : TypeId) (x y : Operand) (t2 : TypeId) (ho : o.op = .binOp b t x y t2) {p q v : Value} (hx : a'.eval x = p) (hy : a'.eval y = q) (h : (do eqGuard b t x y p q; binOp b t p q : Sem Value).run P w' = .ok v w') : o.wp P a' w' (fun a'' w'' => a'' = a'.put o.dst v ∧ Below w'.heap.size w' w'') Q := by
  refine wp_valF (v := v) (w1 := w') ?_ ⟨rfl, Below.refl _ _⟩
  unfold execOp; simp only [ho, hx, hy]
  rw [Sem.run_bind, h, Result.andThen_ok, Sem.run_pure]
theorem ob_build (t : TypeId) (ps : Array (Nat × Operand)) (ho : o.op = .build t ps) {vs : Array (Nat × Value)} {v : Value} (hp : ps.map (fun x => (x.1, a'.eval x.2)) = vs) (h : (Instr.build t vs).run P w' = .ok v w') : o.wp P a' w' (fun a'' w'' => a'' = a'.put o.dst v ∧ Below w'.heap.size w' w'') Q := by
  refine wp_valF (v := v) (w1 := w') ?_ ⟨rfl, Below.refl _ _⟩
  unfold execOp; simp only [ho]
  rw [Sem.run_bind, show (ps.map fun (i, x) => (i, a'.eval x)) = vs from hp, h, Result.andThen_ok, Sem.run_pure]
theorem ob_fcall (f : FuncId) (xs : Array Operand) (ts : Array TypeId) (ho : o.op = .call { callee := .value (.func f), args := xs, argTypes := ts }) {vs : Array Value} (hx : xs.map a'.eval = vs) {v : Value}
    (hr : ∀ (a : Act) (ty : TypeId) (w : World), (do let d ← resolve a.eval { callee := .value (.func f), args := xs, argTypes := ts } ty; invoke d.target d.args : Sem Next).run P w = .ok (.enter f (xs.map a.eval)) w)
    (hc : Calls P f vs w' fun e w'' => e = .returned v ∧ Below w'.heap.size w' w'') : o.wp P a' w' (fun a'' w'' => a'' = a'.put o.dst v ∧ Below w'.heap.size w' w'') Q := by
  refine ob_call (f := f) (args := vs) ?_ hc
  unfold execOp
  simp only [ho]
  rw [hr, hx]
theorem ob_xcall (f : FuncId) (xs : Array Operand) (ts : Array TypeId) (ho : o.op = .call { callee := .value (.func f), args := xs, argTypes := ts }) {vs : Array Value} (hx : xs.map a'.eval = vs) {v : Value}
    (hr : ∀ (a : Act) (ty : TypeId) (w : World), (do let d ← resolve a.eval { callee := .value (.func f), args := xs, argTypes := ts } ty; invoke d.target d.args : Sem Next).run P w = (callFunc f (xs.map a.eval)).run P w)
    (hc : (callFunc f vs).run P w' = .ok (.value v) w') : o.wp P a' w' (fun a'' w'' => a'' = a'.put o.dst v ∧ Below w'.heap.size w' w'') Q := by
  refine wp_valF (v := v) (w1 := w') ?_ ⟨rfl, Below.refl _ _⟩
  unfold execOp
  simp only [ho]
  rw [hr, hx, hc]
variable {ρ : Operand → Value}
theorem am0 : (#[] : Array Operand).map ρ = #[] := by simp
theorem am1 {x : Operand} {v : Value} (h : ρ x = v) : #[x].map ρ = #[v] := by simp [h]
theorem am2 {x y : Operand} {v u : Value} (h : ρ x = v) (h2 : ρ y = u) : #[x, y].map ρ = #[v, u] := by simp [h, h2]
theorem am3 {x y z : Operand} {v u t : Value} (h : ρ x = v) (h2 : ρ y = u) (h3 : ρ z = t) : #[x, y, z].map ρ = #[v, u, t] := by simp [h, h2, h3]
theorem am4 {x y z q : Operand} {v u t s : Value} (h : ρ x = v) (h2 : ρ y = u) (h3 : ρ z = t) (h4 : ρ q = s) : #[x, y, z, q].map ρ = #[v, u, t, s] := by simp [h, h2, h3, h4]
theorem am5 {x y z q r : Operand} {v u t s k : Value} (h : ρ x = v) (h2 : ρ y = u) (h3 : ρ z = t) (h4 : ρ q = s) (h5 : ρ r = k) : #[x, y, z, q, r].map ρ = #[v, u, t, s, k] := by simp [h, h2, h3, h4, h5]
theorem pm0 : (#[] : Array (Nat × Operand)).map (fun x => (x.1, ρ x.2)) = #[] := by simp
theorem pm1 {i : Nat} {x : Operand} {v : Value} (h : ρ x = v) : #[(i, x)].map (fun x => (x.1, ρ x.2)) = #[(i, v)] := by simp [h]
theorem pm2 {i j : Nat} {x y : Operand} {v u : Value} (h : ρ x = v) (h2 : ρ y = u) : #[(i, x), (j, y)].map (fun x => (x.1, ρ x.2)) = #[(i, v), (j, u)] := by simp [h, h2]
theorem pm3 {i j k : Nat} {x y z : Operand} {v u t : Value} (h : ρ x = v) (h2 : ρ y = u) (h3 : ρ z = t) : #[(i, x), (j, y), (k, z)].map (fun x => (x.1, ρ x.2)) = #[(i, v), (j, u), (k, t)] := by simp [h, h2, h3]
theorem pm4 {i j k l : Nat} {x y z q : Operand} {v u t s : Value} (h : ρ x = v) (h2 : ρ y = u) (h3 : ρ z = t) (h4 : ρ q = s) : #[(i, x), (j, y), (k, z), (l, q)].map (fun x => (x.1, ρ x.2)) = #[(i, v), (j, u), (k, t), (l, s)] := by simp [h, h2, h3, h4]
end
theorem resAT {P : Program} {fn : Func} {p q : Tmp} {ty : TypeId} (h : fn.results = #[.cell p ty, .tmp q]) {tmps : Array Value} {w : World} {g : Nat} {c : Array Value} {d : TypeDesc} {v : Value}
    (h1 : tmps.getD p undef = .pointer (some ⟨g, 0, none⟩)) (h2 : tmps.getD q undef = v) (r1 : HasRow w g c) (hu : P.underlying ty = some d) (hd : aggB d = true) (hi : (P.info? ty).map (·.size) = some c.size) : (results fn tmps).run P w = .ok (.tuple #[.agg c, v]) w := by
  obtain ⟨t, r1⟩ := r1
  have h1' : tmps[p]?.getD undef = .pointer (some ⟨g, 0, none⟩) := by rw [← h1]; simp
  have h2' : tmps[q]?.getD undef = v := by rw [← h2]; simp
  have k1 := run_loadVar_row (P := P) w g t ty c (0, 0) d r1 hu (by cases d <;> simp_all [aggB]) hi
  simp only [results, h]
  simp [h1', h2', asAddr, k1]
abbrev XDoes (f : Nat) (args : Array Value) (v : Value) : Prop := Hid (∀ w, (callFunc f args).run Tryd.prog w = .ok (.value v) w)
end Go.Proofs.YtdlanihbpbfbcaaDoor
