/- Laid one behind the other: Ej, El, Em. -/
import Derived.Test.YthkpgfbjdabflaaGreatDoorKkEs
import Derived.Sort.Walk0
namespace Go.Proofs.YthkpgfbjdabflaaGreatDoor
open Go.RowKit Go.Sort Go.Proofs.Tryz
set_option linter.unusedVariables false
set_option maxRecDepth 100000
set_option maxHeartbeats 4000000
theorem bs52 (ada adb : Option Addr) (na nb ca cb ta tb : Nat) (da db : ByteArray) (fa fb : Bool) (w : World) : (Instr.buildSlice 52 2 #[(0, .agg #[B ta, .bool fa, .string da, .slice ada na ca]), (1, .agg #[B tb, .bool fb, .string db, .slice adb nb cb])]).run Tryz.prog w = .ok (.slice (some ⟨w.heap.size, 0, none⟩) 2 2) (w.alloc (.cells #[B ta, .bool fa, .string da, .slice ada na ca, B tb, .bool fb, .string db, .slice adb nb cb] 28)) := by
  simp [go_sem]
/-- Two states that lie in a row: are there few bytes? -/
theorem few_two {w : World} {f : Fi} {pv : Value} (hp : PaI w pv f.1) {g : Nat} {a b : Va} {ada adb : Option Addr} {ca cb : Nat} (ha : ExI w (.slice ada a.2.2.2.length ca) a.2.2.2) (hb : ExI w (.slice adb b.2.2.2.length cb) b.2.2.2) (hr : zb w g #[B a.1, .bool a.2.1, .string a.2.2.1, .slice ada a.2.2.2.length ca, B b.1, .bool b.2.1, .string b.2.2.1, .slice adb b.2.2.2.length cb]) :
    Calls Tryz.prog 8 #[fxdV f pv, .slice (some ⟨g, 0, none⟩) 2 2] w fun e w' => Below w.heap.size w w' ∧ ∃ u, e = .returned u ∧ (u = .bool false ∨ u = .bool true ∧ f.1.length < 20 ∧ fewR a.2.2.2 ∧ fewR b.2.2.2) := by
  refine (few_ok hp (g := g) (cap := 2) (fun i => if i = 0 then a else b) (fun i => if i = 0 then ada else adb) (fun i => if i = 0 then ca else cb) (fun i => by
    by_cases h : i = 0
    · simp only [if_pos h]; exact ha
    · simp only [if_neg h]; exact hb) (fun i hi w' hb' => by
    have hr' := hr.below hb'
    match i, hi with
    | 0, _ => exact loadN Tryz.underlying28 rfl (n := 4) (by kernel_rfl) rfl (cs := [B a.1, .bool a.2.1, .string a.2.2.1, .slice ada a.2.2.2.length ca]) (fun j c hc => by
        have hj := (List.getElem?_eq_some_iff.1 hc).1
        rw [hr'.cell]
        match j, hj, hc with
        | 0, _, hc => exact hc
        | 1, _, hc => exact hc
        | 2, _, hc => exact hc
        | 3, _, hc => exact hc)
    | 1, _ => exact loadN Tryz.underlying28 rfl (n := 4) (by kernel_rfl) rfl (cs := [B b.1, .bool b.2.1, .string b.2.2.1, .slice adb b.2.2.2.length cb]) (fun j c hc => by
        have hj := (List.getElem?_eq_some_iff.1 hc).1
        rw [hr'.cell]
        match j, hj, hc with
        | 0, _, hc => exact hc
        | 1, _, hc => exact hc
        | 2, _, hc => exact hc
        | 3, _, hc => exact hc))).mono fun e w' h => ?_
  obtain ⟨h1, u, h2, h3⟩ := h
  refine ⟨h1, u, h2, h3.imp id fun h => ⟨h.1, h.2.1, h.2.2 0 (by omega), h.2.2 1 (by omega)⟩⟩
theorem fsE_all : ∀ {l : List Int}, fsE l = 0 → ∀ e ∈ l, e = 0 := by
  intro l
  induction l with
  | nil => intro _ e he; cases he
  | cons x r ih =>
    intro h e he
    unfold fsE at h
    split at h
    · next hx =>
      rcases List.mem_cons.1 he with rfl | he
      · exact hx
      · exact ih h e he
    · next hx => exact absurd h hx
theorem fo_zero {f : Fi} {a b : Va} {fE : Fr} (h : foE f a b fE = 0) : e1E f a b = 0 ∧ (noR f b = true ∨ ktB a.2.2.2 b.2.2.2 = true ∧ alE fE = 0) := by
  unfold foE at h
  by_cases h1 : e1E f a b = 0
  · rw [if_pos h1] at h
    refine ⟨h1, ?_⟩
    by_cases h2 : noR f b = true
    · exact .inl h2
    · rw [if_neg h2] at h
      have k := fsE_all h
      have k1 := k _ List.mem_cons_self
      refine .inr ⟨?_, k _ (by simp)⟩
      cases hq : ktB a.2.2.2 b.2.2.2 with
      | true => rfl
      | false => rw [hq] at k1; cases k1
  · rw [if_neg h1] at h
    exact absurd h h1
theorem e1_zero {f : Fi} {a b : Va} (h : e1E f a b = 0) : fiE f a b = 0 ∧ nxE a b = 0 ∧ stE a b = 0 ∧ kfE f a b = 0 ∧ koE a b = 0 := by
  unfold e1E at h
  have k := fsE_all h
  exact ⟨k _ (by simp), k _ (by simp), k _ (by simp), k _ (by simp), k _ (by simp)⟩
theorem alone_eq {f : Fi} {a b : Va} (h : e1E f a b = 0) (hn : noR f b = true) : eqX a.2.2.2 b.2.2.2 = true := by
  obtain ⟨_, _, _, h4, h5⟩ := e1_zero h
  unfold kfE at h4
  unfold koE at h5
  unfold noR at hn
  cases hq : eqX a.2.2.2 b.2.2.2 with
  | true => rfl
  | false =>
    rw [hq] at h4 h5
    cases hb : b.2.1 with
    | true => rw [hb] at h5; simp at h5
    | false =>
      rw [hb] at hn h4
      simp at hn
      rw [hn] at h4
      simp at h4
section
variable {P : Program} {ops : Array Oper} {Q : Exit → Act → World → Prop} {K : Act → World → Prop} {o : Oper} {a : Act} {w : World}
theorem appG2 {xs : Array Operand} {ts : Array TypeId} {v : Value} {w' : World} (hop : o.op = .call ⟨.builtin .append, xs, ts⟩) (hg : o.guard = none) (h : (Builtin.append_ ts o.type (xs.map a.eval)).run P w = .ok v w') (hK : K (a.put o.dst v) w') : wpG ops o P a w K Q := by
  refine zi hg (xn (v := v) (w' := w') ?_ hK)
  unfold execOp
  simp only [hop, resolve, invoke, builtin, Sem.run_bind, Sem.run_pure, Result.andThen_ok, h]
theorem lenG2 {xs : Array Operand} {ts : Array TypeId} {v : Value} {w' : World} (hop : o.op = .call ⟨.builtin .len, xs, ts⟩) (hg : o.guard = none) (h : (Builtin.len_ ts o.type (xs.map a.eval)).run P w = .ok v w') (hK : K (a.put o.dst v) w') : wpG ops o P a w K Q := by
  refine zi hg (xn (v := v) (w' := w') ?_ hK)
  unfold execOp
  simp only [hop, resolve, invoke, builtin, Sem.run_bind, Sem.run_pure, Result.andThen_ok, h]
end
theorem bs26_0 (w : World) : (Instr.buildSlice 26 0 #[]).run Tryz.prog w = .ok (.slice (some ⟨w.heap.size, 0, none⟩) 0 0) (w.alloc (.cells #[] 43)) := by simp [go_sem]
theorem run_lenS (ty : TypeId) (ad : Option Addr) (n cap : Nat) (w : World) : (Builtin.len_ #[26] ty #[.slice ad n cap]).run Tryz.prog w = .ok (Z n) w := by
  simp [Builtin.len_, run_underlying Tryz.underlying26, goInt]
def restOf : Nat → Code → Code
  | 0, c => c
  | n + 1, .seq _ y => restOf n y
  | _, c => c
abbrev cf5 (fn : Func) (tm : Vs) (rows : Rows) (nx : Nat) : Cf := { ops := #[], rest := [], ks := ((xe [] (restOf 3 (fn.body.getD .skip)) []).map (·.2.2.1)).getD [], tm := tm, rows := rows, nx := nx, dn := none }
theorem rtotal_ok {w : World} {ev : Value} {l : List Ex} (h : ExI w ev l) (s : ByteArray) (hok : okX l) (hW : qy l s < W) : Calls Tryz.prog 19 #[ev, .string s] w fun e w' => e = .returned (.tuple #[U (qy l s), .bool true]) ∧ Below w.heap.size w w' := by
  have := rtotal_any h s hok
  unfold totV at this
  rwa [if_pos hW] at this
abbrev r5K : List Nat := [3, 4, 5, 6]
abbrev r5V : Vs := frm 95 [(3, Sum.inr (0, 0)), (4, Sum.inr (1, 0)), (5, Sum.inr (2, 0)), (6, Sum.inl (.bool false))]
abbrev r6K : List Nat := [3, 4, 5, 6, 60, 61, 62]
abbrev r6V (v : Value) (n i : Nat) : Vs := frm 95 [(3, Sum.inr (0, 0)), (4, Sum.inr (1, 0)), (5, Sum.inr (2, 0)), (6, Sum.inl (.bool false)), (60, Sum.inl v), (61, Sum.inl (Z n)), (62, Sum.inl (Z i))]
theorem keeps_rest {w : World} (hAw : ∀ w', Below w.heap.size w w' → Calls Tryz.prog 9 #[] w' fun e w'' => e = .returned (.bool true) ∧ Below w'.heap.size w' w'') {ps : List ByteArray} {no : Nat} {ap : ByteArray} {ti : Int} {adp : Option Addr} {capp : Nat} {ta tb : Nat} {fa fb : Bool} {da db : ByteArray} {xa xb : List Ex} {ada adb : Option Addr} {ca cb : Nat}
    (ha : ExI w (.slice ada xa.length ca) xa) (hb : ExI w (.slice adb xb.length cb) xb) (hka : okX xa) (hkb : okX xb) (hla : xa.length ≤ 1000) (hlb : xb.length ≤ 1000) (heq : ∀ x ∈ xa ++ xb, qy xa x.1 < W ∧ qy xa x.1 = qy xb x.1)
    {β : Nat → Nat} {u : Nat → Value} {a : Act} {w1 : World} (I1 : SI (Below w.heap.size w) (· < w.heap.size) [] β (cf5 Tryz.f5 (z6 (zv 95 r5K) u 0 r5V) [(0, #[.slice adp ps.length capp, B no, .string ap, Z ti]), (1, #[B ta, .bool fa, .string da, .slice ada xa.length ca]), (2, #[B tb, .bool fb, .string db, .slice adb xb.length cb])] 3) a w1) :
    At Tryz.prog (bodyPost Tryz.prog Tryz.f5 fun e w' => e = .returned (.bool true) ∧ Below w.heap.size w w') (cf5 Tryz.f5 (z6 (zv 95 r5K) u 0 r5V) [(0, #[.slice adp ps.length capp, B no, .string ap, Z ti]), (1, #[B ta, .bool fa, .string da, .slice ada xa.length ca]), (2, #[B tb, .bool fb, .string db, .slice adb xb.length cb])] 3) a w1 := by
  have hTa := fun s (hs : qy xa s < W) w' (hb' : Below w.heap.size w w') => rtotal_ok (ha.below CE.loc hb') s hka hs
  have hTb := fun s (hs : qy xb s < W) w' (hb' : Below w.heap.size w w') => rtotal_ok (hb.below CE.loc hb') s hkb hs
  obtain ⟨Xa, hXa⟩ := ha.cells
  obtain ⟨Xb, hXb⟩ := hb.cells
  have hsz1 : w.heap.size ≤ w1.heap.size := I1.hJ.size
  have hla2 : Xa.flatten.length = xa.length * 2 := by rw [za1 hXa.two, hXa.len]
  have hlb2 : Xb.flatten.length = xb.length * 2 := by rw [za1 hXb.two, hXb.len]
  have apA : ∀ (w' : World) (v : Value) (n : Nat) (ys : List Value), Below w1.heap.size w1 w' → w'.ownsRow w1.heap.size 43 2 v n ys → n ≤ 5000 → ∃ v' w'', (Builtin.append_ #[26, 26] 26 #[v, .slice ada xa.length ca]).run Tryz.prog w' = .ok v' w'' ∧ w''.ownsRow w1.heap.size 43 2 v' (n + xa.length) (ys ++ Xa.flatten) ∧ Grw v v' w' w'' := fun w' v n ys hbw ho hn => by
    by_cases hz : xa.length = 0
    · have e1 : Xa.flatten = [] := List.eq_nil_of_length_eq_zero (by rw [hla2, hz])
      rw [hz, e1, List.append_nil]
      exact ⟨v, w', app_zero ho _ _, ho, ⟨rfl, rfl, rfl, Nat.le_refl _, fun _ _ _ => rfl⟩, fun k hk => .inl hk⟩
    · obtain ⟨aa, rfl, hc⟩ := hXa.at_ hz
      exact app_many ho hbw.size aa xa.length ca Xa.flatten hla2 (by omega) (hc w' (I1.hJ.trans (hbw.mono hsz1))) hXa.one (by omega)
  have apB : ∀ (w' : World) (v : Value) (n : Nat) (ys : List Value), Below w1.heap.size w1 w' → w'.ownsRow w1.heap.size 43 2 v n ys → n ≤ 5000 → ∃ v' w'', (Builtin.append_ #[26, 26] 26 #[v, .slice adb xb.length cb]).run Tryz.prog w' = .ok v' w'' ∧ w''.ownsRow w1.heap.size 43 2 v' (n + xb.length) (ys ++ Xb.flatten) ∧ Grw v v' w' w'' := fun w' v n ys hbw ho hn => by
    by_cases hz : xb.length = 0
    · have e1 : Xb.flatten = [] := List.eq_nil_of_length_eq_zero (by rw [hlb2, hz])
      rw [hz, e1, List.append_nil]
      exact ⟨v, w', app_zero ho _ _, ho, ⟨rfl, rfl, rfl, Nat.le_refl _, fun _ _ _ => rfl⟩, fun k hk => .inl hk⟩
    · obtain ⟨aa, rfl, hc⟩ := hXb.at_ hz
      exact app_many ho hbw.size aa xb.length cb Xb.flatten hlb2 (by omega) (hc w' (I1.hJ.trans (hbw.mono hsz1))) hXb.one (by omega)
  have belG : ∀ {w' w'' : World} {v v' : Value} {n : Nat} {ys : List Value}, Below w1.heap.size w1 w' → w'.ownsRow w1.heap.size 43 2 v n ys → Grw v v' w' w'' → Below w1.heap.size w' w'' := fun hbw ho hg => ⟨hg.gr.os, hg.gr.tape, hg.gr.output, hg.gr.size, fun k hk => hg.gr.block k (Nat.lt_of_lt_of_le hk hbw.size) fun e => by have := (ho.lt k e.symm).1; omega⟩
  obtain ⟨n3, hn3⟩ : ∃ n, xa.length + xb.length = n := ⟨_, rfl⟩
  have hsz : a.tmps.size = 95 := by rw [I1.fr]; rw [List.size_toArray, List.length_map]; kernel_rfl
  have hset : ∀ {i : Nat} {za : Array Bool}, i < za.size → (za.setIfInBounds i true).getD i false = true := by
    intro i za hlt
    rw [Array.getD_eq_getD_getElem?, Array.getElem?_setIfInBounds, if_pos rfl, if_pos hlt]; rfl
  have hoth : ∀ {i j : Nat} {za : Array Bool}, i ≠ j → (za.setIfInBounds i true).getD j false = za.getD j false := by
    intro i j za h
    rw [Array.getD_eq_getD_getElem?, Array.getElem?_setIfInBounds, if_neg h, ← Array.getD_eq_getD_getElem?]
  have hbit : ∀ {ops : Array Oper} {i : Nat} {za : Array Bool}, i ∈ Region.ready .any ops za → i < za.size ∧ ¬ za.getD i false = true := by
    intro ops i za hrd
    obtain ⟨hun, o', ho', _⟩ := mem_ready.1 hrd
    have hlt : i < za.size := by
      rcases Nat.lt_or_ge i za.size with h | h
      · exact h
      · rw [Array.getD_eq_getD_getElem?, Array.getElem?_eq_none h] at hun; cases hun
    refine ⟨hlt, fun h => ?_⟩
    simp [Array.getD, hlt] at hun h
    rw [hun] at h; cases h
  refine dwC (T := Below w.heap.size w) [(0, none), (3, none), (6, none), (7, some (Z n3))] []
    (fun za vs w' => (za.getD 3 false = true → za.getD 0 false = true) ∧ (za.getD 6 false = true → za.getD 3 false = true) ∧ (za.getD 0 false = true → ¬ za.getD 3 false = true → w'.ownsRow w1.heap.size 43 2 (vs 0) 0 []) ∧ (za.getD 3 false = true → ¬ za.getD 6 false = true → w'.ownsRow w1.heap.size 43 2 (vs 3) xa.length Xa.flatten) ∧ (za.getD 6 false = true → w'.ownsRow w1.heap.size 43 2 (vs 6) n3 (Xa ++ Xb).flatten) ∧ (za.getD 7 false = true → vs 7 = Z n3)) (fun w2 hb2 => by
      have hf : ∀ n j, ¬ (Array.replicate n false).getD j false = true := fun n j h => by
        rw [Array.getD_eq_getD_getElem?, Array.getElem?_replicate] at h
        split at h <;> simp at h
      exact ⟨fun h => absurd h (hf _ _), fun h => absurd h (hf _ _), fun h => absurd h (hf _ _), fun h => absurd h (hf _ _), fun h => absurd h (hf _ _), fun h => absurd h (hf _ _)⟩) (fun za vs w' w'' i v hsp h hbb => by
      unfold xy at hsp
      rw [Option.map_eq_none_iff, List.find?_eq_none] at hsp
      have hi0 : i ≠ 0 := fun e => by subst e; exact hsp (0, none) (by simp) (by simp)
      have hi3 : i ≠ 3 := fun e => by subst e; exact hsp (3, none) (by simp) (by simp)
      have hi6 : i ≠ 6 := fun e => by subst e; exact hsp (6, none) (by simp) (by simp)
      have hi7 : i ≠ 7 := fun e => by subst e; exact hsp (7, some (Z n3)) (by simp) (by simp)
      have keep : ∀ {v : Value} {n : Nat} {ys : List Value}, w'.ownsRow w1.heap.size 43 2 v n ys → w''.ownsRow w1.heap.size 43 2 v n ys := fun ho => xh (F := fun _ => True) ho (zq.of_below hbb) fun _ _ => trivial
      rw [hoth hi0, hoth hi3, hoth hi6, hoth hi7]
      simp only [if_neg (show ¬ 0 = i from fun e => hi0 e.symm), if_neg (show ¬ 3 = i from fun e => hi3 e.symm), if_neg (show ¬ 6 = i from fun e => hi6 e.symm), if_neg (show ¬ 7 = i from fun e => hi7 e.symm)]
      exact ⟨h.1, h.2.1, fun p q => keep (h.2.2.1 p q), fun p q => keep (h.2.2.2.1 p q), fun p => keep (h.2.2.2.2.1 p), h.2.2.2.2.2⟩) (zd w) (fun _ h => h) I1 ?_ ?_ (by kernel_rfl)
  · intro p hp2 o ho za vs a' w' hF hrd hbw hC hev
    simp only [List.mem_cons, List.not_mem_nil, or_false] at hp2
    obtain ⟨hlt, hnl⟩ := hbit hrd
    rcases hp2 with rfl | rfl | rfl | rfl
    · obtain ⟨o1, o2, o3⟩ := ve (x := .buildSlice 26 0 #[]) (d := some 54) ho (by kernel_rfl)
      refine bslG o1 o3 (v := .slice (some ⟨w'.heap.size, 0, none⟩) 0 0) (w' := w'.alloc (.cells #[] 43)) (by rw [Array.map_empty]; exact bs26_0 w') ⟨_, rfl, fun u hu => (by cases hu), ?_, (xc w' _).mono hbw.size⟩
      have n3' : ¬ za.getD 3 false = true := fun h => hnl (hC.1 h)
      have n6 : ¬ za.getD 6 false = true := fun h => n3' (hC.2.1 h)
      rw [hset hlt, hoth (show (0 : Nat) ≠ 3 by decide), hoth (show (0 : Nat) ≠ 6 by decide), hoth (show (0 : Nat) ≠ 7 by decide)]
      refine ⟨fun _ => rfl, hC.2.1, fun _ _ => ?_, fun h => absurd h n3', fun h => absurd h n6, hC.2.2.2.2.2⟩
      exact ⟨rfl, .inr ⟨w'.heap.size, 0, #[], rfl, hbw.size, Array.getElem?_push_size, Nat.le_refl _, Nat.zero_le _, rfl, rfl⟩⟩
    · obtain ⟨o1, o2, o3⟩ := ve (x := .call ⟨.builtin .append, #[.tmp 54, .tmp 56], #[26, 26]⟩) (d := some 57) ho (by kernel_rfl)
      have hty : o.type = 26 := by
        have : ((yw (cf5 Tryz.f5 (z6 (zv 95 r5K) u 0 r5V) [(0, #[.slice adp ps.length capp, B no, .string ap, Z ti]), (1, #[B ta, .bool fa, .string da, .slice ada xa.length ca]), (2, #[B tb, .bool fb, .string db, .slice adb xb.length cb])] 3))[3]?).map (·.type) = some 26 := by kernel_rfl
        rw [ho] at this
        exact Option.some.inj this
      have d0 := zg (i := 3) (j := 0) (by kernel_rfl) hrd
      have n6 : ¬ za.getD 6 false = true := fun h => hnl (hC.2.1 h)
      have q1 : a'.eval (.tmp 54) = vs 0 := hF.new (i := 0) (by kernel_rfl) (by rw [hsz]; decide) d0
      have q2 : a'.eval (.tmp 56) = .slice ada xa.length ca := hev (.tmp 56) (Sum.inl (.slice ada xa.length ca)) (by kernel_rfl)
      have ho0 := hC.2.2.1 d0 hnl
      obtain ⟨v', w'', r1, r2, r3⟩ := apA w' (vs 0) 0 [] hbw ho0 (by omega)
      rw [Nat.zero_add, List.nil_append] at r2
      refine appG2 o1 o3 (by rw [hty]; simp only [List.map_toArray, List.map_cons, List.map_nil, q1, q2]; exact r1) ⟨_, rfl, fun u hu => (by cases hu), ?_, belG hbw ho0 r3⟩
      rw [hset hlt, hoth (show (3 : Nat) ≠ 0 by decide), hoth (show (3 : Nat) ≠ 6 by decide), hoth (show (3 : Nat) ≠ 7 by decide)]
      exact ⟨fun _ => d0, fun h => rfl, fun _ h => absurd rfl h, fun _ _ => r2, fun h => absurd h n6, hC.2.2.2.2.2⟩
    · obtain ⟨o1, o2, o3⟩ := ve (x := .call ⟨.builtin .append, #[.tmp 57, .tmp 59], #[26, 26]⟩) (d := some 60) ho (by kernel_rfl)
      have hty : o.type = 26 := by
        have : ((yw (cf5 Tryz.f5 (z6 (zv 95 r5K) u 0 r5V) [(0, #[.slice adp ps.length capp, B no, .string ap, Z ti]), (1, #[B ta, .bool fa, .string da, .slice ada xa.length ca]), (2, #[B tb, .bool fb, .string db, .slice adb xb.length cb])] 3))[6]?).map (·.type) = some 26 := by kernel_rfl
        rw [ho] at this
        exact Option.some.inj this
      have d3 := zg (i := 6) (j := 3) (by kernel_rfl) hrd
      have q1 : a'.eval (.tmp 57) = vs 3 := hF.new (i := 3) (by kernel_rfl) (by rw [hsz]; decide) d3
      have q2 : a'.eval (.tmp 59) = .slice adb xb.length cb := hev (.tmp 59) (Sum.inl (.slice adb xb.length cb)) (by kernel_rfl)
      have ho3 := hC.2.2.2.1 d3 hnl
      obtain ⟨v', w'', r1, r2, r3⟩ := apB w' (vs 3) xa.length Xa.flatten hbw ho3 (by omega)
      rw [hn3, ← List.flatten_append] at r2
      refine appG2 o1 o3 (by rw [hty]; simp only [List.map_toArray, List.map_cons, List.map_nil, q1, q2]; exact r1) ⟨_, rfl, fun u hu => (by cases hu), ?_, belG hbw ho3 r3⟩
      rw [hset hlt, hoth (show (6 : Nat) ≠ 0 by decide), hoth (show (6 : Nat) ≠ 3 by decide), hoth (show (6 : Nat) ≠ 7 by decide)]
      exact ⟨hC.1, fun _ => d3, fun p q => absurd d3 q, fun _ h => absurd rfl h, fun _ => r2, hC.2.2.2.2.2⟩
    · obtain ⟨o1, o2, o3⟩ := ve (x := .call ⟨.builtin .len, #[.tmp 60], #[26]⟩) (d := some 61) ho (by kernel_rfl)
      have d6 := zg (i := 7) (j := 6) (by kernel_rfl) hrd
      have q1 : a'.eval (.tmp 60) = vs 6 := hF.new (i := 6) (by kernel_rfl) (by rw [hsz]; decide) d6
      have ho6 := hC.2.2.2.2.1 d6
      obtain ⟨ad6, cap6, e6⟩ := yo ho6
      refine lenG2 o1 o3 (by simp only [List.map_toArray, List.map_cons, List.map_nil, q1, e6]; exact run_lenS _ ad6 n3 cap6 w') ⟨_, rfl, fun u hu => (by cases hu; rfl), ?_, Below.refl _ _⟩
      rw [hoth (show (7 : Nat) ≠ 0 by decide), hoth (show (7 : Nat) ≠ 3 by decide), hoth (show (7 : Nat) ≠ 6 by decide)]
      exact ⟨hC.1, hC.2.1, hC.2.2.1, hC.2.2.2.1, hC.2.2.2.2.1, fun _ => rfl⟩
  intro za vs a9 w9 hall hC I9
  have ho := hC.2.2.2.2.1 (hall 6 (of_decide_eq_true (by kernel_rfl)))
  obtain ⟨ad3, cap3, e6⟩ := yo ho
  rw [e6] at ho
  have e7 := hC.2.2.2.2.2 (hall 7 (of_decide_eq_true (by kernel_rfl)))
  obtain ⟨vs', rfl⟩ : ∃ vs', vs = fun j => if j = 6 then .slice ad3 n3 cap3 else if j = 7 then Z n3 else vs' j := ⟨vs, funext fun j => by
    by_cases hj : j = 6
    · simp [hj, e6]
    · by_cases hj7 : j = 7
      · simp [hj7, e7]
      · simp [hj, hj7]⟩
  have hro : RO w w.heap.size 43 2 (.slice ad3 n3 cap3) n3 (Xa ++ Xb).flatten w9 := ⟨⟨I9.hJ.os, I9.hJ.tape, I9.hJ.output, I9.hJ.size, fun k hk _ => I9.hJ.block k hk⟩, own_low ho hsz1⟩
  have I10 : SI (RO w w.heap.size 43 2 (.slice ad3 n3 cap3) n3 (Xa ++ Xb).flatten) (ROF w w.heap.size (.slice ad3 n3 cap3)) [] β _ a9 w9 := ⟨I9.fr, I9.df, hro, I9.row, fun p hp h => by
    rcases h with h | h
    · exact I9.dis p hp h.1
    · have h1 := (ho.lt _ h).1
      have h2 := (I1.row p hp).lt
      omega, I9.lt, I9.inj, I9.ids⟩
  have hel : ∀ i, i < n3 → ∃ x, (xa ++ xb)[i]? = some x ∧ ∃ av : Option Addr × Nat × Nat, ∃ gq, ad3 = some ⟨gq, 0, none⟩ ∧ ∀ w', RO w w.heap.size 43 2 (.slice ad3 n3 cap3) n3 (Xa ++ Xb).flatten w' → (loadVar 43 ⟨gq, 0 + i * 2, none⟩).run Tryz.prog w' = .ok (.agg #[.string x.1, .slice av.1 av.2.1 av.2.2]) w' := fun i hi => by
    have h2 : ∀ y ∈ Xa ++ Xb, y.length = 2 := fun y hy => (List.mem_append.1 hy).elim (hXa.two y) (hXb.two y)
    have hlen : (Xa ++ Xb).length = n3 := by rw [List.length_append, hXa.len, hXb.len]; exact hn3
    obtain ⟨cs, hcs⟩ : ∃ cs, (Xa ++ Xb)[i]? = some cs := ⟨_, List.getElem?_eq_getElem (by omega)⟩
    obtain ⟨x, hx⟩ : ∃ x, (xa ++ xb)[i]? = some x := ⟨_, List.getElem?_eq_getElem (by rw [List.length_append]; omega)⟩
    have hCE : CE (· < w.heap.size) w x cs := by
      by_cases hi2 : i < xa.length
      · rw [List.getElem?_append_left (by rw [hXa.len]; exact hi2)] at hcs
        rw [List.getElem?_append_left hi2] at hx
        exact hXa.mem i x cs hx hcs
      · rw [List.getElem?_append_right (by rw [hXa.len]; omega), hXa.len] at hcs
        rw [List.getElem?_append_right (by omega)] at hx
        exact hXb.mem _ x cs hx hcs
    obtain ⟨av, rfl, hav⟩ := hCE
    obtain ⟨ad4, cap4, rfl⟩ := hav.slice
    obtain ⟨gq, hgq, _⟩ := zec hro.own h2 hcs hi
    refine ⟨x, hx, ⟨ad4, x.2.length, cap4⟩, gq, hgq, fun w' hw' => ?_⟩
    obtain ⟨gq2, hgq2, hc2⟩ := zec hw'.own h2 hcs hi
    rw [hgq] at hgq2
    cases hgq2
    exact loadEx hc2
  have hn3l : n3 ≤ 2000 := by omega
  generalize (Xa ++ Xb).flatten = xs3 at *
  refine goQ [] (RO.rs _ _ _ _ _ _ _) I10 fun β4 a4 w4 I4 hb4 => ?_
  refine lpM (zo Tryz.f5) (fun k a w' => ∃ (i : Nat) (β : Nat → Nat) (u : Nat → Value), k = n3 - i ∧ i ≤ n3 ∧ SI (RO w w.heap.size 43 2 (.slice ad3 n3 cap3) n3 xs3) (ROF w w.heap.size (.slice ad3 n3 cap3)) [] β (cfC (zo Tryz.f5) (z6 (zv 95 r6K) u 0 (r6V (.slice ad3 n3 cap3) n3 i)) [(0, #[.slice adp ps.length capp, B no, .string ap, Z ti]), (1, #[B ta, .bool fa, .string da, .slice ada xa.length ca]), (2, #[B tb, .bool fb, .string db, .slice adb xb.length cb])] 3) a w') n3 ?_ ?_
  · obtain ⟨u, Iu⟩ := I4.scr (zo Tryz.f5) (zv 95 r6K) (r6V (.slice ad3 n3 cap3) n3 0) [(0, #[.slice adp ps.length capp, B no, .string ap, Z ti]), (1, #[B ta, .bool fa, .string da, .slice ada xa.length ca]), (2, #[B tb, .bool fb, .string db, .slice adb xb.length cb])] 3
    exact ⟨0, β4, u, by omega, Nat.zero_le _, Iu⟩
  rintro k a5 w5 ⟨i, β5, u5, rfl, hi, I5⟩
  refine y7 (tm := z6 (zv 95 r6K) u5 0 (r6V (.slice ad3 n3 cap3) n3 i)) (rows := [(0, #[.slice adp ps.length capp, B no, .string ap, Z ti]), (1, #[B ta, .bool fa, .string da, .slice ada xa.length ca]), (2, #[B tb, .bool fb, .string db, .slice adb xb.length cb])]) (nx := 3) ?_
  rcases Nat.lt_or_ge i n3 with hil | hil
  · obtain ⟨⟨sx, lx⟩, hx, ⟨av1, av2, av3⟩, gq, rfl, hld⟩ := hel i hil
    simp only [] at hld
    obtain ⟨h1, h2⟩ := heq _ (List.mem_of_getElem? hx)
    simp only [] at h1 h2
    have hta := fun w' (hr : RO w w.heap.size 43 2 (.slice (some ⟨gq, 0, none⟩) n3 cap3) n3 xs3 w') => hTa sx h1 w' hr.bel
    have htb := fun w' (hr : RO w w.heap.size 43 2 (.slice (some ⟨gq, 0, none⟩) n3 cap3) n3 xs3 w') => hTb sx (by rw [← h2]; exact h1) w' hr.bel
    rw [← h2] at htb
    generalize qy xa sx = na at *
    have hneq := neqU_k (b := false) h1 h1 (by simp)
    unfold U at hta htb hneq
    generalize l0 na = a0 at *
    generalize l1 na = a1 at *
    generalize l2 na = a2 at *
    generalize l3 na = a3 at *
    refine goT (T := RO w w.heap.size 43 2 (.slice (some ⟨gq, 0, none⟩) n3 cap3) n3 xs3) [bO .lss 3 (zh (x := i) (y := n3) (b := true) (decide_eq_true (by omega))), iA 26 Tryz.underlying26 (sz := 2) (by kernel_rfl) (g := gq) (off := 0) (n := n3) (cap := cap3) hil, ldA 43 hld, cA Tryz.func19 hta, cA Tryz.func19 htb, bO .neq 45 hneq, uO .not (p := .bool true) (v := .bool false) (by intros; rfl), uO .not (p := .bool true) (v := .bool false) (by intros; rfl), bO .add 3 (zn (x := i) (y := 1) (z := (i + 1 : Nat)) (by rw [wz (by omega) (by omega)]; omega))] (RO.rs _ _ _ _ _ _ _) (fun _ h => h) I5 fun β6 a6 w6 I6 hb6 => ?_
    obtain ⟨u', Iu⟩ := I6.scr (zo Tryz.f5) (zv 95 r6K) (r6V (.slice (some ⟨gq, 0, none⟩) n3 cap3) n3 (i + 1)) [(0, #[.slice adp ps.length capp, B no, .string ap, Z ti]), (1, #[B ta, .bool fa, .string da, .slice ada xa.length ca]), (2, #[B tb, .bool fb, .string db, .slice adb xb.length cb])] 3
    exact kn ⟨n3 - (i + 1), by omega, i + 1, β6, u', rfl, hil, Iu⟩
  · obtain rfl : i = n3 := by omega
    refine goQ [bO .lss 3 (zh (x := i) (y := i) (b := false) (decide_eq_false (by omega)))] (RO.rs _ _ _ _ _ _ _) I5 fun β6 a6 w6 I6 hb6 => ?_
    refine kz 0 ?_
    refine goT (T := fun w' => Below w.heap.size w w') [cA Tryz.func9 hAw] (RO.rs _ _ _ _ _ _ _) (fun _ h => h.bel) (I6.exit _) fun β7 a7 w7 I7 hb7 => ?_
    exact zm (v := .bool true) I7 ⟨rfl, I7.hJ.bel⟩
theorem ltB_irr (a : ByteArray) : ltB a a = false := by
  unfold ltB
  rw [bytesLess_eq, decide_eq_false (fun h => List.lt_irrefl _ h)]
theorem ltB_asym {a b : ByteArray} (h : ltB a b = true) : ltB b a = false := by
  unfold ltB at h ⊢
  rw [bytesLess_eq] at h ⊢
  exact decide_eq_false fun h2 => List.lt_asymm (of_decide_eq_true h) h2
theorem fit_tot {l : List Ex} (h : vx l = true) {x : Ex} (hx : x ∈ l) : qy l x.1 < W := by
  unfold vx at h
  simp only [Bool.and_eq_true, decide_eq_true_eq, List.all_eq_true] at h
  obtain ⟨⟨h1, h2⟩, h3⟩ := h
  have hs : ∀ y ∈ l, sumA y.2 < W := fun y hy => by
    have := h3 y hy
    unfold fitE at this
    simp only [Bool.and_eq_true, decide_eq_true_eq] at this
    exact this.2
  have hne : ∀ {a b : ByteArray}, ltB a b = true → a ≠ b := fun h e => by subst e; rw [ltB_irr] at h; cases h
  match l, h1 with
  | [], _ => cases hx
  | [a], _ =>
    simp only [List.mem_singleton] at hx
    subst hx
    have := hs x (by simp)
    simp [qy]; exact this
  | [a, b], _ =>
    have q1 : ltB a.1 b.1 = true := zcp.1 h2 0 a b rfl rfl
    have n1 := hne q1
    have ha := hs a (by simp)
    have hb := hs b (by simp)
    simp only [List.mem_cons, List.not_mem_nil, or_false] at hx
    rcases hx with rfl | rfl
    · simp [qy, n1.symm]; exact ha
    · simp [qy, n1]; exact hb
  | [a, b, c], _ =>
    have q1 : ltB a.1 b.1 = true := zcp.1 h2 0 a b rfl rfl
    have q2 : ltB b.1 c.1 = true := zcp.1 h2 1 b c rfl rfl
    have n1 := hne q1
    have n2 := hne q2
    have n3 : a.1 ≠ c.1 := fun e => by
      rw [← e] at q2
      rw [ltB_asym q1] at q2
      cases q2
    have ha := hs a (by simp)
    have hb := hs b (by simp)
    have hc := hs c (by simp)
    simp only [List.mem_cons, List.not_mem_nil, or_false] at hx
    rcases hx with rfl | rfl | rfl
    · simp [qy, n1.symm, n3.symm]; exact ha
    · simp [qy, n1, n2.symm]; exact hb
    · simp [qy, n3, n2]; exact hc
theorem fit_any {l : List Ex} (h : vx l = true) (s : ByteArray) : qy l s < W := by
  by_cases hx : ∃ x ∈ l, x.1 = s
  · obtain ⟨x, hm, rfl⟩ := hx
    exact fit_tot h hm
  · have : qy l s = 0 := by
      unfold qy
      have hz : ∀ (m : List Ex), (∀ x ∈ m, ¬ x.1 = s) → (m.map fun x => if x.1 = s then sumA x.2 else 0).sum = 0 := by
        intro m
        induction m with
        | nil => intro _; rfl
        | cons y r ih =>
          intro hm
          rw [List.map_cons, List.sum_cons, if_neg (hm y List.mem_cons_self), ih fun x hx => hm x (List.mem_cons_of_mem _ hx)]
      exact hz l fun x hm e => hx ⟨x, hm, e⟩
    rw [this]
    unfold W
    omega
theorem run_neqB {x y : Nat} {q : Bool} (h : decide (x ≠ y) = q) (o1 o2 : Operand) (w : World) : (do eqGuard .neq 23 o1 o2 (B x) (B y); binOp .neq 23 (B x) (B y) : Sem Value).run Tryz.prog w = .ok (.bool q) w := by
  subst h
  by_cases hx : x = y
  · simp [go_sem, hx]
  · have : ¬ (x : Int) = y := by omega
    simp [go_sem, hx, this]
theorem keeps_facts {f : Fi} {a b : Va} {fE : Fr} (h : foE f a b fE = 0) : b.1 = a.1 + 1 ∧ a.1 + 1 < M ∧ (b.2.1 || !a.2.1) = true ∧ (b.2.1 = true → eqX a.2.2.2 b.2.2.2 = true) ∧ (∀ x ∈ a.2.2.2 ++ b.2.2.2, qy a.2.2.2 x.1 < W ∧ qy a.2.2.2 x.1 = qy b.2.2.2 x.1) ∧ a.2.2.2.length ≤ 1000 ∧ b.2.2.2.length ≤ 1000 := by
  obtain ⟨h1, h2⟩ := fo_zero h
  obtain ⟨z1, z2, z3, z4, z5⟩ := e1_zero h1
  obtain ⟨f1, f2, f3⟩ := fi_fit z1
  have t1 := zds f2
  have t2 := zds f3
  have x1 : vx a.2.2.2 = true := by unfold fitV at f2; simp only [Bool.and_eq_true] at f2; exact f2.2
  have x2 : vx b.2.2.2 = true := by unfold fitV at f3; simp only [Bool.and_eq_true] at f3; exact f3.2
  have hk : noR f b = true → eqX a.2.2.2 b.2.2.2 = true := alone_eq h1
  refine ⟨?_, by unfold M; omega, ?_, fun hb => hk (by unfold noR; rw [hb]; rfl), fun x hx => ⟨fit_any x1 x.1, ?_⟩, by omega, by omega⟩
  · unfold nxE at z2
    by_cases q : b.1 = a.1 + 1
    · exact q
    · rw [decide_eq_false q] at z2; cases z2
  · unfold stE at z3
    cases q : (b.2.1 || !a.2.1) with
    | true => rfl
    | false => rw [q] at z3; cases z3
  · rcases h2 with h2 | ⟨h2, _⟩
    · have e := @of_decide_eq_true _ (decEx a.2.2.2 b.2.2.2) (hk h2)
      rw [e]
    · unfold ktB at h2
      rw [List.all_eq_true] at h2
      have := of_decide_eq_true (h2 x hx)
      unfold tvN at this
      rwa [if_pos (fit_any x1 x.1), if_pos (fit_any x2 x.1)] at this
theorem runV_sh {c i : List UInt8} {g : Int} (n : Nat) (hn : n ≤ 100001) (h : (runN n (beg c i g)).sd ≠ 0) : runV c i g = runN n (beg c i g) := by
  unfold runV
  rw [show (100001 : Nat) = n + (100001 - n) by omega]
  exact runN_more n _ h
theorem run_G (c i : List UInt8) (hc : c.length ≤ 65536) (hi : i.length ≤ 65536) : RunC TT c i (runV c i 20000) := fun w' ht => (run_any c i hc hi 20000 w' ht.tb ht.ts).mono fun e w'' he => by
  obtain ⟨x, rfl, ad, cap, rfl, _, hb⟩ := he
  exact ⟨ad, _, cap, rfl, hb⟩
theorem run_GA : RunA TT := fun i hi => ⟨_, by rw [runV_sh (c := exC) (i := i) (g := 20000) 6 (by decide) (by rw [runs_A6]; exact one_ne), runs_A6]; exact al_1 i, run_G exC i (by decide) hi⟩
theorem run_GB : RunB TT := fun i hi => ⟨_, by rw [runV_sh (c := []) (i := i) (g := 20000) 1 (by decide) (by rw [runs_B1]; exact one_ne), runs_B1]; exact al_2 i, run_G [] i (by decide) hi⟩
theorem keeps_walk {w : World} (ht : TT w) {f : Fi} {pv : Value} (hp : PaI w pv f.1) {a b : Va} {ea eb : Value} (ha : ExI w ea a.2.2.2) (hta : a.1 < M) (hb : ExI w eb b.2.2.2) (htb : b.1 < M) :
    Calls Tryz.prog 5 #[fxdV f pv, vaV a ea, vaV b eb] w fun e w' => e = .returned (.bool true) ∧ Below w.heap.size w w' := by
  have hAw : ∀ w', Below w.heap.size w w' → Calls Tryz.prog 9 #[] w' fun e w'' => e = .returned (.bool true) ∧ Below w'.heap.size w' w'' := fun w' hb => awake_ok (fun _ _ h hb => h.below hb) run_GA run_GB (ht.below hb)
  obtain ⟨ps, no, ap, ti⟩ := f
  obtain ⟨adp, capp, rfl, _⟩ := id hp.2
  obtain ⟨ada, ca, rfl⟩ := ha.slice
  obtain ⟨adb, cb, rfl⟩ := hb.slice
  obtain ⟨fE, hfE⟩ : ∃ fE, runV ap.data.toList (inV a b (mvV (ps, no, ap, ti) b.1)) 20000 = fE := ⟨_, rfl⟩
  have hfol : okX a.2.2.2 → okX b.2.2.2 → ps.length < 1000000 → ∀ w', Below w.heap.size w w' → Calls Tryz.prog 16 #[fxdV (ps, no, ap, ti) (.slice adp ps.length capp), vaV a (.slice ada a.2.2.2.length ca), vaV b (.slice adb b.2.2.2.length cb)] w' fun r w'' => r = .returned (Z (foE (ps, no, ap, ti) a b fE)) ∧ Below w'.heap.size w' w'' := fun h1 h2 h3 w' hb' => zc0 (f := (ps, no, ap, ti)) ⟨hp.below hb', ha.below CE.loc hb', hb.below CE.loc hb', hta, htb, h1, h2, h3⟩ fE fun h0 w2 hb2 => by
    have hsz : ap.data.toList.length ≤ 65536 := by
      have h1 := (fi_fit h0).1
      unfold fitF at h1
      simp only [Bool.and_eq_true, decide_eq_true_eq] at h1
      have : ap.size ≤ 512 := h1.1.1.2
      rw [Array.length_toList]
      exact Nat.le_trans this (by decide)
    have := run_G ap.data.toList (inV a b (mvV (ps, no, ap, ti) b.1)) hsz (inV_len _ _ _) w2 (ht.below (hb'.trans (hb2.mono hb'.size)))
    rw [hfE] at this
    exact this
  have hse : okX a.2.2.2 → ∀ w', Below w.heap.size w w' → Calls Tryz.prog 18 #[.slice ada a.2.2.2.length ca, .slice adb b.2.2.2.length cb] w' fun r w'' => r = .returned (.bool (eqX a.2.2.2 b.2.2.2)) ∧ Below w'.heap.size w' w'' := fun h1 w' hb' => rsame_exits (ha.below CE.loc hb') (hb.below CE.loc hb') h1
  have hfz := keeps_facts (f := (ps, no, ap, ti)) (a := a) (b := b) (fE := fE)
  generalize foE (ps, no, ap, ti) a b fE = fo at hfol hfz
  obtain ⟨ta, fa, da, xa⟩ := a
  obtain ⟨tb, fb, db, xb⟩ := b
  simp only [] at hfol hse hfz ha hb
  refine inQ (J := Below w.heap.size w) (F := (· < w.heap.size)) Tryz.func5 (Below.refl _ _) fun a I => ?_
  refine goQ [] (zd w) I fun β1 a1 w1 I1 hb1 => ?_
  refine bslQ (ss := [(0, Sum.inl (.agg #[B ta, .bool fa, .string da, .slice ada xa.length ca])), (1, Sum.inl (.agg #[B tb, .bool fb, .string db, .slice adb xb.length cb]))]) I1 (bs52 ada adb xa.length xb.length ca cb ta tb da db fa fb w1) ?_
  have I2 := I1.alloc (zd w) (.cells #[B ta, .bool fa, .string da, .slice ada xa.length ca, B tb, .bool fb, .string db, .slice adb xb.length cb] 28) (.slice (some ⟨w1.heap.size, 0, none⟩) 2 2)
  have hrow : zb (w1.alloc (.cells #[B ta, .bool fa, .string da, .slice ada xa.length ca, B tb, .bool fb, .string db, .slice adb xb.length cb] 28)) w1.heap.size #[B ta, .bool fa, .string da, .slice ada xa.length ca, B tb, .bool fb, .string db, .slice adb xb.length cb] := zb.last rfl
  generalize w1.alloc (.cells #[B ta, .bool fa, .string da, .slice ada xa.length ca, B tb, .bool fb, .string db, .slice adb xb.length cb] 28) = w2 at *
  generalize w1.heap.size = g at *
  refine mcall (f := 8) (ss := [Sum.inl (.agg #[.slice adp ps.length capp, B no, .string ap, Z ti]), Sum.inl (.slice (some ⟨g, 0, none⟩) 2 2)]) Tryz.func8 I2 ((few_two (f := (ps, no, ap, ti)) (a := (ta, fa, da, xa)) (b := (tb, fb, db, xb)) (hp.below I2.hJ) (ha.below CE.loc I2.hJ) (hb.below CE.loc I2.hJ) hrow).mono fun r w3 hr => ?_)
  obtain ⟨hb3, u, rfl, hu⟩ := hr
  have I3 := I2.moved (J' := Below w.heap.size w) (F' := (· < w.heap.size)) (zq.of_below hb3) (I2.hJ.trans (hb3.mono I2.hJ.size)) (fun _ _ h => h) u
  rcases hu with rfl | ⟨rfl, hps, hfa, hfb⟩
  · refine goT (T := Below w.heap.size w) [uO .not (p := .bool false) (v := .bool true) (by intros; rfl), cA Tryz.func9 hAw] (zd w) (fun _ h => h) I3 fun β4 a4 w4 I4 hb4 => ?_
    exact zm (v := .bool true) I4 ⟨rfl, I4.hJ⟩
  have hps' : ps.length < 1000000 := by have : ps.length < 20 := hps; omega
  have hfol := hfol hfa.ok hfb.ok hps'
  have hse := hse hfa.ok
  by_cases hz : fo = 0
  · obtain ⟨k1, k2, k3, k4, k5, k6, k7⟩ := hfz hz
    have had := zcu ta 1 k2
    have hne : decide (tb ≠ ta + 1) = false := by simp [k1]
    cases fb
    · cases fa
      · refine goT (T := Below w.heap.size w) [uO .not (p := .bool true) (v := .bool false) (by intros; rfl), cA Tryz.func16 hfol, bO .neq 33 (kf (x := fo) (q := false) (by simp [hz])), bO .add 23 had, bO .neq 23 (run_neqB (x := tb) (y := ta + 1) hne)] (zd w) (fun _ h => h) I3 fun β4 a4 w4 I4 hb4 => ?_
        obtain ⟨u', Iu⟩ := I4.scr .skip (zv 95 r5K) r5V [(0, #[.slice adp ps.length capp, B no, .string ap, Z ti]), (1, #[B ta, .bool false, .string da, .slice ada xa.length ca]), (2, #[B tb, .bool false, .string db, .slice adb xb.length cb])] 3
        exact at_code (keeps_rest hAw ha hb hfa.ok hfb.ok k6 k7 k5 (Iu.cf rfl rfl rfl))
      · cases k3
    · have hse := hse
      rw [k4 rfl] at hse
      cases fa
      · refine goT (T := Below w.heap.size w) [uO .not (p := .bool true) (v := .bool false) (by intros; rfl), cA Tryz.func16 hfol, bO .neq 33 (kf (x := fo) (q := false) (by simp [hz])), bO .add 23 had, bO .neq 23 (run_neqB (x := tb) (y := ta + 1) hne), cA Tryz.func18 hse, uO .not (p := .bool true) (v := .bool false) (by intros; rfl)] (zd w) (fun _ h => h) I3 fun β4 a4 w4 I4 hb4 => ?_
        obtain ⟨u', Iu⟩ := I4.scr .skip (zv 95 r5K) r5V [(0, #[.slice adp ps.length capp, B no, .string ap, Z ti]), (1, #[B ta, .bool false, .string da, .slice ada xa.length ca]), (2, #[B tb, .bool true, .string db, .slice adb xb.length cb])] 3
        exact at_code (keeps_rest hAw ha hb hfa.ok hfb.ok k6 k7 k5 (Iu.cf rfl rfl rfl))
      · refine goT (T := Below w.heap.size w) [uO .not (p := .bool true) (v := .bool false) (by intros; rfl), cA Tryz.func16 hfol, bO .neq 33 (kf (x := fo) (q := false) (by simp [hz])), bO .add 23 had, bO .neq 23 (run_neqB (x := tb) (y := ta + 1) hne), uO .not (p := .bool true) (v := .bool false) (by intros; rfl), cA Tryz.func18 hse, uO .not (p := .bool true) (v := .bool false) (by intros; rfl)] (zd w) (fun _ h => h) I3 fun β4 a4 w4 I4 hb4 => ?_
        obtain ⟨u', Iu⟩ := I4.scr .skip (zv 95 r5K) r5V [(0, #[.slice adp ps.length capp, B no, .string ap, Z ti]), (1, #[B ta, .bool true, .string da, .slice ada xa.length ca]), (2, #[B tb, .bool true, .string db, .slice adb xb.length cb])] 3
        exact at_code (keeps_rest hAw ha hb hfa.ok hfb.ok k6 k7 k5 (Iu.cf rfl rfl rfl))
  · refine goT (T := Below w.heap.size w) [uO .not (p := .bool true) (v := .bool false) (by intros; rfl), cA Tryz.func16 hfol, bO .neq 33 (kf (x := fo) (q := true) (by simp [hz])), cA Tryz.func9 hAw] (zd w) (fun _ h => h) I3 fun β4 a4 w4 I4 hb4 => ?_
    exact zm (v := .bool true) I4 ⟨rfl, I4.hJ⟩
end Go.Proofs.YthkpgfbjdabflaaGreatDoor
