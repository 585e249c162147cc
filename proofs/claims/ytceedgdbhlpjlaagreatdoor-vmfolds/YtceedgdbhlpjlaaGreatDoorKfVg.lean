/- Out of Vg. -/
import Derived.Test.YtceedgdbhlpjlaaGreatDoorKfVe
namespace Go.Proofs.YtceedgdbhlpjlaaGreatDoor
open Go.RowKit Go.Sort
set_option linter.unusedVariables false
set_option maxRecDepth 100000
set_option maxHeartbeats 4000000
theorem neqU_run {n m : Nat} (hn : n < W) (hm : m < W) {b : Bool} (h : decide (n ≠ m) = b) (x y : Operand) (w : World) : (do eqGuard .neq 38 x y (U n) (U m); binOp .neq 38 (U n) (U m) : Sem Value).run Tryz.prog w = .ok (.bool b) w := by
  have he := run_eqU n m hn hm w
  have hg : (eqGuard .neq 38 x y (U n) (U m)).run Tryz.prog w = .ok () w := by
    unfold eqGuard
    simp [go_sem]
  simp only [Sem.run_bind, hg, Result.andThen_ok]
  unfold binOp Op.equal
  simp only [Sem.run_bind]
  rw [show Op.maxDepth = 10000 from rfl, he]
  subst h
  by_cases hq : n = m <;> simp [go_sem, hq]
theorem smI_run (n : Nat) (w : World) : ∃ i : Int, (n < 1000000000000 → i = n) ∧ ∀ w, Calls Tryz.prog 72 #[U n] w fun e w' => e = .returned (Z i) ∧ Below w.heap.size w w' := by
  by_cases h : n < 1000000000000
  · exact ⟨n, fun _ => rfl, small_any n h⟩
  refine ⟨IntKind.i64.wrap (l0 n), fun h' => absurd h' h, fun w => ?_⟩
  have hc : ∀ w, (convert 36 3 (B (l0 n))).run Tryz.prog w = .ok (Z (IntKind.i64.wrap (l0 n))) w := fun w => by simp [go_sem]
  unfold U
  generalize IntKind.i64.wrap (l0 n) = z at *
  generalize l0 n = a0 at *
  generalize l1 n = a1 at *
  generalize l2 n = a2 at *
  generalize l3 n = a3 at *
  refine inQ (J := Below w.heap.size w) (F := (· < w.heap.size)) Tryz.func72 (Below.refl _ _) fun a I => ?_
  refine goQ [vO 36 3 hc] (nonR w) I fun β a w1 I1 hb => ?_
  exact outQ (v := Z z) I1 ⟨rfl, I1.hJ⟩
theorem putV_nil (m : List UInt8) (i : Int) : putV m i [] = m := by
  unfold putV
  split
  · rfl
  · simp
theorem m_add {g : Nat} {f : Fr} {op : Nat} {pa : Int} {a b : Nat} {s : List Nat} (hs : f.st = a :: b :: s) (ha : a < W) (hb : b < W) (hl : f.st.length ≤ 900) : Mth 93 g [] f op pa TU0 { f with st := (addW a b) :: s } op pa := by
  have t := two_any (g := g) (op := op) (pa := pa) hs hl Tryz.func170 (by kernel_rfl) (by kernel_rfl) (addW a b) (add_c a b ha hb)
  generalize (addW a b) = r at *
  intro v dv w h
  refine inG (J := MS w g v dv v f dv) (F := MF w g v dv) [] Tryz.func93 h.start h.row h.c.not fun Az I => ?_
  refine goQ [] (MS.rs _ _ _ _ _ _ _) I fun β0 A0 w0 I0 hb0 => ?_
  have hz0 : β0 0 = g := agr hb0 0 rfl
  refine mcallM Tryz.func169 t I0 hz0 fun ad cap dv' w1 I1 => ?_
  refine goQ [] (MS.rs _ _ _ _ _ _ _) I1 fun β2 A2 w2 I2 hb2 => ?_
  exact out0 I2 ⟨_, _, rfl, I2.mp (agr hb2 0 hz0)⟩
theorem m_mul {g : Nat} {f : Fr} {op : Nat} {pa : Int} {a b : Nat} {s : List Nat} (hs : f.st = a :: b :: s) (ha : a < W) (hb : b < W) (hl : f.st.length ≤ 900) : Mth 94 g [] f op pa TU0 { f with st := (a * b % W) :: s } op pa := by
  have t := two_any (g := g) (op := op) (pa := pa) hs hl Tryz.func172 (by kernel_rfl) (by kernel_rfl) (a * b % W) (mul_any a b ha hb)
  generalize (a * b % W) = r at *
  intro v dv w h
  refine inG (J := MS w g v dv v f dv) (F := MF w g v dv) [] Tryz.func94 h.start h.row h.c.not fun Az I => ?_
  refine goQ [] (MS.rs _ _ _ _ _ _ _) I fun β0 A0 w0 I0 hb0 => ?_
  have hz0 : β0 0 = g := agr hb0 0 rfl
  refine mcallM Tryz.func169 t I0 hz0 fun ad cap dv' w1 I1 => ?_
  refine goQ [] (MS.rs _ _ _ _ _ _ _) I1 fun β2 A2 w2 I2 hb2 => ?_
  exact out0 I2 ⟨_, _, rfl, I2.mp (agr hb2 0 hz0)⟩
theorem m_sub {g : Nat} {f : Fr} {op : Nat} {pa : Int} {a b : Nat} {s : List Nat} (hs : f.st = a :: b :: s) (ha : a < W) (hb : b < W) (hl : f.st.length ≤ 900) : Mth 95 g [] f op pa TU0 { f with st := (subW a b) :: s } op pa := by
  have t := two_any (g := g) (op := op) (pa := pa) hs hl Tryz.func173 (by kernel_rfl) (by kernel_rfl) (subW a b) (sub_c a b ha hb)
  generalize (subW a b) = r at *
  intro v dv w h
  refine inG (J := MS w g v dv v f dv) (F := MF w g v dv) [] Tryz.func95 h.start h.row h.c.not fun Az I => ?_
  refine goQ [] (MS.rs _ _ _ _ _ _ _) I fun β0 A0 w0 I0 hb0 => ?_
  have hz0 : β0 0 = g := agr hb0 0 rfl
  refine mcallM Tryz.func169 t I0 hz0 fun ad cap dv' w1 I1 => ?_
  refine goQ [] (MS.rs _ _ _ _ _ _ _) I1 fun β2 A2 w2 I2 hb2 => ?_
  exact out0 I2 ⟨_, _, rfl, I2.mp (agr hb2 0 hz0)⟩
theorem m_div {g : Nat} {f : Fr} {op : Nat} {pa : Int} {a b : Nat} {s : List Nat} (hs : f.st = a :: b :: s) (ha : a < W) (hb : b < W) (hl : f.st.length ≤ 900) : Mth 96 g [] f op pa TU0 { f with st := (a / b) :: s } op pa := by
  have t := two_any (g := g) (op := op) (pa := pa) hs hl Tryz.func175 (by kernel_rfl) (by kernel_rfl) (a / b) (div_c a b ha hb)
  generalize (a / b) = r at *
  intro v dv w h
  refine inG (J := MS w g v dv v f dv) (F := MF w g v dv) [] Tryz.func96 h.start h.row h.c.not fun Az I => ?_
  refine goQ [] (MS.rs _ _ _ _ _ _ _) I fun β0 A0 w0 I0 hb0 => ?_
  have hz0 : β0 0 = g := agr hb0 0 rfl
  refine mcallM Tryz.func169 t I0 hz0 fun ad cap dv' w1 I1 => ?_
  refine goQ [] (MS.rs _ _ _ _ _ _ _) I1 fun β2 A2 w2 I2 hb2 => ?_
  exact out0 I2 ⟨_, _, rfl, I2.mp (agr hb2 0 hz0)⟩
theorem m_sdiv {g : Nat} {f : Fr} {op : Nat} {pa : Int} {a b : Nat} {s : List Nat} (hs : f.st = a :: b :: s) (ha : a < W) (hb : b < W) (hl : f.st.length ≤ 900) : Mth 97 g [] f op pa TU0 { f with st := (sq a b) :: s } op pa := by
  have t := two_any (g := g) (op := op) (pa := pa) hs hl Tryz.func178 (by kernel_rfl) (by kernel_rfl) (sq a b) (sdiv_c a b ha hb)
  generalize (sq a b) = r at *
  intro v dv w h
  refine inG (J := MS w g v dv v f dv) (F := MF w g v dv) [] Tryz.func97 h.start h.row h.c.not fun Az I => ?_
  refine goQ [] (MS.rs _ _ _ _ _ _ _) I fun β0 A0 w0 I0 hb0 => ?_
  have hz0 : β0 0 = g := agr hb0 0 rfl
  refine mcallM Tryz.func169 t I0 hz0 fun ad cap dv' w1 I1 => ?_
  refine goQ [] (MS.rs _ _ _ _ _ _ _) I1 fun β2 A2 w2 I2 hb2 => ?_
  exact out0 I2 ⟨_, _, rfl, I2.mp (agr hb2 0 hz0)⟩
theorem m_rest {g : Nat} {f : Fr} {op : Nat} {pa : Int} {a b : Nat} {s : List Nat} (hs : f.st = a :: b :: s) (ha : a < W) (hb : b < W) (hl : f.st.length ≤ 900) : Mth 98 g [] f op pa TU0 { f with st := (dr 0 a b) :: s } op pa := by
  have t := two_any (g := g) (op := op) (pa := pa) hs hl Tryz.func180 (by kernel_rfl) (by kernel_rfl) (dr 0 a b) (rst_c a b ha hb)
  generalize (dr 0 a b) = r at *
  intro v dv w h
  refine inG (J := MS w g v dv v f dv) (F := MF w g v dv) [] Tryz.func98 h.start h.row h.c.not fun Az I => ?_
  refine goQ [] (MS.rs _ _ _ _ _ _ _) I fun β0 A0 w0 I0 hb0 => ?_
  have hz0 : β0 0 = g := agr hb0 0 rfl
  refine mcallM Tryz.func169 t I0 hz0 fun ad cap dv' w1 I1 => ?_
  refine goQ [] (MS.rs _ _ _ _ _ _ _) I1 fun β2 A2 w2 I2 hb2 => ?_
  exact out0 I2 ⟨_, _, rfl, I2.mp (agr hb2 0 hz0)⟩
theorem m_srest {g : Nat} {f : Fr} {op : Nat} {pa : Int} {a b : Nat} {s : List Nat} (hs : f.st = a :: b :: s) (ha : a < W) (hb : b < W) (hl : f.st.length ≤ 900) : Mth 99 g [] f op pa TU0 { f with st := (sr a b) :: s } op pa := by
  have t := two_any (g := g) (op := op) (pa := pa) hs hl Tryz.func182 (by kernel_rfl) (by kernel_rfl) (sr a b) (srst_c a b ha hb)
  generalize (sr a b) = r at *
  intro v dv w h
  refine inG (J := MS w g v dv v f dv) (F := MF w g v dv) [] Tryz.func99 h.start h.row h.c.not fun Az I => ?_
  refine goQ [] (MS.rs _ _ _ _ _ _ _) I fun β0 A0 w0 I0 hb0 => ?_
  have hz0 : β0 0 = g := agr hb0 0 rfl
  refine mcallM Tryz.func169 t I0 hz0 fun ad cap dv' w1 I1 => ?_
  refine goQ [] (MS.rs _ _ _ _ _ _ _) I1 fun β2 A2 w2 I2 hb2 => ?_
  exact out0 I2 ⟨_, _, rfl, I2.mp (agr hb2 0 hz0)⟩
theorem m_pow {g : Nat} {f : Fr} {op : Nat} {pa : Int} {a b : Nat} {s : List Nat} (hs : f.st = a :: b :: s) (ha : a < W) (hb : b < W) (hl : f.st.length ≤ 900) : Mth 102 g [] f op pa TU0 { f with st := (rm (a ^ b) W) :: s } op pa := by
  have t := two_any (g := g) (op := op) (pa := pa) hs hl Tryz.func186 (by kernel_rfl) (by kernel_rfl) (rm (a ^ b) W) (exp_any a b ha hb)
  generalize (rm (a ^ b) W) = r at *
  intro v dv w h
  refine inG (J := MS w g v dv v f dv) (F := MF w g v dv) [] Tryz.func102 h.start h.row h.c.not fun Az I => ?_
  refine goQ [] (MS.rs _ _ _ _ _ _ _) I fun β0 A0 w0 I0 hb0 => ?_
  have hz0 : β0 0 = g := agr hb0 0 rfl
  refine mcallM Tryz.func169 t I0 hz0 fun ad cap dv' w1 I1 => ?_
  refine goQ [] (MS.rs _ _ _ _ _ _ _) I1 fun β2 A2 w2 I2 hb2 => ?_
  exact out0 I2 ⟨_, _, rfl, I2.mp (agr hb2 0 hz0)⟩
theorem m_ext {g : Nat} {f : Fr} {op : Nat} {pa : Int} {a b : Nat} {s : List Nat} (hs : f.st = a :: b :: s) (ha : a < W) (hb : b < W) (hl : f.st.length ≤ 900) : Mth 103 g [] f op pa TU0 { f with st := (exW a b) :: s } op pa := by
  have t := two_any (g := g) (op := op) (pa := pa) hs hl Tryz.func187 (by kernel_rfl) (by kernel_rfl) (exW a b) (ext_any a b ha hb)
  generalize (exW a b) = r at *
  intro v dv w h
  refine inG (J := MS w g v dv v f dv) (F := MF w g v dv) [] Tryz.func103 h.start h.row h.c.not fun Az I => ?_
  refine goQ [] (MS.rs _ _ _ _ _ _ _) I fun β0 A0 w0 I0 hb0 => ?_
  have hz0 : β0 0 = g := agr hb0 0 rfl
  refine mcallM Tryz.func169 t I0 hz0 fun ad cap dv' w1 I1 => ?_
  refine goQ [] (MS.rs _ _ _ _ _ _ _) I1 fun β2 A2 w2 I2 hb2 => ?_
  exact out0 I2 ⟨_, _, rfl, I2.mp (agr hb2 0 hz0)⟩
theorem m_and {g : Nat} {f : Fr} {op : Nat} {pa : Int} {a b : Nat} {s : List Nat} (hs : f.st = a :: b :: s) (ha : a < W) (hb : b < W) (hl : f.st.length ≤ 900) : Mth 110 g [] f op pa TU0 { f with st := (a &&& b) :: s } op pa := by
  have t := two_any (g := g) (op := op) (pa := pa) hs hl Tryz.func196 (by kernel_rfl) (by kernel_rfl) (a &&& b) (and_any a b)
  generalize (a &&& b) = r at *
  intro v dv w h
  refine inG (J := MS w g v dv v f dv) (F := MF w g v dv) [] Tryz.func110 h.start h.row h.c.not fun Az I => ?_
  refine goQ [] (MS.rs _ _ _ _ _ _ _) I fun β0 A0 w0 I0 hb0 => ?_
  have hz0 : β0 0 = g := agr hb0 0 rfl
  refine mcallM Tryz.func169 t I0 hz0 fun ad cap dv' w1 I1 => ?_
  refine goQ [] (MS.rs _ _ _ _ _ _ _) I1 fun β2 A2 w2 I2 hb2 => ?_
  exact out0 I2 ⟨_, _, rfl, I2.mp (agr hb2 0 hz0)⟩
theorem m_or {g : Nat} {f : Fr} {op : Nat} {pa : Int} {a b : Nat} {s : List Nat} (hs : f.st = a :: b :: s) (ha : a < W) (hb : b < W) (hl : f.st.length ≤ 900) : Mth 111 g [] f op pa TU0 { f with st := (a ||| b) :: s } op pa := by
  have t := two_any (g := g) (op := op) (pa := pa) hs hl Tryz.func197 (by kernel_rfl) (by kernel_rfl) (a ||| b) (or_any a b)
  generalize (a ||| b) = r at *
  intro v dv w h
  refine inG (J := MS w g v dv v f dv) (F := MF w g v dv) [] Tryz.func111 h.start h.row h.c.not fun Az I => ?_
  refine goQ [] (MS.rs _ _ _ _ _ _ _) I fun β0 A0 w0 I0 hb0 => ?_
  have hz0 : β0 0 = g := agr hb0 0 rfl
  refine mcallM Tryz.func169 t I0 hz0 fun ad cap dv' w1 I1 => ?_
  refine goQ [] (MS.rs _ _ _ _ _ _ _) I1 fun β2 A2 w2 I2 hb2 => ?_
  exact out0 I2 ⟨_, _, rfl, I2.mp (agr hb2 0 hz0)⟩
theorem m_xor {g : Nat} {f : Fr} {op : Nat} {pa : Int} {a b : Nat} {s : List Nat} (hs : f.st = a :: b :: s) (ha : a < W) (hb : b < W) (hl : f.st.length ≤ 900) : Mth 112 g [] f op pa TU0 { f with st := (a ^^^ b) :: s } op pa := by
  have t := two_any (g := g) (op := op) (pa := pa) hs hl Tryz.func198 (by kernel_rfl) (by kernel_rfl) (a ^^^ b) (xor_any a b)
  generalize (a ^^^ b) = r at *
  intro v dv w h
  refine inG (J := MS w g v dv v f dv) (F := MF w g v dv) [] Tryz.func112 h.start h.row h.c.not fun Az I => ?_
  refine goQ [] (MS.rs _ _ _ _ _ _ _) I fun β0 A0 w0 I0 hb0 => ?_
  have hz0 : β0 0 = g := agr hb0 0 rfl
  refine mcallM Tryz.func169 t I0 hz0 fun ad cap dv' w1 I1 => ?_
  refine goQ [] (MS.rs _ _ _ _ _ _ _) I1 fun β2 A2 w2 I2 hb2 => ?_
  exact out0 I2 ⟨_, _, rfl, I2.mp (agr hb2 0 hz0)⟩
theorem m_byte {g : Nat} {f : Fr} {op : Nat} {pa : Int} {a b : Nat} {s : List Nat} (hs : f.st = a :: b :: s) (ha : a < W) (hb : b < W) (hl : f.st.length ≤ 900) : Mth 114 g [] f op pa TU0 { f with st := (byW a b) :: s } op pa := by
  have t := two_any (g := g) (op := op) (pa := pa) hs hl Tryz.func200 (by kernel_rfl) (by kernel_rfl) (byW a b) (byte_any a b ha hb)
  generalize (byW a b) = r at *
  intro v dv w h
  refine inG (J := MS w g v dv v f dv) (F := MF w g v dv) [] Tryz.func114 h.start h.row h.c.not fun Az I => ?_
  refine goQ [] (MS.rs _ _ _ _ _ _ _) I fun β0 A0 w0 I0 hb0 => ?_
  have hz0 : β0 0 = g := agr hb0 0 rfl
  refine mcallM Tryz.func169 t I0 hz0 fun ad cap dv' w1 I1 => ?_
  refine goQ [] (MS.rs _ _ _ _ _ _ _) I1 fun β2 A2 w2 I2 hb2 => ?_
  exact out0 I2 ⟨_, _, rfl, I2.mp (agr hb2 0 hz0)⟩
theorem m_addm {g : Nat} {f : Fr} {op : Nat} {pa : Int} {a b c : Nat} {s : List Nat} (hs : f.st = a :: b :: c :: s) (ha : a < W) (hb : b < W) (hc : c < W) (hl : f.st.length ≤ 900) : Mth 100 g [] f op pa TU0 { f with st := (rm (a + b) c) :: s } op pa := by
  have t := three_any (g := g) (op := op) (pa := pa) hs hl Tryz.func184 (by kernel_rfl) (by kernel_rfl) (rm (a + b) c) (addmod_any a b c ha hb hc)
  generalize (rm (a + b) c) = r at *
  intro v dv w h
  refine inG (J := MS w g v dv v f dv) (F := MF w g v dv) [] Tryz.func100 h.start h.row h.c.not fun Az I => ?_
  refine goQ [] (MS.rs _ _ _ _ _ _ _) I fun β0 A0 w0 I0 hb0 => ?_
  have hz0 : β0 0 = g := agr hb0 0 rfl
  refine mcallM Tryz.func183 t I0 hz0 fun ad cap dv' w1 I1 => ?_
  refine goQ [] (MS.rs _ _ _ _ _ _ _) I1 fun β2 A2 w2 I2 hb2 => ?_
  exact out0 I2 ⟨_, _, rfl, I2.mp (agr hb2 0 hz0)⟩
theorem m_mulm {g : Nat} {f : Fr} {op : Nat} {pa : Int} {a b c : Nat} {s : List Nat} (hs : f.st = a :: b :: c :: s) (ha : a < W) (hb : b < W) (hc : c < W) (hl : f.st.length ≤ 900) : Mth 101 g [] f op pa TU0 { f with st := (rm (a * b) c) :: s } op pa := by
  have t := three_any (g := g) (op := op) (pa := pa) hs hl Tryz.func185 (by kernel_rfl) (by kernel_rfl) (rm (a * b) c) (mulmod_any a b c ha hb hc)
  generalize (rm (a * b) c) = r at *
  intro v dv w h
  refine inG (J := MS w g v dv v f dv) (F := MF w g v dv) [] Tryz.func101 h.start h.row h.c.not fun Az I => ?_
  refine goQ [] (MS.rs _ _ _ _ _ _ _) I fun β0 A0 w0 I0 hb0 => ?_
  have hz0 : β0 0 = g := agr hb0 0 rfl
  refine mcallM Tryz.func183 t I0 hz0 fun ad cap dv' w1 I1 => ?_
  refine goQ [] (MS.rs _ _ _ _ _ _ _) I1 fun β2 A2 w2 I2 hb2 => ?_
  exact out0 I2 ⟨_, _, rfl, I2.mp (agr hb2 0 hz0)⟩
theorem m_less {g : Nat} {f : Fr} {op : Nat} {pa : Int} {a b : Nat} {s : List Nat} (hs : f.st = a :: b :: s) (ha : a < W) (hb : b < W) (hl : f.st.length ≤ 900) : Mth 104 g [] f op pa TU0 { f with st := trB (decide (cmpN a b < 0)) :: s } op pa := by
  have t := which_any (g := g) (op := op) (pa := pa) hs hl Tryz.func189 (by kernel_rfl) (by kernel_rfl) (decide (cmpN a b < 0)) (less_c a b ha hb)
  generalize trB (decide (cmpN a b < 0)) = r at *
  intro v dv w h
  refine inG (J := MS w g v dv v f dv) (F := MF w g v dv) [] Tryz.func104 h.start h.row h.c.not fun Az I => ?_
  refine goQ [] (MS.rs _ _ _ _ _ _ _) I fun β0 A0 w0 I0 hb0 => ?_
  have hz0 : β0 0 = g := agr hb0 0 rfl
  refine mcallM Tryz.func188 t I0 hz0 fun ad cap dv' w1 I1 => ?_
  refine goQ [] (MS.rs _ _ _ _ _ _ _) I1 fun β2 A2 w2 I2 hb2 => ?_
  exact out0 I2 ⟨_, _, rfl, I2.mp (agr hb2 0 hz0)⟩
theorem m_more {g : Nat} {f : Fr} {op : Nat} {pa : Int} {a b : Nat} {s : List Nat} (hs : f.st = a :: b :: s) (ha : a < W) (hb : b < W) (hl : f.st.length ≤ 900) : Mth 105 g [] f op pa TU0 { f with st := trB (decide (0 < cmpN a b)) :: s } op pa := by
  have t := which_any (g := g) (op := op) (pa := pa) hs hl Tryz.func190 (by kernel_rfl) (by kernel_rfl) (decide (0 < cmpN a b)) (more_c a b ha hb)
  generalize trB (decide (0 < cmpN a b)) = r at *
  intro v dv w h
  refine inG (J := MS w g v dv v f dv) (F := MF w g v dv) [] Tryz.func105 h.start h.row h.c.not fun Az I => ?_
  refine goQ [] (MS.rs _ _ _ _ _ _ _) I fun β0 A0 w0 I0 hb0 => ?_
  have hz0 : β0 0 = g := agr hb0 0 rfl
  refine mcallM Tryz.func188 t I0 hz0 fun ad cap dv' w1 I1 => ?_
  refine goQ [] (MS.rs _ _ _ _ _ _ _) I1 fun β2 A2 w2 I2 hb2 => ?_
  exact out0 I2 ⟨_, _, rfl, I2.mp (agr hb2 0 hz0)⟩
theorem m_sless {g : Nat} {f : Fr} {op : Nat} {pa : Int} {a b : Nat} {s : List Nat} (hs : f.st = a :: b :: s) (ha : a < W) (hb : b < W) (hl : f.st.length ≤ 900) : Mth 106 g [] f op pa TU0 { f with st := trB (ls a b) :: s } op pa := by
  have t := which_any (g := g) (op := op) (pa := pa) hs hl Tryz.func191 (by kernel_rfl) (by kernel_rfl) (ls a b) (less_any a b ha hb)
  generalize trB (ls a b) = r at *
  intro v dv w h
  refine inG (J := MS w g v dv v f dv) (F := MF w g v dv) [] Tryz.func106 h.start h.row h.c.not fun Az I => ?_
  refine goQ [] (MS.rs _ _ _ _ _ _ _) I fun β0 A0 w0 I0 hb0 => ?_
  have hz0 : β0 0 = g := agr hb0 0 rfl
  refine mcallM Tryz.func188 t I0 hz0 fun ad cap dv' w1 I1 => ?_
  refine goQ [] (MS.rs _ _ _ _ _ _ _) I1 fun β2 A2 w2 I2 hb2 => ?_
  exact out0 I2 ⟨_, _, rfl, I2.mp (agr hb2 0 hz0)⟩
theorem m_smore {g : Nat} {f : Fr} {op : Nat} {pa : Int} {a b : Nat} {s : List Nat} (hs : f.st = a :: b :: s) (ha : a < W) (hb : b < W) (hl : f.st.length ≤ 900) : Mth 107 g [] f op pa TU0 { f with st := trB (ls b a) :: s } op pa := by
  have t := which_any (g := g) (op := op) (pa := pa) hs hl Tryz.func192 (by kernel_rfl) (by kernel_rfl) (ls b a) (smore_c a b ha hb)
  generalize trB (ls b a) = r at *
  intro v dv w h
  refine inG (J := MS w g v dv v f dv) (F := MF w g v dv) [] Tryz.func107 h.start h.row h.c.not fun Az I => ?_
  refine goQ [] (MS.rs _ _ _ _ _ _ _) I fun β0 A0 w0 I0 hb0 => ?_
  have hz0 : β0 0 = g := agr hb0 0 rfl
  refine mcallM Tryz.func188 t I0 hz0 fun ad cap dv' w1 I1 => ?_
  refine goQ [] (MS.rs _ _ _ _ _ _ _) I1 fun β2 A2 w2 I2 hb2 => ?_
  exact out0 I2 ⟨_, _, rfl, I2.mp (agr hb2 0 hz0)⟩
theorem m_same {g : Nat} {f : Fr} {op : Nat} {pa : Int} {a b : Nat} {s : List Nat} (hs : f.st = a :: b :: s) (ha : a < W) (hb : b < W) (hl : f.st.length ≤ 900) : Mth 108 g [] f op pa TU0 { f with st := trB (decide (a = b)) :: s } op pa := by
  have t := which_any (g := g) (op := op) (pa := pa) hs hl Tryz.func193 (by kernel_rfl) (by kernel_rfl) (decide (a = b)) (same_c a b ha hb)
  generalize trB (decide (a = b)) = r at *
  intro v dv w h
  refine inG (J := MS w g v dv v f dv) (F := MF w g v dv) [] Tryz.func108 h.start h.row h.c.not fun Az I => ?_
  refine goQ [] (MS.rs _ _ _ _ _ _ _) I fun β0 A0 w0 I0 hb0 => ?_
  have hz0 : β0 0 = g := agr hb0 0 rfl
  refine mcallM Tryz.func188 t I0 hz0 fun ad cap dv' w1 I1 => ?_
  refine goQ [] (MS.rs _ _ _ _ _ _ _) I1 fun β2 A2 w2 I2 hb2 => ?_
  exact out0 I2 ⟨_, _, rfl, I2.mp (agr hb2 0 hz0)⟩
theorem m_shl {g : Nat} {f : Fr} {op : Nat} {pa : Int} {a b : Nat} {s : List Nat} (hs : f.st = a :: b :: s) (ha : a < W) (hb : b < W) (hl : f.st.length ≤ 900) : Mth 115 g [] f op pa TU0 { f with st := (shlW b (shN a)) :: s } op pa := by
  have t := shift_any (g := g) (op := op) (pa := pa) hs hl Tryz.func202 (by kernel_rfl) (by kernel_rfl) (shlW b (shN a)) (shl_any b (shN a) hb)
  generalize (shlW b (shN a)) = r at *
  intro v dv w h
  refine inG (J := MS w g v dv v f dv) (F := MF w g v dv) [] Tryz.func115 h.start h.row h.c.not fun Az I => ?_
  refine goQ [] (MS.rs _ _ _ _ _ _ _) I fun β0 A0 w0 I0 hb0 => ?_
  have hz0 : β0 0 = g := agr hb0 0 rfl
  refine mcallM Tryz.func201 t I0 hz0 fun ad cap dv' w1 I1 => ?_
  refine goQ [] (MS.rs _ _ _ _ _ _ _) I1 fun β2 A2 w2 I2 hb2 => ?_
  exact out0 I2 ⟨_, _, rfl, I2.mp (agr hb2 0 hz0)⟩
theorem m_shr {g : Nat} {f : Fr} {op : Nat} {pa : Int} {a b : Nat} {s : List Nat} (hs : f.st = a :: b :: s) (ha : a < W) (hb : b < W) (hl : f.st.length ≤ 900) : Mth 116 g [] f op pa TU0 { f with st := (shrW b (shN a)) :: s } op pa := by
  have t := shift_any (g := g) (op := op) (pa := pa) hs hl Tryz.func203 (by kernel_rfl) (by kernel_rfl) (shrW b (shN a)) (shr_any b (shN a) hb)
  generalize (shrW b (shN a)) = r at *
  intro v dv w h
  refine inG (J := MS w g v dv v f dv) (F := MF w g v dv) [] Tryz.func116 h.start h.row h.c.not fun Az I => ?_
  refine goQ [] (MS.rs _ _ _ _ _ _ _) I fun β0 A0 w0 I0 hb0 => ?_
  have hz0 : β0 0 = g := agr hb0 0 rfl
  refine mcallM Tryz.func201 t I0 hz0 fun ad cap dv' w1 I1 => ?_
  refine goQ [] (MS.rs _ _ _ _ _ _ _) I1 fun β2 A2 w2 I2 hb2 => ?_
  exact out0 I2 ⟨_, _, rfl, I2.mp (agr hb2 0 hz0)⟩
theorem m_sar {g : Nat} {f : Fr} {op : Nat} {pa : Int} {a b : Nat} {s : List Nat} (hs : f.st = a :: b :: s) (ha : a < W) (hb : b < W) (hl : f.st.length ≤ 900) : Mth 117 g [] f op pa TU0 { f with st := (sar b (shN a)) :: s } op pa := by
  have t := shift_any (g := g) (op := op) (pa := pa) hs hl Tryz.func204 (by kernel_rfl) (by kernel_rfl) (sar b (shN a)) (sar_any b (shN a) hb)
  generalize (sar b (shN a)) = r at *
  intro v dv w h
  refine inG (J := MS w g v dv v f dv) (F := MF w g v dv) [] Tryz.func117 h.start h.row h.c.not fun Az I => ?_
  refine goQ [] (MS.rs _ _ _ _ _ _ _) I fun β0 A0 w0 I0 hb0 => ?_
  have hz0 : β0 0 = g := agr hb0 0 rfl
  refine mcallM Tryz.func201 t I0 hz0 fun ad cap dv' w1 I1 => ?_
  refine goQ [] (MS.rs _ _ _ _ _ _ _) I1 fun β2 A2 w2 I2 hb2 => ?_
  exact out0 I2 ⟨_, _, rfl, I2.mp (agr hb2 0 hz0)⟩
theorem m_zero {g : Nat} {f : Fr} {op : Nat} {pa : Int} {a : Nat} {s : List Nat} (hs : f.st = a :: s) (ha : a < W) (hl : f.st.length ≤ 900) : Mth 109 g [] f op pa TU0 { f with st := trB (decide (a = 0)) :: s } op pa := by
  have t0 := take_any (g := g) (op := op) (pa := pa) hs (by omega)
  have hy := lay_any (g := g) (op := op) (pa := pa) (f := { f with st := s }) (trB (decide (a = 0))) (by simp only []; rw [hs] at hl; simp at hl; omega)
  obtain ⟨q, hq⟩ : ∃ q, decide (a = 0) = q := ⟨_, rfl⟩
  have he := eqU_run ha (show 0 < W from Nat.lt_of_le_of_lt (Nat.zero_le _) ha) hq
  rw [U0] at he
  rw [hq] at hy ⊢
  have ht := truth_any q
  generalize trB q = r at *
  unfold U at *
  generalize l0 a = a0 at *
  generalize l1 a = a1 at *
  generalize l2 a = a2 at *
  generalize l3 a = a3 at *
  generalize l0 r = r0 at *
  generalize l1 r = r1 at *
  generalize l2 r = r2 at *
  generalize l3 r = r3 at *
  intro v dv w h
  refine inG (J := MS w g v dv v f dv) (F := MF w g v dv) [] Tryz.func109 h.start h.row h.c.not fun Az I => ?_
  refine goQ [] (MS.rs _ _ _ _ _ _ _) I fun β0 A0 w0 I0 hb0 => ?_
  have hz0 : β0 0 = g := agr hb0 0 rfl
  refine mcallM Tryz.func195 t0 I0 hz0 fun ad0 cap0 dv0 w1 I1 => ?_
  refine goQ [dO 38 [] bd38_0, bO .eql 38 he, kC Tryz.func194 ht] (MS.rs _ _ _ _ _ _ _) I1 fun β2 A2 w2 I2 hb2 => ?_
  have hz2 : β2 0 = g := agr hb2 0 hz0
  refine mcallM Tryz.func136 hy I2 hz2 fun ad cap dv' w3 I3 => ?_
  refine goQ [] (MS.rs _ _ _ _ _ _ _) I3 fun β9 A9 w9 I9 hb9 => ?_
  exact out0 I9 ⟨_, _, rfl, I9.mp (agr hb9 0 hz2)⟩
theorem m_not {g : Nat} {f : Fr} {op : Nat} {pa : Int} {a : Nat} {s : List Nat} (hs : f.st = a :: s) (ha : a < W) (hl : f.st.length ≤ 900) : Mth 113 g [] f op pa TU0 { f with st := notW a :: s } op pa := by
  have t0 := take_any (g := g) (op := op) (pa := pa) hs (by omega)
  have hy := lay_any (g := g) (op := op) (pa := pa) (f := { f with st := s }) (notW a) (by simp only []; rw [hs] at hl; simp at hl; omega)
  have hn := not_any a ha
  generalize notW a = r at *
  unfold U at *
  generalize l0 a = a0 at *
  generalize l1 a = a1 at *
  generalize l2 a = a2 at *
  generalize l3 a = a3 at *
  generalize l0 r = r0 at *
  generalize l1 r = r1 at *
  generalize l2 r = r2 at *
  generalize l3 r = r3 at *
  intro v dv w h
  refine inG (J := MS w g v dv v f dv) (F := MF w g v dv) [] Tryz.func113 h.start h.row h.c.not fun Az I => ?_
  refine goQ [] (MS.rs _ _ _ _ _ _ _) I fun β0 A0 w0 I0 hb0 => ?_
  have hz0 : β0 0 = g := agr hb0 0 rfl
  refine mcallM Tryz.func195 t0 I0 hz0 fun ad0 cap0 dv0 w1 I1 => ?_
  refine goQ [kC Tryz.func199 hn] (MS.rs _ _ _ _ _ _ _) I1 fun β2 A2 w2 I2 hb2 => ?_
  have hz2 : β2 0 = g := agr hb2 0 hz0
  refine mcallM Tryz.func136 hy I2 hz2 fun ad cap dv' w3 I3 => ?_
  refine goQ [] (MS.rs _ _ _ _ _ _ _) I3 fun β9 A9 w9 I9 hb9 => ?_
  exact out0 I9 ⟨_, _, rfl, I9.mp (agr hb9 0 hz2)⟩
theorem m_pop {g : Nat} {f : Fr} {op : Nat} {pa : Int} {a : Nat} {s : List Nat} (hs : f.st = a :: s) (ha : a < W) (hl : f.st.length ≤ 900) : Mth 124 g [] f op pa TU0 { f with st := s } op pa := by
  have t0 := take_any (g := g) (op := op) (pa := pa) hs (by omega)
  unfold U at *
  generalize l0 a = a0 at *
  generalize l1 a = a1 at *
  generalize l2 a = a2 at *
  generalize l3 a = a3 at *
  intro v dv w h
  refine inG (J := MS w g v dv v f dv) (F := MF w g v dv) [] Tryz.func124 h.start h.row h.c.not fun Az I => ?_
  refine goQ [] (MS.rs _ _ _ _ _ _ _) I fun β0 A0 w0 I0 hb0 => ?_
  have hz0 : β0 0 = g := agr hb0 0 rfl
  refine mcallM Tryz.func195 t0 I0 hz0 fun ad0 cap0 dv0 w1 I1 => ?_
  refine goQ [] (MS.rs _ _ _ _ _ _ _) I1 fun β9 A9 w9 I9 hb9 => ?_
  exact out0 I9 ⟨_, _, rfl, I9.mp (agr hb9 0 hz0)⟩
theorem m_stop {g : Nat} {f : Fr} {op : Nat} {pa : Int} : Mth 92 g [] f op pa TU0 { f with sd := 1 } op pa := by
  intro v dv w h
  refine inG (J := MS w g v dv v f dv) (F := MF w g v dv) [] Tryz.func92 h.start h.row h.c.not fun Az I => ?_
  refine goQ [] (MS.rs _ _ _ _ _ _ _) I fun β0 A0 w0 I0 hb0 => ?_
  exact out0 I0 ⟨_, _, rfl, I0.mp' { f with sd := 1 } (agr hb0 0 rfl) rfl rfl⟩
theorem m_dest {g : Nat} {f : Fr} {op : Nat} {pa : Int} : Mth 133 g [] f op pa TU0 f op pa := by
  intro v dv w h
  refine inG (J := MS w g v dv v f dv) (F := MF w g v dv) [] Tryz.func133 h.start h.row h.c.not fun Az I => ?_
  refine goQ [] (MS.rs _ _ _ _ _ _ _) I fun β0 A0 w0 I0 hb0 => ?_
  exact out0 I0 ⟨_, _, rfl, I0.mp (agr hb0 0 rfl)⟩
theorem m_isize {g : Nat} {f : Fr} {op : Nat} {pa : Int} (hp : f.inp.length ≤ 1000000) (hl : f.st.length ≤ 900) : Mth 120 g [] f op pa TU0 { f with st := (f.inp.length) :: f.st } op pa := by
  have t := layInt_any (g := g) (op := op) (pa := pa) (f := f) (f.inp.length) (by omega) hl
  intro v dv w h
  refine inG (J := MS w g v dv v f dv) (F := MF w g v dv) [] Tryz.func120 h.start h.row h.c.not fun Az I => ?_
  refine goQ [lnO f.inp] (MS.rs _ _ _ _ _ _ _) I fun β0 A0 w0 I0 hb0 => ?_
  have hz0 : β0 0 = g := agr hb0 0 rfl
  refine mcallM Tryz.func206 t I0 hz0 fun ad cap dv' w1 I1 => ?_
  refine goQ [] (MS.rs _ _ _ _ _ _ _) I1 fun β9 A9 w9 I9 hb9 => ?_
  exact out0 I9 ⟨_, _, rfl, I9.mp (agr hb9 0 hz0)⟩
theorem m_csize {g : Nat} {f : Fr} {op : Nat} {pa : Int} (hp : f.code.length ≤ 1000000) (hl : f.st.length ≤ 900) : Mth 122 g [] f op pa TU0 { f with st := (f.code.length) :: f.st } op pa := by
  have t := layInt_any (g := g) (op := op) (pa := pa) (f := f) (f.code.length) (by omega) hl
  intro v dv w h
  refine inG (J := MS w g v dv v f dv) (F := MF w g v dv) [] Tryz.func122 h.start h.row h.c.not fun Az I => ?_
  refine goQ [lnO f.code] (MS.rs _ _ _ _ _ _ _) I fun β0 A0 w0 I0 hb0 => ?_
  have hz0 : β0 0 = g := agr hb0 0 rfl
  refine mcallM Tryz.func206 t I0 hz0 fun ad cap dv' w1 I1 => ?_
  refine goQ [] (MS.rs _ _ _ _ _ _ _) I1 fun β9 A9 w9 I9 hb9 => ?_
  exact out0 I9 ⟨_, _, rfl, I9.mp (agr hb9 0 hz0)⟩
theorem m_msize {g : Nat} {f : Fr} {op : Nat} {pa : Int} (hp : f.mem.length ≤ 1000000) (hl : f.st.length ≤ 900) : Mth 131 g [] f op pa TU0 { f with st := (f.mem.length) :: f.st } op pa := by
  have t := layInt_any (g := g) (op := op) (pa := pa) (f := f) (f.mem.length) (by omega) hl
  intro v dv w h
  refine inG (J := MS w g v dv v f dv) (F := MF w g v dv) [] Tryz.func131 h.start h.row h.c.not fun Az I => ?_
  refine goQ [lnO f.mem] (MS.rs _ _ _ _ _ _ _) I fun β0 A0 w0 I0 hb0 => ?_
  have hz0 : β0 0 = g := agr hb0 0 rfl
  refine mcallM Tryz.func206 t I0 hz0 fun ad cap dv' w1 I1 => ?_
  refine goQ [] (MS.rs _ _ _ _ _ _ _) I1 fun β9 A9 w9 I9 hb9 => ?_
  exact out0 I9 ⟨_, _, rfl, I9.mp (agr hb9 0 hz0)⟩
theorem m_place {g : Nat} {f : Fr} {op : Nat}  {p : Nat} (hp : p ≤ 1000000) (hl : f.st.length ≤ 900) : Mth 130 g [] f op (p : Int) TU0 { f with st := (p) :: f.st } op (p : Int) := by
  have t := layInt_any (g := g) (op := op) (pa := (p : Int)) (f := f) (p) (by omega) hl
  intro v dv w h
  refine inG (J := MS w g v dv v f dv) (F := MF w g v dv) [] Tryz.func130 h.start h.row h.c.not fun Az I => ?_
  refine goQ [] (MS.rs _ _ _ _ _ _ _) I fun β0 A0 w0 I0 hb0 => ?_
  have hz0 : β0 0 = g := agr hb0 0 rfl
  refine mcallM Tryz.func206 t I0 hz0 fun ad cap dv' w1 I1 => ?_
  refine goQ [] (MS.rs _ _ _ _ _ _ _) I1 fun β9 A9 w9 I9 hb9 => ?_
  exact out0 I9 ⟨_, _, rfl, I9.mp (agr hb9 0 hz0)⟩
theorem m_gas {g : Nat} {f : Fr} {op : Nat} {pa : Int} (h0 : 0 ≤ f.gas) (hp : f.gas ≤ 1000000) (hl : f.st.length ≤ 900) : Mth 132 g [] f op pa TU0 { f with st := f.gas.toNat :: f.st } op pa := by
  have t := layInt_any (g := g) (op := op) (pa := pa) (f := f) f.gas.toNat (by omega) hl
  rw [Int.toNat_of_nonneg h0] at t
  intro v dv w h
  refine inG (J := MS w g v dv v f dv) (F := MF w g v dv) [] Tryz.func132 h.start h.row h.c.not fun Az I => ?_
  refine goQ [] (MS.rs _ _ _ _ _ _ _) I fun β0 A0 w0 I0 hb0 => ?_
  have hz0 : β0 0 = g := agr hb0 0 rfl
  refine mcallM Tryz.func206 t I0 hz0 fun ad cap dv' w1 I1 => ?_
  refine goQ [] (MS.rs _ _ _ _ _ _ _) I1 fun β9 A9 w9 I9 hb9 => ?_
  exact out0 I9 ⟨_, _, rfl, I9.mp (agr hb9 0 hz0)⟩
theorem m_jump {g : Nat} {f : Fr} {op : Nat} {pa : Int} {a : Nat} {s : List Nat} (hs : f.st = a :: s) (ha : a < W) (hl : f.st.length ≤ 900) (hp : a ≤ 1000000) : Mth 128 g [] f op pa TU0 { f with st := s, pc := a } op pa := by
  have t0 := take_any (g := g) (op := op) (pa := pa) hs (by omega)
  have hsm := small_any a (by omega)
  unfold U at *
  generalize l0 a = a0 at *
  generalize l1 a = a1 at *
  generalize l2 a = a2 at *
  generalize l3 a = a3 at *
  intro v dv w h
  refine inG (J := MS w g v dv v f dv) (F := MF w g v dv) [] Tryz.func128 h.start h.row h.c.not fun Az I => ?_
  refine goQ [] (MS.rs _ _ _ _ _ _ _) I fun β0 A0 w0 I0 hb0 => ?_
  have hz0 : β0 0 = g := agr hb0 0 rfl
  refine mcallM Tryz.func195 t0 I0 hz0 fun ad0 cap0 dv0 w1 I1 => ?_
  refine goQ [kC Tryz.func72 hsm] (MS.rs _ _ _ _ _ _ _) I1 fun β9 A9 w9 I9 hb9 => ?_
  exact out0 I9 ⟨_, _, rfl, I9.mp' { f with st := s, pc := a } (agr hb9 0 hz0) rfl rfl⟩
theorem m_jumpi {g : Nat} {f : Fr} {op : Nat} {pa : Int} {a b : Nat} {s : List Nat} (hs : f.st = a :: b :: s) (ha : a < W) (hb : b < W) (hl : f.st.length ≤ 900) (hp : b ≠ 0 → a ≤ 1000000) : Mth 129 g [] f op pa TU0 { f with st := s, pc := if b = 0 then f.pc else a } op pa := by
  have t0 := take_any (g := g) (op := op) (pa := pa) hs (by omega)
  have t1 := take_any (g := g) (op := op) (pa := pa) (f := { f with st := b :: s }) (u := b) (s := s) rfl (by simp only []; rw [hs] at hl; simp at hl ⊢; omega)
  by_cases hz : b = 0
  · rw [if_pos hz]
    have he := neqU_run hb (show 0 < W from Nat.lt_of_le_of_lt (Nat.zero_le _) ha) (b := false) (by simp [hz])
    rw [U0] at he
    unfold U at *
    generalize l0 a = a0 at *
    generalize l1 a = a1 at *
    generalize l2 a = a2 at *
    generalize l3 a = a3 at *
    generalize l0 b = b0 at *
    generalize l1 b = b1 at *
    generalize l2 b = b2 at *
    generalize l3 b = b3 at *
    intro v dv w h
    refine inG (J := MS w g v dv v f dv) (F := MF w g v dv) [] Tryz.func129 h.start h.row h.c.not fun Az I => ?_
    refine goQ [] (MS.rs _ _ _ _ _ _ _) I fun β0 A0 w0 I0 hb0 => ?_
    have hz0 : β0 0 = g := agr hb0 0 rfl
    refine mcallM Tryz.func195 t0 I0 hz0 fun ad0 cap0 dv0 w1 I1 => ?_
    refine goQ [] (MS.rs _ _ _ _ _ _ _) I1 fun β1 A2 w2 I2 hb1 => ?_
    have hz1 : β1 0 = g := agr hb1 0 hz0
    refine mcallM Tryz.func195 t1 I2 hz1 fun ad1 cap1 dv1 w3 I3 => ?_
    refine goQ [dO 38 [] bd38_0, bO .neq 38 he] (MS.rs _ _ _ _ _ _ _) I3 fun β9 A9 w9 I9 hb9 => ?_
    exact out0 I9 ⟨_, _, rfl, I9.mp' { f with st := s, pc := f.pc } (agr hb9 0 hz1) rfl rfl⟩
  · rw [if_neg hz]
    have he := neqU_run hb (show 0 < W from Nat.lt_of_le_of_lt (Nat.zero_le _) ha) (b := true) (by simp [hz])
    have hsm := small_any a (by have := hp hz; omega)
    rw [U0] at he
    unfold U at *
    generalize l0 a = a0 at *
    generalize l1 a = a1 at *
    generalize l2 a = a2 at *
    generalize l3 a = a3 at *
    generalize l0 b = b0 at *
    generalize l1 b = b1 at *
    generalize l2 b = b2 at *
    generalize l3 b = b3 at *
    intro v dv w h
    refine inG (J := MS w g v dv v f dv) (F := MF w g v dv) [] Tryz.func129 h.start h.row h.c.not fun Az I => ?_
    refine goQ [] (MS.rs _ _ _ _ _ _ _) I fun β0 A0 w0 I0 hb0 => ?_
    have hz0 : β0 0 = g := agr hb0 0 rfl
    refine mcallM Tryz.func195 t0 I0 hz0 fun ad0 cap0 dv0 w1 I1 => ?_
    refine goQ [] (MS.rs _ _ _ _ _ _ _) I1 fun β1 A2 w2 I2 hb1 => ?_
    have hz1 : β1 0 = g := agr hb1 0 hz0
    refine mcallM Tryz.func195 t1 I2 hz1 fun ad1 cap1 dv1 w3 I3 => ?_
    refine goQ [dO 38 [] bd38_0, bO .neq 38 he, kC Tryz.func72 hsm] (MS.rs _ _ _ _ _ _ _) I3 fun β9 A9 w9 I9 hb9 => ?_
    exact out0 I9 ⟨_, _, rfl, I9.mp' { f with st := s, pc := a } (agr hb9 0 hz1) rfl rfl⟩
theorem mputI_any {g : Nat} {f : Fr} {op : Nat} {pa : Int} (n : Nat) (t : List UInt8) (ht : t.length ≤ 1000000) (hm : f.mem.length ≤ 1000000) (hn : n < 1000000000000 ∨ t = []) : Mth 208 g [U n, str t] f op pa TU0 { f with mem := putV f.mem n t } op pa := by
  rcases hn with hn | rfl
  · exact mput_any n hn t ht hm
  rw [putV_nil]
  obtain ⟨i, _, hsm⟩ := smI_run n default
  have hp := put_any f.mem [] hm (by simp) i
  rw [putV_nil] at hp
  unfold U at *
  generalize l0 n = n0 at *
  generalize l1 n = n1 at *
  generalize l2 n = n2 at *
  generalize l3 n = n3 at *
  intro v dv w h
  refine inG (J := MS w g v dv v f dv) (F := MF w g v dv) [U4 n0 n1 n2 n3, str []] Tryz.func208 h.start h.row h.c.not fun Az I => ?_
  refine goQ [] (MS.rs _ _ _ _ _ _ _) I fun β0 A0 w0 I0 hb0 => ?_
  have hz0 : β0 0 = g := agr hb0 0 rfl
  refine dwQ 10 [kC Tryz.func72 hsm, kC Tryz.func235 hp] (MS.rs _ _ _ _ _ _ _) PanOk.post I0 fun A2 w2 I2 => ?_
  refine goQ [] (MS.rs _ _ _ _ _ _ _) I2 fun βq Aq wq Iq hbq => ?_
  exact out0 Iq ⟨_, _, rfl, Iq.mp (agr hbq 0 hz0)⟩
theorem m_store {g : Nat} {f : Fr} {op : Nat} {pa : Int} {a b : Nat} {s : List Nat} (hs : f.st = a :: b :: s) (ha : a < W) (hb : b < W) (hl : f.st.length ≤ 900) (hp : a ≤ 1000000) (hm : f.mem.length ≤ 1000000) : Mth 126 g [] f op pa TU0 { f with st := s, mem := putV f.mem a (bsN b) } op pa := by
  have t0 := take_any (g := g) (op := op) (pa := pa) hs (by omega)
  have t1 := take_any (g := g) (op := op) (pa := pa) (f := { f with st := b :: s }) (u := b) (s := s) rfl (by simp only []; rw [hs] at hl; simp at hl ⊢; omega)
  have hby := bytes_any b
  have hz : (bsN b).length = 32 := by have := strN_size b; unfold bsN; rw [Array.length_toList]; exact this
  have eb : (strN b) = ⟨(bsN b).toArray⟩ := by simp [bsN]
  rw [eb] at hby
  have hq := mput_any (g := g) (op := op) (pa := pa) (f := { f with st := s }) a (by omega) (bsN b) (by omega) hm
  generalize putV f.mem a (bsN b) = x at *
  generalize bsN b = ty at *
  unfold U at *
  generalize l0 a = a0 at *
  generalize l1 a = a1 at *
  generalize l2 a = a2 at *
  generalize l3 a = a3 at *
  generalize l0 b = b0 at *
  generalize l1 b = b1 at *
  generalize l2 b = b2 at *
  generalize l3 b = b3 at *
  intro v dv w h
  refine inG (J := MS w g v dv v f dv) (F := MF w g v dv) [] Tryz.func126 h.start h.row h.c.not fun Az I => ?_
  refine goQ [] (MS.rs _ _ _ _ _ _ _) I fun β0 A0 w0 I0 hb0 => ?_
  have hz0 : β0 0 = g := agr hb0 0 rfl
  refine mcallM Tryz.func195 t0 I0 hz0 fun ad0 cap0 dv0 w1 I1 => ?_
  refine goQ [] (MS.rs _ _ _ _ _ _ _) I1 fun β1 A2 w2 I2 hb1 => ?_
  have hz1 : β1 0 = g := agr hb1 0 hz0
  refine mcallM Tryz.func195 t1 I2 hz1 fun ad1 cap1 dv1 w3 I3 => ?_
  refine goQ [] (MS.rs _ _ _ _ _ _ _) I3 fun β4 A4 w4 I4 hb4 => ?_
  have hz4 : β4 0 = g := agr hb4 0 hz1
  refine dwQ 4 [kC Tryz.func209 hby] (MS.rs _ _ _ _ _ _ _) PanOk.post I4 fun A5 w5 I5 => ?_
  refine mcallM Tryz.func208 hq I5 hz4 fun ad cap dv' w6 I6 => ?_
  refine goQ [] (MS.rs _ _ _ _ _ _ _) I6 fun β9 A9 w9 I9 hb9 => ?_
  exact out0 I9 ⟨_, _, rfl, I9.mp (agr hb9 0 hz4)⟩
theorem m_store8 {g : Nat} {f : Fr} {op : Nat} {pa : Int} {a b : Nat} {s : List Nat} (hs : f.st = a :: b :: s) (ha : a < W) (hb : b < W) (hl : f.st.length ≤ 900) (hp : a ≤ 1000000) (hm : f.mem.length ≤ 1000000) : Mth 127 g [] f op pa TU0 { f with st := s, mem := putV f.mem a ((bsN b).drop 31) } op pa := by
  have t0 := take_any (g := g) (op := op) (pa := pa) hs (by omega)
  have t1 := take_any (g := g) (op := op) (pa := pa) (f := { f with st := b :: s }) (u := b) (s := s) rfl (by simp only []; rw [hs] at hl; simp at hl ⊢; omega)
  have hby := bytes_any b
  have hz : (bsN b).length = 32 := by have := strN_size b; unfold bsN; rw [Array.length_toList]; exact this
  have eb : (strN b) = ⟨(bsN b).toArray⟩ := by simp [bsN]
  rw [eb] at hby
  have hq := mput_any (g := g) (op := op) (pa := pa) (f := { f with st := s }) a (by omega) ((bsN b).drop 31) (by rw [List.length_drop]; omega) hm
  have hsl := fun w => from_run (l := bsN b) (k := 31) (by omega) w
  generalize putV f.mem a ((bsN b).drop 31) = x at *
  generalize (bsN b).drop 31 = tx at *
  generalize bsN b = ty at *
  unfold U at *
  generalize l0 a = a0 at *
  generalize l1 a = a1 at *
  generalize l2 a = a2 at *
  generalize l3 a = a3 at *
  generalize l0 b = b0 at *
  generalize l1 b = b1 at *
  generalize l2 b = b2 at *
  generalize l3 b = b3 at *
  intro v dv w h
  refine inG (J := MS w g v dv v f dv) (F := MF w g v dv) [] Tryz.func127 h.start h.row h.c.not fun Az I => ?_
  refine goQ [] (MS.rs _ _ _ _ _ _ _) I fun β0 A0 w0 I0 hb0 => ?_
  have hz0 : β0 0 = g := agr hb0 0 rfl
  refine mcallM Tryz.func195 t0 I0 hz0 fun ad0 cap0 dv0 w1 I1 => ?_
  refine goQ [] (MS.rs _ _ _ _ _ _ _) I1 fun β1 A2 w2 I2 hb1 => ?_
  have hz1 : β1 0 = g := agr hb1 0 hz0
  refine mcallM Tryz.func195 t1 I2 hz1 fun ad1 cap1 dv1 w3 I3 => ?_
  refine goQ [] (MS.rs _ _ _ _ _ _ _) I3 fun β4 A4 w4 I4 hb4 => ?_
  have hz4 : β4 0 = g := agr hb4 0 hz1
  refine dwQ 5 [kC Tryz.func209 hby, sO 9 hsl] (MS.rs _ _ _ _ _ _ _) PanOk.post I4 fun A5 w5 I5 => ?_
  refine mcallM Tryz.func208 hq I5 hz4 fun ad cap dv' w6 I6 => ?_
  refine goQ [] (MS.rs _ _ _ _ _ _ _) I6 fun β9 A9 w9 I9 hb9 => ?_
  exact out0 I9 ⟨_, _, rfl, I9.mp (agr hb9 0 hz4)⟩
theorem copy_any {g : Nat} {f : Fr} {op : Nat} {pa : Int} {a b c : Nat} {s : List Nat} (hs : f.st = a :: b :: c :: s) (ha : a < W) (hb : b < W) (hc : c < W) (hl : f.st.length ≤ 900) (t : List UInt8) (ht : t.length ≤ 1000000) (hm : f.mem.length ≤ 1000000) (hc2 : c ≤ 65536) (hp : c ≠ 0 → a ≤ 1000000) : Mth 207 g [str t] f op pa TU0 { f with st := s, mem := putV f.mem a (slV t b c) } op pa := by
  have t0 := take_any (g := g) (op := op) (pa := pa) hs (by omega)
  have t1 := take_any (g := g) (op := op) (pa := pa) (f := { f with st := b :: c :: s }) (u := b) (s := c :: s) rfl (by simp only []; rw [hs] at hl; simp at hl ⊢; omega)
  have t2 := take_any (g := g) (op := op) (pa := pa) (f := { f with st := c :: s }) (u := c) (s := s) rfl (by simp only []; rw [hs] at hl; simp at hl ⊢; omega)
  have hsl := slice_any t ht b hb c
  have hsm := small_any c (by omega)
  have hln := slV_len t b c hc2
  have hq := mputI_any (g := g) (op := op) (pa := pa) (f := { f with st := s }) a (slV t b c) (by omega) hm (by
    by_cases h : c = 0
    · right
      exact List.eq_nil_of_length_eq_zero (by omega)
    · left
      have := hp h
      omega)
  generalize putV f.mem a (slV t b c) = x at *
  generalize slV t b c = y at *
  unfold U at *
  generalize l0 a = a0 at *
  generalize l1 a = a1 at *
  generalize l2 a = a2 at *
  generalize l3 a = a3 at *
  generalize l0 b = b0 at *
  generalize l1 b = b1 at *
  generalize l2 b = b2 at *
  generalize l3 b = b3 at *
  generalize l0 c = c0 at *
  generalize l1 c = c1 at *
  generalize l2 c = c2 at *
  generalize l3 c = c3 at *
  intro v dv w h
  refine inG (J := MS w g v dv v f dv) (F := MF w g v dv) [str t] Tryz.func207 h.start h.row h.c.not fun Az I => ?_
  refine goQ [] (MS.rs _ _ _ _ _ _ _) I fun β0 A0 w0 I0 hb0 => ?_
  have hz0 : β0 0 = g := agr hb0 0 rfl
  refine mcallM Tryz.func195 t0 I0 hz0 fun ad0 cap0 dv0 w1 I1 => ?_
  refine goQ [] (MS.rs _ _ _ _ _ _ _) I1 fun β1 A2 w2 I2 hb1 => ?_
  have hz1 : β1 0 = g := agr hb1 0 hz0
  refine mcallM Tryz.func195 t1 I2 hz1 fun ad1 cap1 dv1 w3 I3 => ?_
  refine goQ [] (MS.rs _ _ _ _ _ _ _) I3 fun β2 A4 w4 I4 hb2 => ?_
  have hz2 : β2 0 = g := agr hb2 0 hz1
  refine mcallM Tryz.func195 t2 I4 hz2 fun ad2 cap2 dv2 w5 I5 => ?_
  refine goQ [] (MS.rs _ _ _ _ _ _ _) I5 fun β6 A6 w6 I6 hb6 => ?_
  have hz6 : β6 0 = g := agr hb6 0 hz2
  refine dwQ 7 [kC Tryz.func72 hsm, kC Tryz.func135 hsl] (MS.rs _ _ _ _ _ _ _) PanOk.post I6 fun A7 w7 I7 => ?_
  refine mcallM Tryz.func208 hq I7 hz6 fun ad cap dv' w8 I8 => ?_
  refine goQ [] (MS.rs _ _ _ _ _ _ _) I8 fun β9 A9 w9 I9 hb9 => ?_
  exact out0 I9 ⟨_, _, rfl, I9.mp (agr hb9 0 hz6)⟩
theorem m_icopy {g : Nat} {f : Fr} {op : Nat} {pa : Int} {a b c : Nat} {s : List Nat} (hs : f.st = a :: b :: c :: s) (ha : a < W) (hb : b < W) (hc : c < W) (hl : f.st.length ≤ 900) (ht : f.inp.length ≤ 1000000) (hm : f.mem.length ≤ 1000000) (hc2 : c ≤ 65536) (hp : c ≠ 0 → a ≤ 1000000) : Mth 121 g [] f op pa TU0 { f with st := s, mem := putV f.mem a (slV f.inp b c) } op pa := by
  have t := copy_any (g := g) (op := op) (pa := pa) hs ha hb hc hl f.inp ht hm hc2 hp
  generalize putV f.mem a (slV f.inp b c) = x at *
  intro v dv w h
  refine inG (J := MS w g v dv v f dv) (F := MF w g v dv) [] Tryz.func121 h.start h.row h.c.not fun Az I => ?_
  refine goQ [] (MS.rs _ _ _ _ _ _ _) I fun β0 A0 w0 I0 hb0 => ?_
  have hz0 : β0 0 = g := agr hb0 0 rfl
  refine mcallM Tryz.func207 t I0 hz0 fun ad cap dv' w1 I1 => ?_
  refine goQ [] (MS.rs _ _ _ _ _ _ _) I1 fun β9 A9 w9 I9 hb9 => ?_
  exact out0 I9 ⟨_, _, rfl, I9.mp (agr hb9 0 hz0)⟩
theorem m_ccopy {g : Nat} {f : Fr} {op : Nat} {pa : Int} {a b c : Nat} {s : List Nat} (hs : f.st = a :: b :: c :: s) (ha : a < W) (hb : b < W) (hc : c < W) (hl : f.st.length ≤ 900) (ht : f.code.length ≤ 1000000) (hm : f.mem.length ≤ 1000000) (hc2 : c ≤ 65536) (hp : c ≠ 0 → a ≤ 1000000) : Mth 123 g [] f op pa TU0 { f with st := s, mem := putV f.mem a (slV f.code b c) } op pa := by
  have t := copy_any (g := g) (op := op) (pa := pa) hs ha hb hc hl f.code ht hm hc2 hp
  generalize putV f.mem a (slV f.code b c) = x at *
  intro v dv w h
  refine inG (J := MS w g v dv v f dv) (F := MF w g v dv) [] Tryz.func123 h.start h.row h.c.not fun Az I => ?_
  refine goQ [] (MS.rs _ _ _ _ _ _ _) I fun β0 A0 w0 I0 hb0 => ?_
  have hz0 : β0 0 = g := agr hb0 0 rfl
  refine mcallM Tryz.func207 t I0 hz0 fun ad cap dv' w1 I1 => ?_
  refine goQ [] (MS.rs _ _ _ _ _ _ _) I1 fun β9 A9 w9 I9 hb9 => ?_
  exact out0 I9 ⟨_, _, rfl, I9.mp (agr hb9 0 hz0)⟩
theorem end_any {g : Nat} {f : Fr} {op : Nat} {pa : Int} {a b : Nat} {s : List Nat} (hs : f.st = a :: b :: s) (ha : a < W) (hb : b < W) (hl : f.st.length ≤ 900) (z : Int) (hm : f.mem.length ≤ 1000000) (hb2 : b ≤ 65536) : Mth 137 g [Z z] f op pa TU0 { f with st := s, out := slV f.mem a b, sd := z } op pa := by
  have t0 := take_any (g := g) (op := op) (pa := pa) hs (by omega)
  have t1 := take_any (g := g) (op := op) (pa := pa) (f := { f with st := b :: s }) (u := b) (s := s) rfl (by simp only []; rw [hs] at hl; simp at hl ⊢; omega)
  have hsl := slice_any f.mem hm a ha b
  have hsm := small_any b (by omega)
  generalize slV f.mem a b = y at *
  unfold U at *
  generalize l0 a = a0 at *
  generalize l1 a = a1 at *
  generalize l2 a = a2 at *
  generalize l3 a = a3 at *
  generalize l0 b = b0 at *
  generalize l1 b = b1 at *
  generalize l2 b = b2 at *
  generalize l3 b = b3 at *
  intro v dv w h
  refine inG (J := MS w g v dv v f dv) (F := MF w g v dv) [Z z] Tryz.func137 h.start h.row h.c.not fun Az I => ?_
  refine goQ [] (MS.rs _ _ _ _ _ _ _) I fun β0 A0 w0 I0 hb0 => ?_
  have hz0 : β0 0 = g := agr hb0 0 rfl
  refine mcallM Tryz.func195 t0 I0 hz0 fun ad0 cap0 dv0 w1 I1 => ?_
  refine goQ [] (MS.rs _ _ _ _ _ _ _) I1 fun β1 A2 w2 I2 hb1 => ?_
  have hz1 : β1 0 = g := agr hb1 0 hz0
  refine mcallM Tryz.func195 t1 I2 hz1 fun ad1 cap1 dv1 w3 I3 => ?_
  refine goQ [] (MS.rs _ _ _ _ _ _ _) I3 fun β4 A4 w4 I4 hb4 => ?_
  have hz4 : β4 0 = g := agr hb4 0 hz1
  refine dwQ 10 [kC Tryz.func72 hsm, kC Tryz.func135 hsl] (MS.rs _ _ _ _ _ _ _) PanOk.post I4 fun A5 w5 I5 => ?_
  refine goQ [] (MS.rs _ _ _ _ _ _ _) I5 fun β9 A9 w9 I9 hb9 => ?_
  exact out0 I9 ⟨_, _, rfl, I9.mp' { f with st := s, out := y, sd := z } (agr hb9 0 hz4) rfl rfl⟩
theorem m_out {g : Nat} {f : Fr} {op : Nat} {pa : Int} {a b : Nat} {s : List Nat} (hs : f.st = a :: b :: s) (ha : a < W) (hb : b < W) (hl : f.st.length ≤ 900) (hm : f.mem.length ≤ 1000000) (hb2 : b ≤ 65536) : Mth 64 g [] f op pa TU0 { f with st := s, out := slV f.mem a b, sd := 1 } op pa := by
  have t := end_any (g := g) (op := op) (pa := pa) hs ha hb hl 1 hm hb2
  generalize slV f.mem a b = x at *
  intro v dv w h
  refine inG (J := MS w g v dv v f dv) (F := MF w g v dv) [] Tryz.func64 h.start h.row h.c.not fun Az I => ?_
  refine goQ [] (MS.rs _ _ _ _ _ _ _) I fun β0 A0 w0 I0 hb0 => ?_
  have hz0 : β0 0 = g := agr hb0 0 rfl
  refine mcallM Tryz.func137 t I0 hz0 fun ad cap dv' w1 I1 => ?_
  refine goQ [] (MS.rs _ _ _ _ _ _ _) I1 fun β9 A9 w9 I9 hb9 => ?_
  exact out0 I9 ⟨_, _, rfl, I9.mp (agr hb9 0 hz0)⟩
theorem m_back {g : Nat} {f : Fr} {op : Nat} {pa : Int} {a b : Nat} {s : List Nat} (hs : f.st = a :: b :: s) (ha : a < W) (hb : b < W) (hl : f.st.length ≤ 900) (hm : f.mem.length ≤ 1000000) (hb2 : b ≤ 65536) : Mth 65 g [] f op pa TU0 { f with st := s, out := slV f.mem a b, sd := 2 } op pa := by
  have t := end_any (g := g) (op := op) (pa := pa) hs ha hb hl 2 hm hb2
  generalize slV f.mem a b = x at *
  intro v dv w h
  refine inG (J := MS w g v dv v f dv) (F := MF w g v dv) [] Tryz.func65 h.start h.row h.c.not fun Az I => ?_
  refine goQ [] (MS.rs _ _ _ _ _ _ _) I fun β0 A0 w0 I0 hb0 => ?_
  have hz0 : β0 0 = g := agr hb0 0 rfl
  refine mcallM Tryz.func137 t I0 hz0 fun ad cap dv' w1 I1 => ?_
  refine goQ [] (MS.rs _ _ _ _ _ _ _) I1 fun β9 A9 w9 I9 hb9 => ?_
  exact out0 I9 ⟨_, _, rfl, I9.mp (agr hb9 0 hz0)⟩
theorem told_len (f : Nat → Nat) : (told f).size = 32 := by
  unfold told strOfNums
  simp [ByteArray.size]
theorem m_kec {g : Nat} {f : Fr} {op : Nat} {pa : Int} {a b : Nat} {s : List Nat} (hs : f.st = a :: b :: s) (ha : a < W) (hb : b < W) (hl : f.st.length ≤ 900) (hm : f.mem.length ≤ 1000000) (hb2 : b ≤ 65536) : Mth 118 g [] f op pa TU0 { f with st := kecV (slV f.mem a b) :: s } op pa := by
  have t0 := take_any (g := g) (op := op) (pa := pa) hs (by omega)
  have t1 := take_any (g := g) (op := op) (pa := pa) (f := { f with st := b :: s }) (u := b) (s := s) rfl (by simp only []; rw [hs] at hl; simp at hl ⊢; omega)
  have hsl := slice_any f.mem hm a ha b
  have hsm := small_any b (by omega)
  have hsu := fun w' (h : Tabs w' ki) => sum_any ⟨(slV f.mem a b).toArray⟩ w' h
  have hly := layBy_any (g := g) (op := op) (pa := pa) (f := { f with st := s }) (told (spg (blks ⟨(slV f.mem a b).toArray⟩))) (by rw [told_len]; omega) (by simp only []; rw [hs] at hl; simp at hl; omega)
  rw [told_len] at hly
  unfold kecV
  generalize told (spg (blks ⟨(slV f.mem a b).toArray⟩)) = q at *
  generalize rdN q 32 = r at *
  generalize slV f.mem a b = y at *
  unfold U at *
  generalize l0 a = a0 at *
  generalize l1 a = a1 at *
  generalize l2 a = a2 at *
  generalize l3 a = a3 at *
  generalize l0 b = b0 at *
  generalize l1 b = b1 at *
  generalize l2 b = b2 at *
  generalize l3 b = b3 at *
  intro v dv w h
  refine inG (J := MS w g v dv v f dv) (F := MF w g v dv) [] Tryz.func118 h.start h.row h.c.not fun Az I => ?_
  refine goQ [] (MS.rs _ _ _ _ _ _ _) I fun β0 A0 w0 I0 hb0 => ?_
  have hz0 : β0 0 = g := agr hb0 0 rfl
  refine mcallM Tryz.func195 t0 I0 hz0 fun ad0 cap0 dv0 w1 I1 => ?_
  refine goQ [] (MS.rs _ _ _ _ _ _ _) I1 fun β1 A2 w2 I2 hb1 => ?_
  have hz1 : β1 0 = g := agr hb1 0 hz0
  refine mcallM Tryz.func195 t1 I2 hz1 fun ad1 cap1 dv1 w3 I3 => ?_
  refine goQ [] (MS.rs _ _ _ _ _ _ _) I3 fun β4 A4 w4 I4 hb4 => ?_
  have hz4 : β4 0 = g := agr hb4 0 hz1
  refine dwT (T := fun w' => Tabs w' ki) 11 [kC Tryz.func72 hsm, kC Tryz.func135 hsl, cA Tryz.func205 hsu] (MS.rs _ _ _ _ _ _ _) (fun _ h => h.c.ts) PanOk.post I4 fun A5 w5 I5 => ?_
  refine mcallM Tryz.func134 hly I5 hz4 fun ad cap dv' w6 I6 => ?_
  refine goQ [] (MS.rs _ _ _ _ _ _ _) I6 fun β9 A9 w9 I9 hb9 => ?_
  exact out0 I9 ⟨_, _, rfl, I9.mp (agr hb9 0 hz4)⟩
theorem m_push {g : Nat} {f : Fr} {op : Nat} {pa : Int} (h1 : 95 ≤ op) (h2 : op < 128) (hc : f.code.length ≤ 1000000) (p0 : 0 ≤ f.pc) (p1 : f.pc ≤ 1000000) (hl : f.st.length ≤ 900) : Mth 61 g [] f op pa TU0 { f with st := rdB (slV f.code f.pc.toNat ((op - 95 : Nat) : Int)) :: f.st, pc := f.pc + ((op - 95 : Nat) : Int) } op pa := by
  obtain ⟨code, inp, st, mem, pc, gas, sd, er, out⟩ := f
  simp only [] at hc p0 p1 hl
  obtain ⟨k, hk⟩ : ∃ k, op - 95 = k := ⟨_, rfl⟩
  obtain ⟨p, rfl⟩ : ∃ p : Nat, pc = p := ⟨pc.toNat, (Int.toNat_of_nonneg p0).symm⟩
  have hsb := fun o1 o2 w => sub8 (x := op) (y := 95) (by omega) (by omega) o1 o2 w
  rw [hk] at hsb ⊢
  have hcv := cnv8Z k (by omega)
  simp only [Int.toNat_natCast]
  have hM := M_big
  have hW := M_W
  have hof := of_any p (by omega)
  have hcp := cnvZ46 p (by omega)
  have hsl := slice_any code hc p (by omega) k
  have hln := slV_len code p k (by omega)
  have hly := layBy_any (g := g) (op := op) (pa := pa) (f := ⟨code, inp, st, mem, p, gas, sd, er, out⟩) ⟨(slV code p k).toArray⟩ (by rw [str_size]; omega) hl
  rw [str_size] at hly
  unfold rdB
  generalize rdN ⟨(slV code p k).toArray⟩ (slV code p k).length = r at *
  generalize slV code p k = y at *
  unfold U at *
  generalize l0 p = p0 at *
  generalize l1 p = p1 at *
  generalize l2 p = p2 at *
  generalize l3 p = p3 at *
  intro v dv w h
  refine inG (J := MS w g v dv v ⟨code, inp, st, mem, p, gas, sd, er, out⟩ dv) (F := MF w g v dv) [] Tryz.func61 h.start h.row h.c.not fun Az I => ?_
  refine goQ [bO .sub 5 hsb, vO 5 3 hcv] (MS.rs _ _ _ _ _ _ _) I fun β0 A0 w0 I0 hb0 => ?_
  have hz0 : β0 0 = g := agr hb0 0 rfl
  refine dwQ 15 [vO 3 36 hcp, kC Tryz.func75 hof, kC Tryz.func135 hsl] (MS.rs _ _ _ _ _ _ _) PanOk.post I0 fun A5 w5 I5 => ?_
  refine mcallM Tryz.func134 hly I5 hz0 fun ad cap dv' w6 I6 => ?_
  refine goQ [bO .add 3 (run_addZ (x := p) (y := k) (z := (p : Int) + k) (by rw [wzf (by omega) (by omega)]))] (MS.rs _ _ _ _ _ _ _) I6 fun β9 A9 w9 I9 hb9 => ?_
  exact out0 I9 ⟨_, _, rfl, I9.mp' ⟨code, inp, r :: st, mem, (p : Int) + k, gas, sd, er, out⟩ (agr hb9 0 hz0) rfl rfl⟩
theorem m_dup {g : Nat} {f : Fr} {op : Nat} {pa : Int} (h1 : 128 ≤ op) (h2 : op < 144) (hk : op - 128 < f.st.length) (hl : f.st.length ≤ 900) : Mth 62 g [] f op pa TU0 { f with st := tp f.st (op - 128) :: f.st } op pa := by
  have hly := lay_any (g := g) (op := op) (pa := pa) (f := f) (tp f.st (op - 128)) (by omega)
  have htop := fun v dv w (h : MI g v f op pa dv w) => mtop_any h (op - 128) hk (by omega)
  have hsb := fun o1 o2 w => sub8 (x := op) (y := 128) (by omega) (by omega) o1 o2 w
  have hcv := cnv8Z (op - 128) (by omega)
  generalize tp f.st (op - 128) = u at *
  generalize op - 128 = k at *
  unfold U at *
  generalize l0 u = u0 at *
  generalize l1 u = u1 at *
  generalize l2 u = u2 at *
  generalize l3 u = u3 at *
  intro v dv w h
  refine inG (J := MS w g v dv v f dv) (F := MF w g v dv) [] Tryz.func62 h.start h.row h.c.not fun Az I => ?_
  refine goQ [bO .sub 5 hsb, vO 5 3 hcv] (MS.rs _ _ _ _ _ _ _) I fun β0 A0 w0 I0 hb0 => ?_
  have hz0 : β0 0 = g := agr hb0 0 rfl
  refine rcallM (xs := [Z k]) (op := op) (pa := pa) Tryz.func43 I0 hz0 (htop v dv w0) fun w2 I2 => ?_
  refine goQ [] (MS.rs _ _ _ _ _ _ _) I2 fun β3 A3 w3 I3 hb3 => ?_
  have hz3 : β3 0 = g := agr hb3 0 hz0
  refine mcallM Tryz.func136 hly I3 hz3 fun ad cap dv' w6 I6 => ?_
  refine goQ [] (MS.rs _ _ _ _ _ _ _) I6 fun β9 A9 w9 I9 hb9 => ?_
  exact out0 I9 ⟨_, _, rfl, I9.mp (agr hb9 0 hz3)⟩
end Go.Proofs.YtceedgdbhlpjlaaGreatDoor
