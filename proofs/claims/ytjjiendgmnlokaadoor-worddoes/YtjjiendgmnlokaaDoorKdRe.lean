/- Contracts of Read and Bytes of layer 1, told by numbers. -/
import Derived.Test.YtjjiendgmnlokaaDoorKdRd
import Derived.Test.YtjjiendgmnlokaaDoorKdBy
import Derived.Test.YtjjiendgmnlokaaDoorKdCa
import Derived.Test.YtjjiendgmnlokaaDoorKdNx
namespace Go.Proofs.YtjjiendgmnlokaaDoor
open Go.RowKit
set_option linter.unusedVariables false

/-- The byte of place k, the lowest first. -/
def btN (s : ByteArray) (k : Nat) : Nat := (s.data.getD (s.size - 1 - k) 0).toNat
theorem btN_lt (s : ByteArray) (k : Nat) : btN s k < 256 := UInt8.toNat_lt _
/-- The number of the lowest k bytes. -/
def rdN (s : ByteArray) : Nat → Nat
  | 0 => 0
  | k + 1 => rdN s k + btN s k * 2 ^ (8 * k)
theorem rdN_lt (s : ByteArray) : ∀ k, rdN s k < 2 ^ (8 * k)
  | 0 => by simp [rdN]
  | k + 1 => by
    have h := rdN_lt s k
    have hb := btN_lt s k
    rw [rdN, show 8 * (k + 1) = 8 * k + 8 by omega, Nat.pow_add]
    have : btN s k * 2 ^ (8 * k) ≤ 255 * 2 ^ (8 * k) := Nat.mul_le_mul_right _ (by omega)
    omega
theorem rd_ltW (s : ByteArray) (k : Nat) (hk : k ≤ 32) : rdN s k < W := by
  rw [W_pow]; exact Nat.lt_of_lt_of_le (rdN_lt s k) (Nat.pow_le_pow_right (by decide) (by omega))

theorem run_bt (s : ByteArray) (k : Nat) (hk : k < s.size) (w : World) : (Instr.index 9 (.string s) (.int .i64 ((s.size : Int) - 1 - (k : Int)))).run Tryd.prog w = .ok (.int .u8 (btN s k : Nat)) w := by
  have hj : s.size - 1 - k < s.size := by omega
  have e : btN s k = s[s.size - 1 - k].toNat := by
    unfold btN
    have hd : s.size - 1 - k < s.data.size := hj
    rw [Array.getD_eq_getD_getElem?, Array.getElem?_eq_getElem hd]
    rfl
  rw [run_idx s _ (s.size - 1 - k) (by omega) hj, e]

/-- One byte more: the part in which it lies. -/
theorem or_byte (x b r : Nat) (hx : x < 2 ^ (8 * r)) (hb : b < 256) (hr : r < 8) :
    bits .or .u64 (x : Int) (IntKind.u64.wrap ((b : Int) * 2 ^ (r * 8))) = ((x + b * 2 ^ (8 * r) : Nat) : Int) ∧ x + b * 2 ^ (8 * r) < M := by
  have hM : M = 2 ^ (8 * r) * 2 ^ (64 - 8 * r) := by rw [← Nat.pow_add, show 8 * r + (64 - 8 * r) = 64 by omega]; decide
  have h8 : 2 ^ 8 ≤ 2 ^ (64 - 8 * r) := Nat.pow_le_pow_right (by decide) (by omega)
  have hp : 0 < 2 ^ (8 * r) := Nat.two_pow_pos _
  have h1 : x + b * 2 ^ (8 * r) < M := by
    rw [hM]
    have : b * 2 ^ (8 * r) ≤ 255 * 2 ^ (8 * r) := Nat.mul_le_mul_right _ (by omega)
    have : 2 ^ (8 * r) * 256 ≤ 2 ^ (8 * r) * 2 ^ (64 - 8 * r) := Nat.mul_le_mul_left _ h8
    omega
  refine ⟨?_, h1⟩
  have e : x + b * 2 ^ (8 * r) = x ||| b * 2 ^ (8 * r) := by
    rw [Nat.add_comm, Nat.mul_comm, Nat.two_pow_add_eq_or_of_lt hx, Nat.or_comm]
  rw [Nat.mul_comm r 8, wrap_mul, Nat.mod_eq_of_lt (by omega : b * 2 ^ (8 * r) < M), bits_or _ _ (by omega) (by omega), e]

theorem rd_part (s : ByteArray) (k q : Nat) (hk : k / 8 = q) : rdN s k / M ^ q < 2 ^ (8 * (k % 8)) := by
  refine Nat.div_lt_of_lt_mul ?_
  rw [M_pow, ← Nat.pow_mul, ← Nat.pow_add, show 64 * q + 8 * (k % 8) = 8 * k by omega]
  exact rdN_lt s k
theorem rd_step (s : ByteArray) (k q : Nat) (hk : k / 8 = q) : rdN s (k + 1) = rdN s k + btN s k * 2 ^ (8 * (k % 8)) * M ^ q := by
  rw [rdN, M_pow, ← Nat.pow_mul, Nat.mul_assoc, ← Nat.pow_add, show 8 * (k % 8) + 64 * q = 8 * k by omega]

theorem rd_q0 (s : ByteArray) (hs : s.size ≤ 32) : ∀ k : Nat, k < s.size → k / 8 = 0 → ((l0 (rdN s (k + 1)) : Nat) : Int) = bits .or .u64 (l0 (rdN s k) : Nat) (IntKind.u64.wrap ((btN s k : Int) * 2 ^ (k % 8 * 8))) ∧ l1 (rdN s (k + 1)) = l1 (rdN s k) ∧ l2 (rdN s (k + 1)) = l2 (rdN s k) ∧ l3 (rdN s (k + 1)) = l3 (rdN s k) := by
  intro k hk hq
  have hp := rd_part s k 0 hq
  have hx : l0 (rdN s k) < 2 ^ (8 * (k % 8)) := by
    unfold l0; rw [Nat.pow_zero, Nat.div_one] at hp; exact Nat.lt_of_le_of_lt (Nat.mod_le _ _) hp
  obtain ⟨eo, hlt⟩ := or_byte (l0 (rdN s k)) (btN s k) (k % 8) hx (btN_lt s k) (by omega)
  have em := mk_parts (rdN s k) (rd_ltW s k (by omega))
  have e : rdN s (k + 1) = mk (l0 (rdN s k) + btN s k * 2 ^ (8 * (k % 8))) (l1 (rdN s k)) (l2 (rdN s k)) (l3 (rdN s k)) := by
    rw [rd_step s k 0 hq]
    conv => lhs; rw [← em]
    rw [Nat.pow_zero]
    generalize btN s k * 2 ^ (8 * (k % 8)) = c
    unfold mk; grind
  obtain ⟨e0, e1, e2, e3⟩ := of_mk _ _ _ _ _ e hlt (l1_lt _) (l2_lt _) (l3_lt _)
  exact ⟨by rw [e0, eo], e1, e2, e3⟩

theorem rd_q1 (s : ByteArray) (hs : s.size ≤ 32) : ∀ k : Nat, k < s.size → k / 8 = 1 → l0 (rdN s (k + 1)) = l0 (rdN s k) ∧ ((l1 (rdN s (k + 1)) : Nat) : Int) = bits .or .u64 (l1 (rdN s k) : Nat) (IntKind.u64.wrap ((btN s k : Int) * 2 ^ (k % 8 * 8))) ∧ l2 (rdN s (k + 1)) = l2 (rdN s k) ∧ l3 (rdN s (k + 1)) = l3 (rdN s k) := by
  intro k hk hq
  have hp := rd_part s k 1 hq
  have hx : l1 (rdN s k) < 2 ^ (8 * (k % 8)) := by
    unfold l1; rw [Nat.pow_one] at hp; exact Nat.lt_of_le_of_lt (Nat.mod_le _ _) hp
  obtain ⟨eo, hlt⟩ := or_byte (l1 (rdN s k)) (btN s k) (k % 8) hx (btN_lt s k) (by omega)
  have em := mk_parts (rdN s k) (rd_ltW s k (by omega))
  have e : rdN s (k + 1) = mk (l0 (rdN s k)) (l1 (rdN s k) + btN s k * 2 ^ (8 * (k % 8))) (l2 (rdN s k)) (l3 (rdN s k)) := by
    rw [rd_step s k 1 hq]
    conv => lhs; rw [← em]
    rw [Nat.pow_one]
    generalize btN s k * 2 ^ (8 * (k % 8)) = c
    unfold mk; grind
  obtain ⟨e0, e1, e2, e3⟩ := of_mk _ _ _ _ _ e (l0_lt _) hlt (l2_lt _) (l3_lt _)
  exact ⟨e0, by rw [e1, eo], e2, e3⟩

theorem rd_q2 (s : ByteArray) (hs : s.size ≤ 32) : ∀ k : Nat, k < s.size → k / 8 = 2 → l0 (rdN s (k + 1)) = l0 (rdN s k) ∧ l1 (rdN s (k + 1)) = l1 (rdN s k) ∧ ((l2 (rdN s (k + 1)) : Nat) : Int) = bits .or .u64 (l2 (rdN s k) : Nat) (IntKind.u64.wrap ((btN s k : Int) * 2 ^ (k % 8 * 8))) ∧ l3 (rdN s (k + 1)) = l3 (rdN s k) := by
  intro k hk hq
  have hp := rd_part s k 2 hq
  have hx : l2 (rdN s k) < 2 ^ (8 * (k % 8)) := by
    unfold l2; rw [show M ^ 2 = M * M from by decide] at hp; exact Nat.lt_of_le_of_lt (Nat.mod_le _ _) hp
  obtain ⟨eo, hlt⟩ := or_byte (l2 (rdN s k)) (btN s k) (k % 8) hx (btN_lt s k) (by omega)
  have em := mk_parts (rdN s k) (rd_ltW s k (by omega))
  have e : rdN s (k + 1) = mk (l0 (rdN s k)) (l1 (rdN s k)) (l2 (rdN s k) + btN s k * 2 ^ (8 * (k % 8))) (l3 (rdN s k)) := by
    rw [rd_step s k 2 hq]
    conv => lhs; rw [← em]
    rw [show M ^ 2 = M * M from by decide]
    generalize btN s k * 2 ^ (8 * (k % 8)) = c
    unfold mk; grind
  obtain ⟨e0, e1, e2, e3⟩ := of_mk _ _ _ _ _ e (l0_lt _) (l1_lt _) hlt (l3_lt _)
  exact ⟨e0, e1, by rw [e2, eo], e3⟩

theorem rd_q3 (s : ByteArray) (hs : s.size ≤ 32) : ∀ k : Nat, k < s.size → k / 8 = 3 → l0 (rdN s (k + 1)) = l0 (rdN s k) ∧ l1 (rdN s (k + 1)) = l1 (rdN s k) ∧ l2 (rdN s (k + 1)) = l2 (rdN s k) ∧ ((l3 (rdN s (k + 1)) : Nat) : Int) = bits .or .u64 (l3 (rdN s k) : Nat) (IntKind.u64.wrap ((btN s k : Int) * 2 ^ (k % 8 * 8))) := by
  intro k hk hq
  have hp := rd_part s k 3 hq
  have hx : l3 (rdN s k) < 2 ^ (8 * (k % 8)) := by
    unfold l3; rw [show M ^ 3 = M * M * M from by decide +kernel] at hp; exact Nat.lt_of_le_of_lt (Nat.mod_le _ _) hp
  obtain ⟨eo, hlt⟩ := or_byte (l3 (rdN s k)) (btN s k) (k % 8) hx (btN_lt s k) (by omega)
  have em := mk_parts (rdN s k) (rd_ltW s k (by omega))
  have e : rdN s (k + 1) = mk (l0 (rdN s k)) (l1 (rdN s k)) (l2 (rdN s k)) (l3 (rdN s k) + btN s k * 2 ^ (8 * (k % 8))) := by
    rw [rd_step s k 3 hq]
    conv => lhs; rw [← em]
    rw [show M ^ 3 = M * M * M from by decide +kernel]
    generalize btN s k * 2 ^ (8 * (k % 8)) = c
    unfold mk; grind
  obtain ⟨e0, e1, e2, e3⟩ := of_mk _ _ _ _ _ e (l0_lt _) (l1_lt _) (l2_lt _) hlt
  exact ⟨e0, e1, e2, by rw [e3, eo]⟩

theorem read_any (s : ByteArray) (hs : s.size ≤ 32) (w : World) : Calls Tryd.prog 56 #[.string s] w fun e w' => e = .returned (.tuple #[U (rdN s s.size), .int .i64 0]) ∧ Below w.heap.size w w' :=
  read_raw s (fun k => l0 (rdN s k)) (fun k => l1 (rdN s k)) (fun k => l2 (rdN s k)) (fun k => l3 (rdN s k)) (btN s) (btN_lt s) hs (fun k hk w => run_bt s k hk w) (show l0 0 = 0 by decide +kernel) (show l1 0 = 0 by decide +kernel) (show l2 0 = 0 by decide +kernel) (show l3 0 = 0 by decide +kernel) (rd_q0 s hs) (rd_q1 s hs) (rd_q2 s hs) (rd_q3 s hs) w

theorem rread_any (s : ByteArray) (hs : s.size ≤ 32) (w : World) : Calls Tryd.prog 38 #[.string s] w fun e w' => e = .returned (.tuple #[U (rdN s s.size), .int .i64 0]) ∧ Below w.heap.size w w' :=
  rread_raw s (fun k => l0 (rdN s k)) (fun k => l1 (rdN s k)) (fun k => l2 (rdN s k)) (fun k => l3 (rdN s k)) (btN s) (btN_lt s) hs (fun k hk w => run_bt s k hk w) (show l0 0 = 0 by decide +kernel) (show l1 0 = 0 by decide +kernel) (show l2 0 = 0 by decide +kernel) (show l3 0 = 0 by decide +kernel) (rd_q0 s hs) (rd_q1 s hs) (rd_q2 s hs) (rd_q3 s hs) w

end Go.Proofs.YtjjiendgmnlokaaDoor
