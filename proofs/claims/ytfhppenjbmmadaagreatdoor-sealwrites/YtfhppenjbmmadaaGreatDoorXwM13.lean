import Derived.Test.YtfhppenjbmmadaaGreatDoorXwM03
import Derived.BigQuiet
import Derived.Deep.Light
import Derived.Test.YtfhppenjbmmadaaGreatDoorXwM02
namespace Go.Proofs.YtfhppenjbmmadaaGreatDoor
set_option linter.unusedVariables false
set_option maxHeartbeats 8000000
section
open Go.RowKit Go.Sort
set_option maxRecDepth 100000 in
theorem bit_0_raw(a0 a1 a2 a3 i:Nat)(hi:i≤255)(hq:(i:Int)/64=0)(w:World):Calls Tryz.prog 81 #[U4 a0 a1 a2 a3,.int .i64 i] w fun e w'=>e=.returned (.int .u64 (bits .and .u64 ((a0:Int)/2^(i%64)) 1))∧Below w.heap.size w w':=by
 go_enter Tryz.func81,Tryz.ntmps81
 go_wp2
 go_ret
 exact ⟨rfl,(by repeat (first | exact Below.refl _ _ | apply Below.drew | refine bAl ?_ _))⟩
set_option maxRecDepth 100000 in
theorem bit_1_raw(a0 a1 a2 a3 i:Nat)(hi:i≤255)(hq:(i:Int)/64=1)(w:World):Calls Tryz.prog 81 #[U4 a0 a1 a2 a3,.int .i64 i] w fun e w'=>e=.returned (.int .u64 (bits .and .u64 ((a1:Int)/2^(i%64)) 1))∧Below w.heap.size w w':=by
 go_enter Tryz.func81,Tryz.ntmps81
 go_wp2
 go_ret
 exact ⟨rfl,(by repeat (first | exact Below.refl _ _ | apply Below.drew | refine bAl ?_ _))⟩
set_option maxRecDepth 100000 in
theorem bit_2_raw(a0 a1 a2 a3 i:Nat)(hi:i≤255)(hq:(i:Int)/64=2)(w:World):Calls Tryz.prog 81 #[U4 a0 a1 a2 a3,.int .i64 i] w fun e w'=>e=.returned (.int .u64 (bits .and .u64 ((a2:Int)/2^(i%64)) 1))∧Below w.heap.size w w':=by
 go_enter Tryz.func81,Tryz.ntmps81
 go_wp2
 go_ret
 exact ⟨rfl,(by repeat (first | exact Below.refl _ _ | apply Below.drew | refine bAl ?_ _))⟩
set_option maxRecDepth 100000 in
theorem bit_3_raw(a0 a1 a2 a3 i:Nat)(hi:i≤255)(hq:(i:Int)/64=3)(w:World):Calls Tryz.prog 81 #[U4 a0 a1 a2 a3,.int .i64 i] w fun e w'=>e=.returned (.int .u64 (bits .and .u64 ((a3:Int)/2^(i%64)) 1))∧Below w.heap.size w w':=by
 go_enter Tryz.func81,Tryz.ntmps81
 go_wp2
 go_ret
 exact ⟨rfl,(by repeat (first | exact Below.refl _ _ | apply Below.drew | refine bAl ?_ _))⟩
end
section
open Go.RowKit
theorem part_bit(x r:Nat)(hr:r<64):x%M/2^r%2=x/2^r%2:=by
 rw[M_pow,show (64:Nat)=r+(64-r) by omega,Nat.pow_add,Nat.mod_mul_right_div_self]
 refine Nat.mod_mod_of_dvd _ ?_
 exact Nat.pow_dvd_pow 2 (m:=1) (by omega)
theorem bit_int(n q i x:Nat)(hq:i/64=q)(hxM:x<M)(hx:x=n/2^(64*q)%M):bits .and .u64 ((x:Int)/2^(i%64)) 1=((n/2^i%2:Nat):Int):=by
 have h:x/2^(i%64)%2=n/2^i%2:=by
  rw[hx,part_bit _ _ (Nat.mod_lt _ (by decide)),Nat.div_div_eq_div_mul,← Nat.pow_add,show 64*q+i%64=i by omega]
 rw[← h,div_pow,show (1:Int)=((1:Nat):Int) from rfl,bits_and _ _ (Nat.lt_of_le_of_lt (Nat.div_le_self _ _) hxM) (by decide),Nat.and_one_is_mod]
theorem c_l0(n:Nat):l0 n=n/2^(64*0)%M:=by unfold l0;simp
theorem c_l1(n:Nat):l1 n=n/2^(64*1)%M:=by unfold l1;rw[M_pow]
theorem c_l2(n:Nat):l2 n=n/2^(64*2)%M:=by unfold l2;rw[MM_pow]
theorem c_l3(n:Nat):l3 n=n/2^(64*3)%M:=by unfold l3;rw[MMM_pow]
theorem bit_any(n i:Nat)(hi:i≤255)(w:World):Calls Tryz.prog 81 #[U n,.int .i64 i] w fun e w'=>e=.returned (B (n/2^i%2))∧Below w.heap.size w w':=by
 have hq:i/64=0∨i/64=1∨i/64=2∨i/64=3:=by omega
 rcases hq with hq | hq | hq | hq
 ·have h:=bit_0_raw (l0 n) (l1 n) (l2 n) (l3 n) i hi (by omega) w
  rw[bit_int n 0 i (l0 n) hq (l0_lt n) (c_l0 n)] at h;exact h
 ·have h:=bit_1_raw (l0 n) (l1 n) (l2 n) (l3 n) i hi (by omega) w
  rw[bit_int n 1 i (l1 n) hq (l1_lt n) (c_l1 n)] at h;exact h
 ·have h:=bit_2_raw (l0 n) (l1 n) (l2 n) (l3 n) i hi (by omega) w
  rw[bit_int n 2 i (l2 n) hq (l2_lt n) (c_l2 n)] at h;exact h
 ·have h:=bit_3_raw (l0 n) (l1 n) (l2 n) (l3 n) i hi (by omega) w
  rw[bit_int n 3 i (l3 n) hq (l3_lt n) (c_l3 n)] at h;exact h
end
end Go.Proofs.YtfhppenjbmmadaaGreatDoor
