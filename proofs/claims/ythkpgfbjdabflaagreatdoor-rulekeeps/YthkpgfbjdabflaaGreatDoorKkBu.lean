/- Out of Bu. -/
import Derived.Test.YthkpgfbjdabflaaGreatDoorKkKa
import Derived.BigQuiet
import Derived.Test.YthkpgfbjdabflaaGreatDoorKkNv
namespace Go.Proofs.YthkpgfbjdabflaaGreatDoor
open Go.RowKit Tryz
set_option linter.unusedVariables false
set_option maxRecDepth 100000
set_option maxHeartbeats 4000000
theorem part_bit(x r:Nat)(hr:r<64):x%M/2^r%2=x/2^r%2:=by
 rw[zau,show(64:Nat)=r+(64-r) by omega,Nat.pow_add,Nat.mod_mul_right_div_self];refine Nat.mod_mod_of_dvd _ ?_;exact Nat.pow_dvd_pow 2 (m:=1) (by omega)
theorem bit_int(n q i x:Nat)(hq:i/64=q)(hxM:x<M)(hx:x=n/2^(64*q)%M):bits .and .u64 ((x:Int)/2^(i%64)) 1=((n/2^i%2:Nat):Int):=by
 have h:x/2^(i%64)%2=n/2^i%2:=by
  rw[hx,part_bit _ _ (Nat.mod_lt _ (by decide)),Nat.div_div_eq_div_mul,← Nat.pow_add,show 64*q+i%64=i by omega]
 rw[← h,zda,show(1:Int)=((1:Nat):Int)from rfl,zbp _ _ (Nat.lt_of_le_of_lt (Nat.div_le_self _ _) hxM) (by decide),Nat.and_one_is_mod]
theorem c_l0(n:Nat):l0 n=n/2^(64*0)%M:=by unfold l0;simp
theorem c_l1(n:Nat):l1 n=n/2^(64*1)%M:=by unfold l1;rw[zau]
theorem c_l2(n:Nat):l2 n=n/2^(64*2)%M:=by unfold l2;rw[MM_pow]
theorem c_l3(n:Nat):l3 n=n/2^(64*3)%M:=by unfold l3;rw[MMM_pow]
end Go.Proofs.YthkpgfbjdabflaaGreatDoor
