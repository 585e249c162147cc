/- Out of Ln. -/
import Derived.Test.YthkpgfbjdabflaaGreatDoorProg
import Derived.Lib.Strings
import Derived.Lib.Slices
import Derived.Lib.Small
import Derived.Lib.Walk
import Derived.Lib.BitFns
namespace Go.Proofs.YthkpgfbjdabflaaGreatDoor
open Tryz
set_option linter.unusedVariables false
set_option maxRecDepth 100000
set_option maxHeartbeats 4000000
theorem kc(X k:Nat)(hX:X<18446744073709551616)(hk:k=0∨2^k≤X)(y:Int)(h0:0≤y)(h1:y≤255)(hy:y.toNat=X/2^k) :
  (k:Int)+Lib.len8 y=Lib.bitLen X∧0≤Lib.len8 y∧Lib.len8 y≤8:=by
 have e:=Lib.len8_of y h0 h1;have l:=Lib.bitLen_le8' y h0 h1;refine⟨?_,by omega,by omega⟩;rcases hk with rfl|hk
 ·rw[e,hy];simp
 ·rw[e,hy,Lib.bitLen_shift k X hk hX];simp
theorem len64_int(x:Int)(h0:0≤x)(h1:x≤18446744073709551615)(w:World):Calls prog 151 #[.int .u64 x] w fun e w'=>e=.returned (.int .i64 (Lib.bitLen x.toNat))∧w'=w:=by
 go_enter func151,ntmps151
 go_wp2
 all_goals (go_ret;refine⟨congrArg Ending.returned (congrArg (Value.int IntKind.i64) ?_),rfl⟩)
 all_goals first
  | (have hc:=kc x.toNat 56 (by omega) (.inr (by omega)) (x/4294967296/65536/256%256) (by omega) (by omega) (by omega);omega)
  | (have hc:=kc x.toNat 48 (by omega) (.inr (by omega)) (x/4294967296/65536%256) (by omega) (by omega) (by omega);omega)
  | (have hc:=kc x.toNat 40 (by omega) (.inr (by omega)) (x/4294967296/256%256) (by omega) (by omega) (by omega);omega)
  | (have hc:=kc x.toNat 32 (by omega) (.inr (by omega)) (x/4294967296%256) (by omega) (by omega) (by omega);omega)
  | (have hc:=kc x.toNat 24 (by omega) (.inr (by omega)) (x/65536/256%256) (by omega) (by omega) (by omega);omega)
  | (have hc:=kc x.toNat 16 (by omega) (.inr (by omega)) (x/65536%256) (by omega) (by omega) (by omega);omega)
  | (have hc:=kc x.toNat 8 (by omega) (.inr (by omega)) (x/256%256) (by omega) (by omega) (by omega);omega)
  | (have hc:=kc x.toNat 0 (by omega) (.inl rfl) (x%256) (by omega) (by omega) (by omega);omega)
theorem zee(x:Nat)(hx:x<18446744073709551616)(w:World):Calls prog 151 #[.int .u64 x] w fun e w'=>e=.returned (.int .i64 (Lib.bitLen x))∧w'=w:=by
 simpa using len64_int x (by omega) (by omega) w
end Go.Proofs.YthkpgfbjdabflaaGreatDoor
