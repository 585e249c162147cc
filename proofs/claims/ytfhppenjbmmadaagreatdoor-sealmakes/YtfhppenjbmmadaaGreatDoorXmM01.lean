import Derived.Test.YtfhppenjbmmadaaGreatDoorProg
import Derived.Test.YtfhppenjbmmadaaGreatDoorXmM00
import Derived.WalkKit
import Derived.BigRegion
namespace Go.Proofs.YtfhppenjbmmadaaGreatDoor
set_option linter.unusedVariables false
set_option maxHeartbeats 8000000
section
open Go.RowKit
abbrev B (x:Nat):Value:=.int .u64 (x:Int)
abbrev U4 (a b c d:Nat):Value:=.agg #[B a,B b,B c,B d]
abbrev I4 (a b c d:Int):Value:=.agg #[.int .u64 a,.int .u64 b,.int .u64 c,.int .u64 d]
abbrev U (n:Nat):Value:=U4 (l0 n) (l1 n) (l2 n) (l3 n)
theorem of_raw(a:Nat)(w:World):Calls Tryz.prog 66 #[B a] w fun e w'=>e=.returned (I4 a 0 0 0)∧Below w.heap.size w w':=by
 go_enter Tryz.func66,Tryz.ntmps66
 go_wp2
 exact bodyPost_ret (v:=I4 a 0 0 0) (by simp[results,Tryz.results66,go_sem]) rfl ⟨rfl,(by repeat (first | exact Below.refl _ _ | apply Below.drew | refine Below.alloc ?_ (by simp;try omega) _))⟩
theorem add_raw(s c:Nat→Nat→Nat→Nat)(hc:∀ x y k:Nat,c x y k≤1)(hr:∀ x y k:Nat,x<M→y<M→k≤1→∀ w,(callFunc 91 #[.int .u64 x,.int .u64 y,.int .u64 k]).run Tryz.prog w=.ok (.value (.tuple #[B (s x y k),B (c x y k)])) w)(hr0:∀ x y:Nat,x<M→y<M→∀ w,(callFunc 91 #[.int .u64 x,.int .u64 y,.int .u64 0]).run Tryz.prog w=.ok (.value (.tuple #[B (s x y 0),B (c x y 0)])) w)(a0 a1 a2 a3 b0 b1 b2 b3:Nat)(g0:a0<M)(j0:b0<M)(g1:a1<M)(j1:b1<M)(g2:a2<M)(j2:b2<M)(g3:a3<M)(j3:b3<M)(w:World):Calls Tryz.prog 124 #[U4 a0 a1 a2 a3,U4 b0 b1 b2 b3] w fun e w'=>e=.returned (.tuple #[U4 (s a0 b0 0) (s a1 b1 (c a0 b0 0)) (s a2 b2 (c a1 b1 (c a0 b0 0))) (s a3 b3 (c a2 b2 (c a1 b1 (c a0 b0 0)))),.bool (((c a3 b3 (c a2 b2 (c a1 b1 (c a0 b0 0)))):Int) != 0)])∧Below w.heap.size w w':=by
 go_enter Tryz.func124,Tryz.ntmps124
 go_wp2
 refine wp_loop_rounds 5 ?_
 iterate 4 (rw[rounds_succ];go_wp2;go_region;go_wp2)
 rw[rounds_succ];go_wp2
 exact bodyPost_ret (v:=.tuple #[U4 (s a0 b0 0) (s a1 b1 (c a0 b0 0)) (s a2 b2 (c a1 b1 (c a0 b0 0))) (s a3 b3 (c a2 b2 (c a1 b1 (c a0 b0 0)))),.bool (((c a3 b3 (c a2 b2 (c a1 b1 (c a0 b0 0)))):Int) != 0)]) (by simp[results,Tryz.results124,go_sem]) rfl ⟨rfl,(by repeat (first | exact Below.refl _ _ | apply Below.drew | refine Below.alloc ?_ (by simp;try omega) _))⟩
theorem radd_raw(s c:Nat→Nat→Nat→Nat)(hc:∀ x y k:Nat,c x y k≤1)(hr:∀ x y k:Nat,x<M→y<M→k≤1→∀ w,(callFunc 91 #[.int .u64 x,.int .u64 y,.int .u64 k]).run Tryz.prog w=.ok (.value (.tuple #[B (s x y k),B (c x y k)])) w)(hr0:∀ x y:Nat,x<M→y<M→∀ w,(callFunc 91 #[.int .u64 x,.int .u64 y,.int .u64 0]).run Tryz.prog w=.ok (.value (.tuple #[B (s x y 0),B (c x y 0)])) w)(a0 a1 a2 a3 b0 b1 b2 b3:Nat)(g0:a0<M)(j0:b0<M)(g1:a1<M)(j1:b1<M)(g2:a2<M)(j2:b2<M)(g3:a3<M)(j3:b3<M)(w:World):Calls Tryz.prog 76 #[U4 a0 a1 a2 a3,U4 b0 b1 b2 b3] w fun e w'=>e=.returned (.tuple #[U4 (s a0 b0 0) (s a1 b1 (c a0 b0 0)) (s a2 b2 (c a1 b1 (c a0 b0 0))) (s a3 b3 (c a2 b2 (c a1 b1 (c a0 b0 0)))),.bool (decide (0<(c a3 b3 (c a2 b2 (c a1 b1 (c a0 b0 0))))))])∧Below w.heap.size w w':=by
 go_enter Tryz.func76,Tryz.ntmps76
 go_wp2
 refine wp_loop_rounds 5 ?_
 iterate 4 (rw[rounds_succ];go_wp2;go_region;go_wp2)
 rw[rounds_succ];go_wp2
 exact bodyPost_ret (v:=.tuple #[U4 (s a0 b0 0) (s a1 b1 (c a0 b0 0)) (s a2 b2 (c a1 b1 (c a0 b0 0))) (s a3 b3 (c a2 b2 (c a1 b1 (c a0 b0 0)))),.bool (decide (0<(c a3 b3 (c a2 b2 (c a1 b1 (c a0 b0 0))))))]) (by simp[results,Tryz.results76,go_sem]) rfl ⟨rfl,(by repeat (first | exact Below.refl _ _ | apply Below.drew | refine Below.alloc ?_ (by simp;try omega) _))⟩
theorem sub_raw(s c:Nat→Nat→Nat→Nat)(hc:∀ x y k:Nat,c x y k≤1)(hr:∀ x y k:Nat,k≤1→∀ w,(callFunc 63 #[.int .u64 x,.int .u64 y,.int .u64 k]).run Tryz.prog w=.ok (.value (.tuple #[B (s x y k),B (c x y k)])) w)(hr0:∀ x y:Nat,∀ w,(callFunc 63 #[.int .u64 x,.int .u64 y,.int .u64 0]).run Tryz.prog w=.ok (.value (.tuple #[B (s x y 0),B (c x y 0)])) w)(a0 a1 a2 a3 b0 b1 b2 b3:Nat)(w:World):Calls Tryz.prog 106 #[U4 a0 a1 a2 a3,U4 b0 b1 b2 b3] w fun e w'=>e=.returned (.tuple #[U4 (s a0 b0 0) (s a1 b1 (c a0 b0 0)) (s a2 b2 (c a1 b1 (c a0 b0 0))) (s a3 b3 (c a2 b2 (c a1 b1 (c a0 b0 0)))),.bool (((c a3 b3 (c a2 b2 (c a1 b1 (c a0 b0 0)))):Int) != 0)])∧Below w.heap.size w w':=by
 go_enter Tryz.func106,Tryz.ntmps106
 go_wp2
 refine wp_loop_rounds 5 ?_
 iterate 4 (rw[rounds_succ];go_wp2;go_region;go_wp2)
 rw[rounds_succ];go_wp2
 exact bodyPost_ret (v:=.tuple #[U4 (s a0 b0 0) (s a1 b1 (c a0 b0 0)) (s a2 b2 (c a1 b1 (c a0 b0 0))) (s a3 b3 (c a2 b2 (c a1 b1 (c a0 b0 0)))),.bool (((c a3 b3 (c a2 b2 (c a1 b1 (c a0 b0 0)))):Int) != 0)]) (by simp[results,Tryz.results106,go_sem]) rfl ⟨rfl,(by repeat (first | exact Below.refl _ _ | apply Below.drew | refine Below.alloc ?_ (by simp;try omega) _))⟩
theorem rsub_raw(s c:Nat→Nat→Nat→Nat)(hc:∀ x y k:Nat,c x y k≤1)(hr:∀ x y k:Nat,k≤1→∀ w,(callFunc 63 #[.int .u64 x,.int .u64 y,.int .u64 k]).run Tryz.prog w=.ok (.value (.tuple #[B (s x y k),B (c x y k)])) w)(hr0:∀ x y:Nat,∀ w,(callFunc 63 #[.int .u64 x,.int .u64 y,.int .u64 0]).run Tryz.prog w=.ok (.value (.tuple #[B (s x y 0),B (c x y 0)])) w)(a0 a1 a2 a3 b0 b1 b2 b3:Nat)(w:World):Calls Tryz.prog 27 #[U4 a0 a1 a2 a3,U4 b0 b1 b2 b3] w fun e w'=>e=.returned (.tuple #[U4 (s a0 b0 0) (s a1 b1 (c a0 b0 0)) (s a2 b2 (c a1 b1 (c a0 b0 0))) (s a3 b3 (c a2 b2 (c a1 b1 (c a0 b0 0)))),.bool (decide (0<(c a3 b3 (c a2 b2 (c a1 b1 (c a0 b0 0))))))])∧Below w.heap.size w w':=by
 go_enter Tryz.func27,Tryz.ntmps27
 go_wp2
 refine wp_loop_rounds 5 ?_
 iterate 4 (rw[rounds_succ];go_wp2;go_region;go_wp2)
 rw[rounds_succ];go_wp2
 exact bodyPost_ret (v:=.tuple #[U4 (s a0 b0 0) (s a1 b1 (c a0 b0 0)) (s a2 b2 (c a1 b1 (c a0 b0 0))) (s a3 b3 (c a2 b2 (c a1 b1 (c a0 b0 0)))),.bool (decide (0<(c a3 b3 (c a2 b2 (c a1 b1 (c a0 b0 0))))))]) (by simp[results,Tryz.results27,go_sem]) rfl ⟨rfl,(by repeat (first | exact Below.refl _ _ | apply Below.drew | refine Below.alloc ?_ (by simp;try omega) _))⟩
theorem or_raw(a0 a1 a2 a3 b0 b1 b2 b3:Nat)(w:World):Calls Tryz.prog 165 #[U4 a0 a1 a2 a3,U4 b0 b1 b2 b3] w fun e w'=>e=.returned (I4 (bits .or .u64 a0 b0) (bits .or .u64 a1 b1) (bits .or .u64 a2 b2) (bits .or .u64 a3 b3))∧Below w.heap.size w w':=by
 go_enter Tryz.func165,Tryz.ntmps165
 go_wp2
 refine wp_loop_rounds 5 ?_
 iterate 4 (rw[rounds_succ];go_wp2;go_region;go_wp2)
 rw[rounds_succ];go_wp2
 exact bodyPost_ret (v:=I4 (bits .or .u64 a0 b0) (bits .or .u64 a1 b1) (bits .or .u64 a2 b2) (bits .or .u64 a3 b3)) (by simp[results,Tryz.results165,go_sem]) rfl ⟨rfl,(by repeat (first | exact Below.refl _ _ | apply Below.drew | refine Below.alloc ?_ (by simp;try omega) _))⟩
end
section
open Go.RowKit
def cmp4 (a0 a1 a2 a3 b0 b1 b2 b3:Nat):Int:=
 if a3<b3 then -1 else if b3<a3 then 1 else if a2<b2 then -1 else if b2<a2 then 1 else if a1<b1 then -1 else if b1<a1 then 1 else if a0<b0 then -1 else if b0<a0 then 1 else 0
theorem cmp_raw(a0 a1 a2 a3 b0 b1 b2 b3:Nat)(w:World):Calls Tryz.prog 93 #[U4 a0 a1 a2 a3,U4 b0 b1 b2 b3] w fun e w'=>e=.returned (.int .i64 (cmp4 a0 a1 a2 a3 b0 b1 b2 b3))∧Below w.heap.size w w':=by
 go_enter Tryz.func93,Tryz.ntmps93
 go_wp2
 refine wp_loop_rounds 5 ?_
 by_cases h3:a3<b3
 ·rw[rounds_succ];go_wp2;go_region;go_wp2;go_ret;exact ⟨by rw[cmp4,if_pos h3];rfl,(by repeat (first | exact Below.refl _ _ | apply Below.drew | refine Below.alloc ?_ (by simp;try omega) _))⟩
 by_cases k3:b3<a3
 ·rw[rounds_succ];go_wp2;go_region;go_wp2;go_region;go_wp2;go_ret;exact ⟨by rw[cmp4,if_neg h3,if_pos k3];rfl,(by repeat (first | exact Below.refl _ _ | apply Below.drew | refine Below.alloc ?_ (by simp;try omega) _))⟩
 rw[rounds_succ];go_wp2;go_region;go_wp2;go_region;go_wp2
 by_cases h2:a2<b2
 ·rw[rounds_succ];go_wp2;go_region;go_wp2;go_ret;exact ⟨by rw[cmp4,if_neg h3,if_neg k3,if_pos h2];rfl,(by repeat (first | exact Below.refl _ _ | apply Below.drew | refine Below.alloc ?_ (by simp;try omega) _))⟩
 by_cases k2:b2<a2
 ·rw[rounds_succ];go_wp2;go_region;go_wp2;go_region;go_wp2;go_ret;exact ⟨by rw[cmp4,if_neg h3,if_neg k3,if_neg h2,if_pos k2];rfl,(by repeat (first | exact Below.refl _ _ | apply Below.drew | refine Below.alloc ?_ (by simp;try omega) _))⟩
 rw[rounds_succ];go_wp2;go_region;go_wp2;go_region;go_wp2
 by_cases h1:a1<b1
 ·rw[rounds_succ];go_wp2;go_region;go_wp2;go_ret;exact ⟨by rw[cmp4,if_neg h3,if_neg k3,if_neg h2,if_neg k2,if_pos h1];rfl,(by repeat (first | exact Below.refl _ _ | apply Below.drew | refine Below.alloc ?_ (by simp;try omega) _))⟩
 by_cases k1:b1<a1
 ·rw[rounds_succ];go_wp2;go_region;go_wp2;go_region;go_wp2;go_ret;exact ⟨by rw[cmp4,if_neg h3,if_neg k3,if_neg h2,if_neg k2,if_neg h1,if_pos k1];rfl,(by repeat (first | exact Below.refl _ _ | apply Below.drew | refine Below.alloc ?_ (by simp;try omega) _))⟩
 rw[rounds_succ];go_wp2;go_region;go_wp2;go_region;go_wp2
 by_cases h0:a0<b0
 ·rw[rounds_succ];go_wp2;go_region;go_wp2;go_ret;exact ⟨by rw[cmp4,if_neg h3,if_neg k3,if_neg h2,if_neg k2,if_neg h1,if_neg k1,if_pos h0];rfl,(by repeat (first | exact Below.refl _ _ | apply Below.drew | refine Below.alloc ?_ (by simp;try omega) _))⟩
 by_cases k0:b0<a0
 ·rw[rounds_succ];go_wp2;go_region;go_wp2;go_region;go_wp2;go_ret;exact ⟨by rw[cmp4,if_neg h3,if_neg k3,if_neg h2,if_neg k2,if_neg h1,if_neg k1,if_neg h0,if_pos k0];rfl,(by repeat (first | exact Below.refl _ _ | apply Below.drew | refine Below.alloc ?_ (by simp;try omega) _))⟩
 rw[rounds_succ];go_wp2;go_region;go_wp2;go_region;go_wp2
 rw[rounds_succ];go_wp2;go_ret;exact ⟨by rw[cmp4,if_neg h3,if_neg k3,if_neg h2,if_neg k2,if_neg h1,if_neg k1,if_neg h0,if_neg k0];rfl,(by repeat (first | exact Below.refl _ _ | apply Below.drew | refine Below.alloc ?_ (by simp;try omega) _))⟩
theorem rcmp_raw(a0 a1 a2 a3 b0 b1 b2 b3:Nat)(w:World):Calls Tryz.prog 42 #[U4 a0 a1 a2 a3,U4 b0 b1 b2 b3] w fun e w'=>e=.returned (.int .i64 (cmp4 a0 a1 a2 a3 b0 b1 b2 b3))∧Below w.heap.size w w':=by
 go_enter Tryz.func42,Tryz.ntmps42
 go_wp2
 refine wp_loop_rounds 5 ?_
 by_cases h3:a3<b3
 ·rw[rounds_succ];go_wp2;go_region;go_wp2;go_ret;exact ⟨by rw[cmp4,if_pos h3];rfl,(by repeat (first | exact Below.refl _ _ | apply Below.drew | refine Below.alloc ?_ (by simp;try omega) _))⟩
 by_cases k3:b3<a3
 ·rw[rounds_succ];go_wp2;go_region;go_wp2;go_region;go_wp2;go_ret;exact ⟨by rw[cmp4,if_neg h3,if_pos k3];rfl,(by repeat (first | exact Below.refl _ _ | apply Below.drew | refine Below.alloc ?_ (by simp;try omega) _))⟩
 rw[rounds_succ];go_wp2;go_region;go_wp2;go_region;go_wp2
 by_cases h2:a2<b2
 ·rw[rounds_succ];go_wp2;go_region;go_wp2;go_ret;exact ⟨by rw[cmp4,if_neg h3,if_neg k3,if_pos h2];rfl,(by repeat (first | exact Below.refl _ _ | apply Below.drew | refine Below.alloc ?_ (by simp;try omega) _))⟩
 by_cases k2:b2<a2
 ·rw[rounds_succ];go_wp2;go_region;go_wp2;go_region;go_wp2;go_ret;exact ⟨by rw[cmp4,if_neg h3,if_neg k3,if_neg h2,if_pos k2];rfl,(by repeat (first | exact Below.refl _ _ | apply Below.drew | refine Below.alloc ?_ (by simp;try omega) _))⟩
 rw[rounds_succ];go_wp2;go_region;go_wp2;go_region;go_wp2
 by_cases h1:a1<b1
 ·rw[rounds_succ];go_wp2;go_region;go_wp2;go_ret;exact ⟨by rw[cmp4,if_neg h3,if_neg k3,if_neg h2,if_neg k2,if_pos h1];rfl,(by repeat (first | exact Below.refl _ _ | apply Below.drew | refine Below.alloc ?_ (by simp;try omega) _))⟩
 by_cases k1:b1<a1
 ·rw[rounds_succ];go_wp2;go_region;go_wp2;go_region;go_wp2;go_ret;exact ⟨by rw[cmp4,if_neg h3,if_neg k3,if_neg h2,if_neg k2,if_neg h1,if_pos k1];rfl,(by repeat (first | exact Below.refl _ _ | apply Below.drew | refine Below.alloc ?_ (by simp;try omega) _))⟩
 rw[rounds_succ];go_wp2;go_region;go_wp2;go_region;go_wp2
 by_cases h0:a0<b0
 ·rw[rounds_succ];go_wp2;go_region;go_wp2;go_ret;exact ⟨by rw[cmp4,if_neg h3,if_neg k3,if_neg h2,if_neg k2,if_neg h1,if_neg k1,if_pos h0];rfl,(by repeat (first | exact Below.refl _ _ | apply Below.drew | refine Below.alloc ?_ (by simp;try omega) _))⟩
 by_cases k0:b0<a0
 ·rw[rounds_succ];go_wp2;go_region;go_wp2;go_region;go_wp2;go_ret;exact ⟨by rw[cmp4,if_neg h3,if_neg k3,if_neg h2,if_neg k2,if_neg h1,if_neg k1,if_neg h0,if_pos k0];rfl,(by repeat (first | exact Below.refl _ _ | apply Below.drew | refine Below.alloc ?_ (by simp;try omega) _))⟩
 rw[rounds_succ];go_wp2;go_region;go_wp2;go_region;go_wp2
 rw[rounds_succ];go_wp2;go_ret;exact ⟨by rw[cmp4,if_neg h3,if_neg k3,if_neg h2,if_neg k2,if_neg h1,if_neg k1,if_neg h0,if_neg k0];rfl,(by repeat (first | exact Below.refl _ _ | apply Below.drew | refine Below.alloc ?_ (by simp;try omega) _))⟩
end
section
open Go.RowKit
set_option maxRecDepth 100000 in
theorem shl_0_raw(a0 a1 a2 a3 k r:Nat)(hk:k<256)(hq:(k:Int)/64=0)(hr:(k:Int)%64=(r:Int))(hr1:r<64)(w:World):Calls Tryz.prog 159 #[U4 a0 a1 a2 a3,B k] w fun e w'=>e=.returned (I4 (IntKind.u64.wrap ((a0:Int)*2^r)) (bits .or .u64 (IntKind.u64.wrap ((a1:Int)*2^r)) ((a0:Int)/2^(64-r))) (bits .or .u64 (IntKind.u64.wrap ((a2:Int)*2^r)) ((a1:Int)/2^(64-r))) (bits .or .u64 (IntKind.u64.wrap ((a3:Int)*2^r)) ((a2:Int)/2^(64-r))))∧Below w.heap.size w w':=by
 go_enter Tryz.func159,Tryz.ntmps159
 go_wp2
 refine wp_loop_rounds 5 ?_
 rw[rounds_succ];go_wp2
 rw[rounds_succ];go_wp2;go_region;go_wp2
 rw[rounds_succ];go_wp2;go_region;go_wp2
 rw[rounds_succ];go_wp2;go_region;go_wp2
 rw[rounds_succ];go_wp2
 exact bodyPost_ret (v:=I4 (IntKind.u64.wrap ((a0:Int)*2^r)) (bits .or .u64 (IntKind.u64.wrap ((a1:Int)*2^r)) ((a0:Int)/2^(64-r))) (bits .or .u64 (IntKind.u64.wrap ((a2:Int)*2^r)) ((a1:Int)/2^(64-r))) (bits .or .u64 (IntKind.u64.wrap ((a3:Int)*2^r)) ((a2:Int)/2^(64-r)))) (by simp[results,Tryz.results159,go_sem]) rfl ⟨rfl,(by repeat (first | exact Below.refl _ _ | apply Below.drew | refine Below.alloc ?_ (by simp;try omega) _))⟩
set_option maxRecDepth 100000 in
theorem shl_1_raw(a0 a1 a2 a3 k r:Nat)(hk:k<256)(hq:(k:Int)/64=1)(hr:(k:Int)%64=(r:Int))(hr1:r<64)(w:World):Calls Tryz.prog 159 #[U4 a0 a1 a2 a3,B k] w fun e w'=>e=.returned (I4 0 (IntKind.u64.wrap ((a0:Int)*2^r)) (bits .or .u64 (IntKind.u64.wrap ((a1:Int)*2^r)) ((a0:Int)/2^(64-r))) (bits .or .u64 (IntKind.u64.wrap ((a2:Int)*2^r)) ((a1:Int)/2^(64-r))))∧Below w.heap.size w w':=by
 go_enter Tryz.func159,Tryz.ntmps159
 go_wp2
 refine wp_loop_rounds 5 ?_
 rw[rounds_succ];go_wp2
 rw[rounds_succ];go_wp2;go_region;go_wp2
 rw[rounds_succ];go_wp2;go_region;go_wp2
 rw[rounds_succ];go_wp2
 exact bodyPost_ret (v:=I4 0 (IntKind.u64.wrap ((a0:Int)*2^r)) (bits .or .u64 (IntKind.u64.wrap ((a1:Int)*2^r)) ((a0:Int)/2^(64-r))) (bits .or .u64 (IntKind.u64.wrap ((a2:Int)*2^r)) ((a1:Int)/2^(64-r)))) (by simp[results,Tryz.results159,go_sem]) rfl ⟨rfl,(by repeat (first | exact Below.refl _ _ | apply Below.drew | refine Below.alloc ?_ (by simp;try omega) _))⟩
set_option maxRecDepth 100000 in
theorem shl_2_raw(a0 a1 a2 a3 k r:Nat)(hk:k<256)(hq:(k:Int)/64=2)(hr:(k:Int)%64=(r:Int))(hr1:r<64)(w:World):Calls Tryz.prog 159 #[U4 a0 a1 a2 a3,B k] w fun e w'=>e=.returned (I4 0 0 (IntKind.u64.wrap ((a0:Int)*2^r)) (bits .or .u64 (IntKind.u64.wrap ((a1:Int)*2^r)) ((a0:Int)/2^(64-r))))∧Below w.heap.size w w':=by
 go_enter Tryz.func159,Tryz.ntmps159
 go_wp2
 refine wp_loop_rounds 5 ?_
 rw[rounds_succ];go_wp2
 rw[rounds_succ];go_wp2;go_region;go_wp2
 rw[rounds_succ];go_wp2
 exact bodyPost_ret (v:=I4 0 0 (IntKind.u64.wrap ((a0:Int)*2^r)) (bits .or .u64 (IntKind.u64.wrap ((a1:Int)*2^r)) ((a0:Int)/2^(64-r)))) (by simp[results,Tryz.results159,go_sem]) rfl ⟨rfl,(by repeat (first | exact Below.refl _ _ | apply Below.drew | refine Below.alloc ?_ (by simp;try omega) _))⟩
set_option maxRecDepth 100000 in
theorem shl_3_raw(a0 a1 a2 a3 k r:Nat)(hk:k<256)(hq:(k:Int)/64=3)(hr:(k:Int)%64=(r:Int))(hr1:r<64)(w:World):Calls Tryz.prog 159 #[U4 a0 a1 a2 a3,B k] w fun e w'=>e=.returned (I4 0 0 0 (IntKind.u64.wrap ((a0:Int)*2^r)))∧Below w.heap.size w w':=by
 go_enter Tryz.func159,Tryz.ntmps159
 go_wp2
 refine wp_loop_rounds 5 ?_
 rw[rounds_succ];go_wp2
 rw[rounds_succ];go_wp2
 exact bodyPost_ret (v:=I4 0 0 0 (IntKind.u64.wrap ((a0:Int)*2^r))) (by simp[results,Tryz.results159,go_sem]) rfl ⟨rfl,(by repeat (first | exact Below.refl _ _ | apply Below.drew | refine Below.alloc ?_ (by simp;try omega) _))⟩
set_option maxRecDepth 100000 in
theorem shl_big_raw(a0 a1 a2 a3 k:Nat)(hk:256≤k)(w:World):Calls Tryz.prog 159 #[U4 a0 a1 a2 a3,B k] w fun e w'=>e=.returned (I4 0 0 0 0)∧Below w.heap.size w w':=by
 have hk':(256:Int)≤(k:Int):=by omega
 go_enter Tryz.func159,Tryz.ntmps159
 go_wp2
 exact bodyPost_ret (v:=I4 0 0 0 0) (by simp[results,Tryz.results159,go_sem]) rfl ⟨rfl,(by repeat (first | exact Below.refl _ _ | apply Below.drew | refine Below.alloc ?_ (by simp;try omega) _))⟩
set_option maxRecDepth 100000 in
theorem shr_0_raw(a0 a1 a2 a3 k r:Nat)(hk:k<256)(hq:(k:Int)/64=0)(hr:(k:Int)%64=(r:Int))(hr1:r<64)(w:World):Calls Tryz.prog 122 #[U4 a0 a1 a2 a3,B k] w fun e w'=>e=.returned (I4 (bits .or .u64 ((a0:Int)/2^r) (IntKind.u64.wrap ((a1:Int)*2^(64-r)))) (bits .or .u64 ((a1:Int)/2^r) (IntKind.u64.wrap ((a2:Int)*2^(64-r)))) (bits .or .u64 ((a2:Int)/2^r) (IntKind.u64.wrap ((a3:Int)*2^(64-r)))) ((a3:Int)/2^r))∧Below w.heap.size w w':=by
 go_enter Tryz.func122,Tryz.ntmps122
 go_wp2
 refine wp_loop_rounds 5 ?_
 rw[rounds_succ];go_wp2;go_region;go_wp2
 rw[rounds_succ];go_wp2;go_region;go_wp2
 rw[rounds_succ];go_wp2;go_region;go_wp2
 rw[rounds_succ];go_wp2
 rw[rounds_succ];go_wp2
 exact bodyPost_ret (v:=I4 (bits .or .u64 ((a0:Int)/2^r) (IntKind.u64.wrap ((a1:Int)*2^(64-r)))) (bits .or .u64 ((a1:Int)/2^r) (IntKind.u64.wrap ((a2:Int)*2^(64-r)))) (bits .or .u64 ((a2:Int)/2^r) (IntKind.u64.wrap ((a3:Int)*2^(64-r)))) ((a3:Int)/2^r)) (by simp[results,Tryz.results122,go_sem]) rfl ⟨rfl,(by repeat (first | exact Below.refl _ _ | apply Below.drew | refine Below.alloc ?_ (by simp;try omega) _))⟩
set_option maxRecDepth 100000 in
theorem shr_1_raw(a0 a1 a2 a3 k r:Nat)(hk:k<256)(hq:(k:Int)/64=1)(hr:(k:Int)%64=(r:Int))(hr1:r<64)(w:World):Calls Tryz.prog 122 #[U4 a0 a1 a2 a3,B k] w fun e w'=>e=.returned (I4 (bits .or .u64 ((a1:Int)/2^r) (IntKind.u64.wrap ((a2:Int)*2^(64-r)))) (bits .or .u64 ((a2:Int)/2^r) (IntKind.u64.wrap ((a3:Int)*2^(64-r)))) ((a3:Int)/2^r) 0)∧Below w.heap.size w w':=by
 go_enter Tryz.func122,Tryz.ntmps122
 go_wp2
 refine wp_loop_rounds 5 ?_
 rw[rounds_succ];go_wp2;go_region;go_wp2
 rw[rounds_succ];go_wp2;go_region;go_wp2
 rw[rounds_succ];go_wp2
 rw[rounds_succ];go_wp2
 exact bodyPost_ret (v:=I4 (bits .or .u64 ((a1:Int)/2^r) (IntKind.u64.wrap ((a2:Int)*2^(64-r)))) (bits .or .u64 ((a2:Int)/2^r) (IntKind.u64.wrap ((a3:Int)*2^(64-r)))) ((a3:Int)/2^r) 0) (by simp[results,Tryz.results122,go_sem]) rfl ⟨rfl,(by repeat (first | exact Below.refl _ _ | apply Below.drew | refine Below.alloc ?_ (by simp;try omega) _))⟩
set_option maxRecDepth 100000 in
theorem shr_2_raw(a0 a1 a2 a3 k r:Nat)(hk:k<256)(hq:(k:Int)/64=2)(hr:(k:Int)%64=(r:Int))(hr1:r<64)(w:World):Calls Tryz.prog 122 #[U4 a0 a1 a2 a3,B k] w fun e w'=>e=.returned (I4 (bits .or .u64 ((a2:Int)/2^r) (IntKind.u64.wrap ((a3:Int)*2^(64-r)))) ((a3:Int)/2^r) 0 0)∧Below w.heap.size w w':=by
 go_enter Tryz.func122,Tryz.ntmps122
 go_wp2
 refine wp_loop_rounds 5 ?_
 rw[rounds_succ];go_wp2;go_region;go_wp2
 rw[rounds_succ];go_wp2
 rw[rounds_succ];go_wp2
 exact bodyPost_ret (v:=I4 (bits .or .u64 ((a2:Int)/2^r) (IntKind.u64.wrap ((a3:Int)*2^(64-r)))) ((a3:Int)/2^r) 0 0) (by simp[results,Tryz.results122,go_sem]) rfl ⟨rfl,(by repeat (first | exact Below.refl _ _ | apply Below.drew | refine Below.alloc ?_ (by simp;try omega) _))⟩
set_option maxRecDepth 100000 in
theorem shr_3_raw(a0 a1 a2 a3 k r:Nat)(hk:k<256)(hq:(k:Int)/64=3)(hr:(k:Int)%64=(r:Int))(hr1:r<64)(w:World):Calls Tryz.prog 122 #[U4 a0 a1 a2 a3,B k] w fun e w'=>e=.returned (I4 ((a3:Int)/2^r) 0 0 0)∧Below w.heap.size w w':=by
 go_enter Tryz.func122,Tryz.ntmps122
 go_wp2
 refine wp_loop_rounds 5 ?_
 rw[rounds_succ];go_wp2
 rw[rounds_succ];go_wp2
 exact bodyPost_ret (v:=I4 ((a3:Int)/2^r) 0 0 0) (by simp[results,Tryz.results122,go_sem]) rfl ⟨rfl,(by repeat (first | exact Below.refl _ _ | apply Below.drew | refine Below.alloc ?_ (by simp;try omega) _))⟩
set_option maxRecDepth 100000 in
theorem shr_big_raw(a0 a1 a2 a3 k:Nat)(hk:256≤k)(w:World):Calls Tryz.prog 122 #[U4 a0 a1 a2 a3,B k] w fun e w'=>e=.returned (I4 0 0 0 0)∧Below w.heap.size w w':=by
 have hk':(256:Int)≤(k:Int):=by omega
 go_enter Tryz.func122,Tryz.ntmps122
 go_wp2
 exact bodyPost_ret (v:=I4 0 0 0 0) (by simp[results,Tryz.results122,go_sem]) rfl ⟨rfl,(by repeat (first | exact Below.refl _ _ | apply Below.drew | refine Below.alloc ?_ (by simp;try omega) _))⟩
set_option maxRecDepth 100000 in
theorem rshr_big_raw(a0 a1 a2 a3 k:Nat)(hk:256≤k)(w:World):Calls Tryz.prog 87 #[U4 a0 a1 a2 a3,B k] w fun e w'=>e=.returned (I4 0 0 0 0)∧Below w.heap.size w w':=by
 have hk':(256:Int)≤(k:Int):=by omega
 go_enter Tryz.func87,Tryz.ntmps87
 go_wp2
 exact bodyPost_ret (v:=I4 0 0 0 0) (by simp[results,Tryz.results87,go_sem]) rfl ⟨rfl,(by repeat (first | exact Below.refl _ _ | apply Below.drew | refine Below.alloc ?_ (by simp;try omega) _))⟩
end
end Go.Proofs.YtfhppenjbmmadaaGreatDoor
