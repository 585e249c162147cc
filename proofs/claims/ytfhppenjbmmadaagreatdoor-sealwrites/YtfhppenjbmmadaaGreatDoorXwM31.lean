import Derived.Test.YtfhppenjbmmadaaGreatDoorRows
import Derived.Test.YtfhppenjbmmadaaGreatDoorXwM02
import Derived.ProofKit
import Derived.OpenShut
import Derived.Below
import Derived.Test.YtfhppenjbmmadaaGreatDoorXwM18
import Derived.Deep.Strs
namespace Go.Proofs.YtfhppenjbmmadaaGreatDoor
set_option linter.unusedVariables false
set_option maxHeartbeats 8000000
section
open Go.ChangeShapes Go.WideShapes Go.ChangeAt Go.RowKit
theorem own:ownKnob Tryz.prog.godebug=none:=by kernel_rfl
theorem cellsA24:Tryz.prog.cellsOf 24=4:=by kernel_rfl
theorem cellsA22:Tryz.prog.cellsOf 22=1:=by kernel_rfl
def DwN {H:Type} (n:Nat):DataW H:=.agg [.lit (.int .u64 (l0 n)),.lit (.int .u64 (l1 n)),.lit (.int .u64 (l2 n)),.lit (.int .u64 (l3 n))]
theorem wf_u64{a:Int}(h:(Lit.int .u64 a).wf=true):∃ k:Nat,a=k∧k<M:=by
 have hx:0≤a∧a≤18446744073709551615:=by simpa [Lit.wf,IntKind.min,IntKind.max,IntKind.signed,IntKind.bits] using h
 exact ⟨a.toNat,by omega,by unfold M;omega⟩
theorem u64_wf(k:Nat)(h:k<M):(Lit.int .u64 (k:Int)).wf=true:=by
 unfold M at h
 have hx:(0:Int)≤(k:Int)∧(k:Int)≤18446744073709551615:=by omega
 simpa [Lit.wf,IntKind.min,IntKind.max,IntKind.signed,IntKind.bits] using hx
end
section
open Go.ChangeShapes Go.WideShapes Go.ChangeAt Go.RowKit
theorem cellsA4:Tryz.prog.cellsOf 4=1:=by kernel_rfl
def DwP {H:Type} (x y:Nat) (n:Bool):DataW H:=.agg [DwN x,DwN y,.lit (.bool n)]
set_option maxRecDepth 100000 in
theorem open_num4{H:Type}{enc:TypeId×Value→H}{w:World}{base:Nat}{spare:Nat→Bool}{held:Bool}{fuel:Nat}{c0 c1 c2 c3:Value}{x:DataW H×List MemPlace}(hf:DataW.trod enc Tryz.prog w base spare held fuel 24 [c0,c1,c2,c3]=some x):∃ n,n<W∧c0=B (l0 n)∧c1=B (l1 n)∧c2=B (l2 n)∧c3=B (l3 n)∧x=(DwN n,[]):=by
 obtain ⟨y0,y1,y2,y3,m,hx,h0,h1,h2,h3⟩:=trod_array4 Tryz.underlying24 cellsA22 hf
 obtain ⟨a0,e0,rfl,w0⟩:=DataW.trod_int Tryz.underlying22 h0
 obtain ⟨a1,e1,rfl,w1⟩:=DataW.trod_int Tryz.underlying22 h1
 obtain ⟨a2,e2,rfl,w2⟩:=DataW.trod_int Tryz.underlying22 h2
 obtain ⟨a3,e3,rfl,w3⟩:=DataW.trod_int Tryz.underlying22 h3
 simp only[List.cons.injEq,and_true] at e0 e1 e2 e3
 subst e0 e1 e2 e3
 simp only[List.append_nil] at hx
 obtain ⟨k0,rfl,g0⟩:=wf_u64 w0
 obtain ⟨k1,rfl,g1⟩:=wf_u64 w1
 obtain ⟨k2,rfl,g2⟩:=wf_u64 w2
 obtain ⟨k3,rfl,g3⟩:=wf_u64 w3
 refine ⟨mk k0 k1 k2 k3,mk_lt _ _ _ _ g0 g1 g2 g3,?_,?_,?_,?_,?_⟩
 ·rw[l0_mk _ _ _ _ g0]
 ·rw[l1_mk _ _ _ _ g0 g1]
 ·rw[l2_mk _ _ _ _ g0 g1 g2]
 ·rw[l3_mk _ _ _ _ g0 g1 g2 g3]
 ·rw[hx];unfold DwN;rw[l0_mk _ _ _ _ g0,l1_mk _ _ _ _ g0 g1,l2_mk _ _ _ _ g0 g1 g2,l3_mk _ _ _ _ g0 g1 g2 g3]
end
section
open Go.ChangeShapes Go.WideShapes Go.ChangeAt Go.RowKit
theorem cellsA27:Tryz.prog.cellsOf 27=9:=by kernel_rfl
set_option maxRecDepth 100000 in
theorem open_se{H:Type}{enc:TypeId×Value→H}{w:World}{base b0:Nat}{spare:Nat→Bool}{held:Bool}{r:Reach}{v:Value}{d:DataW H}{p:List MemPlace}(hv:Value.okWide Tryz.prog w r b0 27 v)(h:DataW.Trod enc Tryz.prog w base spare held 27 v d p):∃ x y n,x<W∧y<W∧v=A9 x y n∧d=DwP x y n∧p=[]:=by
 simp only[Value.okWide,Tryz.underlying27] at hv
 obtain ⟨cs,rfl,hsz,_⟩:=hv
 rw[cellsA27] at hsz
 obtain ⟨fuel,hf⟩:=h
 have hf':DataW.trod enc Tryz.prog w base spare held fuel 27 cs.toList=some (d,p):=by simpa [Value.cells] using hf
 obtain ⟨c0,c1,c2,c3,c4,c5,c6,c7,c8,rfl⟩:∃ c0 c1 c2 c3 c4 c5 c6 c7 c8,cs=#[c0,c1,c2,c3,c4,c5,c6,c7,c8]:=by
  rcases cs with ⟨l⟩
  match l,hsz with
  | [c0,c1,c2,c3,c4,c5,c6,c7,c8],_=>exact ⟨c0,c1,c2,c3,c4,c5,c6,c7,c8,rfl⟩
 obtain ⟨y0,y1,y2,m,hx,_,h0,h1,h2⟩:=Deep.trod_struct3 Tryz.underlying27 hf'
 simp only[cellsA24,cellsA4,List.drop_succ_cons,List.drop_zero,List.take_succ_cons,List.take_zero] at h0 h1 h2
 obtain ⟨x,gx,rfl,rfl,rfl,rfl,rfl⟩:=open_num4 h0
 obtain ⟨y,gy,rfl,rfl,rfl,rfl,rfl⟩:=open_num4 h1
 obtain ⟨n,e2,rfl⟩:=DataW.trod_bool Tryz.underlying4 h2
 simp only[List.cons.injEq,and_true] at e2
 subst e2
 simp only[Prod.mk.injEq,List.append_nil] at hx
 obtain ⟨rfl,rfl⟩:=hx
 exact ⟨x,y,n,gx,gy,rfl,rfl,rfl⟩
theorem shut_se{H:Type}{enc:TypeId×Value→H}{w:World}{base:Nat}{spare:Nat→Bool}{held:Bool}(x y:Nat)(n:Bool) :
  DataW.Trod enc Tryz.prog w base spare held 27 (A9 x y n) (DwP x y n) []:=by
 have w0:=u64_wf _ (l0_lt x)
 have w1:=u64_wf _ (l1_lt x)
 have w2:=u64_wf _ (l2_lt x)
 have w3:=u64_wf _ (l3_lt x)
 have v0:=u64_wf _ (l0_lt y)
 have v1:=u64_wf _ (l1_lt y)
 have v2:=u64_wf _ (l2_lt y)
 have v3:=u64_wf _ (l3_lt y)
 refine ⟨3,?_⟩
 have r4:List.range 4=[0,1,2,3]:=rfl
 simp[Value.cells,DataW.trod,Tryz.underlying27,Tryz.underlying24,Tryz.underlying22,Tryz.underlying4,cellsA27,cellsA24,cellsA22,cellsA4,r4,w0,w1,w2,w3,v0,v1,v2,v3,DwN,DwP]
end
end Go.Proofs.YtfhppenjbmmadaaGreatDoor
