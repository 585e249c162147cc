/- Laid one behind the other: Pt, Rr, Rd2. -/
import Derived.Test.YtceedgdbhlpjlaaGreatDoorKqRy
import Derived.Test.YtceedgdbhlpjlaaGreatDoorKqLm
namespace Go.Proofs.YtceedgdbhlpjlaaGreatDoor
open Go.RowKit Go.Sort Tryz
set_option linter.unusedVariables false
set_option maxRecDepth 100000
set_option maxHeartbeats 4000000
theorem parts_any(f:Nat→Nat)(hf:∀ i,i<16→f i<D):RT 149 #[A16 f] (.tuple #[U (vl f 8 8),U (vl f 0 8)]):=by
 intro w;have h1:=zdj (fun i=>f (i+8)) (fun i hi=>hf _ (by omega));have h2:=zdj f (fun i hi=>hf i (by omega));have e1:vl (fun i=>f (i+8)) 0 8=vl f 8 8:=by
  rw[← vl_shift f 8 8];exact kw fun i hi=>by rw[Nat.zero_add,Nat.add_comm]
 rw[e1]at h1;generalize vl f 8 8=x,vl f 0 8=y at *;exact ro (lpF 8 4 5 nO ltF adF (fun i=>[(7,[nO,nO,adF i 8])])++[(8,[nO,kC func150 h1,nO,kC func150 h2])]) func149
theorem rrest_raw(hi lo m x:Nat)(fh fl fm q o:Nat→Nat)(c1:Hid (∀ w,Calls prog 147 #[U hi] w fun e w'=>e=.returned (A8 fh)∧Below w.heap.size w w'))(c2:Hid (∀ w,Calls prog 147 #[U lo] w fun e w'=>e=.returned (A8 fl)∧Below w.heap.size w w'))(c3:Hid (∀ w,Calls prog 147 #[U m] w fun e w'=>e=.returned (A8 fm)∧Below w.heap.size w w'))(c4:Hid (∀ dd:Nat→Nat,(∀ i,i<8→dd i=fl i∧dd (i+8)=fh i)→∀ w,Calls prog 148 #[A16 dd,A8 fm] w fun e w'=>e=.returned (.tuple #[A16 q,A8 o])∧Below w.heap.size w w'))(c5:Hid (∀ w,Calls prog 150 #[A8 o] w fun e w'=>e=.returned (U x)∧Below w.heap.size w w')):RT 154 #[U hi,U lo,U m] (U x):=by
 intro w;have h4:=c4.out (fun i=>if i<8 then fl i else fh (i-8)) (fun i hi=>⟨if_pos hi,by rw[if_neg (by omega),Nat.add_sub_cancel]⟩);exact ro ([(2,[nO,kC func147 c1.out]),(3,[nO,kC func147 c2.out])]++lpF 8 5 6 nO ltF adF (fun i=>[(8,[nO,adF i 8])])++[(9,[nO,nO,kC func147 c3.out,kC func148 h4]),(10,[nO,kC func150 c5.out])]) func154
theorem rdiv_raw(a b h l x:Nat)(fa fb q o:Nat→Nat)(c1:Hid (∀ w,Calls prog 147 #[U a] w fun e w'=>e=.returned (A8 fa)∧Below w.heap.size w w'))(c3:Hid (∀ w,Calls prog 147 #[U b] w fun e w'=>e=.returned (A8 fb)∧Below w.heap.size w w'))(c4:Hid (∀ dd:Nat→Nat,(∀ i,i<8→dd i=fa i)→(∀ i,8≤i→dd i=0)→∀ w,Calls prog 148 #[A16 dd,A8 fb] w fun e w'=>e=.returned (.tuple #[A16 q,A8 o])∧Below w.heap.size w w'))(cp:Hid (∀ w,Calls prog 149 #[A16 q] w fun e w'=>e=.returned (.tuple #[U h,U l])∧Below w.heap.size w w'))(c5:Hid (∀ w,Calls prog 150 #[A8 o] w fun e w'=>e=.returned (U x)∧Below w.heap.size w w')):RT 84 #[U a,U b] (.tuple #[U l,U x]):=by
 intro w;have h4:=c4.out (fun i=>if i<8 then fa i else 0) (fun i hi=>if_pos hi) (fun i hi=>if_neg (by omega));exact ro ([(2,[nO,kC func147 c1.out])]++lpF 8 4 5 nO ltF adF (fun _=>[])++[(7,[nO,nO,kC func147 c3.out,kC func148 h4]),(8,[nO,kC func149 cp.out]),(9,[nO,nO,kC func150 c5.out])]) func84
theorem vl_cong2{f g:Nat→Nat}{k j:Nat}:∀{n:Nat},(∀ i,i<n→f (k+i)=g (j+i))→vl f k n=vl g j n
 | 0,_=>rfl
 | n+1,h=>by rw[vl,vl,vl_cong2 (n:=n) (fun i hi=>h i (by omega)),h n (by omega)]
theorem vl_dgW{x:Nat}(h:x<W):vl (dg x) 0 8=x:=zai (by rw[← W_D];exact h)
theorem rrest_any(hi lo m:Nat)(h1:hi<W)(h2:lo<W)(h3:m<W):RT 154 #[U hi,U lo,U m] (U (dr hi lo m)):=by
 intro w;have hr:rm (hi*W+lo) m<W:=rm_lt _ h3;have e0:dr hi lo m=rm (hi*W+lo) m:=rfl;rw[e0];refine rrest_raw hi lo m _ (dg hi) (dg lo) (dg m) (dg ((hi*W+lo)/m)) (dg (rm (hi*W+lo) m)) (zb1 hi) (zb1 lo) (zb1 m) (fun dd hdd w=>?_) (fun w=>?_) w
 ·have eX:vl dd 0 16=hi*W+lo:=by
   rw[show(16:Nat)=8+8 from rfl,zae,vl_cong2 (g:=dg lo) (j:=0) (fun i hi'=>by rw[Nat.zero_add];exact(hdd i hi').1),vl_cong2 (f:=dd) (k:=0+8) (g:=dg hi) (j:=0) (fun i hi'=>by rw[show 0+8+i=i+8 by omega,Nat.zero_add];exact(hdd i hi').2),vl_dgW h1,vl_dgW h2,← W_D,Nat.mul_comm W];omega
  have h:=long_any dd (dg m) (fun i hi'=>by
   rcases Nat.lt_or_ge i 8 with h|h
   ·rw[(hdd i h).1];exact za2 _ _
   ·have:=(hdd (i-8) (by omega)).2;rw[show i-8+8=i by omega]at this;rw[this];exact za2 _ _) (fun i _=>za2 _ _) w
  rw[eX,vl_dgW h3]at h;exact h
 ·have h:=zdj (dg (rm (hi*W+lo) m)) (fun i _=>za2 _ _) w;rw[vl_dgW hr]at h;exact h
theorem rdiv_any(a b:Nat)(h1:a<W)(h2:b<W):RT 84 #[U a,U b] (.tuple #[U (a/b),U (dr 0 a b)]):=by
 intro w;have hq:a/b<W:=Nat.lt_of_le_of_lt (Nat.div_le_self _ _) h1;have hr:rm a b<W:=rm_lt _ h2;have e0:dr 0 a b=rm a b:=by unfold dr rm;rw[Nat.zero_mul,Nat.zero_add]
 rw[e0];refine rdiv_raw a b (vl (dg (a/b)) 8 8) (a/b) _ (dg a) (dg b) (dg (a/b)) (dg (rm a b)) (zb1 a) (zb1 b) (fun dd hd1 hd2 w=>?_) (fun w=>?_) (fun w=>?_) w
 ·have eX:vl dd 0 16=a:=by
   rw[vl_cut (f:=dd) (a:=8) (b:=16) (by omega) (fun i hi _=>hd2 i hi),vl_cong2 (g:=dg a) (j:=0) (fun i hi'=>by rw[Nat.zero_add];exact hd1 i hi'),vl_dgW h1]
  have h:=long_any dd (dg b) (fun i hi'=>by
   rcases Nat.lt_or_ge i 8 with h|h
   ·rw[hd1 i h];exact za2 _ _
   ·rw[hd2 i h];exact vn) (fun i _=>za2 _ _) w
  rw[eX,vl_dgW h2]at h;exact h
 ·have h:=parts_any (dg (a/b)) (fun i _=>za2 _ _) w;rw[vl_dgW hq]at h;exact h
 ·have h:=zdj (dg (rm a b)) (fun i _=>za2 _ _) w;rw[vl_dgW hr]at h;exact h
end Go.Proofs.YtceedgdbhlpjlaaGreatDoor
