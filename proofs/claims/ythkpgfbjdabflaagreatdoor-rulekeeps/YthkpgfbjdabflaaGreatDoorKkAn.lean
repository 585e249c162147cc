/- Laid one behind the other: An, Tk, Pb, Sp, Jo. -/
import Derived.Test.YthkpgfbjdabflaaGreatDoorKkNv
import Derived.IntWalk
import Derived.WalkSmall
import Derived.Deep.Cut
import Derived.Deep.QuietTactic
import Derived.BigQuiet
namespace Go.Proofs.YthkpgfbjdabflaaGreatDoor
open Go.RowKit Tryz
set_option linter.unusedVariables false
set_option maxRecDepth 100000
set_option maxHeartbeats 4000000
theorem digit_mul{d g:Nat}(hd:d<D)(hg:g<D):d*g≤18446744065119617025:=
 Nat.le_trans (Nat.mul_le_mul (Nat.le_of_lt_succ hd) (Nat.le_of_lt_succ hg)) (by decide)
theorem num_mul{c d g:Nat}(hc:c<D)(hd:d<D)(hg:g<D) :
  IntKind.u64.wrap ((c:Int)+IntKind.u64.wrap ((d:Int)*IntKind.u64.wrap (g:Int)))=((c+d*g:Nat):Int)∧c+d*g<M∧(c+d*g)/D<D:=by
 have h:=digit_mul hd hg;have e:IntKind.u64.wrap (g:Int)=(g:Int):=by simp only[IntKind.wrap_u64];unfold D at *;omega
 rw[e,show(d:Int)*(g:Int)=((d*g:Nat):Int) by simp];generalize d*g=p at *;simp only[IntKind.wrap_u64];unfold D M at *;refine⟨by omega,by omega,by omega⟩
theorem num_and{x:Nat}(hx:x<M):bits .and .u64 (x:Int) 4294967295=((x%D:Nat):Int):=by
 have e:=zbp x 4294967295 hx (by decide);have e2:x &&& 4294967295=x%D:=Nat.and_two_pow_sub_one_eq_mod x 32;rw[e2]at e;exact e
theorem num_less{f c b:Nat}(hf:f<D)(hc:c<D)(hb:b≤1) :
  ∃ y:Nat,IntKind.u64.wrap (IntKind.u64.wrap (IntKind.u64.wrap (f:Int)-(c:Int))-(b:Int))=(y:Int)∧y%D+c+b=f+D*(y/9223372036854775808)∧y/9223372036854775808≤1:=by
 simp only[IntKind.wrap_u64];unfold D at *;rcases Nat.lt_or_ge f (c+b)with h|h
 ·exact⟨f+18446744073709551616-c-b,by omega,by omega,by omega⟩
 ·exact⟨f-c-b,by omega,by omega,by omega⟩
theorem zba(y:Nat):(y:Int)%4294967296=((y%D:Nat):Int):=by unfold D;omega
theorem cast_div(y:Nat):(y:Int)/4294967296=((y/D:Nat):Int):=by unfold D;omega
theorem cast_div63(y:Nat):(y:Int)/9223372036854775808=((y/9223372036854775808:Nat):Int):=by omega
theorem num_add3{c f g:Nat}(hc:c≤1)(hf:f<D)(hg:g<D) :
  IntKind.u64.wrap ((c:Int)+IntKind.u64.wrap (IntKind.u64.wrap (f:Int)+IntKind.u64.wrap (g:Int)))=((c+(f+g):Nat):Int)∧(c+(f+g))/D≤1:=by
 simp only[IntKind.wrap_u64];unfold D at *;refine⟨by omega,by omega⟩
theorem num_add2{c f:Nat}(hc:c≤1)(hf:f<D) :
  IntKind.u64.wrap ((c:Int)+IntKind.u64.wrap (f:Int))=((c+f:Nat):Int)∧(c+f)/D≤1:=by
 simp only[IntKind.wrap_u64];unfold D at *;refine⟨by omega,by omega⟩
abbrev L17 (f:Nat→Nat):Value:=.agg (ag .u32 17 f)
abbrev L8 (f:Nat→Nat):Value:=.agg (ag .u32 8 f)
abbrev z17:Array Value:=#[.int .u32 0,.int .u32 0,.int .u32 0,.int .u32 0,.int .u32 0,.int .u32 0,.int .u32 0,.int .u32 0,.int .u32 0,.int .u32 0,.int .u32 0,.int .u32 0,.int .u32 0,.int .u32 0,.int .u32 0,.int .u32 0,.int .u32 0]
structure TK (f f' g:Nat→Nat) (d k j c b:Nat):Prop where
 hc:c<D
 hb:b≤1
 hf:∀ i,i<17→f' i<D
 ho:∀ i,i<k∨k+j≤i→f' i=f i
 hv:vl f' k j+d*vl g 0 j=vl f k j+(c+b)*D^j
theorem TK.start{f g:Nat→Nat}{d k:Nat}(hf:∀ i,i<17→f i<D):TK f f g d k 0 0 0:=
 ⟨zat,Nat.zero_le _,hf,fun _ _=>rfl,by simp[vl]⟩
theorem TK.step{f f' g:Nat→Nat}{d k j c b x b':Nat}(h:TK f f' g d k j c b)(hx:x<D)(hb':b'≤1)(hc':(c+d*g j)/D<D)(e:x+(c+d*g j)%D+b=f' (k+j)+D*b'):TK f (upd f' (k+j) x) g d k (j+1) ((c+d*g j)/D) b' where
 hc:=hc'
 hb:=hb'
 hf:=upd_lt h.hf hx
 ho i hi:=by rw[yq _ _ _ (by omega)];exact h.ho i (by omega)
 hv:=take_step h.hv (by rw[e,h.ho (k+j) (by omega)])
structure TO (f f' g:Nat→Nat) (d k n t:Nat):Prop where
 hf:∀ i,i<17→f' i<D
 ho:∀ i,i<k∨k+n<i→f' i=f i
 hv:vl f' k (n+1)+d*vl g 0 n=vl f k (n+1)+t*D^(n+1)
theorem TK.stop{f f' g:Nat→Nat}{d k n c b x t:Nat}(h:TK f f' g d k n c b)(hx:x<D)(e:x+c+b=f' (k+n)+D*t):TO f (upd f' (k+n) x) g d k n t where
 hf:=upd_lt h.hf hx
 ho i hi:=by rw[yq _ _ _ (by omega)];exact h.ho i (by omega)
 hv:=take_end h.hv (by rw[← h.ho (k+n) (by omega)];omega)
theorem take_raw(f g:Nat→Nat)(d k n:Nat)(hn:n≤8)(hk:k+n<17)(hd:d<D)(hf:∀ i,i<17→f i<D)(hg:∀ i,i<8→g i<D)(w:World) :
  Calls prog 316 #[L17 f,L8 g,B d,.int .i64 (k:Int),.int .i64 (n:Int)] w fun e w'=>
   (∃ f' t,e=.returned (.tuple #[L17 f',.bool (decide (t=0))])∧t≤1∧TO f f' g d k n t)∧Below w.heap.size w w':=by
 have S:Hid (TK f f g d k 0 0 0):=TK.start hf;have G:Hid (d<D∧∀ i,i<8→g i<D):=⟨hd,hg⟩
 clear hf hd hg
 go_enter func316,ntmps316
 go_wp2
 go_loopw [12,13,18] (fun c b i w'=>∃(j cn bn:Nat) (f':Nat→Nat),j≤n∧i=.int .i64 (j:Int)∧c=B cn∧b=B bn∧w'=(((w.alloc (Obj.cells (ag IntKind.u32 17 f') 253)).alloc (Obj.cells (ag IntKind.u32 8 g) 246)).alloc
   (Obj.cells z17 253))∧TK f f' g d k j cn bn) (fun _ _ i _=>n-(intOf i).toNat)
 case atStart=>
  exact⟨0,0,0,f,Nat.zero_le _,rfl,rfl,rfl,rfl,S.out⟩
 case round=>
  obtain⟨j,cn,bn,f',hj,rfl,rfl,rfl,rfl,hT⟩:=hrel;have HT:Hid _:=hT;clear hT;by_cases hlt:j<n
  ·have hc1:(ag .u32 17 f')[k+j]? = some (.int .u32 (f' (k+j):Nat)):=by rw[yd,if_pos (by omega)]
   have hc2:(ag .u32 8 g)[j]? = some (.int .u32 (g j:Nat)):=by rw[yd,if_pos (by omega)]
   go_wp2
   go_roundw
   case rel=>
    have T:=HT.out;obtain⟨gd,gg⟩:=G.out;obtain⟨e1,e2,e3⟩:=num_mul T.hc gd (gg j (by omega));obtain⟨y,e4,e5,e6⟩:=num_less (T.hf (k+j) (by omega)) (Nat.mod_lt (cn+d*g j) zat) T.hb;refine⟨j+1,(cn+d*g j)/D,y/9223372036854775808,upd f' (k+j) (y%D),by omega,by go_num,?_,?_,?_,T.step (Nat.mod_lt _ zat) e6 e3 e5⟩
    ·rw[e1,cast_div]
    ·rw[e1,num_and e2,e4,cast_div63]
    ·rw[e1,num_and e2,e4,zba,xr]
   case measure=>simp[intOf];omega
  ·have hjn:j=n:=by omega
   subst hjn;have hc1:(ag .u32 17 f')[k+j]? = some (.int .u32 (f' (k+j):Nat)):=by rw[yd,if_pos (by omega)]
   go_upto_region 13 with fail
   have T:=HT.out;obtain⟨y,e4,e5,e6⟩:=num_less (T.hf (k+j) (by omega)) T.hc T.hb;rw[e4,zba,xr];have F:Hid (TO f (upd f' (k+j) (y%D)) g d k j (y/9223372036854775808)):=T.stop (Nat.mod_lt _ zat) e5;have E6:Hid (y/9223372036854775808≤1):=e6;clear e4 e5 e6 T HT hc1 S;generalize upd f' (k+j) (y%D)=h at *;refine wp_region_lit ?_;refine y6 rfl 253 (.tmp 5) rfl w.heap.size rfl .u32 17 h (zb.old (zb.old (zb.last rfl))) underlying253 (by kernel_rfl) ?_;intro v hv;have HV:Hid _:=hv;have hsz:=hv.size
   have hsc:=zu (P:=prog) hv (g:=w.heap.size+1+1) 253 (by kernel_rfl) (yg.last (w:=(w.alloc (Obj.cells (ag IntKind.u32 17 h) 253)).alloc (Obj.cells (ag IntKind.u32 8 g) 246)) (c:=z17) (t:=253) (by simp) (by rfl));clear hv
   go_wp2
   have hld:=zdn (P:=prog) (k:=.u32) (f:=h) 253 underlying253 (by kernel_rfl) (zb.last (w:=(w.alloc (Obj.cells (ag IntKind.u32 17 h) 253)).alloc (Obj.cells (ag IntKind.u32 8 g) 246)) (t:=253) (n:=w.heap.size+1+1) (by simp));refine bodyPost_ret (v:=.tuple #[L17 h,.bool (decide (y/9223372036854775808=0))]) ?_ rfl ⟨⟨h,_,rfl,E6.out,F.out⟩,?_⟩
   ·rw[results_cell_tmp rfl];simp[asAddr,Result.andThen,hld];rw[Bool.eq_iff_iff];simp;omega
   ·(repeat(first|exact Below.refl _ _|apply Below.drew|refine zj ?_ _))
section
attribute [local go_sem] yy
structure PK (f f' g:Nat→Nat) (k j c:Nat):Prop where
 hc:c≤1
 hf:∀ i,i<17→f' i<D
 ho:∀ i,i<k∨k+j≤i→f' i=f i
 hv:vl f' k j+c*D^j=vl f k j+vl g 0 j
theorem PK.start{f g:Nat→Nat}{k:Nat}(hf:∀ i,i<17→f i<D):PK f f g k 0 0:=
 ⟨Nat.zero_le _,hf,fun _ _=>rfl,by simp[vl]⟩
theorem PK.step{f f' g:Nat→Nat}{k j c:Nat}(h:PK f f' g k j c)(hc':(c+(f' (k+j)+g j))/D≤1) :
  PK f (upd f' (k+j) ((c+(f' (k+j)+g j))%D)) g k (j+1) ((c+(f' (k+j)+g j))/D) where
 hc:=hc'
 hf:=upd_lt h.hf (Nat.mod_lt _ zat)
 ho i hi:=by rw[yq _ _ _ (by omega)];exact h.ho i (by omega)
 hv:=by have:=put_step h.hv;rw[h.ho (k+j) (by omega)];exact this
structure PbO (f f' g:Nat→Nat) (k n t:Nat):Prop where
 hf:∀ i,i<17→f' i<D
 ho:∀ i,i<k∨k+n<i→f' i=f i
 hv:vl f' k (n+1)+t*D^(n+1)=vl f k (n+1)+vl g 0 n
theorem PK.stop{f f' g:Nat→Nat}{k n c:Nat}(h:PK f f' g k n c):PbO f (upd f' (k+n) ((c+f' (k+n))%D)) g k n ((c+f' (k+n))/D) where
 hf:=upd_lt h.hf (Nat.mod_lt _ zat)
 ho i hi:=by rw[yq _ _ _ (by omega)];exact h.ho i (by omega)
 hv:=by have:=put_end h.hv;rw[h.ho (k+n) (by omega)];exact this
theorem put_raw(f g:Nat→Nat)(k n:Nat)(hn:n≤8)(hk:k+n<17)(hf:∀ i,i<17→f i<D)(hg:∀ i,i<8→g i<D)(w:World) :
  Calls prog 317 #[L17 f,L8 g,.int .i64 (k:Int),.int .i64 (n:Int)] w fun e w'=>
   (∃ f' t,e=.returned (.tuple #[L17 f',.bool (decide (t≠0))])∧t≤1∧PbO f f' g k n t)∧Below w.heap.size w w':=by
 have S:Hid (PK f f g k 0 0):=PK.start hf;have G:Hid (∀ i,i<8→g i<D):=hg;clear hf hg
 go_enter func317,ntmps317
 go_wp2
 go_loopw [10,13] (fun c i w'=>∃(j cn nq:Nat) (f':Nat→Nat),j≤n∧i=.int .i64 (j:Int)∧c=B cn∧w'=(((w.alloc (Obj.cells (ag IntKind.u32 17 f') 253)).alloc (Obj.cells (ag IntKind.u32 8 g) 246)).alloc
   (Obj.cells z17 253)).drewN nq∧PK f f' g k j cn) (fun _ i _=>n-(intOf i).toNat)
 case atStart=>
  exact⟨0,0,0,f,Nat.zero_le _,rfl,rfl,rfl,S.out⟩
 case round=>
  obtain⟨j,cn,nq,f',hj,rfl,rfl,rfl,hT⟩:=hrel;have HT:Hid _:=hT;clear hT;by_cases hlt:j<n
  ·have hc1:(ag .u32 17 f')[k+j]? = some (.int .u32 (f' (k+j):Nat)):=by rw[yd,if_pos (by omega)]
   have hc2:(ag .u32 8 g)[j]? = some (.int .u32 (g j:Nat)):=by rw[yd,if_pos (by omega)]
   go_wp2
   go_region
   go_wp2
   go_roundw
   case rel=>
    have T:=HT.out;obtain⟨e1,e2⟩:=num_add3 T.hc (T.hf (k+j) (by omega)) (G.out j (by omega));refine⟨j+1,_,nq+1,_,by omega,by go_num,?_,?_,T.step e2⟩
    ·rw[e1,cast_div]
    ·rw[e1,zba,xr];try rfl
   case measure=>simp[intOf];omega
  ·have hjn:j=n:=by omega
   subst hjn;have hc1:(ag .u32 17 f')[k+j]? = some (.int .u32 (f' (k+j):Nat)):=by rw[yd,if_pos (by omega)]
   go_upto_region 11 with fail
   have T:=HT.out;obtain⟨e4,e6⟩:=num_add2 T.hc (T.hf (k+j) (by omega));rw[e4,zba,xr];have F:Hid _:=T.stop;have E6:Hid _:=e6;clear e4 e6 T HT hc1 S;generalize upd f' (k+j) ((cn+f' (k+j))%D)=h at *;generalize cn+f' (k+j)=y at *;refine wp_region_lit ?_;refine y6 rfl 253 (.tmp 4) rfl w.heap.size rfl .u32 17 h (zb.drewN (zb.old (zb.old (zb.last rfl))) nq) underlying253 (by kernel_rfl) ?_;intro v hv;have hsz:=hv.size
   have hsc:=zu (P:=prog) hv (g:=w.heap.size+1+1) 253 (by kernel_rfl) (yg.drewN (yg.last (w:=(w.alloc (Obj.cells (ag IntKind.u32 17 h) 253)).alloc (Obj.cells (ag IntKind.u32 8 g) 246)) (c:=z17) (t:=253) (by simp) (by rfl)) nq);clear hv
   go_wp2
   have hld:=zdn (P:=prog) (k:=.u32) (f:=h) 253 underlying253 (by kernel_rfl) (zb.drewN (zb.last (w:=(w.alloc (Obj.cells (ag IntKind.u32 17 h) 253)).alloc (Obj.cells (ag IntKind.u32 8 g) 246)) (t:=253) (n:=w.heap.size+1+1) (by simp)) nq);refine bodyPost_ret (v:=.tuple #[L17 h,.bool (decide (y/D≠0))]) ?_ rfl ⟨⟨h,_,rfl,E6.out,F.out⟩,?_⟩
   ·rw[results_cell_tmp rfl];simp only[asAddr,Result.andThen];simp[hld,cast_div]
    try (rw[Bool.eq_iff_iff];simp;unfold D;omega)
   ·(repeat(first|exact Below.refl _ _|apply Below.drew|apply zb7|refine zj ?_ _))
end
section
attribute [local go_sem] yy
theorem split_raw(a0 a1 a2 a3:Nat)(w:World) :
  Calls prog 312 #[U4 a0 a1 a2 a3] w fun e w'=>
   e=.returned (.agg #[.int .u32 ((a0:Nat)%4294967296:Int),.int .u32 ((a0:Nat)/4294967296%4294967296:Int),.int .u32 ((a1:Nat)%4294967296:Int),.int .u32 ((a1:Nat)/4294967296%4294967296:Int),.int .u32 ((a2:Nat)%4294967296:Int),.int .u32 ((a2:Nat)/4294967296%4294967296:Int),.int .u32 ((a3:Nat)%4294967296:Int),.int .u32 ((a3:Nat)/4294967296%4294967296:Int)])∧Below w.heap.size w w':=by
 go_enter func312,ntmps312
 go_wp2
 refine wp_loop_rounds 9 ?_
 iterate 8(rw[rounds_succ];go_wp2)
 rw[rounds_succ];go_wp2;refine bodyPost_ret (v:=.agg #[.int .u32 ((a0:Nat)%4294967296:Int),.int .u32 ((a0:Nat)/4294967296%4294967296:Int),.int .u32 ((a1:Nat)%4294967296:Int),.int .u32 ((a1:Nat)/4294967296%4294967296:Int),.int .u32 ((a2:Nat)%4294967296:Int),.int .u32 ((a2:Nat)/4294967296%4294967296:Int),.int .u32 ((a3:Nat)%4294967296:Int),.int .u32 ((a3:Nat)/4294967296%4294967296:Int)]) (by simp[results,results312,go_sem]) rfl ⟨rfl,?_⟩
 (repeat(first|exact Below.refl _ _|apply Below.drew|refine zj ?_ _))
theorem dg_parts(n:Nat):((l0 n:Nat)%4294967296:Int)=(dg n 0:Nat)∧((l0 n:Nat)/4294967296%4294967296:Int)=(dg n 1:Nat)∧((l1 n:Nat)%4294967296:Int)=(dg n 2:Nat)∧((l1 n:Nat)/4294967296%4294967296:Int)=(dg n 3:Nat)
  ∧ ((l2 n:Nat)%4294967296:Int)=(dg n 4:Nat)∧((l2 n:Nat)/4294967296%4294967296:Int)=(dg n 5:Nat)∧((l3 n:Nat)%4294967296:Int)=(dg n 6:Nat)∧((l3 n:Nat)/4294967296%4294967296:Int)=(dg n 7:Nat):=by
 unfold dg;simp only[show D^0=1 from rfl,show D^1=4294967296 from rfl,show D^2=18446744073709551616 from rfl,show D^3=79228162514264337593543950336 by decide +kernel,show D^4=340282366920938463463374607431768211456 by decide +kernel,show D^5=1461501637330902918203684832716283019655932542976 by decide +kernel,show D^6=6277101735386680763835789423207666416102355444464034512896 by decide +kernel,show D^7=26959946667150639794667015087019630673637144422540572481103610249216 by decide +kernel];unfold l0 l1 l2 l3 M D;refine⟨?_,?_,?_,?_,?_,?_,?_,?_⟩<;>omega
theorem za5(n:Nat):RT 312 #[U n] (L8 (dg n)):=by
 intro w;have h:=split_raw (l0 n) (l1 n) (l2 n) (l3 n) w;obtain⟨e0,e1,e2,e3,e4,e5,e6,e7⟩:=dg_parts n;rw[e0,e1,e2,e3,e4,e5,e6,e7]at h;exact h
end
section
attribute [local go_sem] yy
theorem join_raw(b k c:Nat)(f0 f1 f2 f3 f4 f5 f6 f7:Nat)(w:World)(hb:b<w.heap.size)(h1:w.cell? ⟨b,k+1,none⟩=some (.int .u32 (f1:Nat)))(h2:w.cell? ⟨b,k+2,none⟩=some (.int .u32 (f2:Nat)))(h3:w.cell? ⟨b,k+3,none⟩=some (.int .u32 (f3:Nat)))(h4:w.cell? ⟨b,k+4,none⟩=some (.int .u32 (f4:Nat)))(h5:w.cell? ⟨b,k+5,none⟩=some (.int .u32 (f5:Nat)))(h6:w.cell? ⟨b,k+6,none⟩=some (.int .u32 (f6:Nat)))(h7:w.cell? ⟨b,k+7,none⟩=some (.int .u32 (f7:Nat)))(h0:w.cell? ⟨b,k,none⟩=some (.int .u32 (f0:Nat))) :
  Calls prog 313 #[.slice (some ⟨b,k,none⟩) 8 c] w fun e w'=>
   e=.returned (I4 (bits .or .u64 (bits .or .u64 0 (IntKind.u64.wrap (IntKind.u64.wrap ((f0:Nat):Int)))) (IntKind.u64.wrap (IntKind.u64.wrap ((f1:Nat):Int)*4294967296))) (bits .or .u64 (bits .or .u64 0 (IntKind.u64.wrap (IntKind.u64.wrap ((f2:Nat):Int)))) (IntKind.u64.wrap (IntKind.u64.wrap ((f3:Nat):Int)*4294967296))) (bits .or .u64 (bits .or .u64 0 (IntKind.u64.wrap (IntKind.u64.wrap ((f4:Nat):Int)))) (IntKind.u64.wrap (IntKind.u64.wrap ((f5:Nat):Int)*4294967296))) (bits .or .u64 (bits .or .u64 0 (IntKind.u64.wrap (IntKind.u64.wrap ((f6:Nat):Int)))) (IntKind.u64.wrap (IntKind.u64.wrap ((f7:Nat):Int)*4294967296))))∧Below w.heap.size w w':=by
 go_enter func313,ntmps313
 go_wp2
 refine wp_loop_rounds 9 ?_
 iterate 8(rw[rounds_succ];go_wp2;go_region;go_wp2)
 rw[rounds_succ];go_wp2
 refine bodyPost_ret (v:=(I4 (bits .or .u64 (bits .or .u64 0 (IntKind.u64.wrap (IntKind.u64.wrap ((f0:Nat):Int)))) (IntKind.u64.wrap (IntKind.u64.wrap ((f1:Nat):Int)*4294967296))) (bits .or .u64 (bits .or .u64 0 (IntKind.u64.wrap (IntKind.u64.wrap ((f2:Nat):Int)))) (IntKind.u64.wrap (IntKind.u64.wrap ((f3:Nat):Int)*4294967296))) (bits .or .u64 (bits .or .u64 0 (IntKind.u64.wrap (IntKind.u64.wrap ((f4:Nat):Int)))) (IntKind.u64.wrap (IntKind.u64.wrap ((f5:Nat):Int)*4294967296))) (bits .or .u64 (bits .or .u64 0 (IntKind.u64.wrap (IntKind.u64.wrap ((f6:Nat):Int)))) (IntKind.u64.wrap (IntKind.u64.wrap ((f7:Nat):Int)*4294967296))))) (by simp[results,results313,go_sem]) rfl ⟨rfl,?_⟩
 (repeat(first|exact Below.refl _ _|apply Below.drew|refine zj ?_ _))
theorem zen{x y:Nat}(hx:x<D)(hy:y<D):bits .or .u64 (bits .or .u64 0 (IntKind.u64.wrap (IntKind.u64.wrap (x:Int)))) (IntKind.u64.wrap (IntKind.u64.wrap (y:Int)*4294967296))=((x+y*D:Nat):Int)∧x+y*D<M:=by
 have e1:IntKind.u64.wrap (IntKind.u64.wrap (x:Int))=((x:Nat):Int):=by simp only[IntKind.wrap_u64];unfold D at *;omega
 have e2:IntKind.u64.wrap (IntKind.u64.wrap (y:Int)*4294967296)=((y*D:Nat):Int):=by simp only[IntKind.wrap_u64];unfold D at *;omega
 have hM:y*D<M:=by unfold D M at *;omega
 have hx':x<M:=by unfold D M at *;omega
 have e3:=ke 0 x (by decide) hx';rw[Nat.zero_or]at e3;have e4:bits .or .u64 (0:Int) (x:Int)=(x:Int):=e3;rw[e1,e2,e4,ke x (y*D) hx' hM];have e:x ||| y*D=x+y*D:=by
  rw[Nat.or_comm,Nat.mul_comm,show D=2^32 from rfl,← Nat.two_pow_add_eq_or_of_lt (show x<2^32 from hx),Nat.add_comm]
 rw[e];exact⟨rfl,by unfold D M at *;omega⟩
theorem vl_mk(f:Nat→Nat):vl f 0 8=mk (f 0+f 1*D) (f 2+f 3*D) (f 4+f 5*D) (f 6+f 7*D):=by
 simp only[vl,mk,Nat.zero_add];rw[← DD];simp only[show D^0=1 from rfl]
 grind
theorem join_any(b k c:Nat)(f:Nat→Nat)(hf:∀ i,i<8→f i<D)(w:World)(hb:b<w.heap.size)(hc:∀ i,i<8→w.cell? ⟨b,k+i,none⟩=some (.int .u32 (f i:Nat))) :
  Calls prog 313 #[.slice (some ⟨b,k,none⟩) 8 c] w fun e w'=>e=.returned (U (vl f 0 8))∧Below w.heap.size w w':=by
 have h:=join_raw b k c (f 0) (f 1) (f 2) (f 3) (f 4) (f 5) (f 6) (f 7) w hb (hc 1 (by decide)) (hc 2 (by decide)) (hc 3 (by decide)) (hc 4 (by decide)) (hc 5 (by decide)) (hc 6 (by decide)) (hc 7 (by decide)) (hc 0 (by decide));obtain⟨a0,b0⟩:=zen (hf 0 (by decide)) (hf 1 (by decide));obtain⟨a1,b1⟩:=zen (hf 2 (by decide)) (hf 3 (by decide));obtain⟨a2,b2⟩:=zen (hf 4 (by decide)) (hf 5 (by decide));obtain⟨a3,b3⟩:=zen (hf 6 (by decide)) (hf 7 (by decide));rw[a0,a1,a2,a3]at h;have e:U (vl f 0 8)=U4 (f 0+f 1*D) (f 2+f 3*D) (f 4+f 5*D) (f 6+f 7*D):=by
  unfold U;rw[vl_mk,l0_mk _ _ _ _ b0,l1_mk _ _ _ _ b0 b1,l2_mk _ _ _ _ b0 b1 b2,l3_mk _ _ _ _ b0 b1 b2 b3]
 rw[e];exact h
end
end Go.Proofs.YthkpgfbjdabflaaGreatDoor
