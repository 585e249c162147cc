/- Laid one behind the other: Hk, Hf, Hi, Hj. -/
import Derived.Test.YthkpgfbjdabflaaGreatDoorKkHt
import Derived.ChangeKeysEq
import Derived.Lib.BufferWrite
import Derived.RangeFuncNested
import Derived.RangeFuncBound
import Derived.RangeFuncCalls
import Derived.RangeFuncLeaves
import Derived.Shelf.Abstract
import Derived.Shelf.RegionOpen
import Derived.OwnWalkIn
import Derived.TacticsInMore
import Derived.LoopNIn
import Derived.LoopIn
import Derived.Sort.CutIn
namespace Go.Proofs.YthkpgfbjdabflaaGreatDoor
open Go.RowKit Tryz
set_option linter.unusedVariables false
set_option maxRecDepth 100000
set_option maxHeartbeats 4000000
abbrev B136 (g:Nat→Nat):Value:=.agg (ag .u8 136 g)
theorem run_idx136{c:Array Value}{g:Nat→Nat}(hc:IsRow c .u8 136 g)(j:Nat)(hj:j<136)(w:World):(Instr.index 230 (.agg c) (.int .i64 (j:Int))).run prog w=.ok (.int .u8 (g j:Nat)) w:=by
 rw[hc.eq];have h1:(ag .u8 136 g)[j]? = some (.int .u8 (g j:Nat)):=by rw[yd,if_pos hj]
 have h2:(ag .u8 136 g).size=136:=yj _ _ _;simp[Instr.index,asIntOf,run_underlying underlying230,h2,hj,part,isAgg,run_underlying underlying5,go_sem];exact(Array.getElem?_eq_some_iff.1 h1).2
def htk (f g:Nat→Nat):Nat→Nat→Nat
 | 0=>f
 | j+1=>upd (htk f g j) (j/8) (htk f g j (j/8) ^^^ g j*2^(j%8*8))
theorem byte_shl{x s:Nat}(hx:x<256)(hs:s<8):x*2^(s*8)<M:=by
 have h8:s=0∨s=1∨s=2∨s=3∨s=4∨s=5∨s=6∨s=7:=by omega
 unfold M;rcases h8 with rfl|rfl|rfl|rfl|rfl|rfl|rfl|rfl<;>omega
theorem take_int(a x s:Nat)(ha:a<M)(hx:x<256)(hs:s<8):bits .xor .u64 (a:Int) (IntKind.u64.wrap ((x:Int)*2^(s*8)))=((a ^^^ x*2^(s*8):Nat):Int):=by
 have hb:=byte_shl hx hs;have e:IntKind.u64.wrap ((x:Int)*2^(s*8))=((x*2^(s*8):Nat):Int):=by
  rw[show(x:Int)*2^(s*8)=((x*2^(s*8):Nat):Int) by simp];generalize x*2^(s*8)=y at *;simp only[IntKind.wrap_u64];unfold M at hb;omega
 rw[e,qc _ _ ha hb]
theorem tk_lt{f g:Nat→Nat}(hf:P25 f)(hg:∀ i,i<136→g i<256):∀ j,j≤136→P25 (htk f g j)
 | 0,_=>hf
 | j+1,hj=>fun i hi=>by
  have ih:=tk_lt hf hg j (by omega);unfold htk;rw[km];split
  ·exact vz (ih _ (by omega)) (byte_shl (hg j (by omega)) (Nat.mod_lt _ (by decide)))
  ·exact ih i hi
theorem taken_any(f g:Nat→Nat)(hf:P25 f)(hg:∀ i,i<136→g i<256):RT 303 #[A25 f,B136 g] (A25 (htk f g 136)):=by
 intro w;obtain⟨h',hh⟩:∃ q,q=htk f g 136:=⟨_,rfl⟩
 rw[← hh];have HH:Hid _:=hh;clear hh;have G:Hid (P25 f∧∀ i,i<136→g i<256):=⟨hf,hg⟩
 clear hf hg
 go_enter func303,ntmps303
 go_upto_region 1 with fail
 refine xz _ ?_;intro w0 hw0;have K1:Hid (zb w0 w.heap.size (ag .u64 25 f)∧zb w0 (w.heap.size+1) (ag .u8 136 g)∧zb w0 (w.heap.size+1+1) z25∧Below w.heap.size w w0):=by
  show _∧_;rw[hw0];exact⟨zb.old (zb.old (zb.last rfl)),zb.old (zb.last (by simp)),zb.last (by simp),by repeat(first|exact Below.refl _ _|refine zj ?_ _)⟩
 clear hw0;refine wp_region_lit ?_;refine y6 rfl 230 (.tmp 3) rfl (w.heap.size+1) rfl .u8 136 g K1.out.2.1 underlying230 (by kernel_rfl) ?_;intro c hc;have HC:Hid _:=hc;clear hc
 go_wp2
 go_loopw [8] (fun i w'=>∃(j:Nat) (h:Nat→Nat),j≤136∧i=.int .i64 (j:Int)∧zb w' w.heap.size (ag .u64 25 h)∧zb w' (w.heap.size+1+1) z25∧Below w.heap.size w w'∧h=htk f g j) (fun i _=>136-(intOf i).toNat)
 case atStart=>
  exact⟨0,f,Nat.zero_le _,rfl,K1.out.1,K1.out.2.2.1,K1.out.2.2.2,rfl⟩
 case round=>
  clear K1;obtain⟨j,h,hj,rfl,r1,r2,bel,hT⟩:=hrel;have R1:Hid (zb wr w.heap.size (ag .u64 25 h)):=r1;have R2:Hid (zb wr (w.heap.size+1+1) z25):=r2;have BL:Hid (Below w.heap.size w wr):=bel;have HT:Hid (h=htk f g j):=hT;clear hT r1 r2 bel;by_cases hlt:j<136
  ·have HJ:Hid (j<136):=hlt;have hd0:(j:Int)<136:=by omega
   have hx:=fun w=>run_idx136 HC.out j hlt w
   have g256:=G.out.2 j hlt;have i1:((g j:Nat):Int)<256:=by omega
   have i2:(j:Int)/8<25:=by omega
   have d1:=cell_regrown (zb.at R1.out (show j/8<25 by omega));have E:Hid _:=take_int (h (j/8)) (g j) (j%8) (by have:=tk_lt G.out.1 G.out.2 j (by omega) (j/8) (by omega);rw[HT.out];exact this) g256 (Nat.mod_lt _ (by decide));clear hlt hj g256
   go_upto_region 4 with fail
   refine qh (by kernel_rfl) (by kernel_rfl) (by simp) ?_;simp only[List.dropLast]
   repeat(go_big_quiet_step (fail))
   refine wpQuiet_nil ?_;intro w5 hw';have hb:Below wr.heap.size wr w5:=by obtain⟨p,rfl⟩:=hw';exact below_regrown _ _ _
   clear hw' d1;have q1:=zb.at (R1.out.below hb) (show j/8<25 by omega);have q2:=zb.frozen (R1.out.below hb) (j/8);have HB:Hid _:=hb;clear hb;refine zbm rfl rfl ?_
   go_simp
   rw[E.out]
   go_wp2
   go_roundw
   case rel=>
    have hb:=HB.out;refine⟨j+1,_,HJ.out,by go_num,?_,?_,?_,rfl⟩
    ·rw[zb.setCell (R1.out.below hb),xr,HT.out];exact(R1.out.below hb).set_same _
    ·rw[zb.setCell (R1.out.below hb)];exact(R2.out.below hb).set_other _ (by omega)
    ·rw[zb.setCell (R1.out.below hb)];exact zf (BL.out.trans (hb.mono BL.out.size)) (Nat.le_refl _) _
   case measure=>simp[intOf];have:=HJ.out;omega
  ·have hjn:j=136:=by omega
   subst hjn;have R4:Hid (zb wr w.heap.size (ag .u64 25 h')):=by have:=R1.out;rw[HT.out,← HH.out]at this;exact this
   clear HT R1 hlt hj
   go_upto_region 6 with fail
   refine wp_region_lit ?_;refine y6 rfl 203 (.tmp 2) rfl w.heap.size rfl .u64 25 h' R4.out underlying203 (by kernel_rfl) ?_;intro v hv;have hsz:=hv.size;have hsc:=zu (P:=prog) hv (g:=w.heap.size+1+1) 203 (by kernel_rfl) (yg.row R2.out (by rfl));clear hv
   go_wp2
   exact bodyPost_ret (v:=A25 h') (yr (p:=4) (ty:=203) rfl (g:=w.heap.size+1+1) rfl (zb.set_same R2.out (ag .u64 25 h')) (yj _ _ _) underlying203 (by kernel_rfl)) rfl ⟨rfl,zf BL.out (by omega) _⟩
def tb (f:Nat→Nat) (i:Nat):Nat:=f (i/8)/2^(i%8*8)%256
def told (f:Nat→Nat):ByteArray:=strOfNums ((List.range 32).map fun i=>((tb f i:Nat):Int))
theorem hconv32{w:World}{b:Nat}{q:Nat→Nat}(h:zb w b (ag .u8 32 q)):(convert 53 9 (.slice (some ⟨b,0,none⟩) 32 32)).run prog w=.ok (.string (strOfNums ((List.range 32).map fun i=>((q i:Nat):Int)))) w:=by
 refine run_convert_bytes_arg _ 53 5 underlying53 underlying5 _ 0 32 32 _ (by simp) (fun i hi=>?_) 9 underlying9;rw[Nat.zero_add,h.at hi];simp[hi]
structure TD (f h:Nat→Nat) (j:Nat):Prop where
 hv:∀ i,i<32→h i=if i<j then tb f i else 0
theorem TD.step{f h:Nat→Nat}{j:Nat}(s:TD f h j):TD f (upd h j (tb f j)) (j+1) where
 hv i hi:=by
  rw[km];by_cases e:i=j
  ·rw[if_pos e,if_pos (by omega),e]
  ·rw[if_neg e,s.hv i hi];by_cases hl:i<j
   ·rw[if_pos hl,if_pos (by omega)]
   ·rw[if_neg hl,if_neg (by omega)]
theorem told_any(f:Nat→Nat):RT 304 #[A25 f] (.string (told f)):=by
 intro w;obtain⟨sr,hh⟩:∃ q,q=told f:=⟨_,rfl⟩
 rw[← hh];have HH:Hid _:=hh;clear hh;have S:Hid (TD f (fun _=>0) 0):=⟨fun i _=>by simp⟩
 go_enter func304,ntmps304
 go_wp2
 go_loopw [5] (fun i w'=>∃(j:Nat) (h:Nat→Nat),j≤32∧i=.int .i64 (j:Int)∧zb w' w.heap.size (ag .u64 25 f)∧zb w' (w.heap.size+1) (ag .u8 32 h)∧Below w.heap.size w w'∧TD f h j) (fun i _=>32-(intOf i).toNat)
 case atStart=>
  exact⟨0,fun _=>0,Nat.zero_le _,rfl,zb.old (zb.last rfl),zb.last (by simp),by repeat(first | exact Below.refl _ _ | refine zj ?_ _),S.out⟩
 case round=>
  clear S;obtain⟨j,h,hj,rfl,r1,r2,bel,hT⟩:=hrel;have R1:Hid (zb wr w.heap.size (ag .u64 25 f)):=r1;have R2:Hid (zb wr (w.heap.size+1) (ag .u8 32 h)):=r2;have BL:Hid (Below w.heap.size w wr):=bel;have HT:Hid (TD f h j):=hT;clear hT r1 r2 bel;by_cases hlt:j<32
  ·have HJ:Hid (j<32):=hlt;have hd0:(j:Int)<32:=by omega
   have i2:(j:Int)/8<25:=by omega
   have d1:=zb.at R1.out (show j/8<25 by omega);have q1:=zb.at R2.out hlt;have q2:=zb.frozen R2.out j;clear hlt hj
   go_wp2
   go_roundw
   case rel=>
    refine⟨j+1,_,HJ.out,by go_num,?_,?_,?_,HT.out.step⟩
    ·rw[zb.setCell R2.out];exact R1.out.set_other _ (by omega)
    ·rw[zb.setCell R2.out];have ez:=xr .u8 32 h j (tb f j);rw[← ez];have e:((f (j/8):Nat):Int)/2^(j%8*8)%256=((tb f j:Nat):Int):=by unfold tb;simp
     rw[e];exact R2.out.set_same _
    ·rw[zb.setCell R2.out];exact zf BL.out (by omega) _
   case measure=>simp[intOf];have:=HJ.out;omega
  ·have hjn:j=32:=by omega
   subst hjn;have e:ag .u8 32 h=ag .u8 32 (tb f):=zbb _ _ fun i hi=>by rw[HT.out.hv i hi,if_pos hi]
   have R3:Hid (zb wr (w.heap.size+1) (ag .u8 32 (tb f))):=by have:=R2.out;rw[e]at this;exact this
   have hcv:=hconv32 R3.out;rw[show strOfNums ((List.range 32).map fun i=>((tb f i:Nat):Int))=sr from HH.out.symm]at hcv;clear e HT R2 hlt hj R3 R1
   go_wp2
   go_ret
   exact⟨rfl,BL.out⟩
section
open Go.RowKit Go.Lib
theorem zero31(w:World):(zeroValue 230).run prog w=.ok (B136 (fun _=>0)) w:=by kernel_rfl
def bt (s:ByteArray) (i:Nat):Nat:=(s.data.toList.getD i 0).toNat
theorem bt_lt(s:ByteArray)(i:Nat):bt s i<256:=UInt8.toNat_lt _
def ov (s:ByteArray) (q:Nat→Nat) (i:Nat):Nat:=if i<s.size then bt s i else q i
theorem copy_row(w:World)(g n ty:Nat)(q:Nat→Nat)(s:ByteArray)(h:zb w g (ag .u8 n q)) :
  (Builtin.copy_ #[53,9] ty #[.slice (some ⟨g,0,none⟩) n n,.string s]).run prog w=.ok (.int .i64 (Nat.min s.size n:Nat)) (w.setRow g (ag .u8 n (ov s q))):=by
 obtain⟨t,hg⟩:=h;have hsz:s.data.toList.length=s.size:=(Go.Lib.size_eq s).symm;have hst:=run_storeCells_at prog g 0 t ((s.data.toList.map fun b:UInt8=>Value.int IntKind.u8 (b.toNat:Int)).take (Nat.min s.size n)) 0 (ag .u8 n q) w hg
  (by rw[List.length_take,List.length_map,hsz,yj];simp only[Nat.min_def];split<;>split<;>omega)
  (fun v hv=>by
   have hv':=List.mem_of_mem_take hv;obtain⟨b,_,rfl⟩:=List.mem_map.1 hv';rfl)
 have hrow:((ag .u8 n q).toList.take (0+0)++(s.data.toList.map fun b:UInt8=>Value.int IntKind.u8 (b.toNat:Int)).take (Nat.min s.size n)++(ag .u8 n q).toList.drop (0+0+((s.data.toList.map fun b:UInt8=>Value.int IntKind.u8 (b.toNat:Int)).take (Nat.min s.size n)).length)).toArray=ag .u8 n (ov s q):=by
  apply Array.ext_getElem?;intro i;have hlen:((s.data.toList.map fun b:UInt8=>Value.int IntKind.u8 (b.toNat:Int)).take (Nat.min s.size n)).length=Nat.min s.size n:=by
   rw[List.length_take,List.length_map,hsz];simp only[Nat.min_def];split<;>split<;>omega
  rw[hlen,yd];simp only[Nat.add_zero,Nat.zero_add,List.take_zero,List.nil_append,List.getElem?_toArray,List.getElem?_append,hlen];unfold ov;by_cases h1:i<Nat.min s.size n
  ·have h2:i<n:=Nat.lt_of_lt_of_le h1 (Nat.min_le_right _ _);have h3:i<s.size:=Nat.lt_of_lt_of_le h1 (Nat.min_le_left _ _);rw[if_pos h1,if_pos h2,if_pos h3,List.getElem?_take,if_pos h1,List.getElem?_map];have h4:i<s.data.toList.length:=by omega
   unfold bt;rw[List.getD_eq_getElem?_getD,List.getElem?_eq_getElem h4];rfl
  ·rw[if_neg h1,List.getElem?_drop,show Nat.min s.size n+(i-Nat.min s.size n)=i by omega,Array.getElem?_toList,yd];by_cases h2:i<n
   ·have h3:¬ i<s.size:=fun h=>h1 (by simp only[Nat.min_def];split<;>omega)
    rw[if_pos h2,if_pos h2,if_neg h3]
   ·rw[if_neg h2,if_neg h2]
 rw[hrow]at hst;have hs:(prog.info? 5).map (·.size)=some 1:=by kernel_rfl
 cases hq:prog.info? 5 with
 | none=>simp[hq]at hs
 | some i=>
  simp[Builtin.copy_,run_underlying underlying53,Builtin.lenOf,Builtin.firstCells,sizeOf,typeInfo,hq];rw[hst];simp[Result.andThen,goInt]
def fl (s:ByteArray) (i:Nat):Nat:=if i=135 then(if 135=s.size then 129 else 128)else if i=s.size then 1 else if i<s.size then bt s i else 0
theorem or128:∀ x:Nat,x<256→bits .or .u8 (x:Int) 128=((x ||| 128:Nat):Int):=by decide +kernel
theorem filled_any(s:ByteArray)(hs:s.size<136):RT 321 #[.string s] (B136 (fl s)):=by
 intro w;obtain⟨h',hh⟩:∃ q,q=fl s:=⟨_,rfl⟩
 rw[← hh];have HH:Hid _:=hh;clear hh;have hz:=fun w=>zero31 w
 have HS:Hid (s.size<136):=hs;have i0:(s.size:Int)<136:=by omega
 clear hs
 go_enter func321,ntmps321
 go_upto_region 2 with fail
 refine xz _ ?_;intro w0 hw0;have K1:Hid (zb w0 w.heap.size (ag .u8 136 (fun _=>0))∧zb w0 (w.heap.size+1) (ag .u8 136 (fun _=>0))∧Below w.heap.size w w0):=by
  show _∧_;rw[hw0];exact⟨zb.old (zb.last rfl),zb.last (by simp),by repeat(first|exact Below.refl _ _|refine zj ?_ _)⟩
 clear hw0 hz;have hcp:=copy_row w0 (w.heap.size+1) 136 3 (fun _=>0) s K1.out.2.1;rw[show Nat.min s.size 136=s.size from Nat.min_eq_left (by have:=HS.out;omega)]at hcp
 go_upto_region 3 with fail
 refine xz _ ?_;intro w1 hw1;have K2:Hid (zb w1 w.heap.size (ag .u8 136 (fun _=>0))∧zb w1 (w.heap.size+1) (ag .u8 136 (ov s fun _=>0))∧Below w.heap.size w w1):=by
  show _∧_;rw[hw1];exact⟨K1.out.1.set_other _ (by omega),K1.out.2.1.set_same _,zf K1.out.2.2 (by omega) _⟩
 clear hw1 hcp K1;have q1:=zb.at K2.out.2.1 HS.out;have q2:=zb.frozen K2.out.2.1 s.size
 go_upto_region 4 with fail
 refine xz _ ?_;intro w2 hw2;obtain⟨g2,hg2⟩:∃ q,q=upd (ov s fun _=>0) s.size 1:=⟨_,rfl⟩
 have K3:Hid (zb w2 w.heap.size (ag .u8 136 (fun _=>0))∧zb w2 (w.heap.size+1) (ag .u8 136 g2)∧Below w.heap.size w w2):=by
  show _∧_;rw[hw2,zb.setCell K2.out.2.1,hg2,← xr];exact⟨K2.out.1.set_other _ (by omega),K2.out.2.1.set_same _,zf K2.out.2.2 (by omega) _⟩
 have HG2:Hid _:=hg2;clear hw2 K2 q1 q2 hg2;have g256:g2 135<256:=by rw[HG2.out,km];split;decide;unfold ov;split;exact bt_lt _ _;decide
 have q1:=zb.at K3.out.2.1 (show 135<136 by omega);have q2:=zb.frozen K3.out.2.1 135;have E:Hid _:=or128 (g2 135) g256;clear g256
 go_upto_region 5 with fail
 rw[E.out];refine xz _ ?_;intro w3 hw3;have K4:Hid (zb w3 w.heap.size (ag .u8 136 (fun _=>0))∧zb w3 (w.heap.size+1) (ag .u8 136 h')∧Below w.heap.size w w3):=by
  have e:ag .u8 136 (upd g2 135 (g2 135 ||| 128))=ag .u8 136 h':=zbb _ _ fun i hi=>by
   have hs:=HS.out;rw[HH.out,HG2.out,km];unfold fl;by_cases e1:i=135
   ·rw[if_pos e1,if_pos e1,km];by_cases e2:135=s.size
    ·rw[if_pos e2,if_pos e2];rfl
    ·rw[if_neg e2,if_neg e2];unfold ov;rw[if_neg (by omega)];rfl
   ·rw[if_neg e1,if_neg e1,km];by_cases e2:i=s.size
    ·rw[if_pos e2,if_pos e2]
    ·rw[if_neg e2,if_neg e2];rfl
  show _∧_;rw[hw3,zb.setCell K3.out.2.1,xr,e];exact⟨K3.out.1.set_other _ (by omega),K3.out.2.1.set_same _,zf K3.out.2.2 (by omega) _⟩
 clear hw3 K3 q1 q2 E;refine wp_region_lit ?_;refine y6 rfl 230 (.tmp 3) rfl (w.heap.size+1) rfl .u8 136 h' K4.out.2.1 underlying230 (by kernel_rfl) ?_;intro v hv;have hsz:=hv.size;have hsc:=zu (P:=prog) hv (g:=w.heap.size) 230 (by kernel_rfl) (yg.row K4.out.1 (yj _ _ _));clear hv
 go_wp2
 exact bodyPost_ret (v:=B136 h') (yr (p:=2) (ty:=230) rfl (g:=w.heap.size) rfl (zb.set_same K4.out.1 (ag .u8 136 h')) (yj _ _ _) underlying230 (by kernel_rfl)) rfl ⟨rfl,zf K4.out.2.2 (Nat.le_refl _) _⟩
end
section
open Go.RowKit Go.Shelf
attribute [local go_sem] Oper.semAt_some
theorem zd8{F:Fence}{n:Nat}{P:Program}{o:Oper}{a:Act}{w:World}{K:Act→World→Prop}{Q:Exit→Act→World→Prop}(ty:TypeId)(x:Operand)(ho:o.op=.load ty x)(g:Nat)(hx:a.eval x=.pointer (some ⟨g,0,none⟩))(k:IntKind)(m:Nat)(f:Nat→Nat){e:TypeId}(hr:zb w g (ag k m f))(hu:P.underlying ty=some (.array m e))(hi:(P.info? ty).map (·.size)=some m)(h:K (a.put o.dst (.agg (ag k m f))) w):o.wpIn F n P a w K Q:=by
 unfold Oper.wpIn;refine⟨by simp[Oper.about,ho],?_⟩;rw[Oper.semAt_plain F _ _ (by rw[ho];intro c hc';cases hc')];have hl:=zdn (P:=P) ty hu hi hr;unfold execOp;simp only[ho,hx,Instr.loadAt,Instr.sureAddr,Sem.run_bind,Sem.run_pure,Result.andThen_ok,hl];exact h
def hdr (s:ByteArray) (m:Nat):ByteArray:=s.extract m s.size
theorem dr_size(s:ByteArray)(m:Nat):(hdr s m).size=s.size-m:=by unfold hdr;rw[ByteArray.size_extract];omega
theorem dr_data(s:ByteArray)(m:Nat):(hdr s m).data=s.data.extract m s.data.size:=by
 unfold hdr;rw[ByteArray.data_extract];rfl
theorem dr_zero(s:ByteArray):hdr s 0=s:=by
 apply ByteArray.ext;rw[dr_data];simp
theorem dr_dr(s:ByteArray)(m k:Nat):(hdr s m).extract k (hdr s m).size=hdr s (m+k):=by
 apply ByteArray.ext;rw[dr_data,ByteArray.data_extract,dr_data,Array.extract_extract,dr_size];have:s.size=s.data.size:=rfl;rw[this]
 congr 1
 omega
theorem bt_dr(s:ByteArray)(m i:Nat):bt (hdr s m) i=bt s (m+i):=by
 unfold bt
 congr 1
 rw[List.getD_eq_getElem?_getD,List.getD_eq_getElem?_getD,Array.getElem?_toList,Array.getElem?_toList,dr_data,Array.getElem?_extract];split
 ·rfl
 ·rw[Array.getElem?_eq_none (by omega)]
abbrev BA:={ g:Nat→Nat // ∀ i,g i<256 }
theorem fl_lt(s:ByteArray)(i:Nat):fl s i<256:=by
 unfold fl;split
 ·split<;>decide
 ·split
  ·decide
  ·split
   ·exact bt_lt _ _
   ·decide
def blk (s:ByteArray) (k:Nat):BA:=⟨fun i=>bt s (136*k+i),fun i=>bt_lt _ _⟩
def lst (s:ByteArray):BA:=⟨fl s,fl_lt s⟩
def full (s:ByteArray) (k:Nat):List BA:=(List.range k).map (blk s)
theorem full_succ(s:ByteArray)(k:Nat):full s (k+1)=full s k++[blk s k]:=by simp[full,List.range_succ]
def blks (s:ByteArray):List BA:=full s (s.size/136)++[lst (hdr s (136*(s.size/136)))]
def strLen:Value→Nat
 | .string s=>s.size
 | _=>0
theorem blocks1_in(n:Nat)(hn:1≤n)(l Bs:Nat)(s:ByteArray)(J Jx:List BA→World→Prop)(hJa:∀ pre W W',J pre W→Below W.heap.size W W'→J pre W')(hY:∀ pre x W,J pre W→pre.length<s.size/136+1→YieldAt Fence.wide (n-1) prog l #[B136 x.1] W fun e W'=>
   (e=.returned (.bool true)∧J (pre++[x]) W'∧KeepsWalks W W')∨(e=.returned (.bool false)∧Jx (pre++[x]) W'))(W:World)(hBs:W.cell? ⟨Bs,0,none⟩=some (.string s))(h0:J [] W) :
  CallsIn Fence.wide n prog 320 #[.func (.yield l) #[] #[],.pointer (some ⟨Bs,0,none⟩)] W fun e W'=>(∃ v,e=.returned v) ∧
   ((∃ ys,ys=blks s∧J ys W')∨(∃ pre,True∧Jx pre W')):=by
 have hz:=fun w=>zero31 w
 have HY:Hid _:=hY;have HJa:Hid _:=hJa;clear hY hJa;refine callsIn_of_wp func320 rfl trivial ?_ rfl;simp only[ntmps320,List.size_toArray,List.length_cons,List.length_nil,Nat.reduceAdd,Nat.reduceSub,Array.replicate_succ,Array.replicate_zero,List.push_toArray,List.append_toArray,List.nil_append,List.cons_append]
 gi_wp2
 gi_loopw [3] (fun p wr=>∃ k,k≤s.size/136∧p=.string (hdr s (136*k))∧J (full s k) wr) (fun p _=>strLen p)
 case atStart=>
  exact⟨0,Nat.zero_le _,by rw[Nat.mul_zero,dr_zero],h0⟩
 case round=>
  obtain⟨k,hk,rfl,hJ⟩:=hrel;have HJ:Hid (J (full s k) wr):=hJ;clear hJ;obtain⟨lf,hlf⟩:∃ q,q=hdr s (136*k):=⟨_,rfl⟩
  have hsz:lf.size=s.size-136*k:=by rw[hlf];exact dr_size s (136*k)
  rw[← hlf];by_cases hlt:k<s.size/136
  ·have h136:136≤lf.size:=by omega
   have h136i:(136:Int)≤(lf.size:Int):=by omega
   obtain⟨bf,hbf⟩:∃ q:BA,q=blk s k:=⟨_,rfl⟩
   have hcp:=copy_row (wr.alloc (Obj.cells (ag .u8 136 fun _=>0) 230)) wr.heap.size 136 3 (fun _=>0) lf (zb.last rfl);rw[show Nat.min lf.size 136=136 from Nat.min_eq_right h136]at hcp;have e:ag .u8 136 (ov lf fun _=>0)=ag .u8 136 bf.1:=zbb _ _ fun i hi=>by
    unfold ov;rw[if_pos (by omega),hlf,hbf];exact bt_dr s (136*k) i
   rw[e]at hcp;clear e;obtain⟨w1,hw1⟩:∃ q,q=(wr.alloc (Obj.cells (ag .u8 136 fun _=>0) 230)).setRow wr.heap.size (ag .u8 136 bf.1):=⟨_,rfl⟩
   rw[← hw1]at hcp;have R1:Hid (zb w1 wr.heap.size (ag .u8 136 bf.1)):=by show zb w1 _ _;rw[hw1];exact(zb.last (c:=ag .u8 136 fun _=>0) (t:=230) rfl).set_same _
   have B1:Below wr.heap.size wr w1:=by rw[hw1];exact zf (zj (Below.refl _ _) _) (Nat.le_refl _) _
   obtain⟨fn,tmps,assign,body,hy,hR⟩:=HY.out (full s k) bf w1 (HJa.out _ _ _ HJ.out B1) (by simp[full];omega);have HB:Hid (bf=blk s k∧lf=hdr s (136*k)∧k<s.size/136):=⟨hbf,hlf,hlt⟩
   clear hw1 B1 hbf hlf hlt hk hsz h136;generalize bf.1=g at *
   gi_wp2
   refine zd8 230 (.tmp 4) rfl wr.heap.size rfl .u8 136 g R1.out underlying230 (by kernel_rfl) ?_
   gi_wp2
   refine hR.mono ?_;rintro e W3 (⟨rfl,hJ3,hk3⟩|⟨rfl,hJx3⟩)
   ·have HJ3:Hid _:=hJ3;clear hJ3 hk3 hy hR hcp
    gi_wp2
    go_roundw
    case rel=>
     obtain⟨e1,e2,e3⟩:=HB.out;refine⟨k+1,e3,?_,?_⟩
     ·rw[e2,dr_dr,Nat.mul_succ]
     ·rw[full_succ,← e1];exact HJ3.out
    case measure=>
     show(lf.extract 136 lf.size).size<lf.size;rw[ByteArray.size_extract];omega
   ·gi_wp2
    refine bodyPost_ret (results_none rfl _ _ _) rfl ?_;exact⟨⟨_,rfl⟩,.inr ⟨_,trivial,hJx3⟩⟩
  ·have hk2:k=s.size/136:=by omega
   have h136:lf.size<136:=by omega
   have h136i:¬ (136:Int)≤(lf.size:Int):=by omega
   have HC:Hid (∀ w,Calls prog 321 #[.string lf] w fun e w'=>e=.returned (B136 (fl lf))∧Below w.heap.size w w'):=fun w=>filled_any lf h136 w
   have HB:Hid (k=s.size/136∧lf=hdr s (136*k)):=⟨hk2,hlf⟩
   clear hk2 h136 hlf hlt hk hsz
   gi_wp2_with fail
   refine⟨trivial,(callsIn_wide.2 (HC.out _)).mono ?_⟩;rintro e w1 ⟨rfl,hb1⟩;obtain⟨fn,tmps,assign,body,hy,hR⟩:=HY.out (full s k) (lst lf) w1 (HJa.out _ _ _ HJ.out hb1) (by have:=HB.out.1;simp[full];omega);dsimp only [lst]at hy;clear hb1
   gi_wp2
   refine hR.mono ?_;rintro e W3 (⟨rfl,hJ3,hk3⟩|⟨rfl,hJx3⟩)
   ·gi_wp2
    go_end0
    refine⟨⟨_,rfl⟩,.inl ⟨_,rfl,?_⟩⟩;obtain⟨e1,e2⟩:=HB.out;unfold blks;rw[← e1,← e2];exact hJ3
   ·gi_wp2
    go_end0
    exact⟨⟨_,rfl⟩,.inr ⟨_,trivial,hJx3⟩⟩
end
section
open Go.RowKit Go.Shelf
attribute [local go_sem] Oper.semAt_some
def spg (l:List BA):Nat→Nat:=l.foldl (fun f x=>prm (htk f x.1 136) 24) (fun _=>0)
theorem spg_snoc(l:List BA)(x:BA):spg (l++[x])=prm (htk (spg l) x.1 136) 24:=by simp[spg]
theorem spg_lt(l:List BA):P25 (spg l):=by
 suffices h:∀(l:List BA) (f:Nat→Nat),P25 f→P25 (l.foldl (fun f x=>prm (htk f x.1 136) 24) f)from h l _ (fun _ _=>by decide)
 intro l
 induction l with
 | nil=>intro f hf;exact hf
 | cons x l ih=>intro f hf;exact ih _ (prm_lt (tk_lt hf (fun i _=>x.2 i) 136 (Nat.le_refl _)) 24 (Nat.le_refl _))
theorem Calls.v2{fn:Nat}{f g h:Nat→Nat}{w:World}(hc:Calls prog fn #[A25 f,B136 g] w fun e w'=>e=.returned (A25 h)∧Below w.heap.size w w') :
  Calls prog fn #[A25 f,B136 g] w fun e w'=>(∃ c',e=.returned (.agg c')∧IsRow c' .u64 25 h)∧Below w.heap.size w w':=
 hc.mono fun e w' ⟨he,hb⟩=>⟨⟨_,he,⟨rfl⟩⟩,hb⟩
theorem zb.grown{X Y:World}{g:Nat}{c:Array Value}{row:Option Nat}(h:zb X g c)(hg:X.grownBy Y row)(hne:some g≠row):zb Y g c:=by
 have hlt:=h.lt;obtain⟨t,h⟩:=h;exact⟨t,(hg.block g hlt hne).trans h⟩
theorem keeps_below{W W':World}(h:Below W.heap.size W W'):KeepsOthers W W':=
 ⟨h.size,fun k o hk _=>by rw[h.block k (Array.getElem?_eq_some_iff.1 hk).1];exact hk⟩
theorem keeps_setRow{W:World}{g:Nat}{c:Array Value}(h:zb W g c)(c':Array Value):KeepsOthers W (W.setRow g c'):=by
 obtain⟨t,h⟩:=h;refine⟨by rw[zap];exact Nat.le_refl _,fun k o hk ho=>?_⟩;have hne:¬ g=k:=fun e=>by subst e;rw[h]at hk;cases hk;cases ho
 simp only[World.setRow,Array.getElem?_modify,hne,if_false];exact hk
theorem blocks_any(s:ByteArray)(w:World):Calls prog 301 #[.string s] w fun e w'=>e=.returned (.func (.func 320) #[] #[.pointer (some ⟨w.heap.size,0,none⟩)])∧w'=w.alloc (.cells #[.string s] 9):=by
 go_enter func301,ntmps301
 go_wp2
 go_ret
 exact⟨rfl,rfl⟩
theorem below_grown{W W':World}(h:Below W.heap.size W W'):W.grownBy W' none:=
 ⟨h.os,h.tape,h.output,h.size,fun k hk _=>h.block k hk⟩
theorem blocks_stops(n:Nat)(hn:1≤n)(Bs:Nat)(s:ByteArray)(w0:World)(hlt:Bs<w0.heap.size)(hBs:w0.cell? ⟨Bs,0,none⟩=some (.string s)) :
  SeqStopsK Fence.wide n prog 320 #[.pointer (some ⟨Bs,0,none⟩)] (fun x:BA=>#[B136 x.1]) KeepsWalks (fun xs=>xs=blks s) (fun _=>True) (s.size/136+1) w0:=
 fun l J Jx W hW hJ hJx hY h0=>blocks1_in n hn l Bs s J Jx (fun pre A B hj hb=>hJ pre A B none hj (below_grown hb) (fun r e=>by cases e)) hY W ((hW.cell (p:=⟨Bs,0,none⟩) hlt).trans hBs) h0
theorem sum_any(s:ByteArray)(w:World)(ht:Tabs w ki):Calls prog 277 #[.string s] w fun e w'=>e=.returned (.string (told (spg (blks s))))∧Below w.heap.size w w':=by
 have HT0:Hid (Tabs w ki):=ht;clear ht;refine(callsIn_wide (n:=6)).1 ?_;refine callsIn_of_wp_marks func277 rfl trivial ?_ rfl;simp only[ntmps277,List.size_toArray,List.length_cons,List.length_nil,Nat.reduceAdd,Nat.reduceSub,Array.replicate_succ,Array.replicate_zero,List.push_toArray,List.append_toArray,List.nil_append,List.cons_append]
 gi_wp2_with fail
 refine⟨trivial,(callsIn_wide.2 (blocks_any s _)).mono ?_⟩;rintro e w1 ⟨rfl,rfl⟩;have K0:Hid (zb ((w.alloc (Obj.cells z25 203)).alloc (Obj.cells #[.string s] 9)) w.heap.size (ag .u64 25 (spg []))∧Below w.heap.size w ((w.alloc (Obj.cells z25 203)).alloc (Obj.cells #[.string s] 9))):=
  ⟨zb.old (zb.last rfl),by repeat(first|exact Below.refl _ _|refine zj ?_ _)⟩
 have hcell:((w.alloc (Obj.cells z25 203)).alloc (Obj.cells #[.string s] 9)).cell? ⟨w.heap.size+1,0,none⟩=some (.string s):=by
  simp
 have hsz:((w.alloc (Obj.cells z25 203)).alloc (Obj.cells #[.string s] 9)).heap.size=w.heap.size+1+1:=by simp
 have HC:Hid _:=hcell;clear hcell
 gi_wp2
 obtain⟨W0,hW0⟩:∃ W0,(w.alloc (Obj.cells z25 203)).alloc (Obj.cells #[.string s] 9)=W0:=⟨_,rfl⟩
 rw[hW0]at K0 HC hsz ⊢;clear hW0;refine wpIn_rangeFunc_ownH rfl (by decide) (gf:=320) (lb:=#[.pointer (some ⟨w.heap.size+1,0,none⟩)]) rfl trivial (enters_of func320 (by kernel_rfl) rfl)
  (blocks_stops 5 (by decide) (w.heap.size+1) s W0 (by omega) HC.out) walksK_t walksK_b (Below.refl _ _) (fun _=>rfl)
  (fun pre W=>zb W w.heap.size (ag .u64 25 (spg pre))∧Below w.heap.size w W)
  (fun _ _ _=>False)
  (OwnFrom.and (fun pre X Y row hs hg hr=>zb.grown hs hg (fun e=>by have:=(hr _ e.symm).1;omega)) (ownFrom_below (Nat.le_refl _) (by omega)))
  (fun _ _ _ _ _ hs _ _=>hs)
  K0.out
  (fun x a' W=>∃ Bx,zb W Bx (ag .u8 136 x.1)∧a'={ tmps:=#[.string s,undef,.string { data:=#[] },.pointer (some ⟨w.heap.size,0,none⟩),.pointer (some ⟨Bx,0,none⟩),.string s,.func (.func 320) #[] #[.pointer (some ⟨w.heap.size+1,0,none⟩)],B136 x.1,undef,undef,undef,undef,undef,undef],defers:=[] })
  (fun x a' _ X Y row hs hg hr=>by
   obtain⟨Bx,h2,h3⟩:=hs;refine⟨Bx,zb.grown h2 hg (fun e=>?_),h3⟩;obtain⟨_,o,ho,hc⟩:=hr _ e.symm;obtain⟨t,h2⟩:=h2;rw[h2]at ho;cases ho;cases hc)
  ?assign ?body ?done ?stop
 case assign=>
  rintro l pre x W K ⟨r1,hB⟩ hK;have hz:=fun w=>zero31 w
  have hst:=zbz (P:=prog) (k:=.u8) (f:=x.1) (g:=W.heap.size) 230 (by kernel_rfl) (yg.last (w:=W) (c:=ag .u8 136 fun _=>0) (t:=230) rfl (yj _ _ _));have hss:=yj .u8 136 x.1
  gi_wp2
  exact hK _ _ ((KeepsOthers.alloc _ _).from _) (KeepsOthers.alloc _ _).walks ⟨zb.old r1,zj hB _⟩ ⟨W.heap.size,zb.last rfl,rfl⟩
 case body=>
  rintro l pre x a' W hl ⟨r,hr⟩ ⟨r1,hB⟩ ⟨Bx,r2,rfl⟩ hlt;have R1:Hid (zb W w.heap.size (ag .u64 25 (spg pre))):=r1;have R2:Hid (zb W Bx (ag .u8 136 x.1)):=r2;have BL:Hid (Below w.heap.size w W):=hB;clear r1 r2 hB hr hlt hl;obtain⟨f0,hf0⟩:∃ q,q=spg pre:=⟨_,rfl⟩
  rw[← hf0]at R1;have HF:Hid _:=hf0;have LF:Hid (P25 f0):=by show P25 f0;rw[hf0];exact spg_lt pre
  clear hf0;have GX:Hid (∀ i,i<136→x.1 i<256):=fun i _=>x.2 i
  obtain⟨g0,hg0⟩:∃ q,q=x.1:=⟨_,rfl⟩
  rw[← hg0]at R2 GX ⊢;have HG:Hid _:=hg0;clear hg0;refine wpIn_block ?_;refine wpIn_region_lit ?_;refine wpListIn_plain rfl fun K hK=>zd8 203 (.tmp 3) rfl w.heap.size rfl .u64 25 f0 R1.out underlying203 (by kernel_rfl) (hK _ _ ?_)
  clear hK K;refine wpListIn_plain rfl fun K hK=>zd8 230 (.tmp 4) rfl Bx rfl .u8 136 g0 R2.out underlying230 (by kernel_rfl) (hK _ _ ?_)
  clear hK K;simp only[Act.put]
  gi_wp2_with fail
  refine⟨trivial,(CallsIn.inRound l (callsIn_wide.2 (Calls.v2 (taken_any f0 g0 LF.out GX.out _)))).mono ?_⟩;rintro e w1 ⟨⟨c1,rfl,hc1⟩,hb1⟩;have C1:Hid _:=hc1;have B1:Hid (Below W.heap.size W w1):=hb1;clear hc1 hb1
  gi_wp2_with fail
  refine⟨trivial,(CallsIn.inRound l (callsIn_wide.2 (Calls.v25 (permute_any (htk f0 g0 136) (tk_lt LF.out GX.out 136 (Nat.le_refl _)) _ (HT0.out.below (BL.out.trans (B1.out.mono BL.out.size)))) C1.out))).mono ?_⟩;rintro e w2 ⟨⟨c2,rfl,hc2⟩,hb2⟩;have B2:Hid (Below W.heap.size W w2):=B1.out.trans (hb2.mono B1.out.size);have Q1:Hid (zb w2 w.heap.size (ag .u64 25 f0)):=R1.out.below B2.out;have hsz2:=hc2.size;have hsc:=zu (P:=prog) hc2 (g:=w.heap.size) 203 (by kernel_rfl) (yg.row Q1.out (yj _ _ _));clear hc2 hb2
  gi_wp2
  have k2:KeepsOthers W (w2.setRow w.heap.size (ag .u64 25 (prm (htk f0 g0 136) 24))):=(keeps_below B2.out).trans (keeps_setRow Q1.out _);refine⟨k2.from _,k2.walks,?_,?_⟩
  ·rw[spg_snoc,← HF.out,← HG.out];exact Q1.out.set_same _
  ·exact zf (BL.out.trans (B2.out.mono BL.out.size)) (Nat.le_refl _) _
 case done=>
  rintro D ys W hD rfl ⟨r1,hB⟩ hK;obtain⟨f0,hf0⟩:∃ q,q=spg (blks s):=⟨_,rfl⟩
  rw[← hf0]at r1;have R1:Hid (zb W w.heap.size (ag .u64 25 f0)):=r1;have BL:Hid (Below w.heap.size w W):=hB;have HK:Hid (W.heap[D]? = some (.deferred (some []))):=hK;have HF:Hid _:=hf0;clear r1 hB hK hf0
  gi_upto_region 5 with fail
  refine wpIn_region_lit ?_;refine wpListIn_plain rfl fun K hK=>zd8 203 (.tmp 3) rfl w.heap.size rfl .u64 25 f0 R1.out underlying203 (by kernel_rfl) (hK _ _ ?_)
  clear hK K;simp only[Act.put]
  gi_wp2_with fail
  refine⟨trivial,(callsIn_wide.2 (told_any f0 _)).mono ?_⟩;rintro e w1 ⟨rfl,hb1⟩;have B1:Hid (Below W.heap.size W w1):=hb1;clear hb1
  gi_wp2
  have hK:=HK.out;have hDlt:D<W.heap.size:=(Array.getElem?_eq_some_iff.1 hK).1;have hK1:w1.heap[D]? = some (.deferred (some [])):=by rw[B1.out.block D hDlt];exact hK
  have hb2:Below w.heap.size w w1:=BL.out.trans (B1.out.mono BL.out.size);refine⟨by simp,.inl ⟨_,_,rfl,run_takeDeferred hK1,?_⟩⟩;exact⟨_,results_tmp rfl _ _ _,by rw[← HF.out];rfl,hb2.trans (belowK_b (w:=w) (Nat.le_refl _) w1 D _ _ (by omega) hK1 rfl rfl)⟩
 case stop=>
  rintro D c pre W _ _ h _;exact h.elim
end
end Go.Proofs.YthkpgfbjdabflaaGreatDoor
