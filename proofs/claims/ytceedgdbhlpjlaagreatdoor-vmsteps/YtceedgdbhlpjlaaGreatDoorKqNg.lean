/- Laid one behind the other: Ng, Nh, Mb, Mf. -/
import Derived.Test.YtceedgdbhlpjlaaGreatDoorKqNa
import Derived.Test.YtceedgdbhlpjlaaGreatDoorKqKj
import Derived.Test.YtceedgdbhlpjlaaGreatDoorKqKe
namespace Go.Proofs.YtceedgdbhlpjlaaGreatDoor
open Go.RowKit Go.Sort Tryz
set_option linter.unusedVariables false
set_option maxRecDepth 100000
set_option maxHeartbeats 4000000
section
open Go.RowKit Go.Sort Go.Shelf
theorem bc_len(l:List UInt8):(bc l).length=l.length:=by simp[bc]
theorem mk_bytes(n:Nat)(hn:n≤1000000)(w:World):(Instr.makeSlice 76 (Z n) (Z n)).run prog w=.ok (.slice (some ⟨w.heap.size,0,none⟩) n n) (w.alloc (.cells (bc (zr n)).toArray 5)):=by
 obtain⟨i,hi,hz,h1,h2⟩:=hI5;have hr:=run_make (P:=prog) w 76 5 i (.int .u8 0) underlying76 hi hz .i64 .i64 n n (by omega) (Int.le_refl _) (by rw[h2];omega) (by omega);simp only[Int.toNat_natCast]at hr;rw[hr]
 congr 3
 apply Array.ext
 ·rw[size_madeCells,h1];simp[bc]
 ·intro j hj1 hj2;rw[size_madeCells,h1]at hj1;simp[madeCells,bc,Value.cells,Nat.mod_one]
theorem conv_row{w:World}{g:Nat}{l:List UInt8}(hl:l.length≤1000000)(h:w.heap[g]? = some (.cells (bc l).toArray 5)):(convert 76 9 (.slice (some ⟨g,0,none⟩) l.length l.length)).run prog w=.ok (str l) w:=by
 refine text_own (b:=g) (l:=l) ⟨by simp[bc],.inr ⟨g,l.length,(bc l).toArray,rfl,Nat.le_refl _,h,Nat.le_refl _,?_,by simp[bc],?_⟩⟩
 ·simp only[maxLen];omega
 ·simp only[Nat.mul_one];rw[List.take_of_length_le (by simp[bc])]
abbrev byJ (w:World) (g:Nat) (l:List UInt8) (w':World):Prop:=Below w.heap.size w w'∧w'.heap[g]? = some (.cells (bc l).toArray 5)
theorem byR(w:World)(g:Nat)(l:List UInt8):qm (byJ w g l) (clF w g):=(zq w).lay g _
theorem rgrow_any(m:List UInt8)(hm:m.length≤900000)(x n:Nat)(hx:x<W)(hn:n<W):RT 26 #[str m,U x,U n] (.tuple #[str (yh m x n).1,Z (yh m x n).2.1,Z (yh m x n).2.2]):=by
 intro w;have hM:=zah;have hW:=M_W;have heq:=fun b h=>zco hn (show 0<W by omega) (b:=b) h
 have hadd:=radd_any x n hx hn;have hs:x+n<W→xq x n=x+n:=fun h=>Nat.mod_eq_of_lt h
 have hlt:=addW_lt x n;have hcmp:=zb0 (xq x n) 4096 hlt (by omega);rw[U_sml 4096 (by omega)]at hcmp;rw[U0]at heq;have hov:ovW x n=decide (W≤x+n):=rfl;have hsm:xq x n<M→l0 (xq x n)=xq x n:=fun h=>(xc _ h).1
 generalize ovW x n=ov at *;have hcv:ka (xq x n) 4096=if xq x n<4096 then -1 else if 4096<xq x n then 1 else 0:=rfl
 generalize ka (xq x n) 4096=cv at *;unfold U at hadd hcmp heq ⊢;generalize l0 (xq x n)=s0,l1 (xq x n)=s1,l2 (xq x n)=s2,l3 (xq x n)=s3 at *;generalize xq x n=s,l0 n=n0,l1 n=n1,l2 n=n2,l3 n=n3,l0 x=x0,l1 x=x1,l2 x=x2,l3 x=x3 at *;refine inZ func26 fun a I=>?_;by_cases h0:n=0
 ·refine goZ [dO 38 [] qw,bO .eql 38 (heq true (decide_eq_true h0))] I fun β a w1 I1 hb=>?_;exact zp (v:=.tuple #[str m,Z 0,Z 0]) I1 ⟨by unfold yh;rw[if_pos h0],I1.hJ⟩
 by_cases h1:W≤x+n
 ·rw[decide_eq_true h1]at hov;subst hov;refine goZ [dO 38 [] qw,bO .eql 38 (heq false (decide_eq_false h0)),kC func44 hadd] I fun β a w1 I1 hb=>?_;exact zp (v:=.tuple #[str m,Z 0,Z 3]) I1 ⟨by unfold yh;rw[if_neg h0,if_pos (by omega)],I1.hJ⟩
 rw[decide_eq_false h1]at hov;subst hov;obtain rfl:=hs (by omega);by_cases h2:4096<x+n
 ·refine goZ [dO 38 [] qw,bO .eql 38 (heq false (decide_eq_false h0)),kC func44 hadd,dO 38 [0,1,2,3] (bd38_4 4096 0 0 0),kC func45 hcmp,bO .gtr 3 (za7 (x:=cv) (y:=0) (b:=true) (by rw[hcv,if_neg (by omega),if_pos h2];rfl))] I fun β a w1 I1 hb=>?_;exact zp (v:=.tuple #[str m,Z 0,Z 3]) I1 ⟨by unfold yh;rw[if_neg h0,if_pos h2],I1.hJ⟩
 refine goZ [dO 38 [] qw,bO .eql 38 (heq false (decide_eq_false h0)),kC func44 hadd,dO 38 [0,1,2,3] (bd38_4 4096 0 0 0),kC func45 hcmp,bO .gtr 3 (za7 (x:=cv) (y:=0) (b:=false) (by rw[hcv,if_neg h2];split<;>rfl))] I fun β a w1 I1 hb=>?_;obtain rfl:=hsm (by omega);have e:yh m x n=(fil m (32*(wds ((x+n:Nat):Int)).toNat),cst (wds ((fil m (32*(wds ((x+n:Nat):Int)).toNat)).length:Int))-cst (wds (m.length:Int)),0):=by unfold yh;rw[if_neg h0,if_neg h2]
 rw[e];have hws:=zau ((x+n:Nat):Int) (by omega) (by omega);have hbw:=zdl (n:=((x+n:Nat):Int)) (by omega) (by omega);obtain⟨wk,hwk⟩:∃ k:Nat,wds ((x+n:Nat):Int)=k:=⟨_,(Int.toNat_of_nonneg hbw.1).symm⟩
 rw[hwk]at hws hbw ⊢;rw[Int.toNat_natCast];obtain⟨sz,hsz⟩:∃ k:Nat,32*wk=k:=⟨_,rfl⟩
 rw[hsz];have hfl:=fil_len m sz;have hmul:=qp (x:=32) (y:=wk) (z:=sz) (by rw[wzf (by omega) (by omega)];omega);generalize x+n=s at *;by_cases h3:sz≤m.length
 ·refine goZ [vO 36 3 (zch s (by omega)),kC func46 hws,bO .mul 3 hmul,lnO m,kmT sz m.length] I1 fun β a w1 I1 hb=>?_;exact zp (v:=.tuple #[str m,Z 0,Z 0]) I1 ⟨by rw[fil_ge m sz h3,Int.sub_self],I1.hJ⟩
 have hwm:=zau m.length (by omega) (by omega);have hwg:=zau sz (by omega) (by omega);have elen:(fil m sz).length=sz:=by omega
 rw[elen];unfold fil;have hlz:(zr (sz-m.length)).length≤1000000:=by rw[List.length_replicate];omega
 generalize wds (m.length:Int)=wm,wds (sz:Int)=wg at *;have hcm:=rcost_any wm;have hcg:=rcost_any wg;have hbm:=cst_bd wm;have hbg:=cst_bd wg;generalize cst wm=cm,cst wg=cg at *;obtain⟨k,hk⟩:∃ k,sz-m.length=k:=⟨_,rfl⟩
 rw[hk]at hlz ⊢;refine goZ [vO 36 3 (zch s (by omega)),kC func46 hws,bO .mul 3 hmul,lnO m,kmF sz m.length,kC func46 hwg,kC func47 hcg,lnO m,kC func46 hwm,kC func47 hcm,ksZ cg cm (cg-cm),lnO m,ksZ sz m.length k] I1 fun β2 a2 w2 I2 hb2=>?_;refine mksQ (t:=76) (x:=Sum.inl (Z k)) (y:=Sum.inl (Z k)) I2 (mk_bytes k (by omega) w2) ?_;have I3:=I2.lay (zq w) (.cells (bc (zr k)).toArray 5) (.slice (some ⟨w2.heap.size,0,none⟩) k k);generalize w2.heap.size=g,w2.alloc (.cells (bc (zr k)).toArray 5)=w3 at *;have ek:(zr k).length=k:=by rw[List.length_replicate]
 have hcv2:=conv_row (l:=zr k) (by omega) I3.hJ.2;rw[ek]at hcv2;refine cnvQ I3 hcv2 ?_;generalize zr k=z at *;refine goQ [bO .add 9 (ke m z (by omega))] (byR w g z) (I3.same (str z)) fun β4 a4 w4 I4 hb4=>?_;exact zp (v:=.tuple #[str (m++z),Z (cg-cm),Z 0]) I4 ⟨rfl,I4.hJ.1⟩
end
section
open Go.RowKit Go.Sort Go.Shelf
theorem copy_cut{w:World}{g:Nat}{cur:List UInt8}(t:List UInt8)(hg:w.heap[g]? = some (.cells (bc cur).toArray 5)) :
  (Builtin.copy_ #[76,9] 3 #[.slice (some ⟨g,0,none⟩) cur.length cur.length,str t]).run prog w=.ok (Z (min t.length cur.length:Nat)) (w.setRow g (bc (t.take cur.length++cur.drop t.length)).toArray):=by
 obtain⟨i,hi,hz,h1,h2⟩:=hI5;have hk:(bc (t.take cur.length)).length=min t.length cur.length:=by rw[bc_len,List.length_take];omega
 have hst:=run_storeCells_at prog g 0 5 (bc (t.take cur.length)) 0 (bc cur).toArray w hg (by rw[hk];simp[bc];omega) (fun v hv=>by obtain⟨x,_,rfl⟩:=List.mem_map.1 hv;rfl);have htk:List.take (Nat.min t.length cur.length) (List.map (fun b:UInt8=>Value.int IntKind.u8 (b.toNat:Int)) t)=bc (t.take cur.length):=by
  show List.take (min t.length cur.length) _=_;rw[bc,List.map_take];by_cases h:t.length≤cur.length
  ·rw[Nat.min_eq_left h,List.take_of_length_le (by simp),List.take_of_length_le (by simp;omega)]
  ·rw[Nat.min_eq_right (by omega)]
 have e:((bc cur).toArray.toList.take (0+0)++bc (t.take cur.length)++(bc cur).toArray.toList.drop (0+0+(bc (t.take cur.length)).length)).toArray=(bc (t.take cur.length++cur.drop t.length)).toArray:=by
  apply Array.ext';rw[hk];simp only[Nat.add_zero,List.take_zero,List.nil_append,Nat.zero_add,bc,List.map_append,List.map_drop]
  congr 1
  by_cases h:t.length≤cur.length
  ·rw[Nat.min_eq_left h]
  ·rw[Nat.min_eq_right (by omega),List.drop_eq_nil_of_le (by simp),List.drop_eq_nil_of_le (by simp;omega)]
 rw[e]at hst;have hsz:=y9 t;simp[Builtin.copy_,run_underlying underlying76,Builtin.lenOf,Builtin.firstCells,sizeOf,typeInfo,hi,hsz];rw[htk,hst];simp[Result.andThen];rfl
theorem cut_zr(t:List UInt8)(p:Nat):t.take p++(zr p).drop t.length=fil (t.take p) p:=by
 unfold fil;rw[List.drop_replicate,List.length_take];by_cases h:p≤t.length
 ·rw[Nat.min_eq_left h,Nat.sub_eq_zero_of_le h,Nat.sub_self]
 ·rw[Nat.min_eq_right (by omega)]
theorem kb(s:List UInt8)(hs:s.length≤1000000)(n:Nat)(hn:n<W)(i:Int):RT 50 #[str s,U n,Z i] (str (slV s n i)):=by
 intro w;have hM:=zah;have hW:=M_W;have hc:=zb0 n s.length hn (by omega);rw[U_sml s.length (by omega)]at hc;have h0:n<s.length→l0 n=n:=fun h=>(xc n (by omega)).1
 have hv:ka n s.length=if n<s.length then -1 else if s.length<n then 1 else 0:=rfl
 generalize ka n s.length=cv at *;unfold slV;unfold U at hc ⊢;generalize l0 n=a0,l1 n=a1,l2 n=a2,l3 n=a3 at *;refine inZ func50 fun a I=>?_;by_cases k0:i<0
 ·refine goZ [klT i 0] I fun β a w1 I1 hb=>?_;exact zp (v:=str []) I1 ⟨by rw[if_pos (.inl k0)],I1.hJ⟩
 by_cases k1:65536<i
 ·refine goZ [klF i 0,kgT i 65536] I fun β a w1 I1 hb=>?_;exact zp (v:=str []) I1 ⟨by rw[if_pos (.inr k1)],I1.hJ⟩
 obtain⟨p,rfl⟩:∃ p:Nat,i=p:=⟨i.toNat,by omega⟩
 rw[if_neg (by omega),Int.toNat_natCast];refine goZ [klF p 0,kgF p 65536] I fun β2 b2 w2 I2 hb2=>?_;refine mksQ (t:=76) (x:=Sum.inl (Z p)) (y:=Sum.inl (Z p)) I2 (mk_bytes p (by omega) w2) ?_;have I3:=I2.lay (zq w) (.cells (bc (zr p)).toArray 5) (.slice (some ⟨w2.heap.size,0,none⟩) p p);have hgs:=I2.hJ.size;generalize w2.heap.size=g,w2.alloc (.cells (bc (zr p)).toArray 5)=w3 at *;have ek:(zr p).length=p:=by rw[List.length_replicate]
 by_cases h:n<s.length
 ·rw[if_pos h]at hv;obtain rfl:=h0 h;have hct:=cut_zr (s.drop a0) p;have hfr:=fun w=>from64 (l:=s) (k:=a0) (by omega) w
  generalize s.drop a0=t at *;refine goQ [lnO s,vO 3 36 (cnv64 s.length (by omega)),dO 38 [0,1,2,3] (bd38_4 s.length 0 0 0),kC func45 hc,bO .lss 3 (vr (x:=cv) (y:=0) (b:=true) (by rw[hv];rfl)),sO 9 hfr] (byR w g (zr p)) I3 fun β4 b4 w4 I4 hb4=>?_;have hcp:=copy_cut t I4.hJ.2;rw[ek]at hcp;rw[hct]at hcp;have hsg:=set_grow (cs:=(bc (fil (t.take p) p)).toArray) I4.hJ.2;refine cpyQ (ts:=#[76,9]) (ty:=3) (ss:=[Sum.inl (.slice (some ⟨g,0,none⟩) p p),Sum.inl (str t)]) I4 hcp ?_
  have I5:=I4.moved (J':=byJ w g (fil (t.take p) p)) (F':=clF w g) ⟨hsg.1.os,hsg.1.tape,hsg.1.output,hsg.1.size,fun k hk hn=>hsg.1.block k hk fun e=>hn (.inr e)⟩ ⟨⟨hsg.1.os.trans I4.hJ.1.os,hsg.1.tape.trans I4.hJ.1.tape,hsg.1.output.trans I4.hJ.1.output,Nat.le_trans I4.hJ.1.size hsg.1.size,fun k hk=>(hsg.1.block k (Nat.lt_of_lt_of_le hk I4.hJ.1.size) (by omega)).trans (I4.hJ.1.block k hk)⟩,hsg.2⟩ (fun k hk h=>h) (Z (min t.length p:Nat));have hlen:(fil (t.take p) p).length=p:=by rw[fil_len,List.length_take];omega
  generalize fil (t.take p) p=z at *;generalize w4.setRow g (bc z).toArray=w5,min t.length p=mn at *;refine goQ [] (byR w g z) I5 fun β6 b6 w6 I6 hb6=>?_;have hcv2:=conv_row (l:=z) (by omega) I6.hJ.2;rw[hlen]at hcv2;refine cnvQ I6 hcv2 ?_;refine goQ [] (byR w g z) (I6.same (str z)) fun β7 b7 w7 I7 hb7=>?_;exact zp (v:=str z) I7 ⟨rfl,I7.hJ.1⟩
 ·rw[if_neg h]at hv;have ez:fil ((s.drop n).take p) p=zr p:=by rw[List.drop_eq_nil_of_le (by omega)];unfold fil;simp
  rw[ez];refine goQ [lnO s,vO 3 36 (cnv64 s.length (by omega)),dO 38 [0,1,2,3] (bd38_4 s.length 0 0 0),kC func45 hc,bO .lss 3 (vr (x:=cv) (y:=0) (b:=false) (by rw[hv];split<;>rfl))] (byR w g (zr p)) I3 fun β6 b6 w6 I6 hb6=>?_;have hcv2:=conv_row (l:=zr p) (by omega) I6.hJ.2;rw[ek]at hcv2;generalize zr p=z at *;refine cnvQ I6 hcv2 ?_;refine goQ [] (byR w g z) (I6.same (str z)) fun β7 b7 w7 I7 hb7=>?_;exact zp (v:=str z) I7 ⟨rfl,I7.hJ.1⟩
theorem run_eql26{x y:Int}{b:Bool}(h:decide (x=y)=b)(o1 o2:Operand)(w:World):(do eqGuard .eql 23 o1 o2 (Z x) (Z y);binOp .eql 23 (Z x) (Z y):Sem Value).run prog w=.ok (.bool b) w:=by
 subst h;by_cases hx:x=y
 ·simp[go_sem,hx]
 ·simp[go_sem,hx]
end
section
open Go.RowKit Go.Sort Go.Shelf
def dsR:Nat→List UInt8→List Bool
 | 0,_=>[]
 | _+1,[]=>[]
 | f+1,b::r=>decide (b=91)::(List.replicate (min (qc b.toNat) r.length) false++dsR f (r.drop (min (qc b.toNat) r.length)))
theorem dsR_fuel:∀(f g:Nat) (l:List UInt8),l.length≤f→l.length≤g→dsR f l=dsR g l
 | 0,g,l,h,_=>by
  obtain rfl:l=[]:=List.length_eq_zero_iff.1 (by omega);cases g<;>rfl
 | f+1,0,l,_,h=>by
  obtain rfl:l=[]:=List.length_eq_zero_iff.1 (by omega);rfl
 | f+1,g+1,[],_,_=>rfl
 | f+1,g+1,b::r,h1,h2=>by
  simp only[dsR];rw[dsR_fuel f g _ (by rw[List.length_drop];simp only[List.length_cons]at h1;omega) (by rw[List.length_drop];simp only[List.length_cons]at h2;omega)]
theorem ds_fold:∀(f p:Nat) (l:List UInt8) (pre:List Bool),l.length≤f→pre.length=p→(pcF f p l).foldl dsS (pre++List.replicate l.length false)=pre++dsR f l
 | 0,p,l,pre,h,_=>by
  obtain rfl:l=[]:=List.length_eq_zero_iff.1 (by omega);rfl
 | f+1,p,[],pre,_,_=>rfl
 | f+1,p,b::r,pre,h,hp=>by
  simp only[pcF,dsR,List.foldl_cons];have hk:min (qc b.toNat) r.length≤r.length:=Nat.min_le_right _ _;generalize min (qc b.toNat) r.length=k at *;have hl:(r.drop k).length=r.length-k:=List.length_drop;have e:dsS (pre++List.replicate (b::r).length false) (p,b::r.take k)=(pre++(decide (b=91)::List.replicate k false))++List.replicate (r.drop k).length false:=by
   have hr:List.replicate r.length false=List.replicate k false++List.replicate (r.length-k) false:=by rw[List.replicate_append_replicate];congr 1;omega
   simp only[dsS,List.head?_cons,Option.some.injEq,List.length_cons,List.replicate_succ];rw[List.set_append_right p _ (by omega),show p-pre.length=0 by omega,List.set_cons_zero,hl,hr];simp
  rw[e,ds_fold f (p+1+k) (r.drop k) _ (by rw[hl];simp only[List.length_cons]at h;omega) (by simp;omega)];simp
theorem dsN_eq(c:List UInt8):dsN c=dsR c.length c:=by
 have:=ds_fold c.length 0 c [] (Nat.le_refl _) rfl;simpa [dsN,pc]using this
end
section
open Go.RowKit Go.Sort Go.Shelf
abbrev dJ (w:World) (g:Nat) (l:List Bool) (w':World):Prop:=RowKit.Below w.heap.size w w'∧w'.heap[g]? = some (.cells (blC l) 4)
abbrev dF (w:World) (g k:Nat):Prop:=k<w.heap.size∨k=g
theorem dJ.rs(w:World)(g:Nat)(l:List Bool):qm (dJ w g l) (dF w g):=(zq w).lay g _
theorem dsR_drop{c:List UInt8}{i:Nat}{x:UInt8}(h:c[i]? = some x):dsR c.length (c.drop i)=decide (x=91)::(List.replicate (min (qc x.toNat) (c.length-(i+1))) false++dsR c.length (c.drop (i+1+qc x.toNat))):=by
 have hp:=(List.getElem?_eq_some_iff.1 h).1;have hd:c.drop i=x::c.drop (i+1):=by
  rw[List.drop_eq_getElem_cons hp]
  congr 1
  exact(List.getElem?_eq_some_iff.1 h).2
 obtain⟨f,hf⟩:∃ f,c.length=f+1:=⟨c.length-1,by omega⟩
 rw[hd,hf];simp only[dsR];rw[List.length_drop,List.drop_drop,hf]
 congr 2
 rcases Nat.lt_or_ge (f+1) (i+1+qc x.toNat)with h1|h1
 ·rw[List.drop_eq_nil_of_le (by omega),List.drop_eq_nil_of_le (by omega)];cases f<;>rfl
 ·rw[Nat.min_eq_left (by omega)];exact dsR_fuel _ _ _ (by rw[List.length_drop];omega) (by rw[List.length_drop];omega)
theorem SI.storedV{J J':World→Prop}{F F':Nat→Prop}{ds:List Deferred}{β:Nat→Nat}{c:Cf}{a:Act}{w w':World}(I:SI J F ds β c a w)(g:zu (fun k=>¬ F k) w w')(hJ:J' w')(hF:∀ k,k<w.heap.size→F' k→F k):SI J' F' ds β (vz c (xo c) none) (a.put (xo c) undef) w':=I.move g hJ hF (xo c) none
def dsI (c:List UInt8) (i:Nat) (acc:List Bool):Prop:=acc.length=c.length∧acc=acc.take i++List.replicate (c.length-i) false∧acc.take i++dsR c.length (c.drop i)=dsN c
theorem dsI_step{c:List UInt8}{i:Nat}{acc:List Bool}{x:UInt8}(h:dsI c i acc)(hx:c[i]? = some x):dsI c (i+1+qc x.toNat) (acc.set i (decide (x=91))):=by
 obtain⟨h1,h2,h3⟩:=h;have hp:=(List.getElem?_eq_some_iff.1 hx).1;have ht:(acc.take i).length=i:=by rw[List.length_take];omega
 have hset:acc.set i (decide (x=91))=acc.take i++decide (x=91)::List.replicate (c.length-i-1) false:=by
  conv=>lhs;rw[h2]
  rw[List.set_append_right i _ (by omega),ht,Nat.sub_self,show c.length-i=(c.length-i-1)+1 by omega,List.replicate_succ,List.set_cons_zero]
  congr 2
 have htk:(acc.set i (decide (x=91))).take (i+1+qc x.toNat)=acc.take i++decide (x=91)::List.replicate (min (qc x.toNat) (c.length-(i+1))) false:=by
  rw[hset,List.take_append,ht,List.take_of_length_le (by omega),show i+1+qc x.toNat-i=qc x.toNat+1 by omega,List.take_succ_cons,List.take_replicate]
  congr 3
 refine⟨by simp[h1],?_,?_⟩
 ·rw[htk,hset,List.append_assoc,List.cons_append,List.replicate_append_replicate]
  congr 3
  omega
 ·rw[htk,List.append_assoc,List.cons_append,← dsR_drop hx];exact h3
abbrev rdK:List Nat:=[0,2,3,4]
abbrev rdWv (c:List UInt8) (g i:Nat):Vs:=frm 28 [(0,Sum.inl (str c)),(2,Sum.inl (.slice none 0 0)),(3,Sum.inl (.slice (some ⟨g,0,none⟩) c.length c.length)),(4,Sum.inl (Z i))]
theorem rdests_any(c:List UInt8)(hc:c.length<100000000)(w:World):Calls prog 79 #[str c] w fun e w'=>∃ v,e=.returned v∧∃ g,v=.slice (some ⟨g,0,none⟩) c.length c.length∧w.heap.size≤g∧w'.heap[g]? = some (.cells (blC (dsN c)) 4)∧RowKit.Below w.heap.size w w':=by
 refine inQ (J:=RowKit.Below w.heap.size w) (F:=(· < w.heap.size)) func79 (RowKit.Below.refl _ _) fun a I=>?_;refine goZ [lnO c] I fun β a w1 I1 hb=>?_;refine mksQ (t:=39) (x:=Sum.inl (Z c.length)) (y:=Sum.inl (Z c.length)) I1 (make_bools c.length hc w1) ?_;have I2:=I1.lay (zq w) (.cells (blC (List.replicate c.length false)) 4) (.slice (some ⟨w1.heap.size,0,none⟩) c.length c.length);have hgs:=I1.hJ.size;generalize w1.heap.size=g,w1.alloc (.cells (blC (List.replicate c.length false)) 4)=w2 at *;refine goQ [] (dJ.rs w g (List.replicate c.length false)) I2 fun β a w3 I3 hb=>?_
 let St:Nat→Act→World→Prop:=fun k a w'=>∃(i:Nat) (acc:List Bool) (β:Nat→Nat) (u:Nat→Value),k=c.length-i∧i≤c.length+33∧dsI c i acc∧SI (dJ w g acc) (dF w g) [] β (cfC (qz Tryz.f79) (kf (scrF 28 rdK) u 0 (rdWv c g i)) [] 0) a w'
 refine lpM (qz Tryz.f79) St c.length ?_ ?_
 ·obtain⟨u,Iu⟩:=I3.scr (qz Tryz.f79) (scrF 28 rdK) (rdWv c g 0) [] 0;exact⟨0,List.replicate c.length false,β,u,by omega,Nat.zero_le _,⟨by simp,by simp,by simp[dsN_eq]⟩,Iu⟩
 rintro k a4 w4 ⟨i,acc,β4,u,rfl,hi,hI,I4⟩;refine zbe (tm:=kf (scrF 28 rdK) u 0 (rdWv c g i)) (rows:=[]) (nx:=0) ?_;rcases Nat.lt_or_ge i c.length with hil|hil
 ·obtain⟨x,hx⟩:∃ x,c[i]? = some x:=⟨_,List.getElem?_eq_getElem hil⟩
  have hst:=dsI_step hI hx;have hown:=rown_any x.toNat (u8_lt x);have hol:=ownN_lt x.toNat;generalize qc x.toNat=ow at *;refine goQ [lnO c,klT i c.length,iO 9 (p:=str c) (i:=Z i) (v:=b8 x.toNat) (zdr hx),bO .eql 5 (eqB_run (x:=x) (y:=91) (q:=decide (x=91)) rfl),iA 39 underlying39 (sz:=1) (by kernel_rfl) (g:=g) (off:=0) (n:=c.length) (cap:=c.length) (i:=i) hil] (dJ.rs w g acc) I4 fun β5 a5 w5 I5 hb5=>?_;have hrun:=store_bool (p:=i) (decide (x=91)) I5.hJ.2 (by rw[hI.1];exact hil);have hsg:=set_grow (cs:=blC (acc.set i (decide (x=91)))) I5.hJ.2
  refine stoQ (ad:=⟨g,0+i*1,none⟩) (v:=.bool (decide (x=91))) I5 (by rw[Nat.zero_add,Nat.mul_one];exact hrun) ?_;have hB:RowKit.Below w.heap.size w (w5.setRow g (blC (acc.set i (decide (x=91))))):=⟨hsg.1.os.trans I5.hJ.1.os,hsg.1.tape.trans I5.hJ.1.tape,hsg.1.output.trans I5.hJ.1.output,Nat.le_trans I5.hJ.1.size hsg.1.size,fun k hk=>(hsg.1.block k (Nat.lt_of_lt_of_le hk I5.hJ.1.size) (by omega)).trans (I5.hJ.1.block k hk)⟩
  have I6:=I5.storedV (J':=dJ w g (acc.set i (decide (x=91)))) (F':=dF w g) (w':=w5.setRow g (blC (acc.set i (decide (x=91))))) ⟨hsg.1.os,hsg.1.tape,hsg.1.output,hsg.1.size,fun k hk hn=>hsg.1.block k hk fun e=>hn (.inr e)⟩ ⟨hB,hsg.2⟩ (fun k _ h=>h);generalize acc.set i (decide (x=91))=acc' at *;generalize w5.setRow g (blC acc')=w6 at *;refine goQ [iO 9 (p:=str c) (i:=Z i) (v:=b8 x.toNat) (zdr hx),kC func144 hown,kaZ i ow (i+ow:Nat),kaZ (i+ow:Nat) 1 (i+1+ow:Nat)] (dJ.rs w g acc') I6 fun β7 a7 w7 I7 hb7=>?_;obtain⟨u',Iu⟩:=I7.scr (qz Tryz.f79) (scrF 28 rdK) (rdWv c g (i+1+ow)) [] 0
  exact endL ⟨c.length-(i+1+ow),by omega,i+1+ow,acc',β7,u',rfl,by omega,hst,Iu⟩
 ·have hacc:acc=dsN c:=by
   obtain⟨h1,h2,h3⟩:=hI;rw[List.drop_eq_nil_of_le hil,List.take_of_length_le (by omega)]at h3;cases hcl:c.length with
   | zero=>rw[hcl]at h3;simpa [dsR]using h3
   | succ f=>rw[hcl]at h3;simpa [dsR]using h3
  refine goQ [lnO c,klF i c.length] (dJ.rs w g acc) I4 fun β5 a5 w5 I5 hb5=>?_;refine endE 0 ?_;refine goQ [] (dJ.rs w g acc) (I5.exit _) fun β6 a6 w6 I6 hb6=>?_;have hrow:=I6.hJ.2;rw[hacc]at hrow;exact zp (v:=.slice (some ⟨g,0,none⟩) c.length c.length) I6 ⟨_,rfl,g,rfl,hgs,hrow,I6.hJ.1⟩
end
end Go.Proofs.YtceedgdbhlpjlaaGreatDoor
