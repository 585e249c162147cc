/- Out of Kj. -/
import Derived.Test.YthkpgfbjdabflaaGreatDoorKkKg
namespace Go.Proofs.YthkpgfbjdabflaaGreatDoor
open Go.RowKit Go.Sort Tryz
set_option linter.unusedVariables false
set_option maxRecDepth 100000
set_option maxHeartbeats 4000000
section
open Go.RowKit Go.Sort Go.Shelf
theorem pieces_any(c:List UInt8)(w:World):Calls prog 215 #[str c] w fun e w'=>∃ b,e=.returned (.func (.func 287) #[] #[.pointer (some ⟨b,0,none⟩)])∧w.heap.size≤b∧zb w' b #[str c]∧RowKit.Below w.heap.size w w':=by
 go_enter func215,ntmps215
 go_wp2
 go_ret
 exact⟨w.heap.size,rfl,Nat.le_refl _,zb.last rfl,xc _ _⟩
def blC (l:List Bool):Array Value:=(l.map Value.bool).toArray
theorem blC_size(l:List Bool):(blC l).size=l.length:=by simp[blC]
theorem hI4:∃ i,prog.info? 4=some i∧i.zero=some (.bool false)∧i.size=1∧i.bytes=1:=by
 have h:(prog.info? 4).map (fun i=>(i.zero,i.size,i.bytes))=some (some (.bool false),1,1):=by kernel_rfl
 cases hq:prog.info? 4 with
 | none=>rw[hq]at h;simp at h
 | some i=>rw[hq]at h;simp at h;exact⟨i,rfl,h.1,h.2.1,h.2.2⟩
theorem make_bools(n:Nat)(hn:n<100000000)(w:World):(Instr.makeSlice 100 (Z n) (Z n)).run prog w=.ok (.slice (some ⟨w.heap.size,0,none⟩) n n) (w.alloc (.cells (blC (List.replicate n false)) 4)):=by
 obtain⟨i,hi,hz,h1,h2⟩:=hI4;have hr:=run_make (P:=prog) w 100 4 i (.bool false) underlying100 hi hz .i64 .i64 n n (by omega) (Int.le_refl _) (by rw[h2];omega) (by omega);simp only[Int.toNat_natCast]at hr;rw[hr]
 congr 3
 apply Array.ext
 ·rw[size_madeCells,blC_size,h1];simp
 ·intro j hj1 hj2;rw[size_madeCells,h1]at hj1;simp[madeCells,blC,Value.cells,Nat.mod_one]
theorem blC_set(l:List Bool)(p:Nat)(b:Bool):(blC l).setIfInBounds p (.bool b)=blC (l.set p b):=by
 unfold blC;rw[List.setIfInBounds_toArray,List.map_set]
def dsS (acc:List Bool) (m:Nat×List UInt8):List Bool:=acc.set m.1 (decide (m.2.head? = some 91))
def dsN (c:List UInt8):List Bool:=(pc 0 c).foldl dsS (List.replicate c.length false)
theorem dsS_len(acc:List Bool)(m:Nat×List UInt8):(dsS acc m).length=acc.length:=by simp[dsS]
theorem dsF_len:∀(l:List (Nat×List UInt8)) (acc:List Bool),(l.foldl dsS acc).length=acc.length
 | [],acc=>rfl
 | m::l,acc=>by rw[List.foldl_cons,dsF_len l,dsS_len]
theorem dsN_len(c:List UInt8):(dsN c).length=c.length:=by unfold dsN;rw[dsF_len];simp
theorem pcF_mem:∀(f p:Nat) (l:List UInt8) (m:Nat×List UInt8),m∈pcF f p l→m.1<p+l.length∧m.2≠[]
 | 0,p,l,m,h=>by cases h
 | f+1,p,[],m,h=>by cases h
 | f+1,p,b::r,m,h=>by
  simp only[pcF,List.mem_cons]at h;rcases h with rfl|h
  ·exact⟨by simp,by simp⟩
  ·have:=pcF_mem f _ _ m h;rw[List.length_drop]at this;refine⟨?_,this.2⟩;simp only[List.length_cons];omega
structure DJ (w0:World) (g3 g b n:Nat) (c:List UInt8) (acc:List Bool) (w:World):Prop where
 bw:RowKit.Below w0.heap.size w0 w
 r3:zb w g3 #[.slice (some ⟨g,0,none⟩) n n]
 rg:w.heap[g]? = some (.cells (blC acc) 4)
 xt:zb w b #[str c]
theorem DJ.sf{w0:World}{g3 g b n:Nat}{c:List UInt8}{acc:List Bool}{w:World}(h:DJ w0 g3 g b n c acc w){N:Nat}{w':World}(hs:Sf N w w')(hN:w0.heap.size≤N):DJ w0 g3 g b n c acc w':=
 ⟨h.bw.trans (hs.bl.mono hN),hs.row h.r3,hs.ce _ _ h.rg rfl,hs.row h.xt⟩
theorem store_bool{w:World}{g p:Nat}{l:List Bool}(v:Bool)(h:w.heap[g]? = some (.cells (blC l) 4))(hp:p<l.length):(storeVar 4 ⟨g,p,none⟩ (.bool v)).run prog w=.ok () (w.setRow g (blC (l.set p v))):=by
 have hs:=run_storeCells_at prog g p 4 [Value.bool v] 0 (blC l) w h (by simp[blC_size];omega) (fun u hu=>by simp only[List.mem_singleton]at hu;subst hu;rfl);obtain⟨i,hi,_,h1,_⟩:=hI4;have e:((blC l).toList.take (p+0)++[Value.bool v]++(blC l).toList.drop (p+0+1)).toArray=blC (l.set p v):=by
  rw[← blC_set];apply Array.ext';rw[Array.toList_setIfInBounds,List.set_eq_take_append_cons_drop,if_pos (by simp[blC];exact hp)];simp
 rw[show([Value.bool v]:List Value).length=1 from rfl,e]at hs;simpa [storeVar,sizeOf,typeInfo,hi,h1,Value.cells]using hs
theorem set_grow{w:World}{g:Nat}{cs old:Array Value}{t:TypeId}(h:w.heap[g]? = some (.cells old t)):zq (fun k=>k≠g) w (w.setRow g cs)∧(w.setRow g cs).heap[g]? = some (.cells cs t):=by
 refine⟨⟨rfl,rfl,rfl,by simp[World.setRow],fun k hk hne=>?_⟩,?_⟩
 ·simp[World.setRow,Array.getElem?_modify,Ne.symm hne]
 ·simp[World.setRow,Array.getElem?_modify,h]
theorem dests_any(c:List UInt8)(hc:c.length<100000000)(w:World):Calls prog 147 #[str c] w fun e w'=>∃ g,e=.returned (.slice (some ⟨g,0,none⟩) c.length c.length)∧w.heap.size≤g∧w'.heap[g]? = some (.cells (blC (dsN c)) 4)∧RowKit.Below w.heap.size w w':=by
 refine inM (J:=RowKit.Below w.heap.size w) (F:=(· < w.heap.size)) 6 func147 (RowKit.Below.refl _ _) fun a I=>?_;refine goZ [lnO c] I fun β a w1 I1 hb=>?_;refine mksQ (t:=100) (x:=Sum.inl (Z c.length)) (y:=Sum.inl (Z c.length)) I1 (make_bools c.length hc w1) ?_;have I2:=I1.lay (zd w) (.cells (blC (List.replicate c.length false)) 4) (.slice (some ⟨w1.heap.size,0,none⟩) c.length c.length);have R2:=(zd w).lay w1.heap.size (.cells (blC (List.replicate c.length false)) 4);have hgs:=I1.hJ.size;generalize w1.heap.size=g,w1.alloc (.cells (blC (List.replicate c.length false)) 4)=w2 at *
 refine goQ [] R2 I2 fun β a w3 I3 hb=>?_;refine mcall (f:=215) (ss:=[Sum.inl (str c)]) func215 I3 ((pieces_any c w3).mono fun e w4 he=>?_);obtain⟨b,rfl,hbs,hrow,hbl⟩:=he;have I4:=I3.moved (J':=fun w'=>(RowKit.Below w.heap.size w w'∧w'.heap[g]? = some (.cells (blC (List.replicate c.length false)) 4))∧zb w' b #[str c]) (F':=fun k=>(k<w.heap.size∨k=g)∨k=b) (zq.of_below hbl)
  ⟨R2.loc _ _ I3.hJ (zq.of_below hbl),hrow⟩ (fun k hk h=>h.elim id fun e=>by omega) (.func (.func 287) #[] #[.pointer (some ⟨b,0,none⟩)])
 have R4:y8 (fun w'=>(RowKit.Below w.heap.size w w'∧w'.heap[g]? = some (.cells (blC (List.replicate c.length false)) 4))∧zb w' b #[str c]) (fun k=>(k<w.heap.size∨k=g)∨k=b):=by
  refine⟨fun A B h gr=>⟨R2.loc A B h.1 ⟨gr.os,gr.tape,gr.output,gr.size,fun k hk hF=>gr.block k hk (.inl hF)⟩,?_⟩,fun A k h hk=>?_⟩
  ·obtain⟨t,ht⟩:=h.2;exact⟨t,by rw[gr.block b (Array.getElem?_eq_some_iff.1 ht).1 (.inr rfl)];exact ht⟩
  ·rcases hk with hk|rfl
   ·exact R2.lt A k h.1 hk
   ·exact h.2.lt
 refine goQ [] R4 I4 fun β a w5 I5 hb5=>?_;obtain⟨g3,hg3⟩:∃ g3,β 0=g3:=⟨_,rfl⟩
 have hr3:=I5.rowG 0 hg3 (r:=#[.slice (some ⟨g,0,none⟩) c.length c.length]);have hn3:g3≠g:=fun e=>I5.dis _ (yk (id:=0) (c:=#[.slice (some ⟨g,0,none⟩) c.length c.length]) (by kernel_rfl)) (.inl (.inr (hg3.trans e)))
 have hw5:=I5.hJ.1.1.size;have hbg:b≠g:=by have:=(Array.getElem?_eq_some_iff.1 I3.hJ.2).1;omega
 have hb3:g3≠b:=fun e=>I5.dis _ (yk (id:=0) (c:=#[.slice (some ⟨g,0,none⟩) c.length c.length]) (by kernel_rfl)) (.inr (hg3.trans e))
 refine rangeQ 6 (by decide) func287 (pieces_seq 5 b c hc) I5 (fun i W=>DJ w g3 g b c.length c (((pc 0 c).take i).foldl dsS (List.replicate c.length false)) W∧w5.heap.size≤W.heap.size) (fun _ _=>False)
  (fun i A h=>h.1.xt) (fun i A h=>h.2) (fun i A B h hs=>⟨h.1.sf hs hw5,Nat.le_trans h.2 hs.bl.size⟩) (fun cc A B h hs=>h) ⟨⟨I5.hJ.1.1,hr3,I5.hJ.1.2,I5.hJ.2⟩,Nat.le_refl _⟩ (fun i=>by kernel_rfl)
  (fun i=>parV [11,12,4,5] ((pcE (pc 0 c) i).toList++(pcE (pc 0 c) i).toList) I5.cfg.tm) ?_ ?_ ?_ (fun D cc W a' _ h=>h.elim)
 ·intro l i W K a' IA hK;have hA:rfA I5.cfg=(Code.region 3 (regO Tryz.f147 3) false).seq (Code.region 4 (regO Tryz.f147 4) false):=by kernel_rfl
  show(rfA I5.cfg).wpIn _ _ _ _ _ _;rw[hA];refine wpIn_seq (regR IA fun IA=>?_);refine goQ [] (zd W) IA fun β1 a1 w1 IB hb1=>?_;refine atN (regR IB fun IB=>?_);refine goQ [] (zd W) IB fun β2 a2 w2 IC hb2=>?_;exact atN (hK a2 w2 IC.hJ (IC.frE (nx:=1) (agN hb1 hb2) _) IC.df)
 ·rintro l i a' W hi ⟨hDJ,hsz⟩ hfr hdf;obtain⟨m,hm⟩:∃ m,(pc 0 c)[i]? = some m:=⟨_,List.getElem?_eq_getElem hi⟩
  have hmD:(pc 0 c).getD i (0,[])=m:=by rw[List.getD_eq_getElem?_getD,hm];rfl
  obtain⟨hm1,hm2⟩:=pcF_mem _ _ _ m (List.mem_of_getElem? hm);have hacc:((pc 0 c).take (i+1)).foldl dsS (List.replicate c.length false)=dsS (((pc 0 c).take i).foldl dsS (List.replicate c.length false)) m:=by rw[List.take_add_one,hm];simp
  have hal:(((pc 0 c).take i).foldl dsS (List.replicate c.length false)).length=c.length:=by rw[dsF_len];simp
  obtain⟨p,s⟩:=m;simp only[]at hm1 hm2;obtain⟨x,r,rfl⟩:∃ x r,s=x::r:=by
   cases s with
   | nil=>exact absurd rfl hm2
   | cons x r=>exact⟨x,r,rfl⟩
  simp only[pcE,hmD]at hfr;generalize ((pc 0 c).take i).foldl dsS (List.replicate c.length false)=acc at *;have hB:rfB I5.cfg=Code.block 1 (.region 5 (regO Tryz.f147 5) true):=by kernel_rfl
  show(rfB I5.cfg).wpIn _ _ _ _ _ _;rw[hB];refine wpIn_block ?_;have R:y8 (fun w'=>zq (fun k=>k≠g3) W w') (fun k=>k<W.heap.size∧k≠g3):=⟨fun A B h gr=>⟨gr.os.trans h.os,gr.tape.trans h.tape,gr.output.trans h.output,Nat.le_trans h.size gr.size,fun k hk hF=>(gr.block k (Nat.lt_of_lt_of_le hk h.size) ⟨hk,hF⟩).trans (h.block k hk hF)⟩,fun A k h hk=>Nat.lt_of_lt_of_le hk.1 h.size⟩
  have IR:SI (fun w'=>zq (fun k=>k≠g3) W w') (fun k=>k<W.heap.size∧k≠g3) [] β (cfC (.region 5 (regO Tryz.f147 5) true) (parV [11,12,4,5] [Z (p:Nat),str (x::r),Z (p:Nat),str (x::r)] I5.cfg.tm) [(0,#[.slice (some ⟨g,0,none⟩) c.length c.length])] 1) a' W:=by
   refine⟨hfr,hdf,zq.refl _ _,?_,?_,?_,?_,by kernel_rfl⟩
   ·intro q hq;simp only[List.mem_singleton]at hq;subst hq;exact hg3 ▸ hDJ.r3
   ·intro q hq;simp only[List.mem_singleton]at hq;subst hq;exact fun h=>h.2 hg3
   ·intro q hq;simp only[List.mem_singleton]at hq;subst hq;exact Nat.one_pos
   ·intro q hq q' hq' hne;simp only[List.mem_singleton]at hq hq';subst hq;subst hq';exact absurd rfl hne
  refine drwR (T:=fun _=>True) 6 [iO 9 (p:=str (x::r)) (i:=Z (0:Nat)) (v:=b8 x.toNat) (idx_run rfl),bO .eql 5 (eqB_run (x:=x) (y:=91) (q:=decide (x=91)) rfl),iA 100 underlying100 (sz:=1) (by kernel_rfl) (g:=g) (off:=0) (n:=c.length) (cap:=c.length) (i:=p) (by omega)] R (fun _ _=>trivial) ⟨fun ch a a' w _ h=>h⟩ IR fun a2 w2 I2=>?_;have hgw:w2.heap[g]? = some (.cells (blC acc) 4):=(I2.hJ.block g (Array.getElem?_eq_some_iff.1 hDJ.rg).1 (Ne.symm hn3)).trans hDJ.rg;have hst:=store_bool (p:=p) (decide (x=91)) hgw (by omega);have hsg:=set_grow (cs:=blC (acc.set p (decide (x=91)))) hgw
  have hbw:g≥w.heap.size:=hgs;refine stoQ (ad:=⟨g,0+p*1,none⟩) (v:=.bool (decide (x=91))) I2 (by rw[Nat.zero_add,Nat.mul_one];exact hst) ?_;refine atE ?_;have hGW:zq (fun k=>k≠g3∧k≠g) W (w2.setRow g (blC (acc.set p (decide (x=91))))):=by
   refine⟨hsg.1.os.trans I2.hJ.os,hsg.1.tape.trans I2.hJ.tape,hsg.1.output.trans I2.hJ.output,Nat.le_trans I2.hJ.size hsg.1.size,fun k hk h=>(hsg.1.block k (Nat.lt_of_lt_of_le hk I2.hJ.size) h.2).trans (I2.hJ.block k hk h.1)⟩
  have h3:zb w2 g3 #[.slice (some ⟨g,0,none⟩) c.length c.length]:=I2.rowG 0 hg3;have hg3w:w.heap.size≤g3:=by
   have:=I5.dis _ (yk (id:=0) (c:=#[.slice (some ⟨g,0,none⟩) c.length c.length]) (by kernel_rfl));rw[hg3]at this;exact Nat.le_of_not_lt fun h=>this (.inl (.inl h))
  refine⟨KeepsFrom.of_grow hGW fun k o hk ho=>⟨?_,?_⟩,⟨?_,?_,?_,?_⟩,Nat.le_trans hsz hGW.size⟩
  ·rintro rfl;obtain⟨t,ht⟩:=hDJ.r3;rw[ht]at hk;cases hk;cases ho
  ·rintro rfl;rw[hDJ.rg]at hk;cases hk;cases ho
  ·exact⟨hGW.os.trans hDJ.bw.os,hGW.tape.trans hDJ.bw.tape,hGW.output.trans hDJ.bw.output,Nat.le_trans hDJ.bw.size hGW.size,fun k hk=>(hGW.block k (Nat.lt_of_lt_of_le hk hDJ.bw.size) ⟨by omega,by omega⟩).trans (hDJ.bw.block k hk)⟩
  ·exact h3.set_other _ (Ne.symm hn3)
  ·rw[hacc];refine hsg.2.trans ?_;simp[dsS]
  ·obtain⟨t,ht⟩:=hDJ.xt;refine⟨t,(hGW.block b (Array.getElem?_eq_some_iff.1 ht).1 ⟨?_,?_⟩).trans ht⟩
   ·exact Ne.symm hb3
   ·exact hbg
 ·rintro D W a' hD ⟨hDJ,hsz⟩ hDD htm hdf;have hg3w:w.heap.size≤g3:=by
   have:=I5.dis _ (yk (id:=0) (c:=#[.slice (some ⟨g,0,none⟩) c.length c.length]) (by kernel_rfl));rw[hg3]at this;exact Nat.le_of_not_lt fun h=>this (.inl (.inl h))
  have hfin:(((pc 0 c).take (pc 0 c).length).foldl dsS (List.replicate c.length false))=dsN c:=by rw[List.take_length];rfl
  rw[hfin]at hDJ;have hgl:=(Array.getElem?_eq_some_iff.1 hDJ.rg).1;have hDl:=(Array.getElem?_eq_some_iff.1 hDD).1;have R:y8 (fun w'=>zq (fun k=>k≠g3) W w') (fun k=>k<W.heap.size∧k≠g3):=⟨fun A B h gr=>⟨gr.os.trans h.os,gr.tape.trans h.tape,gr.output.trans h.output,Nat.le_trans h.size gr.size,fun k hk hF=>(gr.block k (Nat.lt_of_lt_of_le hk h.size) ⟨hk,hF⟩).trans (h.block k hk hF)⟩,fun A k h hk=>Nat.lt_of_lt_of_le hk.1 h.size⟩
  have IR:SI (fun w'=>zq (fun k=>k≠g3) W w') (fun k=>k<W.heap.size∧k≠g3) [{ target:=.collected D,args:=#[] }] β (cfQ (rfK I5.cfg) I5.cfg.tm [(0,#[.slice (some ⟨g,0,none⟩) c.length c.length])] 1) a' W:=by
   refine⟨htm.trans I5.fr,hdf,zq.refl _ _,?_,?_,?_,?_,by kernel_rfl⟩
   ·intro q hq;simp only[List.mem_singleton]at hq;subst hq;exact hg3 ▸ hDJ.r3
   ·intro q hq;simp only[List.mem_singleton]at hq;subst hq;exact fun h=>h.2 hg3
   ·intro q hq;simp only[List.mem_singleton]at hq;subst hq;exact Nat.one_pos
   ·intro q hq q' hq' hne;simp only[List.mem_singleton]at hq hq';subst hq;subst hq';exact absurd rfl hne
  refine atK IR fun IR=>?_;refine goQ [] R IR fun β6 a6 w6 I6 hb6=>?_;have hD3:D≠g3:=by
   rintro rfl;obtain⟨t,ht⟩:=hDJ.r3;rw[ht]at hDD;cases hDD
  have hDg:D≠g:=by
   rintro rfl;rw[hDJ.rg]at hDD;cases hDD
  have hD6:=(I6.hJ.block D hDl hD3).trans hDD;refine outM (v:=.slice (some ⟨g,0,none⟩) c.length c.length) I6 hD6 ⟨g,rfl,hgs,?_,?_⟩
  ·exact(World.putObj_heap_other (Ne.symm hDg)).trans ((I6.hJ.block g hgl (Ne.symm hn3)).trans hDJ.rg)
  ·have hb6:RowKit.Below w.heap.size w w6:=⟨I6.hJ.os.trans hDJ.bw.os,I6.hJ.tape.trans hDJ.bw.tape,I6.hJ.output.trans hDJ.bw.output,Nat.le_trans hDJ.bw.size I6.hJ.size,fun k hk=>(I6.hJ.block k (Nat.lt_of_lt_of_le hk hDJ.bw.size) (by omega)).trans (hDJ.bw.block k hk)⟩
   exact hb6.trans (belowPut _ _ (by omega))
end
end Go.Proofs.YthkpgfbjdabflaaGreatDoor
