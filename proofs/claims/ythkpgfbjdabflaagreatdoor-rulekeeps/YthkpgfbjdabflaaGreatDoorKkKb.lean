/- Laid one behind the other: Kb, Kc, Kd. -/
import Derived.Test.YthkpgfbjdabflaaGreatDoorKkKa
import Derived.Test.YthkpgfbjdabflaaGreatDoorKkHn
namespace Go.Proofs.YthkpgfbjdabflaaGreatDoor
open Go.RowKit Go.Sort Tryz
set_option linter.unusedVariables false
set_option maxRecDepth 100000
set_option maxHeartbeats 4000000
abbrev b8 (n:Nat):Value:=.int .u8 (n:Int)
theorem run_leq8{x y:Int}{b:Bool}(h:decide (x≤y)=b)(o1 o2:Operand)(w:World):(do eqGuard .leq 5 o1 o2 (.int .u8 x) (.int .u8 y);binOp .leq 5 (.int .u8 x) (.int .u8 y):Sem Value).run prog w=.ok (.bool b) w:=by simp[go_sem,h]
theorem run_lss8{x y:Int}{b:Bool}(h:decide (x<y)=b)(o1 o2:Operand)(w:World):(do eqGuard .lss 5 o1 o2 (.int .u8 x) (.int .u8 y);binOp .lss 5 (.int .u8 x) (.int .u8 y):Sem Value).run prog w=.ok (.bool b) w:=by simp[go_sem,h]
theorem run_geq8{x y:Int}{b:Bool}(h:decide (y≤x)=b)(o1 o2:Operand)(w:World):(do eqGuard .geq 5 o1 o2 (.int .u8 x) (.int .u8 y);binOp .geq 5 (.int .u8 x) (.int .u8 y):Sem Value).run prog w=.ok (.bool b) w:=by simp[go_sem,h]
theorem run_eql8{x y:Int}{b:Bool}(h:decide (x=y)=b)(o1 o2:Operand)(w:World):(do eqGuard .eql 5 o1 o2 (.int .u8 x) (.int .u8 y);binOp .eql 5 (.int .u8 x) (.int .u8 y):Sem Value).run prog w=.ok (.bool b) w:=by
 subst h;by_cases hx:x=y
 ·simp[go_sem,hx]
 ·simp[go_sem,hx]
theorem wrap8{n:Int}(h0:0≤n)(h:n<256):IntKind.u8.wrap n=n:=by unfold IntKind.wrap;simp[IntKind.signed,IntKind.bits];omega
theorem run_sub8{x y z:Int}(h:IntKind.u8.wrap (x-y)=z)(o1 o2:Operand)(w:World):(do eqGuard .sub 5 o1 o2 (.int .u8 x) (.int .u8 y);binOp .sub 5 (.int .u8 x) (.int .u8 y):Sem Value).run prog w=.ok (.int .u8 z) w:=by simp[go_sem,h]
theorem vu(n:Nat)(h:n<256)(w:World):(convert 5 3 (b8 n)).run prog w=.ok (Z n) w:=by
 have:IntKind.i64.wrap (n:Int)=n:=wz (by omega) (by omega);simp[go_sem,this]
theorem run_not{b:Bool}(w:World):(Op.unary .not (.bool b)).run prog w=.ok (.bool !b) w:=by simp[go_sem]
def mnO {T:World→Prop} {x y z:Int} (h:(if y<x then y else x)=z):Fa prog T:=Sum.inr (Sum.inr
 ⟨fun o=>match o with | .call { callee:=.builtin .min,.. }=>true | _=>false,#[Z x,Z y],Z z,true,by
  intro a w oo _ hok hx;cases hop:oo.op with
  | call cc=>
   rw[hop]at hok hx;obtain⟨callee,xs,ts⟩:=cc;cases callee with
   | builtin bb=>
    cases bb with
    | min=>
     have hx':xs.map a.eval=#[Z x,Z y]:=by
      rw[← hx];apply Array.ext';simp[qx]
     unfold execOp;simp[hop,go_sem,hx',Builtin.min_,Builtin.min2,h]
    | _=>simp at hok
   | _=>simp at hok
  | _=>rw[hop]at hok;simp at hok⟩)
theorem str_len(l:List UInt8):((⟨l.toArray⟩:ByteArray).size:Int)=l.length:=by rw[xw]
abbrev lnO {T:World→Prop} (l:List UInt8):Fa prog T:=lO underlying9 (b:=⟨l.toArray⟩) (n:=l.length) (str_len l)
theorem cells_row{w:World}{g:Nat}{c:Array Value}(h:zb w g c)(o n:Nat)(h2:o+n≤c.size):yi w g o (c.extract o (o+n)).toList:=by
 intro j v hv;rw[h.cell];rw[Array.getElem?_toList,Array.getElem?_extract]at hv;split at hv
 ·exact hv
 ·cases hv
theorem SI.lay{J:World→Prop}{F:Nat→Prop}{ds:List Deferred}{β:Nat→Nat}{c:Cf}{a:Act}{w:World}(I:SI J F ds β c a w)(R:y8 J F)(o:Obj)(r:Value):SI (fun w'=>J w'∧w'.heap[w.heap.size]? = some o) (fun k=>F k∨k=w.heap.size) ds β (xp c r) (a.put (yt c) r) (w.alloc o):=
 I.moved (zq.of_below (xc w o)) ⟨R.loc w _ I.hJ (zq.of_below (xc w o)),Array.getElem?_push_size⟩ (fun k hk h=>h.elim id fun e=>by omega) r
theorem y8.lay{J:World→Prop}{F:Nat→Prop}(R:y8 J F)(g:Nat)(o:Obj):y8 (fun w'=>J w'∧w'.heap[g]? = some o) (fun k=>F k∨k=g):=by
 refine⟨fun w w' h gr=>⟨R.loc w w' h.1 ⟨gr.os,gr.tape,gr.output,gr.size,fun k hk hF=>gr.block k hk (.inl hF)⟩,?_⟩,fun w k h hk=>?_⟩
 ·rw[gr.block g (Array.getElem?_eq_some_iff.1 h.2).1 (.inr rfl)];exact h.2
 ·rcases hk with hk|rfl
  ·exact R.lt w k h.1 hk
  ·exact(Array.getElem?_eq_some_iff.1 h.2).1
theorem conv_new(w:World)(l:List UInt8)(hl:l.length<1000000000):(convert 53 9 (.slice (some ⟨w.heap.size,0,none⟩) l.length l.length)).run prog (w.alloc (.cells (bc l).toArray 5))=.ok (str l) (w.alloc (.cells (bc l).toArray 5)):=by
 refine text_own (b:=w.heap.size) (l:=l) ⟨by simp[bc],.inr ⟨w.heap.size,l.length,(bc l).toArray,rfl,Nat.le_refl _,heap_alloc_last w _,Nat.le_refl _,?_,by simp[bc],?_⟩⟩
 ·simp only[maxLen];omega
 ·simp only[Nat.mul_one];rw[List.take_of_length_le (by simp[bc])]
theorem u8_lt(b:UInt8):b.toNat<256:=b.toNat_lt
def jlT {T:World→Prop} (x y:Int) (h:x<y:=by omega):Fa Tryz.prog T:=bO .lss 5 (run_lss8 (x:=x) (y:=y) (b:=true) (decide_eq_true h))
def jlF {T:World→Prop} (x y:Int) (h:¬ (x<y):=by omega):Fa Tryz.prog T:=bO .lss 5 (run_lss8 (x:=x) (y:=y) (b:=false) (decide_eq_false h))
def jmT {T:World→Prop} (x y:Int) (h:x≤y:=by omega):Fa Tryz.prog T:=bO .leq 5 (run_leq8 (x:=x) (y:=y) (b:=true) (decide_eq_true h))
def jmF {T:World→Prop} (x y:Int) (h:¬ (x≤y):=by omega):Fa Tryz.prog T:=bO .leq 5 (run_leq8 (x:=x) (y:=y) (b:=false) (decide_eq_false h))
def jhT {T:World→Prop} (x y:Int) (h:y≤x:=by omega):Fa Tryz.prog T:=bO .geq 5 (run_geq8 (x:=x) (y:=y) (b:=true) (decide_eq_true h))
def jhF {T:World→Prop} (x y:Int) (h:¬ (y≤x):=by omega):Fa Tryz.prog T:=bO .geq 5 (run_geq8 (x:=x) (y:=y) (b:=false) (decide_eq_false h))
def jeT {T:World→Prop} (x y:Int) (h:x=y:=by omega):Fa Tryz.prog T:=bO .eql 5 (run_eql8 (x:=x) (y:=y) (b:=true) (decide_eq_true h))
def jeF {T:World→Prop} (x y:Int) (h:¬ (x=y):=by omega):Fa Tryz.prog T:=bO .eql 5 (run_eql8 (x:=x) (y:=y) (b:=false) (decide_eq_false h))
def numN (n:Nat):Nat:=if 96≤n∧n<128 then n-95 else if 128≤n∧n<144 then n-127 else if 144≤n∧n<160 then n-143 else 0
def ownN (n:Nat):Nat:=if 128≤n then 0 else numN n
theorem numN_lt(n:Nat):numN n<33:=by unfold numN;split<;>(try split)<;>(try split)<;>omega
theorem ownN_lt(n:Nat):ownN n<33:=by
 unfold ownN;split
 ·omega
 ·exact numN_lt n
theorem cnumber_any(n:Nat)(hn:n<256):RT 286 #[b8 n] (Z (numN n:Nat)):=by
 refine fun w=>inZ func286 fun a I=>?_;by_cases h1:96≤n
 ·by_cases h2:n<128
  ·refine goZ [jmT 96 n,jlT n 128,bO .sub 5 (run_sub8 (x:=n) (y:=96) (z:=(n-96:Nat)) (by rw[wrap8 (by omega) (by omega)];omega)),vO 5 3 (vu (n-96) (by omega)),kaZ (n-96:Nat) 1 (n-95:Nat)] I fun β a w1 I hb=>?_;have:numN n=n-95:=by unfold numN;rw[if_pos ⟨h1,h2⟩]
   rw[this];exact ye (v:=Z (n-95:Nat)) I
  ·by_cases h3:n<144
   ·refine goZ [jmT 96 n,jlF n 128,jmT 128 n,jlT n 144,bO .sub 5 (run_sub8 (x:=n) (y:=128) (z:=(n-128:Nat)) (by rw[wrap8 (by omega) (by omega)];omega)),vO 5 3 (vu (n-128) (by omega)),kaZ (n-128:Nat) 1 (n-127:Nat)] I fun β a w1 I hb=>?_;have:numN n=n-127:=by unfold numN;rw[if_neg (by omega),if_pos (by omega)]
    rw[this];exact ye (v:=Z (n-127:Nat)) I
   ·by_cases h4:n<160
    ·refine goZ [jmT 96 n,jlF n 128,jmT 128 n,jlF n 144,jmT 144 n,jlT n 160,bO .sub 5 (run_sub8 (x:=n) (y:=144) (z:=(n-144:Nat)) (by rw[wrap8 (by omega) (by omega)];omega)),vO 5 3 (vu (n-144) (by omega)),kaZ (n-144:Nat) 1 (n-143:Nat)] I fun β a w1 I hb=>?_;have:numN n=n-143:=by unfold numN;rw[if_neg (by omega),if_neg (by omega),if_pos (by omega)]
     rw[this];exact ye (v:=Z (n-143:Nat)) I
    ·refine goZ [jmT 96 n,jlF n 128,jmT 128 n,jlF n 144,jmT 144 n,jlF n 160] I fun β a w1 I hb=>?_;have:numN n=0:=by unfold numN;rw[if_neg (by omega),if_neg (by omega),if_neg (by omega)]
     rw[this];exact ye (v:=Z 0) I
 ·refine goZ [jmF 96 n,jmF 128 n,jmF 144 n] I fun β a w1 I hb=>?_;have:numN n=0:=by unfold numN;rw[if_neg (by omega),if_neg (by omega),if_neg (by omega)]
  rw[this];exact ye (v:=Z 0) I
theorem owned_any(n:Nat)(hn:n<256):RT 288 #[b8 n] (Z (ownN n:Nat)):=by
 refine fun w=>inZ func288 fun a I=>?_;by_cases h1:128≤n
 ·refine goZ [jhT n 128] I fun β a w1 I hb=>?_;have:ownN n=0:=by unfold ownN;rw[if_pos h1]
  rw[this];exact ye (v:=Z 0) I
 ·refine goZ [jhF n 128,kC func286 (cnumber_any n hn)] I fun β a w1 I hb=>?_;have:ownN n=numN n:=by unfold ownN;rw[if_neg h1]
  rw[this];exact ye (v:=Z (numN n:Nat)) I
abbrev OpR:Type:=List UInt8×Nat×Nat×Nat
def opD:OpR:=([],0,0,0)
def rwV (r:OpR):List Value:=[str r.1,Z (r.2.1:Nat),Z (r.2.2.1:Nat),Z (r.2.2.2:Nat)]
def stopL:List OpR:=[([83,84,79,80],0,0,0),([65,68,68],2,1,3),([77,85,76],2,1,5),([83,85,66],2,1,3),([68,73,86],2,1,5),([83,68,73,86],2,1,5),([77,79,68],2,1,5),([83,77,79,68],2,1,5),([65,68,68,77,79,68],3,1,8),([77,85,76,77,79,68],3,1,8),([69,88,80],2,1,10),([83,73,71,78,69,88,84,69,78,68],2,1,5)]
def lessL:List OpR:=[([76,84],2,1,3),([71,84],2,1,3),([83,76,84],2,1,3),([83,71,84],2,1,3),([69,81],2,1,3),([73,83,90,69,82,79],1,1,3),([65,78,68],2,1,3),([79,82],2,1,3),([88,79,82],2,1,3),([78,79,84],1,1,3),([66,89,84,69],2,1,3),([83,72,76],2,1,3),([83,72,82],2,1,3),([83,65,82],2,1,3)]
def inputL:List OpR:=[([67,65,76,76,68,65,84,65,76,79,65,68],1,1,3),([67,65,76,76,68,65,84,65,83,73,90,69],0,1,2),([67,65,76,76,68,65,84,65,67,79,80,89],3,0,3),([67,79,68,69,83,73,90,69],0,1,2),([67,79,68,69,67,79,80,89],3,0,3)]
def popL:List OpR:=[([80,79,80],1,0,2),([77,76,79,65,68],1,1,3),([77,83,84,79,82,69],2,0,3),([77,83,84,79,82,69,56],2,0,3),([],0,0,0),([],0,0,0),([74,85,77,80],1,0,8),([74,85,77,80,73],2,0,10),([80,67],0,1,2),([77,83,73,90,69],0,1,2),([71,65,83],0,1,2),([74,85,77,80,68,69,83,84],0,0,1),([],0,0,0),([],0,0,0),([],0,0,0),([80,85,83,72,48],0,1,2)]
def tabC (l:List OpR):Array Value:=(l.flatMap rwV).toArray
structure Tb (w:World):Prop where
 r0:qp w 0 (tabC stopL)
 r1:qp w 1 (tabC lessL)
 r2:qp w 2 (tabC inputL)
 r3:qp w 3 (tabC popL)
theorem Tb.below{w w':World}(h:Tb w)(hb:Below w.heap.size w w'):Tb w':=⟨h.r0.below hb,h.r1.below hb,h.r2.below hb,h.r3.below hb⟩
theorem tab_len:∀(l:List OpR),(l.flatMap rwV).length=4*l.length
 | []=>rfl
 | r::l=>by rw[List.flatMap_cons,List.length_append,tab_len l];simp[rwV];omega
theorem tab_get:∀(l:List OpR) (i j:Nat),i<l.length→j<4→(l.flatMap rwV)[4*i+j]? = (rwV (l.getD i opD))[j]?
 | [],i,j,h,_=>by simp at h
 | r::l,0,j,_,hj=>by
  rw[List.flatMap_cons,List.getElem?_append_left (by simp[rwV];omega)];simp
 | r::l,i+1,j,h,hj=>by
  have e:(rwV r).length=4:=rfl;rw[List.flatMap_cons,List.getElem?_append_right (by rw[e];omega),e,show 4*(i+1)+j-4=4*i+j by omega,tab_get l i j (by simpa using h) hj];simp
theorem tab_cells{w:World}{g:Nat}{l:List OpR}(h:qp w g (tabC l))(i:Nat)(hi:i<l.length):yi w g (0+4*i) (rwV (l.getD i opD)):=by
 obtain⟨t,fr,h⟩:=h;intro j c hc;have hj:j<4:=by have:=(List.getElem?_eq_some_iff.1 hc).1;simpa [rwV]using this
 rw[← tab_get l i j hi hj]at hc;simp only[World.cell?,h];rw[show 0+4*i+j=4*i+j by omega];simpa [tabC]using hc
theorem tab_load{w:World}{g:Nat}{l:List OpR}(h:qp w g (tabC l))(i:Nat)(hi:i<l.length):(loadVar 166 ⟨g,0+4*i,none⟩).run prog w=.ok (.agg (rwV (l.getD i opD)).toArray) w:=
 loadN underlying166 rfl (n:=4) (by kernel_rfl) rfl (tab_cells h i hi)
theorem io_stop:∀ n:Fin 12,ioV prog 182 (n.val:Int)=some (4*n.val):=by decide +kernel
theorem io_less:∀ n:Fin 14,ioV prog 183 (n.val:Int)=some (4*n.val):=by decide +kernel
theorem io_input:∀ n:Fin 5,ioV prog 184 (n.val:Int)=some (4*n.val):=by decide +kernel
theorem io_pop:∀ n:Fin 16,ioV prog 185 (n.val:Int)=some (4*n.val):=by decide +kernel
def numP (n:Nat):OpR:=if numN n=0 then opD else if n<128 then([80,85,83,72],0,1,3)else if n<144 then([68,85,80],numN n,numN n+1,3)else([83,87,65,80],numN n+1,numN n+1,3)
def opP (n:Nat):OpR:=if n<12 then stopL.getD n opD else if n<16 then numP n else if n<30 then lessL.getD (n-16) opD else if n<32 then numP n else if n<33 then([75,69,67,67,65,75,50,53,54],2,1,30)else if n<53 then numP n else if n<58 then inputL.getD (n-53) opD else if n<80 then numP n else if n<96 then popL.getD (n-80) opD else if n<243 then numP n else if n<244 then([82,69,84,85,82,78],2,0,0)else if n<253 then numP n else if n<254 then([82,69,86,69,82,84],2,0,0)else if n<255 then([73,78,86,65,76,73,68],0,0,0)else numP n
theorem bd166(s:List UInt8)(t l g:Nat)(w:World):(Instr.build 166 (([0,1,2,3]:List Nat).zip (rwV (s,t,l,g))).toArray).run prog w=.ok (.agg (rwV (s,t,l,g)).toArray) w:=by kernel_rfl
theorem bd166_(w:World):(Instr.build 166 (([]:List Nat).zip []).toArray).run prog w=.ok (.agg (rwV opD).toArray) w:=by kernel_rfl
theorem numbered_any(n:Nat)(hn:n<256):RT 213 #[b8 n] (.agg (rwV (numP n)).toArray):=by
 intro w;have hk:=cnumber_any n hn;have hl:=numN_lt n;unfold numP;generalize numN n=m at *;refine inZ func213 fun a I=>?_;by_cases h0:m=0
 ·subst h0;refine goZ [kC func286 hk,bO .eql 3 (y5 (x:=(0:Nat)) (y:=0) (b:=true) (by simp)),dO 166 [] bd166_] I fun β a w1 I hb=>?_;exact ye (v:=.agg (rwV opD).toArray) I
 ·rw[if_neg h0];by_cases h1:n<128
  ·rw[if_pos h1];refine goZ [kC func286 hk,keF m 0,jlT n 128,dO 166 [0,1,2,3] (bd166 [80,85,83,72] 0 1 3)] I fun β a w1 I hb=>?_;exact ye (v:=.agg (rwV ([80,85,83,72],0,1,3)).toArray) I
  ·rw[if_neg h1];by_cases h2:n<144
   ·rw[if_pos h2];refine goZ [kC func286 hk,keF m 0,jlF n 128,jlT n 144,kaZ m 1 (m+1:Nat),dO 166 [0,1,2,3] (bd166 [68,85,80] m (m+1) 3)] I fun β a w1 I hb=>?_;exact ye (v:=.agg (rwV ([68,85,80],m,m+1,3)).toArray) I
   ·rw[if_neg h2];refine goZ [kC func286 hk,keF m 0,jlF n 128,jlF n 144,kaZ m 1 (m+1:Nat),kaZ m 1 (m+1:Nat),dO 166 [0,1,2,3] (bd166 [83,87,65,80] (m+1) (m+1) 3)] I fun β a w1 I hb=>?_;exact ye (v:=.agg (rwV ([83,87,65,80],m+1,m+1,3)).toArray) I
theorem find_any{w:World}(hT:Tb w)(n:Nat)(hn:n<256):Calls prog 143 #[b8 n] w fun e w'=>e=.returned (.agg (rwV (opP n)).toArray)∧Below w.heap.size w w':=by
 refine inZ func143 fun a I=>?_;have hnu:∀ w',Tb w'→Calls prog 213 #[b8 n] w' fun e w''=>e=.returned (.agg (rwV (numP n)).toArray)∧Below w'.heap.size w' w'':=fun w' _=>numbered_any n hn w'
 unfold opP;by_cases c12:n<12
 ·rw[if_pos c12];have hld:∀ w',Tb w'→(loadVar 166 ⟨0,0+4*(n),none⟩).run prog w'=.ok (.agg (rwV (stopL.getD (n) opD)).toArray) w':=fun w' h=>tab_load h.r0 (n) (show n<12 by omega)
  have hio:ioV prog 182 ((n:Nat):Int)=some (4*(n)):=io_stop ⟨n,by omega⟩;generalize stopL.getD (n) opD=r at hld ⊢;obtain⟨s,t,l,g⟩:=r;refine goT (T:=Tb) [vO 5 3 (vu n hn),klT n 12,ksZ n 0 (n:Nat),iP 182 (g:=0) (off:=0) (d:=4*(n)) (i:=(n:Nat)) hio,ldA 166 hld] (zd w) (fun _ hb=>hT.below hb) I fun β a w1 I hb=>?_;exact ye (v:=.agg (rwV (s,t,l,g)).toArray) I
 rw[if_neg c12];by_cases c16:n<16
 ·rw[if_pos c16];generalize numP n=r at hnu ⊢;obtain⟨s,t,l,g⟩:=r;refine goT (T:=Tb) [vO 5 3 (vu n hn),klF n 12,kmF 16 n,keF n 32,kmF 53 n,kmF 80 n,keF n 243,keF n 253,keF n 254,cA func213 hnu] (zd w) (fun _ hb=>hT.below hb) I fun β a w1 I hb=>?_;exact ye (v:=.agg (rwV (s,t,l,g)).toArray) I
 rw[if_neg c16];by_cases c30:n<30
 ·rw[if_pos c30];have hld:∀ w',Tb w'→(loadVar 166 ⟨1,0+4*(n-16),none⟩).run prog w'=.ok (.agg (rwV (lessL.getD (n-16) opD)).toArray) w':=fun w' h=>tab_load h.r1 (n-16) (show n-16<14 by omega)
  have hio:ioV prog 183 ((n-16:Nat):Int)=some (4*(n-16)):=io_less ⟨n-16,by omega⟩;generalize lessL.getD (n-16) opD=r at hld ⊢;obtain⟨s,t,l,g⟩:=r;refine goT (T:=Tb) [vO 5 3 (vu n hn),klF n 12,kmT 16 n,klT n 30,ksZ n 16 (n-16:Nat),iP 183 (g:=1) (off:=0) (d:=4*(n-16)) (i:=(n-16:Nat)) hio,ldA 166 hld] (zd w) (fun _ hb=>hT.below hb) I fun β a w1 I hb=>?_;exact ye (v:=.agg (rwV (s,t,l,g)).toArray) I
 rw[if_neg c30];by_cases c32:n<32
 ·rw[if_pos c32];generalize numP n=r at hnu ⊢;obtain⟨s,t,l,g⟩:=r;refine goT (T:=Tb) [vO 5 3 (vu n hn),klF n 12,kmT 16 n,klF n 30,keF n 32,kmF 53 n,kmF 80 n,keF n 243,keF n 253,keF n 254,cA func213 hnu] (zd w) (fun _ hb=>hT.below hb) I fun β a w1 I hb=>?_;exact ye (v:=.agg (rwV (s,t,l,g)).toArray) I
 rw[if_neg c32];by_cases c33:n<33
 ·rw[if_pos c33];refine goT (T:=Tb) [vO 5 3 (vu n hn),klF n 12,kmT 16 n,klF n 30,keT n 32,dO 166 [0,1,2,3] (bd166 [75,69,67,67,65,75,50,53,54] 2 1 30)] (zd w) (fun _ hb=>hT.below hb) I fun β a w1 I hb=>?_;exact ye (v:=.agg (rwV ([75,69,67,67,65,75,50,53,54],2,1,30)).toArray) I
 rw[if_neg c33];by_cases c53:n<53
 ·rw[if_pos c53];generalize numP n=r at hnu ⊢;obtain⟨s,t,l,g⟩:=r;refine goT (T:=Tb) [vO 5 3 (vu n hn),klF n 12,kmT 16 n,klF n 30,keF n 32,kmF 53 n,kmF 80 n,keF n 243,keF n 253,keF n 254,cA func213 hnu] (zd w) (fun _ hb=>hT.below hb) I fun β a w1 I hb=>?_;exact ye (v:=.agg (rwV (s,t,l,g)).toArray) I
 rw[if_neg c53];by_cases c58:n<58
 ·rw[if_pos c58];have hld:∀ w',Tb w'→(loadVar 166 ⟨2,0+4*(n-53),none⟩).run prog w'=.ok (.agg (rwV (inputL.getD (n-53) opD)).toArray) w':=fun w' h=>tab_load h.r2 (n-53) (show n-53<5 by omega)
  have hio:ioV prog 184 ((n-53:Nat):Int)=some (4*(n-53)):=io_input ⟨n-53,by omega⟩;generalize inputL.getD (n-53) opD=r at hld ⊢;obtain⟨s,t,l,g⟩:=r;refine goT (T:=Tb) [vO 5 3 (vu n hn),klF n 12,kmT 16 n,klF n 30,keF n 32,kmT 53 n,klT n 58,ksZ n 53 (n-53:Nat),iP 184 (g:=2) (off:=0) (d:=4*(n-53)) (i:=(n-53:Nat)) hio,ldA 166 hld] (zd w) (fun _ hb=>hT.below hb) I fun β a w1 I hb=>?_;exact ye (v:=.agg (rwV (s,t,l,g)).toArray) I
 rw[if_neg c58];by_cases c80:n<80
 ·rw[if_pos c80];generalize numP n=r at hnu ⊢;obtain⟨s,t,l,g⟩:=r;refine goT (T:=Tb) [vO 5 3 (vu n hn),klF n 12,kmT 16 n,klF n 30,keF n 32,kmT 53 n,klF n 58,kmF 80 n,keF n 243,keF n 253,keF n 254,cA func213 hnu] (zd w) (fun _ hb=>hT.below hb) I fun β a w1 I hb=>?_;exact ye (v:=.agg (rwV (s,t,l,g)).toArray) I
 rw[if_neg c80];by_cases c96:n<96
 ·rw[if_pos c96];have hld:∀ w',Tb w'→(loadVar 166 ⟨3,0+4*(n-80),none⟩).run prog w'=.ok (.agg (rwV (popL.getD (n-80) opD)).toArray) w':=fun w' h=>tab_load h.r3 (n-80) (show n-80<16 by omega)
  have hio:ioV prog 185 ((n-80:Nat):Int)=some (4*(n-80)):=io_pop ⟨n-80,by omega⟩;generalize popL.getD (n-80) opD=r at hld ⊢;obtain⟨s,t,l,g⟩:=r;refine goT (T:=Tb) [vO 5 3 (vu n hn),klF n 12,kmT 16 n,klF n 30,keF n 32,kmT 53 n,klF n 58,kmT 80 n,klT n 96,ksZ n 80 (n-80:Nat),iP 185 (g:=3) (off:=0) (d:=4*(n-80)) (i:=(n-80:Nat)) hio,ldA 166 hld] (zd w) (fun _ hb=>hT.below hb) I fun β a w1 I hb=>?_;exact ye (v:=.agg (rwV (s,t,l,g)).toArray) I
 rw[if_neg c96];by_cases c243:n<243
 ·rw[if_pos c243];generalize numP n=r at hnu ⊢;obtain⟨s,t,l,g⟩:=r;refine goT (T:=Tb) [vO 5 3 (vu n hn),klF n 12,kmT 16 n,klF n 30,keF n 32,kmT 53 n,klF n 58,kmT 80 n,klF n 96,keF n 243,keF n 253,keF n 254,cA func213 hnu] (zd w) (fun _ hb=>hT.below hb) I fun β a w1 I hb=>?_;exact ye (v:=.agg (rwV (s,t,l,g)).toArray) I
 rw[if_neg c243];by_cases c244:n<244
 ·rw[if_pos c244];refine goT (T:=Tb) [vO 5 3 (vu n hn),klF n 12,kmT 16 n,klF n 30,keF n 32,kmT 53 n,klF n 58,kmT 80 n,klF n 96,keT n 243,dO 166 [0,1,2,3] (bd166 [82,69,84,85,82,78] 2 0 0)] (zd w) (fun _ hb=>hT.below hb) I fun β a w1 I hb=>?_;exact ye (v:=.agg (rwV ([82,69,84,85,82,78],2,0,0)).toArray) I
 rw[if_neg c244];by_cases c253:n<253
 ·rw[if_pos c253];generalize numP n=r at hnu ⊢;obtain⟨s,t,l,g⟩:=r;refine goT (T:=Tb) [vO 5 3 (vu n hn),klF n 12,kmT 16 n,klF n 30,keF n 32,kmT 53 n,klF n 58,kmT 80 n,klF n 96,keF n 243,keF n 253,keF n 254,cA func213 hnu] (zd w) (fun _ hb=>hT.below hb) I fun β a w1 I hb=>?_;exact ye (v:=.agg (rwV (s,t,l,g)).toArray) I
 rw[if_neg c253];by_cases c254:n<254
 ·rw[if_pos c254];refine goT (T:=Tb) [vO 5 3 (vu n hn),klF n 12,kmT 16 n,klF n 30,keF n 32,kmT 53 n,klF n 58,kmT 80 n,klF n 96,keF n 243,keT n 253,dO 166 [0,1,2,3] (bd166 [82,69,86,69,82,84] 2 0 0)] (zd w) (fun _ hb=>hT.below hb) I fun β a w1 I hb=>?_;exact ye (v:=.agg (rwV ([82,69,86,69,82,84],2,0,0)).toArray) I
 rw[if_neg c254];by_cases c255:n<255
 ·rw[if_pos c255];refine goT (T:=Tb) [vO 5 3 (vu n hn),klF n 12,kmT 16 n,klF n 30,keF n 32,kmT 53 n,klF n 58,kmT 80 n,klF n 96,keF n 243,keF n 253,keT n 254,dO 166 [0,1,2,3] (bd166 [73,78,86,65,76,73,68] 0 0 0)] (zd w) (fun _ hb=>hT.below hb) I fun β a w1 I hb=>?_;exact ye (v:=.agg (rwV ([73,78,86,65,76,73,68],0,0,0)).toArray) I
 rw[if_neg c255];generalize numP n=r at hnu ⊢;obtain⟨s,t,l,g⟩:=r;refine goT (T:=Tb) [vO 5 3 (vu n hn),klF n 12,kmT 16 n,klF n 30,keF n 32,kmT 53 n,klF n 58,kmT 80 n,klF n 96,keF n 243,keF n 253,keF n 254,cA func213 hnu] (zd w) (fun _ hb=>hT.below hb) I fun β a w1 I hb=>?_;exact ye (v:=.agg (rwV (s,t,l,g)).toArray) I
theorem fd3(r:OpR)(w:World):(Instr.field 166 (.agg (rwV r).toArray) 3).run prog w=.ok (Z (r.2.2.2:Nat)) w:=by kernel_rfl
theorem gas_any{w:World}(hT:Tb w)(n:Nat)(hn:n<256):Calls prog 110 #[b8 n] w fun e w'=>e=.returned (Z ((opP n).2.2.2:Nat))∧Below w.heap.size w w':=by
 have hf:∀ w',Tb w'→Calls prog 143 #[b8 n] w' fun e w''=>e=.returned (.agg (rwV (opP n)).toArray)∧Below w'.heap.size w' w'':=fun w' h=>find_any h n hn
 generalize opP n=r at *;refine inZ func110 fun a I=>?_;refine goT (T:=Tb) [cA func143 hf,fO 166 3 (fd3 r)] (zd w) (fun _ hb=>hT.below hb) I fun β a w1 I hb=>?_;exact ye (v:=Z (r.2.2.2:Nat)) I
theorem takes_any{w:World}(hT:Tb w)(n:Nat)(hn:n<256):Calls prog 140 #[b8 n] w fun e w'=>e=.returned (.tuple #[Z ((opP n).2.1:Nat),Z ((opP n).2.2.1:Nat)])∧Below w.heap.size w w':=by
 have hf:∀ w',Tb w'→Calls prog 143 #[b8 n] w' fun e w''=>e=.returned (.agg (rwV (opP n)).toArray)∧Below w'.heap.size w' w'':=fun w' h=>find_any h n hn
 generalize opP n=r at *;obtain⟨s,t,l,g⟩:=r;refine inZ func140 fun a I=>?_;refine goT (T:=Tb) [cA func143 hf] (zd w) (fun _ hb=>hT.below hb) I fun β a w1 I hb=>?_;refine dwQ 6 [] (zd w) zk.post I fun a2 w2 I=>?_;refine goZ [] I fun β3 a3 w3 I hb=>?_;exact ye (v:=.tuple #[Z (t:Nat),Z (l:Nat)]) I
end Go.Proofs.YthkpgfbjdabflaaGreatDoor
