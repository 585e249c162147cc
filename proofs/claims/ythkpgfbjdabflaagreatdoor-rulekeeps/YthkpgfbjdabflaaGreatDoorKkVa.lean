/- Laid one behind the other: Va, Vb, Vc, Vd. -/
import Derived.Test.YthkpgfbjdabflaaGreatDoorKkNa
import Derived.Test.YthkpgfbjdabflaaGreatDoorKkKj
import Derived.Test.YthkpgfbjdabflaaGreatDoorKkSn
import Derived.Test.YthkpgfbjdabflaaGreatDoorKkHk
namespace Go.Proofs.YthkpgfbjdabflaaGreatDoor
open Go.RowKit Go.Sort Tryz
set_option linter.unusedVariables false
set_option maxRecDepth 100000
set_option maxHeartbeats 4000000
structure Fr where
 code:List UInt8
 inp:List UInt8
 st:List Nat
 mem:List UInt8
 pc:Int
 gas:Int
 sd:Int
 er:Int
 out:List UInt8
def tp (s:List Nat) (k:Nat):Nat:=s.getD k 0
def trB (b:Bool):Nat:=if b then 1 else 0
def shN (a:Nat):Nat:=if 64<xm a then 256 else l0 a
def reckV (op a b c:Nat):Nat:=
 if op=1 then qw a b else if op=2 then a*b%W else if op=3 then subW a b else if op=4 then a/b else if op=5 then sq a b else if op=6 then dr 0 a b else if op=7 then sr a b
 else if op=8 then rm (a+b) c else if op=9 then rm (a*b) c else if op=10 then rm (a^b) W else if op=11 then exW a b
 else if op=16 then trB (decide (cmpN a b<0))else if op=17 then trB (decide (0<cmpN a b))else if op=18 then trB (ls a b)else if op=19 then trB (ls b a)else if op=20 then trB (decide (a=b))else if op=21 then trB (decide (a=0))
 else if op=22 then a &&& b else if op=23 then a ||| b else if op=24 then a ^^^ b else if op=25 then notW a else if op=26 then byW a b else if op=27 then shlW b (shN a)else if op=28 then vw b (shN a)else sar b (shN a)
def rdB (l:List UInt8):Nat:=rdN ⟨l.toArray⟩ l.length
def kecV (l:List UInt8):Nat:=rdN (told (spg (blks ⟨l.toArray⟩))) 32
def bsN (n:Nat):List UInt8:=(ky n).data.toList
def swV (s:List Nat) (k:Nat):List Nat:=(s.set 0 (tp s (k+1))).set (k+1) (tp s 0)
def doV (op:Nat) (f:Fr):Fr:=
 if op=0 then{ f with sd:=1 }
 else if op<32 then{ f with st:=reckV op (tp f.st 0) (tp f.st 1) (tp f.st 2)::f.st.drop (opP op).2.1 }
 else if op=32 then{ f with st:=kecV (slV f.mem (tp f.st 0) (tp f.st 1))::f.st.drop 2 }
 else if op=53 then{ f with st:=rdB (slV f.inp (tp f.st 0) 32)::f.st.drop 1 }
 else if op=54 then{ f with st:=f.inp.length::f.st }
 else if op=55 then{ f with st:=f.st.drop 3,mem:=putV f.mem (tp f.st 0) (slV f.inp (tp f.st 1) (tp f.st 2)) }
 else if op=56 then{ f with st:=f.code.length::f.st }
 else if op=57 then{ f with st:=f.st.drop 3,mem:=putV f.mem (tp f.st 0) (slV f.code (tp f.st 1) (tp f.st 2)) }
 else if op=80 then{ f with st:=f.st.drop 1 }
 else if op=81 then{ f with st:=rdB (slV f.mem (tp f.st 0) 32)::f.st.drop 1 }
 else if op=82 then{ f with st:=f.st.drop 2,mem:=putV f.mem (tp f.st 0) (bsN (tp f.st 1)) }
 else if op=83 then{ f with st:=f.st.drop 2,mem:=putV f.mem (tp f.st 0) ((bsN (tp f.st 1)).drop 31) }
 else if op=86 then{ f with st:=f.st.drop 1,pc:=tp f.st 0 }
 else if op=87 then{ f with st:=f.st.drop 2,pc:=if tp f.st 1=0 then f.pc else tp f.st 0 }
 else if op=88 then{ f with st:=(f.pc-1).toNat::f.st }
 else if op=89 then{ f with st:=f.mem.length::f.st }
 else if op=90 then{ f with st:=f.gas.toNat::f.st }
 else if op=91 then f
 else if op<128 then{ f with st:=rdB (slV f.code f.pc.toNat ((op-95:Nat):Int))::f.st,pc:=f.pc+((op-95:Nat):Int) }
 else if op<144 then{ f with st:=tp f.st (op-128)::f.st }
 else if op<160 then{ f with st:=swV f.st (op-144) }
 else if op=243 then{ f with st:=f.st.drop 2,out:=slV f.mem (tp f.st 0) (tp f.st 1),sd:=1 }
 else{ f with st:=f.st.drop 2,out:=slV f.mem (tp f.st 0) (tp f.st 1),sd:=2 }
def opF (f:Fr):Nat:=if f.pc<0 then 254 else match f.code[f.pc.toNat]? with
 | some b=>b.toNat
 | none=>0
def isOp (n:Nat):Bool:=decide (n<12)||(decide (16≤n)&&decide (n<30))||decide (n=32)||(decide (53≤n)&&decide (n<58))||(decide (80≤n)&&decide (n<84))||(decide (86≤n)&&decide (n<92))||(decide (95≤n)&&decide (n<160))||decide (n=243)||decide (n=253)
def xf (op:Nat) (s:List Nat):Nat×Nat:=
 if op=32∨op=243∨op=253 then(tp s 0,tp s 1)else if op=55∨op=57 then(tp s 0,tp s 2)else if op=81∨op=82 then(tp s 0,32)else if op=83 then(tp s 0,1)else(0,0)
def extV (op:Nat) (s:List Nat):Int:=
 if op=10 then 50*((xm (tp s 1)+7)/8:Nat)else if op=32 then 6*wds (tp s 1:Nat)else if op=55∨op=57 then 3*wds (tp s 2:Nat)else 0
def gasV (op:Nat) (f:Fr):Int:=((opP op).2.2.2:Nat)+extV op f.st+(yx f.mem (xf op f.st).1 (xf op f.st).2).2.1
def jmpV (op:Nat) (s:List Nat):Bool:=decide (op=86)||(decide (op=87)&&decide (tp s 1≠0))
def dstV (c:List UInt8) (n:Nat):Bool:=(dsN c).getD n false
def vt (f:Fr):Int:=
 if isOp (opF f)=false then 21
 else if f.st.length<(opP (opF f)).2.1∨256<f.st.length-(opP (opF f)).2.1+(opP (opF f)).2.2.1 then 19
 else if(yx f.mem (xf (opF f) f.st).1 (xf (opF f) f.st).2).2.2≠0 then 3
 else if f.gas<gasV (opF f) f then 18
 else if jmpV (opF f) f.st=true∧dstV f.code (tp f.st 0)=false then 20
 else 0
def paid (f:Fr):Fr:={ f with gas:=f.gas-gasV (opF f) f,mem:=(yx f.mem (xf (opF f) f.st).1 (xf (opF f) f.st).2).1,pc:=f.pc+1 }
def nexV (f:Fr):Fr:=doV (opF f) (paid f)
def wrgV (f:Fr) (e:Int):Fr:={ f with gas:=0,sd:=3,er:=e }
def stepV (f:Fr):Fr:=if f.sd≠0 then f else if vt f=0 then nexV f else wrgV f (vt f)
structure OkF (f:Fr):Prop where
 code:f.code.length≤65536
 inp:f.inp.length≤65536
 st:f.st.length≤256
 num:∀ u∈f.st,u<W
 mem:f.mem.length≤4096
 m32:f.mem.length%32=0
 pc0:0≤f.pc
 pc1:f.pc≤f.code.length+33
 gas0:0≤f.gas
 gas1:f.gas≤100000
def runN:Nat→Fr→Fr
 | 0,f=>f
 | n+1,f=>if f.sd≠0 then f else runN n (stepV f)
abbrev uc (n:Nat):List Value:=[B (l0 n),B (l1 n),B (l2 n),B (l3 n)]
def sC (s:List Nat):List Value:=s.reverse.flatMap uc
theorem zc5(a:Nat)(s:List Nat):sC (a::s)=sC s++uc a:=by unfold sC;simp
theorem sC_len:∀ s:List Nat,(sC s).length=4*s.length
 | []=>rfl
 | a::s=>by rw[zc5,List.length_append,sC_len s];simp;omega
theorem flat_get:∀(l:List Nat) (i j:Nat),i<l.length→j<4→(l.flatMap uc)[4*i+j]? = (uc (l.getD i 0))[j]?
 | [],i,j,h,_=>by simp at h
 | r::l,0,j,_,hj=>by
  rw[List.flatMap_cons,List.getElem?_append_left (by simp;omega)];simp
 | r::l,i+1,j,h,hj=>by
  have e:(uc r).length=4:=rfl;rw[List.flatMap_cons,List.getElem?_append_right (by rw[e];omega),e,show 4*(i+1)+j-4=4*i+j by omega,flat_get l i j (by simpa using h) hj];simp
theorem sC_get(s:List Nat)(k j:Nat)(hk:k<s.length)(hj:j<4):(sC s)[4*(s.length-1-k)+j]? = (uc (tp s k))[j]? :=by
 unfold sC tp;rw[flat_get _ _ _ (by simp;omega) hj]
 congr 2
 rw[List.getD_eq_getElem?_getD,List.getD_eq_getElem?_getD,List.getElem?_reverse (by omega)]
 congr 2
 omega
abbrev xg (f:Fr) (v:Value) (op:Nat) (pa:Int) (dv:Value):Array Value:=#[str f.code,str f.inp,v,str f.mem,Z f.pc,Z f.gas,Z f.sd,Z f.er,str f.out,b8 op,Z pa,dv]
def DsO (c:List UInt8) (dv:Value) (g:Nat) (v:Value) (w:World):Prop:=dv=.slice none 0 0∨∃ d,dv=.slice (some ⟨d,0,none⟩) c.length c.length∧w.heap[d]? = some (.cells (blC (dsN c)) 4)∧g<d∧v.ownBlock≠some d
structure MC (g:Nat) (v:Value) (f:Fr) (dv:Value) (w:World):Prop where
 own:w.ownsRow (g+1) 45 4 v f.st.length (sC f.st)
 tb:Tb w
 ts:Tabs w ki
 hg:7≤g
 lt:g<w.heap.size
 ds:DsO f.code dv g v w
structure MS (wE:World) (g:Nat) (v0 dv0 v:Value) (f:Fr) (dv:Value) (w:World):Prop where
 c:MC g v f dv w
 lt:g<wE.heap.size
 gr:zq (fun k=>k≠g∧v0.ownBlock≠some k) wE w
 nb:∀ k,v.ownBlock=some k→v0.ownBlock=some k∨wE.heap.size≤k
 db:∀ k,dv.ownBlock=some k→dv0.ownBlock=some k∨wE.heap.size≤k
def MF (wE:World) (g:Nat) (v dv:Value) (k:Nat):Prop:=(k<wE.heap.size∧k≠g)∨v.ownBlock=some k∨dv.ownBlock=some k
theorem qp.grow{F:Nat→Prop}{w w':World}{g:Nat}{c:Array Value}(h:qp w g c)(hg:zq F w w')(hF:F g):qp w' g c:=by
 obtain⟨t,fr,h⟩:=h;exact⟨t,fr,(hg.block g (Array.getElem?_eq_some_iff.1 h).1 hF).trans h⟩
theorem Tb.grow{F:Nat→Prop}{w w':World}(h:Tb w)(hg:zq F w w')(hF:∀ k,k<7→F k):Tb w':=⟨h.r0.grow hg (hF 0 (by decide)),h.r1.grow hg (hF 1 (by decide)),h.r2.grow hg (hF 2 (by decide)),h.r3.grow hg (hF 3 (by decide))⟩
theorem Tabs.grow{F:Nat→Prop}{w w':World}{mk:Nat→Nat}(h:Tabs w mk)(hg:zq F w w')(hF:∀ k,k<7→F k):Tabs w' mk:=⟨h.m.grow hg (hF 4 (by decide)),h.t.grow hg (hF 5 (by decide)),h.p.grow hg (hF 6 (by decide))⟩
theorem DsO.grow{F:Nat→Prop}{c:List UInt8}{dv:Value}{g:Nat}{v v':Value}{w w':World}(h:DsO c dv g v w)(hg:zq F w w')(hF:∀ k,dv.ownBlock=some k→F k)(hv:∀ k,v'.ownBlock=some k→v.ownBlock=some k∨w.heap.size≤k):DsO c dv g v' w':=by
 rcases h with h|⟨d,rfl,h2,h3,h4⟩
 ·exact .inl h
 ·have hlt:=(Array.getElem?_eq_some_iff.1 h2).1;refine .inr ⟨d,rfl,(hg.block d hlt (hF d rfl)).trans h2,h3,fun e=>?_⟩;rcases hv d e with h5 | h5
  ·exact h4 h5
  ·omega
theorem MS.rs(wE:World)(g:Nat)(v0 dv0 v:Value)(f:Fr)(dv:Value):y8 (MS wE g v0 dv0 v f dv) (MF wE g v dv):=by
 refine⟨fun w w' h gr=>?_,fun w k h hk=>?_⟩
 ·have hg7:=h.c.hg;have hlt:=h.lt;have h7:∀ k,k<7→MF wE g v dv k:=fun k hk=>.inl ⟨by omega,by omega⟩
  exact⟨⟨xh h.c.own gr fun k hk=>.inr (.inl hk),h.c.tb.grow gr h7,h.c.ts.grow gr h7,h.c.hg,Nat.lt_of_lt_of_le h.c.lt gr.size,h.c.ds.grow gr (fun k hk=>.inr (.inr hk)) fun k hk=>.inl hk⟩,h.lt,
   ⟨gr.os.trans h.gr.os,gr.tape.trans h.gr.tape,gr.output.trans h.gr.output,Nat.le_trans h.gr.size gr.size,fun k hk hn=>(gr.block k (Nat.lt_of_lt_of_le hk h.gr.size) (.inl ⟨hk,hn.1⟩)).trans (h.gr.block k hk hn)⟩,h.nb,h.db⟩
 ·rcases hk with hk|hk|hk
  ·exact Nat.lt_of_lt_of_le hk.1 h.gr.size
  ·exact(h.c.own.lt k hk).2
  ·rcases h.c.ds with h1|⟨d,rfl,h2,_⟩
   ·rw[h1]at hk;cases hk
   ·cases hk;exact(Array.getElem?_eq_some_iff.1 h2).1
theorem MC.not{wE:World}{g:Nat}{v dv:Value}{f:Fr}{w:World}(h:MC g v f dv w):¬ MF wE g v dv g:=by
 rintro(h1|h1|h1)
 ·exact h1.2 rfl
 ·have:=(h.own.lt g h1).1;omega
 ·rcases h.ds with h2|⟨d,rfl,_,h3,_⟩
  ·rw[h2]at h1;cases h1
  ·have e:d=g:=Option.some.inj h1;omega
structure MI (g:Nat) (v:Value) (f:Fr) (op:Nat) (pa:Int) (dv:Value) (w:World):Prop where
 row:zb w g (xg f v op pa dv)
 c:MC g v f dv w
structure MP (g:Nat) (v dv:Value) (w:World) (v':Value) (f':Fr) (op':Nat) (pa':Int) (dv':Value) (w':World):Prop where
 row:zb w' g (xg f' v' op' pa' dv')
 s:MS w g v dv v' f' dv' w'
theorem MI.start{g:Nat}{v:Value}{f:Fr}{op:Nat}{pa:Int}{dv:Value}{w:World}(h:MI g v f op pa dv w):MS w g v dv v f dv w:=⟨h.c,h.c.lt,zq.refl _ _,fun k hk=>.inl hk,fun k hk=>.inl hk⟩
theorem MP.mi{g:Nat}{v dv:Value}{w:World}{v':Value}{f':Fr}{op':Nat}{pa':Int}{dv':Value}{w':World}(h:MP g v dv w v' f' op' pa' dv' w'):MI g v' f' op' pa' dv' w':=⟨h.row,h.s.c⟩
theorem MS.trans{wE:World}{g:Nat}{v0 dv0 v dv v' dv':Value}{f f':Fr}{w w':World}(h:MS wE g v0 dv0 v f dv w)(k:MS w g v dv v' f' dv' w'):MS wE g v0 dv0 v' f' dv' w':=by
 refine⟨k.c,h.lt,⟨k.gr.os.trans h.gr.os,k.gr.tape.trans h.gr.tape,k.gr.output.trans h.gr.output,Nat.le_trans h.gr.size k.gr.size,fun i hi hn=>(k.gr.block i (Nat.lt_of_lt_of_le hi h.gr.size) ⟨hn.1,fun e=>?_⟩).trans (h.gr.block i hi hn)⟩,fun i hi=>?_,fun i hi=>?_⟩
 ·rcases h.nb i e with h1|h1
  ·exact hn.2 h1
  ·omega
 ·rcases k.nb i hi with h1|h1
  ·exact h.nb i h1
  ·exact .inr (Nat.le_trans h.gr.size h1)
 ·rcases k.db i hi with h1|h1
  ·exact h.db i h1
  ·exact .inr (Nat.le_trans h.gr.size h1)
theorem MP.trans{g:Nat}{v dv v1 dv1 v2 dv2:Value}{f1 f2:Fr}{op1 op2:Nat}{pa1 pa2:Int}{w w1 w2:World}(h:MP g v dv w v1 f1 op1 pa1 dv1 w1)(k:MP g v1 dv1 w1 v2 f2 op2 pa2 dv2 w2):MP g v dv w v2 f2 op2 pa2 dv2 w2:=⟨k.row,h.s.trans k.s⟩
section
variable {wE:World} {g:Nat} {v0 dv0 v dv:Value} {f:Fr} {op:Nat} {pa:Int} {w:World} {ds:List Deferred} {β:Nat→Nat} {c:Cf} {a:Act} {Q:Exit→Act→World→Prop}
theorem SI.mi(I:SI (MS wE g v0 dv0 v f dv) (MF wE g v dv) ds β c a w)(hb:β 0=g)(hid:xo c.rows 0=some (xg f v op pa dv):=by kernel_rfl):MI g v f op pa dv w:=⟨I.rowG 0 hb hid,I.hJ.c⟩
theorem SI.mp(I:SI (MS wE g v0 dv0 v f dv) (MF wE g v dv) ds β c a w)(hb:β 0=g)(hid:xo c.rows 0=some (xg f v op pa dv):=by kernel_rfl):MP g v0 dv0 wE v f op pa dv w:=⟨I.rowG 0 hb hid,I.hJ⟩
theorem SI.mth{r0:Array Value}{v' dv':Value}{f':Fr}{op':Nat}{pa':Int}{w':World}(I:SI (MS wE g v0 dv0 v f dv) (MF wE g v dv) ds β c a w)(hb:β 0=g)(hp:MP g v dv w v' f' op' pa' dv' w')(x:Value)(hid:xo c.rows 0=some r0) :
  SI (MS wE g v0 dv0 v' f' dv') (MF wE g v' dv') ds β (rowQ (xp c x) 0 (xg f' v' op' pa' dv')) (a.put (yt c) x) w':=by
 have hlt:=I.hJ.lt;refine I.rowed hid ⟨hp.s.gr.os,hp.s.gr.tape,hp.s.gr.output,hp.s.gr.size,fun k hk hn=>hp.s.gr.block k hk ⟨by rw[hb]at hn;exact hn.2,fun e=>hn.1 (.inr (.inl e))⟩⟩ (by rw[hb];exact hp.row) (I.hJ.trans hp.s) (fun k hk h=>?_) x;rcases h with h | h | h
 ·exact .inl h
 ·rcases hp.s.nb k h with h1|h1
  ·exact .inr (.inl h1)
  ·omega
 ·rcases hp.s.db k h with h1|h1
  ·exact .inr (.inr h1)
  ·omega
def Mth (fn g:Nat) (xs:List Value) (f:Fr) (op:Nat) (pa:Int) (x:Value) (f':Fr) (op':Nat) (pa':Int):Prop:=
 ∀(v dv:Value) (w:World),MI g v f op pa dv w→Calls prog fn (zz g::xs).toArray w fun e w'=>∃ v' dv',e=.returned x∧MP g v dv w v' f' op' pa' dv' w'
theorem zp{fn : Nat}{F : Func}{xs : List Value}{x : Value}{f' : Fr}{op' : Nat}{pa' : Int}(hf : prog.funcs[fn]? = some F)(hm : Mth fn g xs f op pa x f' op' pa')(I : SI (MS wE g v0 dv0 v f dv) (MF wE g v dv) ds β c a w)(hb : β 0 = g)(k : ∀ ad cap dv' w', SI (MS wE g v0 dv0 (.slice ad f'.st.length cap) f' dv') (MF wE g (.slice ad f'.st.length cap) dv') ds β (rowQ (xp c x) 0 (xg f' (.slice ad f'.st.length cap) op' pa' dv')) (a.put (yt c) x) w' → At prog Q (rowQ (xp c x) 0 (xg f' (.slice ad f'.st.length cap) op' pa' dv')) (a.put (yt c) x) w')(hc : callX c = some (fn, Sum.inr (0, 0) :: xs.map Sum.inl) := by kernel_rfl)(hid : xo c.rows 0 = some (xg f v op pa dv) := by kernel_rfl)(hbd : F.body.isNone = false := by kernel_rfl)(hn : (F.name == "runtime.NumGoroutine") = false := by kernel_rfl) : At prog Q c a w := by
 refine kl (Sum.inr (0,0)::xs.map Sum.inl) hf I ?_ hc hbd hn;have e:((Sum.inr (0,0)::xs.map Sum.inl).map (up β))=zz g::xs:=by
  simp only[List.map_cons,List.map_map,up,List.cons.injEq,hb];exact⟨trivial,List.map_id _⟩
 rw[e];refine(hm v dv w (I.mi hb hid)).mono fun e w1 he=>?_;obtain⟨v1,dv1,rfl,hp1⟩:=he;obtain⟨ad,cap,rfl⟩:=yo hp1.s.c.own;exact(at_row (id:=0) (r:=xg f' (.slice ad f'.st.length cap) op' pa' dv1)).1 (k ad cap dv1 w1 (I.mth hb hp1 x hid))
end
theorem goM{P:Program}{wE w:World}{g:Nat}{v0 dv0 v dv:Value}{f:Fr}{ds:List Deferred}{β:Nat→Nat}{c:Cf}{a:Act}{Q:Exit→Act→World→Prop}(fs:List (Fa P fun _=>True))(I:SI (MS wE g v0 dv0 v f dv) (MF wE g v dv) ds β c a w)(k:∀ β' a' w',SI (MS wE g v0 dv0 v f dv) (MF wE g v dv) ds β' (rn P fs c).1 a' w'→zbx c.nx β β'→At P Q (rn P fs c).1 a' w')(hm:P.follows .mixedOrders=true:=by kernel_rfl)(he:(rn P fs c).2.2.map (·.1)=(rn P fs c).2.2.map (·.2):=by kernel_rfl):At P Q c a w:=goQ fs (MS.rs _ _ _ _ _ _ _) I k hm he
theorem done_mV{l:Array Bool}{n i:Nat}(hs:l.size=n)(hi:i<n):(l.setIfInBounds i true).getD i false=true:=by simp[Array.getD,hs,hi]
theorem dT3(l:Array Bool)(k:Nat):∀ j,j≠k→(l.setIfInBounds k true).getD j false=true→l.getD j false=true:=fun j hj h=>(yb h).resolve_left hj
theorem hIU:∃ i,prog.info? 45=some i∧i.zero=some (.agg #[B 0,B 0,B 0,B 0])∧i.size=4∧i.bytes=32:=by
 have h:(prog.info? 45).map (fun i=>(i.zero,i.size,i.bytes))=some (some (.agg #[B 0,B 0,B 0,B 0]),4,32):=by kernel_rfl
 cases hq:prog.info? 45 with
 | none=>rw[hq]at h;simp at h
 | some i=>rw[hq]at h;simp at h;exact⟨i,rfl,h.1,h.2.1,h.2.2⟩
section
variable {P:Program} {Q:Exit→Act→World→Prop} {o:Oper} {a':Act} {w':World}
theorem zcw(ty:TypeId)(x:Operand)(ho:o.op=.load ty x){g off:Nat}(hx:a'.eval x=.pointer (some ⟨g,off,none⟩)){c:Array Value}{v:Value}{d:TypeDesc}(hr:zb w' g c)(hu:P.underlying ty=some d)(hd:aggB d=false)(hc:c[off]? = some v):o.wp P a' w' (fun a'' w''=>a''=a'.put o.dst v∧w''=w') Q:=by
 have hA:(isAgg ty).run P w'=.ok false w':=by
  unfold isAgg;simp only[Sem.run_bind,run_underlying hu,Result.andThen_ok];cases d<;>first|rfl|simp[aggB]at hd
 have hcell:w'.cell? ⟨g,off,none⟩=some v:=by rw[hr.cell];exact hc
 have hL:(loadVar ty ⟨g,off,none⟩).run P w'=.ok v w':=by
  unfold loadVar;simp only[Sem.run_bind,hA,Result.andThen_ok,Bool.false_eq_true,if_false];rw[run_load,hcell]
 refine zt (v:=v) (w1:=w') ?_ ⟨rfl,rfl⟩;unfold execOp;simp only[ho,hx,Instr.loadAt,Instr.sureAddr,Sem.run_bind,Sem.run_pure,Result.andThen_ok,hL]
end
theorem bsU(a:Nat)(w:World):(Instr.buildSlice 61 1 #[(0,U a)]).run prog w=.ok (.slice (some ⟨w.heap.size,0,none⟩) 1 1) (w.alloc (.cells (Ar a) 45)):=by kernel_rfl
theorem owns_oneU{w:World}{b e s:Nat}{v:Value}{n:Nat}{xs:List Value}(h:w.ownsRow b e s v n xs):v.cells=#[v]∧v.oneCell'=true:=by
 rcases h.2 with⟨rfl,_⟩|⟨g,cap,cur,rfl,_⟩<;>exact⟨rfl,rfl⟩
abbrev GG (g:Nat) (v:Value) (w w':World):Prop:=zq (fun k=>k≠g∧v.ownBlock≠some k) w w'
theorem GG.bel{g:Nat}{v:Value}{w w1 w2:World}(h:GG g v w w1)(hb:Below w1.heap.size w1 w2):GG g v w w2:=zq.trans h (zq.of_below hb)
structure CLy (W0:World) (g:Nat) (f:Fr) (op:Nat) (pa:Int) (dv v:Value) (u h:Nat) (za:Array Bool) (vs:Nat→Value) (w':World):Prop where
 pre:¬ za.getD 8 false=true→zb w' g (xg f v op pa dv)∧w'.ownsRow (g+1) 45 4 v f.st.length (sC f.st)∧GG g v W0 w'∧zb w' h (Ar u)
 k:za.getD 8 false=true→za.getD 5 false=true∧za.getD 7 false=true
 k7:za.getD 7 false=true→za.getD 6 false=true
 k12:za.getD 12 false=true→za.getD 8 false=true
 c0:za.getD 0 false=true→vs 0=zz g
 c1:za.getD 1 false=true→vs 1=zz g
 c2:za.getD 2 false=true→vs 2=zz g
 c3:za.getD 3 false=true→vs 3=.pointer (some ⟨g,0+0,none⟩)
 c4:za.getD 4 false=true→vs 4=.pointer (some ⟨g,0+0+2,none⟩)
 c5:za.getD 5 false=true→vs 5=v
 c6:za.getD 6 false=true→vs 6=U u
 c7:za.getD 7 false=true→∃ q,vs 7=.slice (some ⟨q,0,none⟩) 1 1∧(¬ za.getD 8 false=true→zb w' q (Ar u))
 c8:za.getD 8 false=true→w'.ownsRow (g+1) 45 4 (vs 8) (f.st.length+1) (sC f.st++uc u)∧GG g v W0 w'∧(∀ k,(vs 8).ownBlock=some k→v.ownBlock=some k∨W0.heap.size≤k)∧(¬ za.getD 12 false=true→zb w' g (xg f v op pa dv))
 c9:za.getD 9 false=true→vs 9=zz g
 c10:za.getD 10 false=true→vs 10=.pointer (some ⟨g,0+0,none⟩)
 c11:za.getD 11 false=true→vs 11=.pointer (some ⟨g,0+0+2,none⟩)
 c12:za.getD 12 false=true→zb w' g (xg f (vs 8) op pa dv)
theorem lay_raw(g:Nat)(f:Fr)(op:Nat)(pa:Int)(dv v:Value)(u:Nat)(hm:f.st.length≤1000)(w:World)(hr:zb w g (xg f v op pa dv))(ho:w.ownsRow (g+1) 45 4 v f.st.length (sC f.st)) :
  Calls prog 209 #[zz g,U u] w fun e w'=>e=.returned (.tuple #[])∧∃ v',zb w' g (xg f v' op pa dv)∧w'.ownsRow (g+1) 45 4 v' (f.st.length+1) (sC f.st++uc u)∧GG g v w w'∧∀ k,v'.ownBlock=some k→v.ownBlock=some k∨w.heap.size≤k:=by
 have R0:Hid (zb w g (xg f v op pa dv)):=hr;have R1:Hid (w.ownsRow (g+1) 45 4 v f.st.length (sC f.st)):=ho;clear hr ho
 go_enter func209,ntmps209
 go_upto_region 1 with fail
 refine xz _ ?_;intro W1 hW;have hb0:Below w.heap.size w W1:=by rw[hW];exact zj (Below.refl _ _) _
 have A0:zb W1 g (xg f v op pa dv):=R0.out.below hb0;have A1:W1.ownsRow (g+1) 45 4 v f.st.length (sC f.st):=xh R1.out (zq.of_below (F:=fun _=>True) hb0) (fun _ _=>trivial);have A2:GG g v w W1:=zq.of_below hb0;have A3:zb W1 w.heap.size (Ar u):=by rw[hW];exact zb.last rfl
 clear hW;refine RegV.wp (by kernel_rfl) (zae (by kernel_rfl) (by kernel_rfl) (CLy w g f op pa dv v u w.heap.size) ?_ ?_ ?_)
 ·rintro w1 (rfl|rfl)
  ·refine⟨fun _=>⟨A0,A1,A2,A3⟩,?_,?_,?_,?_,?_,?_,?_,?_,?_,?_,?_,?_,?_,?_,?_,?_⟩<;>(intro h;simp[Array.getD]at h)
  ·refine⟨fun _=>⟨A0,A1,A2.bel (Below.refl _ _).drew,A3⟩,?_,?_,?_,?_,?_,?_,?_,?_,?_,?_,?_,?_,?_,?_,?_,?_⟩<;>(intro h;simp[Array.getD]at h)
 ·clear A0 A1 A2 A3;intro za vs a' w' i o hs ho hi hF cc;have hi13:i<13:=by have:=(Array.getElem?_eq_some_iff.1 ho).1;simpa using this
  have hcase:i=0∨i=1∨i=2∨i=3∨i=4∨i=5∨i=6∨i=7∨i=8∨i=9∨i=10∨i=11∨i=12:=by omega
  rcases hcase with rfl|rfl|rfl|rfl|rfl|rfl|rfl|rfl|rfl|rfl|rfl|rfl|rfl
  ·simp at ho;subst ho;have T:=dT3 za 0;have hun:¬ za.getD 0 false=true:=fun h=>ya hi hs h
   exact zi rfl (zt (v:=zz g) (w1:=w') (by simp[execOp,ev ((hF.old (t:=0) (by kernel_rfl)).trans rfl),go_sem]) ⟨_,rfl,⟨fun h=>cc.pre (fun q=>h (zc q)),fun h=>⟨zc (cc.k (T 8 (by decide) h)).1,zc (cc.k (T 8 (by decide) h)).2⟩,fun h=>zc (cc.k7 (T 7 (by decide) h)),fun h=>zc (cc.k12 (T 12 (by decide) h)),fun _=>rfl,uz cc.c1,uz cc.c2,uz cc.c3,uz cc.c4,uz cc.c5,uz cc.c6,fun h=>(cc.c7 (T 7 (by decide) h)).imp fun q z=>⟨z.1,fun z2=>z.2 (fun q=>z2 (zc q))⟩,fun h=>⟨(cc.c8 (T 8 (by decide) h)).1,(cc.c8 (T 8 (by decide) h)).2.1,(cc.c8 (T 8 (by decide) h)).2.2.1,fun z=>(cc.c8 (T 8 (by decide) h)).2.2.2 (fun q=>z (zc q))⟩,uz cc.c9,uz cc.c10,uz cc.c11,uz cc.c12⟩⟩)
  ·simp at ho;subst ho;have T:=dT3 za 1;have hun:¬ za.getD 1 false=true:=fun h=>ya hi hs h
   exact zi rfl (zt (v:=zz g) (w1:=w') (by simp[execOp,ev ((hF.old (t:=0) (by kernel_rfl)).trans rfl),go_sem]) ⟨_,rfl,⟨fun h=>cc.pre (fun q=>h (zc q)),fun h=>⟨zc (cc.k (T 8 (by decide) h)).1,zc (cc.k (T 8 (by decide) h)).2⟩,fun h=>zc (cc.k7 (T 7 (by decide) h)),fun h=>zc (cc.k12 (T 12 (by decide) h)),uz cc.c0,fun _=>rfl,uz cc.c2,uz cc.c3,uz cc.c4,uz cc.c5,uz cc.c6,fun h=>(cc.c7 (T 7 (by decide) h)).imp fun q z=>⟨z.1,fun z2=>z.2 (fun q=>z2 (zc q))⟩,fun h=>⟨(cc.c8 (T 8 (by decide) h)).1,(cc.c8 (T 8 (by decide) h)).2.1,(cc.c8 (T 8 (by decide) h)).2.2.1,fun z=>(cc.c8 (T 8 (by decide) h)).2.2.2 (fun q=>z (zc q))⟩,uz cc.c9,uz cc.c10,uz cc.c11,uz cc.c12⟩⟩)
  ·simp at ho;subst ho;have T:=dT3 za 2;have hun:¬ za.getD 2 false=true:=fun h=>ya hi hs h
   have d1:=zg (i:=2) (j:=1) (by kernel_rfl) hi;have v1:=(hF.new (t:=5) (i:=1) (by kernel_rfl) (by simp) d1).trans (cc.c1 d1)
   exact zi rfl (zt (v:=zz g) (w1:=w') (by simp[execOp,ev v1,go_sem]) ⟨_,rfl,⟨fun h=>cc.pre (fun q=>h (zc q)),fun h=>⟨zc (cc.k (T 8 (by decide) h)).1,zc (cc.k (T 8 (by decide) h)).2⟩,fun h=>zc (cc.k7 (T 7 (by decide) h)),fun h=>zc (cc.k12 (T 12 (by decide) h)),uz cc.c0,uz cc.c1,fun _=>rfl,uz cc.c3,uz cc.c4,uz cc.c5,uz cc.c6,fun h=>(cc.c7 (T 7 (by decide) h)).imp fun q z=>⟨z.1,fun z2=>z.2 (fun q=>z2 (zc q))⟩,fun h=>⟨(cc.c8 (T 8 (by decide) h)).1,(cc.c8 (T 8 (by decide) h)).2.1,(cc.c8 (T 8 (by decide) h)).2.2.1,fun z=>(cc.c8 (T 8 (by decide) h)).2.2.2 (fun q=>z (zc q))⟩,uz cc.c9,uz cc.c10,uz cc.c11,uz cc.c12⟩⟩)
  ·simp at ho;subst ho;have T:=dT3 za 3;have hun:¬ za.getD 3 false=true:=fun h=>ya hi hs h
   have d2:=zg (i:=3) (j:=2) (by kernel_rfl) hi;have v2:=(hF.new (t:=6) (i:=2) (by kernel_rfl) (by simp) d2).trans (cc.c2 d2)
   exact zi rfl (zt (v:=.pointer (some ⟨g,0+0,none⟩)) (w1:=w') (by simp[execOp,ev v2,go_sem]) ⟨_,rfl,⟨fun h=>cc.pre (fun q=>h (zc q)),fun h=>⟨zc (cc.k (T 8 (by decide) h)).1,zc (cc.k (T 8 (by decide) h)).2⟩,fun h=>zc (cc.k7 (T 7 (by decide) h)),fun h=>zc (cc.k12 (T 12 (by decide) h)),uz cc.c0,uz cc.c1,uz cc.c2,fun _=>rfl,uz cc.c4,uz cc.c5,uz cc.c6,fun h=>(cc.c7 (T 7 (by decide) h)).imp fun q z=>⟨z.1,fun z2=>z.2 (fun q=>z2 (zc q))⟩,fun h=>⟨(cc.c8 (T 8 (by decide) h)).1,(cc.c8 (T 8 (by decide) h)).2.1,(cc.c8 (T 8 (by decide) h)).2.2.1,fun z=>(cc.c8 (T 8 (by decide) h)).2.2.2 (fun q=>z (zc q))⟩,uz cc.c9,uz cc.c10,uz cc.c11,uz cc.c12⟩⟩)
  ·simp at ho;subst ho;have T:=dT3 za 4;have hun:¬ za.getD 4 false=true:=fun h=>ya hi hs h
   have d3:=zg (i:=4) (j:=3) (by kernel_rfl) hi;have v3:=(hF.new (t:=7) (i:=3) (by kernel_rfl) (by simp) d3).trans (cc.c3 d3)
   exact zi rfl (zt (v:=.pointer (some ⟨g,0+0+2,none⟩)) (w1:=w') (by simp[execOp,ev v3,go_sem]) ⟨_,rfl,⟨fun h=>cc.pre (fun q=>h (zc q)),fun h=>⟨zc (cc.k (T 8 (by decide) h)).1,zc (cc.k (T 8 (by decide) h)).2⟩,fun h=>zc (cc.k7 (T 7 (by decide) h)),fun h=>zc (cc.k12 (T 12 (by decide) h)),uz cc.c0,uz cc.c1,uz cc.c2,uz cc.c3,fun _=>rfl,uz cc.c5,uz cc.c6,fun h=>(cc.c7 (T 7 (by decide) h)).imp fun q z=>⟨z.1,fun z2=>z.2 (fun q=>z2 (zc q))⟩,fun h=>⟨(cc.c8 (T 8 (by decide) h)).1,(cc.c8 (T 8 (by decide) h)).2.1,(cc.c8 (T 8 (by decide) h)).2.2.1,fun z=>(cc.c8 (T 8 (by decide) h)).2.2.2 (fun q=>z (zc q))⟩,uz cc.c9,uz cc.c10,uz cc.c11,uz cc.c12⟩⟩)
  ·simp at ho;subst ho;have T:=dT3 za 5;have hun:¬ za.getD 5 false=true:=fun h=>ya hi hs h
   have d4:=zg (i:=5) (j:=4) (by kernel_rfl) hi;have v4:=(hF.new (t:=8) (i:=4) (by kernel_rfl) (by simp) d4).trans (cc.c4 d4);obtain⟨p1,p2,p3,p4⟩:=cc.pre (fun h=>hun (cc.k h).1);refine zi rfl (Oper.wp_mono ?_ (zcw 61 (.tmp 8) rfl v4 p1 underlying61 rfl rfl));rintro a2 w2 ⟨rfl,rfl⟩
   exact⟨_,rfl,⟨fun h=>cc.pre (fun q=>h (zc q)),fun h=>⟨zc (cc.k (T 8 (by decide) h)).1,zc (cc.k (T 8 (by decide) h)).2⟩,fun h=>zc (cc.k7 (T 7 (by decide) h)),fun h=>zc (cc.k12 (T 12 (by decide) h)),uz cc.c0,uz cc.c1,uz cc.c2,uz cc.c3,uz cc.c4,fun _=>rfl,uz cc.c6,fun h=>(cc.c7 (T 7 (by decide) h)).imp fun q z=>⟨z.1,fun z2=>z.2 (fun q=>z2 (zc q))⟩,fun h=>⟨(cc.c8 (T 8 (by decide) h)).1,(cc.c8 (T 8 (by decide) h)).2.1,(cc.c8 (T 8 (by decide) h)).2.2.1,fun z=>(cc.c8 (T 8 (by decide) h)).2.2.2 (fun q=>z (zc q))⟩,uz cc.c9,uz cc.c10,uz cc.c11,uz cc.c12⟩⟩
  ·simp at ho;subst ho;have T:=dT3 za 6;have hun:¬ za.getD 6 false=true:=fun h=>ya hi hs h
   obtain⟨p1,p2,p3,p4⟩:=cc.pre (fun h=>hun (cc.k7 (cc.k h).2))
   exact zi rfl (wp_rowF 45 (.tmp 3) rfl w.heap.size ((hF.old (by kernel_rfl)).trans rfl) p4 rfl underlying45 (by kernel_rfl) ⟨_,rfl,⟨fun h=>cc.pre (fun q=>h (zc q)),fun h=>⟨zc (cc.k (T 8 (by decide) h)).1,zc (cc.k (T 8 (by decide) h)).2⟩,fun h=>zc (cc.k7 (T 7 (by decide) h)),fun h=>zc (cc.k12 (T 12 (by decide) h)),uz cc.c0,uz cc.c1,uz cc.c2,uz cc.c3,uz cc.c4,uz cc.c5,fun _=>rfl,fun h=>(cc.c7 (T 7 (by decide) h)).imp fun q z=>⟨z.1,fun z2=>z.2 (fun q=>z2 (zc q))⟩,fun h=>⟨(cc.c8 (T 8 (by decide) h)).1,(cc.c8 (T 8 (by decide) h)).2.1,(cc.c8 (T 8 (by decide) h)).2.2.1,fun z=>(cc.c8 (T 8 (by decide) h)).2.2.2 (fun q=>z (zc q))⟩,uz cc.c9,uz cc.c10,uz cc.c11,uz cc.c12⟩⟩)
  ·simp at ho;subst ho;have T:=dT3 za 7;have hun:¬ za.getD 7 false=true:=fun h=>ya hi hs h
   have d6:=zg (i:=7) (j:=6) (by kernel_rfl) hi;have v6:=(hF.new (t:=10) (i:=6) (by kernel_rfl) (by simp) d6).trans (cc.c6 d6);have n8:¬ za.getD 8 false=true:=fun h=>hun (cc.k h).2
   obtain⟨p1,p2,p3,p4⟩:=cc.pre n8;have hb2:Below w'.heap.size w' (w'.alloc (.cells (Ar u) 45)):=zj (Below.refl _ _) _
   exact zi rfl (zt (v:=.slice (some ⟨w'.heap.size,0,none⟩) 1 1) (w1:=w'.alloc (.cells (Ar u) 45)) (by simp[execOp,v6,bsU]) ⟨_,rfl,⟨fun _=>⟨p1.below hb2,xh p2 (zq.of_below (F:=fun _=>True) hb2) (fun _ _=>trivial),p3.bel hb2,p4.below hb2⟩,fun h=>absurd (T 8 (by decide) h) n8,fun _=>zc d6,fun h=>absurd (cc.k12 (T 12 (by decide) h)) n8,uz cc.c0,uz cc.c1,uz cc.c2,uz cc.c3,uz cc.c4,uz cc.c5,uz cc.c6,fun _=>⟨_,rfl,fun _=>zb.last rfl⟩,fun h=>absurd (T 8 (by decide) h) n8,uz cc.c9,uz cc.c10,uz cc.c11,fun h=>absurd (cc.k12 (T 12 (by decide) h)) n8⟩⟩)
  ·simp at ho;subst ho;have T:=dT3 za 8;have hun:¬ za.getD 8 false=true:=fun h=>ya hi hs h
   have d5:=zg (i:=8) (j:=5) (by kernel_rfl) hi;have v5:=(hF.new (t:=9) (i:=5) (by kernel_rfl) (by simp) d5).trans (cc.c5 d5);have d7:=zg (i:=8) (j:=7) (by kernel_rfl) hi;have l8:(za.setIfInBounds 8 true).getD 8 false=true:=done_mV hs (by decide);obtain⟨p1,p2,p3,p4⟩:=cc.pre hun;obtain⟨bq,e7,hq⟩:=cc.c7 d7;have v7:=(hF.new (t:=11) (i:=7) (by kernel_rfl) (by simp) d7).trans e7;obtain⟨iU,hU1,hU2,hU3,hU4⟩:=hIU;obtain⟨v2,w2,hr2,q1,q2⟩:=app_els (b:=g+1) underlying61 hU1 hU2 hU3 hU4 rfl (by decide) (by decide) p2 p1.lt ⟨bq,0,none⟩ (uc u) rfl (fun j x hj=>by
    rw[vh,Nat.zero_add,(hq hun).cell];simpa using hj) (by intro x hx;simp only[uc,List.mem_cons,List.not_mem_nil,or_false]at hx;rcases hx with rfl|rfl|rfl|rfl<;>rfl) (by omega)
   exact zi rfl (zt (v:=v2) (w1:=w2) (by simp[execOp,resolve,invoke,builtin,v5,v7,hr2]) ⟨_,rfl,⟨fun h=>absurd l8 h,fun _=>⟨zc d5,zc d7⟩,fun h=>zc (cc.k7 (T 7 (by decide) h)),fun h=>absurd (cc.k12 (T 12 (by decide) h)) hun,uz cc.c0,uz cc.c1,uz cc.c2,uz cc.c3,uz cc.c4,uz cc.c5,uz cc.c6,fun h=>(cc.c7 (T 7 (by decide) h)).imp fun q z=>⟨z.1,fun z2=>absurd l8 z2⟩,fun _=>⟨q1,⟨q2.gr.os.trans p3.os,q2.gr.tape.trans p3.tape,q2.gr.output.trans p3.output,Nat.le_trans p3.size q2.gr.size,fun k hk hn=>(q2.gr.block k (Nat.lt_of_lt_of_le hk p3.size) fun e=>hn.2 e.symm).trans (p3.block k hk hn)⟩,fun k hk=>(q2.nb k hk).imp id fun h=>Nat.le_trans p3.size h,fun _=>(by obtain⟨t,ht⟩:=p1;exact⟨t,(q2.gr.block g (zb.lt ⟨t,ht⟩) fun e=>by have:=(p2.lt g e.symm).1;omega).trans ht⟩)⟩,uz cc.c9,uz cc.c10,uz cc.c11,fun h=>absurd (cc.k12 (T 12 (by decide) h)) hun⟩⟩)
  ·simp at ho;subst ho;have T:=dT3 za 9;have hun:¬ za.getD 9 false=true:=fun h=>ya hi hs h
   have d0:=zg (i:=9) (j:=0) (by kernel_rfl) hi;have v0:=(hF.new (t:=4) (i:=0) (by kernel_rfl) (by simp) d0).trans (cc.c0 d0)
   exact zi rfl (zt (v:=zz g) (w1:=w') (by simp[execOp,ev v0,go_sem]) ⟨_,rfl,⟨fun h=>cc.pre (fun q=>h (zc q)),fun h=>⟨zc (cc.k (T 8 (by decide) h)).1,zc (cc.k (T 8 (by decide) h)).2⟩,fun h=>zc (cc.k7 (T 7 (by decide) h)),fun h=>zc (cc.k12 (T 12 (by decide) h)),uz cc.c0,uz cc.c1,uz cc.c2,uz cc.c3,uz cc.c4,uz cc.c5,uz cc.c6,fun h=>(cc.c7 (T 7 (by decide) h)).imp fun q z=>⟨z.1,fun z2=>z.2 (fun q=>z2 (zc q))⟩,fun h=>⟨(cc.c8 (T 8 (by decide) h)).1,(cc.c8 (T 8 (by decide) h)).2.1,(cc.c8 (T 8 (by decide) h)).2.2.1,fun z=>(cc.c8 (T 8 (by decide) h)).2.2.2 (fun q=>z (zc q))⟩,fun _=>rfl,uz cc.c10,uz cc.c11,uz cc.c12⟩⟩)
  ·simp at ho;subst ho;have T:=dT3 za 10;have hun:¬ za.getD 10 false=true:=fun h=>ya hi hs h
   have d9:=zg (i:=10) (j:=9) (by kernel_rfl) hi;have v9:=(hF.new (t:=13) (i:=9) (by kernel_rfl) (by simp) d9).trans (cc.c9 d9)
   exact zi rfl (zt (v:=.pointer (some ⟨g,0+0,none⟩)) (w1:=w') (by simp[execOp,ev v9,go_sem]) ⟨_,rfl,⟨fun h=>cc.pre (fun q=>h (zc q)),fun h=>⟨zc (cc.k (T 8 (by decide) h)).1,zc (cc.k (T 8 (by decide) h)).2⟩,fun h=>zc (cc.k7 (T 7 (by decide) h)),fun h=>zc (cc.k12 (T 12 (by decide) h)),uz cc.c0,uz cc.c1,uz cc.c2,uz cc.c3,uz cc.c4,uz cc.c5,uz cc.c6,fun h=>(cc.c7 (T 7 (by decide) h)).imp fun q z=>⟨z.1,fun z2=>z.2 (fun q=>z2 (zc q))⟩,fun h=>⟨(cc.c8 (T 8 (by decide) h)).1,(cc.c8 (T 8 (by decide) h)).2.1,(cc.c8 (T 8 (by decide) h)).2.2.1,fun z=>(cc.c8 (T 8 (by decide) h)).2.2.2 (fun q=>z (zc q))⟩,uz cc.c9,fun _=>rfl,uz cc.c11,uz cc.c12⟩⟩)
  ·simp at ho;subst ho;have T:=dT3 za 11;have hun:¬ za.getD 11 false=true:=fun h=>ya hi hs h
   have d10:=zg (i:=11) (j:=10) (by kernel_rfl) hi;have v10:=(hF.new (t:=14) (i:=10) (by kernel_rfl) (by simp) d10).trans (cc.c10 d10)
   exact zi rfl (zt (v:=.pointer (some ⟨g,0+0+2,none⟩)) (w1:=w') (by simp[execOp,ev v10,go_sem]) ⟨_,rfl,⟨fun h=>cc.pre (fun q=>h (zc q)),fun h=>⟨zc (cc.k (T 8 (by decide) h)).1,zc (cc.k (T 8 (by decide) h)).2⟩,fun h=>zc (cc.k7 (T 7 (by decide) h)),fun h=>zc (cc.k12 (T 12 (by decide) h)),uz cc.c0,uz cc.c1,uz cc.c2,uz cc.c3,uz cc.c4,uz cc.c5,uz cc.c6,fun h=>(cc.c7 (T 7 (by decide) h)).imp fun q z=>⟨z.1,fun z2=>z.2 (fun q=>z2 (zc q))⟩,fun h=>⟨(cc.c8 (T 8 (by decide) h)).1,(cc.c8 (T 8 (by decide) h)).2.1,(cc.c8 (T 8 (by decide) h)).2.2.1,fun z=>(cc.c8 (T 8 (by decide) h)).2.2.2 (fun q=>z (zc q))⟩,uz cc.c9,uz cc.c10,fun _=>rfl,uz cc.c12⟩⟩)
  ·simp at ho;subst ho;have T:=dT3 za 12;have hun:¬ za.getD 12 false=true:=fun h=>ya hi hs h
   have d11:=zg (i:=12) (j:=11) (by kernel_rfl) hi;have v11:=(hF.new (t:=15) (i:=11) (by kernel_rfl) (by simp) d11).trans (cc.c11 d11);have d8:=zg (i:=12) (j:=8) (by kernel_rfl) hi;have v8:=hF.new (t:=12) (i:=8) (by kernel_rfl) (by simp) d8;have l12:(za.setIfInBounds 12 true).getD 12 false=true:=done_mV hs (by decide);obtain⟨q1,q2,q3,q4⟩:=cc.c8 d8;obtain⟨o1,o2⟩:=owns_oneU q1;refine zi rfl (Oper.wp_mono ?_ (zah 61 (.tmp 15) (.tmp 12) rfl v11 v8 o1 (q4 hun) (by kernel_rfl) (Nat.le_of_ble_eq_true rfl) (by simp[o2]) (e:=xg f (vs 8) op pa dv) rfl))
   rintro a2 w2 ⟨rfl,rfl⟩
   exact⟨undef,rfl,⟨fun h=>absurd (zc d8) h,fun h=>⟨zc (cc.k (T 8 (by decide) h)).1,zc (cc.k (T 8 (by decide) h)).2⟩,fun h=>zc (cc.k7 (T 7 (by decide) h)),fun _=>zc d8,uz cc.c0,uz cc.c1,uz cc.c2,uz cc.c3,uz cc.c4,uz cc.c5,uz cc.c6,fun h=>(cc.c7 (T 7 (by decide) h)).imp fun q z=>⟨z.1,fun z2=>absurd (zc d8) z2⟩,fun _=>⟨xh q1 (zao (F:=fun k=>k≠g) _ _ _ (fun h=>h rfl)) (fun k hk e=>by subst e;have:=(q1.lt k hk).1;omega),⟨q2.os,q2.tape,q2.output,by simpa using q2.size,fun k hk hn=>(setRow_other _ _ _ _ hn.1).trans (q2.block k hk hn)⟩,q3,fun z=>absurd l12 z⟩,uz cc.c9,uz cc.c10,uz cc.c11,fun _=>zb.set_same (q4 hun) _⟩⟩
 ·intro za vs a' w' hd hF cc;obtain⟨q1,q2,q3,_⟩:=cc.c8 (hd 8 (by decide));have q4:=cc.c12 (hd 12 (by decide));have eD:a'.defers=[]:=by rw[hF.all hd];rfl
  exact bodyPost_end (results_none rfl _ _ _) eD ⟨rfl,_,q4,q1,q2,q3⟩
abbrev TU0:Value:=.tuple #[]
theorem MC.code{g:Nat}{v dv:Value}{f f':Fr}{w:World}(h:MC g v f dv w)(hs:f'.st=f.st)(hc:f'.code=f.code):MC g v f' dv w:=⟨by rw[hs];exact h.own,h.tb,h.ts,h.hg,h.lt,by rw[hc];exact h.ds⟩
theorem MS.code{wE:World}{g:Nat}{v0 dv0 v dv:Value}{f f':Fr}{w:World}(h:MS wE g v0 dv0 v f dv w)(hs:f'.st=f.st)(hc:f'.code=f.code):MS wE g v0 dv0 v f' dv w:=⟨h.c.code hs hc,h.lt,h.gr,h.nb,h.db⟩
theorem MC.moved{g:Nat}{v dv v':Value}{f f':Fr}{w w':World}(h:MC g v f dv w)(gr:GG g v w w')(own:w'.ownsRow (g+1) 45 4 v' f'.st.length (sC f'.st))(nb:∀ k,v'.ownBlock=some k→v.ownBlock=some k∨w.heap.size≤k)(hc:f'.code=f.code):MC g v' f' dv w':=by
 have hg7:=h.hg;have h7:∀ k,k<7→k≠g∧v.ownBlock≠some k:=fun k hk=>⟨by omega,fun e=>by have:=(h.own.lt k e).1;omega⟩
 refine⟨own,h.tb.grow gr h7,h.ts.grow gr h7,h.hg,Nat.lt_of_lt_of_le h.lt gr.size,?_⟩;rw[hc];refine h.ds.grow gr (fun k hk=>?_) nb;rcases h.ds with h1 | ⟨d,rfl,h2,h3,h4⟩
 ·rw[h1]at hk;cases hk
 ·have e:d=k:=Option.some.inj hk;subst e;exact⟨by omega,h4⟩
section
variable {wE:World} {g:Nat} {v0 dv0 v dv:Value} {f:Fr} {op:Nat} {pa:Int} {w:World} {ds:List Deferred} {β:Nat→Nat} {c:Cf} {a:Act} {Q:Exit→Act→World→Prop}
theorem SI.mp'{op':Nat}{pa':Int}(f':Fr)(I:SI (MS wE g v0 dv0 v f dv) (MF wE g v dv) ds β c a w)(hb:β 0=g)(hs:f'.st=f.st)(hc:f'.code=f.code)(hid:xo c.rows 0=some (xg f' v op' pa' dv):=by kernel_rfl):MP g v0 dv0 wE v f' op' pa' dv w:=⟨I.rowG 0 hb hid,I.hJ.code hs hc⟩
theorem SI.fr'(f':Fr)(I:SI (MS wE g v0 dv0 v f dv) (MF wE g v dv) ds β c a w)(hs:f'.st=f.st)(hc:f'.code=f.code):SI (MS wE g v0 dv0 v f' dv) (MF wE g v dv) ds β c a w:=⟨I.fr,I.df,I.hJ.code hs hc,I.row,I.dis,I.lt,I.inj,I.ids⟩
theorem rcallM{fn : Nat}{F : Func}{xs : List Value}{x : Value}(hf : prog.funcs[fn]? = some F)(I : SI (MS wE g v0 dv0 v f dv) (MF wE g v dv) ds β c a w)(hb : β 0 = g)(hm : MI g v f op pa dv w → Calls prog fn (zz g :: xs).toArray w fun e w' => e = .returned x ∧ Below w.heap.size w w')(k : ∀ w', SI (MS wE g v0 dv0 v f dv) (MF wE g v dv) ds β (xp c x) (a.put (yt c) x) w' → At prog Q (xp c x) (a.put (yt c) x) w')(hc : callX c = some (fn, Sum.inr (0, 0) :: xs.map Sum.inl) := by kernel_rfl)(hid : xo c.rows 0 = some (xg f v op pa dv) := by kernel_rfl)(hbd : F.body.isNone = false := by kernel_rfl)(hn : (F.name == "runtime.NumGoroutine") = false := by kernel_rfl) : At prog Q c a w := by
 refine kl (Sum.inr (0,0)::xs.map Sum.inl) hf I ?_ hc hbd hn;have e:((Sum.inr (0,0)::xs.map Sum.inl).map (up β))=zz g::xs:=by
  simp only[List.map_cons,List.map_map,up,List.cons.injEq,hb];exact⟨trivial,List.map_id _⟩
 rw[e];refine(hm (I.mi hb hid)).mono fun e w1 he=>?_;obtain⟨rfl,hb1⟩:=he;exact k w1 (I.moved (zq.of_below hb1) ((MS.rs _ _ _ _ _ _ _).loc _ _ I.hJ (zq.of_below hb1)) (fun _ _ h=>h) x)
end
theorem ql(n:Nat)(h:n<1000000000000):RT 146 #[U n] (Z n):=by
 intro w;have hl:l0 n=n:=(za7 n (by have:=M_big;omega)).1;have hc:=cnv46 n h;unfold U;rw[hl];generalize l1 n=a1,l2 n=a2,l3 n=a3 at *;refine inZ func146 fun a I=>?_;refine goZ [vO 23 3 hc] I fun β a w1 I1 hb=>?_;exact ye (v:=Z n) I1
theorem fst_b(x0 x1 x2 x3:Nat)(y:Value):RT 243 #[U4 x0 x1 x2 x3,y] (U4 x0 x1 x2 x3):=by
 refine fun w=>inZ func243 fun a I=>?_;refine goZ [] I fun β a w1 I1 hb=>?_;exact ye (v:=U4 x0 x1 x2 x3) I1
theorem fst_e(x0 x1 x2 x3:Nat)(y:Value):RT 281 #[U4 x0 x1 x2 x3,y] (U4 x0 x1 x2 x3):=by
 refine fun w=>inZ func281 fun a I=>?_;refine goZ [] I fun β a w1 I1 hb=>?_;exact ye (v:=U4 x0 x1 x2 x3) I1
theorem fst_u(x0 x1 x2 x3 y0 y1 y2 y3:Nat):RT 248 #[U4 x0 x1 x2 x3,U4 y0 y1 y2 y3] (U4 x0 x1 x2 x3):=by
 refine fun w=>inZ func248 fun a I=>?_;refine goZ [] I fun β a w1 I1 hb=>?_;exact ye (v:=U4 x0 x1 x2 x3) I1
theorem snd_u(x0 x1 x2 x3 y0 y1 y2 y3:Nat):RT 253 #[U4 x0 x1 x2 x3,U4 y0 y1 y2 y3] (U4 y0 y1 y2 y3):=by
 refine fun w=>inZ func253 fun a I=>?_;refine goZ [] I fun β a w1 I1 hb=>?_;exact ye (v:=U4 y0 y1 y2 y3) I1
theorem U4_1:U 1=U4 1 0 0 0:=by kernel_rfl
theorem truth_any(b:Bool):RT 266 #[.bool b] (U (trB b)):=by
 refine fun w=>inZ func266 fun a I=>?_;cases b
 ·refine goZ [kC func48 (zaw 0)] I fun β a w1 I1 hb=>?_;exact zm (v:=U4 0 0 0 0) I1 ⟨by rw[show trB false=0 from rfl,U0],I1.hJ⟩
 ·refine goZ [kC func48 (zaw 1)] I fun β a w1 I1 hb=>?_;exact zm (v:=U4 1 0 0 0) I1 ⟨by rw[show trB true=1 from rfl,U4_1],I1.hJ⟩
theorem own_at{w:World}{g k n cap:Nat}{s:List Nat}(h:w.ownsRow (g+1) 45 4 (.slice (some ⟨k,0,none⟩) n cap) s.length (sC s))(i:Nat)(hi:i<s.length):yi w k (0+(s.length-1-i)*4) (uc (tp s i)):=by
 intro j c hc;have hj:j<4:=(List.getElem?_eq_some_iff.1 hc).1;rw[← sC_get s i j hi hj]at hc;have:=h.cells (g:=k) rfl _ _ hc;rw[vh]at this;rw[← this]
 congr 2
 omega
theorem own_addr{w:World}{g:Nat}{v:Value}{s:List Nat}(h:w.ownsRow (g+1) 45 4 v s.length (sC s))(hs:0<s.length):∃ k cap,v=.slice (some ⟨k,0,none⟩) s.length cap∧s.length≤cap:=by
 rcases h.2 with⟨_,h2⟩|⟨k,cap,cur,rfl,_,_,h3,_⟩
 ·omega
 ·exact⟨k,cap,rfl,h3⟩
theorem zck{g:Nat}{v:Value}{f:Fr}{op:Nat}{pa:Int}{dv:Value}{w:World}(h:MI g v f op pa dv w)(k:Nat)(hk:k<f.st.length)(hl:f.st.length≤1000):Calls prog 114 #[zz g,Z k] w fun e w'=>e=.returned (U (tp f.st k))∧Below w.heap.size w w':=by
 obtain⟨b,cap,rfl,hcap⟩:=own_addr h.c.own (by omega);have hld1:∀ w',Below w.heap.size w w'→(loadVar 61 ⟨g,0+0+2,none⟩).run prog w'=.ok (.slice (some ⟨b,0,none⟩) f.st.length cap) w':=fun w' hb=>run_lv (h.row.below hb) (by kernel_rfl)
 have hld2:∀ w',Below w.heap.size w w'→(loadVar 45 ⟨b,0+(f.st.length-1-k)*4,none⟩).run prog w'=.ok (.agg (uc (tp f.st k)).toArray) w':=fun w' hb=>loadN underlying45 rfl (n:=4) (by kernel_rfl) rfl (own_at (xh h.c.own (zq.of_below (F:=fun _=>True) hb) fun _ _=>trivial) k hk)
 unfold U;simp only[uc]at hld2;generalize l0 (tp f.st k)=x0,l1 (tp f.st k)=x1,l2 (tp f.st k)=x2,l3 (tp f.st k)=x3,f.st.length=n at *;refine inZ func114 fun a I=>?_;refine goZ [] I fun β a w1 I1 hb=>?_;refine dwT (T:=Below w.heap.size w) 16 [ldA 61 hld1,ldA 61 hld1,lS underlying61 (ad:=some ⟨b,0,none⟩) (n:=n) (cap:=cap) (z:=n) rfl,ksZ n 1 (n-1:Nat),ksZ (n-1:Nat) k (n-1-k:Nat),iA 61 underlying61 (sz:=4) (by kernel_rfl) (g:=b) (off:=0) (n:=n) (cap:=cap) (i:=n-1-k) (by omega),ldA 45 hld2] (zd w) (fun _ h=>h) zk.post I1 fun a2 w2 I2=>?_;refine goZ [] I2 fun β3 a3 w3 I3 hb3=>?_
 exact ye (v:=U4 x0 x1 x2 x3) I3
theorem own_take{w:World}{g k cap u:Nat}{s:List Nat}(h:w.ownsRow (g+1) 45 4 (.slice (some ⟨k,0,none⟩) (s.length+1) cap) (s.length+1) (sC (u::s))):w.ownsRow (g+1) 45 4 (.slice (some ⟨k,0,none⟩) s.length cap) s.length (sC s):=by
 refine⟨by rw[sC_len];omega,.inr ?_⟩;rcases h.2 with⟨h1,_⟩|⟨k',cap',cur,h1,h2,h3,h4,h5,h6,h7⟩
 ·cases h1
 ·cases h1;refine⟨_,_,cur,rfl,h2,h3,by omega,h5,h6,?_⟩;have e:(cur.toList.take ((s.length+1)*4)).take (s.length*4)=(sC s++uc u).take (s.length*4):=by rw[h7,zc5]
  rw[List.take_take,Nat.min_eq_left (by omega),List.take_append_of_le_length (by rw[sC_len];omega)]at e;exact e.trans (List.take_of_length_le (by rw[sC_len];omega))
theorem slTo(k n cap m:Nat)(h:m≤n)(hc:n≤cap)(w:World):(Instr.sliceAt 61 (.slice (some ⟨k,0,none⟩) n cap) none (some (Z m)) none).run prog w=.ok (.slice (some ⟨k,0,none⟩) m cap) w:=by
 have h1:m≤cap:=by omega
 simp[go_sem,h1]
theorem yc{g:Nat}{f:Fr}{op:Nat}{pa:Int}{u:Nat}{s:List Nat}(hs:f.st=u::s)(hl:f.st.length≤1000):Mth 267 g [] f op pa (U u) { f with st:=s } op pa:=by
 intro v dv w h;obtain⟨b,cap,rfl,hcap⟩:=own_addr h.c.own (by rw[hs];simp);have htop:=fun w (h:MI g (.slice (some ⟨b,0,none⟩) f.st.length cap) f op pa dv w)=>zck h 0 (by rw[hs];simp) hl
 have e0:tp f.st 0=u:=by rw[hs];rfl
 rw[e0]at htop;have hn:f.st.length=s.length+1:=by rw[hs];rfl
 have hst:=h.start;rw[hn]at hst hcap;have hrw:=h.row;rw[hn]at hrw htop;unfold U at htop ⊢;generalize l0 u=x0,l1 u=x1,l2 u=x2,l3 u=x3 at *;generalize hsl:s.length=n at *;refine inG (J:=MS w g (.slice (some ⟨b,0,none⟩) f.st.length cap) dv (.slice (some ⟨b,0,none⟩) (n+1) cap) f dv) (F:=MF w g (.slice (some ⟨b,0,none⟩) (n+1) cap) dv) [] func267 (hn ▸ hst) hrw hst.c.not fun a I=>?_;refine goM [] I fun β a w1 I1 hb1=>?_;have hb10:β 0=g:=agr hb1 0 rfl;refine rcallM (xs:=[Z (0:Nat)]) (op:=op) (pa:=pa) func114 I1 hb10 (htop w1) fun w2 I2=>?_;refine goM [] I2 fun β3 a3 w3 I3 hb3=>?_
 have hb30:β3 0=g:=agr hb3 0 hb10;refine dwQ 14 [lS underlying61 (ad:=some ⟨b,0,none⟩) (n:=n+1) (cap:=cap) (z:=((n+1:Nat):Int)) rfl,ksZ ((n+1:Nat):Int) 1 n,sT 61 (slTo b (n+1) cap n (by omega) hcap)] (MS.rs _ _ _ _ _ _ _) zk.post I3 fun a4 w4 I4=>?_;refine goM [] I4 fun β5 a5 w5 I5 hb5=>?_;have hb50:β5 0=g:=agr hb5 0 hb30;have hJ:=I5.hJ;have hown:=hJ.c.own;rw[hn,hs]at hown;subst hsl
 refine zm (v:=U4 x0 x1 x2 x3) I5 ⟨.slice (some ⟨b,0,none⟩) s.length cap,dv,rfl,I5.rowG 0 hb50 (r:=xg { f with st:=s } (.slice (some ⟨b,0,none⟩) s.length cap) op pa dv),⟨⟨own_take hown,hJ.c.tb,hJ.c.ts,hJ.c.hg,hJ.c.lt,hJ.c.ds⟩,hJ.lt,hJ.gr,hJ.nb,hJ.db⟩⟩
theorem za0{g:Nat}{f:Fr}{op:Nat}{pa:Int}(u:Nat)(hl:f.st.length≤1000):Mth 209 g [U u] f op pa TU0 { f with st:=u::f.st } op pa:=by
 intro v dv w h;refine(lay_raw g f op pa dv v u hl w h.row h.c.own).mono fun e w' he=>?_;obtain⟨rfl,v',h1,h2,h3,h4⟩:=he;rw[← zc5]at h2;exact⟨v',dv,rfl,h1,h.c.moved h3 h2 h4 rfl,h.c.lt,h3,h4,fun k hk=>.inl hk⟩
end Go.Proofs.YthkpgfbjdabflaaGreatDoor
