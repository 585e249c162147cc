/- Laid one behind the other: Th, Ti, Tj, Tk. -/
import Derived.Test.YtdeompgdhaomgaaGreatDoorKtTe
namespace Go.Proofs.YtdeompgdhaomgaaGreatDoor
open Go.RowKit Go.Sort Go.Proofs.Tryz
set_option linter.unusedVariables false
set_option maxRecDepth 100000
set_option maxHeartbeats 4000000
def OneP (n:Nat) (t:TT n) (w:World) (e:Ending) (w':World):Prop:=Below w.heap.size w w'∧∃ ad m cap K,e=.returned (.agg (tx (t.1,t.2.1,t.2.2.1,.slice ad m cap)).toArray)∧(∀ k,K k→w.heap.size≤k∧k<w'.heap.size)∧LAf K w' n (.slice ad m cap) t.2.2.2
abbrev yc (n u:Nat):TT n:=(0,u,eB,yf n)
abbrev yj (n:Nat) (s:ByteArray):TT n:=(1,0,s,yf n)
abbrev zt (n:Nat) (l:TL n):TT n:=(2,0,eB,l)
theorem oneP_num{n u:Nat}{w:World}{e:Ending}{w':World}(h:e=.returned (nTm u)∧Below w.heap.size w w'):OneP n (yc n u) w e w':=⟨h.2,none,0,0,noK,h.1,fun k hk=>hk.elim,LAf.nil _ _ n⟩
abbrev zT7:Array Value:=(tx (0,0,eB,.slice none 0 0)).toArray
abbrev fnV (g:Nat):Value:=.func (.func g) #[] #[]
abbrev lsK:List Nat:=[0,1,4,5,8,9,10]
abbrev lsV (lv fv ov:Value) (n i:Nat):Vs:=frm 23 [(0,Sum.inl lv),(1,Sum.inl fv),(4,Sum.inr (0,0)),(5,Sum.inl ov),(8,Sum.inl lv),(9,Sum.inl (Z n)),(10,Sum.inl (Z i))]
theorem one7(k:Int)(u:Nat)(s:ByteArray)(ad:Option Addr)(m cap:Nat):∀ x∈tx (k,u,s,.slice ad m cap),x.oneCell'=true:=by
 intro u hu;simp only[tx,zaj,List.mem_cons,List.not_mem_nil,or_false]at hu;rcases hu with rfl|rfl|rfl|rfl|rfl|rfl|rfl<;>rfl
theorem listed72{w:World}{lv:Value}{l:List ByteArray}{n:Nat}(f:ByteArray→TT n)(h:SlI 1 CS (· < w.heap.size) w lv l)(hl:l.length<100000000)(hone:∀ x∈l,∀ w',Below w.heap.size w w'→Calls prog 124 #[.string x] w' (OneP n (f x) w')):Calls prog 123 #[lv,fnV 124] w (OneP (n+1) (zt (n+1) (l.map f)) w):=by
 obtain⟨ad0,cap0,rfl,hm⟩:=h;refine inQ (J:=QJ (CT n) w 59 7 (.slice none 0 0) [] [] noK) (F:=QF w (.slice none 0 0) noK) func123 (QJ.start _ _ _ _) fun a I=>?_;refine goQ [lS underlying22 (ad:=ad0) (n:=l.length) (cap:=cap0) rfl] (QJ.rs (CT.loc n) _ _ _ _ _ _ _) I fun β a w1 I hb=>?_
 let St:Nat→Act→World→Prop:=fun k a w'=>∃(i:Nat) (β:Nat→Nat) (u:Nat→Value) (ad:Option Addr) (cap:Nat) (X:List (List Value)) (K:Nat→Prop),k=l.length-i∧i≤l.length∧X.length=i ∧
  SI (QJ (CT n) w 59 7 (.slice ad i cap) X ((l.take i).map f) K) (QF w (.slice ad i cap) K) [] β (cfC (zc Tryz.f123) (zl (zg 23 lsK) u 0 (lsV (.slice ad0 l.length cap0) (fnV 124) (.slice ad i cap) l.length i)) [(0,zT7)] 1) a w'
 refine lpM (zc Tryz.f123) St l.length ?_ ?_
 ·obtain⟨u,Iu⟩:=I.scr (zc Tryz.f123) (zg 23 lsK) (lsV (.slice ad0 l.length cap0) (fnV 124) (.slice none 0 0) l.length 0) [(0,zT7)] 1;exact⟨0,β,u,none,0,[],noK,by omega,Nat.zero_le _,rfl,Iu⟩
 rintro k a3 w3 ⟨i,β3,u,ad,cap,X,K,rfl,hi,hXi,I⟩;refine zv (tm:=zl (zg 23 lsK) u 0 (lsV (.slice ad0 l.length cap0) (fnV 124) (.slice ad i cap) l.length i)) (rows:=[(0,zT7)]) (nx:=1) ?_;rcases Nat.lt_or_ge i l.length with hil|hil
 ·obtain⟨x,h1⟩:∃ t,l[i]? = some t:=⟨_,List.getElem?_eq_getElem hil⟩
  obtain⟨ga,offa,cs,rfl,hlt,hca,rfl⟩:=hm i _ h1;have hxl:=List.mem_of_getElem? h1;have hld:∀ w',QJ (CT n) w 59 7 (.slice ad i cap) X ((l.take i).map f) K w'→(loadVar 9 ⟨ga,offa+i*1,none⟩).run prog w'=.ok (.string x) w':=fun w' hb=>zbh (hca.keep (hb.below.block ga hlt))
  refine goT (T:=QJ (CT n) w 59 7 (.slice ad i cap) X ((l.take i).map f) K) [klT i l.length,iA 22 underlying22 (sz:=1) (by kernel_rfl) (g:=ga) (off:=offa) (n:=l.length) (cap:=cap0) hil,ldA 9 hld] (QJ.rs (CT.loc n) _ _ _ _ _ _ _) (fun _ h=>h) I fun β4 a4 w4 I hb4=>?_;refine zcb [Sum.inl (.string x)] func124 I ?_;refine(hone x hxl w4 I.hJ.below).mono fun e w5 he=>?_;obtain⟨hb5,adl,ml,capl,K1,rfl,hK1,hL⟩:=he;have hn5:=mem_new I.hJ hK1
  have I5:=zas (CT.loc n) I hb5 hK1 (x:=f x) (cs:=tx ((f x).1,(f x).2.1,(f x).2.2.1,.slice adl ml capl)) ⟨_,rfl,hL⟩ (.agg (tx ((f x).1,(f x).2.1,(f x).2.2.1,.slice adl ml capl)).toArray);obtain⟨t,ht⟩:∃ t,f x=t:=⟨_,rfl⟩
  rw[ht]at I5 ⊢;obtain⟨tk,tu,ts,tl⟩:=t;refine kh (CT.loc n) underlying48 hI41 rfl (by decide) (by decide) (ev:=.agg (tx (tk,tu,ts,.slice adl ml capl)).toArray) (zaa _ _ _ _ _ _ _ w5) rfl (one7 _ _ _ _ _ _) I5 hXi (by omega) hn5 fun ad8 cap8 a8 w8 I8=>?_;refine goQ [kaZ i 1 (i+1:Nat)] (QJ.rs (CT.loc n) _ _ _ _ _ _ _) I8 fun β9 a9 w9 I hb9=>?_;obtain⟨u',Iu⟩:=I.scr (zc Tryz.f123) (zg 23 lsK) (lsV (.slice (some ⟨ga,offa,none⟩) l.length cap0) (fnV 124) (.slice ad8 (i+1) cap8) l.length (i+1)) [(0,zT7)] 1
  have htk:(l.take (i+1)).map f=(l.take i).map f++[(tk,tu,ts,tl)]:=by rw[List.take_add_one,h1,List.map_append,← ht];rfl
  refine xc ⟨l.length-(i+1),by omega,i+1,β9,u',ad8,cap8,X++[tx (tk,tu,ts,.slice adl ml capl)],(fun k=>K k∨K1 k),rfl,hil,by rw[List.length_append,hXi];rfl,?_⟩;rw[htk];exact Iu
 ·obtain rfl:i=l.length:=by omega
  refine goQ [bO .lss 3 (zf (x:=l.length) (y:=l.length) (b:=false) (by simp))] (QJ.rs (CT.loc n) _ _ _ _ _ _ _) I fun β4 a4 w4 I hb4=>?_;refine xg 0 ?_;refine goQ [kC func129 (kj ad l.length cap)] (QJ.rs (CT.loc n) _ _ _ _ _ _ _) (I.exit _) fun β5 a5 w5 I hb5=>?_;rw[List.take_length]at I;exact zh (v:=lTm (.slice ad l.length cap)) I ⟨I.hJ.below,ad,l.length,cap,_,rfl,I.hJ.kb2,(I.hJ.done (CT.loc n)).terms⟩
theorem listed86{w:World}{lv:Value}{l:List Al}{n:Nat}(f:Al→TT n)(h:SlI 8 CA (· < w.heap.size) w lv l)(hl:l.length<100000000)(hone:∀ x∈l,∀ w',Below w.heap.size w w'→Calls prog 131 #[.agg (al8 x).toArray] w' (OneP n (f x) w')):Calls prog 130 #[lv,fnV 131] w (OneP (n+1) (zt (n+1) (l.map f)) w):=by
 obtain⟨ad0,cap0,rfl,hm⟩:=h;refine inQ (J:=QJ (CT n) w 59 7 (.slice none 0 0) [] [] noK) (F:=QF w (.slice none 0 0) noK) func130 (QJ.start _ _ _ _) fun a I=>?_;refine goQ [lS underlying45 (ad:=ad0) (n:=l.length) (cap:=cap0) rfl] (QJ.rs (CT.loc n) _ _ _ _ _ _ _) I fun β a w1 I hb=>?_
 let St:Nat→Act→World→Prop:=fun k a w'=>∃(i:Nat) (β:Nat→Nat) (u:Nat→Value) (ad:Option Addr) (cap:Nat) (X:List (List Value)) (K:Nat→Prop),k=l.length-i∧i≤l.length∧X.length=i ∧
  SI (QJ (CT n) w 59 7 (.slice ad i cap) X ((l.take i).map f) K) (QF w (.slice ad i cap) K) [] β (cfC (zc Tryz.f130) (zl (zg 23 lsK) u 0 (lsV (.slice ad0 l.length cap0) (fnV 131) (.slice ad i cap) l.length i)) [(0,zT7)] 1) a w'
 refine lpM (zc Tryz.f130) St l.length ?_ ?_
 ·obtain⟨u,Iu⟩:=I.scr (zc Tryz.f130) (zg 23 lsK) (lsV (.slice ad0 l.length cap0) (fnV 131) (.slice none 0 0) l.length 0) [(0,zT7)] 1;exact⟨0,β,u,none,0,[],noK,by omega,Nat.zero_le _,rfl,Iu⟩
 rintro k a3 w3 ⟨i,β3,u,ad,cap,X,K,rfl,hi,hXi,I⟩;refine zv (tm:=zl (zg 23 lsK) u 0 (lsV (.slice ad0 l.length cap0) (fnV 131) (.slice ad i cap) l.length i)) (rows:=[(0,zT7)]) (nx:=1) ?_;rcases Nat.lt_or_ge i l.length with hil|hil
 ·obtain⟨x,h1⟩:∃ t,l[i]? = some t:=⟨_,List.getElem?_eq_getElem hil⟩
  obtain⟨ga,offa,cs,rfl,hlt,hca,rfl,ham⟩:=hm i _ h1;have hxl:=List.mem_of_getElem? h1;have hld:∀ w',QJ (CT n) w 59 7 (.slice ad i cap) X ((l.take i).map f) K w'→(loadVar 133 ⟨ga,offa+i*8,none⟩).run prog w'=.ok (.agg (al8 x).toArray) w':=fun w' hb=>zb5 (hca.keep (hb.below.block ga hlt))
  refine goT (T:=QJ (CT n) w 59 7 (.slice ad i cap) X ((l.take i).map f) K) [klT i l.length,iA 45 underlying45 (sz:=8) (by kernel_rfl) (g:=ga) (off:=offa) (n:=l.length) (cap:=cap0) hil,ldA 133 hld] (QJ.rs (CT.loc n) _ _ _ _ _ _ _) (fun _ h=>h) I fun β4 a4 w4 I hb4=>?_;refine zcb [Sum.inl (.agg (al8 x).toArray)] func131 I ?_;refine(hone x hxl w4 I.hJ.below).mono fun e w5 he=>?_;obtain⟨hb5,adl,ml,capl,K1,rfl,hK1,hL⟩:=he;have hn5:=mem_new I.hJ hK1
  have I5:=zas (CT.loc n) I hb5 hK1 (x:=f x) (cs:=tx ((f x).1,(f x).2.1,(f x).2.2.1,.slice adl ml capl)) ⟨_,rfl,hL⟩ (.agg (tx ((f x).1,(f x).2.1,(f x).2.2.1,.slice adl ml capl)).toArray);obtain⟨t,ht⟩:∃ t,f x=t:=⟨_,rfl⟩
  rw[ht]at I5 ⊢;obtain⟨tk,tu,ts,tl⟩:=t;refine kh (CT.loc n) underlying48 hI41 rfl (by decide) (by decide) (ev:=.agg (tx (tk,tu,ts,.slice adl ml capl)).toArray) (zaa _ _ _ _ _ _ _ w5) rfl (one7 _ _ _ _ _ _) I5 hXi (by omega) hn5 fun ad8 cap8 a8 w8 I8=>?_;refine goQ [kaZ i 1 (i+1:Nat)] (QJ.rs (CT.loc n) _ _ _ _ _ _ _) I8 fun β9 a9 w9 I hb9=>?_;obtain⟨u',Iu⟩:=I.scr (zc Tryz.f130) (zg 23 lsK) (lsV (.slice (some ⟨ga,offa,none⟩) l.length cap0) (fnV 131) (.slice ad8 (i+1) cap8) l.length (i+1)) [(0,zT7)] 1
  have htk:(l.take (i+1)).map f=(l.take i).map f++[(tk,tu,ts,tl)]:=by rw[List.take_add_one,h1,List.map_append,← ht];rfl
  refine xc ⟨l.length-(i+1),by omega,i+1,β9,u',ad8,cap8,X++[tx (tk,tu,ts,.slice adl ml capl)],(fun k=>K k∨K1 k),rfl,hil,by rw[List.length_append,hXi];rfl,?_⟩;rw[htk];exact Iu
 ·obtain rfl:i=l.length:=by omega
  refine goQ [bO .lss 3 (zf (x:=l.length) (y:=l.length) (b:=false) (by simp))] (QJ.rs (CT.loc n) _ _ _ _ _ _ _) I fun β4 a4 w4 I hb4=>?_;refine xg 0 ?_;refine goQ [kC func129 (kj ad l.length cap)] (QJ.rs (CT.loc n) _ _ _ _ _ _ _) (I.exit _) fun β5 a5 w5 I hb5=>?_;rw[List.take_length]at I;exact zh (v:=lTm (.slice ad l.length cap)) I ⟨I.hJ.below,ad,l.length,cap,_,rfl,I.hJ.kb2,(I.hJ.done (CT.loc n)).terms⟩
theorem listed83{w:World}{lv:Value}{l:List Ex}{n:Nat}(f:Ex→TT n)(h:SlI 2 CE (· < w.heap.size) w lv l)(hl:l.length<100000000)(hone:∀ x∈l,∀ ada capa,AlI w (.slice ada x.2.length capa) x.2→∀ w',Below w.heap.size w w'→Calls prog 128 #[.agg #[.string x.1,.slice ada x.2.length capa]] w' (OneP n (f x) w')):Calls prog 127 #[lv,fnV 128] w (OneP (n+1) (zt (n+1) (l.map f)) w):=by
 obtain⟨ad0,cap0,rfl,hm⟩:=h;refine inQ (J:=QJ (CT n) w 59 7 (.slice none 0 0) [] [] noK) (F:=QF w (.slice none 0 0) noK) func127 (QJ.start _ _ _ _) fun a I=>?_;refine goQ [lS underlying26 (ad:=ad0) (n:=l.length) (cap:=cap0) rfl] (QJ.rs (CT.loc n) _ _ _ _ _ _ _) I fun β a w1 I hb=>?_
 let St:Nat→Act→World→Prop:=fun k a w'=>∃(i:Nat) (β:Nat→Nat) (u:Nat→Value) (ad:Option Addr) (cap:Nat) (X:List (List Value)) (K:Nat→Prop),k=l.length-i∧i≤l.length∧X.length=i ∧
  SI (QJ (CT n) w 59 7 (.slice ad i cap) X ((l.take i).map f) K) (QF w (.slice ad i cap) K) [] β (cfC (zc Tryz.f127) (zl (zg 23 lsK) u 0 (lsV (.slice ad0 l.length cap0) (fnV 128) (.slice ad i cap) l.length i)) [(0,zT7)] 1) a w'
 refine lpM (zc Tryz.f127) St l.length ?_ ?_
 ·obtain⟨u,Iu⟩:=I.scr (zc Tryz.f127) (zg 23 lsK) (lsV (.slice ad0 l.length cap0) (fnV 128) (.slice none 0 0) l.length 0) [(0,zT7)] 1;exact⟨0,β,u,none,0,[],noK,by omega,Nat.zero_le _,rfl,Iu⟩
 rintro k a3 w3 ⟨i,β3,u,ad,cap,X,K,rfl,hi,hXi,I⟩;refine zv (tm:=zl (zg 23 lsK) u 0 (lsV (.slice ad0 l.length cap0) (fnV 128) (.slice ad i cap) l.length i)) (rows:=[(0,zT7)]) (nx:=1) ?_;rcases Nat.lt_or_ge i l.length with hil|hil
 ·obtain⟨x,h1⟩:∃ t,l[i]? = some t:=⟨_,List.getElem?_eq_getElem hil⟩
  obtain⟨ga,offa,cs,rfl,hlt,hca,av,rfl,hAl⟩:=hm i _ h1;have hxl:=List.mem_of_getElem? h1;obtain⟨ada,capa,rfl⟩:=hAl.slice;have hld:∀ w',QJ (CT n) w 59 7 (.slice ad i cap) X ((l.take i).map f) K w'→(loadVar 47 ⟨ga,offa+i*2,none⟩).run prog w'=.ok (.agg #[.string x.1,.slice ada x.2.length capa]) w':=fun w' hb=>loadEx (hca.keep (hb.below.block ga hlt))
  refine goT (T:=QJ (CT n) w 59 7 (.slice ad i cap) X ((l.take i).map f) K) [klT i l.length,iA 26 underlying26 (sz:=2) (by kernel_rfl) (g:=ga) (off:=offa) (n:=l.length) (cap:=cap0) hil,ldA 47 hld] (QJ.rs (CT.loc n) _ _ _ _ _ _ _) (fun _ h=>h) I fun β4 a4 w4 I hb4=>?_;refine zcb [Sum.inl (.agg #[.string x.1,.slice ada x.2.length capa])] func128 I ?_;refine(hone x hxl _ _ hAl w4 I.hJ.below).mono fun e w5 he=>?_;obtain⟨hb5,adl,ml,capl,K1,rfl,hK1,hL⟩:=he;have hn5:=mem_new I.hJ hK1
  have I5:=zas (CT.loc n) I hb5 hK1 (x:=f x) (cs:=tx ((f x).1,(f x).2.1,(f x).2.2.1,.slice adl ml capl)) ⟨_,rfl,hL⟩ (.agg (tx ((f x).1,(f x).2.1,(f x).2.2.1,.slice adl ml capl)).toArray);obtain⟨t,ht⟩:∃ t,f x=t:=⟨_,rfl⟩
  rw[ht]at I5 ⊢;obtain⟨tk,tu,ts,tl⟩:=t;refine kh (CT.loc n) underlying48 hI41 rfl (by decide) (by decide) (ev:=.agg (tx (tk,tu,ts,.slice adl ml capl)).toArray) (zaa _ _ _ _ _ _ _ w5) rfl (one7 _ _ _ _ _ _) I5 hXi (by omega) hn5 fun ad8 cap8 a8 w8 I8=>?_;refine goQ [kaZ i 1 (i+1:Nat)] (QJ.rs (CT.loc n) _ _ _ _ _ _ _) I8 fun β9 a9 w9 I hb9=>?_;obtain⟨u',Iu⟩:=I.scr (zc Tryz.f127) (zg 23 lsK) (lsV (.slice (some ⟨ga,offa,none⟩) l.length cap0) (fnV 128) (.slice ad8 (i+1) cap8) l.length (i+1)) [(0,zT7)] 1
  have htk:(l.take (i+1)).map f=(l.take i).map f++[(tk,tu,ts,tl)]:=by rw[List.take_add_one,h1,List.map_append,← ht];rfl
  refine xc ⟨l.length-(i+1),by omega,i+1,β9,u',ad8,cap8,X++[tx (tk,tu,ts,.slice adl ml capl)],(fun k=>K k∨K1 k),rfl,hil,by rw[List.length_append,hXi];rfl,?_⟩;rw[htk];exact Iu
 ·obtain rfl:i=l.length:=by omega
  refine goQ [bO .lss 3 (zf (x:=l.length) (y:=l.length) (b:=false) (by simp))] (QJ.rs (CT.loc n) _ _ _ _ _ _ _) I fun β4 a4 w4 I hb4=>?_;refine xg 0 ?_;refine goQ [kC func129 (kj ad l.length cap)] (QJ.rs (CT.loc n) _ _ _ _ _ _ _) (I.exit _) fun β5 a5 w5 I hb5=>?_;rw[List.take_length]at I;exact zh (v:=lTm (.slice ad l.length cap)) I ⟨I.hJ.below,ad,l.length,cap,_,rfl,I.hJ.kb2,(I.hJ.done (CT.loc n)).terms⟩
abbrev Tx:Type:=Int×Nat×ByteArray×Value
theorem bs_t2(x y:Tx)(w:World):(Instr.buildSlice 48 2 #[(0,.agg (tx x).toArray),(1,.agg (tx y).toArray)]).run prog w=.ok (.slice (some ⟨w.heap.size,0,none⟩) 2 2) (w.alloc (.cells ([tx x,tx y].flatten).toArray 59)):=by
 kernel_rfl
theorem bs_t4(x y z u:Tx)(w:World):(Instr.buildSlice 48 4 #[(0,.agg (tx x).toArray),(1,.agg (tx y).toArray),(2,.agg (tx z).toArray),(3,.agg (tx u).toArray)]).run prog w=.ok (.slice (some ⟨w.heap.size,0,none⟩) 4 4) (w.alloc (.cells ([tx x,tx y,tx z,tx u].flatten).toArray 59)):=by
 kernel_rfl
theorem bs_t5(x y z u v:Tx)(w:World):(Instr.buildSlice 48 5 #[(0,.agg (tx x).toArray),(1,.agg (tx y).toArray),(2,.agg (tx z).toArray),(3,.agg (tx u).toArray),(4,.agg (tx v).toArray)]).run prog w=.ok (.slice (some ⟨w.heap.size,0,none⟩) 5 5) (w.alloc (.cells ([tx x,tx y,tx z,tx u,tx v].flatten).toArray 59)):=by
 kernel_rfl
theorem blockSl{α:Type}{C:Cl α}{K:Nat→Prop}{w:World}{b sz t:Nat}{X:List (List Value)}{l:List α}(h:w.heap[b]? = some (.cells X.flatten.toArray t))(hK:K b)(hl:X.length=l.length)(hin:∀(i:Nat) x t,X[i]? = some x→l[i]? = some t→x.length=sz∧C K w t x)(cap:Nat):SlI sz C K w (.slice (some ⟨b,0,none⟩) l.length cap) l:=by
 refine⟨_,cap,rfl,fun i t hi=>?_⟩;have hil:i<X.length:=by rw[hl];exact(List.getElem?_eq_some_iff.1 hi).1
 obtain⟨x,hx⟩:∃ x,X[i]? = some x:=⟨_,List.getElem?_eq_getElem hil⟩
 obtain⟨h1,h2⟩:=hin i x t hx hi;have hlen:∀ y∈X,y.length=sz:=fun y hy=>by
  obtain⟨j,hj⟩:=List.mem_iff_getElem?.1 hy;have hjl:j<l.length:=by rw[← hl];exact(List.getElem?_eq_some_iff.1 hj).1
  exact(hin j y _ hj (List.getElem?_eq_getElem hjl)).1
 refine⟨b,0,x,rfl,hK,fun j c hc=>?_,h2⟩;have:=za9 h (i*sz+j) c (flat_sz hc hlen hx)
 rwa [Nat.zero_add]at this ⊢
theorem za0{n:Nat}{K:Nat→Prop}{w:World}{b t:Nat}{xs:List Tx}{l:List (TT n)}(h:w.heap[b]? = some (.cells (xs.map fun x=>tx x).flatten.toArray t))(hK:K b)(hl:xs.length=l.length)(hin:∀(i:Nat) x t,xs[i]? = some x→l[i]? = some t→x.1=t.1∧x.2.1=t.2.1∧x.2.2.1=t.2.2.1∧LAf K w n x.2.2.2 t.2.2.2)(cap:Nat):LAf K w (n+1) (.slice (some ⟨b,0,none⟩) l.length cap) l:=by
 refine(blockSl (sz:=7) (C:=CT n) h hK (by rw[List.length_map];exact hl) (fun i x t hx ht=>?_) cap).terms;rw[List.getElem?_map]at hx;cases hq:xs[i]? with
 | none=>rw[hq]at hx;cases hx
 | some y=>
  rw[hq]at hx;cases hx;obtain⟨h1,h2,h3,h4⟩:=hin i y t hq ht;exact⟨rfl,y.2.2.2,by rw[← h1,← h2,← h3],h4⟩
def qo (n:Nat) (a:Al):TL (n+1):=[yc n (rdB a.1),yc n a.2.1,yc n a.2.2.1.toNat,yc n (rdB a.2.2.2.1),yc n (rdB a.2.2.2.2)]
abbrev nX (u:Nat):Tx:=(0,u,eB,.slice none 0 0)
def putA (a:Al):Prop:=a.1.size≤32∧(∃ m:Nat,a.2.2.1=m∧m<1000)∧a.2.2.2.1.size≤32∧a.2.2.2.2.size≤32
theorem allocTerm_any(n:Nat){a:Al}(h:putA a)(w:World):Calls prog 131 #[.agg (al8 a).toArray] w (OneP (n+1) (zt (n+1) (qo n a)) w):=by
 obtain⟨de,am,kd,le,ri⟩:=a;obtain⟨h1,⟨m,rfl,hm⟩,h3,h4⟩:=h;simp only[]at h1 h3 h4;refine inZ func131 fun a I=>?_;refine goZ [] I fun β a w1 I hb=>?_;refine dwT (T:=Below w.heap.size w) 16 [kC func124 (vg de h1),kC func140 (zcx am),vO 3 23 (p:=Z m) (v:=B m) (cnvB m (by omega)),kC func125 (qf m (Nat.lt_trans hm (by decide))),kC func124 (vg le h3),kC func124 (vg ri h4)] (zj w) (fun _ h=>h) zd.post I fun a2 w2 I=>?_
 refine bslQ (ss:=[(0,Sum.inl (nTm (rdB de))),(1,Sum.inl (nTm am)),(2,Sum.inl (nTm m)),(3,Sum.inl (nTm (rdB le))),(4,Sum.inl (nTm (rdB ri)))]) I (bs_t5 (nX (rdB de)) (nX am) (nX m) (nX (rdB le)) (nX (rdB ri)) w2) ?_;have I3:=I.lay (zj w) (.cells ([tx (nX (rdB de)),tx (nX am),tx (nX m),tx (nX (rdB le)),tx (nX (rdB ri))].flatten).toArray 59) (.slice (some ⟨w2.heap.size,0,none⟩) 5 5);obtain⟨b,hb2⟩:∃ b,w2.heap.size=b:=⟨_,rfl⟩
 have hbw:=I.hJ.size;rw[hb2]at I3 ⊢;refine goQ [kC func129 (kj (some ⟨b,0,none⟩) 5 5)] ((zj w).lay _ _) I3 fun β4 a4 w4 I hb4=>?_;refine zh (v:=lTm (.slice (some ⟨b,0,none⟩) 5 5)) I ⟨I.hJ.1,some ⟨b,0,none⟩,5,5,(· = b),rfl,fun k hk=>?_,?_⟩
 ·subst hk;exact⟨by omega,(Array.getElem?_eq_some_iff.1 I.hJ.2).1⟩
 ·refine za0 (K:=(· = b)) (xs:=[nX (rdB de),nX am,nX m,nX (rdB le),nX (rdB ri)]) (l:=qo n (de,am,(m:Int),le,ri)) I.hJ.2 rfl rfl (fun i x t hx ht=>?_) 5
  match i,hx,ht with
  | 0,hx,ht=>cases hx;cases ht;exact⟨rfl,rfl,rfl,LAf.nil _ _ n⟩
  | 1,hx,ht=>cases hx;cases ht;exact⟨rfl,rfl,rfl,LAf.nil _ _ n⟩
  | 2,hx,ht=>cases hx;cases ht;exact⟨rfl,rfl,rfl,LAf.nil _ _ n⟩
  | 3,hx,ht=>cases hx;cases ht;exact⟨rfl,rfl,rfl,LAf.nil _ _ n⟩
  | 4,hx,ht=>cases hx;cases ht;exact⟨rfl,rfl,rfl,LAf.nil _ _ n⟩
def xt (n:Nat) (x:Ex):TL (n+3):=[yc (n+2) (rdB x.1),zt (n+2) (x.2.map fun a=>zt (n+1) (qo n a))]
theorem bslG{P:Program}{ops:Array Oper}{Q:Exit→Act→World→Prop}{K:Act→World→Prop}{o:Oper}{a:Act}{w:World}{t n:Nat}{ps:Array (Nat×Operand)}{v:Value}{w':World}(hop:o.op=.buildSlice t n ps)(hg:o.guard=none)(h:(Instr.buildSlice t n (ps.map fun(i,x)=>(i,a.eval x))).run P w=.ok v w')(hK:K (a.put o.dst v) w'):wpG ops o P a w K Q:=by
 refine yg hg (xy (v:=v) (w1:=w') ?_ hK);unfold execOp;simp only[hop];rw[Sem.run_bind,h,Result.andThen_ok,Sem.run_pure]
theorem exitTerm_any(n:Nat){sa:ByteArray}{al:List Al}{ada:Option Addr}{capa:Nat}{w:World}(h:AlI w (.slice ada al.length capa) al)(hs:sa.size≤32)(hl:al.length<100000000)(hp:∀ a∈al,putA a):Calls prog 128 #[.agg #[.string sa,.slice ada al.length capa]] w (OneP (n+3) (zt (n+3) (xt n (sa,al))) w):=by
 refine inZ func128 fun a I=>?_;refine goZ [] I fun β a w1 I hb=>?_;have hsz:a.tmps.size=11:=by rw[I.fr];kernel_rfl
 have hbw1:=I.hJ;have hge1:=hbw1.size;have I1:=I;obtain⟨L,hL⟩:∃ L,(al.map fun a=>zt (n+1) (qo n a))=L:=⟨_,rfl⟩
 refine dwL (T:=Below w.heap.size w) [(5,none),(6,none),(7,none)] [kC func124 (vg sa hs)]
  (fun j v w'=>(j=5→∃ ad m cap K,v=lTm (.slice ad m cap)∧(∀ k,K k→w1.heap.size≤k∧k<w'.heap.size)∧LAf K w' (n+2) (.slice ad m cap) L)∧(j=6→∃ b K,v=.slice (some ⟨b,0,none⟩) 2 2∧(∀ k,K k→w1.heap.size≤k∧k<w'.heap.size)∧LAf K w' (n+3) v (xt n (sa,al)))∧(j=7→∃ b K,v=lTm (.slice (some ⟨b,0,none⟩) 2 2)∧(∀ k,K k→w1.heap.size≤k∧k<w'.heap.size)∧LAf K w' (n+3) (.slice (some ⟨b,0,none⟩) 2 2) (xt n (sa,al)))) ?_ (zj w) (fun _ h=>h) I ?_ ?_
 ·intro j v w' w'' h hb;refine⟨fun hj=>?_,fun hj=>?_,fun hj=>?_⟩
  ·obtain⟨ad,m,cap,K,q1,q2,q3⟩:=h.1 hj;exact⟨ad,m,cap,K,q1,fun k hk=>⟨(q2 k hk).1,Nat.lt_of_lt_of_le (q2 k hk).2 hb.size⟩,q3.keep fun k hk=>hb.block k (q2 k hk).2⟩
  ·obtain⟨b,K,q1,q2,q3⟩:=h.2.1 hj;exact⟨b,K,q1,fun k hk=>⟨(q2 k hk).1,Nat.lt_of_lt_of_le (q2 k hk).2 hb.size⟩,q3.keep fun k hk=>hb.block k (q2 k hk).2⟩
  ·obtain⟨b,K,q1,q2,q3⟩:=h.2.2 hj;exact⟨b,K,q1,fun k hk=>⟨(q2 k hk).1,Nat.lt_of_lt_of_le (q2 k hk).2 hb.size⟩,q3.keep fun k hk=>hb.block k (q2 k hk).2⟩
 ·intro p hp2 o ho za vs a' w' hF hrd hbw hV hev;have hbw':Below w.heap.size w w':=hbw1.trans (hbw.mono hbw1.size);have hge:=hbw.size;simp only[List.mem_cons,List.not_mem_nil,or_false]at hp2;rcases hp2 with rfl|rfl|rfl
  ·obtain⟨o1,o2,o3⟩:=ym (x:=.call ⟨.value (.func 130),#[.tmp 7,.func 131],#[45,182]⟩) (d:=some 8) ho (by kernel_rfl);have q1:a'.eval (.tmp 7)=.slice ada al.length capa:=hev (.tmp 7) (Sum.inl (.slice ada al.length capa)) (by kernel_rfl);refine callG o1 o3 func130 (by kernel_rfl) (by kernel_rfl) (args:=#[.slice ada al.length capa,fnV 131]) (by rw[map2,q1];rfl) ?_;refine(listed86 (w:=w') (fun a=>zt (n+1) (qo n a)) (h.below CA.loc hbw') hl fun x hx w2 _=>allocTerm_any n (hp x hx) w2).mono fun e w2 he=>?_;obtain⟨hb2,ad,m,cap,K,rfl,hK,hLA⟩:=he;rw[hL]at hLA
   exact⟨_,rfl,fun u hu=>(by cases hu),⟨fun _=>⟨ad,m,cap,K,rfl,fun k hk=>⟨by have:=(hK k hk).1;omega,(hK k hk).2⟩,hLA⟩,fun hj=>(by cases hj),fun hj=>(by cases hj)⟩,hb2⟩
  ·obtain⟨o1,o2,o3⟩:=ym (x:=.buildSlice 48 2 #[(0,.tmp 5),(1,.tmp 8)]) (d:=some 9) ho (by kernel_rfl);have hl5:=zk (ops:=z9 _) (i:=6) (j:=5) (by kernel_rfl) hrd;have q1:a'.eval (.tmp 5)=nTm (rdB sa):=hev (.tmp 5) (Sum.inl (nTm (rdB sa))) (by kernel_rfl);have q2:a'.eval (.tmp 8)=vs 5:=hF.new (i:=5) (by kernel_rfl) (by omega) hl5;obtain⟨ad,m,cap,K,e5,hK,hLA⟩:=(hV (5,none) (by simp) hl5).1 rfl;refine bslG o1 o3 (v:=.slice (some ⟨w'.heap.size,0,none⟩) 2 2) (w':=w'.alloc (.cells ([tx (nX (rdB sa)),tx (2,0,eB,.slice ad m cap)].flatten).toArray 59)) ?_ ?_
   ·rw[map2];simp only[q1,q2,e5];exact bs_t2 (nX (rdB sa)) (2,0,eB,.slice ad m cap) w'
   ·have hba:=yh w' (.cells ([tx (nX (rdB sa)),tx (2,0,eB,.slice ad m cap)].flatten).toArray 59);refine⟨_,rfl,fun u hu=>(by cases hu),⟨fun hj=>(by cases hj),fun _=>⟨w'.heap.size,fun k=>K k∨k=w'.heap.size,rfl,fun k hk=>?_,?_⟩,fun hj=>(by cases hj)⟩,hba⟩
    ·have h8:(w'.alloc (.cells ([tx (nX (rdB sa)),tx (2,0,eB,.slice ad m cap)].flatten).toArray 59)).heap.size=w'.heap.size+1:=by simp
     rw[h8];rcases hk with hk|hk
     ·have:=hK k hk;omega
     ·omega
    ·refine za0 (K:=fun k=>K k∨k=w'.heap.size) (xs:=[nX (rdB sa),(2,0,eB,.slice ad m cap)]) (l:=xt n (sa,al)) Array.getElem?_push_size (.inr rfl) rfl (fun i x t hx ht=>?_) 2
     match i,hx,ht with
     | 0,hx,ht=>cases hx;cases ht;exact⟨rfl,rfl,rfl,LAf.nil _ _ _⟩
     | 1,hx,ht=>
      cases hx;cases ht;refine⟨rfl,rfl,rfl,?_⟩;show LAf _ _ (n+2) (.slice ad m cap) (al.map fun a=>zt (n+1) (qo n a));rw[hL];exact(hLA.keep fun k hk=>hba.block k (hK k hk).2).mono fun k hk=>.inl hk
  ·obtain⟨o1,o2,o3⟩:=ym (x:=.call ⟨.value (.func 129),#[.tmp 9],#[48]⟩) (d:=some 10) ho (by kernel_rfl);have hl6:=zk (ops:=z9 _) (i:=7) (j:=6) (by kernel_rfl) hrd;have q1:a'.eval (.tmp 9)=vs 6:=hF.new (i:=6) (by kernel_rfl) (by omega) hl6;obtain⟨b,K,e6,hK,hLA⟩:=(hV (6,none) (by simp) hl6).2.1 rfl;rw[e6]at hLA;refine callG o1 o3 func129 (by kernel_rfl) (by kernel_rfl) (args:=#[.slice (some ⟨b,0,none⟩) 2 2]) (by rw[← e6,← q1];simp) ?_;refine(kj (some ⟨b,0,none⟩) 2 2 w').mono fun e w2 he=>?_;obtain⟨rfl,hb2⟩:=he
   exact⟨_,rfl,fun u hu=>(by cases hu),⟨fun hj=>(by cases hj),fun hj=>(by cases hj),fun _=>⟨b,K,rfl,fun k hk=>⟨(hK k hk).1,Nat.lt_of_lt_of_le (hK k hk).2 hb2.size⟩,hLA.keep fun k hk=>hb2.block k (hK k hk).2⟩⟩,hb2⟩
 ·intro vs a2 w2 hV I;obtain⟨b,K,e7,hK,hLA⟩:=(hV (7,none) (by simp) (of_decide_eq_true (by kernel_rfl))).2.2 rfl;obtain⟨vs',rfl⟩:∃ vs',vs=fun j=>if j=7 then lTm (.slice (some ⟨b,0,none⟩) 2 2)else vs' j:=⟨vs,funext fun j=>by split<;>rename_i hj<;>simp[hj,e7]⟩
  have I2:=I.also (J':=LK K w1.heap.size (n+3) (.slice (some ⟨b,0,none⟩) 2 2) (xt n (sa,al))) (F':=K) ⟨hK,hLA⟩ (fun p hp h=>by
   have q1:=(I1.row p hp).lt;have q2:=(hK _ h).1;omega)
  refine goQ [] ((zj w).both (LK.rs _ _ _ _ _)) I2 fun β4 a4 w4 I hb4=>?_;exact zh (v:=lTm (.slice (some ⟨b,0,none⟩) 2 2)) I ⟨I.hJ.1,some ⟨b,0,none⟩,2,2,K,rfl,fun k hk=>⟨by have:=(hK k hk).1;omega,(I.hJ.2.kb k hk).2⟩,I.hJ.2.la⟩
def TermsP (n:Nat) (ts:TL n) (w:World) (e:Ending) (w':World):Prop:=Below w.heap.size w w'∧∃ ad m cap K,e=.returned (.slice ad m cap)∧(∀ k,K k→w.heap.size≤k∧k<w'.heap.size)∧LAf K w' n (.slice ad m cap) ts
def vaT (n:Nat) (v:Va):TL (n+5):=[yc (n+4) v.1,yc (n+4) (flg v.2.1),yj (n+4) v.2.2.1,zt (n+4) (v.2.2.2.map fun x=>zt (n+3) (xt n x))]
def fiT (n:Nat) (f:Fi):TL (n+2):=[zt (n+1) (f.1.map fun s=>yc n (rdB s)),yc (n+1) f.2.1,yj (n+1) f.2.2.1,yc (n+1) f.2.2.2.toNat]
def putX (l:List Ex):Prop:=l.length<100000000∧∀ x∈l,x.1.size≤32∧x.2.length<100000000∧∀ a∈x.2,putA a
theorem varTerms_any(n:Nat){w:World}{v:Va}{ev:Value}(h:ExI w ev v.2.2.2)(hp:putX v.2.2.2)(ht:v.1<M):Calls prog 91 #[vaV v ev] w (TermsP (n+5) (vaT n v) w):=by
 obtain⟨tu,fi,da,xs⟩:=v;obtain⟨ad0,cap0,rfl⟩:=h.slice;refine inZ func91 fun a I=>?_;refine goZ [] I fun β a w1 I hb=>?_;refine zcb [Sum.inl (.slice ad0 xs.length cap0),Sum.inl (fnV 128)] func127 I ?_;have hbw1:=I.hJ;have hsz1:=hbw1.size;refine(listed83 (w:=w1) (fun x=>zt (n+3) (xt n x)) (h.below CE.loc hbw1) hp.1 fun x hx ada capa hA w2 hb2=>exitTerm_any n (hA.below CA.loc hb2) (hp.2 x hx).1 (hp.2 x hx).2.1 (hp.2 x hx).2.2).mono fun e w2 he=>?_;obtain⟨hb2,ad,m,cap,K,rfl,hK,hLA⟩:=he;obtain⟨L,hL⟩:∃ L:TL (n+4),(xs.map fun x=>zt (n+3) (xt n x))=L:=⟨_,rfl⟩
 simp only[hL]at hLA;have I2:SI (fun w'=>Below w.heap.size w w'∧LK K w1.heap.size (n+4) (.slice ad m cap) L w') (fun k=>k<w.heap.size∨K k) [] β _ _ w2:=I.moved (zi.of_below hb2) ⟨hbw1.trans (hb2.mono hsz1),hK,hLA⟩ (fun k hk h=>by
  rcases h with h|h
  ·exact h
  ·have:=(hK k h).1;omega) (lTm (.slice ad m cap))
 refine goQ [] ((zj w).both (LK.rs _ _ _ _ _)) I2 fun β3 a3 w3 I hb3=>?_;refine dwT (T:=fun _=>True) 10 [kC func125 (qf tu ht),kC func132 (flagTerm_any fi),kC func126 (textTerm_any da)] ((zj w).both (LK.rs _ _ _ _ _)) (fun _ _=>trivial) zd.post I fun a4 w4 I=>?_;refine bslQ (ss:=[(0,Sum.inl (nTm tu)),(1,Sum.inl (nTm (flg fi))),(2,Sum.inl (tTm da)),(3,Sum.inl (lTm (.slice ad m cap)))]) I (bs_t4 (nX tu) (nX (flg fi)) (1,0,da,.slice none 0 0) (2,0,eB,.slice ad m cap) w4) ?_;have hsz4:=I.hJ.1.size
 have I5:=I.lay ((zj w).both (LK.rs _ _ _ _ _)) (.cells ([tx (nX tu),tx (nX (flg fi)),tx (1,0,da,.slice none 0 0),tx (2,0,eB,.slice ad m cap)].flatten).toArray 59) (.slice (some ⟨w4.heap.size,0,none⟩) 4 4);obtain⟨b,hb4⟩:∃ b,w4.heap.size=b:=⟨_,rfl⟩
 rw[hb4]at I5 ⊢;refine goQ [] (((zj w).both (LK.rs _ _ _ _ _)).lay _ _) I5 fun β6 a6 w6 I hb6=>?_;have hJ:=I.hJ;refine zh (v:=.slice (some ⟨b,0,none⟩) 4 4) I ⟨hJ.1.1,some ⟨b,0,none⟩,4,4,(fun k=>K k∨k=b),rfl,fun k hk=>?_,?_⟩
 ·rcases hk with hk|rfl
  ·exact⟨by have:=(hJ.1.2.kb k hk).1;omega,(hJ.1.2.kb k hk).2⟩
  ·exact⟨by omega,(Array.getElem?_eq_some_iff.1 hJ.2).1⟩
 ·refine za0 (K:=fun k=>K k∨k=b) (xs:=[nX tu,nX (flg fi),(1,0,da,.slice none 0 0),(2,0,eB,.slice ad m cap)]) (l:=vaT n (tu,fi,da,xs)) hJ.2 (.inr rfl) rfl (fun i x t hx ht=>?_) 4
  match i,hx,ht with
  | 0,hx,ht=>cases hx;cases ht;exact⟨rfl,rfl,rfl,LAf.nil _ _ _⟩
  | 1,hx,ht=>cases hx;cases ht;exact⟨rfl,rfl,rfl,LAf.nil _ _ _⟩
  | 2,hx,ht=>cases hx;cases ht;exact⟨rfl,rfl,rfl,LAf.nil _ _ _⟩
  | 3,hx,ht=>
   cases hx;cases ht;refine⟨rfl,rfl,rfl,?_⟩;show LAf _ _ (n+4) (.slice ad m cap) (xs.map fun x=>zt (n+3) (xt n x));rw[hL];exact hJ.1.2.la.mono fun k hk=>.inl hk
theorem map4{α β:Type}(f:α→β)(x y z u:α):(#[x,y,z,u]:Array α).map f=#[f x,f y,f z,f u]:=by simp
theorem fixedTerms_any(n:Nat){w:World}{f:Fi}{pv:Value}(h:StI w pv f.1)(hl:f.1.length<100000000)(hp:∀ s∈f.1,s.size≤32)(hn:f.2.1<M)(ht:∃ m:Nat,f.2.2.2=m∧m<1000000000):Calls prog 90 #[qm f pv] w (TermsP (n+2) (fiT n f) w):=by
 obtain⟨ps,no,ap,ti⟩:=f;obtain⟨tm,rfl,htm⟩:∃ m:Nat,ti=m∧m<1000000000:=ht;obtain⟨ad0,cap0,rfl⟩:=h.slice;have hn:no<M:=hn;simp only[]at h hl hp;refine inZ func90 fun a I=>?_;refine goZ [] I fun β a w1 I hb=>?_;have hsz:a.tmps.size=17:=by rw[I.fr];kernel_rfl
 have hbw1:=I.hJ;have hge1:=hbw1.size;have I1:=I;obtain⟨L,hL⟩:∃ L:TL (n+1),(ps.map fun s=>yc n (rdB s))=L:=⟨_,rfl⟩
 have hfi:fiT n (ps,no,ap,(tm:Int))=[zt (n+1) L,yc (n+1) no,yj (n+1) ap,yc (n+1) tm]:=by rw[← hL];rfl
 rw[hfi];refine dwS (T:=Below w.heap.size w) [(2,none),(13,none),(14,none)] [kC func125 (qf no hn),kC func126 (textTerm_any ap),vO 3 23 (p:=Z tm) (v:=B tm) (cnvB tm (by omega)),kC func125 (qf tm (Nat.lt_trans htm (by decide)))]
  (fun j v w'=>(j=2→∃ ad m cap K,v=lTm (.slice ad m cap)∧(∀ k,K k→w1.heap.size≤k∧k<w'.heap.size)∧LAf K w' (n+1) (.slice ad m cap) L)∧(j=13∨j=14→∃ b K,v=.slice (some ⟨b,0,none⟩) 4 4∧(∀ k,K k→w1.heap.size≤k∧k<w'.heap.size)∧LAf K w' (n+2) (.slice (some ⟨b,0,none⟩) 4 4) [zt (n+1) L,yc (n+1) no,yj (n+1) ap,yc (n+1) tm])) ?_ (zj w) (fun _ h=>h) I ?_ ?_
 ·intro j v w' w'' h hb;refine⟨fun hj=>?_,fun hj=>?_⟩
  ·obtain⟨ad,m,cap,K,q1,q2,q3⟩:=h.1 hj;exact⟨ad,m,cap,K,q1,fun k hk=>⟨(q2 k hk).1,Nat.lt_of_lt_of_le (q2 k hk).2 hb.size⟩,q3.keep fun k hk=>hb.block k (q2 k hk).2⟩
  ·obtain⟨b,K,q1,q2,q3⟩:=h.2 hj;exact⟨b,K,q1,fun k hk=>⟨(q2 k hk).1,Nat.lt_of_lt_of_le (q2 k hk).2 hb.size⟩,q3.keep fun k hk=>hb.block k (q2 k hk).2⟩
 ·intro p hp2 o ho za vs a' w' hF hrd hbw hV hev;have hbw':Below w.heap.size w w':=hbw1.trans (hbw.mono hbw1.size);have hge:=hbw.size;simp only[List.mem_cons,List.not_mem_nil,or_false]at hp2;rcases hp2 with rfl|rfl|rfl
  ·obtain⟨o1,o2,o3⟩:=ym (x:=.call ⟨.value (.func 123),#[.tmp 4,.func 124],#[22,70]⟩) (d:=some 5) ho (by kernel_rfl);have q1:a'.eval (.tmp 4)=.slice ad0 ps.length cap0:=hev (.tmp 4) (Sum.inl (.slice ad0 ps.length cap0)) (by kernel_rfl);refine callG o1 o3 func123 (by kernel_rfl) (by kernel_rfl) (args:=#[.slice ad0 ps.length cap0,fnV 124]) (by rw[map2,q1];rfl) ?_;refine(listed72 (w:=w') (n:=n) (fun s=>yc n (rdB s)) (h.below CS.loc hbw') hl fun x hx w2 _=>(vg x (hp x hx) w2).mono fun e w3 he=>oneP_num he).mono fun e w2 he=>?_;obtain⟨hb2,ad,m,cap,K,rfl,hK,hLA⟩:=he
   simp only[hL]at hLA;exact⟨_,rfl,fun u hu=>(by cases hu),⟨fun _=>⟨ad,m,cap,K,rfl,fun k hk=>⟨by have:=(hK k hk).1;omega,(hK k hk).2⟩,hLA⟩,fun hj=>(by rcases hj with hj | hj<;>cases hj)⟩,hb2⟩
  ·obtain⟨o1,o2,o3⟩:=ym (x:=.buildSlice 48 4 #[(0,.tmp 5),(1,.tmp 8),(2,.tmp 11),(3,.tmp 15)]) (d:=some 16) ho (by kernel_rfl);have hl2:=zk (ops:=z9 _) (i:=13) (j:=2) (by kernel_rfl) hrd;have q1:a'.eval (.tmp 5)=vs 2:=hF.new (i:=2) (by kernel_rfl) (by omega) hl2;have q2:a'.eval (.tmp 8)=nTm no:=hev (.tmp 8) (Sum.inl (nTm no)) (by kernel_rfl);have q3:a'.eval (.tmp 11)=tTm ap:=hev (.tmp 11) (Sum.inl (tTm ap)) (by kernel_rfl);have q4:a'.eval (.tmp 15)=nTm tm:=hev (.tmp 15) (Sum.inl (nTm tm)) (by kernel_rfl);obtain⟨ad,m,cap,K,e5,hK,hLA⟩:=(hV (2,none) (by simp) hl2).1 rfl
   refine bslG o1 o3 (v:=.slice (some ⟨w'.heap.size,0,none⟩) 4 4) (w':=w'.alloc (.cells ([tx (2,0,eB,.slice ad m cap),tx (nX no),tx (1,0,ap,.slice none 0 0),tx (nX tm)].flatten).toArray 59)) ?_ ?_
   ·rw[map4];simp only[q1,q2,q3,q4,e5];exact bs_t4 (2,0,eB,.slice ad m cap) (nX no) (1,0,ap,.slice none 0 0) (nX tm) w'
   ·have hba:=yh w' (.cells ([tx (2,0,eB,.slice ad m cap),tx (nX no),tx (1,0,ap,.slice none 0 0),tx (nX tm)].flatten).toArray 59);refine⟨_,rfl,fun u hu=>(by cases hu),⟨fun hj=>(by cases hj),fun _=>⟨w'.heap.size,fun k=>K k∨k=w'.heap.size,rfl,fun k hk=>?_,?_⟩⟩,hba⟩
    ·have h8:(w'.alloc (.cells ([tx (2,0,eB,.slice ad m cap),tx (nX no),tx (1,0,ap,.slice none 0 0),tx (nX tm)].flatten).toArray 59)).heap.size=w'.heap.size+1:=by simp
     rw[h8];rcases hk with hk|hk
     ·have:=hK k hk;omega
     ·omega
    ·refine za0 (K:=fun k=>K k∨k=w'.heap.size) (xs:=[(2,0,eB,.slice ad m cap),nX no,(1,0,ap,.slice none 0 0),nX tm]) (l:=[zt (n+1) L,yc (n+1) no,yj (n+1) ap,yc (n+1) tm]) Array.getElem?_push_size (.inr rfl) rfl (fun i x t hx ht=>?_) 4
     match i,hx,ht with
     | 0,hx,ht=>
      cases hx;cases ht;exact⟨rfl,rfl,rfl,(hLA.keep fun k hk=>hba.block k (hK k hk).2).mono fun k hk=>.inl hk⟩
     | 1,hx,ht=>cases hx;cases ht;exact⟨rfl,rfl,rfl,LAf.nil _ _ _⟩
     | 2,hx,ht=>cases hx;cases ht;exact⟨rfl,rfl,rfl,LAf.nil _ _ _⟩
     | 3,hx,ht=>cases hx;cases ht;exact⟨rfl,rfl,rfl,LAf.nil _ _ _⟩
  ·obtain⟨o1,o2,o3⟩:=ym (x:=.assign (.tmp 16)) (d:=some 2) ho (by kernel_rfl);have hl6:=zk (ops:=z9 _) (i:=14) (j:=13) (by kernel_rfl) hrd;have q1:a'.eval (.tmp 16)=vs 13:=hF.new (i:=13) (by kernel_rfl) (by omega) hl6;obtain⟨b,K,e6,hK,hLA⟩:=(hV (13,none) (by simp) hl6).2 (.inl rfl);refine yq (fun a'' w'' h=>?_) (asgnG (v:=vs 13) o1 o3 q1);obtain⟨rfl,rfl⟩:=h;exact⟨vs 13,rfl,fun u hu=>(by cases hu),⟨fun hj=>(by cases hj),fun _=>⟨b,K,e6,hK,hLA⟩⟩,Below.refl _ _⟩
 ·intro vs a2 w2 hV I;obtain⟨b,K,e7,hK,hLA⟩:=(hV (14,none) (by simp) (of_decide_eq_true (by kernel_rfl))).2 (.inr rfl);obtain⟨vs',rfl⟩:∃ vs',vs=fun j=>if j=14 then .slice (some ⟨b,0,none⟩) 4 4 else vs' j:=⟨vs,funext fun j=>by split<;>rename_i hj<;>simp[hj,e7]⟩
  have I2:=I.also (J':=LK K w1.heap.size (n+2) (.slice (some ⟨b,0,none⟩) 4 4) [zt (n+1) L,yc (n+1) no,yj (n+1) ap,yc (n+1) tm]) (F':=K) ⟨hK,hLA⟩ (fun p hp h=>by
   have q1:=(I1.row p hp).lt;have q2:=(hK _ h).1;omega)
  refine goQ [] ((zj w).both (LK.rs _ _ _ _ _)) I2 fun β4 a4 w4 I hb4=>?_;exact zh (v:=.slice (some ⟨b,0,none⟩) 4 4) I ⟨I.hJ.1,some ⟨b,0,none⟩,4,4,K,rfl,fun k hk=>⟨by have:=(hK k hk).1;omega,(I.hJ.2.kb k hk).2⟩,I.hJ.2.la⟩
theorem qx{α:Type}{f:α→Nat}{c:Nat}:∀{l:List α},(∀ x∈l,f x≤c)→(l.map f).sum≤l.length*c
 | [],_=>by simp
 | x::l,h=>by
  have h1:=h x List.mem_cons_self;have h2:=qx (l:=l) fun y hy=>h y (List.mem_cons_of_mem _ hy)
  simp only[List.map_cons,List.sum_cons,List.length_cons,Nat.succ_mul];omega
theorem tok_nil:∀ n,tok n (yf n)
 | 0=>trivial
 | n+1=>fun t ht=>by cases ht
theorem tot_nil:∀ n,tot n (yf n)=0
 | 0=>rfl
 | n+1=>rfl
theorem eB_size:eB.size≤20000:=by decide
theorem kl{n u:Nat}(h:u<W):(yc n u).2.2.1.size≤20000∧(yc n u).2.1<W∧tok n (yc n u).2.2.2:=⟨eB_size,h,tok_nil n⟩
theorem tok_lst{n:Nat}{l:TL n}(h:tok n l):(zt n l).2.2.1.size≤20000∧(zt n l).2.1<W∧tok n (zt n l).2.2.2:=⟨eB_size,W_pos,h⟩
theorem tok_txt{n:Nat}{s:ByteArray}(h:s.size≤20000):(yj n s).2.2.1.size≤20000∧(yj n s).2.1<W∧tok n (yj n s).2.2.2:=⟨h,W_pos,tok_nil n⟩
theorem ltM_W{n:Nat}(h:n<M):n<W:=Nat.lt_of_lt_of_le h (by decide)
theorem alTs_tok(n:Nat){a:Al}(h:putA a)(ha:a.2.1<W):tok (n+1) (qo n a)∧tot (n+1) (qo n a)=5:=by
 obtain⟨h1,⟨m,h2,hm⟩,h3,h4⟩:=h;have hk:a.2.2.1.toNat<W:=by rw[h2];exact Nat.lt_trans hm (by decide)
 refine⟨fun t ht=>?_,?_⟩
 ·have ht':t∈[yc n (rdB a.1),yc n a.2.1,yc n a.2.2.1.toNat,yc n (rdB a.2.2.2.1),yc n (rdB a.2.2.2.2)]:=ht;simp only[List.mem_cons,List.not_mem_nil,or_false]at ht';rcases ht' with rfl|rfl|rfl|rfl|rfl
  ·exact kl (zbi h1)
  ·exact kl ha
  ·exact kl hk
  ·exact kl (zbi h3)
  ·exact kl (zbi h4)
 ·simp only[tot,qo,List.length_cons,List.length_nil,List.map_cons,List.map_nil,List.sum_cons,List.sum_nil,tot_nil];rfl
theorem exTs_tok(n:Nat){x:Ex}(hs:x.1.size≤32)(hl:x.2.length≤8)(h:∀ a∈x.2,putA a∧a.2.1<W):tok (n+3) (xt n x)∧tot (n+3) (xt n x)≤50:=by
 have key:tok (n+2) (x.2.map fun a=>zt (n+1) (qo n a))∧tot (n+2) (x.2.map fun a=>zt (n+1) (qo n a))≤48:=by
  refine⟨fun t ht=>?_,?_⟩
  ·have ht':t∈x.2.map fun a=>zt (n+1) (qo n a):=ht
   obtain⟨a,ha,rfl⟩:=List.mem_map.1 ht';exact tok_lst (alTs_tok n (h a ha).1 (h a ha).2).1
  ·have hsum:((x.2.map fun a=>zt (n+1) (qo n a)).map fun t:TT (n+1)=>tot (n+1) t.2.2.2).sum≤(x.2.map fun a=>zt (n+1) (qo n a)).length*5:=qx fun t ht=>by
    obtain⟨a,ha,rfl⟩:=List.mem_map.1 ht;exact Nat.le_of_eq (alTs_tok n (h a ha).1 (h a ha).2).2
   show List.length (x.2.map fun a=>zt (n+1) (qo n a))+_≤48;rw[List.length_map]at hsum ⊢;exact Nat.le_trans (Nat.add_le_add_left hsum _) (by omega)
 refine⟨fun t ht=>?_,?_⟩
 ·have ht':t∈[yc (n+2) (rdB x.1),zt (n+2) (x.2.map fun a=>zt (n+1) (qo n a))]:=ht;simp only[List.mem_cons,List.not_mem_nil,or_false]at ht';rcases ht' with rfl | rfl
  ·exact kl (zbi hs)
  ·exact tok_lst key.1
 ·show 2+(tot (n+2) (yf (n+2))+(tot (n+2) (x.2.map fun a=>zt (n+1) (qo n a))+0))≤50;rw[tot_nil];have:=key.2;omega
theorem vaT_tok(n:Nat){v:Va}(ht:v.1<M)(hd:v.2.2.1.size≤256)(hl:v.2.2.2.length≤3)(h:∀ x∈v.2.2.2,x.1.size≤32∧x.2.length≤8∧∀ a∈x.2,putA a∧a.2.1<W):tok (n+5) (vaT n v)∧tot (n+5) (vaT n v)≤200:=by
 have key:tok (n+4) (v.2.2.2.map fun x=>zt (n+3) (xt n x))∧tot (n+4) (v.2.2.2.map fun x=>zt (n+3) (xt n x))≤153:=by
  refine⟨fun t ht=>?_,?_⟩
  ·have ht':t∈v.2.2.2.map fun x=>zt (n+3) (xt n x):=ht
   obtain⟨a,ha,rfl⟩:=List.mem_map.1 ht';exact tok_lst (exTs_tok n (h a ha).1 (h a ha).2.1 (h a ha).2.2).1
  ·have hsum:((v.2.2.2.map fun x=>zt (n+3) (xt n x)).map fun t:TT (n+3)=>tot (n+3) t.2.2.2).sum≤(v.2.2.2.map fun x=>zt (n+3) (xt n x)).length*50:=qx fun t ht=>by
    obtain⟨a,ha,rfl⟩:=List.mem_map.1 ht;exact(exTs_tok n (h a ha).1 (h a ha).2.1 (h a ha).2.2).2
   show List.length (v.2.2.2.map fun x=>zt (n+3) (xt n x))+_≤153;rw[List.length_map]at hsum ⊢;exact Nat.le_trans (Nat.add_le_add_left hsum _) (by omega)
 have hf:flg v.2.1<W:=by unfold flg;split<;>decide
 refine⟨fun t ht'=>?_,?_⟩
 ·have ht':t∈[yc (n+4) v.1,yc (n+4) (flg v.2.1),yj (n+4) v.2.2.1,zt (n+4) (v.2.2.2.map fun x=>zt (n+3) (xt n x))]:=ht';simp only[List.mem_cons,List.not_mem_nil,or_false]at ht';rcases ht' with rfl | rfl | rfl | rfl
  ·exact kl (ltM_W ht)
  ·exact kl hf
  ·exact tok_txt (by omega)
  ·exact tok_lst key.1
 ·show 4+(tot (n+4) (yf (n+4))+(tot (n+4) (yf (n+4))+(tot (n+4) (yf (n+4))+(tot (n+4) (v.2.2.2.map fun x=>zt (n+3) (xt n x))+0))))≤200;rw[tot_nil];have:=key.2;omega
theorem fiT_tok(n:Nat){f:Fi}(hl:f.1.length≤4)(hp:∀ s∈f.1,s.size≤32)(hn:f.2.1<M)(ha:f.2.2.1.size≤512)(ht:f.2.2.2.toNat<M):tok (n+2) (fiT n f)∧tot (n+2) (fiT n f)≤200:=by
 have key:tok (n+1) (f.1.map fun s=>yc n (rdB s))∧tot (n+1) (f.1.map fun s=>yc n (rdB s))≤4:=by
  refine⟨fun t ht=>?_,?_⟩
  ·have ht':t∈f.1.map fun s=>yc n (rdB s):=ht
   obtain⟨a,ha,rfl⟩:=List.mem_map.1 ht';exact kl (zbi (hp a ha))
  ·have hsum:((f.1.map fun s=>yc n (rdB s)).map fun t:TT n=>tot n t.2.2.2).sum≤(f.1.map fun s=>yc n (rdB s)).length*0:=qx fun t ht=>by
    obtain⟨a,ha,rfl⟩:=List.mem_map.1 ht;exact Nat.le_of_eq (tot_nil n)
   show List.length (f.1.map fun s=>yc n (rdB s))+_≤4;rw[List.length_map]at hsum ⊢;exact Nat.le_trans (Nat.add_le_add_left hsum _) (by omega)
 refine⟨fun t ht'=>?_,?_⟩
 ·have ht':t∈[zt (n+1) (f.1.map fun s=>yc n (rdB s)),yc (n+1) f.2.1,yj (n+1) f.2.2.1,yc (n+1) f.2.2.2.toNat]:=ht';simp only[List.mem_cons,List.not_mem_nil,or_false]at ht';rcases ht' with rfl | rfl | rfl | rfl
  ·exact tok_lst key.1
  ·exact kl (ltM_W hn)
  ·exact tok_txt (by omega)
  ·exact kl (ltM_W ht)
 ·show 4+(tot (n+1) (f.1.map fun s=>yc n (rdB s))+(tot (n+1) (yf (n+1))+(tot (n+1) (yf (n+1))+(tot (n+1) (yf (n+1))+0))))≤200;rw[tot_nil];have:=key.2;omega
theorem fitA_put{a:Al}(h:fitA a=true):putA a:=by
 unfold fitA at h;simp only[Bool.and_eq_true,decide_eq_true_eq]at h;obtain⟨⟨⟨h1,h2⟩,h3⟩,h4⟩:=h;unfold sideK at h1;rw[decide_eq_true_eq]at h1;have hs:v9 a.2.2.1≤32:=by unfold v9;split<;>decide
 refine⟨by omega,?_,by omega,by omega⟩;rcases h1 with h1|h1
 ·exact⟨0,h1,by decide⟩
 ·exact⟨1,h1,by decide⟩
theorem zbl{x:Ex}(h:fitE x=true):x.1.size=20∧x.2.length≤8∧(∀ a∈x.2,fitA a=true)∧sumA x.2<W:=by
 unfold fitE at h;simp only[Bool.and_eq_true,decide_eq_true_eq,List.all_eq_true]at h;exact⟨h.1.1.1,h.1.1.2,h.1.2,h.2⟩
theorem zaq{l:List Ex}(h:ql l=true):l.length≤3∧risB l=true∧∀ x∈l,fitE x=true:=by
 unfold ql at h;simp only[Bool.and_eq_true,decide_eq_true_eq,List.all_eq_true]at h;exact⟨h.1.1,h.1.2,h.2⟩
theorem zav{v:Va}(h:vn v=true):v.1≤1099511627776∧v.2.2.1.size≤256∧ql v.2.2.2=true:=by
 unfold vn at h;simp only[Bool.and_eq_true,decide_eq_true_eq]at h;exact⟨h.1.1,h.1.2,h.2⟩
theorem fitXs_putX{l:List Ex}(h:ql l=true):putX l:=by
 obtain⟨h1,_,h3⟩:=zaq h;refine⟨by omega,fun x hx=>?_⟩;obtain⟨q1,q2,q3,_⟩:=zbl (h3 x hx);exact⟨by omega,by omega,fun a ha=>fitA_put (q3 a ha)⟩
theorem zbw{f:Fi}(h:kw f=true):f.1.length≤4∧2≤f.1.length∧(∀ s∈f.1,s.size=20)∧f.2.2.1.size≤512∧∃ m:Nat,f.2.2.2=m∧1≤m∧m≤1048576:=by
 unfold kw fitPs at h;simp only[Bool.and_eq_true,decide_eq_true_eq,List.all_eq_true]at h;obtain⟨⟨⟨⟨⟨⟨h1,h2⟩,h3⟩,_⟩,h5⟩,h6⟩,h7⟩:=h;exact⟨h2,h1,h3,h5,f.2.2.2.toNat,by omega,by omega,by omega⟩
def amtX (l:List Ex):Prop:=∀ x∈l,∀ a∈x.2,a.2.1<W
theorem ExI.amt{w:World}{ev:Value}{l:List Ex}(h:ExI w ev l):amtX l:=by
 intro x hx a ha;obtain⟨i,hi⟩:=List.mem_iff_getElem?.1 hx;obtain⟨ad,cap,_,hm⟩:=h;obtain⟨g,off,cs,_,_,_,av,_,hA⟩:=hm i x hi;obtain⟨j,hj⟩:=List.mem_iff_getElem?.1 ha;obtain⟨ad2,cap2,_,hm2⟩:=hA;obtain⟨g2,off2,cs2,_,_,_,_,h2⟩:=hm2 j a hj;exact h2
def wrV (v:Va):List UInt8:=if vn v=true then enc 9 (vaT 4 v)else []
def wrF (f:Fi):List UInt8:=if kw f=true then enc 9 (fiT 7 f)else []
theorem vaT_len{v:Va}(hf:vn v=true)(ht:v.1<M)(ha:amtX v.2.2.2):(enc 9 (vaT 4 v)).length≤5000000:=by
 obtain⟨h1,h2,h3⟩:=zav hf;obtain⟨q1,_,q3⟩:=zaq h3;have hk:=vaT_tok 4 (v:=v) ht h2 q1 fun x hx=>by
  obtain⟨p1,p2,p3,_⟩:=zbl (q3 x hx);exact⟨by omega,p2,fun a h=>⟨fitA_put (p3 a h),ha x hx a h⟩⟩
 have:=zdg 9 (vaT 4 v) hk.1;have h4:=hk.2;exact Nat.le_trans this (Nat.le_trans (Nat.mul_le_mul_left 20127 h4) (by decide))
theorem fiT_len{f:Fi}(hf:kw f=true)(hn:f.2.1<M):(enc 9 (fiT 7 f)).length≤5000000:=by
 obtain⟨h1,_,h3,h4,m,h5,_,h6⟩:=zbw hf;have hk:=fiT_tok 7 (f:=f) h1 (fun s hs=>by rw[h3 s hs];decide) hn h4 (by rw[h5];exact Nat.lt_of_le_of_lt h6 (by decide));have:=zdg 9 (fiT 7 f) hk.1;have h4:=hk.2;exact Nat.le_trans this (Nat.le_trans (Nat.mul_le_mul_left 20127 h4) (by decide))
theorem write_any{w:World}{v:Va}{ev:Value}(h:ExI w ev v.2.2.2)(hx:okX v.2.2.2)(ht:v.1<M):Calls prog 59 #[vaV v ev] w fun e w'=>e=.returned (str (wrV v))∧Below w.heap.size w w':=by
 have ha:=h.amt;obtain⟨ad,cap,hs⟩:=h.slice;subst hs;refine inZ func59 fun a I=>?_;have hF:∀ w',Below w.heap.size w w'→Calls prog 23 #[vaV v (.slice ad v.2.2.2.length cap)] w' fun e w''=>e=.returned (.bool (vn v))∧Below w'.heap.size w' w'':=fun w' hb=>fitVar_any (h.below CE.loc hb) hx
 unfold wrV;cases hf:vn v with
 | false=>
  rw[hf]at hF;refine goT (T:=Below w.heap.size w) [cA func23 hF,uO .not (p:=.bool false) (v:=.bool true) (by intros;rfl)] (zj w) (fun _ h=>h) I fun β a w1 I hb=>?_;exact xj (v:=.string eB) I
 | true=>
  rw[hf]at hF;refine goT (T:=Below w.heap.size w) [cA func23 hF,uO .not (p:=.bool true) (v:=.bool false) (by intros;rfl)] (zj w) (fun _ h=>h) I fun β a w1 I hb=>?_;refine yp (ss:=[Sum.inl (vaV v (.slice ad v.2.2.2.length cap))]) func91 I ?_;have hsz1:=I.hJ.size;refine(varTerms_any 4 (h.below CE.loc I.hJ) (fitXs_putX (zav hf).2.2) ht).mono fun e w2 he=>?_;obtain⟨hb2,ad2,m2,cap2,K,rfl,hK,hLA⟩:=he;have hlen:=vaT_len hf ht ha;generalize vaT 4 v=ts at hLA hlen
  have I2:SI (fun w'=>Below w.heap.size w w'∧LK K w1.heap.size 9 (.slice ad2 m2 cap2) ts w') (fun k=>k<w.heap.size∨K k) [] β _ _ w2:=I.moved (zi.of_below hb2) ⟨I.hJ.trans (hb2.mono hsz1),hK,hLA⟩ (fun k hk h=>by
   rcases h with h|h
   ·exact h
   ·have:=(hK k h).1;omega) (.slice ad2 m2 cap2)
  have hE:∀ w',(Below w.heap.size w w'∧LK K w1.heap.size 9 (.slice ad2 m2 cap2) ts w')→Calls prog 26 #[.slice ad2 m2 cap2] w' fun e w''=>e=.returned (str (enc 9 ts))∧Below w'.heap.size w' w'':=fun w' hw=>encode_any 9 ts hw.2.la.la (by omega)
  refine goT (T:=fun w'=>Below w.heap.size w w'∧LK K w1.heap.size 9 (.slice ad2 m2 cap2) ts w') [cA func26 hE] ((zj w).both (LK.rs _ _ _ _ _)) (fun _ h=>h) I2 fun β3 a3 w3 I hb3=>?_;exact zh (v:=str (enc 9 ts)) I ⟨rfl,I.hJ.1⟩
theorem zcs{w:World}{f:Fi}{pv:Value}(h:PaI w pv f.1)(hn:f.2.1<M):Calls prog 58 #[qm f pv] w fun e w'=>e=.returned (str (wrF f))∧Below w.heap.size w w':=by
 obtain⟨ad,cap,hs⟩:=h.1.slice;subst hs;refine inZ func58 fun a I=>?_;have hF:∀ w',Below w.heap.size w w'→Calls prog 22 #[qm f (.slice ad f.1.length cap)] w' fun e w''=>e=.returned (.bool (kw f))∧Below w'.heap.size w' w'':=fun w' hb=>fitFixed_any (h.below hb)
 unfold wrF;cases hf:kw f with
 | false=>
  rw[hf]at hF;refine goT (T:=Below w.heap.size w) [cA func22 hF,uO .not (p:=.bool false) (v:=.bool true) (by intros;rfl)] (zj w) (fun _ h=>h) I fun β a w1 I hb=>?_;exact xj (v:=.string eB) I
 | true=>
  rw[hf]at hF;obtain⟨p1,p2,p3,p4,m,p5,p6,p7⟩:=zbw hf;refine goT (T:=Below w.heap.size w) [cA func22 hF,uO .not (p:=.bool true) (v:=.bool false) (by intros;rfl)] (zj w) (fun _ h=>h) I fun β a w1 I hb=>?_;refine yp (ss:=[Sum.inl (qm f (.slice ad f.1.length cap))]) func90 I ?_;have hsz1:=I.hJ.size;refine(fixedTerms_any 7 (h.1.below CS.loc I.hJ) (by omega) (fun s hs=>by rw[p3 s hs];decide) hn ⟨m,p5,by omega⟩).mono fun e w2 he=>?_;obtain⟨hb2,ad2,m2,cap2,K,rfl,hK,hLA⟩:=he;have hlen:=fiT_len hf hn;generalize fiT 7 f=ts at hLA hlen
  have I2:SI (fun w'=>Below w.heap.size w w'∧LK K w1.heap.size 9 (.slice ad2 m2 cap2) ts w') (fun k=>k<w.heap.size∨K k) [] β _ _ w2:=I.moved (zi.of_below hb2) ⟨I.hJ.trans (hb2.mono hsz1),hK,hLA⟩ (fun k hk h=>by
   rcases h with h|h
   ·exact h
   ·have:=(hK k h).1;omega) (.slice ad2 m2 cap2)
  have hE:∀ w',(Below w.heap.size w w'∧LK K w1.heap.size 9 (.slice ad2 m2 cap2) ts w')→Calls prog 26 #[.slice ad2 m2 cap2] w' fun e w''=>e=.returned (str (enc 9 ts))∧Below w'.heap.size w' w'':=fun w' hw=>encode_any 9 ts hw.2.la.la (by omega)
  refine goT (T:=fun w'=>Below w.heap.size w w'∧LK K w1.heap.size 9 (.slice ad2 m2 cap2) ts w') [cA func26 hE] ((zj w).both (LK.rs _ _ _ _ _)) (fun _ h=>h) I2 fun β3 a3 w3 I hb3=>?_;exact zh (v:=str (enc 9 ts)) I ⟨rfl,I.hJ.1⟩
end Go.Proofs.YtdeompgdhaomgaaGreatDoor
