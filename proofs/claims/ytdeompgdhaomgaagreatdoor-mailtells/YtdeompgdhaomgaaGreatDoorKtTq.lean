/- Laid one behind the other: Tq, Tr, Ts, Tt, Tu. -/
import Derived.Test.YtdeompgdhaomgaaGreatDoorKtTm
namespace Go.Proofs.YtdeompgdhaomgaaGreatDoor
open Go.RowKit Go.Sort Go.Proofs.Tryz
set_option linter.unusedVariables false
set_option maxRecDepth 100000
set_option maxHeartbeats 4000000
abbrev fmV:List UInt8:=[110,110,116,91,40,110,91,40,110,110,110,110,110,41,93,41,93]
abbrev fmF:List UInt8:=[91,110,93,110,116,110]
abbrev shN (n:Nat):ST n:=(0,false,nilS n)
abbrev shX (n:Nat):ST n:=(1,false,nilS n)
def shAl (n:Nat):ST (n+1):=(2,false,[shN n,shN n,shN n,shN n,shN n])
def shEx (n:Nat):ST (n+3):=(2,false,[shN (n+2),(2,true,[shAl n])])
def shVa (n:Nat):List (ST (n+4)):=[shN (n+4),shN (n+4),shX (n+4),(2,true,[shEx n])]
def shFi (n:Nat):List (ST (n+1)):=[(2,true,[shN n]),shN (n+1),shX (n+1),shN (n+1)]
theorem zbr:xe fmV=some [[110],[110],[116],[91,40,110,91,40,110,110,110,110,110,41,93,41,93]]:=by kernel_rfl
theorem zdj:xe fmF=some [[91,110,93],[110],[116],[110]]:=by kernel_rfl
theorem sh_fmV:([[110],[110],[116],[91,40,110,91,40,110,110,110,110,110,41,93,41,93]]:List (List UInt8)).map (shT 8)=shVa 4:=by kernel_rfl
theorem sh_fmF:([[91,110,93],[110],[116],[110]]:List (List UInt8)).map (shT 8)=shFi 7:=by kernel_rfl
theorem fitS_num{n:Nat}{t:TT n}(h:xh n (shN n) t):t.1=0∧t.2.1<W∧t.2.2.1=⟨#[]⟩∧t.2.2.2=yf n:=by
 cases n with
 | zero=>
  rcases h with h|h|h
  ·exact h.2
  ·exact absurd h.1 (by decide)
  ·exact h.elim
 | succ n=>
  rcases h with h|h|h
  ·exact h.2
  ·exact absurd h.1 (show ¬ (0:Int)=1 by decide)
  ·exact absurd h.1 (show ¬ (0:Int)=2 by decide)
theorem qu{n u:Nat}(h:u<W):xh n (shN n) (yc n u):=by
 cases n with
 | zero=>exact .inl ⟨rfl,rfl,h,rfl,rfl⟩
 | succ n=>exact .inl ⟨rfl,rfl,h,rfl,rfl⟩
theorem txt_fitS{n:Nat}{s:ByteArray}(h:s.size≤16384):xh n (shX n) (yj n s):=by
 cases n with
 | zero=>exact .inr (.inl ⟨rfl,rfl,rfl,h,rfl⟩)
 | succ n=>exact .inr (.inl ⟨rfl,rfl,rfl,h,rfl⟩)
theorem fitS_lst{n:Nat}{m:Bool}{l:List (ST n)}{t:TT (n+1)}(h:xh (n+1) (2,m,l) t):t.1=2∧t.2.1=0∧t.2.2.1=⟨#[]⟩∧∃ l',v6 (List.length (α:=TT n) t.2.2.2) m l=some l'∧qy (xh n) l' t.2.2.2:=by
 rcases h with h|h|h
 ·exact absurd h.1 (show ¬ (2:Int)=0 by decide)
 ·exact absurd h.1 (show ¬ (2:Int)=1 by decide)
 ·exact h.2
theorem lst_fitS{n:Nat}{m:Bool}{l l':List (ST n)}{x:TL (n+1)}(hi:v6 (List.length (α:=TT n) x) m l=some l')(h:qy (xh n) l' x):xh (n+1) (2,m,l) (zt (n+1) x):=.inr (.inr ⟨rfl,rfl,rfl,rfl,l',hi,h⟩)
theorem zde{n:Nat}{s:ST n}{t:TT (n+1)}(h:xh (n+1) (2,true,[s]) t):List.length (α:=TT n) t.2.2.2≤64∧∀ x:TT n,List.Mem x t.2.2.2→xh n s x:=by
 obtain⟨_,_,_,l',hi,hf⟩:=fitS_lst h;obtain⟨h1,h2⟩:=insM_len hi;refine⟨h2,fun x hx=>?_⟩;unfold v6 at hi;rw[if_neg (by omega)]at hi;simp only[if_true,Option.some.injEq,List.headD_cons]at hi;obtain⟨i,hi2⟩:=List.mem_iff_getElem?.1 (show @Membership.mem (TT n) (List (TT n)) _ t.2.2.2 x from hx);obtain⟨q1,q2⟩:=za2.1 hf;obtain⟨s',hs'⟩:∃ s',l'[i]? = some s':=⟨_,List.getElem?_eq_getElem (by rw[q1];exact(List.getElem?_eq_some_iff.1 hi2).1)⟩
 have:=q2 i s' x hs' hi2;have hs2:s'=s:=by
  have hm:=List.mem_of_getElem? hs';rw[← hi]at hm;exact List.eq_of_mem_replicate hm
 rwa [hs2]at this
theorem many_fitS{n:Nat}{s:ST n}{x:TL (n+1)}(hl:List.length (α:=TT n) x≤64)(h:∀ t:TT n,List.Mem t x→xh n s t):xh (n+1) (2,true,[s]) (zt (n+1) x):=by
 refine lst_fitS (l':=List.replicate (List.length (α:=TT n) x) s) ?_ ?_
 ·unfold v6;rw[if_neg (by omega)];rfl
 ·refine za2.2 ⟨List.length_replicate,fun i s' t hs' ht=>?_⟩;rw[List.eq_of_mem_replicate (List.mem_of_getElem? hs')];exact h t (List.mem_of_getElem? ht)
theorem fitS_tup{n:Nat}{l:List (ST n)}{t:TT (n+1)}(h:xh (n+1) (2,false,l) t):qy (xh n) l t.2.2.2:=by
 obtain⟨_,_,_,l',hi,hf⟩:=fitS_lst h;unfold v6 at hi;split at hi
 ·cases hi
 ·simp only[Bool.false_eq_true,if_false]at hi;split at hi
  ·cases hi;exact hf
  ·cases hi
theorem tup_fitS{n:Nat}{l:List (ST n)}{x:TL (n+1)}(hl:l.length≤64)(h:qy (xh n) l x):xh (n+1) (2,false,l) (zt (n+1) x):=by
 refine lst_fitS (l':=l) ?_ h;have:=qr h;have e:List.length (α:=TT n) x=l.length:=this.symm;unfold v6;rw[e,if_neg (by omega)];simp
theorem okAl_of{n:Nat}{t:TT (n+1)}(h:xh (n+1) (shAl n) t):okAl t:=by
 have hf:=fitS_tup h;obtain⟨k,u,s,l⟩:=t;have hf:qy (xh n) [shN n,shN n,shN n,shN n,shN n] l:=hf
 match l,hf with
 | [t0,t1,t2,t3,t4],hf=>exact⟨t0,t1,t2,t3,t4,rfl,(fitS_num hf.2.1).2.1⟩
theorem okEx_of{n:Nat}{t:TT (n+3)}(h:xh (n+3) (shEx n) t):okEx t:=by
 have hf:=fitS_tup h;obtain⟨k,u,s,l⟩:=t;have hf:qy (xh (n+2)) [shN (n+2),(2,true,[shAl n])] l:=hf
 match l,hf with
 | [t0,t1],hf=>
  obtain⟨q1,q2⟩:=zde hf.2.1;exact⟨t0,t1,rfl,by omega,fun a ha=>okAl_of (q2 a ha)⟩
theorem okVa_of{n:Nat}{ts:List (TT (n+4))}(h:qy (xh (n+4)) (shVa n) ts):okVa ts:=by
 match ts,h with
 | [t0,t1,t2,t3],hf=>
  obtain⟨q1,q2⟩:=zde hf.2.2.2.1;exact⟨t0,t1,t2,t3,rfl,by omega,fun a ha=>okEx_of (q2 a ha)⟩
theorem okFi_of{n:Nat}{ts:List (TT (n+1))}(h:qy (xh (n+1)) (shFi n) ts):okFi ts:=by
 match ts,h with
 | [t0,t1,t2,t3],hf=>
  obtain⟨q1,q2⟩:=zde hf.1;exact⟨t0,t1,t2,t3,rfl,by omega⟩
theorem al_fitS(n:Nat){a:Al}(h:putA a)(ha:a.2.1<W):xh (n+1) (shAl n) (zt (n+1) (qo n a)):=by
 obtain⟨h1,⟨m,h2,hm⟩,h3,h4⟩:=h;have hk:a.2.2.1.toNat<W:=by rw[h2];exact Nat.lt_trans hm (by decide)
 exact tup_fitS (show 5≤64 by decide) ⟨qu (zbi h1),qu ha,qu hk,qu (zbi h3),qu (zbi h4),trivial⟩
theorem ex_fitS(n:Nat){x:Ex}(hs:x.1.size≤32)(hl:x.2.length≤8)(h:∀ a∈x.2,putA a∧a.2.1<W):xh (n+3) (shEx n) (zt (n+3) (xt n x)):=by
 refine tup_fitS (show 2≤64 by decide) ⟨qu (zbi hs),many_fitS ?_ fun t ht=>?_,trivial⟩
 ·show(x.2.map fun a=>zt (n+1) (qo n a)).length≤64;rw[List.length_map];omega
 ·have ht':t∈x.2.map fun a=>zt (n+1) (qo n a):=ht
  obtain⟨a,ha,rfl⟩:=List.mem_map.1 ht';exact al_fitS n (h a ha).1 (h a ha).2
theorem va_fitS(n:Nat){v:Va}(hf:vn v=true)(ht:v.1<M)(ha:amtX v.2.2.2):qy (xh (n+4)) (shVa n) (vaT n v):=by
 obtain⟨h1,h2,h3⟩:=zav hf;obtain⟨q1,_,q3⟩:=zaq h3;have hfl:flg v.2.1<W:=by unfold flg;split<;>decide
 refine⟨qu (ltM_W ht),qu hfl,txt_fitS (by omega),many_fitS ?_ fun t ht=>?_,trivial⟩
 ·show(v.2.2.2.map fun x=>zt (n+3) (xt n x)).length≤64;rw[List.length_map];omega
 ·have ht':t∈v.2.2.2.map fun x=>zt (n+3) (xt n x):=ht
  obtain⟨x,hx,rfl⟩:=List.mem_map.1 ht';obtain⟨p1,p2,p3,_⟩:=zbl (q3 x hx);exact ex_fitS n (by omega) p2 fun a h=>⟨fitA_put (p3 a h),ha x hx a h⟩
theorem fi_fitS(n:Nat){f:Fi}(hf:kw f=true)(hn:f.2.1<M):qy (xh (n+1)) (shFi n) (fiT n f):=by
 obtain⟨h1,_,h3,h4,m,h5,_,h6⟩:=zbw hf;refine⟨many_fitS ?_ fun t ht=>?_,qu (ltM_W hn),txt_fitS (by omega),qu (by rw[h5];exact Nat.lt_of_le_of_lt h6 (by decide)),trivial⟩
 ·show(f.1.map fun s=>yc n (rdB s)).length≤64;rw[List.length_map];omega
 ·have ht':t∈f.1.map fun s=>yc n (rdB s):=ht
  obtain⟨x,hx,rfl⟩:=List.mem_map.1 ht';exact qu (zbi (by rw[h3 x hx];decide))
theorem last_back(s:ByteArray)(h:s.size≤32):lastL (rdB s) s.size=s.data.toList:=by
 have hs:s.data.size=s.size:=rfl;show(wb (rdB s)).drop (32-s.size)=s.data.toList;have hlen:((wb (rdB s)).drop (32-s.size)).length=s.data.toList.length:=by rw[List.length_drop,zx];simp[hs];omega
 refine List.ext_getElem hlen fun i h1 h2=>?_;have hi:i<s.size:=by simpa [hs]using h2
 rw[List.getElem_drop];have hz:(vd (rdB s)).size=32:=vy _;have hz':(vd (rdB s)).data.size=32:=hz;have hj:32-s.size+i<32:=by omega
 have e1:(vd (rdB s)).data.toList[32-s.size+i]'(by simp[hz'];omega)=(vd (rdB s)).data[32-s.size+i]'(by omega):=by simp
 have e2:s.data.toList[i]=s.data[i]'(by omega):=by simp
 apply UInt8.toNat_inj.1;have q1:=bt_strN (rdB s) (s.size-1-i) (by omega);have q2:=rd_digit s s.size (s.size-1-i) (by omega);have q3:btN (vd (rdB s)) (s.size-1-i)=((vd (rdB s)).data[32-s.size+i]'(by omega)).toNat:=by
  unfold btN;rw[hz,show 32-1-(s.size-1-i)=32-s.size+i by omega,Array.getD_eq_getD_getElem?,Array.getElem?_eq_getElem (by omega)];rfl
 have q4:btN s (s.size-1-i)=(s.data[i]'(by omega)).toNat:=by
  unfold btN;rw[show s.size-1-(s.size-1-i)=i by omega,Array.getD_eq_getD_getElem?,Array.getElem?_eq_getElem (by omega)];rfl
 show((vd (rdB s)).data.toList[32-s.size+i]'_).toNat=(s.data.toList[i]).toNat;rw[e1,e2,← q3,← q4,q1];exact q2
theorem ka{s:ByteArray}{n:Nat}(hn:s.size=n)(h:n≤32):bsL (rdB s) n=s:=by
 subst hn;unfold bsL;rw[last_back s h]
theorem l0_small{n:Nat}(h:n<M):l0 n=n:=Nat.mod_eq_of_lt h
theorem zb0{m:Nat}(h:m<1000000000):kdOf m=m:=by
 unfold kdOf;rw[l0_small (Nat.lt_trans h (by decide)),wz (by omega) (by omega)]
theorem alc_back{a:Al}(h:fitA a=true):alcOf (rdB a.1) a.2.1 a.2.2.1.toNat (rdB a.2.2.2.1) (rdB a.2.2.2.2)=a:=by
 obtain⟨de,am,kd,le,ri⟩:=a;unfold fitA at h;simp only[Bool.and_eq_true,decide_eq_true_eq]at h;obtain⟨⟨⟨h1,h2⟩,h3⟩,h4⟩:=h;unfold sideK at h1;rw[decide_eq_true_eq]at h1;have hk:kdOf kd.toNat=kd:=by
  rcases h1 with rfl|rfl
  ·exact zb0 (m:=0) (by decide)
  ·exact zb0 (m:=1) (by decide)
 rw[sideN_eq]at h3 h4;have hs:=sideN_le kd;unfold alcOf;simp only[hk];rw[ka (s:=de) (by omega) (by omega),ka (s:=le) (by omega) hs,ka (s:=ri) (by omega) hs]
theorem map_back{α β γ:Type}{f:α→β}{g:β→γ}{l:List α}{h:α→γ}(hh:∀ x∈l,g (f x)=h x):(l.map f).map g=l.map h:=by
 rw[List.map_map];exact List.map_congr_left hh
theorem ex_back(n:Nat){x:Ex}(h:fitE x=true):zak (n:=n) (zt (n+3) (xt n x))=x:=by
 obtain⟨sa,al⟩:=x;obtain⟨h1,h2,h3,_⟩:=zbl h;have e:zak (n:=n) (zt (n+3) (xt n (sa,al)))=(bsL (rdB sa) 20,(al.map fun a=>zt (n+1) (qo n a)).map alOfT):=rfl;rw[e,ka h1 (by decide),map_back (h:=fun a=>a) fun a ha=>?_]
 ·rw[List.map_id']
 ·exact alc_back (h3 a ha)
theorem va_back(n:Nat){v:Va}(hf:vn v=true)(ht:v.1<M):vaOf (n:=n) (vaT n v)=v:=by
 obtain⟨tu,fi,da,xs⟩:=v;obtain⟨h1,h2,h3⟩:=zav hf;obtain⟨q1,_,q3⟩:=zaq h3;have e:vaOf (n:=n) (vaT n (tu,fi,da,xs))=(l0 tu,decide (l0 (flg fi)=1),da,(xs.map fun x=>zt (n+3) (xt n x)).map zak):=rfl;rw[e,l0_small ht,map_back (h:=fun a=>a) fun x hx=>?_]
 ·rw[List.map_id'];cases fi<;>rfl
 ·exact ex_back n (q3 x hx)
def rdV (S:List UInt8):Option Va:=(ku fmV S).bind fun ts=>if wrV (vaOf (n:=4) ts)=S then some (vaOf (n:=4) ts)else none
def rdF (S:List UInt8):Option Fi:=(ku fmF S).bind fun ts=>if wrF (fiOf (n:=7) ts)=S then some (fiOf (n:=7) ts)else none
theorem rdV_back{v:Va}(hf:vn v=true)(ht:v.1<M)(ha:amtX v.2.2.2):rdV (wrV v)=some v:=by
 have hl:=vaT_len hf ht ha;have e:wrV v=enc 9 (vaT 4 v):=by unfold wrV;rw[if_pos hf]
 have hd:ku fmV (wrV v)=some (vaT 4 v):=by
  refine zc8 zbr ?_ ?_ e.symm
  ·rw[e];exact Nat.lt_of_le_of_lt hl (by decide)
  ·rw[sh_fmV];exact va_fitS 4 hf ht ha
 have h1:rdV (wrV v)=if wrV (vaOf (n:=4) (vaT 4 v))=wrV v then some (vaOf (n:=4) (vaT 4 v))else none:=by unfold rdV;rw[hd];rfl
 rw[h1,va_back 4 hf ht,if_pos rfl]
def zVa:Va:=(0,false,eB,[])
def zFi:Fi:=([],0,eB,0)
def RdVP (S:List UInt8) (w:World) (e:Ending) (w':World):Prop:=Below w.heap.size w w'∧((∃ v ad cap K,rdV S=some v∧e=.returned (.tuple #[vaV v (.slice ad v.2.2.2.length cap),Z 0])∧(∀ k,K k→w.heap.size≤k∧k<w'.heap.size)∧SlI 2 CE K w' (.slice ad v.2.2.2.length cap) v.2.2.2)∨(rdV S=none∧e=.returned (.tuple #[vaV zVa (.slice none 0 0),Z 2])))
def RdFP (S:List UInt8) (w:World) (e:Ending) (w':World):Prop:=Below w.heap.size w w'∧((∃ f ad cap K,rdF S=some f∧e=.returned (.tuple #[qm f (.slice ad f.1.length cap),Z 0])∧f.1.length≤cap∧(∀ k,K k→w.heap.size≤k∧k<w'.heap.size)∧SlI 1 CS K w' (.slice ad f.1.length cap) f.1)∨(rdF S=none∧e=.returned (.tuple #[qm zFi (.slice none 0 0),Z 2])))
theorem bd_vz(w:World):(Instr.build 28 (([]:List Nat).zip []).toArray).run prog w=.ok (vaV zVa (.slice none 0 0)) w:=by kernel_rfl
theorem bd_fz(w:World):(Instr.build 25 (([]:List Nat).zip []).toArray).run prog w=.ok (qm zFi (.slice none 0 0)) w:=by kernel_rfl
theorem vt(x y:Int){q:Bool}(h:decide (x≠y)=q)(o1 o2:Operand)(w:World):(do eqGuard .neq 36 o1 o2 (Z x) (Z y);binOp .neq 36 (Z x) (Z y):Sem Value).run prog w=.ok (.bool q) w:=by
 by_cases hx:x=y<;>subst h<;>simp[go_sem,hx]
theorem alsOf_len{n:Nat}{t:TT (n+3)}(h:okEx t):(zak t).2.length<1000000000:=by
 obtain⟨k,u,s,l⟩:=t;obtain⟨t0,t1,rfl,h1,_⟩:=h;have e:(List.map (α:=TT (n+1)) alOfT t1.2.2.2).length=List.length (α:=TT (n+1)) t1.2.2.2:=@List.length_map (TT (n+1)) Al t1.2.2.2 alOfT;exact Nat.lt_of_le_of_lt (Nat.le_of_eq e) (by omega)
theorem vaOf_ok{n:Nat}{ts:List (TT (n+4))}(h:okVa ts):okX (vaOf ts).2.2.2∧(vaOf ts).1<M:=by
 obtain⟨t0,t1,t2,⟨k3,u3,s3,x3⟩,rfl,h1,h2⟩:=h;refine⟨⟨?_,fun x hx=>?_⟩,kr _⟩
 ·have e:(List.map (α:=TT (n+3)) zak x3).length=List.length (α:=TT (n+3)) x3:=@List.length_map (TT (n+3)) Ex x3 zak;have h1:List.length (α:=TT (n+3)) x3<100000000:=h1;exact Nat.lt_of_le_of_lt (Nat.le_of_eq e) (by omega)
 ·have hx:x∈List.map (α:=TT (n+3)) zak x3:=hx;obtain⟨t,ht,rfl⟩:=List.mem_map.1 hx;exact alsOf_len (h2 t ht)
theorem read_state(S:List UInt8)(hS:S.length<1000000000)(w:World):Calls prog 43 #[str S] w (RdVP S w):=by
 refine inZ func43 fun a I=>?_;refine goZ [] I fun β a w1 I hb=>?_;refine yp (ss:=[Sum.inl (str fmV),Sum.inl (str S)]) func16 I ?_;refine(decode_any (f:=fmV) (by decide) (by omega) w1).mono fun e w2 he=>?_;obtain⟨hb2,he⟩:=he;have hsz1:=I.hJ.size;have hbw2:=I.hJ.trans (hb2.mono hsz1);have hW:S.length<W:=Nat.lt_trans hS (by decide);rcases he with⟨ts,v,K,hd,rfl,hK,hL⟩ | ⟨hd,rfl⟩
 case inr=>
  have I2:=I.moved (J':=Below w.heap.size w) (F':=(· < w.heap.size)) (zi.of_below hb2) hbw2 (fun _ _ h=>h) (.tuple #[.slice none 0 0,Z 2]);refine goZ [bO .neq 36 (vt 2 0 (q:=true) (by decide)),dO 28 [] bd_vz] I2 fun β3 a3 w3 I hb3=>?_;refine zh (v:=.tuple #[vaV zVa (.slice none 0 0),Z 2]) I ⟨I.hJ,.inr ⟨?_,rfl⟩⟩;unfold rdV;rw[hd];rfl
 obtain⟨ps,hp,hfr,henc⟩:=qg hW hd;rw[zbr]at hp;cases hp;rw[sh_fmV]at hfr;have hok:=okVa_of (n:=4) hfr;obtain⟨hox,htu⟩:=vaOf_ok hok;obtain⟨adl,ml,capl,rfl⟩:=hL.slice;have hrd:rdV S=if wrV (vaOf (n:=4) ts)=S then some (vaOf (n:=4) ts)else none:=by unfold rdV;rw[hd];rfl
 have I2:SI (fun w'=>Below w.heap.size w w'∧LK K w1.heap.size 9 (.slice adl ml capl) ts w') (fun k=>k<w.heap.size∨K k) [] β _ _ w2:=I.moved (zi.of_below hb2) ⟨hbw2,hK,hL⟩ (fun k hk h=>by
  rcases h with h|h
  ·exact h
  ·have:=(hK k h).1;omega) (.tuple #[.slice adl ml capl,Z 0])
 refine goQ [bO .neq 36 (vt 0 0 (q:=false) (by decide))] ((zj w).both (LK.rs _ _ _ _ _)) I2 fun β3 a3 w3 I hb3=>?_;refine yp (ss:=[Sum.inl (.slice adl ml capl)]) func74 I ?_;have hsz3:=I.hJ.1.size;refine(varOf_any (n:=4) hok (I.hJ.2.la.mono fun k hk=>(I.hJ.2.kb k hk).2)).mono fun e w4 he=>?_;obtain⟨hb4,ad,cap,K2,rfl,hK2,hS2⟩:=he;obtain⟨v,hv⟩:∃ v,vaOf (n:=4) ts=v:=⟨_,rfl⟩
 rw[hv]at hS2 hrd hox htu ⊢;obtain⟨tu,fi,da,xs⟩:=v;simp only[]at hS2 hox htu ⊢;have I4:SI (fun w'=>Below w.heap.size w w'∧SK 2 CE K2 w3.heap.size (.slice ad xs.length cap) xs w') (fun k=>k<w.heap.size∨K2 k) [] β3 _ _ w4:=I.moved (zi.of_below hb4) ⟨I.hJ.1.trans (hb4.mono hsz3),hK2,hS2⟩ (fun k hk h=>by
  rcases h with h|h
  ·exact .inl h
  ·have:=(hK2 k h).1;omega) (.agg #[B tu,.bool fi,.string da,.slice ad xs.length cap])
 have hWr:∀ w',(Below w.heap.size w w'∧SK 2 CE K2 w3.heap.size (.slice ad xs.length cap) xs w')→Calls prog 59 #[.agg #[B tu,.bool fi,.string da,.slice ad xs.length cap]] w' fun e w''=>e=.returned (str (wrV (tu,fi,da,xs)))∧Below w'.heap.size w' w'':=fun w' h=>write_any (v:=(tu,fi,da,xs)) (h.2.sl.keep CE.loc fun k hk=>⟨(h.2.kb k hk).2,rfl⟩) hox htu
 generalize hwr:wrV (tu,fi,da,xs)=wr_ at hWr hrd;by_cases hq:wr_=S
 ·rw[if_pos hq]at hrd;refine goT (T:=fun w'=>Below w.heap.size w w'∧SK 2 CE K2 w3.heap.size (.slice ad xs.length cap) xs w') [cA func59 hWr,bO .neq 9 (qa (a:=wr_) (b:=S) (q:=false) (by simp[hq]))] ((zj w).both (SK.rs CE.loc _ _ _ _ _)) (fun _ h=>h) I4 fun β5 a5 w5 I hb5=>?_;exact zh (v:=.tuple #[vaV (tu,fi,da,xs) (.slice ad xs.length cap),Z 0]) I ⟨I.hJ.1,.inl ⟨(tu,fi,da,xs),ad,cap,K2,hrd,rfl,fun k hk=>⟨by have:=(I.hJ.2.kb k hk).1;omega,(I.hJ.2.kb k hk).2⟩,I.hJ.2.sl⟩⟩
 ·rw[if_neg hq]at hrd;refine goT (T:=fun w'=>Below w.heap.size w w'∧SK 2 CE K2 w3.heap.size (.slice ad xs.length cap) xs w') [cA func59 hWr,bO .neq 9 (qa (a:=wr_) (b:=S) (q:=true) (by simp[hq])),dO 28 [] bd_vz] ((zj w).both (SK.rs CE.loc _ _ _ _ _)) (fun _ h=>h) I4 fun β5 a5 w5 I hb5=>?_;exact zh (v:=.tuple #[vaV zVa (.slice none 0 0),Z 2]) I ⟨I.hJ.1,.inr ⟨hrd,rfl⟩⟩
theorem read_fixed(S:List UInt8)(hS:S.length<1000000000)(w:World):Calls prog 42 #[str S] w (RdFP S w):=by
 refine inZ func42 fun a I=>?_;refine goZ [] I fun β a w1 I hb=>?_;refine yp (ss:=[Sum.inl (str fmF),Sum.inl (str S)]) func16 I ?_;refine(decode_any (f:=fmF) (by decide) (by omega) w1).mono fun e w2 he=>?_;obtain⟨hb2,he⟩:=he;have hsz1:=I.hJ.size;have hbw2:=I.hJ.trans (hb2.mono hsz1);have hW:S.length<W:=Nat.lt_trans hS (by decide);rcases he with⟨ts,v,K,hd,rfl,hK,hL⟩ | ⟨hd,rfl⟩
 case inr=>
  have I2:=I.moved (J':=Below w.heap.size w) (F':=(· < w.heap.size)) (zi.of_below hb2) hbw2 (fun _ _ h=>h) (.tuple #[.slice none 0 0,Z 2]);refine goZ [bO .neq 36 (vt 2 0 (q:=true) (by decide)),dO 25 [] bd_fz] I2 fun β3 a3 w3 I hb3=>?_;refine zh (v:=.tuple #[qm zFi (.slice none 0 0),Z 2]) I ⟨I.hJ,.inr ⟨?_,rfl⟩⟩;unfold rdF;rw[hd];rfl
 obtain⟨ps,hp,hfr,henc⟩:=qg hW hd;rw[zdj]at hp;cases hp;rw[sh_fmF]at hfr;have hok:=okFi_of (n:=7) hfr;have hno:(fiOf (n:=7) ts).2.1<M:=kr _;obtain⟨adl,ml,capl,rfl⟩:=hL.slice;have hrd:rdF S=if wrF (fiOf (n:=7) ts)=S then some (fiOf (n:=7) ts)else none:=by unfold rdF;rw[hd];rfl
 have I2:SI (fun w'=>Below w.heap.size w w'∧LK K w1.heap.size 9 (.slice adl ml capl) ts w') (fun k=>k<w.heap.size∨K k) [] β _ _ w2:=I.moved (zi.of_below hb2) ⟨hbw2,hK,hL⟩ (fun k hk h=>by
  rcases h with h|h
  ·exact h
  ·have:=(hK k h).1;omega) (.tuple #[.slice adl ml capl,Z 0])
 refine goQ [bO .neq 36 (vt 0 0 (q:=false) (by decide))] ((zj w).both (LK.rs _ _ _ _ _)) I2 fun β3 a3 w3 I hb3=>?_;refine yp (ss:=[Sum.inl (.slice adl ml capl)]) func73 I ?_;have hsz3:=I.hJ.1.size;refine(fixedOf_any (n:=7) hok (I.hJ.2.la.mono fun k hk=>(I.hJ.2.kb k hk).2)).mono fun e w4 he=>?_;obtain⟨hb4,ad,cap,K2,rfl,hcr,hK2,hS2⟩:=he;obtain⟨f,hf⟩:∃ f,fiOf (n:=7) ts=f:=⟨_,rfl⟩
 rw[hf]at hS2 hrd hno hcr ⊢;obtain⟨pa,no,ap,ti⟩:=f;simp only[]at hS2 hno hcr ⊢;have I4:SI (fun w'=>Below w.heap.size w w'∧SK 1 CS K2 w3.heap.size (.slice ad pa.length cap) pa w') (fun k=>k<w.heap.size∨K2 k) [] β3 _ _ w4:=I.moved (zi.of_below hb4) ⟨I.hJ.1.trans (hb4.mono hsz3),hK2,hS2⟩ (fun k hk h=>by
  rcases h with h|h
  ·exact .inl h
  ·have:=(hK2 k h).1;omega) (.agg #[.slice ad pa.length cap,B no,.string ap,Z ti])
 have hWr:∀ w',(Below w.heap.size w w'∧SK 1 CS K2 w3.heap.size (.slice ad pa.length cap) pa w')→Calls prog 58 #[.agg #[.slice ad pa.length cap,B no,.string ap,Z ti]] w' fun e w''=>e=.returned (str (wrF (pa,no,ap,ti)))∧Below w'.heap.size w' w'':=fun w' h=>zcs (f:=(pa,no,ap,ti)) ⟨h.2.sl.keep CS.loc fun k hk=>⟨(h.2.kb k hk).2,rfl⟩,ad,cap,rfl,hcr⟩ hno
 generalize hwr:wrF (pa,no,ap,ti)=wr_ at hWr hrd;by_cases hq:wr_=S
 ·rw[if_pos hq]at hrd;refine goT (T:=fun w'=>Below w.heap.size w w'∧SK 1 CS K2 w3.heap.size (.slice ad pa.length cap) pa w') [cA func58 hWr,bO .neq 9 (qa (a:=wr_) (b:=S) (q:=false) (by simp[hq]))] ((zj w).both (SK.rs CS.loc _ _ _ _ _)) (fun _ h=>h) I4 fun β5 a5 w5 I hb5=>?_;exact zh (v:=.tuple #[qm (pa,no,ap,ti) (.slice ad pa.length cap),Z 0]) I ⟨I.hJ.1,.inl ⟨(pa,no,ap,ti),ad,cap,K2,hrd,rfl,hcr,fun k hk=>⟨by have:=(I.hJ.2.kb k hk).1;omega,(I.hJ.2.kb k hk).2⟩,I.hJ.2.sl⟩⟩
 ·rw[if_neg hq]at hrd;refine goT (T:=fun w'=>Below w.heap.size w w'∧SK 1 CS K2 w3.heap.size (.slice ad pa.length cap) pa w') [cA func58 hWr,bO .neq 9 (qa (a:=wr_) (b:=S) (q:=true) (by simp[hq])),dO 25 [] bd_fz] ((zj w).both (SK.rs CS.loc _ _ _ _ _)) (fun _ h=>h) I4 fun β5 a5 w5 I hb5=>?_;exact zh (v:=.tuple #[qm zFi (.slice none 0 0),Z 2]) I ⟨I.hJ.1,.inr ⟨hrd,rfl⟩⟩
theorem run_eq4d(d:Nat)(a0 a1 a2 a3 b0 b1 b2 b3:Int)(w:World) :
  (Op.equalIn (d+2) 57 (I4 a0 a1 a2 a3) (I4 b0 b1 b2 b3)).run prog w=.ok (a0 == b0&&(a1 == b1&&(a2 == b2&&a3 == b3))) w:=by
 rw[run_equalIn_array w (d+1) _ _ underlying57 info22,cells22,show List.range 4=[0,1,2,3]from rfl];simp[Op.eqItems,part,isAgg,run_underlying underlying23,run_equalIn_int w d 23 .u64 .u64 _ _ underlying23];by_cases h0:a0=b0<;>by_cases h1:a1=b1<;>by_cases h2:a2=b2<;>by_cases h3:a3=b3<;>simp[*]
theorem run_eqUd(d n m:Nat)(hn:n<W)(hm:m<W)(w:World) :
  (Op.equalIn (d+2) 57 (U n) (U m)).run prog w=.ok (decide (n=m)) w:=by
 refine(run_eq4d d (l0 n) (l1 n) (l2 n) (l3 n) (l0 m) (l1 m) (l2 m) (l3 m) w).trans ?_
 congr 1
 rw[Bool.eq_iff_iff];simp only[Bool.and_eq_true,beq_iff_eq,decide_eq_true_eq];constructor
 ·rintro⟨h0,h1,h2,h3⟩;exact parts_inj n m hn hm (by omega) (by omega) (by omega) (by omega)
 ·rintro rfl;exact⟨rfl,rfl,rfl,rfl⟩
theorem beqS(a b:ByteArray):(a == b)=decide (a=b):=by
 obtain⟨x⟩:=a;obtain⟨y⟩:=b;show(x == y)=_;by_cases h:x=y
 ·subst h;simp
 ·rw[decide_eq_false fun e=>h (by injection e)];simpa using h
theorem run_eqSd(d:Nat)(a b:ByteArray)(w:World):(Op.equalIn (d+1) 9 (.string a) (.string b)).run prog w=.ok (decide (a=b)) w:=by
 rw[← beqS];simp[Op.equalIn,run_underlying underlying9]
theorem run_eqZd(d:Nat)(a b:Int)(w:World):(Op.equalIn (d+1) 3 (Z a) (Z b)).run prog w=.ok (decide (a=b)) w:=by
 simp[Op.equalIn,run_underlying underlying3];by_cases h:a=b<;>simp[h]
theorem info33:prog.info? 57=some ((prog.info? 57).getD default):=by kernel_rfl
theorem size33:prog.cellsOf 57=4:=by kernel_rfl
abbrev alR (x0:ByteArray) (u1:Nat) (k:Int) (x3 x4:ByteArray):Array Value:=#[.string x0,B (l0 u1),B (l1 u1),B (l2 u1),B (l3 u1),Z k,.string x3,.string x4]
theorem run_eqAl(x0:ByteArray)(u1:Nat)(k:Int)(x3 x4 y0:ByteArray)(v1:Nat)(m:Int)(y3 y4:ByteArray)(hx:u1<W)(hy:v1<W)(w:World):(Op.equalIn 10000 133 (.agg (alR x0 u1 k x3 x4)) (.agg (alR y0 v1 m y3 y4))).run prog w=.ok (decide (x0=y0)&&(decide (u1=v1)&&(decide (k=m)&&(decide (x3=y3)&&decide (x4=y4))))) w:=by
 have e0:∀ w,(Op.equalIn 9999 9 (.string x0) (.string y0)).run prog w=.ok (decide (x0=y0)) w:=fun w=>run_eqSd 9998 x0 y0 w
 have e1:∀ w,(Op.equalIn 9999 57 (U u1) (U v1)).run prog w=.ok (decide (u1=v1)) w:=fun w=>run_eqUd 9997 u1 v1 hx hy w
 have e2:∀ w,(Op.equalIn 9999 3 (Z k) (Z m)).run prog w=.ok (decide (k=m)) w:=fun w=>run_eqZd 9998 k m w
 have e3:∀ w,(Op.equalIn 9999 9 (.string x3) (.string y3)).run prog w=.ok (decide (x3=y3)) w:=fun w=>run_eqSd 9998 x3 y3 w
 have e4:∀ w,(Op.equalIn 9999 9 (.string x4) (.string y4)).run prog w=.ok (decide (x4=y4)) w:=fun w=>run_eqSd 9998 x4 y4 w
 have hs:∀ w,(sizeOf 57).run prog w=.ok 4 w:=fun w=>by rw[run_sizeOf w info33,size33]
 have p1:∀ w,(part 57 (alR x0 u1 k x3 x4) 1).run prog w=.ok (U u1) w:=fun w=>by simp[part,isAgg,run_underlying underlying57,hs]
 have p2:∀ w,(part 57 (alR y0 v1 m y3 y4) 1).run prog w=.ok (U v1) w:=fun w=>by simp[part,isAgg,run_underlying underlying57,hs]
 have r0:∀ w,(part 9 (alR x0 u1 k x3 x4) 0).run prog w=.ok (.string x0) w:=fun w=>by simp[part,isAgg,run_underlying underlying9]
 have r1:∀ w,(part 9 (alR y0 v1 m y3 y4) 0).run prog w=.ok (.string y0) w:=fun w=>by simp[part,isAgg,run_underlying underlying9]
 have r2:∀ w,(part 3 (alR x0 u1 k x3 x4) 5).run prog w=.ok (Z k) w:=fun w=>by simp[part,isAgg,run_underlying underlying3]
 have r3:∀ w,(part 3 (alR y0 v1 m y3 y4) 5).run prog w=.ok (Z m) w:=fun w=>by simp[part,isAgg,run_underlying underlying3]
 have r4:∀ w,(part 9 (alR x0 u1 k x3 x4) 6).run prog w=.ok (.string x3) w:=fun w=>by simp[part,isAgg,run_underlying underlying9]
 have r5:∀ w,(part 9 (alR y0 v1 m y3 y4) 6).run prog w=.ok (.string y3) w:=fun w=>by simp[part,isAgg,run_underlying underlying9]
 have r6:∀ w,(part 9 (alR x0 u1 k x3 x4) 7).run prog w=.ok (.string x4) w:=fun w=>by simp[part,isAgg,run_underlying underlying9]
 have r7:∀ w,(part 9 (alR y0 v1 m y3 y4) 7).run prog w=.ok (.string y4) w:=fun w=>by simp[part,isAgg,run_underlying underlying9]
 rw[show(10000:Nat)=9999+1 from rfl,Op.equalIn];simp[run_underlying underlying133,e0,e1,e2,e3,e4,p1,p2,r0,r1,r2,r3,r4,r5,r6,r7];by_cases h0:x0=y0<;>by_cases h1:u1=v1<;>by_cases h2:k=m<;>by_cases h3:x3=y3<;>by_cases h4:x4=y4<;>simp[*]
theorem neqA_run{a b:Al}(ha:a.2.1<W)(hb:b.2.1<W){q:Bool}(h:decide (a≠b)=q)(x y:Operand)(w:World):(do eqGuard .neq 133 x y (.agg (al8 a).toArray) (.agg (al8 b).toArray);binOp .neq 133 (.agg (al8 a).toArray) (.agg (al8 b).toArray):Sem Value).run prog w=.ok (.bool q) w:=by
 obtain⟨x0,u1,k,x3,x4⟩:=a;obtain⟨y0,v1,m,y3,y4⟩:=b;have e:=run_eqAl x0 u1 k x3 x4 y0 v1 m y3 y4 ha hb w;have hd:decide ((x0,u1,k,x3,x4)≠(y0,v1,m,y3,y4)) = !(decide (x0=y0)&&(decide (u1=v1)&&(decide (k=m)&&(decide (x3=y3)&&decide (x4=y4))))):=by
  by_cases h0:x0=y0<;>by_cases h1:u1=v1<;>by_cases h2:k=m<;>by_cases h3:x3=y3<;>by_cases h4:x4=y4<;>simp[*]
 rw[← h,hd];generalize (decide (x0=y0)&&(decide (u1=v1)&&(decide (k=m)&&(decide (x3=y3)&&decide (x4=y4)))))=r at e ⊢;have hgt:prog.eqGuardType prog.depth 59=false:=by kernel_rfl
 have hg:(eqGuard .neq 133 x y (.agg (alR x0 u1 k x3 x4)) (.agg (alR y0 v1 m y3 y4))).run prog w=.ok () w:=by
  simp[eqGuard]
 have hb2:(binOp .neq 133 (.agg (alR x0 u1 k x3 x4)) (.agg (alR y0 v1 m y3 y4))).run prog w=.ok (.bool !r) w:=by
  unfold binOp;show((Op.equalIn 10000 133 (.agg (alR x0 u1 k x3 x4)) (.agg (alR y0 v1 m y3 y4)) >>= fun b=>pure (.bool !b):Sem Value)).run prog w=_;rw[Sem.run_bind,e,Result.andThen_ok,Sem.run_pure]
 show(do eqGuard .neq 133 x y (.agg (alR x0 u1 k x3 x4)) (.agg (alR y0 v1 m y3 y4));binOp .neq 133 (.agg (alR x0 u1 k x3 x4)) (.agg (alR y0 v1 m y3 y4)):Sem Value).run prog w=_;rw[Sem.run_bind,hg,Result.andThen_ok,hb2]
theorem qt{α:Type}{l m:List α}(hl:l.length=m.length)(h:∀(j:Nat) x y,l[j]? = some x→m[j]? = some y→x=y):l=m:=by
 refine List.ext_getElem hl fun i h1 h2=>?_;exact h i _ _ (List.getElem?_eq_getElem h1) (List.getElem?_eq_getElem h2)
abbrev seK:List Nat:=[0,1,4,11,12,13]
abbrev seV (a b:Value) (n i:Nat):Vs:=frm 26 [(0,Sum.inl a),(1,Sum.inl b),(4,Sum.inl (.bool false)),(11,Sum.inl a),(12,Sum.inl (Z n)),(13,Sum.inl (Z i))]
theorem equalA_any{w:World}{va vb:Value}{l m:List Al}(ha:AlI w va l)(hb:AlI w vb m)(hl:l.length<1000000000):Calls prog 141 #[va,vb] w fun e w'=>e=.returned (.bool (decide (l=m)))∧Below w.heap.size w w':=by
 obtain⟨ada,capa,rfl,hma⟩:=ha;obtain⟨adb,capb,rfl,hmb⟩:=hb;refine inZ func141 fun a I=>?_;by_cases hlen:¬ l.length=m.length
 ·refine goZ [lS underlying45 (ad:=ada) (n:=l.length) (cap:=capa) rfl,lS underlying45 (ad:=adb) (n:=m.length) (cap:=capb) rfl,knT l.length m.length] I fun β a w1 I hb=>?_;exact zh (v:=.bool false) I ⟨by rw[decide_eq_false fun e=>hlen (by rw[e])],I.hJ⟩
 have hlen:=Classical.not_not.1 hlen;refine goZ [lS underlying45 (ad:=ada) (n:=l.length) (cap:=capa) rfl,lS underlying45 (ad:=adb) (n:=m.length) (cap:=capb) rfl,knF l.length m.length,lS underlying45 (ad:=ada) (n:=l.length) (cap:=capa) rfl] I fun β a w1 I hb=>?_
 let St:Nat→Act→World→Prop:=fun k a w'=>∃(i:Nat) (β:Nat→Nat) (u:Nat→Value),k=l.length-i∧i≤l.length∧(∀(j:Nat) x y,j<i→l[j]? = some x→m[j]? = some y→x=y) ∧
  SI (Below w.heap.size w) (· < w.heap.size) [] β (cfC (zc Tryz.f141) (zl (zg 26 seK) u 0 (seV (.slice ada l.length capa) (.slice adb m.length capb) l.length i)) [] 0) a w'
 refine lpM (zc Tryz.f141) St l.length ?_ ?_
 ·obtain⟨u,Iu⟩:=I.scr (zc Tryz.f141) (zg 26 seK) (seV (.slice ada l.length capa) (.slice adb m.length capb) l.length 0) [] 0;exact⟨0,β,u,by omega,Nat.zero_le _,fun j x y h=>absurd h (Nat.not_lt_zero j),Iu⟩
 rintro k a3 w3 ⟨i,β3,u,rfl,hi,hok,I⟩;refine zv (tm:=zl (zg 26 seK) u 0 (seV (.slice ada l.length capa) (.slice adb m.length capb) l.length i)) (rows:=[]) (nx:=0) ?_;rcases Nat.lt_or_ge i l.length with hil|hil
 ·have him:i<m.length:=by omega
  obtain⟨x,h1⟩:∃ t,l[i]? = some t:=⟨_,List.getElem?_eq_getElem hil⟩
  obtain⟨y,h2⟩:∃ t,m[i]? = some t:=⟨_,List.getElem?_eq_getElem him⟩
  obtain⟨ga,offa,cs,rfl,hlt,hca,rfl,hxW⟩:=hma i _ h1;obtain⟨gb,offb,cs2,rfl,hlt2,hcb,rfl,hyW⟩:=hmb i _ h2;have hld:∀ w',Below w.heap.size w w'→(loadVar 133 ⟨ga,offa+i*8,none⟩).run prog w'=.ok (.agg (al8 x).toArray) w':=fun w' hb=>zb5 (hca.keep (hb.block ga hlt))
  have hld2:∀ w',Below w.heap.size w w'→(loadVar 133 ⟨gb,offb+i*8,none⟩).run prog w'=.ok (.agg (al8 y).toArray) w':=fun w' hb=>zb5 (hcb.keep (hb.block gb hlt2))
  refine goZ [klT i l.length] I fun β4 a4 w4 I hb4=>?_;by_cases hxy:x=y
  ·refine dwT (T:=Below w.heap.size w) 9 [iA 45 underlying45 (sz:=8) (by kernel_rfl) (g:=ga) (off:=offa) (n:=l.length) (cap:=capa) hil,ldA 133 hld,iA 45 underlying45 (sz:=8) (by kernel_rfl) (g:=gb) (off:=offb) (n:=m.length) (cap:=capb) him,ldA 133 hld2,bO .neq 133 (neqA_run (a:=x) (b:=y) hxW hyW (q:=false) (by simp[hxy]))] (zj w) (fun _ h=>h) (zd.then (zd.qk zd.post)) I fun a5 w5 I=>?_;refine goZ [kaZ i 1 (i+1:Nat)] I fun β6 a6 w6 I hb6=>?_
   obtain⟨u',Iu⟩:=I.scr (zc Tryz.f141) (zg 26 seK) (seV (.slice (some ⟨ga,offa,none⟩) l.length capa) (.slice (some ⟨gb,offb,none⟩) m.length capb) l.length (i+1)) [] 0;refine xc ⟨l.length-(i+1),by omega,i+1,β6,u',rfl,hil,fun j p q hj hp hq=>?_,Iu⟩;rcases Nat.lt_or_ge j i with hji | hji
   ·exact hok j p q hji hp hq
   ·obtain rfl:j=i:=by omega
    rw[h1]at hp;rw[h2]at hq;cases hp;cases hq;exact hxy
  ·refine dwT (T:=Below w.heap.size w) 9 [iA 45 underlying45 (sz:=8) (by kernel_rfl) (g:=ga) (off:=offa) (n:=l.length) (cap:=capa) hil,ldA 133 hld,iA 45 underlying45 (sz:=8) (by kernel_rfl) (g:=gb) (off:=offb) (n:=m.length) (cap:=capb) him,ldA 133 hld2,bO .neq 133 (neqA_run (a:=x) (b:=y) hxW hyW (q:=true) (by simp[hxy]))] (zj w) (fun _ h=>h) (zd.then (zd.qk zd.post)) I fun a5 w5 I=>?_;refine goZ [] I fun β6 a6 w6 I hb6=>?_;refine qc (qb (v:=.bool false) I ⟨?_,I.hJ⟩);rw[decide_eq_false fun e=>hxy ?_];rw[e,h2]at h1;exact(Option.some.inj h1).symm
 ·obtain rfl:i=l.length:=by omega
  refine goZ [bO .lss 3 (zf (x:=l.length) (y:=l.length) (b:=false) (by simp))] I fun β4 a4 w4 I hb4=>?_;refine xg 0 ?_;refine goZ [] (I.exit _) fun β5 a5 w5 I hb5=>?_;exact zh (v:=.bool true) I ⟨by rw[decide_eq_true (qt hlen fun j x y hx hy=>hok j x y (List.getElem?_eq_some_iff.1 hx).1 hx hy)],I.hJ⟩
theorem sameExit_any{w:World}{sa sb:ByteArray}{va vb:Value}{l m:List Al}(ha:AlI w va l)(hb:AlI w vb m)(hl:l.length<1000000000):Calls prog 134 #[.agg #[.string sa,va],.agg #[.string sb,vb]] w fun e w'=>e=.returned (.bool (decide ((sa,l)=(sb,m))))∧Below w.heap.size w w':=by
 obtain⟨ada,capa,rfl⟩:=ha.slice;obtain⟨adb,capb,rfl⟩:=hb.slice;refine inZ func134 fun a I=>?_;by_cases hs:sa=sb
 ·have hE:∀ w',Below w.heap.size w w'→Calls prog 141 #[.slice ada l.length capa,.slice adb m.length capb] w' fun e w''=>e=.returned (.bool (decide (l=m)))∧Below w'.heap.size w' w'':=fun w' h=>equalA_any (ha.below CA.loc h) (hb.below CA.loc h) hl
  refine goT (T:=Below w.heap.size w) [bO .eql 9 (xp (a:=sa) (b:=sb) (q:=true) (decide_eq_true hs)),cA func141 hE] (zj w) (fun _ h=>h) I fun β a w1 I hb=>?_;exact zh (v:=.bool (decide (l=m))) I ⟨by by_cases h:l=m<;>simp[hs,h],I.hJ⟩
 ·refine goZ [bO .eql 9 (xp (a:=sa) (b:=sb) (q:=false) (decide_eq_false hs))] I fun β a w1 I hb=>?_;exact zh (v:=.bool false) I ⟨by simp[hs],I.hJ⟩
abbrev sfK:List Nat:=[0,1,2,6,15,16,17]
abbrev sfV (a b f:Value) (n i:Nat):Vs:=frm 32 [(0,Sum.inl a),(1,Sum.inl b),(2,Sum.inl f),(6,Sum.inl (.bool false)),(15,Sum.inl a),(16,Sum.inl (Z n)),(17,Sum.inl (Z i))]
def decEx (l m:List Ex):Decidable (l=m):=@instDecidableEqList Ex (@instDecidableEqProd ByteArray (List Al) _ _) l m
def eqX (l m:List Ex):Bool:=@decide (l=m) (decEx l m)
theorem eqX_true{l m:List Ex}(h:l=m):eqX l m=true:=@decide_eq_true (l=m) (decEx l m) h
theorem zbu{l m:List Ex}(h:¬ l=m):eqX l m=false:=@decide_eq_false (l=m) (decEx l m) h
def eqV (v u:Va):Bool:=decide (v.1=u.1)&&decide (v.2.1=u.2.1)&&decide (v.2.2.1=u.2.2.1)&&eqX v.2.2.2 u.2.2.2
theorem eqV_iff{v u:Va}:eqV v u=true↔v=u:=by
 obtain⟨t1,f1,d1,x1⟩:=v;obtain⟨t2,f2,d2,x2⟩:=u;unfold eqV;simp only[Bool.and_eq_true,decide_eq_true_eq,Prod.mk.injEq];constructor
 ·rintro⟨⟨⟨h1,h2⟩,h3⟩,h4⟩;refine⟨h1,h2,h3,Classical.byContradiction fun h=>?_⟩;rw[zbu h]at h4;cases h4
 ·rintro⟨h1,h2,h3,h4⟩;exact⟨⟨⟨h1,h2⟩,h3⟩,eqX_true h4⟩
theorem equalX_any{w:World}{va vb:Value}{l m:List Ex}(ha:ExI w va l)(hb:ExI w vb m)(hl:okX l):Calls prog 133 #[va,vb,fnV 134] w fun e w'=>e=.returned (.bool (eqX l m))∧Below w.heap.size w w':=by
 obtain⟨ada,capa,rfl,hma⟩:=ha;obtain⟨adb,capb,rfl,hmb⟩:=hb;have hll:=hl.1;refine inZ func133 fun a I=>?_;by_cases hlen:¬ l.length=m.length
 ·refine goZ [lS underlying26 (ad:=ada) (n:=l.length) (cap:=capa) rfl,lS underlying26 (ad:=adb) (n:=m.length) (cap:=capb) rfl,knT l.length m.length] I fun β a w1 I hb=>?_;exact zh (v:=.bool false) I ⟨by rw[zbu fun e=>hlen (by rw[e])],I.hJ⟩
 have hlen:=Classical.not_not.1 hlen;refine goZ [lS underlying26 (ad:=ada) (n:=l.length) (cap:=capa) rfl,lS underlying26 (ad:=adb) (n:=m.length) (cap:=capb) rfl,knF l.length m.length,lS underlying26 (ad:=ada) (n:=l.length) (cap:=capa) rfl] I fun β a w1 I hb=>?_
 let St:Nat→Act→World→Prop:=fun k a w'=>∃(i:Nat) (β:Nat→Nat) (u:Nat→Value),k=l.length-i∧i≤l.length∧(∀(j:Nat) x y,j<i→l[j]? = some x→m[j]? = some y→x=y) ∧
  SI (Below w.heap.size w) (· < w.heap.size) [] β (cfC (zc Tryz.f133) (zl (zg 32 sfK) u 0 (sfV (.slice ada l.length capa) (.slice adb m.length capb) (fnV 134) l.length i)) [] 0) a w'
 refine lpM (zc Tryz.f133) St l.length ?_ ?_
 ·obtain⟨u,Iu⟩:=I.scr (zc Tryz.f133) (zg 32 sfK) (sfV (.slice ada l.length capa) (.slice adb m.length capb) (fnV 134) l.length 0) [] 0;exact⟨0,β,u,by omega,Nat.zero_le _,fun j x y h=>absurd h (Nat.not_lt_zero j),Iu⟩
 rintro k a3 w3 ⟨i,β3,u,rfl,hi,hok,I⟩;refine zv (tm:=zl (zg 32 sfK) u 0 (sfV (.slice ada l.length capa) (.slice adb m.length capb) (fnV 134) l.length i)) (rows:=[]) (nx:=0) ?_;rcases Nat.lt_or_ge i l.length with hil|hil
 ·have him:i<m.length:=by omega
  obtain⟨⟨sx_,xl⟩,h1⟩:∃ t,l[i]? = some t:=⟨_,List.getElem?_eq_getElem hil⟩
  obtain⟨⟨sy_,yl⟩,h2⟩:∃ t,m[i]? = some t:=⟨_,List.getElem?_eq_getElem him⟩
  obtain⟨ga,offa,cs,rfl,hlt,hca,xv,rfl,hX⟩:=hma i _ h1;obtain⟨gb,offb,cs2,rfl,hlt2,hcb,yv,rfl,hY⟩:=hmb i _ h2;have hX:AlI w xv xl:=hX;have hY:AlI w yv yl:=hY;obtain⟨adx,capx,rfl⟩:=hX.slice;obtain⟨ady,capy,rfl⟩:=hY.slice;have hxl:xl.length<1000000000:=hl.2 _ (List.mem_of_getElem? h1);simp only[]at hca hcb;have hld:∀ w',Below w.heap.size w w'→(loadVar 47 ⟨ga,offa+i*2,none⟩).run prog w'=.ok (.agg #[.string sx_,.slice adx xl.length capx]) w':=fun w' hb=>loadEx (hca.keep (hb.block ga hlt))
  have hld2:∀ w',Below w.heap.size w w'→(loadVar 47 ⟨gb,offb+i*2,none⟩).run prog w'=.ok (.agg #[.string sy_,.slice ady yl.length capy]) w':=fun w' hb=>loadEx (hcb.keep (hb.block gb hlt2))
  refine goT (T:=Below w.heap.size w) [klT i l.length,iA 26 underlying26 (sz:=2) (by kernel_rfl) (g:=ga) (off:=offa) (n:=l.length) (cap:=capa) hil,ldA 47 hld,iA 26 underlying26 (sz:=2) (by kernel_rfl) (g:=gb) (off:=offb) (n:=m.length) (cap:=capb) him,ldA 47 hld2] (zj w) (fun _ h=>h) I fun β4 a4 w4 I hb4=>?_
  refine bcallX [Sum.inl (.agg #[.string sx_,.slice adx xl.length capx]),Sum.inl (.agg #[.string sy_,.slice ady yl.length capy])] func134 (zj w) I (fun v=>v=.bool (decide ((sx_,xl)=(sy_,yl)))) ((sameExit_any (hX.below CA.loc I.hJ) (hY.below CA.loc I.hJ) hxl).mono fun e w' h=>⟨h.2,_,h.1,rfl⟩) fun v w5 hv I=>?_;subst hv;by_cases hxy:(sx_,xl)=(sy_,yl)
  ·rw[decide_eq_true hxy]at I ⊢;refine goZ [uO .not (p:=.bool true) (v:=.bool false) (by intros;rfl),kaZ i 1 (i+1:Nat)] I fun β6 a6 w6 I hb6=>?_;obtain⟨u',Iu⟩:=I.scr (zc Tryz.f133) (zg 32 sfK) (sfV (.slice (some ⟨ga,offa,none⟩) l.length capa) (.slice (some ⟨gb,offb,none⟩) m.length capb) (fnV 134) l.length (i+1)) [] 0;refine xc ⟨l.length-(i+1),by omega,i+1,β6,u',rfl,hil,fun j p q hj hp hq=>?_,Iu⟩;rcases Nat.lt_or_ge j i with hji | hji
   ·exact hok j p q hji hp hq
   ·obtain rfl:j=i:=by omega
    rw[h1]at hp;rw[h2]at hq;cases hp;cases hq;exact hxy
  ·rw[decide_eq_false hxy]at I ⊢;refine goZ [uO .not (p:=.bool false) (v:=.bool true) (by intros;rfl)] I fun β6 a6 w6 I hb6=>?_;refine qc (qb (v:=.bool false) I ⟨?_,I.hJ⟩);rw[zbu fun e=>hxy ?_];rw[e,h2]at h1;exact(Option.some.inj h1).symm
 ·obtain rfl:i=l.length:=by omega
  refine goZ [bO .lss 3 (zf (x:=l.length) (y:=l.length) (b:=false) (by simp))] I fun β4 a4 w4 I hb4=>?_;refine xg 0 ?_;refine goZ [] (I.exit _) fun β5 a5 w5 I hb5=>?_;exact zh (v:=.bool true) I ⟨by rw[eqX_true (qt hlen fun j x y hx hy=>hok j x y (List.getElem?_eq_some_iff.1 hx).1 hx hy)],I.hJ⟩
theorem vj{x y:Bool}{b:Bool}(h:decide (x=y)=b)(o1 o2:Operand)(w:World):(do eqGuard .eql 4 o1 o2 (.bool x) (.bool y);binOp .eql 4 (.bool x) (.bool y):Sem Value).run prog w=.ok (.bool b) w:=by
 subst h;cases x<;>cases y<;>simp[go_sem]
theorem same_state{w:World}{v u:Va}{ev eu:Value}(hv:ExI w ev v.2.2.2)(hu:ExI w eu u.2.2.2)(hok:okX v.2.2.2):Calls prog 97 #[vaV v ev,vaV u eu] w fun e w'=>e=.returned (.bool (eqV v u))∧Below w.heap.size w w':=by
 obtain⟨t1,f1,d1,x1⟩:=v;obtain⟨t2,f2,d2,x2⟩:=u;obtain⟨ada,capa,rfl⟩:=hv.slice;obtain⟨adb,capb,rfl⟩:=hu.slice;simp only[]at hv hu hok;refine inZ func97 fun a I=>?_;by_cases h1:¬ t1=t2
 ·refine goZ [bO .eql 23 (yr (x:=t1) (y:=t2) (b:=false) (decide_eq_false h1))] I fun β a w1 I hb=>?_;exact zh (v:=.bool false) I ⟨by unfold eqV;rw[decide_eq_false h1];rfl,I.hJ⟩
 have h1:=Classical.not_not.1 h1;by_cases h2:¬ f1=f2
 ·refine goZ [bO .eql 23 (yr (x:=t1) (y:=t2) (b:=true) (decide_eq_true h1)),bO .eql 4 (vj (x:=f1) (y:=f2) (b:=false) (decide_eq_false h2))] I fun β a w1 I hb=>?_;exact zh (v:=.bool false) I ⟨by unfold eqV;rw[decide_eq_false h2,Bool.and_false];rfl,I.hJ⟩
 have h2:=Classical.not_not.1 h2;by_cases h3:¬ d1=d2
 ·refine goZ [bO .eql 23 (yr (x:=t1) (y:=t2) (b:=true) (decide_eq_true h1)),bO .eql 4 (vj (x:=f1) (y:=f2) (b:=true) (decide_eq_true h2)),bO .eql 9 (xp (a:=d1) (b:=d2) (q:=false) (decide_eq_false h3))] I fun β a w1 I hb=>?_;exact zh (v:=.bool false) I ⟨by unfold eqV;rw[decide_eq_false h3,Bool.and_false];rfl,I.hJ⟩
 have h3:=Classical.not_not.1 h3;refine goZ [bO .eql 23 (yr (x:=t1) (y:=t2) (b:=true) (decide_eq_true h1)),bO .eql 4 (vj (x:=f1) (y:=f2) (b:=true) (decide_eq_true h2)),bO .eql 9 (xp (a:=d1) (b:=d2) (q:=true) (decide_eq_true h3))] I fun β a w1 I hb=>?_;refine bcallX [Sum.inl (.slice ada x1.length capa),Sum.inl (.slice adb x2.length capb),Sum.inl (fnV 134)] func133 (zj w) I (fun v=>v=.bool (eqX x1 x2)) ((equalX_any (hv.below CE.loc I.hJ) (hu.below CE.loc I.hJ) hok).mono fun e w' h=>⟨h.2,_,h.1,rfl⟩) fun v w2 hv I=>?_;subst hv;refine goZ [] I fun β3 a3 w3 I hb3=>?_
 exact zh (v:=.bool (eqX x1 x2)) I ⟨by unfold eqV;rw[decide_eq_true h1,decide_eq_true h2,decide_eq_true h3];rfl,I.hJ⟩
end Go.Proofs.YtdeompgdhaomgaaGreatDoor
