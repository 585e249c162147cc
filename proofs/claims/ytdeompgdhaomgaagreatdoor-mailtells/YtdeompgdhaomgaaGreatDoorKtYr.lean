/- Out of Yr. -/
import Derived.Test.YtdeompgdhaomgaaGreatDoorKtYq
namespace Go.Proofs.YtdeompgdhaomgaaGreatDoor
open Go.RowKit Go.Sort Go.Proofs.Tryz
set_option linter.unusedVariables false
set_option maxRecDepth 100000
set_option maxHeartbeats 4000000
theorem alD_back(n:Nat){a:Al}(h:fitA a=true):alD (n:=n) (zt (n+1) (qo n a))=a:=by
 obtain⟨de,am,kd,le,ri⟩:=a;unfold fitA at h;simp only[Bool.and_eq_true,decide_eq_true_eq]at h;obtain⟨⟨⟨h1,h2⟩,h3⟩,h4⟩:=h;unfold sideK at h1;rw[decide_eq_true_eq]at h1;have e:alD (n:=n) (zt (n+1) (qo n (de,am,kd,le,ri)))=(bsL (rdB de) 32,am,kdOf kd.toNat,if kdOf kd.toNat=0 then eB else bsL (rdB le) 32,if kdOf kd.toNat=0 then eB else bsL (rdB ri) 32):=rfl;rw[e];rcases h1 with rfl|rfl
 ·have hk:kdOf (0:Int).toNat=0:=zb0 (m:=0) (by decide);have hs:v9 0=0:=rfl;rw[hs]at h3 h4;rw[hk,if_pos rfl,if_pos rfl,ka (s:=de) (by omega) (by omega),show le=eB from sz_zero.2 (by omega),show ri=eB from sz_zero.2 (by omega)]
 ·have hk:kdOf (1:Int).toNat=1:=zb0 (m:=1) (by decide);have hs:v9 1=32:=rfl;rw[hs]at h3 h4;rw[hk,if_neg (by decide),if_neg (by decide),ka (s:=de) (by omega) (by omega),ka (s:=le) (by omega) (by omega),ka (s:=ri) (by omega) (by omega)]
theorem exD_back(n:Nat){x:Ex}(h:fitE x=true):exD (n:=n) (zt (n+3) (xt n x))=x:=by
 obtain⟨sa,al⟩:=x;obtain⟨h1,h2,h3,_⟩:=zbl h;have e:exD (n:=n) (zt (n+3) (xt n (sa,al)))=(bsL (rdB sa) 20,(al.map fun a=>zt (n+1) (qo n a)).map alD):=rfl;rw[e,ka h1 (by decide),map_back (h:=fun a=>a) fun a ha=>alD_back n (h3 a ha),List.map_id']
def vaD (ts:List (TT 8)):Va:=(l0 (uAt ts 0),decide (uAt ts 1=1),((ts[2]?).map fun t=>t.2.2.1).getD eB,((ts[3]?).map fun t=>(kc (n:=7) t).map (exD (n:=4))).getD [])
theorem vaD_back{v:Va}(hf:vn v=true)(ht:v.1<M):vaD (vaT 4 v)=v:=by
 obtain⟨tu,fi,da,xs⟩:=v;obtain⟨_,_,h3⟩:=zav hf;obtain⟨_,_,q3⟩:=zaq h3;have e:vaD (vaT 4 (tu,fi,da,xs))=(l0 tu,decide (flg fi=1),da,(xs.map fun x=>zt 7 (xt 4 x)).map (exD (n:=4))):=rfl;rw[e,map_back (h:=fun x=>x) fun x hx=>exD_back 4 (q3 x hx),List.map_id',show l0 tu=tu from Nat.mod_eq_of_lt ht];cases fi<;>rfl
theorem ex_amt{n:Nat}{t:TT (n+3)}(h:okEx t):(∀ a∈(exD t).2,a.2.1<W)∧(exD t).2.length<1000000000∧∀ a∈(zak t).2,a.2.1<W:=by
 obtain⟨kx,ux,sx,lx⟩:=t;obtain⟨t0,t1,hl,hn,ha⟩:=h;simp only[]at hl;subst hl;have e1:exD (n:=n) (kx,ux,sx,[t0,t1])=(bsL t0.2.1 20,(kc t1).map alD):=rfl;have e2:zak (n:=n) (kx,ux,sx,[t0,t1])=(bsL t0.2.1 20,(kc t1).map alOfT):=rfl;rw[e1,e2];refine⟨fun a hm=>?_,?_,fun a hm=>?_⟩
 ·obtain⟨b,hb,rfl⟩:=List.mem_map.1 hm;obtain⟨kb,ub,sb,lb⟩:=b;obtain⟨c0,c1,c2,c3,c4,hc,hw⟩:=ha _ hb;simp only[]at hc;subst hc;exact hw
 ·show((kc t1).map alD).length<_;rw[List.length_map];have:(kc t1).length<100000000:=hn;omega
 ·obtain⟨b,hb,rfl⟩:=List.mem_map.1 hm;obtain⟨kb,ub,sb,lb⟩:=b;obtain⟨c0,c1,c2,c3,c4,hc,hw⟩:=ha _ hb;simp only[]at hc;subst hc;exact hw
theorem va_doc{S:List UInt8}{ts:List (TT 8)}(hW:S.length<W)(hd:ku fmV S=some ts)(hok:okVa (n:=4) ts)(hne:0<S.length){v:Va}(hv:rdV S=some v):vaD ts=v∧vn v=true∧wrV v=S:=by
 obtain⟨hox,htu⟩:=vaOf_ok hok;have hrd:rdV S=if wrV (vaOf (n:=4) ts)=S then some (vaOf (n:=4) ts)else none:=by unfold rdV;rw[hd];rfl
 rw[hrd]at hv;have hamt:amtX (vaOf (n:=4) ts).2.2.2:=by
  obtain⟨t0,t1,t2,t3,rfl,_,ha⟩:=hok;intro x hx a hm;have hx:x∈List.map (α:=TT 7) zak t3.2.2.2:=hx;obtain⟨t,ht,rfl⟩:=List.mem_map.1 hx;exact(ex_amt (ha t ht)).2.2 a hm
 split at hv
 ·next hw=>
  cases hv;have hfit:vn (vaOf (n:=4) ts)=true:=by
   cases h:vn (vaOf (n:=4) ts)with
   | true=>rfl
   | false=>
    unfold wrV at hw;rw[h]at hw;rw[← hw]at hne;cases hne
  have e:wrV (vaOf (n:=4) ts)=enc 9 (vaT 4 (vaOf (n:=4) ts)):=by unfold wrV;rw[if_pos hfit]
  have hd2:ku fmV (wrV (vaOf (n:=4) ts))=some (vaT 4 (vaOf (n:=4) ts)):=by
   refine zc8 zbr (by rw[hw];exact hW) ?_ e.symm;rw[sh_fmV];exact va_fitS 4 hfit htu hamt
  rw[hw,hd]at hd2;have hts:ts=vaT 4 (vaOf (n:=4) ts):=Option.some.inj hd2;refine⟨?_,hfit,hw⟩;have:=vaD_back hfit htu
  rwa [← hts]at this
 ·cases hv
theorem q9{l:Array Bool}{i j:Nat}(h:i≠j):(l.setIfInBounds i true).getD j false=l.getD j false:=by
 rw[Array.getD_eq_getD_getElem?,Array.getElem?_setIfInBounds,if_neg h,← Array.getD_eq_getD_getElem?]
theorem bit_eq{l:Array Bool}{i:Nat}(h:i<l.size):(l.setIfInBounds i true).getD i false=true:=by
 rw[Array.getD_eq_getD_getElem?,Array.getElem?_setIfInBounds,if_pos rfl,if_pos h];rfl
theorem bit_ready{ops:Array Oper}{l:Array Bool}{i:Nat}(h:i∈Region.ready .any ops l):i<l.size∧l.getD i false=false:=by
 obtain⟨hun,o',ho',_⟩:=mem_ready.1 h;have hlt:i<l.size:=by
  rcases Nat.lt_or_ge i l.size with h|h
  ·exact h
  ·rw[Array.getD_eq_getD_getElem?,Array.getElem?_eq_none h]at hun;cases hun
 refine⟨hlt,?_⟩;simp[Array.getD,hlt]at hun ⊢;exact hun
theorem set_heap{w:World}{g k:Nat}(c:Array Value)(h:g≠k):(w.setRow g c).heap[k]? = w.heap[k]? :=by
 simp only[World.setRow,Array.getElem?_modify,if_neg h]
abbrev z28V:Array Value:=#[B 0,.bool false,.string eB,.slice none 0 0]
theorem ze28V:zeV prog 28=some z28V:=by kernel_rfl
theorem rread_state(S:List UInt8)(hS:S.length≤20000)(w:World):Calls prog 20 #[str S] w (RdVP S w):=by
 refine inZ func20 fun a I=>?_;refine goZ [] I fun β a w1 I hb=>?_;refine yp (ss:=[Sum.inl (str fmV),Sum.inl (str S)]) func18 I ?_;have hW:S.length<W:=Nat.lt_of_le_of_lt hS (by decide);refine(zcy (f:=fmV) (by decide) hS w1).mono fun e w2 he=>?_;obtain⟨hb2,he⟩:=he;rw[rdec_eq hW]at he;have hsz1:=I.hJ.size;have hbw2:=I.hJ.trans (hb2.mono hsz1);rcases he with⟨ts,v,K0,hd,rfl,hK0,hL0⟩ | ⟨hd,rfl⟩
 case inr=>
  have I2:=I.moved (J':=Below w.heap.size w) (F':=(· < w.heap.size)) (zi.of_below hb2) hbw2 (fun _ _ h=>h) (.tuple #[.slice none 0 0,Z 2]);refine goZ [bO .neq 3 (yk (x:=2) (y:=0) (b:=true) (by decide)),dO 28 [] bd_vz] I2 fun β3 a3 w3 I hb3=>?_;refine zh (v:=.tuple #[vaV zVa (.slice none 0 0),Z 2]) I ⟨I.hJ,.inr ⟨?_,rfl⟩⟩;unfold rdV;rw[hd];rfl
 obtain⟨ps,hp,hfr,henc⟩:=qg hW hd;rw[zbr]at hp;cases hp;rw[sh_fmV]at hfr;have hok:=okVa_of (n:=4) hfr;have hne:0<S.length:=by
  obtain⟨t0,t1,t2,t3,rfl,_⟩:=id hok;have h1:32*List.length (α:=TT 8) [t0,t1,t2,t3]≤(enc 9 [t0,t1,t2,t3]).length:=enc_ge 8 [t0,t1,t2,t3];rw[henc]at h1;have h2:List.length (α:=TT 8) [t0,t1,t2,t3]=4:=rfl;rw[h2]at h1;omega
 have hdoc:=fun v=>va_doc (v:=v) hW hd hok hne
 obtain⟨⟨k0,u0,s0,x0⟩,⟨k1,u1,s1,x1⟩,⟨k2,u2,s2,x2⟩,⟨k3,u3,s3,x3⟩,rfl,hn3,hoke⟩:=hok;simp only[]at hn3 hoke;obtain⟨y3,hy3⟩:∃ y:List (TT 7),y=x3:=⟨x3,rfl⟩
 subst hy3;have hu1:u1<W:=(fitS_num (n:=8) hfr.2.1).2.1;have hvd:vaD [(k0,u0,s0,x0),(k1,u1,s1,x1),(k2,u2,s2,x2),(k3,u3,s3,y3)]=(l0 u0,decide (u1=1),s2,y3.map (exD (n:=4))):=rfl;rw[hvd]at hdoc;have hokx:okX (y3.map (exD (n:=4))):=by
  refine⟨?_,fun x hx=>?_⟩
  ·rw[List.length_map];have:y3.length<100000000:=hn3;omega
  ·obtain⟨t,ht,rfl⟩:=List.mem_map.1 hx;exact(ex_amt (hoke t ht)).2.1
 have hamt:amtX (y3.map (exD (n:=4))):=fun x hx a ha=>by
  obtain⟨t,ht,rfl⟩:=List.mem_map.1 hx;exact(ex_amt (hoke t ht)).1 a ha
 have htu:l0 u0<M:=kr _;have hback:vn (l0 u0,decide (u1=1),s2,y3.map (exD (n:=4)))=true→wrV (l0 u0,decide (u1=1),s2,y3.map (exD (n:=4)))=S→rdV S=some (l0 u0,decide (u1=1),s2,y3.map (exD (n:=4))):=fun h1 h2=>by
  have:=rdV_back h1 htu hamt
  rwa [h2]at this
 obtain⟨adl,capl,hvl,hh⟩:=hL0;subst hvl;obtain⟨ga,offa,v0,rfl,hga,hc0,hM0⟩:=hh 0 (k0,u0,s0,x0) rfl;obtain⟨g1,o1,v1,e1,_,hc1,hM1⟩:=hh 1 (k1,u1,s1,x1) rfl;obtain⟨g2,o2,v2,e2,_,hc2,hM2⟩:=hh 2 (k2,u2,s2,x2) rfl;obtain⟨g3,o3,v3,e3,_,hc3,hM3⟩:=hh 3 (k3,u3,s3,y3) rfl;cases e1;cases e2;cases e3;obtain⟨ad3,cap3,hv3⟩:∃ ad cap,v3=.slice ad y3.length cap:=by
  obtain⟨a1,c1,hv,_⟩:=hM3;exact⟨a1,c1,hv⟩
 subst hv3;simp only[]at hc0 hc1 hc2 hc3 hM3;have I2:SI (fun w'=>Below w.heap.size w w'∧KP K0 w1.heap.size w2 w') (fun k=>k<w.heap.size∨K0 k) [] β _ _ w2:=I.moved (zi.of_below hb2) ⟨hbw2,hK0,fun k _=>rfl⟩ (fun k hk h=>by
  rcases h with h|h
  ·exact h
  ·have:=(hK0 k h).1;omega) (.tuple #[(.slice (some ⟨ga,offa,none⟩) 4 capl),Z 0])
 have R2:=(zj w).both (KP.rs K0 w1.heap.size w2);refine goQ [bO .neq 3 (yk (x:=0) (y:=0) (b:=false) (by decide))] R2 I2 fun β3 a3 w3 I3 hb3=>?_;have ld0:∀ w',KP K0 w1.heap.size w2 w'→(loadVar 23 ⟨ga,offa+0*7+1+0,none⟩).run prog w'=.ok (B (l0 u0)) w':=fun w' h=>xk (hc0.keep (h.eq ga hga)) 1 rfl 23 underlying23 rfl
 have ld1:∀ w',KP K0 w1.heap.size w2 w'→(loadVar 57 ⟨ga,offa+1*7+1,none⟩).run prog w'=.ok (U u1) w':=fun w' h=>loadU (hc1.keep (h.eq ga hga))
 have ld2:∀ w',KP K0 w1.heap.size w2 w'→(loadVar 9 ⟨ga,offa+2*7+5,none⟩).run prog w'=.ok (.string s2) w':=fun w' h=>xk (hc2.keep (h.eq ga hga)) 5 rfl 9 underlying9 rfl
 have ld3:∀ w',KP K0 w1.heap.size w2 w'→(loadVar 59 ⟨ga,offa+3*7,none⟩).run prog w'=.ok (.agg (tx (k3,u3,s3,.slice ad3 y3.length cap3)).toArray) w':=fun w' h=>qe (hc3.keep (h.eq ga hga))
 obtain⟨L,hL⟩:∃ L,y3.map (exD (n:=4))=L:=⟨_,rfl⟩
 rw[hL]at hdoc hokx hamt hback;obtain⟨bq,hbq⟩:∃ b,decide (u1=1)=b:=⟨_,rfl⟩
 rw[hbq]at hdoc hback;have hsz:a3.tmps.size=46:=by rw[I3.fr];kernel_rfl
 have I3k:=I3;have hcall:∀ w',Below w3.heap.size w3 w'→Calls prog 50 #[.agg (tx (k3,u3,s3,.slice ad3 y3.length cap3)).toArray] w' (SlP 2 CE L w'):=fun w' hb=>by
  rw[← hL];have hJ:=I3k.hJ.2;refine rreadExits (n:=4) ((hM3.keep fun k hk=>(hb.block k (hJ.kb k hk).2).trans (hJ.eq k hk)).mono fun k hk=>Nat.lt_of_lt_of_le (hJ.kb k hk).2 hb.size) hn3 hoke
 refine dwC (T:=(fun w'=>Below w.heap.size w w'∧KP K0 w1.heap.size w2 w')) [(18,none),(19,none),(20,none),(21,none)] [iA 48 underlying48 (sz:=7) (by kernel_rfl) (g:=ga) (off:=offa) (n:=4) (cap:=capl) (i:=0) (by decide),iP 57 (g:=ga) (off:=offa+0*7+1) (d:=0) (i:=0) (by kernel_rfl),ldA 23 (fun w' h=>ld0 w' h.2),iA 48 underlying48 (sz:=7) (by kernel_rfl) (g:=ga) (off:=offa) (n:=4) (cap:=capl) (i:=1) (by decide),ldA 57 (fun w' h=>ld1 w' h.2),dO 57 [0,1,2,3] (bd_Us (n:=1) (by decide)),bO .eql 57 (eqU_run (n:=u1) (m:=1) hu1 (by decide) (q:=bq) hbq),iA 48 underlying48 (sz:=7) (by kernel_rfl) (g:=ga) (off:=offa) (n:=4) (cap:=capl) (i:=2) (by decide),ldA 9 (fun w' h=>ld2 w' h.2),iA 48 underlying48 (sz:=7) (by kernel_rfl) (g:=ga) (off:=offa) (n:=4) (cap:=capl) (i:=3) (by decide),ldA 59 (fun w' h=>ld3 w' h.2)]
  (fun za vs w'=>∃(ad:Option Addr) (cap:Nat) (K:Nat→Prop) (b:Nat),(za.getD 21 false=true→za.getD 20 false=true∧za.getD 19 false=true)∧(za.getD 19 false=true→za.getD 18 false=true)∧(za.getD 18 false=true→vs 18=.slice ad L.length cap∧(∀ k,K k→w3.heap.size≤k∧k<w'.heap.size)∧SlI 2 CE K w' (.slice ad L.length cap) L)∧(za.getD 19 false=true→vs 19=.agg #[B (l0 u0),.bool bq,.string s2,.slice ad L.length cap])∧(za.getD 20 false=true→vs 20=.pointer (some ⟨b,0,none⟩)∧w3.heap.size≤b∧zb w' b (if za.getD 21 false=true then #[B (l0 u0),.bool bq,.string s2,.slice ad L.length cap]else z28V))∧(za.getD 18 false=true→za.getD 20 false=true→¬ K b))
  (fun w' hb=>by
   have hf:∀ n j,¬ (Array.replicate n false).getD j false=true:=fun n j h=>by
    rw[Array.getD_eq_getD_getElem?,Array.getElem?_replicate]at h;split at h<;>simp at h
   exact⟨none,0,noK,0,fun h=>absurd h (hf _ _),fun h=>absurd h (hf _ _),fun h=>absurd h (hf _ _),fun h=>absurd h (hf _ _),fun h=>absurd h (hf _ _),fun h=>absurd h (hf _ _)⟩)
  (fun za vs w' w'' i v hs h hb=>by
   have n18:i≠18:=fun e=>by subst e;cases hs
   have n19:i≠19:=fun e=>by subst e;cases hs
   have n20:i≠20:=fun e=>by subst e;cases hs
   have n21:i≠21:=fun e=>by subst e;cases hs
   rw[q9 n18,q9 n19,q9 n20,q9 n21];obtain⟨ad,cap,K,b,c1,c2,c3,c4,c5,c6⟩:=h;refine⟨ad,cap,K,b,c1,c2,fun h=>?_,fun h=>?_,fun h=>?_,c6⟩
   ·obtain⟨q1,q2,q3⟩:=c3 h;exact⟨by simp only[if_neg (Ne.symm n18)];exact q1,fun k hk=>⟨(q2 k hk).1,Nat.lt_of_lt_of_le (q2 k hk).2 hb.size⟩,q3.keep CE.loc fun k hk=>⟨hk,hb.block k (q2 k hk).2⟩⟩
   ·simp only[if_neg (Ne.symm n19)];exact c4 h
   ·obtain⟨q1,q2,q3⟩:=c5 h;exact⟨by simp only[if_neg (Ne.symm n20)];exact q1,q2,q3.below hb⟩) R2 (fun _ h=>h) I3 ?_ ?_
 ·intro p hp2 o ho za vs a' w' hF hrd hbw hC hev;obtain⟨ad,cap,K,b,c1,c2,c3,c4,c5,c6⟩:=hC;obtain⟨hlt,hun⟩:=bit_ready hrd;simp only[List.mem_cons,List.not_mem_nil,or_false]at hp2;rcases hp2 with rfl|rfl|rfl|rfl
  ·obtain⟨o1,o2,o3⟩:=ym (x:=.call ⟨.value (.func 50),#[.tmp 32],#[59]⟩) (d:=some 33) ho (by kernel_rfl);have q1:a'.eval (.tmp 32)=.agg (tx (k3,u3,s3,.slice ad3 y3.length cap3)).toArray:=hev (.tmp 32) (Sum.inl (.agg (tx (k3,u3,s3,.slice ad3 y3.length cap3)).toArray)) (by kernel_rfl);refine callG o1 o3 func50 (by kernel_rfl) (by kernel_rfl) (args:=#[.agg (tx (k3,u3,s3,.slice ad3 y3.length cap3)).toArray]) (by rw[← q1];simp) ?_;refine(hcall w' hbw).mono fun e w4 he=>?_;obtain⟨hb4,ad4,cap4,K4,rfl,_,hK4,hS4⟩:=he
   have h19:¬ za.getD 19 false=true:=fun h=>by have:=c2 h;rw[hun]at this;cases this
   have h21:¬ za.getD 21 false=true:=fun h=>h19 (c1 h).2
   refine⟨_,rfl,fun u hu=>(by cases hu),⟨ad4,cap4,K4,b,?_⟩,hb4.mono hbw.size⟩;rw[bit_eq hlt,q9 (by decide),q9 (by decide),q9 (by decide)];refine⟨fun h=>absurd h h21,fun h=>absurd h h19,fun _=>⟨by simp,fun k hk=>⟨Nat.le_trans hbw.size (hK4 k hk).1,(hK4 k hk).2⟩,hS4⟩,fun h=>absurd h h19,fun h=>?_,fun _ h=>?_⟩
   ·obtain⟨q2,q3,q4⟩:=c5 h;rw[if_neg h21]at q4 ⊢;exact⟨by simp only[if_neg (show ¬ 20=18 by decide)];exact q2,q3,q4.below hb4⟩
   ·obtain⟨q2,q3,q4⟩:=c5 h;exact fun hk=>by have:=(hK4 b hk).1;have:=q4.lt;omega
  ·obtain⟨o1,o2,o3⟩:=ym (x:=.build 28 #[(0,.tmp 19),(1,.tmp 25),(2,.tmp 29),(3,.tmp 33)]) (d:=some 34) ho (by kernel_rfl);have hl18:=zk (ops:=z9 _) (i:=19) (j:=18) (by kernel_rfl) hrd;obtain⟨e18,q2,q3⟩:=c3 hl18;have r0:a'.eval (.tmp 19)=B (l0 u0):=hev (.tmp 19) (Sum.inl (B (l0 u0))) (by kernel_rfl);have r1:a'.eval (.tmp 25)=.bool bq:=hev (.tmp 25) (Sum.inl (.bool bq)) (by kernel_rfl);have r2:a'.eval (.tmp 29)=.string s2:=hev (.tmp 29) (Sum.inl (.string s2)) (by kernel_rfl);have r3:a'.eval (.tmp 33)=vs 18:=hF.new (i:=18) (by kernel_rfl) (by omega) hl18
   have h21:¬ za.getD 21 false=true:=fun h=>by have:=(c1 h).2;rw[hun]at this;cases this
   refine yq (fun a'' w'' h=>?_) (buildG (v:=.agg #[B (l0 u0),.bool bq,.string s2,.slice ad L.length cap]) o1 o3 ?_)
   ·obtain⟨rfl,rfl⟩:=h;refine⟨_,rfl,fun u hu=>(by cases hu),⟨ad,cap,K,b,?_⟩,(Below.refl _ _).mono hbw.size⟩;rw[bit_eq hlt,q9 (by decide),q9 (by decide),q9 (by decide)];refine⟨fun h=>absurd h h21,fun _=>hl18,fun h=>?_,fun _=>by simp,fun h=>?_,c6⟩
    ·exact⟨by simp only[if_neg (show ¬ 18=19 by decide)];exact e18,q2,q3⟩
    ·obtain⟨p1,p2,p3⟩:=c5 h;exact⟨by simp only[if_neg (show ¬ 20=19 by decide)];exact p1,p2,p3⟩
   ·rw[map4];simp only[r0,r1,r2,r3,e18];exact bd_va (l0 u0) bq s2 ad L.length cap w'
  ·obtain⟨o1,o2,o3⟩:=ym (x:=.alloc 28) (d:=some 6) ho (by kernel_rfl);have h21:¬ za.getD 21 false=true:=fun h=>by have:=(c1 h).1;rw[hun]at this;cases this
   refine allocG o1 o3 ze28V (by kernel_rfl) fun w4 hb4 hr=>?_;refine⟨_,rfl,fun u hu=>(by cases hu),⟨ad,cap,K,w'.heap.size,?_⟩,hb4.mono hbw.size⟩;rw[bit_eq hlt,q9 (by decide),q9 (by decide),q9 (by decide)];refine⟨fun h=>absurd h h21,c2,fun h=>?_,fun h=>?_,fun _=>⟨by simp,hbw.size,?_⟩,fun h _=>?_⟩
   ·obtain⟨q1,q2,q3⟩:=c3 h;exact⟨by simp only[if_neg (show ¬ 18=20 by decide)];exact q1,fun k hk=>⟨(q2 k hk).1,Nat.lt_of_lt_of_le (q2 k hk).2 hb4.size⟩,q3.keep CE.loc fun k hk=>⟨hk,hb4.block k (q2 k hk).2⟩⟩
   ·simp only[if_neg (show ¬ 19=20 by decide)];exact c4 h
   ·rw[if_neg h21];exact hr
   ·exact fun hk=>by have:=((c3 h).2.1 _ hk).2;omega
  ·obtain⟨o1,o2,o3⟩:=ym (x:=.store 28 (.tmp 6) (.tmp 34)) (d:=none) ho (by kernel_rfl);have hl20:=zk (ops:=z9 _) (i:=21) (j:=20) (by kernel_rfl) hrd;have hl19:=zk (ops:=z9 _) (i:=21) (j:=19) (by kernel_rfl) hrd;have hl18:=c2 hl19;have q1:a'.eval (.tmp 6)=vs 20:=hF.new (i:=20) (by kernel_rfl) (by omega) hl20;have q2:a'.eval (.tmp 34)=vs 19:=hF.new (i:=19) (by kernel_rfl) (by omega) hl19;obtain⟨e20,g20,hR⟩:=c5 hl20;have e19:=c4 hl19;obtain⟨e18,hkb,hsl⟩:=c3 hl18;have hnK:=c6 hl18 hl20;rw[hun,if_neg (by decide)]at hR
   refine yg o3 (Oper.wp_mono ?_ (v5 28 (.tmp 6) (.tmp 34) o1 (g:=b) (off:=0) (by rw[q1,e20]) (q2.trans e19) (cs:=#[B (l0 u0),.bool bq,.string s2,.slice ad L.length cap]) rfl hR (by kernel_rfl) (Nat.le_refl 4) (by kernel_rfl) (e:=#[B (l0 u0),.bool bq,.string s2,.slice ad L.length cap]) (over4 _ rfl)));rintro a2 w4 ⟨rfl,rfl⟩;refine⟨undef,rfl,fun u hu=>(by cases hu),⟨ad,cap,K,b,?_⟩,kg (Below.refl _ _) g20 _⟩;rw[bit_eq hlt,q9 (by decide),q9 (by decide),q9 (by decide)]
   refine⟨fun _=>⟨hl20,hl19⟩,c2,fun _=>⟨by simp only[if_neg (show ¬ 18=21 by decide)];exact e18,fun k hk=>⟨(hkb k hk).1,by rw[zaf];exact(hkb k hk).2⟩,hsl.keep CE.loc fun k hk=>⟨hk,set_heap _ fun e=>hnK (e ▸ hk)⟩⟩,fun _=>by simp only[if_neg (show ¬ 19=21 by decide)];exact e19,fun _=>⟨by simp only[if_neg (show ¬ 20=21 by decide)];exact e20,g20,?_⟩,c6⟩;rw[if_pos rfl];exact hR.set_same _
 intro za vs a4 w4 hall hC I4;obtain⟨ad,cap,K,b,_,_,c3,c4,c5,c6⟩:=hC;have hb18:=hall 18 (of_decide_eq_true (by kernel_rfl));have hb19:=hall 19 (of_decide_eq_true (by kernel_rfl));have hb20:=hall 20 (of_decide_eq_true (by kernel_rfl));have hb21:=hall 21 (of_decide_eq_true (by kernel_rfl));obtain⟨e18,hkb,hsl⟩:=c3 hb18;have e19:=c4 hb19;obtain⟨e20,g20,hR⟩:=c5 hb20;have hnK:=c6 hb18 hb20;rw[if_pos hb21]at hR
 obtain⟨vs',rfl⟩:∃ vs',vs=fun j=>if j=18 then .slice ad L.length cap else if j=19 then .agg #[B (l0 u0),.bool bq,.string s2,.slice ad L.length cap]else if j=20 then .pointer (some ⟨b,0,none⟩)else vs' j:=⟨vs,funext fun j=>by
  by_cases h1:j=18
  ·simp[h1,e18]
  ·by_cases h2:j=19
   ·simp[h2,e19]
   ·by_cases h3:j=20
    ·simp[h3,e20]
    ·simp[h1,h2,h3]⟩
 have I5:=I4.also (J':=SK 2 CE K w3.heap.size (.slice ad L.length cap) L) (F':=K) ⟨hkb,hsl⟩ (fun p hp h=>by
  have q1:=(I3k.row p hp).lt;have q2:=(hkb _ h).1;omega)
 refine adopt 6 (g:=b) (r:=#[B (l0 u0),.bool bq,.string s2,.slice ad L.length cap]) I5 (by kernel_rfl) hR (fun h=>by
  rcases h with(h|h)|h
  ·have:=I3k.hJ.1.size;omega
  ·have:=(I3k.hJ.2.kb b h).2;omega
  ·exact hnK h) (fun p hp e=>by
  have:=(I3k.row p hp).lt;omega) fun β6 hag hb6 I6=>?_
 have R3:=((zj w).both (KP.rs K0 w1.heap.size w2)).both (SK.rs CE.loc 2 K w3.heap.size (.slice ad L.length cap) L);have hex:∀ w',(Below w.heap.size w w'∧KP K0 w1.heap.size w2 w')∧SK 2 CE K w3.heap.size (.slice ad L.length cap) L w'→ExI w' (.slice ad L.length cap) L:=fun w' h=>h.2.sl.keep CE.loc fun k hk=>⟨(h.2.kb k hk).2,rfl⟩
 have hFx:∀ w',(Below w.heap.size w w'∧KP K0 w1.heap.size w2 w')∧SK 2 CE K w3.heap.size (.slice ad L.length cap) L w'→Calls prog 25 #[.agg #[B (l0 u0),.bool bq,.string s2,.slice ad L.length cap]] w' fun e w''=>e=.returned (.bool (vn (l0 u0,bq,s2,L)))∧Below w'.heap.size w' w'':=fun w' h=>zcu (v:=(l0 u0,bq,s2,L)) (hex w' h) hokx
 have hWx:∀ w',(Below w.heap.size w w'∧KP K0 w1.heap.size w2 w')∧SK 2 CE K w3.heap.size (.slice ad L.length cap) L w'→Calls prog 32 #[.agg #[B (l0 u0),.bool bq,.string s2,.slice ad L.length cap]] w' fun e w''=>e=.returned (str (wrV (l0 u0,bq,s2,L)))∧Below w'.heap.size w' w'':=fun w' h=>rwrite (v:=(l0 u0,bq,s2,L)) (hex w' h) hokx htu
 have hno:¬ (vn (l0 u0,bq,s2,L)=true∧wrV (l0 u0,bq,s2,L)=S)→rdV S=none:=fun h=>by
  cases hr:rdV S with
  | none=>rfl
  | some v=>
   obtain⟨q1,q2,q3⟩:=hdoc v hr;rw[← q1]at q2 q3;exact absurd ⟨q2,q3⟩ h
 generalize hwr:wrV (l0 u0,bq,s2,L)=wr_ at hWx hno hback;cases hfx:vn (l0 u0,bq,s2,L)with
 | false=>
  rw[hfx]at hFx;refine goT (T:=(fun w'=>(Below w.heap.size w w'∧KP K0 w1.heap.size w2 w')∧SK 2 CE K w3.heap.size (.slice ad L.length cap) L w')) [cA func25 hFx,uO .not (p:=.bool false) (v:=.bool true) (by intros;rfl),dO 28 [] bd_vz] R3 (fun _ h=>h) I6 fun β8 a8 w8 I8 hb8=>?_;exact zh (v:=.tuple #[vaV zVa (.slice none 0 0),Z 2]) I8 ⟨I8.hJ.1.1,.inr ⟨hno (fun h=>(by rw[hfx]at h;cases h.1)),rfl⟩⟩
 | true=>
  rw[hfx]at hFx;by_cases hq:wr_=S
  ·refine goT (T:=(fun w'=>(Below w.heap.size w w'∧KP K0 w1.heap.size w2 w')∧SK 2 CE K w3.heap.size (.slice ad L.length cap) L w')) [cA func25 hFx,uO .not (p:=.bool true) (v:=.bool false) (by intros;rfl),cA func32 hWx,bO .neq 9 (qa (a:=wr_) (b:=S) (q:=false) (by simp[hq]))] R3 (fun _ h=>h) I6 fun β8 a8 w8 I8 hb8=>?_;have hsz3:=I3k.hJ.1.size;exact zh (v:=.tuple #[.agg #[B (l0 u0),.bool bq,.string s2,.slice ad L.length cap],Z 0]) I8 ⟨I8.hJ.1.1,.inl ⟨(l0 u0,bq,s2,L),ad,cap,K,hback hfx hq,rfl,fun k hk=>⟨by have:=(I8.hJ.2.kb k hk).1;omega,(I8.hJ.2.kb k hk).2⟩,I8.hJ.2.sl⟩⟩
  ·refine goT (T:=(fun w'=>(Below w.heap.size w w'∧KP K0 w1.heap.size w2 w')∧SK 2 CE K w3.heap.size (.slice ad L.length cap) L w')) [cA func25 hFx,uO .not (p:=.bool true) (v:=.bool false) (by intros;rfl),cA func32 hWx,bO .neq 9 (qa (a:=wr_) (b:=S) (q:=true) (by simp[hq])),dO 28 [] bd_vz] R3 (fun _ h=>h) I6 fun β8 a8 w8 I8 hb8=>?_;exact zh (v:=.tuple #[vaV zVa (.slice none 0 0),Z 2]) I8 ⟨I8.hJ.1.1,.inr ⟨hno fun h=>hq h.2,rfl⟩⟩
end Go.Proofs.YtdeompgdhaomgaaGreatDoor
