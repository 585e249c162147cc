/- Laid one behind the other: Vl, Vm, Vn. -/
import Derived.Test.YtceedgdbhlpjlaaGreatDoorKqVi
import Derived.Tactics
import Derived.Tactics2
import Derived.Recover
import Derived.Laws.Pointers
namespace Go.Proofs.YtceedgdbhlpjlaaGreatDoor
open Go.RowKit Go.Sort Tryz
set_option linter.unusedVariables false
set_option maxRecDepth 100000
set_option maxHeartbeats 4000000
theorem xl{p:Prop}[Decidable p]{Pr:Fr→Prop}{x y:Fr}(hx:p→Pr x)(hy:¬ p→Pr y):Pr (if p then x else y):=by
 split
 ·next h=>exact hx h
 ·next h=>exact hy h
theorem doV_ind{Pr:Fr→Prop}{op:Nat}{f:Fr}(h0:op=0→Pr { f with sd:=1 })(h1:∀ r s o',(op=243∧s=1∨op=253∧s=2)→r=f.st.drop 2→o'=slV f.mem (tp f.st 0) (tp f.st 1)→Pr { f with st:=r,out:=o',sd:=s })(h2:∀ k st',(op=86∧k=1∨op=87∧k=2)→st'=f.st.drop k→∀ p:Int,(p=f.pc∧op=87∨p=tp f.st 0∧jmpV op f.st=true)→Pr { f with st:=st',pc:=p })(h3:∀ k m s (n:Nat),(op=55∧k=3∨op=57∧k=3∨op=82∧k=2∨op=83∧k=2)→m=putV f.mem n s→Pr { f with st:=f.st.drop k,mem:=m })(h4:∀ u k,u<W→(0<op∧op<32∧k=(opP op).2.1∨op=32∧k=2∨op=53∧k=1∨op=54∧k=0∨op=56∧k=0∨op=81∧k=1∨op=88∧k=0∨op=89∧k=0∨op=90∧k=0∨128≤op∧op<144∧k=0)→Pr { f with st:=u::f.st.drop k })(h5:op=80→Pr { f with st:=f.st.drop 1 })(h6:op=91→Pr f)(h7:∀ u (k:Nat),u<W→95≤op→op<128→k≤32→Pr { f with st:=u::f.st,pc:=f.pc+k })(h8:144≤op→op<160→Pr { f with st:=swV f.st (op-144) })(ho:kr op=true)(hr:Rdy op f):Pr (doV op f):=by
 have hW:1000000<W:=by decide
 have hi:=hr.inp;have hc:=hr.code;have hm:=hr.mem;have hp0:=hr.pc0;have hp1:=hr.pc1;have hg0:=hr.gas0;have hg1:=hr.gas1;have ht:=fun k=>zcq hr.num k
 have hcs:=zb4 ho;unfold doV;refine xl h0 fun q0=>?_;refine xl (fun q=>h4 _ _ (reckV_lt (ht 0) (ht 1) (ht 2)) (.inl ⟨by omega,q,rfl⟩)) fun q1=>?_;refine xl (fun q=>h4 _ 2 (kecV_lt _) (.inr (.inl ⟨q,rfl⟩))) fun q2=>?_;refine xl (fun q=>h4 _ 1 (rdB_lt (Nat.le_of_eq (vy _ _ 32 (by decide)))) (by omega)) fun q3=>?_;refine xl (fun q=>h4 _ 0 (by omega) (by omega)) fun q4=>?_;refine xl (fun q=>h3 3 _ _ _ (by omega) rfl) fun q5=>?_;refine xl (fun q=>h4 _ 0 (by omega) (by omega)) fun q6=>?_;refine xl (fun q=>h3 3 _ _ _ (by omega) rfl) fun q7=>?_
 refine xl h5 fun q8=>?_;refine xl (fun q=>h4 _ 1 (rdB_lt (Nat.le_of_eq (vy _ _ 32 (by decide)))) (by omega)) fun q9=>?_;refine xl (fun q=>h3 2 _ _ _ (by omega) rfl) fun q10=>?_;refine xl (fun q=>h3 2 _ _ _ (by omega) rfl) fun q11=>?_;refine xl (fun q=>h2 1 _ (by omega) rfl _ (.inr ⟨rfl,by unfold jmpV;simp[q]⟩)) fun q12=>?_;refine xl (fun q=>h2 2 _ (by omega) rfl _ ?_) fun q13=>?_
 ·by_cases hz:tp f.st 1=0
  ·exact .inl ⟨if_pos hz,q⟩
  ·exact .inr ⟨if_neg hz,by unfold jmpV;simp[q,hz]⟩
 refine xl (fun q=>h4 _ 0 (by omega) (by omega)) fun q14=>?_;refine xl (fun q=>h4 _ 0 (by omega) (by omega)) fun q15=>?_;refine xl (fun q=>h4 _ 0 (by omega) (by omega)) fun q16=>?_;refine xl h6 fun q17=>?_;refine xl (fun q=>h7 _ _ (rdB_lt (by rw[vy _ _ _ (by omega)];omega)) (by omega) q (by omega)) fun q18=>?_;refine xl (fun q=>h4 _ 0 (ht _) (by omega)) fun q19=>?_;refine xl (fun q=>h8 (by omega) q) fun q20=>?_;refine xl (fun q=>h1 _ 1 _ (.inl ⟨q,rfl⟩) rfl rfl) fun q21=>?_;exact h1 _ 2 _ (.inr ⟨by omega,rfl⟩) rfl rfl
theorem lays_of{n l:Nat}(h:n=32∧l=1∨n=53∧l=1∨n=54∧l=1∨n=56∧l=1∨n=81∧l=1∨n=88∧l=1∨n=89∧l=1∨n=90∧l=1):(opP n).2.2.1=l∧(n=32→(opP n).2.1=2)∧(n=53∨n=81→(opP n).2.1=1)∧(n=54∨n=56∨n=88∨n=89∨n=90→(opP n).2.1=0):=by
 rcases h with⟨rfl,rfl⟩|⟨rfl,rfl⟩|⟨rfl,rfl⟩|⟨rfl,rfl⟩|⟨rfl,rfl⟩|⟨rfl,rfl⟩|⟨rfl,rfl⟩|⟨rfl,rfl⟩<;>decide +kernel
theorem lays_lo:∀ n:Fin 32,0<n.val→kr n.val=true→(opP n.val).2.2.1=1:=by decide +kernel
theorem cost_pos:∀ n:Fin 256,kr n.val=true→n.val≠0→n.val≠243→n.val≠253→1≤(opP n.val).2.2.2:=by decide +kernel
theorem opF_in{f:Fr}(h0:0≤f.pc)(h:opF f≠0):f.pc<f.code.length:=by
 unfold opF at h;rw[if_neg (by omega)]at h;rcases Nat.lt_or_ge f.pc.toNat f.code.length with h1|h1
 ·omega
 ·rw[List.getElem?_eq_none h1]at h;exact absurd rfl h
structure Nxt (f n:Fr):Prop where
 code:n.code=f.code
 inp:n.inp=f.inp
 er:n.er=f.er
 gas:n.gas=f.gas-zac (opF f) f
 ok:f.sd=0→OkR n
 go:f.sd=0→n.sd=0→n.gas<f.gas∧n.out=f.out
 sd:f.sd=0→n.sd=0∨n.sd=1∨n.sd=2
theorem gas_pos{f:Fr}(hO:OkF f)(h:Fine f)(h0:opF f≠0)(h1:opF f≠243)(h2:opF f≠253):1≤zac (opF f) f:=by
 have q1:=cost_pos ⟨opF f,zbv f⟩ h.op h0 h1 h2;have q2:=ext_bd (op:=opF f) hO.num (fun h'=>Nat.le_trans (small1 h.gr (.inl h')) (by decide)) (fun h'=>Nat.le_trans (small2 h.gr h').1 (by decide));have q3:=zer f.mem (yk (opF f) f.st).1 (yk (opF f) f.st).2;unfold zac;simp only[]at q1;omega
theorem nxt_of{f:Fr}(hO:OkR f)(hz:f.sd=0)(h:Fine f):Nxt f (nexV f):=by
 have hrd:=rdy_of hO h;have hlen:=grow_len (a:=(yk (opF f) f.st).1) (n:=(yk (opF f) f.st).2) hO.mem hO.m32;have hg0:=gas_bd hO.toOkF h.gr;have hgg:=h.gas;have hg1:=hO.gas1;have hp0:=hO.pc0;have hp1:=hO.pc1;have hp2:=hO.pc2;have htk:=h.tk;have hly:=h.ly;have hst:=hO.st;have hop:=zbv f;have hnum:=hO.num;have hin:opF f≠0→f.pc<f.code.length:=opF_in hO.pc0;have hgp:=gas_pos hO.toOkF h;have hjp:=h.jp
 have mk:∀ n:Fr,n.code=f.code→n.inp=f.inp→n.er=f.er→n.gas=f.gas-zac (opF f) f→n.mem.length≤4096→n.mem.length%32=0→n.st.length≤256→(∀ u∈n.st,u<W)→0≤n.pc→n.pc≤f.code.length+33→(n.sd=0→n.pc≤f.code.length+32)→(f.sd=0→n.sd=0→n.gas<f.gas∧n.out=f.out)→(f.sd=0→n.sd=0∨n.sd=1∨n.sd=2)→Nxt f n:=by
  intro n a1 a2 a3 a4 a5 a6 a7 a8 a9 a10 a11 a12 a13;exact⟨a1,a2,a3,a4,fun _=>⟨⟨by rw[a1];exact hO.code,by rw[a2];exact hO.inp,a7,a8,a5,a6,a9,by rw[a1];exact a10,by rw[a4];omega,by rw[a4];omega⟩,by rw[a1];exact a11⟩,a12,a13⟩
 have hdr:∀ k,∀ u∈f.st.drop k,u<W:=fun k u hu=>hnum u (mem_drop hu)
 have hcs:∀ u:Nat,∀ l:List Nat,u<W→(∀ x∈l,x<W)→∀ x∈u::l,x<W:=fun u l hu hl x hx=>by
  rcases List.mem_cons.1 hx with rfl|hx
  ·exact hu
  ·exact hl x hx
 have hpl:(paid f).mem.length≤4096:=hlen.1;have hpm:(paid f).mem.length%32=0:=hlen.2.1;have hpp:(paid f).pc=f.pc+1:=rfl;have hps:(paid f).st=f.st:=rfl;unfold nexV;refine doV_ind (Pr:=Nxt f) ?_ ?_ ?_ ?_ ?_ ?_ ?_ ?_ ?_ h.op hrd
 ·intro q;refine mk _ rfl rfl rfl rfl hpl hpm hst hnum ?_ ?_ (fun q=>by cases q) (fun _ q=>by cases q) (fun _=>.inr (.inl rfl))
  ·show(0:Int)≤f.pc+1;omega
  ·show f.pc+1≤f.code.length+33;have:=hp2 hz;omega
 ·intro r s o' q hr ho;have:=hin (by omega);refine mk _ rfl rfl rfl rfl hpl hpm ?_ ?_ ?_ ?_ ?_ ?_ ?_
  ·rw[hr,hps];simp;omega
  ·rw[hr,hps];exact hdr 2
  ·show(0:Int)≤f.pc+1;omega
  ·show f.pc+1≤f.code.length+33;omega
  ·intro z;have z:s=0:=z;omega
  ·intro _ z;have z:s=0:=z;omega
  ·intro _;show s=0∨s=1∨s=2;omega
 ·intro k st' q hst' p hp;have:=hin (by omega);have hpc:0≤p∧p≤f.code.length:=by
   rcases hp with⟨e,_⟩|⟨e,hj⟩
   ·rw[e,hpp];omega
   ·have:=dst_lt (hjp hj);have e:p=(tp f.st 0:Nat):=e;omega
  refine mk _ rfl rfl rfl rfl hpl hpm ?_ ?_ hpc.1 (by simp only[];omega) (fun _=>by simp only[];omega) ?_ ?_
  ·rw[hst',hps];simp;omega
  ·rw[hst',hps];exact hdr k
  ·intro _ _;have:=hgp (by omega) (by omega) (by omega);exact⟨by show f.gas-zac (opF f) f<f.gas;omega,rfl⟩
  ·intro z;exact .inl z
 ·intro k m s n q hm;have:=hin (by omega);refine mk _ rfl rfl rfl rfl (by simp only[hm];rw[putV_len];exact hpl) (by simp only[hm];rw[putV_len];exact hpm) ?_ ?_ ?_ ?_ ?_ ?_ ?_
  ·simp only[hps];simp;omega
  ·simp only[hps];exact hdr k
  ·show(0:Int)≤f.pc+1;omega
  ·show f.pc+1≤f.code.length+33;omega
  ·intro _;show f.pc+1≤f.code.length+32;omega
  ·intro _ _;have:=hgp (by omega) (by omega) (by omega);exact⟨by show f.gas-zac (opF f) f<f.gas;omega,rfl⟩
  ·intro z;exact .inl z
 ·intro u k hu q;have:=hin (by omega);refine mk _ rfl rfl rfl rfl hpl hpm ?_ ?_ ?_ ?_ ?_ ?_ ?_
  ·simp only[hps,List.length_cons,List.length_drop];rcases q with q|q
   ·have:=lays_lo ⟨opF f,q.2.1⟩ q.1 h.op;simp only[]at this;omega
   ·by_cases q9:128≤opF f
    ·have:=opP_dup q9 (by omega);omega
    ·have:=lays_of (n:=opF f) (l:=1) (by omega);omega
  ·simp only[hps];exact hcs u _ hu (hdr k)
  ·show(0:Int)≤f.pc+1;omega
  ·show f.pc+1≤f.code.length+33;omega
  ·intro _;show f.pc+1≤f.code.length+32;omega
  ·intro _ _;have:=hgp (by omega) (by omega) (by omega);exact⟨by show f.gas-zac (opF f) f<f.gas;omega,rfl⟩
  ·intro z;exact .inl z
 ·intro q;have:=hin (by omega);refine mk _ rfl rfl rfl rfl hpl hpm ?_ ?_ ?_ ?_ ?_ ?_ ?_
  ·simp only[hps];simp;omega
  ·simp only[hps];exact hdr 1
  ·show(0:Int)≤f.pc+1;omega
  ·show f.pc+1≤f.code.length+33;omega
  ·intro _;show f.pc+1≤f.code.length+32;omega
  ·intro _ _;have:=hgp (by omega) (by omega) (by omega);exact⟨by show f.gas-zac (opF f) f<f.gas;omega,rfl⟩
  ·intro z;exact .inl z
 ·intro q;have:=hin (by omega);refine mk _ rfl rfl rfl rfl hpl hpm hst hnum ?_ ?_ ?_ ?_ ?_
  ·show(0:Int)≤f.pc+1;omega
  ·show f.pc+1≤f.code.length+33;omega
  ·intro _;show f.pc+1≤f.code.length+32;omega
  ·intro _ _;have:=hgp (by omega) (by omega) (by omega);exact⟨by show f.gas-zac (opF f) f<f.gas;omega,rfl⟩
  ·intro z;exact .inl z
 ·intro u k hu q1 q2 hk;have:=hin (by omega);have hl:=opP_push q1 (by omega);refine mk _ rfl rfl rfl rfl hpl hpm ?_ ?_ ?_ ?_ ?_ ?_ ?_
  ·simp only[hps,List.length_cons];omega
  ·simp only[hps];exact hcs u _ hu hnum
  ·show(0:Int)≤f.pc+1+k;omega
  ·show f.pc+1+k≤f.code.length+33;omega
  ·intro _;show f.pc+1+k≤f.code.length+32;omega
  ·intro _ _;have:=hgp (by omega) (by omega) (by omega);exact⟨by show f.gas-zac (opF f) f<f.gas;omega,rfl⟩
  ·intro z;exact .inl z
 ·intro q1 q2;have:=hin (by omega);have hl:=opP_swap q1 (by omega);refine mk _ rfl rfl rfl rfl hpl hpm ?_ ?_ ?_ ?_ ?_ ?_ ?_
  ·simp only[hps];simp[swV];omega
  ·simp only[hps];intro u hu;exact hnum u (swV_mem (by omega) hu)
  ·show(0:Int)≤f.pc+1;omega
  ·show f.pc+1≤f.code.length+33;omega
  ·intro _;show f.pc+1≤f.code.length+32;omega
  ·intro _ _;have:=hgp (by omega) (by omega) (by omega);exact⟨by show f.gas-zac (opF f) f<f.gas;omega,rfl⟩
  ·intro z;exact .inl z
def mu (f:Fr):Nat:=if f.sd≠0 then 0 else f.gas.toNat+1
theorem zcy{f:Fr}(h:f.sd≠0):∀ n,runN n f=f
 | 0=>rfl
 | n+1=>by unfold runN;rw[if_pos h]
theorem zc1{f:Fr}(h:f.sd=0)(n:Nat):runN (n+1) f=runN n (x9 f):=by
 show(if f.sd≠0 then f else runN n (x9 f))=_;rw[if_neg (by simp[h])]
theorem zeg{f:Fr}(h:f.sd=0)(he:qg f=0):x9 f=nexV f:=by unfold x9;rw[if_neg (by simp[h]),if_pos he]
theorem zbn{f:Fr}(h:f.sd=0)(he:qg f≠0):x9 f=kp f (qg f):=by unfold x9;rw[if_neg (by simp[h]),if_neg he]
theorem mu_step{f:Fr}(hO:OkR f)(hz:f.sd=0)(he:qg f=0):mu (nexV f)<mu f:=by
 have hn:=nxt_of hO hz (fine_of he);have hok:=hn.ok hz;have h0:=hok.gas0;have h1:=hO.gas0;have e:mu f=f.gas.toNat+1:=by unfold mu;rw[if_neg (by simp[hz])]
 rw[e];unfold mu;split
 ·omega
 ·next z=>
  have:=(hn.go hz (Decidable.not_not.1 z)).1;omega
structure Alg (G:Int) (f:Fr):Prop where
 ok:f.sd≠3→OkR f
 gas0:0≤f.gas
 gas1:f.gas≤G
 sd:f.sd=0∨f.sd=1∨f.sd=2∨f.sd=3
 er:f.sd=3↔f.er≠0
 bad:f.sd=3→f.gas=0∧f.out=[]
 out:f.sd=0→f.out=[]
 st:f.st.length≤256
 num:∀ u∈f.st,u<W
theorem alg_step{G:Int}{f:Fr}(h:Alg G f)(hz:f.sd=0):Alg G (x9 f):=by
 have hO:=h.ok (by rw[hz];decide);have he0:f.er=0:=Decidable.byContradiction fun e=>by have:=h.er.2 e;rw[hz]at this;cases this
 have hg0:=h.gas0;have hg1:=h.gas1;by_cases he:qg f=0
 ·rw[zeg hz he];have hf:=fine_of he;have hn:=nxt_of hO hz hf;have hok:=hn.ok hz;have hs:=hn.sd hz;have hgd:=gas_bd hO.toOkF hf.gr;have hn3:(nexV f).sd≠3:=by omega
  refine⟨fun _=>hok,hok.gas0,by rw[hn.gas];omega,by omega,⟨fun q=>absurd q hn3,fun q=>absurd (by rw[hn.er,he0]) q⟩,fun q=>absurd q hn3,fun q=>(hn.go hz q).2.trans (h.out hz),hok.st,hok.num⟩
 ·rw[zbn hz he];exact⟨fun q=>absurd rfl q,Int.le_refl 0,Int.le_trans hg0 hg1,.inr (.inr (.inr rfl)),⟨fun _=>he,fun _=>rfl⟩,fun _=>⟨rfl,h.out hz⟩,fun q=>(by cases q),h.st,h.num⟩
theorem alg_run{G:Int}:∀(n:Nat) {f:Fr},Alg G f→Alg G (runN n f)
 | 0,f,h=>h
 | n+1,f,h=>by
  by_cases hz:f.sd=0
  ·rw[zc1 hz];exact alg_run n (alg_step h hz)
  ·rw[zcy hz];exact h
theorem runN_more:∀(n k:Nat) {f:Fr},(runN n f).sd≠0→runN (n+k) f=runN n f
 | 0,k,f,h=>by rw[Nat.zero_add];exact zcy h k
 | n+1,k,f,h=>by
  by_cases hz:f.sd=0
  ·rw[show n+1+k=(n+k)+1 by omega,zc1 hz,zc1 hz];rw[zc1 hz]at h;exact runN_more n k h
  ·rw[zcy hz,zcy hz]
def clampG (g:Int):Int:=if 100000<(if g<0 then 0 else g)then 100000 else(if g<0 then 0 else g)
theorem clampG_bd(g:Int):0≤clampG g∧clampG g≤100000:=by
 unfold clampG
 repeat' split
 all_goals omega
def beg (c i:List UInt8) (g:Int):Fr:=⟨c,i,[],[],0,clampG g,0,0,[]⟩
def runV (c i:List UInt8) (g:Int):Fr:=runN 100001 (beg c i g)
theorem beg_alg{c i:List UInt8}(hc:c.length≤65536)(hi:i.length≤65536)(g:Int):Alg (clampG g) (beg c i g):=by
 have hg:=clampG_bd g;exact⟨fun _=>⟨⟨hc,hi,by show(0:Nat)≤256;omega,fun u hu=>absurd hu List.not_mem_nil,by show(0:Nat)≤4096;omega,rfl,Int.le_refl 0,by show(0:Int)≤c.length+33;omega,hg.1,hg.2⟩,fun _=>by show(0:Int)≤c.length+32;omega⟩,hg.1,Int.le_refl _,.inl rfl,⟨fun q=>(by cases q),fun q=>absurd rfl q⟩,fun q=>(by cases q),fun _=>rfl,Nat.zero_le _,fun u hu=>absurd hu List.not_mem_nil⟩
theorem beg_mu(c i:List UInt8)(g:Int):mu (beg c i g)≤100001:=by
 have hg:=clampG_bd g;unfold mu;rw[if_neg (by intro h;exact h rfl)];show(clampG g).toNat+1≤100001;omega
def rest1:Code→Code
 | .seq _ y=>y
 | c=>c
theorem atEnd{P:Program}{Q:Exit→Act→World→Prop}{c:Cf}{a:Act}{w:World}{e:Exit}(h:Q e a w)(hd:c.dn=some e:=by kernel_rfl):At P Q c a w:=⟨by unfold AtD;rw[hd];exact h⟩
def tA {T : World → Prop} (s t : Nat) {x v : Value} (h : ∀ w, (Instr.typeAssert x s t true).run prog w = .ok v w) : Fa prog T := Sum.inr (Sum.inr
  { ok := fun | .typeAssert _ s' t' true => s' == s && t' == t | _ => false
    xs := #[x]
    v := v
    fr := true
    h := by
      intro a w oo _ hok hx
      cases hop : oo.op with
      | typeAssert y s' t' b =>
        rw [hop] at hok hx
        cases b with
        | false => simp at hok
        | true =>
          simp only [Bool.and_eq_true, beq_iff_eq] at hok
          obtain ⟨rfl, rfl⟩ := hok
          simp only [vp, List.map_cons, List.map_nil] at hx
          have hx1 : a.eval y = x := by simpa using hx
          unfold execOp
          simp only [hop, hx1, Sem.run_bind, h, Result.andThen_ok, Sem.run_pure]
      | _ => rw [hop] at hok; simp at hok })
section
variable {P:Program} {J:World→Prop} {F:Nat→Prop} {ds:List Deferred} {β:Nat→Nat} {c:Cf} {a:Act} {w:World} {Q:Exit→Act→World→Prop}
def dfQ (c:Cf):Option SV:=match zbg c with
 | some o=>match o.op with
  | .defer { callee:=.value x,args:=xs,argTypes:=_ }=>if xs.isEmpty=true then evQ c.tm x else none
  | _=>none
 | none=>none
theorem dfrQ{f:Nat}{cap:Array Value}(I:SI J F ds β c a w)(k:∀ a',SI J F ({ target:=.fn (.func f) cap,args:=#[] }::ds) β (vz c (xo c) none) a' w→At P Q (vz c (xo c) none) a' w)(hc:dfQ c=some (Sum.inl (.func (.func f) #[] cap)):=by kernel_rfl):At P Q c a w:=by
 unfold dfQ at hc;split at hc
 ·next o ho=>
  split at hc
  ·next x xs ts hop=>
   split at hc
   ·next hf=>
    have hxe:xs=#[]:=by simpa using hf
    obtain⟨hd,⟨rest,hr⟩,hw⟩:=zab ho;refine zcl hd hr (kn I hw) ?_;have hrun:(execOp a.eval o).run P w=.ok (.defer { target:=.fn (.func f) cap,args:=#[] }) w:=by
     unfold execOp;simp[hop,hxe,resolve,qv I.fr hc,up,Deferred.ofValue]
    unfold Oper.wp;rw[hrun];have hk:=(k ({ a with defers:={ target:=.fn (.func f) cap,args:=#[] }::a.defers }.put o.dst undef) ?_).out
    ·unfold AtD at hk;simp only[vz,hd,xo,hr,List.tail_cons,List.head?_cons,Option.bind_some]at hk;exact hk
    ·have hdst:xo c=o.dst:=by simp[xo,hr]
     rw[hdst];refine⟨?_,?_,I.hJ,I.row,I.dis,I.lt,I.inj,km I.ids _ (by intro i o h;cases h)⟩
     ·exact zbj (a:={ a with defers:={ target:=.fn (.func f) cap,args:=#[] }::a.defers }) I.fr o.dst none
     ·rw[← I.df];cases o.dst<;>rfl
   ·cases hc
  ·cases hc
 ·cases hc
def cvlQ (c:Cf):Option SV:=match zbg c with
 | some o=>match o.op with
  | .call { callee:=.value (.tmp t),args:=xs,argTypes:=_ }=>if xs.isEmpty=true then evQ c.tm (.tmp t)else none
  | _=>none
 | none=>none
theorem vcallB{f : Nat}{fn : Func}{fs cap : Array Value}(hf : P.funcs[f]? = some fn)(I : SI J F ds β c a w)(h : Calls P f (fs ++ cap) w (CallE P Q c a))(hc : cvlQ c = some (Sum.inl (.func (.func f) fs cap)) := by kernel_rfl)(hb : fn.body.isNone = false := by kernel_rfl)(hn : (fn.name == "runtime.NumGoroutine") = false := by kernel_rfl) : At P Q c a w := by
 unfold cvlQ at hc;split at hc
 ·next o ho=>
  split at hc
  ·next t xs ts hop=>
   split at hc
   ·next hfe=>
    have hxe:xs=#[]:=by simpa using hfe
    obtain⟨hd,⟨rest,hr⟩,hw⟩:=zab ho;refine zcl hd hr (kn I hw) ?_;have hcf:(callFunc f (fs++cap)).run P w=.ok (.enter f (fs++cap)) w:=by
     have h1 : ¬ fn.name = "runtime.NumGoroutine" := by simpa using hn
     have h2:¬ fn.body=none:=by intro h;rw[h]at hb;cases hb
     unfold callFunc;simp[go_sem,hf,h1,h2]
    have hrun:(execOp a.eval o).run P w=.ok (.enter f (fs++cap)) w:=by
     unfold execOp;simp only[hop,hxe,resolve,qv I.fr hc,up,Deferred.ofValue];simp[invoke,hcf]
    unfold Oper.wp;rw[hrun,Oper.upon_enter];refine h.mono fun e w' he=>?_;cases e with
    | returned v=>
     have he':At P Q (qf c v) (a.put (xo c) v) w':=he;replace he':=he'.out;unfold AtD at he';simp only[qf,vz,hd,xo,hr,List.tail_cons,List.head?_cons,Option.bind_some]at he';exact he'
    | panicked ch=>exact zdd he
    | outgrown=>exact he.elim
   ·cases hc
  ·cases hc
 ·cases hc
def mfB (c:Cf):Option (Fn×List SV×List SV):=match zbg c with
 | some o=>match o.op with
  | .makeFunc fn fs cs=>(fs.toList.mapM (evQ c.tm)).bind fun ss=>(cs.toList.mapM (evQ c.tm)).map fun qs=>(fn,ss,qs)
  | _=>none
 | none=>none
theorem mkfB{fn:Fn}{ss qs:List SV}(I:SI J F ds β c a w)(k:At P Q (qf c (.func fn (ss.map (up β)).toArray (qs.map (up β)).toArray)) (a.put (xo c) (.func fn (ss.map (up β)).toArray (qs.map (up β)).toArray)) w)(hc:mfB c=some (fn,ss,qs):=by kernel_rfl):At P Q c a w:=by
 unfold mfB at hc;split at hc
 ·next o ho=>
  split at hc
  ·next fn' fs cs hop=>
   simp only[Option.bind_eq_some_iff,Option.map_eq_some_iff,Prod.mk.injEq]at hc;obtain⟨ss',hm,qs',hq,rfl,rfl,rfl⟩:=hc;refine vstep ho I (w':=w) ?_ k;have hx:=mapS_ok I.fr hm;have hy:=mapS_ok I.fr hq;have hxa:fs.map a.eval=(ss'.map (up β)).toArray:=by rw[← hx];apply Array.ext';simp
   have hya:cs.map a.eval=(qs'.map (up β)).toArray:=by rw[← hy];apply Array.ext';simp
   unfold execOp;simp[hop,Instr.makeFunc,hxa,hya,Sem.run_pure]
  ·cases hc
 ·cases hc
theorem inD{f:Nat}{fn:Func}{args:Array Value}{Rt:Ending→World→Prop}(hf:P.funcs[f]? = some fn)(hJ:J w)(k:∀ a,SI J F [] (fun _=>0) (cfF fn args) a w→At P (bodyPostD P fn Rt) (cfF fn args) a w)(hb:fn.body.isSome=true:=by kernel_rfl):Calls P f args w Rt:=by
 have hb':fn.body=some (fn.body.getD .skip):=by
  cases h:fn.body with
  | none=>rw[h]at hb;cases hb
  | some x=>rfl
 refine calls_of_wp_defers hf hb' (zbe (k _ ⟨?_,rfl,hJ,?_,?_,?_,?_,?_⟩))
 ·apply Array.ext';simp[begX,upO];exact(List.map_id _).symm
 ·intro p hp;cases hp
 ·intro p hp;cases hp
 ·intro p hp;cases hp
 ·intro p hp;cases hp
 ·simp[begX,va]
end
theorem catch_panic(b g:Nat)(f:Fr)(v dv:Value)(op:Nat)(pa:Int)(e:Int)(w:World)(hb:za w b #[yb g])(hbg:b≠g)(hr:za w g (xf f v op pa dv)) :
  CallsD prog 33 #[yb b] (.panicking (PEr e)) w fun r u' w'=>r=.returned (.tuple #[])∧u'=.panicking [{ v:=.iface 61 (Z e),recovered:=true }]∧za w' g (xf (kp f e) v op pa dv)∧zu (fun k=>k≠g∧k≠b) w w':=by
 have hgl:=hr.lt;refine callsD_of_wpS func33 rfl fun c₀ cs hu=>?_;apply wpS_seq;apply wpS_region;simp[wpOpsS,go_sem,recoverD,hu,ntmps33,Exit.thenS];refine wpS_of_wp (zbe (tm:=frm 28 [(0,Sum.inr (0,0)),(1,Sum.inl (.iface 61 (Z e))),(4,Sum.inl (.iface 61 (Z e)))]) (rows:=[(0,#[yb g])]) (nx:=1) ?_);have RR:∀ r,qm (fun w':World=>za w' g r∧zu (fun k=>k≠g∧k≠b) w w') (fun k=>k<w.heap.size∧k≠b):=fun r=>⟨fun x y hx gr=>⟨by
   obtain⟨t,ht⟩:=hx.1;exact⟨t,(gr.block g (za.lt ⟨t,ht⟩) ⟨hgl,Ne.symm hbg⟩).trans ht⟩,⟨gr.os.trans hx.2.os,gr.tape.trans hx.2.tape,gr.output.trans hx.2.output,Nat.le_trans hx.2.size gr.size,fun k hk hn=>(gr.block k (Nat.lt_of_lt_of_le hk hx.2.size) ⟨hk,hn.2⟩).trans (hx.2.block k hk hn)⟩⟩,fun x k hx hk=>Nat.lt_of_lt_of_le hk.1 hx.2.size⟩
 have sg:∀(x:World) (r:Array Value),zu (fun k=>k≠g) x (x.setRow g r):=fun x r=>vi _ _ _ (fun h=>h rfl)
 have sto:∀{r r':Array Value} {c:Cf} {a:Act} {β:Nat→Nat} {x:World},SI (fun w':World=>za w' g r∧zu (fun k=>k≠g∧k≠b) w w') (fun k=>k<w.heap.size∧k≠b) [] β c a x→SI (fun w':World=>za w' g r'∧zu (fun k=>k≠g∧k≠b) w w') (fun k=>k<w.heap.size∧k≠b) [] β (vz c (xo c) none) (a.put (xo c) undef) (x.setRow g r'):=fun I=>I.sto ⟨(sg _ _).os,(sg _ _).tape,(sg _ _).output,(sg _ _).size,fun k hk hn=>(sg _ _).block k hk fun e=>hn (e ▸ ⟨hgl,Ne.symm hbg⟩)⟩ ⟨I.hJ.1.set_same _,zu.trans I.hJ.2 (zu.mono (sg _ _) fun k hk=>hk.1)⟩ (fun _ _ h=>h)
 have I:SI (fun w':World=>za w' g (xf f v op pa dv)∧zu (fun k=>k≠g∧k≠b) w w') (fun k=>k<w.heap.size∧k≠b) [] (fun _=>b) (cfC (rest1 (Tryz.f33.body.getD .skip)) (frm 28 [(0,Sum.inr (0,0)),(1,Sum.inl (.iface 61 (Z e))),(4,Sum.inl (.iface 61 (Z e)))]) [(0,#[yb g])] 1) { tmps:=#[yb b]++((Array.replicate 27 undef).setIfInBounds 3 (.iface 61 (Z e))).setIfInBounds 0 (.iface 61 (Z e)),defers:=[] } w:=⟨by simp[frm,upO,up,List.range,List.range.loop,Array.replicate,List.replicate],rfl,⟨hr,zu.refl _ _⟩,by intro p hp;simp only[List.mem_singleton]at hp;subst hp;exact hb,by intro p hp h;exact h.2 rfl,by intro p hp;simp only[List.mem_singleton]at hp;subst hp;exact Nat.one_pos,by intro p hp q hq hpq;simp only[List.mem_singleton]at hp hq;subst hp;subst hq;exact absurd rfl hpq,by kernel_rfl⟩
 refine goQ [bO .eql 20 (p:=.iface 61 (Z e)) (q:=.nilIface) (v:=.bool false) (by intros;simp[go_sem]),tA 20 61 (x:=.iface 61 (Z e)) (v:=.tuple #[Z e,.bool true]) (by intro w;kernel_rfl),uO .not (p:=.bool true) (v:=.bool false) (by intros;rfl)] (RR _) I fun β1 A1 w1 I1 hb1=>?_;have hs1:=zdf (P:=prog) 3 (off:=0+0+5) (v:=Z 0) I1.hJ.1 (by kernel_rfl) (Nat.le_of_ble_eq_true rfl) (by kernel_rfl);have e1:over (xf f v op pa dv) (0+0+5) (Z 0).cells=xf { f with gas:=0 } v op pa dv:=by kernel_rfl
 rw[e1]at hs1;refine stoQ (ad:=⟨g,0+0+5,none⟩) (v:=Z 0) I1 hs1 ?_;refine goQ [] (RR _) (sto I1) fun β2 A2 w2 I2 hb2=>?_;have hs2:=zdf (P:=prog) 3 (off:=0+0+6) (v:=Z 3) I2.hJ.1 (by kernel_rfl) (Nat.le_of_ble_eq_true rfl) (by kernel_rfl);have e2:over (xf { f with gas:=0 } v op pa dv) (0+0+6) (Z 3).cells=xf { f with gas:=0,sd:=3 } v op pa dv:=by kernel_rfl
 rw[e2]at hs2;refine stoQ (ad:=⟨g,0+0+6,none⟩) (v:=Z 3) I2 hs2 ?_;refine goQ [] (RR _) (sto I2) fun β3 A3 w3 I3 hb3=>?_;have hs3:=zdf (P:=prog) 23 (off:=0+0+7) (v:=Z e) I3.hJ.1 (by kernel_rfl) (Nat.le_of_ble_eq_true rfl) (by kernel_rfl);have e3:over (xf { f with gas:=0,sd:=3 } v op pa dv) (0+0+7) (Z e).cells=xf (kp f e) v op pa dv:=by kernel_rfl
 rw[e3]at hs3;refine stoQ (ad:=⟨g,0+0+7,none⟩) (v:=Z e) I3 hs3 ?_;refine goQ [] (RR _) (sto I3) fun β4 A4 w4 I4 hb4=>?_;refine atEnd (e:=.normal) ?_;simp[bodyPostS,results,results33];exact⟨I4.df,I4.hJ.1,I4.hJ.2⟩
theorem catch_idle(g:Nat)(w:World) :
  CallsD prog 33 #[yb g] .returning w fun e u' w'=>e=.returned (.tuple #[])∧u'=.returning∧w'=w:=by
 refine callsD_of_wpS func33 rfl fun c₀ cs hu=>?_;apply wpS_seq;apply wpS_region;simp[wpOpsS,go_sem,recoverD,hu,ntmps33,Exit.thenS];apply wpS_seq;apply wpS_seq;apply wpS_region;simp[wpOpsS,go_sem,Exit.thenS];refine wpS_cond (t:=true) (by simp[Act.eval,Array.replicate]) ?_;simp only[if_true];refine wpS_of_wp (wp_ret ?_);cases c₀
 simp_all [Exit.thenS,bodyPostS,results,results33]
theorem put_defers(a:Act)(d:Option Tmp)(v:Value):(a.put d v).defers=a.defers:=by cases d<;>rfl
theorem at_fin{P:Program}{Q:Exit→Act→World→Prop}{c:Cf}{a:Act}{w:World}(h:Q .normal a w)(h1:c.dn=none:=by kernel_rfl)(h2:c.rest=[]:=by kernel_rfl)(h3:c.ks=[]:=by kernel_rfl):At P Q c a w:=⟨by unfold AtD;rw[h1,h2,h3];exact h⟩
def WorkP (g:Nat) (v dv:Value) (w:World) (fE:Fr) (e:Ending) (w':World):Prop:=∃ v' dv' f1 op' pa',MP g v dv w v' f1 op' pa' dv' w'∧((e=.returned TU0∧f1=fE)∨∃ er,e=.panicked (PEr er)∧kp f1 er=fE)
theorem catch_any{g : Nat}{v dv : Value}{w : World}{f : Fr}{op : Nat}{pa : Int}(h : MI g v f op pa dv w)(fE : Fr){fw : Nat}{Fw : Func}(hF : prog.funcs[fw]? = some Fw)(hB : Fw.body.isNone = false)(hN : (Fw.name == "runtime.NumGoroutine") = false)(fs cap : Array Value)(hw : ∀ w1, Below w.heap.size w w1 → MI g v f op pa dv w1 → Calls prog fw (fs ++ cap) w1 (WorkP g v dv w1 fE)) :
  Calls prog 19 #[yb g,.func (.func fw) fs cap] w fun e w'=>e=.returned TU0∧∃ v' dv' op' pa',MP g v dv w v' fE op' pa' dv' w':=by
 refine inD (J:=Below w.heap.size w) (F:=(· < w.heap.size)) func19 (Below.refl _ _) fun Az I=>?_;refine goZ [] I fun β1 A1 w1 I1 hb1=>?_;refine mkfX (fn:=.func 33) (ss:=[Sum.inr (0,0)]) I1 ?_;refine goZ [] (I1.same _) fun β2 A2 w2 I2 hb2=>?_;have hb20:β2 0=β1 0:=agr hb2 0 rfl;refine dfrQ (f:=33) (cap:=#[yb (β1 0)]) I2 fun A3 I3=>?_;refine goZ [] I3 fun β4 A4 w4 I4 hb4=>?_;have hb40:β4 0=β1 0:=agr hb4 0 hb20;refine inY I4 fun I5=>?_;refine goZ [] I5 fun β6 A6 w6 I6 hb6=>?_;have hb60:β6 0=β1 0:=agr hb6 0 hb40
 have hge:¬ (β6 0<w.heap.size):=I6.dis _ (yl (show xr _ 0=some #[yb g] by kernel_rfl));have hbox:=I6.rowAt 0 (r:=#[yb g]);rw[hb60]at hge hbox;have hmi:=h.below I6.hJ;have hgl:=h.c.lt;refine vcallB (fs:=fs) (cap:=cap) hF I6 ?_ (by kernel_rfl) hB hN;refine(hw w6 I6.hJ hmi).mono fun e w7 he=>?_;obtain⟨v',dv',f1,op',pa',hp,he⟩:=he;have hs0:MS w g v dv v f dv w6:=h.start.drew I6.hJ;have hs7:=hs0.trans hp.s;have hbown:v.ownBlock≠some (β1 0):=fun e=>by have:=(h.c.own.lt _ e).2;omega
 have hbx7:za w7 (β1 0) #[yb g]:=by
  obtain⟨t,ht⟩:=hbox;exact⟨t,(hp.s.gr.block _ (za.lt ⟨t,ht⟩) ⟨by omega,hbown⟩).trans ht⟩
 have hdf:A6.defers=[{ target:=.fn (.func 33) #[yb (β1 0)],args:=#[] }]:=I6.df;rcases he with⟨rfl,rfl⟩|⟨er,rfl,hwr⟩
 ·refine at_fin ?_;show Leaves prog Tryz.f19 (A6.put _ TU0).tmps _ (A6.put _ TU0).defers .returning w7;rw[put_defers,hdf];refine leaves_cons (f:=33) (args:=#[yb (β1 0)]) (by simp) (by simp[go_sem]) ?_;refine(catch_idle (β1 0) w7).mono ?_;rintro e u' w'' ⟨rfl,rfl,rfl⟩;exact⟨TU0,results_none rfl _ _ _,rfl,v',dv',op',pa',hp.row,hs7⟩
 ·show Leaves prog Tryz.f19 A6.tmps _ A6.defers (.panicking (PEr er)) w7;rw[hdf];refine leaves_cons (f:=33) (args:=#[yb (β1 0)]) (by simp) (by simp[go_sem]) ?_;refine(catch_panic (β1 0) g f1 v' dv' op' pa' er w7 hbx7 (by omega) hp.row).mono ?_;rintro e u' w8 ⟨rfl,rfl,hr8,hg8⟩;have hblt:=hbox.lt;have hg7:=h.c.hg;have hvb:v'.ownBlock≠some (β1 0):=fun e=>by
   rcases hp.s.nb _ e with h1|h1
   ·exact hbown h1
   ·omega
  have h7:∀ k,k<7→k≠g∧k≠β1 0:=fun k hk=>⟨by omega,by omega⟩
  have hdb:∀ k,dv'.ownBlock=some k→k≠g∧k≠β1 0:=fun k hk=>by
   rcases hp.s.c.ds with h1|⟨d,h1,h2,h3,h4⟩
   ·rw[h1]at hk;cases hk
   ·have e:d=k:=by rw[h1]at hk;exact Option.some.inj hk
    subst e;refine⟨by omega,?_⟩;rcases hp.s.db d (by rw[h1];rfl)with h5|h5
    ·rcases h.c.ds with h6|⟨d',h6,h7,_⟩
     ·rw[h6]at h5;cases h5
     ·have e:d'=d:=by rw[h6]at h5;exact Option.some.inj h5
      have:=(Array.getElem?_eq_some_iff.1 h7).1;omega
    ·omega
  have hsE:MS w g v dv v' fE dv' w8:=by
   refine⟨⟨?_,hp.s.c.tb.grow hg8 h7,hp.s.c.ts.grow hg8 h7,hg7,Nat.lt_of_lt_of_le hp.s.c.lt hg8.size,?_⟩,hgl,⟨hg8.os.trans hs7.gr.os,hg8.tape.trans hs7.gr.tape,hg8.output.trans hs7.gr.output,Nat.le_trans hs7.gr.size hg8.size,fun k hk hn=>(hg8.block k (Nat.lt_of_lt_of_le hk hs7.gr.size) ⟨hn.1,by omega⟩).trans (hs7.gr.block k hk hn)⟩,hs7.nb,hs7.db⟩
   ·have e:fE.st=f1.st:=by rw[← hwr];rfl
    rw[e];exact xi hp.s.c.own hg8 fun k hk=>⟨fun e=>by subst e;have:=(hp.s.c.own.lt k hk).1;omega,fun e=>hvb (e ▸ hk)⟩
   ·have e:fE.code=f1.code:=by rw[← hwr];rfl
    rw[e];exact hp.s.c.ds.grow hg8 hdb fun k hk=>.inl hk
  show Leaves prog Tryz.f19 A6.tmps _ [] .returning w8;exact⟨TU0,results_none rfl _ _ _,rfl,v',dv',op',pa',by rw[← hwr];exact hr8,hsE⟩
abbrev frV (f:Fr) (v:Value):Value:=.agg #[str f.code,str f.inp,v,str f.mem,Z f.pc,Z f.gas,Z f.sd,Z f.er,str f.out]
theorem mtold_any{g:Nat}{v:Value}{f:Fr}{op:Nat}{pa:Int}{dv:Value}{w:World}(h:MI g v f op pa dv w)(hl:f.st.length≤1000) :
  Calls prog 21 #[yb g] w fun e w'=>∃ ad cap,e=.returned (frV f (.slice ad f.st.length cap))∧MP g v dv w (.slice ad f.st.length cap) f op pa dv w':=by
 obtain⟨ad,cap,rfl⟩:=qt h.c.own;have hst:=h.start;have hrw:=h.row;have hnn:=h.c.not (wE:=w);by_cases hz:f.st.length=0
 ·have hnil:f.st=[]:=List.eq_nil_of_length_eq_zero hz;rw[hz]at hst hrw hnn;refine inG (J:=MS w g (.slice ad f.st.length cap) dv (.slice ad 0 cap) f dv) (F:=MF w g (.slice ad 0 cap) dv) [] func21 (hz ▸ hst) hrw hnn fun Az I=>?_;refine goM [lSk ad 0 cap,bO .eql 3 (yp (x:=0) (y:=0) (b:=true) rfl)] I fun β1 A1 w1 I1 hb1=>?_;have hJ:=I1.hJ;refine zp (v:=frV f (.slice none 0 0)) I1 ⟨none,0,by rw[hz],?_,?_⟩
  ·rw[hz];exact I1.rowG 0 (agr hb1 0 rfl) (r:=xf f (.slice none 0 0) op pa dv)
  ·rw[hz];refine⟨⟨?_,hJ.c.tb,hJ.c.ts,hJ.c.hg,hJ.c.lt,?_⟩,hJ.lt,hz ▸ hJ.gr,fun k hk=>(by cases hk),hJ.db⟩
   ·rw[hnil];exact World.ownsRow_nil _ _ _ _
   ·rcases hJ.c.ds with h1|⟨d,h1,h2,h3,h4⟩
    ·exact .inl h1
    ·exact .inr ⟨d,h1,h2,h3,fun e=>by cases e⟩
 ·generalize hn:f.st.length=n at *;refine inG (J:=MS w g (.slice ad n cap) dv (.slice ad n cap) f dv) (F:=MF w g (.slice ad n cap) dv) [] func21 hst hrw hnn fun Az I=>?_;refine goM [lSk ad n cap,keF n 0] I fun β1 A1 w1 I1 hb1=>?_;exact zp (v:=frV f (.slice ad n cap)) I1 ⟨ad,cap,rfl,I1.mp (agr hb1 0 rfl)⟩
theorem loop_any{g:Nat}{v:Value}{f:Fr}{op:Nat}{pa:Int}{dv:Value}{w:World}(h:MI g v f op pa dv w)(hO:f.sd=0→OkR f)(n:Nat)(hm:mu f≤n):Calls prog 31 #[yb g] w (WorkP g v dv w (runN n f)):=by
 obtain⟨ad,cap,rfl⟩:=qt h.c.own;refine inG (J:=MS w g (.slice ad f.st.length cap) dv (.slice ad f.st.length cap) f dv) (F:=MF w g (.slice ad f.st.length cap) dv) [] func31 h.start h.row h.c.not fun Az I=>?_;refine goM [] I fun β0 A0 w0 I0 hb0=>?_
 let St:Nat→Act→World→Prop:=fun i a w'=>∃(f1:Fr) (ad1:Option Addr) (cap1:Nat) (dv1:Value) (op1:Nat) (pa1:Int) (β:Nat→Nat) (u:Nat→Value),i=mu f1∧(f1.sd=0→OkR f1)∧(∃ m,mu f1≤m∧runN m f1=runN n f)∧β 0=g ∧
  SI (MS w g (.slice ad f.st.length cap) dv (.slice ad1 f1.st.length cap1) f1 dv1) (MF w g (.slice ad1 f1.st.length cap1) dv1) [] β
   (cfC (qz Tryz.f31) (kf (scrF 6 [0]) u 0 (frm 6 [(0,Sum.inr (0,0))])) [(0,xf f1 (.slice ad1 f1.st.length cap1) op1 pa1 dv1)] 1) a w'
 refine lpM (qz Tryz.f31) St (mu f) ?_ ?_
 ·obtain⟨u,Iu⟩:=I0.scr (qz Tryz.f31) (scrF 6 [0]) (frm 6 [(0,Sum.inr (0,0))]) [(0,xf f (.slice ad f.st.length cap) op pa dv)] 1;exact⟨f,ad,cap,dv,op,pa,β0,u,rfl,hO,⟨n,hm,rfl⟩,agr hb0 0 rfl,Iu⟩
 rintro i a3 w3 ⟨f1,ad1,cap1,dv1,op1,pa1,β3,u,rfl,hO1,⟨m,hm1,hrun⟩,hz3,I3⟩;refine zbe (tm:=kf (scrF 6 [0]) u 0 (frm 6 [(0,Sum.inr (0,0))])) (rows:=[(0,xf f1 (.slice ad1 f1.st.length cap1) op1 pa1 dv1)]) (nx:=1) ?_;by_cases hz:f1.sd=0
 ·have hO2:=hO1 hz;refine goM [bO .eql 3 (yp (x:=f1.sd) (y:=0) (b:=true) (decide_eq_true hz))] I3 fun β4 A4 w4 I4 hb4=>?_;have hz4:β4 0=g:=agr hb4 0 hz3;have hmi:=I4.mi (op:=op1) (pa:=pa1) hz4;obtain⟨m',rfl⟩:∃ m',m=m'+1:=by
   cases m with
   | zero=>unfold mu at hm1;rw[if_neg (by simp[hz])]at hm1;omega
   | succ m'=>exact⟨m',rfl⟩
  rw[zc1 hz]at hrun;refine qx [Sum.inr (0,0)] func20 I4 ?_;have ea:([Sum.inr (0,0)].map (up β4)).toArray=#[yb g]:=by rw[← hz4];rfl
  rw[ea];refine(step_any hO2 hmi).mono fun e w5 he=>?_;obtain⟨v2,dv2,⟨he0,rfl,hp⟩ | ⟨he0,rfl,hp⟩⟩:=he
  ·obtain⟨ad2,cap2,rfl⟩:=qt hp.s.c.own;rw[zeg hz he0]at hrun;have hmu:=mu_step hO2 hz he0;have hok:=(nxt_of hO2 hz (fine_of he0)).ok hz;generalize nexV f1=f2 at *;refine(at_row (id:=0) (r:=xf f2 (.slice ad2 f2.st.length cap2) (opF f1) f1.pc dv2)).1 ?_;have I5:=I4.mth hz4 hp TU0 (r0:=xf f1 (.slice ad1 f1.st.length cap1) op1 pa1 dv1) (by kernel_rfl);generalize opF f1=op2,f1.pc=pa2 at *;refine goM [] I5 fun β6 A6 w6 I6 hb6=>?_;obtain⟨u',Iu⟩:=I6.scr (qz Tryz.f31) (scrF 6 [0]) (frm 6 [(0,Sum.inr (0,0))]) [(0,xf f2 (.slice ad2 f2.st.length cap2) op2 pa2 dv2)] 1
   exact endL ⟨mu f2,hmu,f2,ad2,cap2,dv2,op2,pa2,β6,u',rfl,fun _=>hok,⟨m',by omega,hrun⟩,agr hb6 0 hz4,Iu⟩
  ·rw[zbn hz he0,zcy (show(kp f1 (qg f1)).sd≠0 by show(3:Int)≠0;decide)]at hrun;exact zdd ⟨I4.df,v2,dv2,f1,opF f1,f1.pc,⟨hp.row,I4.hJ.trans hp.s⟩,.inr ⟨qg f1,rfl,hrun⟩⟩
 ·refine goM [bO .eql 3 (yp (x:=f1.sd) (y:=0) (b:=false) (decide_eq_false hz))] I3 fun β4 A4 w4 I4 hb4=>?_;have hz4:β4 0=g:=agr hb4 0 hz3;rw[zcy hz]at hrun;refine endE 0 ?_;refine goM [] (I4.exit _) fun β5 A5 w5 I5 hb5=>?_;exact vg I5 ⟨_,_,f1,op1,pa1,I5.mp (agr hb5 0 hz4),.inl ⟨rfl,hrun⟩⟩
structure RJ (w0:World) (g:Nat) (v:Value) (f:Fr) (dv:Value) (w:World):Prop where
 bw:Below w0.heap.size w0 w
 c:MC g v f dv w
 hge:w0.heap.size≤g
def RjF (w0:World) (v dv:Value) (k:Nat):Prop:=k<w0.heap.size∨v.ownBlock=some k∨dv.ownBlock=some k
theorem RJ.rs(w0:World)(h7:7≤w0.heap.size)(g:Nat)(v:Value)(f:Fr)(dv:Value):qm (RJ w0 g v f dv) (RjF w0 v dv):=by
 refine⟨fun w w' h gr=>?_,fun w k h hk=>?_⟩
 ·have q7:∀ k,k<7→RjF w0 v dv k:=fun k hk=>.inl (by omega)
  exact⟨⟨gr.os.trans h.bw.os,gr.tape.trans h.bw.tape,gr.output.trans h.bw.output,Nat.le_trans h.bw.size gr.size,fun k hk=>(gr.block k (Nat.lt_of_lt_of_le hk h.bw.size) (.inl hk)).trans (h.bw.block k hk)⟩,⟨xi h.c.own gr fun k hk=>.inr (.inl hk),h.c.tb.grow gr q7,h.c.ts.grow gr q7,h.c.hg,Nat.lt_of_lt_of_le h.c.lt gr.size,h.c.ds.grow gr (fun k hk=>.inr (.inr hk)) fun k hk=>.inl hk⟩,h.hge⟩
 ·rcases hk with hk|hk|hk
  ·exact Nat.lt_of_lt_of_le hk h.bw.size
  ·exact(h.c.own.lt k hk).2
  ·rcases h.c.ds with h1|⟨d,rfl,h2,_⟩
   ·rw[h1]at hk;cases hk
   ·have e:d=k:=Option.some.inj hk;subst e;exact(Array.getElem?_eq_some_iff.1 h2).1
theorem zb9{w:World}{b b' e s:Nat}{v:Value}{n:Nat}{xs:List Value}(h:w.ownsRow b e s v n xs)(hb:b'≤b):w.ownsRow b' e s v n xs:=by
 refine⟨h.1,h.2.imp id ?_⟩;rintro⟨g,cap,cur,a1,a2,a3⟩;exact⟨g,cap,cur,a1,Nat.le_trans hb a2,a3⟩
theorem RJ.mp{w0:World}{g:Nat}{v dv v' dv':Value}{f f':Fr}{op':Nat}{pa':Int}{w w':World}(h:RJ w0 g v f dv w)(hp:MP g v dv w v' f' op' pa' dv' w'):RJ w0 g v' f' dv' w':=by
 refine⟨⟨hp.s.gr.os.trans h.bw.os,hp.s.gr.tape.trans h.bw.tape,hp.s.gr.output.trans h.bw.output,Nat.le_trans h.bw.size hp.s.gr.size,fun k hk=>(hp.s.gr.block k (Nat.lt_of_lt_of_le hk h.bw.size) ⟨?_,fun e=>?_⟩).trans (h.bw.block k hk)⟩,hp.s.c,h.hge⟩
 ·have:=h.hge;omega
 ·have:=(h.c.own.lt k e).1;have:=h.hge;omega
theorem SI.rj{w0:World}{g id:Nat}{v dv v' dv':Value}{f f':Fr}{op':Nat}{pa':Int}{w w':World}{ds:List Deferred}{β:Nat→Nat}{c:Cf}{a:Act}{r0:Array Value}(I:SI (RJ w0 g v f dv) (RjF w0 v dv) ds β c a w)(hb:β id=g)(hp:MP g v dv w v' f' op' pa' dv' w')(x:Value)(hid:xr c.rows id=some r0) :
  SI (RJ w0 g v' f' dv') (RjF w0 v' dv') ds β (rowQ (qf c x) id (xf f' v' op' pa' dv')) (a.put (xo c) x) w':=by
 refine I.rowed hid ⟨hp.s.gr.os,hp.s.gr.tape,hp.s.gr.output,hp.s.gr.size,fun k hk hn=>hp.s.gr.block k hk ⟨by rw[hb]at hn;exact hn.2,fun e=>hn.1 (.inr (.inl e))⟩⟩ (by rw[hb];exact hp.row) (I.hJ.mp hp) (fun k hk h=>?_) x;rcases h with h | h | h
 ·exact .inl h
 ·rcases hp.s.nb k h with h1|h1
  ·exact .inr (.inl h1)
  ·omega
 ·rcases hp.s.db k h with h1|h1
  ·exact .inr (.inr h1)
  ·omega
theorem bd25(c i:List UInt8)(p:Int)(w:World):(Instr.build 25 (([0,1,5]:List Nat).zip [str c,str i,Z p]).toArray).run prog w=.ok (.agg #[str c,str i,.slice none 0 0,str [],Z 0,Z p,Z 0,Z 0,str []]) w:=by kernel_rfl
theorem bd41(c i m o:List UInt8)(v:Value)(p q r s:Int)(w:World):(Instr.build 41 (([0]:List Nat).zip [.agg #[str c,str i,v,str m,Z p,Z q,Z r,Z s,str o]]).toArray).run prog w=.ok (.agg #[str c,str i,v,str m,Z p,Z q,Z r,Z s,str o,b8 0,Z 0,.slice none 0 0]) w:=by kernel_rfl
def FrO (w:World) (f:Fr) (x:Value) (w':World):Prop:=∃ ad cap,x=frV f (.slice ad f.st.length cap)∧w'.ownsRow w.heap.size 38 4 (.slice ad f.st.length cap) f.st.length (sC f.st)∧Below w.heap.size w w'
theorem run_any(c i:List UInt8)(hc:c.length≤65536)(hi:i.length≤65536)(gas:Int)(w:World)(hb:Tb w)(hs:Tabs w ki):Calls prog 14 #[str c,str i,Z gas] w fun e w'=>∃ x,e=.returned x∧FrO w (runV c i gas) x w':=by
 have h7:7≤w.heap.size:=by
  obtain⟨t,fr,h⟩:=hs.p;exact(Array.getElem?_eq_some_iff.1 h).1
 have hal:=beg_alg hc hi gas;have hmu:=beg_mu c i gas;have hend:=alg_run 100001 hal;have hlen:(runV c i gas).st.length≤1000:=Nat.le_trans hend.st (by decide);obtain⟨m,hm⟩:∃ m:Int,(if gas<0 then(0:Int)else gas)=m:=⟨_,rfl⟩
 obtain⟨p,hp⟩:∃ p:Int,(if 100000<m then(100000:Int)else m)=p:=⟨_,rfl⟩
 have hcl:clampG gas=p:=by unfold clampG;rw[hm,hp]
 have hbg:beg c i gas=⟨c,i,[],[],0,p,0,0,[]⟩:=by unfold beg;rw[hcl]
 have hrv:runV c i gas=runN 100001 (beg c i gas):=rfl;rw[hbg]at hal hmu hrv;rw[hrv]at hlen ⊢;generalize hfE:runN 100001 ⟨c,i,[],[],0,p,0,0,[]⟩=fE at *;refine inZ func14 fun Az I=>?_;refine goZ [mxO (k:=.i64) (x:=gas) (y:=0) (z:=m) hm,mnO (x:=m) (y:=100000) (z:=p) hp,dO 25 [0,1,5] (bd25 c i p),dO 41 [0] (bd41 c i [] [] (.slice none 0 0) 0 p 0 0)] I fun β1 A1 w1 I1 hb1=>?_;refine mkfX (fn:=.func 31) (ss:=[Sum.inr (1,0)]) I1 ?_;refine goZ [] (I1.same (.func (.func 31) #[] #[yb (β1 1)])) fun β2 A2 w2 I2 hb2=>?_;obtain⟨g,hg⟩:∃ g,β1 1=g:=⟨_,rfl⟩
 have hz2:β2 1=g:=agr hb2 1 hg;have hge:¬ (β2 1<w.heap.size):=I2.dis _ (yl (show xr _ 1=some (xf ⟨c,i,[],[],0,p,0,0,[]⟩ (.slice none 0 0) 0 0 (.slice none 0 0)) by kernel_rfl));have hrow:=I2.rowG 1 hz2 (r:=xf ⟨c,i,[],[],0,p,0,0,[]⟩ (.slice none 0 0) 0 0 (.slice none 0 0));rw[hz2]at hge;have hmi:MI g (.slice none 0 0) ⟨c,i,[],[],0,p,0,0,[]⟩ 0 0 (.slice none 0 0) w2:=⟨hrow,World.ownsRow_nil _ _ _ _,hb.below I2.hJ,hs.below I2.hJ,by omega,hrow.lt,.inl rfl⟩
 have hcat:=catch_any hmi fE func31 (by kernel_rfl) (by kernel_rfl) #[] #[yb g] fun w3 hb3 hmi3=>by
  have:=loop_any hmi3 (fun _=>hal.ok (by show(0:Int)≠3;decide)) 100001 hmu;rw[hfE]at this;exact this
 have I2':SI (RJ w g (.slice none 0 0) ⟨c,i,[],[],0,p,0,0,[]⟩ (.slice none 0 0)) (RjF w (.slice none 0 0) (.slice none 0 0)) [] β2 _ A2 w2:=⟨I2.fr,I2.df,⟨I2.hJ,hmi.c,by omega⟩,I2.row,fun q hq h=>I2.dis q hq (by
  rcases h with h|h|h
  ·exact h
  ·cases h
  ·cases h),I2.lt,I2.inj,I2.ids⟩
 refine qx [Sum.inr (1,0),Sum.inl (.func (.func 31) #[] #[yb (β1 1)])] func19 I2' ?_;have ea:([Sum.inr (1,0),Sum.inl (.func (.func 31) #[] #[yb (β1 1)])].map (up β2)).toArray=#[yb g,.func (.func 31) #[] #[yb g]]:=by
  rw[hg];simp only[List.map_cons,List.map_nil,up];rw[hz2]
 rw[ea];refine hcat.mono fun e w3 he=>?_;obtain⟨rfl,v3,dv3,op3,pa3,hp3⟩:=he;obtain⟨ad3,cap3,rfl⟩:=qt hp3.s.c.own;refine(at_row (id:=1) (r:=xf fE (.slice ad3 fE.st.length cap3) op3 pa3 dv3)).1 ?_;have I3:=I2'.rj hz2 hp3 TU0 (r0:=xf ⟨c,i,[],[],0,p,0,0,[]⟩ (.slice none 0 0) 0 0 (.slice none 0 0)) (by kernel_rfl);refine goQ [] (RJ.rs w h7 _ _ _ _) I3 fun β4 A4 w4 I4 hb4=>?_;have hz4:β4 1=g:=agr hb4 1 hz2;have hmi4:MI g (.slice ad3 fE.st.length cap3) fE op3 pa3 dv3 w4:=⟨I4.rowG 1 hz4,I4.hJ.c⟩
 refine qx [Sum.inr (1,0)] func21 I4 ?_;have eb:([Sum.inr (1,0)].map (up β4)).toArray=#[yb g]:=by rw[← hz4];rfl
 rw[eb];refine(mtold_any hmi4 hlen).mono fun e w5 he=>?_;obtain⟨ad5,cap5,rfl,hp5⟩:=he;refine(at_row (id:=1) (r:=xf fE (.slice ad5 fE.st.length cap5) op3 pa3 dv3)).1 ?_;have I5:=I4.rj hz4 hp5 (frV fE (.slice ad5 fE.st.length cap5)) (r0:=xf fE (.slice ad3 fE.st.length cap3) op3 pa3 dv3) (by kernel_rfl);refine goQ [] (RJ.rs w h7 _ _ _ _) I5 fun β6 A6 w6 I6 hb6=>?_;exact zp (v:=frV fE (.slice ad5 fE.st.length cap5)) I6 ⟨_,rfl,ad5,cap5,rfl,zb9 I6.hJ.c.own (by omega),I6.hJ.bw⟩
end Go.Proofs.YtceedgdbhlpjlaaGreatDoor
