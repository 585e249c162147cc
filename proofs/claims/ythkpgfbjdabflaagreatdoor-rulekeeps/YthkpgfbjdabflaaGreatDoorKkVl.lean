/- Laid one behind the other: Vl, Vm, Vn. -/
import Derived.Test.YthkpgfbjdabflaaGreatDoorKkVi
import Derived.Tactics
import Derived.Tactics2
import Derived.Recover
import Derived.Laws.Pointers
namespace Go.Proofs.YthkpgfbjdabflaaGreatDoor
open Go.RowKit Go.Sort Tryz
set_option linter.unusedVariables false
set_option maxRecDepth 100000
set_option maxHeartbeats 4000000
theorem xd{p:Prop}[Decidable p]{Pr:Fr→Prop}{x y:Fr}(hx:p→Pr x)(hy:¬ p→Pr y):Pr (if p then x else y):=by
 split
 ·next h=>exact hx h
 ·next h=>exact hy h
theorem doV_ind{Pr:Fr→Prop}{op:Nat}{f:Fr}(h0:op=0→Pr { f with sd:=1 })(h1:∀ r s o',(op=243∧s=1∨op=253∧s=2)→r=f.st.drop 2→o'=slV f.mem (tp f.st 0) (tp f.st 1)→Pr { f with st:=r,out:=o',sd:=s })(h2:∀ k st',(op=86∧k=1∨op=87∧k=2)→st'=f.st.drop k→∀ p:Int,(p=f.pc∧op=87∨p=tp f.st 0∧jmpV op f.st=true)→Pr { f with st:=st',pc:=p })(h3:∀ k m s (n:Nat),(op=55∧k=3∨op=57∧k=3∨op=82∧k=2∨op=83∧k=2)→m=putV f.mem n s→Pr { f with st:=f.st.drop k,mem:=m })(h4:∀ u k,u<W→(0<op∧op<32∧k=(opP op).2.1∨op=32∧k=2∨op=53∧k=1∨op=54∧k=0∨op=56∧k=0∨op=81∧k=1∨op=88∧k=0∨op=89∧k=0∨op=90∧k=0∨128≤op∧op<144∧k=0)→Pr { f with st:=u::f.st.drop k })(h5:op=80→Pr { f with st:=f.st.drop 1 })(h6:op=91→Pr f)(h7:∀ u (k:Nat),u<W→95≤op→op<128→k≤32→Pr { f with st:=u::f.st,pc:=f.pc+k })(h8:144≤op→op<160→Pr { f with st:=swV f.st (op-144) })(ho:isOp op=true)(hr:Rdy op f):Pr (doV op f):=by
 have hW:1000000<W:=by decide
 have hi:=hr.inp;have hc:=hr.code;have hm:=hr.mem;have hp0:=hr.pc0;have hp1:=hr.pc1;have hg0:=hr.gas0;have hg1:=hr.gas1;have ht:=fun k=>tp_lt hr.num k
 have hcs:=isOp_cases ho;unfold doV;refine xd h0 fun q0=>?_;refine xd (fun q=>h4 _ _ (reckV_lt (ht 0) (ht 1) (ht 2)) (.inl ⟨by omega,q,rfl⟩)) fun q1=>?_;refine xd (fun q=>h4 _ 2 (kecV_lt _) (.inr (.inl ⟨q,rfl⟩))) fun q2=>?_;refine xd (fun q=>h4 _ 1 (rdB_lt (Nat.le_of_eq (zc4 _ _ 32 (by decide)))) (by omega)) fun q3=>?_;refine xd (fun q=>h4 _ 0 (by omega) (by omega)) fun q4=>?_;refine xd (fun q=>h3 3 _ _ _ (by omega) rfl) fun q5=>?_;refine xd (fun q=>h4 _ 0 (by omega) (by omega)) fun q6=>?_;refine xd (fun q=>h3 3 _ _ _ (by omega) rfl) fun q7=>?_
 refine xd h5 fun q8=>?_;refine xd (fun q=>h4 _ 1 (rdB_lt (Nat.le_of_eq (zc4 _ _ 32 (by decide)))) (by omega)) fun q9=>?_;refine xd (fun q=>h3 2 _ _ _ (by omega) rfl) fun q10=>?_;refine xd (fun q=>h3 2 _ _ _ (by omega) rfl) fun q11=>?_;refine xd (fun q=>h2 1 _ (by omega) rfl _ (.inr ⟨rfl,by unfold jmpV;simp[q]⟩)) fun q12=>?_;refine xd (fun q=>h2 2 _ (by omega) rfl _ ?_) fun q13=>?_
 ·by_cases hz:tp f.st 1=0
  ·exact .inl ⟨if_pos hz,q⟩
  ·exact .inr ⟨if_neg hz,by unfold jmpV;simp[q,hz]⟩
 refine xd (fun q=>h4 _ 0 (by omega) (by omega)) fun q14=>?_;refine xd (fun q=>h4 _ 0 (by omega) (by omega)) fun q15=>?_;refine xd (fun q=>h4 _ 0 (by omega) (by omega)) fun q16=>?_;refine xd h6 fun q17=>?_;refine xd (fun q=>h7 _ _ (rdB_lt (by rw[zc4 _ _ _ (by omega)];omega)) (by omega) q (by omega)) fun q18=>?_;refine xd (fun q=>h4 _ 0 (ht _) (by omega)) fun q19=>?_;refine xd (fun q=>h8 (by omega) q) fun q20=>?_;refine xd (fun q=>h1 _ 1 _ (.inl ⟨q,rfl⟩) rfl rfl) fun q21=>?_;exact h1 _ 2 _ (.inr ⟨by omega,rfl⟩) rfl rfl
theorem lays_of{n l:Nat}(h:n=32∧l=1∨n=53∧l=1∨n=54∧l=1∨n=56∧l=1∨n=81∧l=1∨n=88∧l=1∨n=89∧l=1∨n=90∧l=1):(opP n).2.2.1=l∧(n=32→(opP n).2.1=2)∧(n=53∨n=81→(opP n).2.1=1)∧(n=54∨n=56∨n=88∨n=89∨n=90→(opP n).2.1=0):=by
 rcases h with⟨rfl,rfl⟩|⟨rfl,rfl⟩|⟨rfl,rfl⟩|⟨rfl,rfl⟩|⟨rfl,rfl⟩|⟨rfl,rfl⟩|⟨rfl,rfl⟩|⟨rfl,rfl⟩<;>decide +kernel
theorem lays_lo:∀ n:Fin 32,0<n.val→isOp n.val=true→(opP n.val).2.2.1=1:=by decide +kernel
theorem cost_pos:∀ n:Fin 256,isOp n.val=true→n.val≠0→n.val≠243→n.val≠253→1≤(opP n.val).2.2.2:=by decide +kernel
theorem opF_in{f:Fr}(h0:0≤f.pc)(h:opF f≠0):f.pc<f.code.length:=by
 unfold opF at h;rw[if_neg (by omega)]at h;rcases Nat.lt_or_ge f.pc.toNat f.code.length with h1|h1
 ·omega
 ·rw[List.getElem?_eq_none h1]at h;exact absurd rfl h
structure Nxt (f n:Fr):Prop where
 code:n.code=f.code
 inp:n.inp=f.inp
 er:n.er=f.er
 gas:n.gas=f.gas-gasV (opF f) f
 ok:f.sd=0→OkR n
 go:f.sd=0→n.sd=0→n.gas<f.gas∧n.out=f.out
 sd:f.sd=0→n.sd=0∨n.sd=1∨n.sd=2
theorem gas_pos{f:Fr}(hO:OkF f)(h:Fine f)(h0:opF f≠0)(h1:opF f≠243)(h2:opF f≠253):1≤gasV (opF f) f:=by
 have q1:=cost_pos ⟨opF f,opF_lt f⟩ h.op h0 h1 h2;have q2:=ext_bd (op:=opF f) hO.num (fun h'=>Nat.le_trans (small1 h.gr (.inl h')) (by decide)) (fun h'=>Nat.le_trans (small2 h.gr h').1 (by decide));have q3:=grow_cost f.mem (xf (opF f) f.st).1 (xf (opF f) f.st).2;unfold gasV;simp only[]at q1;omega
theorem nxt_of{f:Fr}(hO:OkR f)(hz:f.sd=0)(h:Fine f):Nxt f (nexV f):=by
 have hrd:=rdy_of hO h;have hlen:=grow_len (a:=(xf (opF f) f.st).1) (n:=(xf (opF f) f.st).2) hO.mem hO.m32;have hg0:=gas_bd hO.toOkF h.gr;have hgg:=h.gas;have hg1:=hO.gas1;have hp0:=hO.pc0;have hp1:=hO.pc1;have hp2:=hO.pc2;have htk:=h.tk;have hly:=h.ly;have hst:=hO.st;have hop:=opF_lt f;have hnum:=hO.num;have hin:opF f≠0→f.pc<f.code.length:=opF_in hO.pc0;have hgp:=gas_pos hO.toOkF h;have hjp:=h.jp
 have mk:∀ n:Fr,n.code=f.code→n.inp=f.inp→n.er=f.er→n.gas=f.gas-gasV (opF f) f→n.mem.length≤4096→n.mem.length%32=0→n.st.length≤256→(∀ u∈n.st,u<W)→0≤n.pc→n.pc≤f.code.length+33→(n.sd=0→n.pc≤f.code.length+32)→(f.sd=0→n.sd=0→n.gas<f.gas∧n.out=f.out)→(f.sd=0→n.sd=0∨n.sd=1∨n.sd=2)→Nxt f n:=by
  intro n a1 a2 a3 a4 a5 a6 a7 a8 a9 a10 a11 a12 a13;exact⟨a1,a2,a3,a4,fun _=>⟨⟨by rw[a1];exact hO.code,by rw[a2];exact hO.inp,a7,a8,a5,a6,a9,by rw[a1];exact a10,by rw[a4];omega,by rw[a4];omega⟩,by rw[a1];exact a11⟩,a12,a13⟩
 have hdr:∀ k,∀ u∈f.st.drop k,u<W:=fun k u hu=>hnum u (mem_drop hu)
 have hcs:∀ u:Nat,∀ l:List Nat,u<W→(∀ x∈l,x<W)→∀ x∈u::l,x<W:=fun u l hu hl x hx=>by
  rcases List.mem_cons.1 hx with rfl|hx
  ·exact hu
  ·exact hl x hx
 have hpl:(paid f).mem.length≤4096:=hlen.1;have hpm:(paid f).mem.length%32=0:=hlen.2.1;have hpp:(paid f).pc=f.pc+1:=rfl;have hps:(paid f).st=f.st:=rfl;unfold nexV;refine doV_ind (Pr:=Nxt f) ?_ ?_ ?_ ?_ ?_ ?_ ?_ ?_ ?_ h.op hrd
 ·intro q;refine mk _ rfl rfl rfl rfl hpl hpm hst hnum ?_ ?_ (fun q=>by cases q) (fun _ q=>by cases q) (fun _=>.inr (.inl rfl))
  ·show(0:Int)≤f.pc+1;omega
  ·show f.pc+1≤f.code.length+33;have:=hp2 hz;omega
 ·intro r s o' q hr ho;have:=hin (by omega);refine mk _ rfl rfl rfl rfl hpl hpm ?_ ?_ ?_ ?_ ?_ ?_ ?_
  ·rw[hr,hps];simp;omega
  ·rw[hr,hps];exact hdr 2
  ·show(0:Int)≤f.pc+1;omega
  ·show f.pc+1≤f.code.length+33;omega
  ·intro z;have z:s=0:=z;omega
  ·intro _ z;have z:s=0:=z;omega
  ·intro _;show s=0∨s=1∨s=2;omega
 ·intro k st' q hst' p hp;have:=hin (by omega);have hpc:0≤p∧p≤f.code.length:=by
   rcases hp with⟨e,_⟩|⟨e,hj⟩
   ·rw[e,hpp];omega
   ·have:=dst_lt (hjp hj);have e:p=(tp f.st 0:Nat):=e;omega
  refine mk _ rfl rfl rfl rfl hpl hpm ?_ ?_ hpc.1 (by simp only[];omega) (fun _=>by simp only[];omega) ?_ ?_
  ·rw[hst',hps];simp;omega
  ·rw[hst',hps];exact hdr k
  ·intro _ _;have:=hgp (by omega) (by omega) (by omega);exact⟨by show f.gas-gasV (opF f) f<f.gas;omega,rfl⟩
  ·intro z;exact .inl z
 ·intro k m s n q hm;have:=hin (by omega);refine mk _ rfl rfl rfl rfl (by simp only[hm];rw[putV_len];exact hpl) (by simp only[hm];rw[putV_len];exact hpm) ?_ ?_ ?_ ?_ ?_ ?_ ?_
  ·simp only[hps];simp;omega
  ·simp only[hps];exact hdr k
  ·show(0:Int)≤f.pc+1;omega
  ·show f.pc+1≤f.code.length+33;omega
  ·intro _;show f.pc+1≤f.code.length+32;omega
  ·intro _ _;have:=hgp (by omega) (by omega) (by omega);exact⟨by show f.gas-gasV (opF f) f<f.gas;omega,rfl⟩
  ·intro z;exact .inl z
 ·intro u k hu q;have:=hin (by omega);refine mk _ rfl rfl rfl rfl hpl hpm ?_ ?_ ?_ ?_ ?_ ?_ ?_
  ·simp only[hps,List.length_cons,List.length_drop];rcases q with q|q
   ·have:=lays_lo ⟨opF f,q.2.1⟩ q.1 h.op;simp only[]at this;omega
   ·by_cases q9:128≤opF f
    ·have:=opP_dup q9 (by omega);omega
    ·have:=lays_of (n:=opF f) (l:=1) (by omega);omega
  ·simp only[hps];exact hcs u _ hu (hdr k)
  ·show(0:Int)≤f.pc+1;omega
  ·show f.pc+1≤f.code.length+33;omega
  ·intro _;show f.pc+1≤f.code.length+32;omega
  ·intro _ _;have:=hgp (by omega) (by omega) (by omega);exact⟨by show f.gas-gasV (opF f) f<f.gas;omega,rfl⟩
  ·intro z;exact .inl z
 ·intro q;have:=hin (by omega);refine mk _ rfl rfl rfl rfl hpl hpm ?_ ?_ ?_ ?_ ?_ ?_ ?_
  ·simp only[hps];simp;omega
  ·simp only[hps];exact hdr 1
  ·show(0:Int)≤f.pc+1;omega
  ·show f.pc+1≤f.code.length+33;omega
  ·intro _;show f.pc+1≤f.code.length+32;omega
  ·intro _ _;have:=hgp (by omega) (by omega) (by omega);exact⟨by show f.gas-gasV (opF f) f<f.gas;omega,rfl⟩
  ·intro z;exact .inl z
 ·intro q;have:=hin (by omega);refine mk _ rfl rfl rfl rfl hpl hpm hst hnum ?_ ?_ ?_ ?_ ?_
  ·show(0:Int)≤f.pc+1;omega
  ·show f.pc+1≤f.code.length+33;omega
  ·intro _;show f.pc+1≤f.code.length+32;omega
  ·intro _ _;have:=hgp (by omega) (by omega) (by omega);exact⟨by show f.gas-gasV (opF f) f<f.gas;omega,rfl⟩
  ·intro z;exact .inl z
 ·intro u k hu q1 q2 hk;have:=hin (by omega);have hl:=opP_push q1 (by omega);refine mk _ rfl rfl rfl rfl hpl hpm ?_ ?_ ?_ ?_ ?_ ?_ ?_
  ·simp only[hps,List.length_cons];omega
  ·simp only[hps];exact hcs u _ hu hnum
  ·show(0:Int)≤f.pc+1+k;omega
  ·show f.pc+1+k≤f.code.length+33;omega
  ·intro _;show f.pc+1+k≤f.code.length+32;omega
  ·intro _ _;have:=hgp (by omega) (by omega) (by omega);exact⟨by show f.gas-gasV (opF f) f<f.gas;omega,rfl⟩
  ·intro z;exact .inl z
 ·intro q1 q2;have:=hin (by omega);have hl:=opP_swap q1 (by omega);refine mk _ rfl rfl rfl rfl hpl hpm ?_ ?_ ?_ ?_ ?_ ?_ ?_
  ·simp only[hps];simp[swV];omega
  ·simp only[hps];intro u hu;exact hnum u (swV_mem (by omega) hu)
  ·show(0:Int)≤f.pc+1;omega
  ·show f.pc+1≤f.code.length+33;omega
  ·intro _;show f.pc+1≤f.code.length+32;omega
  ·intro _ _;have:=hgp (by omega) (by omega) (by omega);exact⟨by show f.gas-gasV (opF f) f<f.gas;omega,rfl⟩
  ·intro z;exact .inl z
def mu (f:Fr):Nat:=if f.sd≠0 then 0 else f.gas.toNat+1
theorem zcv{f:Fr}(h:f.sd≠0):∀ n,runN n f=f
 | 0=>rfl
 | n+1=>by unfold runN;rw[if_pos h]
theorem zco{f:Fr}(h:f.sd=0)(n:Nat):runN (n+1) f=runN n (stepV f):=by
 show(if f.sd≠0 then f else runN n (stepV f))=_;rw[if_neg (by simp[h])]
theorem stepV_ok{f:Fr}(h:f.sd=0)(he:vt f=0):stepV f=nexV f:=by unfold stepV;rw[if_neg (by simp[h]),if_pos he]
theorem stepV_bad{f:Fr}(h:f.sd=0)(he:vt f≠0):stepV f=wrgV f (vt f):=by unfold stepV;rw[if_neg (by simp[h]),if_neg he]
theorem mu_step{f:Fr}(hO:OkR f)(hz:f.sd=0)(he:vt f=0):mu (nexV f)<mu f:=by
 have hn:=nxt_of hO hz (fine_of he);have hok:=hn.ok hz;have h0:=hok.gas0;have h1:=hO.gas0;have e:mu f=f.gas.toNat+1:=by unfold mu;rw[if_neg (by simp[hz])]
 rw[e];unfold mu;split
 ·omega
 ·next z=>
  have:=(hn.go hz (Decidable.not_not.1 z)).1;omega
structure Alg (G:Int) (f:Fr):Prop where
 ok:f.sd≠3→OkR f
 gas0:0≤f.gas
 gas1:f.gas≤G
 sd:f.sd=0∨f.sd=1∨f.sd=2∨f.sd=3
 er:f.sd=3↔f.er≠0
 bad:f.sd=3→f.gas=0∧f.out=[]
 out:f.sd=0→f.out=[]
 st:f.st.length≤256
 num:∀ u∈f.st,u<W
theorem alg_step{G:Int}{f:Fr}(h:Alg G f)(hz:f.sd=0):Alg G (stepV f):=by
 have hO:=h.ok (by rw[hz];decide);have he0:f.er=0:=Decidable.byContradiction fun e=>by have:=h.er.2 e;rw[hz]at this;cases this
 have hg0:=h.gas0;have hg1:=h.gas1;by_cases he:vt f=0
 ·rw[stepV_ok hz he];have hf:=fine_of he;have hn:=nxt_of hO hz hf;have hok:=hn.ok hz;have hs:=hn.sd hz;have hgd:=gas_bd hO.toOkF hf.gr;have hn3:(nexV f).sd≠3:=by omega
  refine⟨fun _=>hok,hok.gas0,by rw[hn.gas];omega,by omega,⟨fun q=>absurd q hn3,fun q=>absurd (by rw[hn.er,he0]) q⟩,fun q=>absurd q hn3,fun q=>(hn.go hz q).2.trans (h.out hz),hok.st,hok.num⟩
 ·rw[stepV_bad hz he];exact⟨fun q=>absurd rfl q,Int.le_refl 0,Int.le_trans hg0 hg1,.inr (.inr (.inr rfl)),⟨fun _=>he,fun _=>rfl⟩,fun _=>⟨rfl,h.out hz⟩,fun q=>(by cases q),h.st,h.num⟩
theorem alg_run{G:Int}:∀(n:Nat) {f:Fr},Alg G f→Alg G (runN n f)
 | 0,f,h=>h
 | n+1,f,h=>by
  by_cases hz:f.sd=0
  ·rw[zco hz];exact alg_run n (alg_step h hz)
  ·rw[zcv hz];exact h
theorem runN_more:∀(n k:Nat) {f:Fr},(runN n f).sd≠0→runN (n+k) f=runN n f
 | 0,k,f,h=>by rw[Nat.zero_add];exact zcv h k
 | n+1,k,f,h=>by
  by_cases hz:f.sd=0
  ·rw[show n+1+k=(n+k)+1 by omega,zco hz,zco hz];rw[zco hz]at h;exact runN_more n k h
  ·rw[zcv hz,zcv hz]
def clampG (g:Int):Int:=if 100000<(if g<0 then 0 else g)then 100000 else(if g<0 then 0 else g)
theorem clampG_bd(g:Int):0≤clampG g∧clampG g≤100000:=by
 unfold clampG
 repeat' split
 all_goals omega
def beg (c i:List UInt8) (g:Int):Fr:=⟨c,i,[],[],0,clampG g,0,0,[]⟩
def runV (c i:List UInt8) (g:Int):Fr:=runN 100001 (beg c i g)
theorem beg_alg{c i:List UInt8}(hc:c.length≤65536)(hi:i.length≤65536)(g:Int):Alg (clampG g) (beg c i g):=by
 have hg:=clampG_bd g;exact⟨fun _=>⟨⟨hc,hi,by show(0:Nat)≤256;omega,fun u hu=>absurd hu List.not_mem_nil,by show(0:Nat)≤4096;omega,rfl,Int.le_refl 0,by show(0:Int)≤c.length+33;omega,hg.1,hg.2⟩,fun _=>by show(0:Int)≤c.length+32;omega⟩,hg.1,Int.le_refl _,.inl rfl,⟨fun q=>(by cases q),fun q=>absurd rfl q⟩,fun q=>(by cases q),fun _=>rfl,Nat.zero_le _,fun u hu=>absurd hu List.not_mem_nil⟩
theorem beg_mu(c i:List UInt8)(g:Int):mu (beg c i g)≤100001:=by
 have hg:=clampG_bd g;unfold mu;rw[if_neg (by intro h;exact h rfl)];show(clampG g).toNat+1≤100001;omega
def rest1:Code→Code
 | .seq _ y=>y
 | c=>c
theorem atEnd{P:Program}{Q:Exit→Act→World→Prop}{c:Cf}{a:Act}{w:World}{e:Exit}(h:Q e a w)(hd:c.dn=some e:=by kernel_rfl):At P Q c a w:=⟨by unfold AtD;rw[hd];exact h⟩
def tA {T : World → Prop} (s t : Nat) {x v : Value} (h : ∀ w, (Instr.typeAssert x s t true).run prog w = .ok v w) : Fa prog T := Sum.inr (Sum.inr
  { ok := fun | .typeAssert _ s' t' true => s' == s && t' == t | _ => false
    xs := #[x]
    v := v
    fr := true
    h := by
      intro a w oo _ hok hx
      cases hop : oo.op with
      | typeAssert y s' t' b =>
        rw [hop] at hok hx
        cases b with
        | false => simp at hok
        | true =>
          simp only [Bool.and_eq_true, beq_iff_eq] at hok
          obtain ⟨rfl, rfl⟩ := hok
          simp only [qx, List.map_cons, List.map_nil] at hx
          have hx1 : a.eval y = x := by simpa using hx
          unfold execOp
          simp only [hop, hx1, Sem.run_bind, h, Result.andThen_ok, Sem.run_pure]
      | _ => rw [hop] at hok; simp at hok })
section
variable {P:Program} {J:World→Prop} {F:Nat→Prop} {ds:List Deferred} {β:Nat→Nat} {c:Cf} {a:Act} {w:World} {Q:Exit→Act→World→Prop}
def dfQ (c:Cf):Option SV:=match kg c with
 | some o=>match o.op with
  | .defer { callee:=.value x,args:=xs,argTypes:=_ }=>if xs.isEmpty=true then evQ c.tm x else none
  | _=>none
 | none=>none
theorem dfrQ{f:Nat}{cap:Array Value}(I:SI J F ds β c a w)(k:∀ a',SI J F ({ target:=.fn (.func f) cap,args:=#[] }::ds) β (qt c (yt c) none) a' w→At P Q (qt c (yt c) none) a' w)(hc:dfQ c=some (Sum.inl (.func (.func f) #[] cap)):=by kernel_rfl):At P Q c a w:=by
 unfold dfQ at hc;split at hc
 ·next o ho=>
  split at hc
  ·next x xs ts hop=>
   split at hc
   ·next hf=>
    have hxe:xs=#[]:=by simpa using hf
    obtain⟨hd,⟨rest,hr⟩,hw⟩:=vg ho;refine zaz hd hr (vf I hw) ?_;have hrun:(execOp a.eval o).run P w=.ok (.defer { target:=.fn (.func f) cap,args:=#[] }) w:=by
     unfold execOp;simp[hop,hxe,resolve,xk I.fr hc,up,Deferred.ofValue]
    unfold Oper.wp;rw[hrun];have hk:=(k ({ a with defers:={ target:=.fn (.func f) cap,args:=#[] }::a.defers }.put o.dst undef) ?_).out
    ·unfold AtD at hk;simp only[qt,hd,yt,hr,List.tail_cons,List.head?_cons,Option.bind_some]at hk;exact hk
    ·have hdst:yt c=o.dst:=by simp[yt,hr]
     rw[hdst];refine⟨?_,?_,I.hJ,I.row,I.dis,I.lt,I.inj,zam I.ids _ (by intro i o h;cases h)⟩
     ·exact zc2 (a:={ a with defers:={ target:=.fn (.func f) cap,args:=#[] }::a.defers }) I.fr o.dst none
     ·rw[← I.df];cases o.dst<;>rfl
   ·cases hc
  ·cases hc
 ·cases hc
def cvlQ (c:Cf):Option SV:=match kg c with
 | some o=>match o.op with
  | .call { callee:=.value (.tmp t),args:=xs,argTypes:=_ }=>if xs.isEmpty=true then evQ c.tm (.tmp t)else none
  | _=>none
 | none=>none
theorem vcallB{f : Nat}{fn : Func}{fs cap : Array Value}(hf : P.funcs[f]? = some fn)(I : SI J F ds β c a w)(h : Calls P f (fs ++ cap) w (CallE P Q c a))(hc : cvlQ c = some (Sum.inl (.func (.func f) fs cap)) := by kernel_rfl)(hb : fn.body.isNone = false := by kernel_rfl)(hn : (fn.name == "runtime.NumGoroutine") = false := by kernel_rfl) : At P Q c a w := by
 unfold cvlQ at hc;split at hc
 ·next o ho=>
  split at hc
  ·next t xs ts hop=>
   split at hc
   ·next hfe=>
    have hxe:xs=#[]:=by simpa using hfe
    obtain⟨hd,⟨rest,hr⟩,hw⟩:=vg ho;refine zaz hd hr (vf I hw) ?_;have hcf:(callFunc f (fs++cap)).run P w=.ok (.enter f (fs++cap)) w:=by
     have h1 : ¬ fn.name = "runtime.NumGoroutine" := by simpa using hn
     have h2:¬ fn.body=none:=by intro h;rw[h]at hb;cases hb
     unfold callFunc;simp[go_sem,hf,h1,h2]
    have hrun:(execOp a.eval o).run P w=.ok (.enter f (fs++cap)) w:=by
     unfold execOp;simp only[hop,hxe,resolve,xk I.fr hc,up,Deferred.ofValue];simp[invoke,hcf]
    unfold Oper.wp;rw[hrun,Oper.upon_enter];refine h.mono fun e w' he=>?_;cases e with
    | returned v=>
     have he':At P Q (xp c v) (a.put (yt c) v) w':=he;replace he':=he'.out;unfold AtD at he';simp only[xp,qt,hd,yt,hr,List.tail_cons,List.head?_cons,Option.bind_some]at he';exact he'
    | panicked ch=>exact zdc he
    | outgrown=>exact he.elim
   ·cases hc
  ·cases hc
 ·cases hc
theorem inD{f:Nat}{fn:Func}{args:Array Value}{Rt:Ending→World→Prop}(hf:P.funcs[f]? = some fn)(hJ:J w)(k:∀ a,SI J F [] (fun _=>0) (cfF fn args) a w→At P (bodyPostD P fn Rt) (cfF fn args) a w)(hb:fn.body.isSome=true:=by kernel_rfl):Calls P f args w Rt:=by
 have hb':fn.body=some (fn.body.getD .skip):=by
  cases h:fn.body with
  | none=>rw[h]at hb;cases hb
  | some x=>rfl
 refine calls_of_wp_defers hf hb' (y7 (k _ ⟨?_,rfl,hJ,?_,?_,?_,?_,?_⟩))
 ·apply Array.ext';simp[begX,upO];exact(List.map_id _).symm
 ·intro p hp;cases hp
 ·intro p hp;cases hp
 ·intro p hp;cases hp
 ·intro p hp;cases hp
 ·simp[begX,qs]
end
theorem catch_panic(b g:Nat)(f:Fr)(v dv:Value)(op:Nat)(pa:Int)(e:Int)(w:World)(hb:zb w b #[zz g])(hbg:b≠g)(hr:zb w g (xg f v op pa dv)) :
  CallsD prog 104 #[zz b] (.panicking (PEr e)) w fun r u' w'=>r=.returned (.tuple #[])∧u'=.panicking [{ v:=.iface 134 (Z e),recovered:=true }]∧zb w' g (xg (wrgV f e) v op pa dv)∧zq (fun k=>k≠g∧k≠b) w w':=by
 have hgl:=hr.lt;refine callsD_of_wpS func104 rfl fun c₀ cs hu=>?_;apply wpS_seq;apply wpS_region;simp[wpOpsS,go_sem,recoverD,hu,ntmps104,Exit.thenS];refine wpS_of_wp (y7 (tm:=frm 28 [(0,Sum.inr (0,0)),(1,Sum.inl (.iface 134 (Z e))),(4,Sum.inl (.iface 134 (Z e)))]) (rows:=[(0,#[zz g])]) (nx:=1) ?_);have RR:∀ r,y8 (fun w':World=>zb w' g r∧zq (fun k=>k≠g∧k≠b) w w') (fun k=>k<w.heap.size∧k≠b):=fun r=>⟨fun x y hx gr=>⟨by
   obtain⟨t,ht⟩:=hx.1;exact⟨t,(gr.block g (zb.lt ⟨t,ht⟩) ⟨hgl,Ne.symm hbg⟩).trans ht⟩,⟨gr.os.trans hx.2.os,gr.tape.trans hx.2.tape,gr.output.trans hx.2.output,Nat.le_trans hx.2.size gr.size,fun k hk hn=>(gr.block k (Nat.lt_of_lt_of_le hk hx.2.size) ⟨hk,hn.2⟩).trans (hx.2.block k hk hn)⟩⟩,fun x k hx hk=>Nat.lt_of_lt_of_le hk.1 hx.2.size⟩
 have sg:∀(x:World) (r:Array Value),zq (fun k=>k≠g) x (x.setRow g r):=fun x r=>zao _ _ _ (fun h=>h rfl)
 have sto:∀{r r':Array Value} {c:Cf} {a:Act} {β:Nat→Nat} {x:World},SI (fun w':World=>zb w' g r∧zq (fun k=>k≠g∧k≠b) w w') (fun k=>k<w.heap.size∧k≠b) [] β c a x→SI (fun w':World=>zb w' g r'∧zq (fun k=>k≠g∧k≠b) w w') (fun k=>k<w.heap.size∧k≠b) [] β (qt c (yt c) none) (a.put (yt c) undef) (x.setRow g r'):=fun I=>I.sto ⟨(sg _ _).os,(sg _ _).tape,(sg _ _).output,(sg _ _).size,fun k hk hn=>(sg _ _).block k hk fun e=>hn (e ▸ ⟨hgl,Ne.symm hbg⟩)⟩ ⟨I.hJ.1.set_same _,zq.trans I.hJ.2 (zq.mono (sg _ _) fun k hk=>hk.1)⟩ (fun _ _ h=>h)
 have I:SI (fun w':World=>zb w' g (xg f v op pa dv)∧zq (fun k=>k≠g∧k≠b) w w') (fun k=>k<w.heap.size∧k≠b) [] (fun _=>b) (cfC (rest1 (Tryz.f104.body.getD .skip)) (frm 28 [(0,Sum.inr (0,0)),(1,Sum.inl (.iface 134 (Z e))),(4,Sum.inl (.iface 134 (Z e)))]) [(0,#[zz g])] 1) { tmps:=#[zz b]++((Array.replicate 27 undef).setIfInBounds 3 (.iface 134 (Z e))).setIfInBounds 0 (.iface 134 (Z e)),defers:=[] } w:=⟨by simp[frm,upO,up,List.range,List.range.loop,Array.replicate,List.replicate],rfl,⟨hr,zq.refl _ _⟩,by intro p hp;simp only[List.mem_singleton]at hp;subst hp;exact hb,by intro p hp h;exact h.2 rfl,by intro p hp;simp only[List.mem_singleton]at hp;subst hp;exact Nat.one_pos,by intro p hp q hq hpq;simp only[List.mem_singleton]at hp hq;subst hp;subst hq;exact absurd rfl hpq,by kernel_rfl⟩
 refine goQ [bO .eql 20 (p:=.iface 134 (Z e)) (q:=.nilIface) (v:=.bool false) (by intros;simp[go_sem]),tA 20 134 (x:=.iface 134 (Z e)) (v:=.tuple #[Z e,.bool true]) (by intro w;kernel_rfl),uO .not (p:=.bool true) (v:=.bool false) (by intros;rfl)] (RR _) I fun β1 A1 w1 I1 hb1=>?_;have hs1:=run_svA (P:=prog) 3 (off:=0+0+5) (v:=Z 0) I1.hJ.1 (by kernel_rfl) (Nat.le_of_ble_eq_true rfl) (by kernel_rfl);have e1:kh (xg f v op pa dv) (0+0+5) (Z 0).cells=xg { f with gas:=0 } v op pa dv:=by kernel_rfl
 rw[e1]at hs1;refine stoQ (ad:=⟨g,0+0+5,none⟩) (v:=Z 0) I1 hs1 ?_;refine goQ [] (RR _) (sto I1) fun β2 A2 w2 I2 hb2=>?_;have hs2:=run_svA (P:=prog) 3 (off:=0+0+6) (v:=Z 3) I2.hJ.1 (by kernel_rfl) (Nat.le_of_ble_eq_true rfl) (by kernel_rfl);have e2:kh (xg { f with gas:=0 } v op pa dv) (0+0+6) (Z 3).cells=xg { f with gas:=0,sd:=3 } v op pa dv:=by kernel_rfl
 rw[e2]at hs2;refine stoQ (ad:=⟨g,0+0+6,none⟩) (v:=Z 3) I2 hs2 ?_;refine goQ [] (RR _) (sto I2) fun β3 A3 w3 I3 hb3=>?_;have hs3:=run_svA (P:=prog) 33 (off:=0+0+7) (v:=Z e) I3.hJ.1 (by kernel_rfl) (Nat.le_of_ble_eq_true rfl) (by kernel_rfl);have e3:kh (xg { f with gas:=0,sd:=3 } v op pa dv) (0+0+7) (Z e).cells=xg (wrgV f e) v op pa dv:=by kernel_rfl
 rw[e3]at hs3;refine stoQ (ad:=⟨g,0+0+7,none⟩) (v:=Z e) I3 hs3 ?_;refine goQ [] (RR _) (sto I3) fun β4 A4 w4 I4 hb4=>?_;refine atEnd (e:=.normal) ?_;simp[bodyPostS,results,results104];exact⟨I4.df,I4.hJ.1,I4.hJ.2⟩
theorem catch_idle(g:Nat)(w:World) :
  CallsD prog 104 #[zz g] .returning w fun e u' w'=>e=.returned (.tuple #[])∧u'=.returning∧w'=w:=by
 refine callsD_of_wpS func104 rfl fun c₀ cs hu=>?_;apply wpS_seq;apply wpS_region;simp[wpOpsS,go_sem,recoverD,hu,ntmps104,Exit.thenS];apply wpS_seq;apply wpS_seq;apply wpS_region;simp[wpOpsS,go_sem,Exit.thenS];refine wpS_cond (t:=true) (by simp[Act.eval,Array.replicate]) ?_;simp only[if_true];refine wpS_of_wp (wp_ret ?_);cases c₀
 simp_all [Exit.thenS,bodyPostS,results,results104]
theorem put_defers(a:Act)(d:Option Tmp)(v:Value):(a.put d v).defers=a.defers:=by cases d<;>rfl
theorem at_fin{P:Program}{Q:Exit→Act→World→Prop}{c:Cf}{a:Act}{w:World}(h:Q .normal a w)(h1:c.dn=none:=by kernel_rfl)(h2:c.rest=[]:=by kernel_rfl)(h3:c.ks=[]:=by kernel_rfl):At P Q c a w:=⟨by unfold AtD;rw[h1,h2,h3];exact h⟩
def WorkP (g:Nat) (v dv:Value) (w:World) (fE:Fr) (e:Ending) (w':World):Prop:=∃ v' dv' f1 op' pa',MP g v dv w v' f1 op' pa' dv' w'∧((e=.returned TU0∧f1=fE)∨∃ er,e=.panicked (PEr er)∧wrgV f1 er=fE)
theorem catch_any{g : Nat}{v dv : Value}{w : World}{f : Fr}{op : Nat}{pa : Int}(h : MI g v f op pa dv w)(fE : Fr){fw : Nat}{Fw : Func}(hF : prog.funcs[fw]? = some Fw)(hB : Fw.body.isNone = false)(hN : (Fw.name == "runtime.NumGoroutine") = false)(fs cap : Array Value)(hw : ∀ w1, Below w.heap.size w w1 → MI g v f op pa dv w1 → Calls prog fw (fs ++ cap) w1 (WorkP g v dv w1 fE)) :
  Calls prog 76 #[zz g,.func (.func fw) fs cap] w fun e w'=>e=.returned TU0∧∃ v' dv' op' pa',MP g v dv w v' fE op' pa' dv' w':=by
 refine inD (J:=Below w.heap.size w) (F:=(· < w.heap.size)) func76 (Below.refl _ _) fun Az I=>?_;refine goZ [] I fun β1 A1 w1 I1 hb1=>?_;refine mkfX (fn:=.func 104) (ss:=[Sum.inr (0,0)]) I1 ?_;refine goZ [] (I1.same _) fun β2 A2 w2 I2 hb2=>?_;have hb20:β2 0=β1 0:=agr hb2 0 rfl;refine dfrQ (f:=104) (cap:=#[zz (β1 0)]) I2 fun A3 I3=>?_;refine goZ [] I3 fun β4 A4 w4 I4 hb4=>?_;have hb40:β4 0=β1 0:=agr hb4 0 hb20;refine inY I4 fun I5=>?_;refine goZ [] I5 fun β6 A6 w6 I6 hb6=>?_;have hb60:β6 0=β1 0:=agr hb6 0 hb40
 have hge:¬ (β6 0<w.heap.size):=I6.dis _ (yk (show xo _ 0=some #[zz g] by kernel_rfl));have hbox:=I6.rowAt 0 (r:=#[zz g]);rw[hb60]at hge hbox;have hmi:=h.below I6.hJ;have hgl:=h.c.lt;refine vcallB (fs:=fs) (cap:=cap) hF I6 ?_ (by kernel_rfl) hB hN;refine(hw w6 I6.hJ hmi).mono fun e w7 he=>?_;obtain⟨v',dv',f1,op',pa',hp,he⟩:=he;have hs0:MS w g v dv v f dv w6:=h.start.drew I6.hJ;have hs7:=hs0.trans hp.s;have hbown:v.ownBlock≠some (β1 0):=fun e=>by have:=(h.c.own.lt _ e).2;omega
 have hbx7:zb w7 (β1 0) #[zz g]:=by
  obtain⟨t,ht⟩:=hbox;exact⟨t,(hp.s.gr.block _ (zb.lt ⟨t,ht⟩) ⟨by omega,hbown⟩).trans ht⟩
 have hdf:A6.defers=[{ target:=.fn (.func 104) #[zz (β1 0)],args:=#[] }]:=I6.df;rcases he with⟨rfl,rfl⟩|⟨er,rfl,hwr⟩
 ·refine at_fin ?_;show Leaves prog Tryz.f76 (A6.put _ TU0).tmps _ (A6.put _ TU0).defers .returning w7;rw[put_defers,hdf];refine leaves_cons (f:=104) (args:=#[zz (β1 0)]) (by simp) (by simp[go_sem]) ?_;refine(catch_idle (β1 0) w7).mono ?_;rintro e u' w'' ⟨rfl,rfl,rfl⟩;exact⟨TU0,results_none rfl _ _ _,rfl,v',dv',op',pa',hp.row,hs7⟩
 ·show Leaves prog Tryz.f76 A6.tmps _ A6.defers (.panicking (PEr er)) w7;rw[hdf];refine leaves_cons (f:=104) (args:=#[zz (β1 0)]) (by simp) (by simp[go_sem]) ?_;refine(catch_panic (β1 0) g f1 v' dv' op' pa' er w7 hbx7 (by omega) hp.row).mono ?_;rintro e u' w8 ⟨rfl,rfl,hr8,hg8⟩;have hblt:=hbox.lt;have hg7:=h.c.hg;have hvb:v'.ownBlock≠some (β1 0):=fun e=>by
   rcases hp.s.nb _ e with h1|h1
   ·exact hbown h1
   ·omega
  have h7:∀ k,k<7→k≠g∧k≠β1 0:=fun k hk=>⟨by omega,by omega⟩
  have hdb:∀ k,dv'.ownBlock=some k→k≠g∧k≠β1 0:=fun k hk=>by
   rcases hp.s.c.ds with h1|⟨d,h1,h2,h3,h4⟩
   ·rw[h1]at hk;cases hk
   ·have e:d=k:=by rw[h1]at hk;exact Option.some.inj hk
    subst e;refine⟨by omega,?_⟩;rcases hp.s.db d (by rw[h1];rfl)with h5|h5
    ·rcases h.c.ds with h6|⟨d',h6,h7,_⟩
     ·rw[h6]at h5;cases h5
     ·have e:d'=d:=by rw[h6]at h5;exact Option.some.inj h5
      have:=(Array.getElem?_eq_some_iff.1 h7).1;omega
    ·omega
  have hsE:MS w g v dv v' fE dv' w8:=by
   refine⟨⟨?_,hp.s.c.tb.grow hg8 h7,hp.s.c.ts.grow hg8 h7,hg7,Nat.lt_of_lt_of_le hp.s.c.lt hg8.size,?_⟩,hgl,⟨hg8.os.trans hs7.gr.os,hg8.tape.trans hs7.gr.tape,hg8.output.trans hs7.gr.output,Nat.le_trans hs7.gr.size hg8.size,fun k hk hn=>(hg8.block k (Nat.lt_of_lt_of_le hk hs7.gr.size) ⟨hn.1,by omega⟩).trans (hs7.gr.block k hk hn)⟩,hs7.nb,hs7.db⟩
   ·have e:fE.st=f1.st:=by rw[← hwr];rfl
    rw[e];exact xh hp.s.c.own hg8 fun k hk=>⟨fun e=>by subst e;have:=(hp.s.c.own.lt k hk).1;omega,fun e=>hvb (e ▸ hk)⟩
   ·have e:fE.code=f1.code:=by rw[← hwr];rfl
    rw[e];exact hp.s.c.ds.grow hg8 hdb fun k hk=>.inl hk
  show Leaves prog Tryz.f76 A6.tmps _ [] .returning w8;exact⟨TU0,results_none rfl _ _ _,rfl,v',dv',op',pa',by rw[← hwr];exact hr8,hsE⟩
abbrev frV (f:Fr) (v:Value):Value:=.agg #[str f.code,str f.inp,v,str f.mem,Z f.pc,Z f.gas,Z f.sd,Z f.er,str f.out]
theorem mtold_any{g:Nat}{v:Value}{f:Fr}{op:Nat}{pa:Int}{dv:Value}{w:World}(h:MI g v f op pa dv w)(hl:f.st.length≤1000) :
  Calls prog 79 #[zz g] w fun e w'=>∃ ad cap,e=.returned (frV f (.slice ad f.st.length cap))∧MP g v dv w (.slice ad f.st.length cap) f op pa dv w':=by
 obtain⟨ad,cap,rfl⟩:=yo h.c.own;have hst:=h.start;have hrw:=h.row;have hnn:=h.c.not (wE:=w);by_cases hz:f.st.length=0
 ·have hnil:f.st=[]:=List.eq_nil_of_length_eq_zero hz;rw[hz]at hst hrw hnn;refine inG (J:=MS w g (.slice ad f.st.length cap) dv (.slice ad 0 cap) f dv) (F:=MF w g (.slice ad 0 cap) dv) [] func79 (hz ▸ hst) hrw hnn fun Az I=>?_;refine goM [lS underlying61 (ad:=ad) (n:=0) (cap:=cap) (z:=0) rfl,bO .eql 3 (y5 (x:=0) (y:=0) (b:=true) rfl)] I fun β1 A1 w1 I1 hb1=>?_;have hJ:=I1.hJ;refine zm (v:=frV f (.slice none 0 0)) I1 ⟨none,0,by rw[hz],?_,?_⟩
  ·rw[hz];exact I1.rowG 0 (agr hb1 0 rfl) (r:=xg f (.slice none 0 0) op pa dv)
  ·rw[hz];refine⟨⟨?_,hJ.c.tb,hJ.c.ts,hJ.c.hg,hJ.c.lt,?_⟩,hJ.lt,hz ▸ hJ.gr,fun k hk=>(by cases hk),hJ.db⟩
   ·rw[hnil];exact World.ownsRow_nil _ _ _ _
   ·rcases hJ.c.ds with h1|⟨d,h1,h2,h3,h4⟩
    ·exact .inl h1
    ·exact .inr ⟨d,h1,h2,h3,fun e=>by cases e⟩
 ·generalize hn:f.st.length=n at *;refine inG (J:=MS w g (.slice ad n cap) dv (.slice ad n cap) f dv) (F:=MF w g (.slice ad n cap) dv) [] func79 hst hrw hnn fun Az I=>?_;refine goM [lS underlying61 (ad:=ad) (n:=n) (cap:=cap) (z:=n) rfl,keF n 0] I fun β1 A1 w1 I1 hb1=>?_;exact zm (v:=frV f (.slice ad n cap)) I1 ⟨ad,cap,rfl,I1.mp (agr hb1 0 rfl)⟩
theorem loop_any{g:Nat}{v:Value}{f:Fr}{op:Nat}{pa:Int}{dv:Value}{w:World}(h:MI g v f op pa dv w)(hO:f.sd=0→OkR f)(n:Nat)(hm:mu f≤n):Calls prog 77 #[zz g] w (WorkP g v dv w (runN n f)):=by
 obtain⟨ad,cap,rfl⟩:=yo h.c.own;refine inG (J:=MS w g (.slice ad f.st.length cap) dv (.slice ad f.st.length cap) f dv) (F:=MF w g (.slice ad f.st.length cap) dv) [] func77 h.start h.row h.c.not fun Az I=>?_;refine goM [] I fun β0 A0 w0 I0 hb0=>?_
 let St:Nat→Act→World→Prop:=fun i a w'=>∃(f1:Fr) (ad1:Option Addr) (cap1:Nat) (dv1:Value) (op1:Nat) (pa1:Int) (β:Nat→Nat) (u:Nat→Value),i=mu f1∧(f1.sd=0→OkR f1)∧(∃ m,mu f1≤m∧runN m f1=runN n f)∧β 0=g ∧
  SI (MS w g (.slice ad f.st.length cap) dv (.slice ad1 f1.st.length cap1) f1 dv1) (MF w g (.slice ad1 f1.st.length cap1) dv1) [] β
   (cfC (zo Tryz.f77) (z6 (zv 6 [0]) u 0 (frm 6 [(0,Sum.inr (0,0))])) [(0,xg f1 (.slice ad1 f1.st.length cap1) op1 pa1 dv1)] 1) a w'
 refine lpM (zo Tryz.f77) St (mu f) ?_ ?_
 ·obtain⟨u,Iu⟩:=I0.scr (zo Tryz.f77) (zv 6 [0]) (frm 6 [(0,Sum.inr (0,0))]) [(0,xg f (.slice ad f.st.length cap) op pa dv)] 1;exact⟨f,ad,cap,dv,op,pa,β0,u,rfl,hO,⟨n,hm,rfl⟩,agr hb0 0 rfl,Iu⟩
 rintro i a3 w3 ⟨f1,ad1,cap1,dv1,op1,pa1,β3,u,rfl,hO1,⟨m,hm1,hrun⟩,hz3,I3⟩;refine y7 (tm:=z6 (zv 6 [0]) u 0 (frm 6 [(0,Sum.inr (0,0))])) (rows:=[(0,xg f1 (.slice ad1 f1.st.length cap1) op1 pa1 dv1)]) (nx:=1) ?_;by_cases hz:f1.sd=0
 ·have hO2:=hO1 hz;refine goM [bO .eql 3 (y5 (x:=f1.sd) (y:=0) (b:=true) (decide_eq_true hz))] I3 fun β4 A4 w4 I4 hb4=>?_;have hz4:β4 0=g:=agr hb4 0 hz3;have hmi:=I4.mi (op:=op1) (pa:=pa1) hz4;obtain⟨m',rfl⟩:∃ m',m=m'+1:=by
   cases m with
   | zero=>unfold mu at hm1;rw[if_neg (by simp[hz])]at hm1;omega
   | succ m'=>exact⟨m',rfl⟩
  rw[zco hz]at hrun;refine kl [Sum.inr (0,0)] func78 I4 ?_;have ea:([Sum.inr (0,0)].map (up β4)).toArray=#[zz g]:=by rw[← hz4];rfl
  rw[ea];refine(step_any hO2 hmi).mono fun e w5 he=>?_;obtain⟨v2,dv2,⟨he0,rfl,hp⟩ | ⟨he0,rfl,hp⟩⟩:=he
  ·obtain⟨ad2,cap2,rfl⟩:=yo hp.s.c.own;rw[stepV_ok hz he0]at hrun;have hmu:=mu_step hO2 hz he0;have hok:=(nxt_of hO2 hz (fine_of he0)).ok hz;generalize nexV f1=f2 at *;refine(at_row (id:=0) (r:=xg f2 (.slice ad2 f2.st.length cap2) (opF f1) f1.pc dv2)).1 ?_;have I5:=I4.mth hz4 hp TU0 (r0:=xg f1 (.slice ad1 f1.st.length cap1) op1 pa1 dv1) (by kernel_rfl);generalize opF f1=op2,f1.pc=pa2 at *;refine goM [] I5 fun β6 A6 w6 I6 hb6=>?_;obtain⟨u',Iu⟩:=I6.scr (zo Tryz.f77) (zv 6 [0]) (frm 6 [(0,Sum.inr (0,0))]) [(0,xg f2 (.slice ad2 f2.st.length cap2) op2 pa2 dv2)] 1
   exact kn ⟨mu f2,hmu,f2,ad2,cap2,dv2,op2,pa2,β6,u',rfl,fun _=>hok,⟨m',by omega,hrun⟩,agr hb6 0 hz4,Iu⟩
  ·rw[stepV_bad hz he0,zcv (show(wrgV f1 (vt f1)).sd≠0 by show(3:Int)≠0;decide)]at hrun;exact zdc ⟨I4.df,v2,dv2,f1,opF f1,f1.pc,⟨hp.row,I4.hJ.trans hp.s⟩,.inr ⟨vt f1,rfl,hrun⟩⟩
 ·refine goM [bO .eql 3 (y5 (x:=f1.sd) (y:=0) (b:=false) (decide_eq_false hz))] I3 fun β4 A4 w4 I4 hb4=>?_;have hz4:β4 0=g:=agr hb4 0 hz3;rw[zcv hz]at hrun;refine kz 0 ?_;refine goM [] (I4.exit _) fun β5 A5 w5 I5 hb5=>?_;exact x9 I5 ⟨_,_,f1,op1,pa1,I5.mp (agr hb5 0 hz4),.inl ⟨rfl,hrun⟩⟩
structure RJ (w0:World) (g:Nat) (v:Value) (f:Fr) (dv:Value) (w:World):Prop where
 bw:Below w0.heap.size w0 w
 c:MC g v f dv w
 hge:w0.heap.size≤g
def RjF (w0:World) (v dv:Value) (k:Nat):Prop:=k<w0.heap.size∨v.ownBlock=some k∨dv.ownBlock=some k
theorem RJ.rs(w0:World)(h7:7≤w0.heap.size)(g:Nat)(v:Value)(f:Fr)(dv:Value):y8 (RJ w0 g v f dv) (RjF w0 v dv):=by
 refine⟨fun w w' h gr=>?_,fun w k h hk=>?_⟩
 ·have q7:∀ k,k<7→RjF w0 v dv k:=fun k hk=>.inl (by omega)
  exact⟨⟨gr.os.trans h.bw.os,gr.tape.trans h.bw.tape,gr.output.trans h.bw.output,Nat.le_trans h.bw.size gr.size,fun k hk=>(gr.block k (Nat.lt_of_lt_of_le hk h.bw.size) (.inl hk)).trans (h.bw.block k hk)⟩,⟨xh h.c.own gr fun k hk=>.inr (.inl hk),h.c.tb.grow gr q7,h.c.ts.grow gr q7,h.c.hg,Nat.lt_of_lt_of_le h.c.lt gr.size,h.c.ds.grow gr (fun k hk=>.inr (.inr hk)) fun k hk=>.inl hk⟩,h.hge⟩
 ·rcases hk with hk|hk|hk
  ·exact Nat.lt_of_lt_of_le hk h.bw.size
  ·exact(h.c.own.lt k hk).2
  ·rcases h.c.ds with h1|⟨d,rfl,h2,_⟩
   ·rw[h1]at hk;cases hk
   ·have e:d=k:=Option.some.inj hk;subst e;exact(Array.getElem?_eq_some_iff.1 h2).1
theorem own_base{w:World}{b b' e s:Nat}{v:Value}{n:Nat}{xs:List Value}(h:w.ownsRow b e s v n xs)(hb:b'≤b):w.ownsRow b' e s v n xs:=by
 refine⟨h.1,h.2.imp id ?_⟩;rintro⟨g,cap,cur,a1,a2,a3⟩;exact⟨g,cap,cur,a1,Nat.le_trans hb a2,a3⟩
theorem RJ.mp{w0:World}{g:Nat}{v dv v' dv':Value}{f f':Fr}{op':Nat}{pa':Int}{w w':World}(h:RJ w0 g v f dv w)(hp:MP g v dv w v' f' op' pa' dv' w'):RJ w0 g v' f' dv' w':=by
 refine⟨⟨hp.s.gr.os.trans h.bw.os,hp.s.gr.tape.trans h.bw.tape,hp.s.gr.output.trans h.bw.output,Nat.le_trans h.bw.size hp.s.gr.size,fun k hk=>(hp.s.gr.block k (Nat.lt_of_lt_of_le hk h.bw.size) ⟨?_,fun e=>?_⟩).trans (h.bw.block k hk)⟩,hp.s.c,h.hge⟩
 ·have:=h.hge;omega
 ·have:=(h.c.own.lt k e).1;have:=h.hge;omega
theorem SI.rj{w0:World}{g id:Nat}{v dv v' dv':Value}{f f':Fr}{op':Nat}{pa':Int}{w w':World}{ds:List Deferred}{β:Nat→Nat}{c:Cf}{a:Act}{r0:Array Value}(I:SI (RJ w0 g v f dv) (RjF w0 v dv) ds β c a w)(hb:β id=g)(hp:MP g v dv w v' f' op' pa' dv' w')(x:Value)(hid:xo c.rows id=some r0) :
  SI (RJ w0 g v' f' dv') (RjF w0 v' dv') ds β (rowQ (xp c x) id (xg f' v' op' pa' dv')) (a.put (yt c) x) w':=by
 refine I.rowed hid ⟨hp.s.gr.os,hp.s.gr.tape,hp.s.gr.output,hp.s.gr.size,fun k hk hn=>hp.s.gr.block k hk ⟨by rw[hb]at hn;exact hn.2,fun e=>hn.1 (.inr (.inl e))⟩⟩ (by rw[hb];exact hp.row) (I.hJ.mp hp) (fun k hk h=>?_) x;rcases h with h | h | h
 ·exact .inl h
 ·rcases hp.s.nb k h with h1|h1
  ·exact .inr (.inl h1)
  ·omega
 ·rcases hp.s.db k h with h1|h1
  ·exact .inr (.inr h1)
  ·omega
theorem bd63(c i:List UInt8)(p:Int)(w:World):(Instr.build 63 (([0,1,5]:List Nat).zip [str c,str i,Z p]).toArray).run prog w=.ok (.agg #[str c,str i,.slice none 0 0,str [],Z 0,Z p,Z 0,Z 0,str []]) w:=by kernel_rfl
theorem bd102(c i m o:List UInt8)(v:Value)(p q r s:Int)(w:World):(Instr.build 102 (([0]:List Nat).zip [.agg #[str c,str i,v,str m,Z p,Z q,Z r,Z s,str o]]).toArray).run prog w=.ok (.agg #[str c,str i,v,str m,Z p,Z q,Z r,Z s,str o,b8 0,Z 0,.slice none 0 0]) w:=by kernel_rfl
def FrO (w:World) (f:Fr) (x:Value) (w':World):Prop:=∃ ad cap,x=frV f (.slice ad f.st.length cap)∧w'.ownsRow w.heap.size 45 4 (.slice ad f.st.length cap) f.st.length (sC f.st)∧Below w.heap.size w w'
theorem run_any(c i:List UInt8)(hc:c.length≤65536)(hi:i.length≤65536)(gas:Int)(w:World)(hb:Tb w)(hs:Tabs w ki):Calls prog 51 #[str c,str i,Z gas] w fun e w'=>∃ x,e=.returned x∧FrO w (runV c i gas) x w':=by
 have h7:7≤w.heap.size:=by
  obtain⟨t,fr,h⟩:=hs.p;exact(Array.getElem?_eq_some_iff.1 h).1
 have hal:=beg_alg hc hi gas;have hmu:=beg_mu c i gas;have hend:=alg_run 100001 hal;have hlen:(runV c i gas).st.length≤1000:=Nat.le_trans hend.st (by decide);obtain⟨m,hm⟩:∃ m:Int,(if gas<0 then(0:Int)else gas)=m:=⟨_,rfl⟩
 obtain⟨p,hp⟩:∃ p:Int,(if 100000<m then(100000:Int)else m)=p:=⟨_,rfl⟩
 have hcl:clampG gas=p:=by unfold clampG;rw[hm,hp]
 have hbg:beg c i gas=⟨c,i,[],[],0,p,0,0,[]⟩:=by unfold beg;rw[hcl]
 have hrv:runV c i gas=runN 100001 (beg c i gas):=rfl;rw[hbg]at hal hmu hrv;rw[hrv]at hlen ⊢;generalize hfE:runN 100001 ⟨c,i,[],[],0,p,0,0,[]⟩=fE at *;refine inZ func51 fun Az I=>?_;refine goZ [mxO (k:=.i64) (x:=gas) (y:=0) (z:=m) hm,mnO (x:=m) (y:=100000) (z:=p) hp,dO 63 [0,1,5] (bd63 c i p),dO 102 [0] (bd102 c i [] [] (.slice none 0 0) 0 p 0 0)] I fun β1 A1 w1 I1 hb1=>?_;refine mkfX (fn:=.func 77) (ss:=[Sum.inr (1,0)]) I1 ?_;refine goZ [] (I1.same (.func (.func 77) #[] #[zz (β1 1)])) fun β2 A2 w2 I2 hb2=>?_;obtain⟨g,hg⟩:∃ g,β1 1=g:=⟨_,rfl⟩
 have hz2:β2 1=g:=agr hb2 1 hg;have hge:¬ (β2 1<w.heap.size):=I2.dis _ (yk (show xo _ 1=some (xg ⟨c,i,[],[],0,p,0,0,[]⟩ (.slice none 0 0) 0 0 (.slice none 0 0)) by kernel_rfl));have hrow:=I2.rowG 1 hz2 (r:=xg ⟨c,i,[],[],0,p,0,0,[]⟩ (.slice none 0 0) 0 0 (.slice none 0 0));rw[hz2]at hge;have hmi:MI g (.slice none 0 0) ⟨c,i,[],[],0,p,0,0,[]⟩ 0 0 (.slice none 0 0) w2:=⟨hrow,World.ownsRow_nil _ _ _ _,hb.below I2.hJ,hs.below I2.hJ,by omega,hrow.lt,.inl rfl⟩
 have hcat:=catch_any hmi fE func77 (by kernel_rfl) (by kernel_rfl) #[] #[zz g] fun w3 hb3 hmi3=>by
  have:=loop_any hmi3 (fun _=>hal.ok (by show(0:Int)≠3;decide)) 100001 hmu;rw[hfE]at this;exact this
 have I2':SI (RJ w g (.slice none 0 0) ⟨c,i,[],[],0,p,0,0,[]⟩ (.slice none 0 0)) (RjF w (.slice none 0 0) (.slice none 0 0)) [] β2 _ A2 w2:=⟨I2.fr,I2.df,⟨I2.hJ,hmi.c,by omega⟩,I2.row,fun q hq h=>I2.dis q hq (by
  rcases h with h|h|h
  ·exact h
  ·cases h
  ·cases h),I2.lt,I2.inj,I2.ids⟩
 refine kl [Sum.inr (1,0),Sum.inl (.func (.func 77) #[] #[zz (β1 1)])] func76 I2' ?_;have ea:([Sum.inr (1,0),Sum.inl (.func (.func 77) #[] #[zz (β1 1)])].map (up β2)).toArray=#[zz g,.func (.func 77) #[] #[zz g]]:=by
  rw[hg];simp only[List.map_cons,List.map_nil,up];rw[hz2]
 rw[ea];refine hcat.mono fun e w3 he=>?_;obtain⟨rfl,v3,dv3,op3,pa3,hp3⟩:=he;obtain⟨ad3,cap3,rfl⟩:=yo hp3.s.c.own;refine(at_row (id:=1) (r:=xg fE (.slice ad3 fE.st.length cap3) op3 pa3 dv3)).1 ?_;have I3:=I2'.rj hz2 hp3 TU0 (r0:=xg ⟨c,i,[],[],0,p,0,0,[]⟩ (.slice none 0 0) 0 0 (.slice none 0 0)) (by kernel_rfl);refine goQ [] (RJ.rs w h7 _ _ _ _) I3 fun β4 A4 w4 I4 hb4=>?_;have hz4:β4 1=g:=agr hb4 1 hz2;have hmi4:MI g (.slice ad3 fE.st.length cap3) fE op3 pa3 dv3 w4:=⟨I4.rowG 1 hz4,I4.hJ.c⟩
 refine kl [Sum.inr (1,0)] func79 I4 ?_;have eb:([Sum.inr (1,0)].map (up β4)).toArray=#[zz g]:=by rw[← hz4];rfl
 rw[eb];refine(mtold_any hmi4 hlen).mono fun e w5 he=>?_;obtain⟨ad5,cap5,rfl,hp5⟩:=he;refine(at_row (id:=1) (r:=xg fE (.slice ad5 fE.st.length cap5) op3 pa3 dv3)).1 ?_;have I5:=I4.rj hz4 hp5 (frV fE (.slice ad5 fE.st.length cap5)) (r0:=xg fE (.slice ad3 fE.st.length cap3) op3 pa3 dv3) (by kernel_rfl);refine goQ [] (RJ.rs w h7 _ _ _ _) I5 fun β6 A6 w6 I6 hb6=>?_;exact zm (v:=frV fE (.slice ad5 fE.st.length cap5)) I6 ⟨_,rfl,ad5,cap5,rfl,own_base I6.hJ.c.own (by omega),I6.hJ.bw⟩
end Go.Proofs.YthkpgfbjdabflaaGreatDoor
