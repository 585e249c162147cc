/- Laid one behind the other: Vi, Vj, Vk. -/
import Derived.Test.YthkpgfbjdabflaaGreatDoorKkVh
import Derived.Test.YthkpgfbjdabflaaGreatDoorKkGm
namespace Go.Proofs.YthkpgfbjdabflaaGreatDoor
open Go.RowKit Go.Sort Tryz
set_option linter.unusedVariables false
set_option maxRecDepth 100000
set_option maxHeartbeats 4000000
section
variable {P:Program} {J:World→Prop} {F:Nat→Prop} {ds:List Deferred} {β:Nat→Nat} {c:Cf} {a:Act} {w:World} {Q:Exit→Act→World→Prop}
def pnQ (c:Cf):Option SV:=match kg c with
 | some o=>match o.op with
  | .panic x=>evQ c.tm x
  | _=>none
 | none=>none
theorem panQ{t:TypeId}{v:Value}(I:SI J F ds β c a w)(k:Q (.panic [{ v:=.iface t v,recovered:=false }]) a w)(hc:pnQ c=some (Sum.inl (.iface t v)):=by kernel_rfl):At P Q c a w:=by
 unfold pnQ at hc;split at hc
 ·next o ho=>
  split at hc
  ·next x hop=>
   obtain⟨hd,⟨rest,hr⟩,hw⟩:=vg ho;refine zaz hd hr (vf I hw) ?_;have hrun:(execOp a.eval o).run P w=.halt (.panic (.iface t v)) w:=by
    unfold execOp;simp only[hop,xk I.fr hc,up,Instr.panic];rfl
   unfold Oper.wp;rw[hrun];exact zdc k
  ·cases hc
 ·cases hc
theorem throwX{f : Nat}{fn : Func}(ss : List SV)(hf : P.funcs[f]? = some fn)(I : SI J F ds β c a w){ch : List PanicEntry}(post : World → Prop)(hcall : Calls P f (ss.map (up β)).toArray w fun e w' => e = .panicked ch ∧ post w')(k : ∀ w', post w' → Q (.panic ch) a w')(hc : callX c = some (f, ss) := by kernel_rfl)(hbd : fn.body.isNone = false := by kernel_rfl)(hn : (fn.name == "runtime.NumGoroutine") = false := by kernel_rfl) : At P Q c a w := by
 refine kl ss hf I (hcall.mono fun e w1 he=>?_) hc hbd hn;obtain⟨rfl,hp⟩:=he;exact k w1 hp
end
def mI {T : World → Prop} (t : Nat) {d : TypeDesc} (hu : prog.underlying t = some d) (hd : (match d with | .interface _ => false | _ => true) = true) {x : Value} : Fa prog T := Sum.inr (Sum.inr
  { ok := fun | .makeInterface t' _ => t' == t | _ => false
    xs := #[x]
    v := .iface t x
    fr := true
    h := by
      intro a w oo _ hok hx
      cases hop : oo.op with
      | makeInterface t' y =>
        rw [hop] at hok hx
        simp only [beq_iff_eq] at hok
        subst hok
        simp only [qx, List.map_cons, List.map_nil] at hx
        have hx1 : a.eval y = x := by simpa using hx
        unfold execOp
        simp only [hop, hx1, Instr.makeInterface, Sem.run_bind, run_underlying hu, Result.andThen_ok]
        cases d <;> first | (simp at hd; done) | rfl
      | _ => rw [hop] at hok; simp at hok })
abbrev PEr (e:Int):List PanicEntry:=[{ v:=.iface 134 (Z e),recovered:=false }]
theorem ask_t(e:Int)(w:World):Calls prog 107 #[.bool true,Z e] w fun r w'=>r=.returned TU0∧Below w.heap.size w w':=by
 refine inZ func107 fun a I=>?_;refine goZ [uO .not (p:=.bool true) (v:=.bool false) (by intros;rfl)] I fun β a w1 I hb=>?_;exact x9 I ⟨rfl,I.hJ⟩
theorem ask_f(e:Int)(w:World):Calls prog 107 #[.bool false,Z e] w fun r w'=>r=.panicked (PEr e)∧Below w.heap.size w w':=by
 refine inZ func107 fun a I=>?_;refine goZ [uO .not (p:=.bool false) (v:=.bool true) (by intros;rfl),mI 134 underlying134 rfl (x:=Z e)] I fun β a w1 I hb=>?_;exact panQ I ⟨I.df,rfl,I.hJ⟩
theorem MC.below{g:Nat}{v dv:Value}{f:Fr}{w w':World}(h:MC g v f dv w)(hb:Below w.heap.size w w'):MC g v f dv w':=h.moved (zq.of_below hb) (xh h.own (zq.of_below (F:=fun _=>True) hb) fun _ _=>trivial) (fun k hk=>.inl hk) rfl
theorem MI.below{g:Nat}{v dv:Value}{f:Fr}{op:Nat}{pa:Int}{w w':World}(h:MI g v f op pa dv w)(hb:Below w.heap.size w w'):MI g v f op pa dv w':=⟨h.row.below hb,h.c.below hb⟩
def eqF {T:World→Prop} (n j:Nat) (h:n=j):Fa prog T:=jeT n j
def neF {T:World→Prop} (n j:Nat) (h:n≠j):Fa prog T:=jeF n j
section
variable {g:Nat} {v:Value} {f:Fr} {op:Nat} {pa:Int} {dv:Value} {w:World}
theorem ld_op:∀ w',MI g v f op pa dv w'→(loadVar 5 ⟨g,0+9,none⟩).run prog w'=.ok (b8 op) w':=fun w' h=>run_lv h.row (by kernel_rfl)
theorem ld_pc:∀ w',MI g v f op pa dv w'→(loadVar 3 ⟨g,0+0+4,none⟩).run prog w'=.ok (Z f.pc) w':=fun w' h=>run_lv h.row (by kernel_rfl)
theorem ld_code:∀ w',MI g v f op pa dv w'→(loadVar 9 ⟨g,0+0+0,none⟩).run prog w'=.ok (str f.code) w':=fun w' h=>run_lv h.row (by kernel_rfl)
theorem ld_mem:∀ w',MI g v f op pa dv w'→(loadVar 9 ⟨g,0+0+3,none⟩).run prog w'=.ok (str f.mem) w':=fun w' h=>run_lv h.row (by kernel_rfl)
theorem ld_st:∀ w',MI g v f op pa dv w'→(loadVar 61 ⟨g,0+0+2,none⟩).run prog w'=.ok v w':=fun w' h=>run_lv h.row (by kernel_rfl)
theorem next_any(h:MI g v f op pa dv w)(h0:0≤f.pc)(hc:f.code.length≤1000000):Calls prog 105 #[zz g] w fun e w'=>e=.returned (b8 (opF f))∧Below w.heap.size w w':=by
 obtain⟨p,hp⟩:∃ p:Nat,f.pc=p:=⟨f.pc.toNat,(Int.toNat_of_nonneg h0).symm⟩
 have hT:∀ w',Below w.heap.size w w'→MI g v f op pa dv w':=fun w' hb=>h.below hb
 have hpc:=ld_pc (g:=g) (v:=v) (f:=f) (op:=op) (pa:=pa) (dv:=dv);have hcd:=ld_code (g:=g) (v:=v) (f:=f) (op:=op) (pa:=pa) (dv:=dv);rw[hp]at hpc;have ho:opF f=match f.code[p]? with | some b=>b.toNat | none=>0:=by unfold opF;rw[if_neg (by omega),hp,Int.toNat_natCast];rfl
 rw[ho];refine inZ func105 fun a I=>?_;refine goT (T:=MI g v f op pa dv) [ldA 3 hpc,klF p 0] (zd w) hT I fun β1 a1 w1 I1 hb1=>?_;rcases Nat.lt_or_ge p f.code.length with hl | hl
 ·obtain⟨b,hb⟩:∃ b,f.code[p]? = some b:=⟨_,List.getElem?_eq_getElem hl⟩
  rw[hb];refine dwT (T:=MI g v f op pa dv) 13 [ldA 3 hpc,ldA 9 hcd,lnO f.code,khF p f.code.length] (zd w) hT zk.post I1 fun a2 w2 I2=>?_;refine goZ [] I2 fun β3 a3 w3 I3 hb3=>?_;refine dwT (T:=MI g v f op pa dv) 12 [ldA 9 hcd,ldA 3 hpc,iO 9 (p:=str f.code) (i:=Z p) (v:=b8 b.toNat) (idx_run hb)] (zd w) hT zk.post I3 fun a4 w4 I4=>?_;refine goZ [] I4 fun β5 a5 w5 I5 hb5=>?_;exact ye (v:=b8 b.toNat) I5
 ·rw[List.getElem?_eq_none hl];refine dwT (T:=MI g v f op pa dv) 13 [ldA 3 hpc,ldA 9 hcd,lnO f.code,khT p f.code.length] (zd w) hT zk.post I1 fun a2 w2 I2=>?_;refine goZ [] I2 fun β3 a3 w3 I3 hb3=>?_;exact ye (v:=b8 0) I3
theorem opP_bd{n:Nat}(h:n<256):(opP n).2.1≤20∧(opP n).2.2.1≤20∧(opP n).2.2.2≤100:=by
 have:∀ k:Fin 256,(opP k.val).2.1≤20∧(opP k.val).2.2.1≤20∧(opP k.val).2.2.2≤100:=by decide +kernel
 exact this ⟨n,h⟩
theorem stk_any(h:MI g v f op pa dv w)(ho:op<256)(hl:f.st.length≤1000):Calls prog 108 #[zz g] w fun e w'=>e=(if f.st.length<(opP op).2.1∨256<f.st.length-(opP op).2.1+(opP op).2.2.1 then .panicked (PEr 19)else .returned TU0)∧Below w.heap.size w w':=by
 obtain⟨ad,cap,rfl⟩:=yo h.c.own;have hT:∀ w',Below w.heap.size w w'→MI g (.slice ad f.st.length cap) f op pa dv w':=fun w' hb=>h.below hb
 have hop:=ld_op (g:=g) (v:=.slice ad f.st.length cap) (f:=f) (op:=op) (pa:=pa) (dv:=dv);have hst:=ld_st (g:=g) (v:=.slice ad f.st.length cap) (f:=f) (op:=op) (pa:=pa) (dv:=dv);have htk:=fun w' (h:MI g (.slice ad f.st.length cap) f op pa dv w')=>takes_any h.c.tb op ho
 obtain⟨b1,b2,_⟩:=opP_bd ho;generalize (opP op).2.1=t,(opP op).2.2.1=l,f.st.length=n at *;refine inZ func108 fun a I=>?_;refine goT (T:=MI g (.slice ad n cap) f op pa dv) [ldA 5 hop,cA func140 htk,ldA 61 hst,lS underlying61 (ad:=ad) (n:=n) (cap:=cap) (z:=n) rfl,ksZ n t ((n:Int)-t)] (zd w) hT I fun β1 a1 w1 I1 hb1=>?_;by_cases h1:n<t
 ·rw[if_pos (.inl h1)];refine goZ [khF ((n:Int)-t) 0] I1 fun β2 a2 w2 I2 hb2=>?_;exact throwX [Sum.inl (.bool false),Sum.inl (Z 19)] func107 I2 (Below w2.heap.size w2) (ask_f 19 w2) fun w3 h3=>⟨I2.df,rfl,I2.hJ.trans (h3.mono I2.hJ.size)⟩
 by_cases h2:256<n-t+l
 ·rw[if_pos (.inr h2)];refine goZ [khT ((n:Int)-t) 0,kaZ ((n:Int)-t) l ((n:Int)-t+l),kmF ((n:Int)-t+l) 256] I1 fun β2 a2 w2 I2 hb2=>?_;exact throwX [Sum.inl (.bool false),Sum.inl (Z 19)] func107 I2 (Below w2.heap.size w2) (ask_f 19 w2) fun w3 h3=>⟨I2.df,rfl,I2.hJ.trans (h3.mono I2.hJ.size)⟩
 ·rw[if_neg (by omega)];refine goZ [khT ((n:Int)-t) 0,kaZ ((n:Int)-t) l ((n:Int)-t+l),kmT ((n:Int)-t+l) 256,kC func107 (ask_t 19)] I1 fun β2 a2 w2 I2 hb2=>?_;exact x9 I2 ⟨rfl,I2.hJ⟩
theorem zbk{n k:Nat}(h:n=32∧k=2∨n=243∧k=2∨n=253∧k=2∨n=55∧k=3∨n=57∧k=3∨n=81∧k=1∨n=82∧k=2∨n=83∧k=2∨n=10∧k=2∨n=86∧k=1∨n=87∧k=2):(opP n).2.1=k:=by
 rcases h with⟨rfl,rfl⟩|⟨rfl,rfl⟩|⟨rfl,rfl⟩|⟨rfl,rfl⟩|⟨rfl,rfl⟩|⟨rfl,rfl⟩|⟨rfl,rfl⟩|⟨rfl,rfl⟩|⟨rfl,rfl⟩|⟨rfl,rfl⟩|⟨rfl,rfl⟩<;>decide +kernel
theorem reach_any(h:MI g v f op pa dv w)(ho:op<256)(hl:f.st.length≤1000)(ht:(opP op).2.1≤f.st.length):Calls prog 141 #[zz g] w fun e w'=>e=.returned (.tuple #[U (xf op f.st).1,U (xf op f.st).2])∧Below w.heap.size w w':=by
 have hT:∀ w',Below w.heap.size w w'→MI g v f op pa dv w':=fun w' hb=>h.below hb
 have hop:=ld_op (g:=g) (v:=v) (f:=f) (op:=op) (pa:=pa) (dv:=dv);have htop:∀ k,k<f.st.length→∀ w',MI g v f op pa dv w'→Calls prog 114 #[zz g,Z k] w' fun e w''=>e=.returned (U (tp f.st k))∧Below w'.heap.size w' w'':=fun k hk w' h=>zck h k hk hl
 refine inZ func141 fun a I=>?_;unfold xf;by_cases h1:op=32
 ·rw[if_pos (by omega)];have hk:=zbk (n:=op) (k:=2) (by omega);have h0:=htop 0 (by omega);have h2:=htop 1 (by omega);simp only[];generalize tp f.st 0=x,tp f.st 1=y at *;unfold U at *;generalize l0 x=x0,l1 x=x1,l2 x=x2,l3 x=x3,l0 y=y0,l1 y=y1,l2 y=y2,l3 y=y3 at *;refine goT (T:=MI g v f op pa dv) [ldA 5 hop,eqF op 32 h1,cA func114 h0,cA func114 h2] (zd w) hT I fun β1 a1 w1 I1 hb1=>?_;exact ye (v:=.tuple #[U4 x0 x1 x2 x3,U4 y0 y1 y2 y3]) I1
 by_cases h1:op=243
 ·rw[if_pos (by omega)];have hk:=zbk (n:=op) (k:=2) (by omega);have h0:=htop 0 (by omega);have h2:=htop 1 (by omega);simp only[];generalize tp f.st 0=x,tp f.st 1=y at *;unfold U at *;generalize l0 x=x0,l1 x=x1,l2 x=x2,l3 x=x3,l0 y=y0,l1 y=y1,l2 y=y2,l3 y=y3 at *;refine goT (T:=MI g v f op pa dv) [ldA 5 hop,neF op 32 (by omega),eqF op 243 h1,cA func114 h0,cA func114 h2] (zd w) hT I fun β1 a1 w1 I1 hb1=>?_;exact ye (v:=.tuple #[U4 x0 x1 x2 x3,U4 y0 y1 y2 y3]) I1
 by_cases h1:op=253
 ·rw[if_pos (by omega)];have hk:=zbk (n:=op) (k:=2) (by omega);have h0:=htop 0 (by omega);have h2:=htop 1 (by omega);simp only[];generalize tp f.st 0=x,tp f.st 1=y at *;unfold U at *;generalize l0 x=x0,l1 x=x1,l2 x=x2,l3 x=x3,l0 y=y0,l1 y=y1,l2 y=y2,l3 y=y3 at *;refine goT (T:=MI g v f op pa dv) [ldA 5 hop,neF op 32 (by omega),neF op 243 (by omega),eqF op 253 h1,cA func114 h0,cA func114 h2] (zd w) hT I fun β1 a1 w1 I1 hb1=>?_;exact ye (v:=.tuple #[U4 x0 x1 x2 x3,U4 y0 y1 y2 y3]) I1
 by_cases h1:op=55
 ·rw[if_neg (by omega),if_pos (by omega)];have hk:=zbk (n:=op) (k:=3) (by omega);have h0:=htop 0 (by omega);have h2:=htop 2 (by omega);simp only[];generalize tp f.st 0=x,tp f.st 2=y at *;unfold U at *;generalize l0 x=x0,l1 x=x1,l2 x=x2,l3 x=x3,l0 y=y0,l1 y=y1,l2 y=y2,l3 y=y3 at *;refine goT (T:=MI g v f op pa dv) [ldA 5 hop,neF op 32 (by omega),neF op 243 (by omega),neF op 253 (by omega),eqF op 55 h1,cA func114 h0,cA func114 h2] (zd w) hT I fun β1 a1 w1 I1 hb1=>?_;exact ye (v:=.tuple #[U4 x0 x1 x2 x3,U4 y0 y1 y2 y3]) I1
 by_cases h1:op=57
 ·rw[if_neg (by omega),if_pos (by omega)];have hk:=zbk (n:=op) (k:=3) (by omega);have h0:=htop 0 (by omega);have h2:=htop 2 (by omega);simp only[];generalize tp f.st 0=x,tp f.st 2=y at *;unfold U at *;generalize l0 x=x0,l1 x=x1,l2 x=x2,l3 x=x3,l0 y=y0,l1 y=y1,l2 y=y2,l3 y=y3 at *;refine goT (T:=MI g v f op pa dv) [ldA 5 hop,neF op 32 (by omega),neF op 243 (by omega),neF op 253 (by omega),neF op 55 (by omega),eqF op 57 h1,cA func114 h0,cA func114 h2] (zd w) hT I fun β1 a1 w1 I1 hb1=>?_;exact ye (v:=.tuple #[U4 x0 x1 x2 x3,U4 y0 y1 y2 y3]) I1
 by_cases h1:op=81
 ·rw[if_neg (by omega),if_neg (by omega),if_pos (by omega)];have hk:=zbk (n:=op) (k:=1) (by omega);have h0:=htop 0 (by omega);have h2:=zaw 32;simp only[];generalize tp f.st 0=x at *;unfold U at *;generalize l0 x=x0,l1 x=x1,l2 x=x2,l3 x=x3 at *;refine goT (T:=MI g v f op pa dv) [ldA 5 hop,neF op 32 (by omega),neF op 243 (by omega),neF op 253 (by omega),neF op 55 (by omega),neF op 57 (by omega),eqF op 81 h1,cA func114 h0,kC func48 h2] (zd w) hT I fun β1 a1 w1 I1 hb1=>?_
  exact zm (v:=.tuple #[U4 x0 x1 x2 x3,U4 32 0 0 0]) I1 ⟨congrArg (fun z=>Ending.returned (.tuple #[U4 x0 x1 x2 x3,z])) (by kernel_rfl),I1.hJ⟩
 by_cases h1:op=82
 ·rw[if_neg (by omega),if_neg (by omega),if_pos (by omega)];have hk:=zbk (n:=op) (k:=2) (by omega);have h0:=htop 0 (by omega);have h2:=zaw 32;simp only[];generalize tp f.st 0=x at *;unfold U at *;generalize l0 x=x0,l1 x=x1,l2 x=x2,l3 x=x3 at *;refine goT (T:=MI g v f op pa dv) [ldA 5 hop,neF op 32 (by omega),neF op 243 (by omega),neF op 253 (by omega),neF op 55 (by omega),neF op 57 (by omega),neF op 81 (by omega),eqF op 82 h1,cA func114 h0,kC func48 h2] (zd w) hT I fun β1 a1 w1 I1 hb1=>?_
  exact zm (v:=.tuple #[U4 x0 x1 x2 x3,U4 32 0 0 0]) I1 ⟨congrArg (fun z=>Ending.returned (.tuple #[U4 x0 x1 x2 x3,z])) (by kernel_rfl),I1.hJ⟩
 by_cases h1:op=83
 ·rw[if_neg (by omega),if_neg (by omega),if_neg (by omega),if_pos (by omega)];have hk:=zbk (n:=op) (k:=2) (by omega);have h0:=htop 0 (by omega);have h2:=zaw 1;simp only[];generalize tp f.st 0=x at *;unfold U at *;generalize l0 x=x0,l1 x=x1,l2 x=x2,l3 x=x3 at *;refine goT (T:=MI g v f op pa dv) [ldA 5 hop,neF op 32 (by omega),neF op 243 (by omega),neF op 253 (by omega),neF op 55 (by omega),neF op 57 (by omega),neF op 81 (by omega),neF op 82 (by omega),eqF op 83 h1,cA func114 h0,kC func48 h2] (zd w) hT I fun β1 a1 w1 I1 hb1=>?_
  exact zm (v:=.tuple #[U4 x0 x1 x2 x3,U4 1 0 0 0]) I1 ⟨congrArg (fun z=>Ending.returned (.tuple #[U4 x0 x1 x2 x3,z])) (by kernel_rfl),I1.hJ⟩
 rw[if_neg (by omega),if_neg (by omega),if_neg (by omega),if_neg (by omega)];refine goT (T:=MI g v f op pa dv) [ldA 5 hop,neF op 32 (by omega),neF op 243 (by omega),neF op 253 (by omega),neF op 55 (by omega),neF op 57 (by omega),neF op 81 (by omega),neF op 82 (by omega),neF op 83 (by omega),dO 45 [] bd45_0,dO 45 [] bd45_0] (zd w) hT I fun β1 a1 w1 I1 hb1=>?_;exact zm (v:=.tuple #[U4 0 0 0 0,U4 0 0 0 0]) I1 ⟨by rw[← U0],I1.hJ⟩
theorem grV_er(m:List UInt8)(a n:Nat):(yx m a n).2.2=0∨(yx m a n).2.2=3:=by
 unfold yx;split
 ·exact .inl rfl
 ·split
  ·exact .inr rfl
  ·exact .inl rfl
theorem tp_lt{s:List Nat}(h:∀ u∈s,u<W)(k:Nat):tp s k<W:=by
 unfold tp;rw[List.getD_eq_getElem?_getD];cases hq:s[k]? with
 | none=>exact Nat.lt_of_lt_of_le Nat.zero_lt_one (by decide)
 | some u=>exact h u (List.mem_of_getElem? hq)
theorem reaV_lt{s:List Nat}(h:∀ u∈s,u<W)(op:Nat):(xf op s).1<W∧(xf op s).2<W:=by
 have hW:100<W:=by decide
 unfold xf
 repeat' split
 all_goals first|exact⟨tp_lt h _,tp_lt h _⟩|exact⟨tp_lt h _,by simp only[];omega⟩|exact⟨by simp only[];omega,by simp only[];omega⟩
theorem mgrow_any(h:MI g v f op pa dv w)(ho:op<256)(hl:f.st.length≤1000)(ht:(opP op).2.1≤f.st.length)(hn:∀ u∈f.st,u<W)(hm:f.mem.length≤900000):Calls prog 109 #[zz g] w fun e w'=>e=(if(yx f.mem (xf op f.st).1 (xf op f.st).2).2.2≠0 then .panicked (PEr 3)else .returned (.tuple #[str (yx f.mem (xf op f.st).1 (xf op f.st).2).1,Z (yx f.mem (xf op f.st).1 (xf op f.st).2).2.1]))∧Below w.heap.size w w':=by
 have hT:∀ w',Below w.heap.size w w'→MI g v f op pa dv w':=fun w' hb=>h.below hb
 have hme:=ld_mem (g:=g) (v:=v) (f:=f) (op:=op) (pa:=pa) (dv:=dv);have hre:=fun w' (h:MI g v f op pa dv w')=>reach_any h ho hl ht
 have hlt:=reaV_lt hn op;generalize (xf op f.st).1=x,(xf op f.st).2=y at *;have hgr:=grow_any f.mem hm x y hlt.1 hlt.2;have her:=grV_er f.mem x y;generalize (yx f.mem x y).1=m1,(yx f.mem x y).2.1=m2,(yx f.mem x y).2.2=m3 at *;unfold U at *;generalize l0 x=x0,l1 x=x1,l2 x=x2,l3 x=x3,l0 y=y0,l1 y=y1,l2 y=y2,l3 y=y3 at *;refine inZ func109 fun a I=>?_;refine goT (T:=MI g v f op pa dv) [cA func141 hre] (zd w) hT I fun β1 a1 w1 I1 hb1=>?_;refine dwT (T:=MI g v f op pa dv) 15 [ldA 9 hme,kC func142 hgr] (zd w) hT zk.post I1 fun a2 w2 I2=>?_;by_cases h3:m3≠0
 ·rw[if_pos h3];obtain rfl:m3=3:=her.resolve_left h3;refine goZ [bO .eql 33 (p:=Z 3) (q:=Z 0) (v:=.bool false) (by intros;simp[go_sem])] I2 fun β3 a3 w3 I3 hb3=>?_;exact throwX [Sum.inl (.bool false),Sum.inl (Z 3)] func107 I3 (Below w3.heap.size w3) (ask_f 3 w3) fun w4 h4=>⟨I3.df,rfl,I3.hJ.trans (h4.mono I3.hJ.size)⟩
 ·rw[if_neg h3];obtain rfl:m3=0:=Decidable.not_not.1 h3;refine goZ [bO .eql 33 (p:=Z 0) (q:=Z 0) (v:=.bool true) (by intros;simp[go_sem]),kC func107 (ask_t 0)] I2 fun β3 a3 w3 I3 hb3=>?_;exact ye (v:=.tuple #[str m1,Z m2]) I3
theorem bytesOf_any(n:Nat)(hn:n<W):RT 144 #[U n] (Z ((xm n+7)/8:Nat)):=by
 intro w;have hb:=zcg n;have hle:=zbn n 256 hn;generalize xm n=m at *;unfold U at *;generalize l0 n=n0,l1 n=n1,l2 n=n2,l3 n=n3 at *;refine inZ func144 fun a I=>?_;refine goZ [kC func214 hb,kaZ m 7 (m+7:Nat),bO .quo 3 (run_quoM (x:=(m+7:Nat)) (y:=8) (z:=((m+7)/8:Nat)) (by decide) (by rw[Int.tdiv_eq_ediv_of_nonneg (by omega),wzf (by omega) (by omega)];omega))] I fun β1 a1 w1 I1 hb1=>?_;exact ye (v:=Z ((m+7)/8:Nat)) I1
theorem extra_any(h:MI g v f op pa dv w)(ho:op<256)(hl:f.st.length≤1000)(ht:(opP op).2.1≤f.st.length)(hn:∀ u∈f.st,u<W)(hm1:op=32→tp f.st 1≤65536)(hm2:op=55∨op=57→tp f.st 2≤65536):Calls prog 111 #[zz g] w fun e w'=>e=.returned (Z (extV op f.st))∧Below w.heap.size w w':=by
 have hT:∀ w',Below w.heap.size w w'→MI g v f op pa dv w':=fun w' hb=>h.below hb
 have hop:=ld_op (g:=g) (v:=v) (f:=f) (op:=op) (pa:=pa) (dv:=dv);have htop:∀ k,k<f.st.length→∀ w',MI g v f op pa dv w'→Calls prog 114 #[zz g,Z k] w' fun e w''=>e=.returned (U (tp f.st k))∧Below w'.heap.size w' w'':=fun k hk w' h=>zck h k hk hl
 refine inZ func111 fun a I=>?_;unfold extV;by_cases h1:op=10
 ·rw[if_pos h1];have hk:=zbk (n:=op) (k:=2) (by omega);have h0:=htop 1 (by omega);have hx1:=tp_lt hn 1;generalize tp f.st 1=x at *;have hby:=bytesOf_any x hx1;have hle:=zbn x 256 hx1;generalize xm x=m at *;unfold U at *;generalize l0 x=x0,l1 x=x1,l2 x=x2,l3 x=x3 at *;refine goT (T:=MI g v f op pa dv) [ldA 5 hop,eqF op 10 h1,cA func114 h0,kC func144 hby,bO .mul 3 (vc (x:=50) (y:=((m+7)/8:Nat)) (z:=50*((m+7)/8:Nat)) (by rw[wzf (by omega) (by omega)]))] (zd w) hT I fun β1 a1 w1 I1 hb1=>?_;exact ye (v:=Z (50*((m+7)/8:Nat))) I1
 by_cases h1:op=32
 ·rw[if_neg (by omega),if_pos h1];have hk:=zbk (n:=op) (k:=2) (by omega);have h0:=htop 1 (by omega);have hle:=hm1 h1;generalize tp f.st 1=x at *;have hsm:=ql x (by omega);have hwd:=za3 (x:Int) (by omega) (by omega);have hwb:=wds_bd (n:=(x:Int)) (by omega) (by omega);generalize wds (x:Int)=q at *;unfold U at *;generalize l0 x=x0,l1 x=x1,l2 x=x2,l3 x=x3 at *
  refine goT (T:=MI g v f op pa dv) [ldA 5 hop,neF op 10 (by omega),eqF op 32 h1,cA func114 h0,kC func146 hsm,kC func145 hwd,bO .mul 3 (vc (x:=6) (y:=q) (z:=6*q) (by rw[wzf (by omega) (by omega)]))] (zd w) hT I fun β1 a1 w1 I1 hb1=>?_;exact ye (v:=Z (6*q)) I1
 by_cases h1:op=55
 ·rw[if_neg (by omega),if_neg (by omega),if_pos (.inl h1)];have hk:=zbk (n:=op) (k:=3) (by omega);have h0:=htop 2 (by omega);have hle:=hm2 (.inl h1);generalize tp f.st 2=x at *;have hsm:=ql x (by omega);have hwd:=za3 (x:Int) (by omega) (by omega);have hwb:=wds_bd (n:=(x:Int)) (by omega) (by omega);generalize wds (x:Int)=q at *;unfold U at *;generalize l0 x=x0,l1 x=x1,l2 x=x2,l3 x=x3 at *
  refine goT (T:=MI g v f op pa dv) [ldA 5 hop,neF op 10 (by omega),neF op 32 (by omega),eqF op 55 h1,cA func114 h0,kC func146 hsm,kC func145 hwd,bO .mul 3 (vc (x:=3) (y:=q) (z:=3*q) (by rw[wzf (by omega) (by omega)]))] (zd w) hT I fun β1 a1 w1 I1 hb1=>?_;exact ye (v:=Z (3*q)) I1
 by_cases h1:op=57
 ·rw[if_neg (by omega),if_neg (by omega),if_pos (.inr h1)];have hk:=zbk (n:=op) (k:=3) (by omega);have h0:=htop 2 (by omega);have hle:=hm2 (.inr h1);generalize tp f.st 2=x at *;have hsm:=ql x (by omega);have hwd:=za3 (x:Int) (by omega) (by omega);have hwb:=wds_bd (n:=(x:Int)) (by omega) (by omega);generalize wds (x:Int)=q at *;unfold U at *;generalize l0 x=x0,l1 x=x1,l2 x=x2,l3 x=x3 at *
  refine goT (T:=MI g v f op pa dv) [ldA 5 hop,neF op 10 (by omega),neF op 32 (by omega),neF op 55 (by omega),eqF op 57 h1,cA func114 h0,kC func146 hsm,kC func145 hwd,bO .mul 3 (vc (x:=3) (y:=q) (z:=3*q) (by rw[wzf (by omega) (by omega)]))] (zd w) hT I fun β1 a1 w1 I1 hb1=>?_;exact ye (v:=Z (3*q)) I1
 rw[if_neg (by omega),if_neg (by omega),if_neg (by omega)];refine goT (T:=MI g v f op pa dv) [ldA 5 hop,neF op 10 (by omega),neF op 32 (by omega),neF op 55 (by omega),neF op 57 (by omega)] (zd w) hT I fun β1 a1 w1 I1 hb1=>?_;exact ye (v:=Z 0) I1
theorem jumps_any(h:MI g v f op pa dv w)(ho:op<256)(hl:f.st.length≤1000)(ht:(opP op).2.1≤f.st.length)(hn:∀ u∈f.st,u<W):Calls prog 112 #[zz g] w fun e w'=>e=.returned (.bool (jmpV op f.st))∧Below w.heap.size w w':=by
 have hT:∀ w',Below w.heap.size w w'→MI g v f op pa dv w':=fun w' hb=>h.below hb
 have hop:=ld_op (g:=g) (v:=v) (f:=f) (op:=op) (pa:=pa) (dv:=dv);have htop:∀ k,k<f.st.length→∀ w',MI g v f op pa dv w'→Calls prog 114 #[zz g,Z k] w' fun e w''=>e=.returned (U (tp f.st k))∧Below w'.heap.size w' w'':=fun k hk w' h=>zck h k hk hl
 refine inZ func112 fun a I=>?_;unfold jmpV;by_cases h1:op=86
 ·rw[decide_eq_true h1,Bool.true_or];refine goT (T:=MI g v f op pa dv) [ldA 5 hop,eqF op 86 h1] (zd w) hT I fun β1 a1 w1 I1 hb1=>?_;exact ye (v:=.bool true) I1
 rw[decide_eq_false h1,Bool.false_or];by_cases h2:op=87
 ·rw[decide_eq_true h2,Bool.true_and];have hk:=zbk (n:=op) (k:=2) (by omega);have h0:=htop 1 (by omega);have hlt:=tp_lt hn 1;generalize tp f.st 1=x at *;obtain⟨q,hq⟩:∃ q,decide (x≠0)=q:=⟨_,rfl⟩
  have hne:=neqU_run hlt (show 0<W by decide) hq;rw[hq];rw[U0]at hne;unfold U at *;generalize l0 x=x0,l1 x=x1,l2 x=x2,l3 x=x3 at *;refine goT (T:=MI g v f op pa dv) [ldA 5 hop,neF op 86 h1,ldA 5 hop,eqF op 87 h2,cA func114 h0,dO 45 [] bd45_0,bO .neq 45 hne] (zd w) hT I fun β1 a1 w1 I1 hb1=>?_;exact ye (v:=.bool q) I1
 ·rw[decide_eq_false h2,Bool.false_and];refine goT (T:=MI g v f op pa dv) [ldA 5 hop,neF op 86 h1,ldA 5 hop,neF op 87 h2] (zd w) hT I fun β1 a1 w1 I1 hb1=>?_;exact ye (v:=.bool false) I1
end
structure OkR (f:Fr):Prop extends OkF f where
 pc2:f.sd=0→f.pc≤f.code.length+32
theorem opF_lt(f:Fr):opF f<256:=by
 unfold opF;split
 ·decide
 ·split
  ·exact UInt8.toNat_lt _
  ·decide
theorem dst_lt{c:List UInt8}{n:Nat}(h:dstV c n=true):n<c.length:=by
 unfold dstV at h;rw[List.getD_eq_getElem?_getD]at h;rcases Nat.lt_or_ge n c.length with h1|h1
 ·exact h1
 ·rw[List.getElem?_eq_none (by rw[dsN_len];exact h1)]at h;cases h
theorem lim_mono{a b:Int}(h:a≤b):lim a≤lim b:=by
 unfold lim
 repeat' split
 all_goals omega
theorem cst_mono{a b:Int}(h:a≤b):cst a≤cst b:=by
 have h1:=lim_mono h;have h2:=lim_bd a;have h3:=Int.mul_le_mul h1 h1 h2.1 (Int.le_trans h2.1 h1);unfold cst;generalize lim a*lim a=x,lim b*lim b=y at *;omega
theorem wds_mono{a b:Int}(h:a≤b):wds a≤wds b:=by unfold wds;split<;>split<;>omega
theorem grow_cost(m:List UInt8)(a n:Nat):0≤(yx m a n).2.1∧(yx m a n).2.1≤8585216:=by
 unfold yx;split
 ·exact⟨Int.le_refl 0,show(0:Int)≤8585216 by decide⟩
 ·split
  ·exact⟨Int.le_refl 0,show(0:Int)≤8585216 by decide⟩
  ·simp only[];have h1:=cst_bd (wds ((fil m (32*(wds ((a+n:Nat):Int)).toNat)).length:Int));have h2:=cst_bd (wds (m.length:Int));have h3:cst (wds (m.length:Int))≤cst (wds ((fil m (32*(wds ((a+n:Nat):Int)).toNat)).length:Int)):=cst_mono (wds_mono (by rw[fil_len];omega));omega
theorem grow_ok{m:List UInt8}{a n:Nat}(h:(yx m a n).2.2=0):n=0∨a+n≤4096:=by
 unfold yx at h;split at h
 ·next h1=>exact .inl h1
 ·split at h
  ·cases h
  ·next h1 h2=>exact .inr (by omega)
theorem grow_len{m:List UInt8}{a n:Nat}(h:m.length≤4096)(h3:m.length%32=0):(yx m a n).1.length≤4096∧(yx m a n).1.length%32=0∧m.length≤(yx m a n).1.length:=by
 unfold yx;split
 ·exact⟨h,h3,Nat.le_refl _⟩
 ·split
  ·exact⟨h,h3,Nat.le_refl _⟩
  ·next h1 h2=>
   simp only[];rw[fil_len];have:=wds_bd (n:=((a+n:Nat):Int)) (by omega) (by omega);obtain⟨k,hk⟩:∃ k:Nat,wds ((a+n:Nat):Int)=k:=⟨_,(Int.toNat_of_nonneg this.1).symm⟩
   rw[hk]at this ⊢;rw[Int.toNat_natCast];have e:max m.length (32*k)=m.length∨max m.length (32*k)=32*k:=by omega
   refine⟨by omega,?_,by omega⟩;rcases e with e|e<;>rw[e]<;>omega
theorem wds_in{n:Nat}(h:n≤65536):0≤wds (n:Int)∧wds (n:Int)≤2048:=by unfold wds;split<;>omega
theorem ext_bd{op:Nat}{s:List Nat}(hn:∀ u∈s,u<W)(h1:op=32→tp s 1≤65536)(h2:op=55∨op=57→tp s 2≤65536):0≤extV op s∧extV op s≤100000:=by
 unfold extV;by_cases q1:op=10
 ·rw[if_pos q1];have:=zbn (tp s 1) 256 (tp_lt hn 1);omega
 rw[if_neg q1];by_cases q2:op=32
 ·rw[if_pos q2];have:=wds_in (h1 q2);omega
 rw[if_neg q2];by_cases q3:op=55∨op=57
 ·rw[if_pos q3];have:=wds_in (h2 q3);omega
 ·rw[if_neg q3];omega
structure Fine (f:Fr):Prop where
 op:isOp (opF f)=true
 tk:(opP (opF f)).2.1≤f.st.length
 ly:f.st.length-(opP (opF f)).2.1+(opP (opF f)).2.2.1≤256
 gr:(yx f.mem (xf (opF f) f.st).1 (xf (opF f) f.st).2).2.2=0
 gas:gasV (opF f) f≤f.gas
 jp:jmpV (opF f) f.st=true→dstV f.code (tp f.st 0)=true
theorem fine_of{f:Fr}(h:vt f=0):Fine f:=by
 unfold vt at h;split at h
 ·cases h
 next h1=>
 split at h
 ·cases h
 next h2=>
 split at h
 ·cases h
 next h3=>
 split at h
 ·cases h
 next h4=>
 split at h
 ·cases h
 next h5=>
 refine⟨by simpa using h1,by omega,by omega,Decidable.not_not.1 h3,by omega,fun hj=>?_⟩;cases hd:dstV f.code (tp f.st 0)with
 | true=>rfl
 | false=>exact absurd ⟨hj,hd⟩ h5
section
variable {f:Fr}
theorem small1(hg:(yx f.mem (xf (opF f) f.st).1 (xf (opF f) f.st).2).2.2=0)(h:opF f=32∨opF f=243∨opF f=253):tp f.st 1≤4096:=by
 have h1:=grow_ok hg;unfold xf at h1;rw[if_pos h]at h1;simp only[]at h1;omega
theorem small2(hg:(yx f.mem (xf (opF f) f.st).1 (xf (opF f) f.st).2).2.2=0)(h:opF f=55∨opF f=57):tp f.st 2≤4096∧(tp f.st 2≠0→tp f.st 0≤4096):=by
 have h1:=grow_ok hg;unfold xf at h1;rw[if_neg (by omega),if_pos h]at h1;simp only[]at h1;omega
theorem small3(hg:(yx f.mem (xf (opF f) f.st).1 (xf (opF f) f.st).2).2.2=0)(h:opF f=82∨opF f=83):tp f.st 0≤4096:=by
 have h1:=grow_ok hg;unfold xf at h1;rw[if_neg (by omega),if_neg (by omega)]at h1;rcases h with h|h
 ·rw[if_pos (.inr h)]at h1;simp only[]at h1;omega
 ·rw[if_neg (by omega),if_pos h]at h1;simp only[]at h1;omega
theorem gas_bd(hO:OkF f)(hg:(yx f.mem (xf (opF f) f.st).1 (xf (opF f) f.st).2).2.2=0):0≤gasV (opF f) f:=by
 have h1:=ext_bd (op:=opF f) hO.num (fun h=>Nat.le_trans (small1 hg (.inl h)) (by decide)) (fun h=>Nat.le_trans (small2 hg h).1 (by decide));have h2:=grow_cost f.mem (xf (opF f) f.st).1 (xf (opF f) f.st).2;unfold gasV;omega
theorem rdy_of(hO:OkR f)(h:Fine f):Rdy (opF f) (paid f):=by
 have hl:=grow_len (a:=(xf (opF f) f.st).1) (n:=(xf (opF f) f.st).2) hO.mem hO.m32;have hg0:=gas_bd hO.toOkF h.gr;have hg1:=hO.gas1;have hp0:=hO.pc0;have hp1:=hO.pc1;have hc:=hO.code;have hgg:=h.gas;have hj:=h.jp;refine⟨hO.code,hO.inp,hO.st,hO.num,Nat.le_trans hl.1 (by decide),?_,?_,?_,?_,h.tk,fun q=>Nat.le_trans (small1 (f:=f) h.gr q) (by decide),fun q=>⟨Nat.le_trans (small2 (f:=f) h.gr q).1 (by decide),fun q2=>Nat.le_trans ((small2 (f:=f) h.gr q).2 q2) (by decide)⟩,fun q=>?_,fun q q2=>?_⟩
 ·show(1:Int)≤f.pc+1;omega
 ·show f.pc+1≤(1000000:Int);omega
 ·show(0:Int)≤f.gas-gasV (opF f) f;omega
 ·show f.gas-gasV (opF f) f≤(100000:Int);omega
 ·show tp f.st 0≤1000000;rcases q with q|q|q
  ·exact Nat.le_trans (small3 h.gr (.inl q)) (by decide)
  ·exact Nat.le_trans (small3 h.gr (.inr q)) (by decide)
  ·have:=dst_lt (hj (by unfold jmpV;simp[q]));omega
 ·show tp f.st 0≤1000000;have q2:tp f.st 1≠0:=q2;have:=dst_lt (hj (by unfold jmpV;simp[q,q2]));omega
end
theorem xu{p:Prop}[Decidable p]{x y:Nat}(hx:x<W)(hy:y<W):(if p then x else y)<W:=by split<;>assumption
theorem reckV_lt{op a b c:Nat}(ha:a<W)(hb:b<W)(hc:c<W):reckV op a b c<W:=by
 have hW:256<W:=by decide
 have ht:∀ q,trB q<W:=fun q=>by
  cases q
  ·show(0:Nat)<W;omega
  ·show(1:Nat)<W;omega
 have e:W=2^256:=W_pow;have h1:a &&& b<W:=Nat.lt_of_le_of_lt Nat.and_le_left ha;have h2:a ||| b<W:=by rw[e]at ha hb ⊢;exact Nat.or_lt_two_pow ha hb
 have h3:a ^^^ b<W:=by rw[e]at ha hb ⊢;exact Nat.xor_lt_two_pow ha hb
 have hp:rm (a^b) W<W:=by
  unfold rm;split
  ·omega
  ·exact Nat.mod_lt _ ku
 unfold reckV;exact xu (addW_lt _ _) (xu (Nat.mod_lt _ ku) (xu (subW_lt _ _) (xu (div_lt _ _ ha) (xu (sq_lt _ _ ha) (xu (dr0_lt _ _ ha) (xu (sr_lt _ _ ha) (xu (rm_lt _ hc) (xu (rm_lt _ hc) (xu (hp) (xu (exW_lt _ _ hb) (xu (ht _) (xu (ht _) (xu (ht _) (xu (ht _) (xu (ht _) (xu (ht _) (xu (h1) (xu (h2) (xu (h3) (xu (notW_lt _) (xu (Nat.lt_trans (byW_lt _ _) hW) (xu (shlW_lt _ _) (xu (shrW_lt _ _ hb) (sar_lt _ _ hb))))))))))))))))))))))))
theorem rdB_lt{l:List UInt8}(h:l.length≤32):rdB l<W:=rd_ltW _ _ h
theorem kecV_lt(l:List UInt8):kecV l<W:=rd_ltW _ _ (Nat.le_refl _)
theorem mem_drop{s:List Nat}{k u:Nat}(h:u∈s.drop k):u∈s:=List.mem_of_mem_drop h
theorem putV_len(m:List UInt8)(i:Int)(s:List UInt8):(putV m i s).length=m.length:=by
 unfold putV;split
 ·rfl
 ·next h=>
  simp only[List.length_append,List.length_take,List.length_drop];omega
theorem tp_mem{s:List Nat}{k:Nat}(h:k<s.length):tp s k∈s:=by
 unfold tp;rw[List.getD_eq_getElem?_getD,List.getElem?_eq_getElem h];exact List.getElem_mem h
theorem swV_mem{s:List Nat}{k u:Nat}(hk:k+1<s.length)(h:u∈swV s k):u∈s:=by
 unfold swV at h;rcases List.mem_or_eq_of_mem_set h with h|rfl
 ·rcases List.mem_or_eq_of_mem_set h with h|rfl
  ·exact h
  ·exact tp_mem hk
 ·exact tp_mem (by omega)
theorem ld_dest{w:World}{d n:Nat}{c:List UInt8}(h:w.heap[d]? = some (.cells (blC (dsN c)) 4))(hn:n<c.length):(loadVar 4 ⟨d,0+n*1,none⟩).run prog w=.ok (.bool (dstV c n)) w:=by
 have hl:=dsN_len c;have hg:(dsN c)[n]? = some (dstV c n):=by
  unfold dstV;rw[List.getD_eq_getElem?_getD,List.getElem?_eq_getElem (by omega)];rfl
 rw[Nat.mul_one];refine zb4 (cs:=(dsN c).map Value.bool) (fun j x hx=>?_) n (by rw[List.getElem?_map,hg];rfl) 4 underlying4 rfl;rw[Nat.zero_add];simp only[World.cell?,h,blC];simpa using hx
theorem dest_any{g:Nat}{f:Fr}{op:Nat}{pa:Int}(n:Nat)(hn:n<W)(hc:f.code.length≤1000000):Mth 113 g [U n] f op pa (.bool (dstV f.code n)) f op pa:=by
 intro v dv w h;have hM:=M_big;have hW:=M_W;have hcmp:=zbv n f.code.length hn (by omega);rw[U_sml f.code.length (by omega)]at hcmp;have hof:=zaw f.code.length;have hcv:=cnvZ46 f.code.length (by omega);have hsm:n<f.code.length→∀ w,Calls prog 146 #[U n] w fun e w'=>e=.returned (Z n)∧Below w.heap.size w w':=fun h=>ql n (by omega)
 have hcz:cmpN n f.code.length=if n<f.code.length then -1 else if f.code.length<n then 1 else 0:=rfl
 generalize cmpN n f.code.length=cz at *;obtain⟨q,hq⟩:∃ q,dstV f.code n=q:=⟨_,rfl⟩
 have hge:¬ n<f.code.length→q=false:=fun h=>by
  rw[← hq];cases hd:dstV f.code n with
  | false=>rfl
  | true=>exact absurd (dst_lt hd) h
 have hld:∀ d,n<f.code.length→∀ w':World,w'.heap[d]? = some (.cells (blC (dsN f.code)) 4)→(loadVar 4 ⟨d,0+n*1,none⟩).run prog w'=.ok (.bool q) w':=fun d h w' h'=>hq ▸ ld_dest h' h
 rw[hq];unfold U at *;generalize l0 n=n0,l1 n=n1,l2 n=n2,l3 n=n3 at *;have hds:∀(w':World) (v0 dv0:Value) (d:Nat),MS w g v0 dv0 v f (.slice (some ⟨d,0,none⟩) f.code.length f.code.length) w'→w'.heap[d]? = some (.cells (blC (dsN f.code)) 4):=fun w' v0 dv0 d h'=>by
  rcases h'.c.ds with h1|⟨d',h1,h2,_⟩
  ·cases h1
  ·cases h1;exact h2
 rcases h.c.ds with rfl|⟨d,rfl,h2,h3,h4⟩
 ·refine inG (J:=MS w g v (.slice none 0 0) v f (.slice none 0 0)) (F:=MF w g v (.slice none 0 0)) [U4 n0 n1 n2 n3] func113 h.start h.row h.c.not fun Az I=>?_;refine goM [bO .eql 100 (p:=.slice none 0 0) (q:=.slice none 0 0) (v:=.bool true) (by intros;kernel_rfl)] I fun β1 A1 w1 I1 hb1=>?_;have hz1:β1 0=g:=agr hb1 0 rfl;refine kl [Sum.inl (str f.code)] func147 I1 ((dests_any f.code (by omega) w1).mono fun e w2 he=>?_);obtain⟨d,rfl,hd1,hd2,hbl⟩:=he;have hJ1:=I1.hJ;have hJ2:=hJ1.drew hbl;have hgl:=hJ1.c.lt;have hsz:=hJ1.gr.size
  have I2:SI (MS w g v (.slice none 0 0) v f (.slice (some ⟨d,0,none⟩) f.code.length f.code.length)) (MF w g v (.slice (some ⟨d,0,none⟩) f.code.length f.code.length)) [] β1 _ _ w2:=I1.moved (zq.of_below hbl) ⟨⟨hJ2.c.own,hJ2.c.tb,hJ2.c.ts,hJ2.c.hg,hJ2.c.lt,.inr ⟨d,rfl,hd2,by omega,fun e=>by have:=(hJ1.c.own.lt d e).2;omega⟩⟩,hJ2.lt,hJ2.gr,hJ2.nb,fun k hk=>by
    have e:d=k:=Option.some.inj hk;exact .inr (by omega)⟩ (fun k hk hF=>by
    rcases hF with hF|hF|hF
    ·exact .inl hF
    ·exact .inr (.inl hF)
    ·have e:d=k:=Option.some.inj hF;omega) (.slice (some ⟨d,0,none⟩) f.code.length f.code.length)
  have hT:=fun w'=>hds w' v (.slice none 0 0) d
  refine goM [] I2 fun β3 A3 w3 I3 hb3=>?_;have hz3:β3 0=g:=agr hb3 0 hz1;rcases Nat.lt_or_ge n f.code.length with hl | hl
  ·rw[if_pos hl]at hcz;subst hcz;refine dwT (T:=fun w'=>w'.heap[d]? = some (.cells (blC (dsN f.code)) 4)) 21 [lS underlying100 (ad:=some ⟨d,0,none⟩) (n:=f.code.length) (cap:=f.code.length) (z:=f.code.length) rfl,vO 3 23 hcv,kC func48 hof,kC func148 hcmp,bO .lss 3 (zh (x:= -1) (y:=0) (b:=true) rfl),kC func146 (hsm hl),iA 100 underlying100 (sz:=1) (by kernel_rfl) (g:=d) (off:=0) (n:=f.code.length) (cap:=f.code.length) (i:=n) hl,ldA 4 (hld d hl)] (MS.rs _ _ _ _ _ _ _) hT zk.post I3 fun A5 w5 I5=>?_;refine goM [] I5 fun β6 A6 w6 I6 hb6=>?_
   exact zm (v:=.bool q) I6 ⟨_,_,rfl,I6.mp (agr hb6 0 hz3)⟩
  ·have hq0:=hge (by omega);subst hq0;rw[if_neg (by omega)]at hcz;have hcz2:¬ cz<0:=by rw[hcz];split<;>decide
   refine dwT (T:=fun w'=>w'.heap[d]? = some (.cells (blC (dsN f.code)) 4)) 21 [lS underlying100 (ad:=some ⟨d,0,none⟩) (n:=f.code.length) (cap:=f.code.length) (z:=f.code.length) rfl,vO 3 23 hcv,kC func48 hof,kC func148 hcmp,bO .lss 3 (zh (x:=cz) (y:=0) (b:=false) (decide_eq_false hcz2))] (MS.rs _ _ _ _ _ _ _) hT zk.post I3 fun A5 w5 I5=>?_;refine goM [] I5 fun β6 A6 w6 I6 hb6=>?_;exact zm (v:=.bool false) I6 ⟨_,_,rfl,I6.mp (agr hb6 0 hz3)⟩
 ·refine inG (J:=MS w g v (.slice (some ⟨d,0,none⟩) f.code.length f.code.length) v f (.slice (some ⟨d,0,none⟩) f.code.length f.code.length)) (F:=MF w g v (.slice (some ⟨d,0,none⟩) f.code.length f.code.length)) [U4 n0 n1 n2 n3] func113 h.start h.row h.c.not fun Az I=>?_;refine goM [bO .eql 100 (p:=.slice (some ⟨d,0,none⟩) f.code.length f.code.length) (q:=.slice none 0 0) (v:=.bool false) (by intros;kernel_rfl)] I fun β3 A3 w3 I3 hb3=>?_;have hz3:β3 0=g:=agr hb3 0 rfl;have hT:=fun w'=>hds w' v (.slice (some ⟨d,0,none⟩) f.code.length f.code.length) d
  rcases Nat.lt_or_ge n f.code.length with hl|hl
  ·rw[if_pos hl]at hcz;subst hcz;refine dwT (T:=fun w'=>w'.heap[d]? = some (.cells (blC (dsN f.code)) 4)) 21 [lS underlying100 (ad:=some ⟨d,0,none⟩) (n:=f.code.length) (cap:=f.code.length) (z:=f.code.length) rfl,vO 3 23 hcv,kC func48 hof,kC func148 hcmp,bO .lss 3 (zh (x:= -1) (y:=0) (b:=true) rfl),kC func146 (hsm hl),iA 100 underlying100 (sz:=1) (by kernel_rfl) (g:=d) (off:=0) (n:=f.code.length) (cap:=f.code.length) (i:=n) hl,ldA 4 (hld d hl)] (MS.rs _ _ _ _ _ _ _) hT zk.post I3 fun A5 w5 I5=>?_;refine goM [] I5 fun β6 A6 w6 I6 hb6=>?_
   exact zm (v:=.bool q) I6 ⟨_,_,rfl,I6.mp (agr hb6 0 hz3)⟩
  ·have hq0:=hge (by omega);subst hq0;rw[if_neg (by omega)]at hcz;have hcz2:¬ cz<0:=by rw[hcz];split<;>decide
   refine dwT (T:=fun w'=>w'.heap[d]? = some (.cells (blC (dsN f.code)) 4)) 21 [lS underlying100 (ad:=some ⟨d,0,none⟩) (n:=f.code.length) (cap:=f.code.length) (z:=f.code.length) rfl,vO 3 23 hcv,kC func48 hof,kC func148 hcmp,bO .lss 3 (zh (x:=cz) (y:=0) (b:=false) (decide_eq_false hcz2))] (MS.rs _ _ _ _ _ _ _) hT zk.post I3 fun A5 w5 I5=>?_;refine goM [] I5 fun β6 A6 w6 I6 hb6=>?_;exact zm (v:=.bool false) I6 ⟨_,_,rfl,I6.mp (agr hb6 0 hz3)⟩
section
variable {P:Program} {J J':World→Prop} {F F':Nat→Prop} {ds:List Deferred} {β:Nat→Nat} {c:Cf} {a:Act} {w:World} {Q:Exit→Act→World→Prop} {g:Nat} {r:Array Value}
theorem adopt0(I:SI J F ds β c a w)(hJ:J' w)(hr:zb w g r)(hF:¬ F' g)(k:SI J' F' ds (fun _=>g) { c with tm:=c.tm.set 0 (some (Sum.inr (0,0))),rows:=[(0,r)],nx:=1 } a w→At P Q { c with tm:=c.tm.set 0 (some (Sum.inr (0,0))),rows:=[(0,r)],nx:=1 } a w)(hfr:c.tm.map (upO β)=(c.tm.set 0 (some (Sum.inr (0,0)))).map (upO fun _=>g):=by kernel_rfl)(hids:qs (c.tm.set 0 (some (Sum.inr (0,0)))) 1=true:=by kernel_rfl):At P Q c a w:=by
 refine at_code (k ⟨?_,I.df,hJ,?_,?_,?_,?_,hids⟩) rfl
 ·rw[I.fr,hfr]
 ·intro p hp;simp only[List.mem_singleton]at hp;subst hp;exact hr
 ·intro p hp;simp only[List.mem_singleton]at hp;subst hp;exact hF
 ·intro p hp;simp only[List.mem_singleton]at hp;subst hp;exact Nat.one_pos
 ·intro p hp q hq hpq;simp only[List.mem_singleton]at hp hq;subst hp;subst hq;exact absurd rfl hpq
end
section
variable {wE:World} {g:Nat} {v0 dv0 v dv:Value} {f:Fr} {op:Nat} {pa:Int} {w:World} {ds:List Deferred} {β:Nat→Nat} {c:Cf} {a:Act} {Q:Exit→Act→World→Prop}
theorem tcallM{fn : Nat}{F : Func}{xs : List Value}{ch : List PanicEntry}(hf : prog.funcs[fn]? = some F)(I : SI (MS wE g v0 dv0 v f dv) (MF wE g v dv) ds β c a w)(hb : β 0 = g)(hm : MI g v f op pa dv w → Calls prog fn (zz g :: xs).toArray w fun e w' => e = .panicked ch ∧ Below w.heap.size w w')(k : ∀ w', MP g v0 dv0 wE v f op pa dv w' → Q (.panic ch) a w')(hc : callX c = some (fn, Sum.inr (0, 0) :: xs.map Sum.inl) := by kernel_rfl)(hid : xo c.rows 0 = some (xg f v op pa dv) := by kernel_rfl)(hbd : F.body.isNone = false := by kernel_rfl)(hn : (F.name == "runtime.NumGoroutine") = false := by kernel_rfl) : At prog Q c a w := by
 refine kl (Sum.inr (0,0)::xs.map Sum.inl) hf I ?_ hc hbd hn;have e:((Sum.inr (0,0)::xs.map Sum.inl).map (up β))=zz g::xs:=by
  simp only[List.map_cons,List.map_map,up,List.cons.injEq,hb];exact⟨trivial,List.map_id _⟩
 rw[e];have hmi:=I.mi hb hid;refine(hm hmi).mono fun e w1 he=>?_;obtain⟨rfl,hb1⟩:=he;exact k w1 ⟨hmi.row.below hb1,I.hJ.drew hb1⟩
theorem tcallA(e:Int)(I:SI (MS wE g v0 dv0 v f dv) (MF wE g v dv) ds β c a w)(hb:β 0=g)(k:∀ w',MP g v0 dv0 wE v f op pa dv w'→Q (.panic (PEr e)) a w')(hc:callX c=some (107,[Sum.inl (.bool false),Sum.inl (Z e)]):=by kernel_rfl)(hid:xo c.rows 0=some (xg f v op pa dv):=by kernel_rfl):At prog Q c a w:=by
 have hmi:=I.mi hb hid;exact throwX [Sum.inl (.bool false),Sum.inl (Z e)] func107 I (Below w.heap.size w) (ask_f e w) (fun w1 hb1=>k w1 ⟨hmi.row.below hb1,I.hJ.drew hb1⟩) hc
end
def StepP (g:Nat) (v dv:Value) (w:World) (f:Fr) (e:Ending) (w':World):Prop:=∃ v' dv',(vt f=0∧e=.returned TU0∧MP g v dv w v' (nexV f) (opF f) f.pc dv' w')∨(vt f≠0∧e=.panicked (PEr (vt f))∧MP g v dv w v' f (opF f) f.pc dv' w')
theorem step_any{g:Nat}{f:Fr}{v dv:Value}{w:World}{op0:Nat}{pa0:Int}(hO:OkR f)(h:MI g v f op0 pa0 dv w):Calls prog 78 #[zz g] w (StepP g v dv w f):=by
 have hnx:=fun w' (h':MI g v f op0 pa0 dv w')=>next_any h' hO.pc0 (Nat.le_trans hO.code (by decide))
 have hpc:=ld_pc (g:=g) (v:=v) (f:=f) (op:=op0) (pa:=pa0) (dv:=dv);have hT:∀ w',Below w.heap.size w w'→MI g v f op0 pa0 dv w':=fun w' hb=>h.below hb
 have hop:=opF_lt f;have hgl:=h.c.lt;obtain⟨op,hopE⟩:∃ op,opF f=op:=⟨_,rfl⟩
 have hsd:StepP g v dv w f=fun e w'=>∃ v' dv',(vt f=0∧e=.returned TU0∧MP g v dv w v' (nexV f) op f.pc dv' w')∨(vt f≠0∧e=.panicked (PEr (vt f))∧MP g v dv w v' f op f.pc dv' w'):=by unfold StepP;rw[hopE]
 rw[hsd];rw[hopE]at hnx hop;refine inZ func78 fun Az I=>?_;refine goZ [] I fun βz Ay wz Iz hbz=>?_;refine dwT (T:=MI g v f op0 pa0 dv) 9 [cA func105 hnx,ldA 3 hpc] (zd w) hT zk.post Iz fun A0 w0 I0=>?_;refine goZ [] I0 fun β1 A1 w1 I1 hb1=>?_;have hr1:=(hT w1 I1.hJ).row;have hs1:=run_svA (P:=prog) 5 (off:=0+9) (v:=b8 op) hr1 (by kernel_rfl) (Nat.le_of_ble_eq_true rfl) (by kernel_rfl);have e1:kh (xg f v op0 pa0 dv) (0+9) (b8 op).cells=xg f v op pa0 dv:=by kernel_rfl
 rw[e1]at hs1;refine stoQ (ad:=⟨g,0+9,none⟩) (v:=b8 op) I1 hs1 ?_;have RR:∀ r,y8 (fun w':World=>zb w' g r∧zq (fun k=>k≠g) w w') (fun k=>k<w.heap.size):=fun r=>⟨fun x y hx gr=>⟨by
   obtain⟨t,ht⟩:=hx.1;exact⟨t,(gr.block g (zb.lt ⟨t,ht⟩) hgl).trans ht⟩,⟨gr.os.trans hx.2.os,gr.tape.trans hx.2.tape,gr.output.trans hx.2.output,Nat.le_trans hx.2.size gr.size,fun k hk hn=>(gr.block k (Nat.lt_of_lt_of_le hk hx.2.size) hk).trans (hx.2.block k hk hn)⟩⟩,fun x k hx hk=>Nat.lt_of_lt_of_le hk hx.2.size⟩
 have sg:∀(x:World) (r:Array Value),zq (fun k=>k≠g) x (x.setRow g r):=fun x r=>zao _ _ _ (fun h=>h rfl)
 have I2:SI (fun w':World=>zb w' g (xg f v op pa0 dv)∧zq (fun k=>k≠g) w w') (fun k=>k<w.heap.size) [] β1 _ _ (w1.setRow g (xg f v op pa0 dv)):=I1.sto ⟨(sg _ _).os,(sg _ _).tape,(sg _ _).output,(sg _ _).size,fun k hk hn=>(sg _ _).block k hk fun e=>hn (e ▸ hgl)⟩ ⟨hr1.set_same _,zq.trans (zq.of_below I1.hJ) (sg _ _)⟩ (fun _ _ h=>h);refine goQ [] (RR _) I2 fun β3 A3 w3 I3 hb3=>?_;have hr3:=I3.hJ.1;have hs3:=run_svA (P:=prog) 3 (off:=0+10) (v:=Z f.pc) hr3 (by kernel_rfl) (Nat.le_of_ble_eq_true rfl) (by kernel_rfl)
 have e3:kh (xg f v op pa0 dv) (0+10) (Z f.pc).cells=xg f v op f.pc dv:=by kernel_rfl
 rw[e3]at hs3;refine stoQ (ad:=⟨g,0+10,none⟩) (v:=Z f.pc) I3 hs3 ?_;have I4:SI (fun w':World=>zb w' g (xg f v op f.pc dv)∧zq (fun k=>k≠g) w w') (fun k=>k<w.heap.size) [] β3 _ _ (w3.setRow g (xg f v op f.pc dv)):=I3.sto ⟨(sg _ _).os,(sg _ _).tape,(sg _ _).output,(sg _ _).size,fun k hk hn=>(sg _ _).block k hk fun e=>hn (e ▸ hgl)⟩ ⟨hr3.set_same _,zq.trans I3.hJ.2 (sg _ _)⟩ (fun _ _ h=>h);have hgg:GG g v w (w3.setRow g (xg f v op f.pc dv)):=zq.mono (I4.hJ.2) fun k hk=>hk.1
 have hm4:MS w g v dv v f dv (w3.setRow g (xg f v op f.pc dv)):=⟨h.c.moved hgg (xh h.c.own I4.hJ.2 fun k hk e=>by subst e;have:=(h.c.own.lt k hk).1;omega) (fun k hk=>.inl hk) rfl,hgl,hgg,fun k hk=>.inl hk,fun k hk=>.inl hk⟩
 refine adopt0 (J':=MS w g v dv v f dv) (F':=MF w g v dv) I4 hm4 I4.hJ.1 h.c.not fun I5=>?_;cases hio:isOp op with
 | false=>
  have her:vt f=21:=by unfold vt;rw[hopE,if_pos hio]
  refine goM [kC func106 (oper_none hio),bO .neq 137 (p:=.nilFunc) (q:=.nilFunc) (v:=.bool false) (by intros;kernel_rfl)] I5 fun β6 A6 w6 I6 hb6=>?_;refine tcallA (op:=op) (pa:=f.pc) 21 I6 (agr hb6 0 rfl) fun w7 hp=>⟨I6.df,v,dv,.inr ⟨by rw[her];decide,by rw[her],hp⟩⟩
 | true=>
  have hos:=oper_some hio;obtain⟨fk,hfk⟩:∃ fk,mF op=fk:=⟨_,rfl⟩
  rw[hfk]at hos;refine goM [kC func106 hos,bO .neq 137 (p:=fnV fk) (q:=.nilFunc) (v:=.bool true) (by intros;kernel_rfl),kC func107 (ask_t 21)] I5 fun β6 A6 w6 I6 hb6=>?_;have hz6:β6 0=g:=agr hb6 0 rfl;have hl:f.st.length≤1000:=Nat.le_trans hO.st (by decide);have hstk:=fun w' (h':MI g v f op f.pc dv w')=>stk_any h' hop hl
  by_cases hb:f.st.length<(opP op).2.1∨256<f.st.length-(opP op).2.1+(opP op).2.2.1
  ·have her:vt f=19:=by unfold vt;rw[hopE,if_neg (by simp[hio]),if_pos hb]
   rw[if_pos hb]at hstk;exact tcallM (xs:=[]) (op:=op) (pa:=f.pc) func108 I6 hz6 (hstk w6) fun w7 hp=>⟨I6.df,v,dv,.inr ⟨by rw[her];decide,by rw[her],hp⟩⟩
  rw[if_neg hb]at hstk;refine rcallM (xs:=[]) (op:=op) (pa:=f.pc) func108 I6 hz6 (hstk w6) fun w7 I7=>?_;refine goM [] I7 fun β8 A8 w8 I8 hb8=>?_;have hz8:β8 0=g:=agr hb8 0 hz6;have htk:(opP op).2.1≤f.st.length:=by omega
  have hgw:=fun w' (h':MI g v f op f.pc dv w')=>mgrow_any h' hop hl htk hO.num (Nat.le_trans hO.mem (by decide))
  have hcost:=grow_cost f.mem (xf op f.st).1 (xf op f.st).2;have hpd:paid f={ f with gas:=f.gas-gasV op f,mem:=(yx f.mem (xf op f.st).1 (xf op f.st).2).1,pc:=f.pc+1 }:=by unfold paid;rw[hopE]
  have hgd:gasV op f=((opP op).2.2.2:Nat)+extV op f.st+(yx f.mem (xf op f.st).1 (xf op f.st).2).2.1:=rfl;by_cases h3:(yx f.mem (xf op f.st).1 (xf op f.st).2).2.2≠0
  ·have her:vt f=3:=by unfold vt;rw[hopE,if_neg (by simp[hio]),if_neg hb,if_pos h3]
   rw[if_pos h3]at hgw;exact tcallM (xs:=[]) (op:=op) (pa:=f.pc) func109 I8 hz8 (hgw w8) fun w9 hp=>⟨I8.df,v,dv,.inr ⟨by rw[her];decide,by rw[her],hp⟩⟩
  rw[if_neg h3]at hgw;have h30:(yx f.mem (xf op f.st).1 (xf op f.st).2).2.2=0:=Decidable.not_not.1 h3;have hs1:op=32→tp f.st 1≤65536:=fun q=>Nat.le_trans (small1 (f:=f) (by rw[hopE];exact h30) (by rw[hopE];exact .inl q)) (by decide)
  have hs2:op=55∨op=57→tp f.st 2≤65536:=fun q=>Nat.le_trans (small2 (f:=f) (by rw[hopE];exact h30) (by rw[hopE];exact q)).1 (by decide)
  have hext:=ext_bd (op:=op) hO.num hs1 hs2;have hex:=fun w' (h':MI g v f op f.pc dv w')=>extra_any h' hop hl htk hO.num hs1 hs2
  have hga:=fun w' (h':Tb w')=>gas_any h' op hop
  have hgb:=(opP_bd hop).2.2;have herr:vt f=if f.gas<gasV op f then 18 else if jmpV op f.st=true∧dstV f.code (tp f.st 0)=false then 20 else 0:=by unfold vt;rw[hopE,if_neg (by simp[hio]),if_neg hb,if_neg h3]
  have hfin:vt f=0→Fine f:=fine_of;generalize (yx f.mem (xf op f.st).1 (xf op f.st).2).1=m1,(yx f.mem (xf op f.st).1 (xf op f.st).2).2.1=m2,extV op f.st=xt,(opP op).2.2.2=bg,gasV op f=gs at *;refine rcallM (xs:=[]) (op:=op) (pa:=f.pc) func109 I8 hz8 (hgw w8) fun w9 I9=>?_;refine goT (T:=Tb) [cA func110 hga] (MS.rs _ _ _ _ _ _ _) (fun _ h'=>h'.c.tb) I9 fun β10 A10 w10 I10 hb10=>?_;have hz10:β10 0=g:=agr hb10 0 hz8;refine rcallM (xs:=[]) (op:=op) (pa:=f.pc) func111 I10 hz10 (hex w10) fun w11 I11=>?_;by_cases hg:f.gas<gs
  ·have her:vt f=18:=by rw[herr,if_pos hg]
   refine goM [kaZ bg xt ((bg:Int)+xt),bO .add 3 (zn (x:=(bg:Int)+xt) (y:=m2) (z:=gs) (by rw[wzf (by omega) (by omega)];exact hgd.symm)),kmF gs f.gas] I11 fun β12 A12 w12 I12 hb12=>?_;refine tcallA (op:=op) (pa:=f.pc) 18 I12 (agr hb12 0 hz10) fun w13 hp=>⟨I12.df,v,dv,.inr ⟨by rw[her];decide,by rw[her],hp⟩⟩
  rw[if_neg hg]at herr;refine goM [kaZ bg xt ((bg:Int)+xt),bO .add 3 (zn (x:=(bg:Int)+xt) (y:=m2) (z:=gs) (by rw[wzf (by omega) (by omega)];exact hgd.symm)),kmT gs f.gas,kC func107 (ask_t 18)] I11 fun β12 A12 w12 I12 hb12=>?_;have hz12:β12 0=g:=agr hb12 0 hz10;have hjm:=fun w' (h':MI g v f op f.pc dv w')=>jumps_any h' hop hl htk hO.num
  have hgas0:=hO.gas0;have hgas1:=hO.gas1;have hpc0:=hO.pc0;have hpc1:=hO.pc1;have hcode:=hO.code;have hnex:nexV f=doV op { f with gas:=f.gas-gs,mem:=m1,pc:=f.pc+1 }:=by unfold nexV;rw[hopE,hpd]
  have hdo : vt f = 0 → ∃ Fn : Func, prog.funcs[fk]? = some Fn ∧ Fn.body.isNone = false ∧ (Fn.name == "runtime.NumGoroutine") = false ∧ Mth fk g [] { f with gas := f.gas - gs, mem := m1, pc := f.pc + 1 } op f.pc TU0 (nexV f) op f.pc := fun he => by
   have hrd:=rdy_of hO (hfin he);rw[hopE,hpd]at hrd;have:=do_any (g:=g) (pa:=f.pc) hio hrd (by show f.pc=f.pc+1-1;omega);rw[hfk,← hnex]at this;exact this
  cases hj:jmpV op f.st with
  | false=>
   have her:vt f=0:=by rw[herr,hj,if_neg (by simp)]
   obtain⟨Fn,hF1,hF2,hF3,hF4⟩:=hdo her;rw[hj]at hjm;refine rcallM (xs:=[]) (op:=op) (pa:=f.pc) func112 I12 hz12 (hjm w12) fun w13 I13=>?_;refine goM [uO .not (p:=.bool false) (v:=.bool true) (by intros;rfl),kC func107 (ask_t 20),ksZ f.gas gs (f.gas-gs),kaZ f.pc 1 (f.pc+1)] I13 fun β14 A14 w14 I14 hb14=>?_;have hz14:β14 0=g:=agr hb14 0 hz12;refine inY (I14.fr' { f with gas:=f.gas-gs,mem:=m1,pc:=f.pc+1 } rfl rfl) fun I15=>?_;refine goM [] I15 fun β16 A16 w16 I16 hb16=>?_;have hz16:β16 0=g:=agr hb16 0 hz14
   refine zp (xs:=[]) (op:=op) (pa:=f.pc) hF1 hF4 I16 hz16 (fun ad cap dv' w17 I17=>?_) (by kernel_rfl) (by kernel_rfl) hF2 hF3;refine goM [] I17 fun β18 A18 w18 I18 hb18=>?_;exact x9 I18 ⟨_,_,.inl ⟨her,rfl,I18.mp (agr hb18 0 hz16)⟩⟩
  | true=>
   rw[hj]at hjm;have ht0:0<f.st.length:=by
    have:op=86∨op=87:=by
     unfold jmpV at hj;simp only[Bool.or_eq_true,Bool.and_eq_true,decide_eq_true_eq]at hj;omega
    rcases this with q|q
    ·have:=zbk (n:=op) (k:=1) (by omega);omega
    ·have:=zbk (n:=op) (k:=2) (by omega);omega
   have htop:=fun w' (h':MI g v f op f.pc dv w')=>zck h' 0 ht0 hl
   have hdst:=dest_any (g:=g) (f:=f) (op:=op) (pa:=f.pc) (tp f.st 0) (tp_lt hO.num 0) (Nat.le_trans hO.code (by decide));have herr2:vt f=if dstV f.code (tp f.st 0)=false then 20 else 0:=by
    rw[herr,hj];cases dstV f.code (tp f.st 0)<;>rfl
   generalize dstV f.code (tp f.st 0)=dq at *;unfold U at htop hdst;generalize l0 (tp f.st 0)=x0,l1 (tp f.st 0)=x1,l2 (tp f.st 0)=x2,l3 (tp f.st 0)=x3 at *;refine rcallM (xs:=[]) (op:=op) (pa:=f.pc) func112 I12 hz12 (hjm w12) fun w13 I13=>?_;refine goM [uO .not (p:=.bool true) (v:=.bool false) (by intros;rfl)] I13 fun β14 A14 w14 I14 hb14=>?_;have hz14:β14 0=g:=agr hb14 0 hz12;refine rcallM (xs:=[Z (0:Nat)]) (op:=op) (pa:=f.pc) func114 I14 hz14 (htop w14) fun w15 I15=>?_;refine goM [] I15 fun β16 A16 w16 I16 hb16=>?_;have hz16:β16 0=g:=agr hb16 0 hz14
   refine zp (xs:=[U4 x0 x1 x2 x3]) (op:=op) (pa:=f.pc) func113 hdst I16 hz16 fun ad1 cap1 dv1 w17 I17=>?_;cases dq with
   | false=>
    have her:vt f=20:=by rw[herr2];rfl
    refine goM [] I17 fun β18 A18 w18 I18 hb18=>?_;refine tcallA (op:=op) (pa:=f.pc) 20 I18 (agr hb18 0 hz16) fun w19 hp=>⟨I18.df,_,dv1,.inr ⟨by rw[her];decide,by rw[her],hp⟩⟩
   | true=>
    have her:vt f=0:=by rw[herr2];rfl
    obtain⟨Fn,hF1,hF2,hF3,hF4⟩:=hdo her;refine goM [kC func107 (ask_t 20),ksZ f.gas gs (f.gas-gs),kaZ f.pc 1 (f.pc+1)] I17 fun β18 A18 w18 I18 hb18=>?_;have hz18:β18 0=g:=agr hb18 0 hz16;refine inY (I18.fr' { f with gas:=f.gas-gs,mem:=m1,pc:=f.pc+1 } rfl rfl) fun I19=>?_;refine goM [] I19 fun β20 A20 w20 I20 hb20=>?_;have hz20:β20 0=g:=agr hb20 0 hz18;refine zp (xs:=[]) (op:=op) (pa:=f.pc) hF1 hF4 I20 hz20 (fun ad cap dv' w21 I21=>?_) (by kernel_rfl) (by kernel_rfl) hF2 hF3;refine goM [] I21 fun β22 A22 w22 I22 hb22=>?_;exact x9 I22 ⟨_,_,.inl ⟨her,rfl,I22.mp (agr hb22 0 hz20)⟩⟩
end Go.Proofs.YthkpgfbjdabflaaGreatDoor
