/- Laid one behind the other: Wk, Wl, Wm, Wn. -/
import Derived.Test.YtdeompgdhaomgaaGreatDoorKtWg
import Derived.Tactics
import Derived.Tactics2
import Derived.Defers
import Derived.Recover
import Derived.Laws.Pointers
namespace Go.Proofs.YtdeompgdhaomgaaGreatDoor
open Go.RowKit Go.Sort Tryz
set_option linter.unusedVariables false
set_option maxRecDepth 100000
set_option maxHeartbeats 4000000
theorem sees_any{g:Nat}{S:List UInt8}{p:Nat}{dp:Int}(m:UInt8){w:World}(hr:zb w g #[str S,Z p,Z dp])(hS:S.length<1000000000000)(hp:p≤S.length) :
  Calls prog 104 #[ye g,.int .u8 m.toNat] w fun e w'=>e=.returned (.bool (decide (S[p]? = some m)))∧Below w.heap.size w w':=by
 have hsz:=zn S;have hld1:∀ w',Below w.heap.size w w'→(loadVar 3 ⟨g,0+1,none⟩).run prog w'=.ok (Z p) w':=fun w' hb=>run_lv (hr.below hb) (by kernel_rfl)
 have hld0:∀ w',Below w.heap.size w w'→(loadVar 9 ⟨g,0+0,none⟩).run prog w'=.ok (str S) w':=fun w' hb=>run_lv (hr.below hb) (by kernel_rfl)
 refine inZ func104 fun a I=>?_;refine goZ [] I fun β a w0 I hb=>?_;rcases Nat.lt_or_ge p S.length with hpl | hpl
 ·obtain⟨b,hb1⟩:∃ b,S[p]? = some b:=⟨_,List.getElem?_eq_getElem hpl⟩
  refine dwT (T:=Below w.heap.size w) 24 [ldA 3 hld1,ldA 9 hld0,lO underlying9 (b:=⟨S.toArray⟩) (n:=S.length) (by rw[hsz]),klT p S.length,ldA 9 hld0,ldA 3 hld1,iO 9 (p:=str S) (i:=Z p) (v:=.int .u8 b.toNat) (zr hb1),bO .eql 5 (zq (x:=b) (y:=m) (q:=decide (b=m)) rfl)] (zj w) (fun _ h=>h) zd.post I fun a w1 I=>?_;refine goZ [] I fun β2 a w2 I hb2=>?_;exact zh (v:=.bool (decide (b=m))) I ⟨by rw[hb1];simp,I.hJ⟩
 ·have hn:S[p]? = none:=List.getElem?_eq_none hpl;refine dwT (T:=Below w.heap.size w) 24 [ldA 3 hld1,ldA 9 hld0,lO underlying9 (b:=⟨S.toArray⟩) (n:=S.length) (by rw[hsz]),klF p S.length] (zj w) (fun _ h=>h) zd.post I fun a w1 I=>?_;refine goZ [] I fun β2 a w2 I hb2=>?_;exact zh (v:=.bool false) I ⟨by rw[hn];rfl,I.hJ⟩
theorem bd_shn(w:World):(Instr.build 121 (([0]:List Nat).zip [Z 0]).toArray).run prog w=.ok (shp 0) w:=by kernel_rfl
theorem bd_sht(w:World):(Instr.build 121 (([0]:List Nat).zip [Z 1]).toArray).run prog w=.ok (shp 1) w:=by kernel_rfl
structure FJ (wE:World) (g:Nat) (r:Array Value) (v:Value) (n:Nat) (xs:List Value) (w:World):Prop where
 ro:RO wE g 121 3 v n xs w
 row:zb w g r
def FJF (wE:World) (v:Value) (k:Nat):Prop:=k<wE.heap.size∨v.ownBlock=some k
theorem FJ.rs(wE:World)(g:Nat)(hlt:g<wE.heap.size)(r:Array Value)(v:Value)(n:Nat)(xs:List Value):yw (FJ wE g r v n xs) (FJF wE v):=by
 refine⟨fun w w' h gr=>⟨(RO.rs wE g 121 3 v n xs).loc w w' h.ro ⟨gr.os,gr.tape,gr.output,gr.size,fun k hk hF=>gr.block k hk (hF.elim (fun h=>.inl h.1) .inr)⟩,?_⟩,fun w k h hk=>?_⟩
 ·obtain⟨t,ht⟩:=h.row;exact⟨t,(gr.block g h.row.lt (.inl hlt)).trans ht⟩
 ·rcases hk with hk|hk
  ·exact Nat.lt_of_lt_of_le hk h.ro.gr.size
  ·exact(h.ro.own.lt k hk).2
def rest1:Code→Code
 | .seq _ y=>y
 | c=>c
theorem atEnd{P:Program}{Q:Exit→Act→World→Prop}{c:Cf}{a:Act}{w:World}{e:Exit}(h:Q e a w)(hd:c.dn=some e:=by kernel_rfl):At P Q c a w:=⟨by unfold AtD;rw[hd];exact h⟩
def tA {T : World → Prop} (s t : Nat) {x v : Value} (h : ∀ w, (Instr.typeAssert x s t true).run prog w = .ok v w) : Fa prog T := Sum.inr (Sum.inr
  { ok := fun | .typeAssert _ s' t' true => s' == s && t' == t | _ => false
    xs := #[x]
    v := v
    fr := true
    h := by
      intro a w oo _ hok hx
      cases hop : oo.op with
      | typeAssert y s' t' b =>
        rw [hop] at hok hx
        cases b with
        | false => simp at hok
        | true =>
          simp only [Bool.and_eq_true, beq_iff_eq] at hok
          obtain ⟨rfl, rfl⟩ := hok
          simp only [vm, List.map_cons, List.map_nil] at hx
          have hx1 : a.eval y = x := by simpa using hx
          unfold execOp
          simp only [hop, hx1, Sem.run_bind, h, Result.andThen_ok, Sem.run_pure]
      | _ => rw [hop] at hok; simp at hok })
theorem catch_panic(g:Nat)(w:World)(hr:zb w g #[Z 0]) :
  CallsD prog 69 #[ye g] (.panicking PErr) w fun e u' w'=>e=.returned (.tuple #[])∧u'=.panicking [{ v:=.iface 117 (Z 2),recovered:=true }]∧zb w' g #[Z 2]∧zi (fun k=>k≠g) w w':=by
 refine callsD_of_wpS func69 rfl fun c₀ cs hu=>?_;apply wpS_seq;apply wpS_region;simp[wpOpsS,go_sem,recoverD,hu,ntmps69,Exit.thenS];refine wpS_of_wp (zv (tm:=frm 16 [(0,Sum.inr (0,0)),(1,Sum.inl (.iface 117 (Z 2))),(4,Sum.inl (.iface 117 (Z 2)))]) (rows:=[(0,#[Z 0])]) (nx:=1) ?_)
 have I:SI (RO w g 5 1 (.slice none 0 0) 0 []) (ROF w g (.slice none 0 0)) [] (fun _=>g) (cfC (rest1 (Tryz.f69.body.getD .skip)) (frm 16 [(0,Sum.inr (0,0)),(1,Sum.inl (.iface 117 (Z 2))),(4,Sum.inl (.iface 117 (Z 2)))]) [(0,#[Z 0])] 1) { tmps:=#[ye g]++((Array.replicate 15 undef).setIfInBounds 3 (.iface 117 (Z 2))).setIfInBounds 0 (.iface 117 (Z 2)),defers:=[] } w:=⟨by simp[frm,upO,up,List.range,List.range.loop,Array.replicate,List.replicate],rfl,RO.start _ _ _ _,by intro p hp;simp only[List.mem_singleton]at hp;subst hp;exact hr,by intro p hp;exact RO.not,by intro p hp;simp only[List.mem_singleton]at hp;subst hp;exact Nat.one_pos,by intro p hp q hq hpq;simp only[List.mem_singleton]at hp hq;subst hp;subst hq;exact absurd rfl hpq,by kernel_rfl⟩
 refine goQ [bO .eql 20 (p:=.iface 117 (Z 2)) (q:=.nilIface) (v:=.bool false) (by intros;simp[go_sem]),tA 20 117 (x:=.iface 117 (Z 2)) (v:=.tuple #[Z 2,.bool true]) (by intro w;kernel_rfl),uO .not (p:=.bool true) (v:=.bool false) (by intros;rfl)] (RO.rs _ _ _ _ _ _ _) I fun β a w1 I hb=>?_;have hb0:β 0=g:=agr hb 0 rfl;refine atEnd (e:=.normal) ?_;simp[bodyPostS,results,results69];exact⟨I.df,I.rowG 0 hb0 (r:=#[Z 2]),I.hJ.gr⟩
theorem catch_idle(g:Nat)(w:World) :
  CallsD prog 69 #[ye g] .returning w fun e u' w'=>e=.returned (.tuple #[])∧u'=.returning∧w'=w:=by
 refine callsD_of_wpS func69 rfl fun c₀ cs hu=>?_;apply wpS_seq;apply wpS_region;simp[wpOpsS,go_sem,recoverD,hu,ntmps69,Exit.thenS];apply wpS_seq;apply wpS_seq;apply wpS_region;simp[wpOpsS,go_sem,Exit.thenS];refine wpS_cond (t:=true) (by simp[Act.eval,Array.replicate]) ?_;simp only[if_true];refine wpS_of_wp (wp_ret ?_);cases c₀
 simp_all [Exit.thenS,bodyPostS,results,results69]
section
variable {P:Program} {J:World→Prop} {F:Nat→Prop} {ds:List Deferred} {β:Nat→Nat} {c:Cf} {a:Act} {w:World} {Q:Exit→Act→World→Prop}
def mkfQ (c:Cf):Option (Fn×List SV):=match kq c with
 | some o=>match o.op with
  | .makeFunc fn first cap=>if first.isEmpty=true then(cap.toList.mapM (evQ c.tm)).map fun ss=>(fn,ss)else none
  | _=>none
 | none=>none
theorem mfnQ(fn:Fn)(ss:List SV)(I:SI J F ds β c a w)(k:At P Q (xa c (.func fn #[] (ss.map (up β)).toArray)) (a.put (yu c) (.func fn #[] (ss.map (up β)).toArray)) w)(hc:mkfQ c=some (fn,ss):=by kernel_rfl):At P Q c a w:=by
 unfold mkfQ at hc;split at hc
 ·next o ho=>
  split at hc
  ·next fn' first cap hop=>
   split at hc
   ·next hf=>
    simp only[Option.map_eq_some_iff,Prod.mk.injEq]at hc;obtain⟨ss',hm,rfl,rfl⟩:=hc;have hfe:first=#[]:=by simpa using hf
    have hx:=mapS_ok I.fr hm;have hxa:cap.map a.eval=(ss'.map (up β)).toArray:=by rw[← hx];apply Array.ext';simp
    refine vstep ho I (v:=.func fn' #[] (ss'.map (up β)).toArray) (w':=w) ?_ k;unfold execOp;simp[hop,hfe,hxa,Instr.makeFunc]
   ·cases hc
  ·cases hc
 ·cases hc
def dfQ (c:Cf):Option SV:=match kq c with
 | some o=>match o.op with
  | .defer { callee:=.value x,args:=xs,argTypes:=_ }=>if xs.isEmpty=true then evQ c.tm x else none
  | _=>none
 | none=>none
theorem dfrQ{f:Nat}{cap:Array Value}(I:SI J F ds β c a w)(k:∀ a',SI J F ({ target:=.fn (.func f) cap,args:=#[] }::ds) β (qz c (yu c) none) a' w→At P Q (qz c (yu c) none) a' w)(hc:dfQ c=some (Sum.inl (.func (.func f) #[] cap)):=by kernel_rfl):At P Q c a w:=by
 unfold dfQ at hc;split at hc
 ·next o ho=>
  split at hc
  ·next x xs ts hop=>
   split at hc
   ·next hf=>
    have hxe:xs=#[]:=by simpa using hf
    obtain⟨hd,⟨rest,hr⟩,hw⟩:=vq ho;refine zbb hd hr (v7 I hw) ?_;have hrun:(execOp a.eval o).run P w=.ok (.defer { target:=.fn (.func f) cap,args:=#[] }) w:=by
     unfold execOp;simp[hop,hxe,resolve,xn I.fr hc,up,Deferred.ofValue]
    unfold Oper.wp;rw[hrun];have hk:=(k ({ a with defers:={ target:=.fn (.func f) cap,args:=#[] }::a.defers }.put o.dst undef) ?_).out
    ·unfold AtD at hk;simp only[qz,hd,yu,hr,List.tail_cons,List.head?_cons,Option.bind_some]at hk;exact hk
    ·have hdst:yu c=o.dst:=by simp[yu,hr]
     rw[hdst];refine⟨?_,?_,I.hJ,I.row,I.dis,I.lt,I.inj,zag I.ids _ (by intro i o h;cases h)⟩
     ·exact za7 (a:={ a with defers:={ target:=.fn (.func f) cap,args:=#[] }::a.defers }) I.fr o.dst none
     ·rw[← I.df];cases o.dst<;>rfl
   ·cases hc
  ·cases hc
 ·cases hc
def cvlQ (c:Cf):Option SV:=match kq c with
 | some o=>match o.op with
  | .call { callee:=.value (.tmp t),args:=xs,argTypes:=_ }=>if xs.isEmpty=true then evQ c.tm (.tmp t)else none
  | _=>none
 | none=>none
theorem vcall{f : Nat}{fn : Func}{cap : Array Value}(hf : P.funcs[f]? = some fn)(I : SI J F ds β c a w)(h : Calls P f cap w (CallE P Q c a))(hc : cvlQ c = some (Sum.inl (.func (.func f) #[] cap)) := by kernel_rfl)(hb : fn.body.isNone = false := by kernel_rfl)(hn : (fn.name == "runtime.NumGoroutine") = false := by kernel_rfl) : At P Q c a w := by
 unfold cvlQ at hc;split at hc
 ·next o ho=>
  split at hc
  ·next t xs ts hop=>
   split at hc
   ·next hfe=>
    have hxe:xs=#[]:=by simpa using hfe
    obtain⟨hd,⟨rest,hr⟩,hw⟩:=vq ho;refine zbb hd hr (v7 I hw) ?_;have hcf:(callFunc f cap).run P w=.ok (.enter f cap) w:=by
     have h1 : ¬ fn.name = "runtime.NumGoroutine" := by simpa using hn
     have h2:¬ fn.body=none:=by intro h;rw[h]at hb;cases hb
     unfold callFunc;simp[go_sem,hf,h1,h2]
    have hrun:(execOp a.eval o).run P w=.ok (.enter f cap) w:=by
     unfold execOp;simp only[hop,hxe,resolve,xn I.fr hc,up,Deferred.ofValue];simp[invoke,hcf]
    unfold Oper.wp;rw[hrun,Oper.upon_enter];refine h.mono fun e w' he=>?_;cases e with
    | returned v=>
     have he':At P Q (xa c v) (a.put (yu c) v) w':=he;replace he':=he'.out;unfold AtD at he';simp only[xa,qz,hd,yu,hr,List.tail_cons,List.head?_cons,Option.bind_some]at he';exact he'
    | panicked ch=>exact k8 he
    | outgrown=>exact he.elim
   ·cases hc
  ·cases hc
 ·cases hc
theorem inD{f:Nat}{fn:Func}{args:Array Value}{Rt:Ending→World→Prop}(hf:P.funcs[f]? = some fn)(hJ:J w)(k:∀ a,SI J F [] (fun _=>0) (cfF fn args) a w→At P (bodyPostD P fn Rt) (cfF fn args) a w)(hb:fn.body.isSome=true:=by kernel_rfl):Calls P f args w Rt:=by
 have hb':fn.body=some (fn.body.getD .skip):=by
  cases h:fn.body with
  | none=>rw[h]at hb;cases hb
  | some x=>rfl
 refine calls_of_wp_defers hf hb' (zv (k _ ⟨?_,rfl,hJ,?_,?_,?_,?_,?_⟩))
 ·apply Array.ext';simp[begX,upO];exact(List.map_id _).symm
 ·intro p hp;cases hp
 ·intro p hp;cases hp
 ·intro p hp;cases hp
 ·intro p hp;cases hp
 ·simp[begX,xo]
end
theorem zi.mono{F G:Nat→Prop}{w w':World}(h:zi F w w')(k:∀ i,G i→F i):zi G w w':=⟨h.os,h.tape,h.output,h.size,fun i hi hG=>h.block i hi (k i hG)⟩
theorem res_row{P:Program}{J:World→Prop}{F:Nat→Prop}{ds:List Deferred}{β:Nat→Nat}{c:Cf}{a:Act}{w w':World}(I:SI J F ds β c a w)(id:Nat){r:Array Value}(hr:zb w' (β id) r){fn:Func}{v:Value}(h:resX P fn (c.tm,[(id,r)],c.nx)=some v:=by kernel_rfl)(hid:decide (id<c.nx)=true:=by kernel_rfl):(results fn a.tmps).run P w'=.ok v w':=
 resX_ok (st:=(c.tm,[(id,r)],c.nx)) (show Inv (w',0,β,ds) { w' with heap:=#[] } β c.tm [(id,r)] c.nx a w' from⟨I.fr,I.df,⟨rfl,rfl,rfl,Nat.zero_le _,fun k hk=>absurd hk (Nat.not_lt_zero k)⟩,by intro p hp;simp only[List.mem_singleton]at hp;subst hp;exact hr,fun p hp=>Nat.zero_le _,by intro p hp;simp only[List.mem_singleton]at hp;subst hp;exact of_decide_eq_true hid,
  by intro p hp q hq hpq;simp only[List.mem_singleton]at hp hq;subst hp;subst hq;exact absurd rfl hpq,⟨Nat.le_refl _,fun k o h _=>h⟩,Nat.zero_le _,fun i h=>absurd h (Nat.not_lt_zero i)⟩) h
theorem caught_ret{ι : Type}{fw : Nat}{fnw : Func}(hfw : prog.funcs[fw]? = some fnw)(hbw : fnw.body.isNone = false)(hnw : (fnw.name == "runtime.NumGoroutine") = false)(caps : Array Value)(w : World)(X : Nat → Prop)(hX : ∀ k, X k → k < w.heap.size)(J2 : ι → World → Prop)(F2 : ι → Nat → Prop)(R2 : ∀ y, yw (J2 y) (F2 y))(hw : ∀ w1, Below w.heap.size w w1 → Calls prog fw caps w1 fun e w2 => e = .returned T0 ∧ zi (fun k => ¬ X k) w1 w2 ∧ ∃ y, J2 y w2 ∧ ∀ k, F2 y k → k < w.heap.size ∨ w1.heap.size ≤ k) :
  Calls prog 37 #[.func (.func fw) #[] caps] w fun e w'=>e=.returned (Z 0)∧zi (fun k=>¬ X k) w w'∧∃ y,J2 y w'∧∀ k,F2 y k→k<w.heap.size∨w.heap.size<k:=by
 refine inD (J:=Below w.heap.size w) (F:=(· < w.heap.size)) func37 (Below.refl _ _) fun a I=>?_;refine goZ [] I fun β a w1 I hb=>?_;refine mfnQ (.func 69) [Sum.inr (0,0)] I ?_;refine goZ [] (I.same _) fun β1 a w1 I hb1=>?_;have hb10:β1 0=β 0:=agr hb1 0 rfl;refine dfrQ (f:=69) (cap:=#[ye (β 0)]) I fun a I=>?_;refine goZ [] I fun β2 a w2 I hb2=>?_;have hb20:β2 0=β 0:=agr hb2 0 hb10;have hge:¬ (β2 0<w.heap.size):=I.dis _ (zy (show y9 _ 0=some #[Z 0] by kernel_rfl));have hgl:=(I.rowAt 0 (r:=#[Z 0])).lt;refine vcall (cap:=caps) hfw I ?_ (by kernel_rfl) hbw hnw
 refine(hw w2 I.hJ).mono fun e w3 he=>?_;obtain⟨rfl,hg3,y,hy,hF⟩:=he;have hgE:zi (fun k=>¬ X k) w w3:=(zi.of_below I.hJ).trans hg3;have I3:SI (fun w'=>J2 y w'∧zi (fun k=>¬ X k) w w') (fun k=>F2 y k∨k<w.heap.size) _ β2 _ _ w3:=I.moved (hg3.mono fun k hk hx=>hk (hX k hx)) ⟨hy,hgE⟩ (fun k hk h=>by
  rcases h with h|h
  ·rcases hF k h with h1|h1
   ·exact h1
   ·omega
  ·exact h) T0
 have R3:yw (fun w'=>J2 y w'∧zi (fun k=>¬ X k) w w') (fun k=>F2 y k∨k<w.heap.size):=⟨fun a b h g=>⟨(R2 y).loc a b h.1 (g.mono fun k hk=>.inl hk),⟨g.os.trans h.2.os,g.tape.trans h.2.tape,g.output.trans h.2.output,Nat.le_trans h.2.size g.size,fun k hk hn=>(g.block k (Nat.lt_of_lt_of_le hk h.2.size) (.inr hk)).trans (h.2.block k hk hn)⟩⟩,fun a k h hk=>hk.elim (fun h1=>(R2 y).lt a k h.1 h1) fun h1=>Nat.lt_of_lt_of_le h1 h.2.size⟩
 refine goQ [] R3 I3 fun β4 a w4 I hb4=>?_;have hb40:β4 0=β 0:=agr hb4 0 hb20;refine atEnd (e:=.ret) ?_;show Leaves prog Tryz.f37 a.tmps _ a.defers .returning w4;rw[I.df];refine leaves_cons (f:=69) (args:=#[ye (β 0)]) (by simp) (by simp[go_sem]) ?_;refine(catch_idle (β 0) w4).mono ?_;rintro e u' w'' ⟨rfl,rfl,rfl⟩;have hres:(results Tryz.f37 a.tmps).run prog w''=.ok (Z 0) w'':=res_row I 0 (I.rowAt 0 (r:=#[Z 0]));exact⟨Z 0,hres,rfl,I.hJ.2,y,I.hJ.1,fun k hk=>(hF k hk).imp id fun h=>by omega⟩
theorem caught_thr{fw : Nat}{fnw : Func}(hfw : prog.funcs[fw]? = some fnw)(hbw : fnw.body.isNone = false)(hnw : (fnw.name == "runtime.NumGoroutine") = false)(caps : Array Value)(w : World)(X : Nat → Prop)(hX : ∀ k, X k → k < w.heap.size)(J2 : World → Prop)(F2 : Nat → Prop)(R2 : yw J2 F2)(hF2 : ∀ k, F2 k → k < w.heap.size)(hw : ∀ w1, Below w.heap.size w w1 → Calls prog fw caps w1 fun e w2 => e = .panicked PErr ∧ zi (fun k => ¬ X k) w1 w2 ∧ J2 w2) :
  Calls prog 37 #[.func (.func fw) #[] caps] w fun e w'=>e=.returned (Z 2)∧zi (fun k=>¬ X k) w w'∧J2 w':=by
 refine inD (J:=Below w.heap.size w) (F:=(· < w.heap.size)) func37 (Below.refl _ _) fun a I=>?_;refine goZ [] I fun β a w1 I hb=>?_;refine mfnQ (.func 69) [Sum.inr (0,0)] I ?_;refine goZ [] (I.same _) fun β1 a w1 I hb1=>?_;have hb10:β1 0=β 0:=agr hb1 0 rfl;refine dfrQ (f:=69) (cap:=#[ye (β 0)]) I fun a I=>?_;refine goZ [] I fun β2 a w2 I hb2=>?_;have hb20:β2 0=β 0:=agr hb2 0 hb10;have hge:¬ (β2 0<w.heap.size):=I.dis _ (zy (show y9 _ 0=some #[Z 0] by kernel_rfl));have hr0:=I.rowAt 0 (r:=#[Z 0]);refine vcall (cap:=caps) hfw I ?_ (by kernel_rfl) hbw hnw
 refine(hw w2 I.hJ).mono fun e w3 he=>?_;obtain⟨rfl,hg3,hj3⟩:=he;have hgE:zi (fun k=>¬ X k) w w3:=(zi.of_below I.hJ).trans hg3;have hr3:zb w3 (β 0) #[Z 0]:=by
  rw[hb20]at hr0 hge;obtain⟨t,ht⟩:=hr0;exact⟨t,(hg3.block _ (zb.lt ⟨t,ht⟩) fun h=>hge (hX _ h)).trans ht⟩
 show Leaves prog Tryz.f37 a.tmps _ a.defers (.panicking PErr) w3;rw[I.df];refine leaves_cons (f:=69) (args:=#[ye (β 0)]) (by simp) (by simp[go_sem]) ?_;refine(catch_panic (β 0) w3 hr3).mono ?_;rintro e u' w4 ⟨rfl,rfl,hr4,hg4⟩;show Leaves prog Tryz.f37 a.tmps _ [] .returning w4;rw[hb20]at hge
 exact⟨Z 2,res_row I 0 (hb20.symm ▸ hr4),rfl,⟨hg4.os.trans hgE.os,hg4.tape.trans hgE.tape,hg4.output.trans hgE.output,Nat.le_trans hgE.size hg4.size,fun k hk hn=>(hg4.block k (Nat.lt_of_lt_of_le hk hgE.size) fun e=>hge (e ▸ hk)).trans (hgE.block k hk hn)⟩,R2.loc w3 w4 hj3 (hg4.mono fun k hk e=>hge (e ▸ hF2 k hk))⟩
structure EO (W0:World) (e sz:Nat) (v:Value) (n:Nat) (xs:List Value) (w:World):Prop where
 bw:Below W0.heap.size W0 w
 own:w.ownsRow W0.heap.size e sz v n xs
theorem EO.rs(W0:World)(e sz:Nat)(v:Value)(n:Nat)(xs:List Value):yw (EO W0 e sz v n xs) (EF W0 v):=by
 refine⟨fun w w' h gr=>⟨⟨gr.os.trans h.bw.os,gr.tape.trans h.bw.tape,gr.output.trans h.bw.output,Nat.le_trans h.bw.size gr.size,fun k hk=>(gr.block k (Nat.lt_of_lt_of_le hk h.bw.size) (.inl hk)).trans (h.bw.block k hk)⟩,x9 h.own gr fun k hk=>.inr hk⟩,fun w k h hk=>?_⟩;rcases hk with hk | hk
 ·exact Nat.lt_of_lt_of_le hk h.bw.size
 ·exact(h.own.lt k hk).2
theorem owns_base{w:World}{b b' e s:Nat}{v:Value}{n:Nat}{xs:List Value}(h:w.ownsRow b e s v n xs)(hb:b'≤b):w.ownsRow b' e s v n xs:=by
 obtain⟨h1,h2⟩:=h;refine⟨h1,?_⟩;rcases h2 with h2|⟨g,cap,cur,a1,a2,a3⟩
 ·exact .inl h2
 ·exact .inr ⟨g,cap,cur,a1,Nat.le_trans hb a2,a3⟩
theorem bd_fr(s:List UInt8)(w:World):(Instr.build 124 (([0]:List Nat).zip [str s]).toArray).run prog w=.ok (.agg #[str s,Z 0,Z 0]) w:=by kernel_rfl
theorem bd_wr(s:List UInt8)(w:World):(Instr.build 79 (([0]:List Nat).zip [str s]).toArray).run prog w=.ok (.agg #[str s,Z 0]) w:=by kernel_rfl
theorem SI.disG{J:World→Prop}{F:Nat→Prop}{ds:List Deferred}{β:Nat→Nat}{c:Cf}{a:Act}{w:World}(I:SI J F ds β c a w)(id:Nat){r:Array Value}(h:y9 c.rows id=some r:=by kernel_rfl):¬ F (β id):=I.dis _ (zy h)
theorem SI.neG{J:World→Prop}{F:Nat→Prop}{ds:List Deferred}{β:Nat→Nat}{c:Cf}{a:Act}{w:World}(I:SI J F ds β c a w)(i j:Nat){r r':Array Value}(hij:i≠j)(h:y9 c.rows i=some r:=by kernel_rfl)(h':y9 c.rows j=some r':=by kernel_rfl):β i≠β j:=I.inj _ (zy h) _ (zy h') hij
theorem yw.both{J1 J2:World→Prop}{F1 F2:Nat→Prop}(a:yw J1 F1)(b:yw J2 F2):yw (fun w=>J1 w∧J2 w) (fun k=>F1 k∨F2 k):=
 ⟨fun w w' h g=>⟨a.loc w w' h.1 (g.mono fun k hk=>.inl hk),b.loc w w' h.2 (g.mono fun k hk=>.inr hk)⟩,fun w k h hk=>hk.elim (a.lt w k h.1) (b.lt w k h.2)⟩
theorem xr{a b:ByteArray}{q:Bool}(h:decide (a≠b)=q)(x y:Operand)(w:World):(do eqGuard .neq 9 x y (.string a) (.string b);binOp .neq 9 (.string a) (.string b):Sem Value).run prog w=.ok (.bool q) w:=by
 obtain⟨la,rfl⟩:∃ l:List UInt8,a=⟨l.toArray⟩:=⟨a.data.toList,by simp⟩
 obtain⟨lb,rfl⟩:∃ l:List UInt8,b=⟨l.toArray⟩:=⟨b.data.toList,by simp⟩
 have e:((⟨la.toArray⟩:ByteArray)=⟨lb.toArray⟩)↔la=lb:=⟨fun e=>by have:=congrArg ByteArray.data e;simpa using this,fun e=>by rw[e]⟩
 rw[← h];by_cases hx:la=lb
 ·simp[go_sem,hx]
 ·have h2:¬ ((⟨la.toArray⟩:ByteArray)=⟨lb.toArray⟩):=fun q=>hx (e.1 q)
  simp[go_sem,hx]
def eqT {α:Type} (eq:α→α→Bool) (t u:Int×Nat×ByteArray×α):Bool:=decide (t.1=u.1)&&decide (t.2.1=u.2.1)&&decide (t.2.2.1=u.2.2.1)&&eq t.2.2.2 u.2.2.2
def sameL {α:Type} (eq:α→α→Bool):List (Int×Nat×ByteArray×α)→List (Int×Nat×ByteArray×α)→Bool
 | [],[]=>true
 | t::l,u::m=>eqT eq t u&&sameL eq l m
 | _,_=>false
def same:(n:Nat)→TL n→TL n→Bool
 | 0,_,_=>true
 | n+1,l,m=>sameL (same n) l m
theorem LA.slice{w:World}:∀{n:Nat} {v:Value} {l:TL n},LA w n v l→∃ ad m cap,v=.slice ad m cap
 | 0,v,l,h=>by obtain⟨ad,cap,hv⟩:=h;exact⟨ad,0,cap,hv⟩
 | n+1,v,l,h=>by obtain⟨ad,cap,hv,_⟩:=h;exact⟨ad,_,cap,hv⟩
end Go.Proofs.YtdeompgdhaomgaaGreatDoor
