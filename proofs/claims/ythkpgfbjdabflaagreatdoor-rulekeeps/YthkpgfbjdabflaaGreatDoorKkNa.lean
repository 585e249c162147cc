/- Laid one behind the other: Na, Nb, Nc, Nd, Ne, Nf. -/
import Derived.Test.YthkpgfbjdabflaaGreatDoorKkKg
import Derived.Test.YthkpgfbjdabflaaGreatDoorKkEq
import Derived.Shelf.Strings.Repeat
namespace Go.Proofs.YthkpgfbjdabflaaGreatDoor
open Go.RowKit Go.Sort Tryz
set_option linter.unusedVariables false
set_option maxRecDepth 100000
set_option maxHeartbeats 4000000
section
variable {P:Program} {J:World→Prop} {F:Nat→Prop} {ds:List Deferred} {β:Nat→Nat} {c:Cf} {a:Act} {w:World} {Q:Exit→Act→World→Prop}
def evF (tm:Vs):Operand→Option SV
 | .func f=>some (Sum.inl (.func (.func f) #[] #[]))
 | x=>evQ tm x
def calF (tm:Vs):Operand→Option (Nat×List Value)
 | .func f=>some (f,[])
 | x=>match evQ tm x with
  | some (Sum.inl (.func (.func f) fs cs))=>if fs=#[]then some (f,cs.toList)else none
  | _=>none
def callX (c:Cf):Option (Nat×List SV):=match kg c with
 | some o=>match o.op with
  | .call { callee:=.value x,args:=xs,argTypes:=_ }=>match calF c.tm x with
   | some (f,cs)=>(xs.toList.mapM (evF c.tm)).map fun ss=>(f,ss++cs.map Sum.inl)
   | none=>none
  | _=>none
 | none=>none
theorem evF_eval{tm:Vs}(ha:a.tmps=(tm.map (upO β)).toArray){x:Operand}{s:SV}(h:evF tm x=some s):a.eval x=up β s:=by
 cases x with
 | func f=>simp only[evF,Option.some.injEq]at h;subst h;rfl
 | const v=>exact xk ha h
 | tmp t=>exact xk ha h
 | global g=>exact xk ha h
theorem calF_eval{tm:Vs}(ha:a.tmps=(tm.map (upO β)).toArray){x:Operand}{f:Nat}{cs:List Value}(h:calF tm x=some (f,cs)):a.eval x=.func (.func f) #[] cs.toArray:=by
 have key:∀ x,(match evQ tm x with | some (Sum.inl (.func (.func f) fs cs))=>if fs=#[]then some (f,cs.toList)else none | _=>none)=some (f,cs)→a.eval x=.func (.func f) #[] cs.toArray:=by
  intro x h;split at h
  ·next f' fs cs' hx=>
   split at h
   ·next hfs=>
    cases h;subst hfs;rw[xk ha hx];rfl
   ·cases h
  ·cases h
 cases x with
 | func f'=>simp only[calF,Option.some.injEq,Prod.mk.injEq]at h;obtain⟨rfl,rfl⟩:=h;rfl
 | const v=>exact key _ h
 | tmp t=>exact key _ h
 | global g=>exact key _ h
theorem mapF_ok{tm:Vs}(ha:a.tmps=(tm.map (upO β)).toArray):∀{xs:List Operand} {ss:List SV},xs.mapM (evF tm)=some ss→xs.map a.eval=ss.map (up β)
 | [],vs,h=>by simp at h;subst h;rfl
 | x::xs,vs,h=>by
  rw[List.mapM_cons]at h;cases h1:evF tm x with
  | none=>rw[h1]at h;simp at h
  | some v=>
   cases h2:xs.mapM (evF tm)with
   | none=>rw[h1,h2]at h;simp at h
   | some us=>
    rw[h1,h2]at h;simp at h;subst h;rw[List.map_cons,mapF_ok ha h2,evF_eval ha h1];rfl
theorem fv_any{f : Nat}{fn : Func}(hf : P.funcs[f]? = some fn)(hb : fn.body.isNone = false)(hn : (fn.name == "runtime.NumGoroutine") = false){x : Operand}{cs : Array Value}(hx : a.eval x = .func (.func f) #[] cs)(xs : Array Operand)(ts : Array TypeId)(ty : TypeId)(w : World) : (do let d ← resolve a.eval { callee := .value x, args := xs, argTypes := ts } ty; invoke d.target d.args : Sem Next).run P w = .ok (.enter f (xs.map a.eval ++ cs)) w := by
 have h:(callFunc f (xs.map a.eval++cs)).run P w=.ok (.enter f (xs.map a.eval++cs)) w:=by
  have h1 : ¬ fn.name = "runtime.NumGoroutine" := by simpa using hn
  have h2:¬ fn.body=none:=by intro h;rw[h]at hb;cases hb
  unfold callFunc;simp[go_sem,hf,h1,h2]
 have h3:(resolve a.eval { callee:=.value x,args:=xs,argTypes:=ts } ty).run P w=.ok { target:=.fn (.func f) cs,args:=xs.map a.eval } w:=by
  unfold resolve;simp only[hx,Deferred.ofValue,Sem.run_pure,Array.empty_append]
 rw[Sem.run_bind,h3,Result.andThen_ok];unfold invoke;exact h
theorem kl{f : Nat}{fn : Func}(ss : List SV)(hf : P.funcs[f]? = some fn)(I : SI J F ds β c a w)(h : Calls P f (ss.map (up β)).toArray w (CallE P Q c a))(hc : callX c = some (f, ss) := by kernel_rfl)(hb : fn.body.isNone = false := by kernel_rfl)(hn : (fn.name == "runtime.NumGoroutine") = false := by kernel_rfl) : At P Q c a w := by
 unfold callX at hc;split at hc
 ·next o ho=>
  obtain⟨hd,⟨rest,hr⟩,hw⟩:=vg ho;refine zaz hd hr (vf I hw) ?_;split at hc
  ·next x xs ts hop=>
   split at hc
   ·next g cs hg=>
    simp only[Option.map_eq_some_iff,Prod.mk.injEq]at hc;obtain⟨ss',hm,rfl,rfl⟩:=hc;have hx:=mapF_ok I.fr hm;have he:(execOp a.eval o).run P w=.ok (.enter g (xs.map a.eval++cs.toArray)) w:=by
     unfold execOp;simp only[hop];exact fv_any hf hb hn (calF_eval I.fr hg) xs ts o.type w
    have hxa:xs.map a.eval++cs.toArray=((ss'++cs.map Sum.inl).map (up β)).toArray:=by
     apply Array.ext';simp only[Array.toList_append,Array.toList_map,hx,List.map_append,List.map_map]
     congr 1
     exact(List.map_id cs).symm
    unfold Oper.wp;rw[he,hxa,Oper.upon_enter];refine h.mono fun e w' he=>?_;cases e with
    | returned v=>
     have he':At P Q (xp c v) (a.put (yt c) v) w':=he;replace he':=he'.out;unfold AtD at he';simp only[xp,qt,hd,yt,hr,List.tail_cons,List.head?_cons,Option.bind_some]at he';exact he'
    | panicked ch=>exact zdc he
    | outgrown=>exact he.elim
   ·cases hc
  ·cases hc
 ·cases hc
theorem bcallX{f : Nat}{fn : Func}(ss : List SV)(hf : P.funcs[f]? = some fn)(R : y8 J F)(I : SI J F ds β c a w)(post : Value → Prop)(hcall : Calls P f (ss.map (up β)).toArray w fun e w' => Below w.heap.size w w' ∧ ∃ v, e = .returned v ∧ post v)(k : ∀ v w', post v → SI J F ds β (xp c v) (a.put (yt c) v) w' → At P Q (xp c v) (a.put (yt c) v) w')(hc : callX c = some (f, ss) := by kernel_rfl)(hb : fn.body.isNone = false := by kernel_rfl)(hn : (fn.name == "runtime.NumGoroutine") = false := by kernel_rfl) : At P Q c a w := by
 refine kl ss hf I (hcall.mono fun e w' he=>?_) hc hb hn;obtain⟨hbl,v,rfl,hv⟩:=he;exact k v w' hv (I.moved (zq.of_below hbl) (R.loc w w' I.hJ (zq.of_below hbl)) (fun _ _ h=>h) v)
def mfX (c:Cf):Option (Fn×List SV):=match kg c with
 | some o=>match o.op with
  | .makeFunc fn fs cs=>if fs=#[]then(cs.toList.mapM (evQ c.tm)).map fun ss=>(fn,ss)else none
  | .assign (.func f)=>some (.func f,[])
  | _=>none
 | none=>none
theorem mkfX{fn:Fn}{ss:List SV}(I:SI J F ds β c a w)(k:At P Q (xp c (.func fn #[] (ss.map (up β)).toArray)) (a.put (yt c) (.func fn #[] (ss.map (up β)).toArray)) w)(hc:mfX c=some (fn,ss):=by kernel_rfl):At P Q c a w:=by
 unfold mfX at hc;split at hc
 ·next o ho=>
  split at hc
  ·next fn' fs cs hop=>
   split at hc
   ·next hfs=>
    simp only[Option.map_eq_some_iff,Prod.mk.injEq]at hc;obtain⟨ss',hm,rfl,rfl⟩:=hc;refine vstep ho I (w':=w) ?_ k;have hx:=mapS_ok I.fr hm;have hxa:cs.map a.eval=(ss'.map (up β)).toArray:=by rw[← hx];apply Array.ext';simp
    subst hfs;unfold execOp;simp[hop,Instr.makeFunc,hxa,Sem.run_pure]
   ·cases hc
  ·next f hop=>
   cases hc;refine vstep ho I (w':=w) ?_ k;unfold execOp;simp only[hop,Sem.run_pure];rfl
  ·cases hc
 ·cases hc
end
section
variable {P:Program} {J:World→Prop} {F:Nat→Prop} {ds:List Deferred} {β:Nat→Nat} {c:Cf} {a:Act} {w:World} {Q:Exit→Act→World→Prop}
def yldQ (c:Cf):Option (Array Oper×List Ki):=match c.dn,c.rest,c.ks with
 | none,[],Sum.inl (.region _ ops false)::ks=>some (ops,ks)
 | _,_,_=>none
def inYc (c:Cf):Cf:=match yldQ c with
 | some (ops,ks)=>{ c with ops:=ops,rest:=ops.toList,ks:=ks }
 | none=>c
theorem inY(I:SI J F ds β c a w)(k:SI J F ds β (inYc c) a w→At P Q (inYc c) a w)(hc:(yldQ c).isSome=true:=by kernel_rfl):At P Q c a w:=by
 cases hy:yldQ c with
 | none=>rw[hy]at hc;cases hc
 | some r=>
  obtain⟨ops,ks⟩:=r;have e:inYc c={ c with ops:=ops,rest:=ops.toList,ks:=ks }:=by unfold inYc;rw[hy]
  rw[e]at k;have h:=(k (I.cf rfl rfl rfl)).out;unfold yldQ at hy;split at hy
  ·next rid ops' ks' hd hr hk=>
   cases hy;refine⟨?_⟩;unfold AtD at h ⊢;simp only[hd]at h;rw[hd,hr,hk];have h2:wpL P ops.toList.toArray (QK P Q ks) ops.toList a w:=by simpa using h
   have h3:=wp_region_lit (id:=rid) (wpL_list h2);have h4:(Code.region rid ops false).wp P (QK P Q ks) a w:=by simpa using h3
   exact h4
  ·cases hy
end
theorem run_quoM{x y z:Int}(hy:y≠0)(h:IntKind.i64.wrap (x.tdiv y)=z)(o1 o2:Operand)(w:World):(do eqGuard .quo 3 o1 o2 (Z x) (Z y);binOp .quo 3 (Z x) (Z y):Sem Value).run prog w=.ok (Z z) w:=by simp[go_sem,h,hy]
def mxO {T:World→Prop} {k:IntKind} {x y z:Int} (h:(if x<y then y else x)=z):Fa prog T:=Sum.inr (Sum.inr
 ⟨fun o=>match o with | .call { callee:=.builtin .max,.. }=>true | _=>false,#[.int k x,.int k y],.int k z,true,by
  intro a w oo _ hok hx;cases hop:oo.op with
  | call cc=>
   rw[hop]at hok hx;obtain⟨callee,xs,ts⟩:=cc;cases callee with
   | builtin bb=>
    cases bb with
    | max=>
     have hx':xs.map a.eval=#[.int k x,.int k y]:=by
      rw[← hx];apply Array.ext';simp[qx]
     unfold execOp;simp[hop,go_sem,hx',Builtin.max_,Builtin.max2,h]
    | _=>simp at hok
   | _=>simp at hok
  | _=>rw[hop]at hok;simp at hok⟩)
theorem wzf{n:Int}(h0 : -9223372036854775808≤n)(h:n<9223372036854775808):IntKind.i64.wrap n=n:=by
 rw[IntKind.wrap_i64 n];omega
def wds (n:Int):Int:=if n≤0 then 0 else(n-1)/32+1
theorem wds_lo{n:Int}(h:n≤0):wds n=0:=by unfold wds;rw[if_pos h]
theorem wds_hi{n:Int}(h:0<n):wds n=(n-1)/32+1:=by unfold wds;rw[if_neg (by omega)]
theorem za3(n:Int)(h0 : -9223372036854775808≤n)(h1:n<9223372036854775808):RT 145 #[Z n] (Z (wds n)):=by
 refine fun w=>inZ func145 fun a I=>?_;by_cases hn:n<0
 ·refine goZ [klT n 0] I fun β a w1 I1 hb=>?_;exact zm (v:=Z 0) I1 ⟨by rw[wds_lo (by omega)],I1.hJ⟩
 have hq:IntKind.i64.wrap (n.tdiv 32)=n/32:=by rw[Int.tdiv_eq_ediv_of_nonneg (by omega),wzf (by omega) (by omega)]
 have hr:n.tmod 32=n%32:=by rw[Int.tmod_eq_emod_of_nonneg (by omega)]
 obtain⟨q,eq⟩:∃ q,n/32=q:=⟨_,rfl⟩
 obtain⟨r,er⟩:∃ r,n%32=r:=⟨_,rfl⟩
 rw[eq]at hq;rw[er]at hr;by_cases hz:0<r
 ·refine goZ [klF n 0,bO .quo 3 (run_quoM (x:=n) (y:=32) (z:=q) (by decide) hq),bO .rem 3 (run_remZ (x:=n) (y:=32) (z:=r) (by decide) hr),kgT r 0,kaZ q 1 (q+1)] I fun β a w1 I1 hb=>?_;exact zm (v:=Z (q+1)) I1 ⟨by rw[wds_hi (by omega)];congr 2;omega,I1.hJ⟩
 ·refine goZ [klF n 0,bO .quo 3 (run_quoM (x:=n) (y:=32) (z:=q) (by decide) hq),bO .rem 3 (run_remZ (x:=n) (y:=32) (z:=r) (by decide) hr),kgF r 0] I fun β a w1 I1 hb=>?_;refine zm (v:=Z q) I1 ⟨?_,I1.hJ⟩;by_cases h:n=0
  ·rw[wds_lo (by omega)];congr 2;omega
  ·rw[wds_hi (by omega)];congr 2;omega
def lim (n:Int):Int:=if 65536<(if n<0 then 0 else n)then 65536 else(if n<0 then 0 else n)
def cst (n:Int):Int:=3*lim n+lim n*lim n/512
theorem lim_bd(n:Int):0≤lim n∧lim n≤65536:=by unfold lim;split<;>split<;>omega
theorem sq_bd{p:Int}(h0:0≤p)(h1:p≤65536):0≤p*p∧p*p≤4294967296:=by
 refine⟨Int.mul_nonneg h0 h0,?_⟩;have:=Int.mul_le_mul h1 h1 h0 (by omega);omega
theorem cst_bd(n:Int):0≤cst n∧cst n≤8585216:=by
 have h:=lim_bd n;have h2:=sq_bd h.1 h.2;unfold cst;generalize lim n*lim n=s at *;omega
theorem price_any(n:Int):RT 283 #[Z n] (Z (cst n)):=by
 intro w;have hl:=lim_bd n;have hs:=sq_bd hl.1 hl.2;unfold cst;have e1:(if 65536<(if n<0 then 0 else n)then(65536:Int)else(if n<0 then 0 else n))=lim n:=rfl;generalize lim n=p at *;obtain⟨s,es⟩:∃ s,p*p=s:=⟨_,rfl⟩
 rw[es]at hs ⊢;obtain⟨m,em⟩:∃ m,(if n<0 then(0:Int)else n)=m:=⟨_,rfl⟩
 rw[em]at e1;refine inZ func283 fun a I=>?_;refine goZ [mxO (k:=.i64) (x:=n) (y:=0) (z:=m) em,mnO (x:=m) (y:=65536) (z:=p) e1,bO .mul 3 (vc (x:=3) (y:=p) (z:=3*p) (by rw[wzf (by omega) (by omega)])),bO .mul 3 (vc (x:=p) (y:=p) (z:=s) (by rw[es,wzf (by omega) (by omega)])),bO .quo 3 (run_quoM (x:=s) (y:=512) (z:=s/512) (by decide) (by rw[Int.tdiv_eq_ediv_of_nonneg (by omega),wzf (by omega) (by omega)])),kaZ (3*p) (s/512) (3*p+s/512)] I fun β a w1 I1 hb=>?_;exact ye (v:=Z (3*p+s/512)) I1
abbrev cloV (g:Nat):Value:=.func (.func 284) #[] #[zz g]
theorem from_any(n:Int)(w:World):Calls prog 211 #[Z n] w fun e w'=>∃ g,e=.returned (cloV g)∧w.heap.size≤g∧zb w' g #[Z (cst n)]∧Below w.heap.size w w':=by
 refine inZ func211 fun a I=>?_;have hp:=price_any n;generalize cst n=p at *;refine goZ [kC func283 hp] I fun β a w1 I1 hb=>?_;refine mkfX (fn:=.func 284) (ss:=[Sum.inr (0,0)]) I1 ?_;have hr:=I1.rowAt 0 (r:=#[Z p]);have hd:¬ (β 0<w.heap.size):=I1.dis (0,#[Z p]) (yk (by kernel_rfl));refine goZ [] (I1.same (cloV (β 0))) fun β2 a2 w2 I2 hb2=>?_;have hβ:β2 0=β 0:=agr hb2 0 rfl;exact zm (v:=cloV (β 0)) I2 ⟨_,rfl,by omega,hβ ▸ I2.rowAt 0 (r:=#[Z p]),I2.hJ⟩
theorem clo_any{g:Nat}{p:Int}{w:World}(hr:zb w g #[Z p])(hp:0≤p∧p≤8585216)(n:Int):Calls prog 284 #[Z n,zz g] w fun e w'=>e=.returned (Z (cst n-p))∧Below w.heap.size w w':=by
 have hq:=price_any n;have hc:=cst_bd n;generalize cst n=q at *;have hT:∀ w',Below w.heap.size w w'→zb w' g #[Z p]:=fun w' hb=>hr.below hb
 have hld:∀ w',zb w' g #[Z p]→(loadVar 3 ⟨g,0,none⟩).run prog w'=.ok (Z p) w':=fun w' h=>zb4 (cs:=[Z p]) (fun j c hc=>by rw[h.cell];simpa using hc) 0 rfl 3 underlying3 rfl
 refine inZ func284 fun a I=>?_;refine goZ [] I fun β a w1 I1 hb=>?_;refine dwT (T:=fun w'=>zb w' g #[Z p]) 4 [kC func283 hq,ldA 3 hld,ksZ q p (q-p)] (zd w) hT zk.post I1 fun a2 w2 I2=>?_;refine goZ [] I2 fun β a w3 I3 hb=>?_;exact ye (v:=Z (q-p)) I3
theorem y8.row{J:World→Prop}{F:Nat→Prop}(R:y8 J F)(g:Nat)(r:Array Value):y8 (fun w'=>J w'∧zb w' g r) (fun k=>F k∨k=g):=by
 refine⟨fun A B h gr=>⟨R.loc A B h.1 ⟨gr.os,gr.tape,gr.output,gr.size,fun k hk hF=>gr.block k hk (.inl hF)⟩,?_⟩,fun A k h hk=>?_⟩
 ·obtain⟨t,ht⟩:=h.2;exact⟨t,by rw[gr.block g (Array.getElem?_eq_some_iff.1 ht).1 (.inr rfl)];exact ht⟩
 ·rcases hk with hk|rfl
  ·exact R.lt A k h.1 hk
  ·exact h.2.lt
abbrev clJ (w:World) (g:Nat) (p:Int) (w':World):Prop:=Below w.heap.size w w'∧zb w' g #[Z p]
abbrev clF (w:World) (g k:Nat):Prop:=k<w.heap.size∨k=g
theorem clR(w:World)(g:Nat)(p:Int):y8 (clJ w g p) (clF w g):=(zd w).row g _
section
open Go.RowKit Go.Sort Go.Shelf
def rpRen:Go.Shelf.Ren:=⟨fun | 105=>285 | 212=>306 | 99=>307 | 165=>308 | 166=>309 | 170=>310 | 169=>311 | 263=>325 | 264=>289 | 206=>326 | 240=>327 | 241=>328 | 276=>331 | 277=>332 | n=>n,fun | 9=>9 | 3=>3 | 4=>4 | 20=>20 | 0=>0 | 46=>72 | 109=>233 | 5=>5 | 72=>238 | 76=>241 | 51=>244 | 146=>261 | 53=>23 | 148=>79 | 70=>236 | 37=>53 | 75=>240 | 127=>263 | 164=>264 | 80=>243 | n=>n,fun | n=>n⟩
theorem rpLays:Go.Proofs.Lays.n105 prog rpRen:={
 mixed:=by kernel_rfl
 f99:=func307.trans (congrArg some (by kernel_rfl))
 f105:=func285.trans (congrArg some (by kernel_rfl))
 f165:=func308.trans (congrArg some (by kernel_rfl))
 f166:=func309.trans (congrArg some (by kernel_rfl))
 f169:=func311.trans (congrArg some (by kernel_rfl))
 f170:=func310.trans (congrArg some (by kernel_rfl))
 f206:=func326.trans (congrArg some (by kernel_rfl))
 f212:=func306.trans (congrArg some (by kernel_rfl))
 f240:=func327.trans (congrArg some (by kernel_rfl))
 f241:=func328.trans (congrArg some (by kernel_rfl))
 f263:=func325.trans (congrArg some (by kernel_rfl))
 f264:=func289.trans (congrArg some (by kernel_rfl))
 f276:=func331.trans (congrArg some (by kernel_rfl))
 f277:=func332.trans (congrArg some (by kernel_rfl))
 t0:=underlying0
 a0:=Tryz.isAgg0
 z0:=Tryz.sizeOf0
 v0:=Tryz.zeroValue0
 t3:=underlying3
 a3:=Tryz.isAgg3
 z3:=Tryz.sizeOf3
 v3:=Tryz.zeroValue3
 t4:=underlying4
 a4:=Tryz.isAgg4
 z4:=Tryz.sizeOf4
 v4:=Tryz.zeroValue4
 t5:=underlying5
 a5:=Tryz.isAgg5
 z5:=Tryz.sizeOf5
 v5:=Tryz.zeroValue5
 t9:=underlying9
 a9:=Tryz.isAgg9
 z9:=Tryz.sizeOf9
 v9:=Tryz.zeroValue9
 t20:=underlying20
 a20:=Tryz.isAgg20
 z20:=Tryz.sizeOf20
 v20:=Tryz.zeroValue20
 t37:=underlying53
 a37:=Tryz.isAgg53
 z37:=Tryz.sizeOf53
 v37:=Tryz.zeroValue53
 t46:=underlying72
 a46:=Tryz.isAgg72
 z46:=Tryz.sizeOf72
 v46:=Tryz.zeroValue72
 t51:=underlying244
 a51:=Tryz.isAgg244
 z51:=Tryz.sizeOf244
 v51:=Tryz.zeroValue244
 t53:=underlying23
 a53:=Tryz.isAgg23
 z53:=Tryz.sizeOf23
 v53:=Tryz.zeroValue23
 t70:=underlying236
 a70:=Tryz.isAgg236
 z70:=Tryz.sizeOf236
 v70:=Tryz.zeroValue236
 t72:=underlying238
 a72:=Tryz.isAgg238
 z72:=Tryz.sizeOf238
 v72:=Tryz.zeroValue238
 t75:=underlying240
 a75:=Tryz.isAgg240
 z75:=Tryz.sizeOf240
 v75:=Tryz.zeroValue240
 t76:=underlying241
 a76:=Tryz.isAgg241
 z76:=Tryz.sizeOf241
 v76:=Tryz.zeroValue241
 t109:=underlying233
 a109:=Tryz.isAgg233
 z109:=Tryz.sizeOf233
 v109:=Tryz.zeroValue233
 t127:=underlying263
 a127:=Tryz.isAgg263
 z127:=Tryz.sizeOf263
 v127:=Tryz.zeroValue263
 t146:=underlying261
 a146:=Tryz.isAgg261
 z146:=Tryz.sizeOf261
 v146:=Tryz.zeroValue261
 t148:=underlying79
 a148:=Tryz.isAgg79
 z148:=Tryz.sizeOf79
 v148:=Tryz.zeroValue79
 t164:=underlying264
 a164:=Tryz.isAgg264
 z164:=Tryz.sizeOf264
 v164:=Tryz.zeroValue264 }
theorem rpExtra:Builder.Extra prog rpRen:={
 sizeBuilder:=by kernel_rfl
 liesBuilder:=by kernel_rfl
 t5:=underlying5
 a5:=Tryz.isAgg5
 z5:=Tryz.sizeOf5
 v5:=Tryz.zeroValue5
 infoByte:=by kernel_rfl
 cellsByte:=by kernel_rfl
 sizeByte:=by kernel_rfl
 neB5:=by decide }
abbrev zr (n:Nat):List UInt8:=List.replicate n 0
theorem rep_zr:∀ c,Lib.repeatL [0] c=zr c
 | 0=>rfl
 | c+1=>by rw[Lib.repeatL,rep_zr c];rfl
theorem rep_any(c:Nat)(hc:c≤1000000):RT 285 #[str [0],Z c] (str (zr c)):=by
 intro w;have h:=Any.strings_Repeat rpLays rpExtra ⟨#[0]⟩ c w (by omega) (by rw[show(⟨#[0]⟩:ByteArray).size=1 from rfl];omega);rw[rep_zr]at h;exact h
def fil (s:List UInt8) (n:Nat):List UInt8:=s++zr (n-s.length)
theorem fil_len(s:List UInt8)(n:Nat):(fil s n).length=max s.length n:=by unfold fil;rw[List.length_append,List.length_replicate];omega
theorem fill_any(s:List UInt8)(n:Nat)(hs:s.length≤1000000)(hn:n≤1000000):RT 212 #[str s,Z n] (str (fil s n)):=by
 intro w;unfold fil;have hr:=rep_any (n-s.length) (by omega);have hm:(if(n:Int)-s.length<0 then(0:Int)else(n:Int)-s.length)=((n-s.length:Nat):Int):=by split<;>omega
 have hl:(zr (n-s.length)).length≤1000000:=by rw[List.length_replicate];omega
 generalize n-s.length=k at *;generalize zr k=z at *;refine inZ func212 fun a I=>?_;refine goZ [lnO s,ksZ n s.length ((n:Int)-s.length),mxO (k:=.i64) (x:=(n:Int)-s.length) (y:=0) (z:=k) hm,kC func285 hr,bO .add 9 (zct s z (by omega))] I fun β a w1 I1 hb=>?_;exact ye (v:=str (s++z)) I1
theorem bd45_1(a:Int)(w:World):(Instr.build 45 (([0]:List Nat).zip [.int .u64 a]).toArray).run prog w=.ok (I4 a 0 0 0) w:=by kernel_rfl
theorem bd45_0(w:World):(Instr.build 45 (([]:List Nat).zip []).toArray).run prog w=.ok (I4 0 0 0 0) w:=by kernel_rfl
theorem U_sml(a:Nat)(h:a<M):U a=U4 a 0 0 0:=by
 obtain⟨h0,h1,h2,h3⟩:=za7 a h;unfold U;rw[h0,h1,h2,h3]
theorem zaw(x:Nat):RT 48 #[B x] (U4 x 0 0 0):=by
 refine fun w=>inZ func48 fun a I=>?_;refine goZ [dO 45 [0] (bd45_1 x)] I fun β a w1 I1 hb=>?_;exact ye (v:=U4 x 0 0 0) I1
theorem cnv64(n:Nat)(h:n<1000000000000)(w:World):(convert 3 23 (Z n)).run prog w=.ok (B n) w:=by
 have:IntKind.u64.wrap (n:Int)=n:=by unfold IntKind.wrap;simp[IntKind.signed,IntKind.bits];omega
 simp[go_sem,this]
theorem cnv46(n:Nat)(h:n<1000000000000)(w:World):(convert 23 3 (B n)).run prog w=.ok (Z n) w:=by
 have:IntKind.i64.wrap (n:Int)=n:=wz (by omega) (by omega);simp[go_sem,this]
theorem from64{l:List UInt8}{k:Nat}(hk:k≤l.length)(w:World):(Instr.sliceAt 9 (str l) (some (B k)) none none).run prog w=.ok (str (l.drop k)) w:=by
 rw[run_sliceAt_string (P:=prog) w 9 (str l) _ _ _ underlying9];rw[run_slice_string_from_if (P:=prog) w 9 ⟨l.toArray⟩ .u64 (k:Int) underlying9];have:(0:Int)≤k∧(k:Int)≤(⟨l.toArray⟩:ByteArray).size:=⟨by omega,by rw[xw];omega⟩
 rw[if_pos this,zb6,xw,List.take_length];rfl
theorem M_big:1000000000000<M:=by decide
theorem M_W:M<W:=by decide
theorem behind_any(s:List UInt8)(hs:s.length≤1000000)(n:Nat)(hn:n<W):RT 282 #[str s,U n] (str (s.drop n)):=by
 intro w;have hM:=M_big;have hW:=M_W;have hc:=zbv n s.length hn (by omega);rw[U_sml s.length (by omega)]at hc;have hof:=zaw s.length;have h0:n<s.length→l0 n=n:=fun h=>(za7 n (by omega)).1
 have hv:cmpN n s.length=if n<s.length then -1 else if s.length<n then 1 else 0:=rfl
 generalize cmpN n s.length=cv at *;unfold U at hc ⊢;generalize l0 n=a0,l1 n=a1,l2 n=a2,l3 n=a3 at *;refine inZ func282 fun a I=>?_;refine goZ [] I fun β a w1 I1 hb=>?_;by_cases h:n<s.length
 ·rw[if_pos h]at hv;obtain rfl:=h0 h;refine dwQ 7 [lnO s,vO 3 23 (cnv64 s.length (by omega)),kC func48 hof,kC func148 hc,bO .geq 3 (zcm (x:=cv) (y:=0) (b:=false) (by rw[hv];rfl))] (zd w) zk.post I1 fun a2 w2 I2=>?_;refine goZ [sO 9 (from64 (l:=s) (k:=a0) (by omega))] I2 fun β a w3 I3 hb=>?_;exact ye (v:=str (s.drop a0)) I3
 ·rw[if_neg h]at hv;refine dwQ 7 [lnO s,vO 3 23 (cnv64 s.length (by omega)),kC func48 hof,kC func148 hc,bO .geq 3 (zcm (x:=cv) (y:=0) (b:=true) (by rw[hv];split<;>rfl))] (zd w) zk.post I1 fun a2 w2 I2=>?_;refine goZ [] I2 fun β a w3 I3 hb=>?_;exact zm (v:=str []) I3 ⟨by rw[List.drop_eq_nil_of_le (by omega)],I3.hJ⟩
end
section
open Go.RowKit Go.Sort Go.Shelf
def putV (m:List UInt8) (i:Int) (s:List UInt8):List UInt8:=if i<0∨(m.length:Int)-s.length<i then m else m.take i.toNat++s++m.drop (i.toNat+s.length)
theorem put_any(m s:List UInt8)(hm:m.length≤1000000)(hs:s.length≤1000000)(i:Int):RT 305 #[str m,Z i,str s] (str (putV m i s)):=by
 refine fun w=>inZ func305 fun a I=>?_;by_cases h0:i<0
 ·refine goZ [klT i 0] I fun β a w1 I1 hb=>?_;exact zm (v:=str m) I1 ⟨by unfold putV;rw[if_pos (.inl h0)],I1.hJ⟩
 obtain⟨k,hk⟩:∃ k:Int,(m.length:Int)-s.length=k:=⟨_,rfl⟩
 by_cases h1:k<i
 ·refine goZ [klF i 0,lnO m,lnO s,bO .sub 3 (qg (x:=m.length) (y:=s.length) (z:=k) (by rw[wzf (by omega) (by omega)];exact hk)),kgT i k] I fun β a w1 I1 hb=>?_;exact zm (v:=str m) I1 ⟨by unfold putV;rw[if_pos (.inr (by omega))],I1.hJ⟩
 obtain⟨p,rfl⟩:∃ p:Nat,i=p:=⟨i.toNat,by omega⟩
 refine goZ [klF p 0,lnO m,lnO s,bO .sub 3 (qg (x:=m.length) (y:=s.length) (z:=k) (by rw[wzf (by omega) (by omega)];exact hk)),kgF p k] I fun β a w1 I1 hb=>?_;have ht:=fun w=>to_run (l:=m) (k:=p) (by omega) w
 have hf:=fun w=>from_run (l:=m) (k:=p+s.length) (by omega) w
 have hl1:(m.take p).length≤1000000:=by rw[List.length_take];omega
 have hl2:(m.drop (p+s.length)).length≤1000000:=by rw[List.length_drop];omega
 have e:putV m p s=m.take p++s++m.drop (p+s.length):=by unfold putV;rw[if_neg (by omega)];rfl
 generalize m.take p=x,m.drop (p+s.length)=y at *;refine dwQ 12 [sT 9 ht,bO .add 9 (zct x s (by omega)),lnO s,kaZ p s.length (p+s.length:Nat),sO 9 hf,bO .add 9 (zct (x++s) y (by rw[List.length_append];omega))] (zd w) zk.post I1 fun a2 w2 I2=>?_;refine goZ [] I2 fun β a w3 I3 hb=>?_;exact zm (v:=str (x++s++y)) I3 ⟨by rw[e],I3.hJ⟩
def slV (s:List UInt8) (n:Nat) (i:Int):List UInt8:=if i<0∨65536<i then []else fil ((s.drop n).take i.toNat) i.toNat
theorem za2(s:List UInt8)(hs:s.length≤1000000)(n:Nat)(hn:n<W)(i:Int):RT 208 #[str s,U n,Z i] (str (slV s n i)):=by
 intro w;have hbh:=behind_any s hs n hn;have hl:(s.drop n).length≤1000000:=by rw[List.length_drop];omega
 unfold slV;generalize s.drop n=t at *;unfold U at hbh ⊢;generalize l0 n=a0,l1 n=a1,l2 n=a2,l3 n=a3 at *;refine inZ func208 fun a I=>?_;by_cases h0:i<0
 ·refine goZ [klT i 0] I fun β a w1 I1 hb=>?_;exact zm (v:=str []) I1 ⟨by rw[if_pos (.inl h0)],I1.hJ⟩
 by_cases h1:65536<i
 ·refine goZ [klF i 0,kgT i 65536] I fun β a w1 I1 hb=>?_;exact zm (v:=str []) I1 ⟨by rw[if_pos (.inr h1)],I1.hJ⟩
 obtain⟨p,rfl⟩:∃ p:Nat,i=p:=⟨i.toNat,by omega⟩
 rw[if_neg (by omega),Int.toNat_natCast];have ht:=fun w=>to_run (l:=t) (k:=min p t.length) (by omega) w
 have hmn:(if(t.length:Int)<(p:Int)then(t.length:Int)else(p:Int))=((min p t.length:Nat):Int):=by split<;>omega
 have e:t.take (min p t.length)=t.take p:=by
  by_cases h:p≤t.length
  ·rw[Nat.min_eq_left h]
  ·rw[Nat.min_eq_right (by omega),List.take_length,List.take_of_length_le (by omega)]
 rw[e]at ht;have hfi:=fill_any (t.take p) p (by rw[List.length_take];omega) (by omega);generalize min p t.length=q,fil (t.take p) p=z at *;generalize t.take p=tk at *;refine goZ [klF p 0,kgF p 65536,kC func282 hbh,lnO t,mnO (x:=p) (y:=t.length) (z:=q) hmn,sT 9 ht,kC func212 hfi] I fun β a w1 I1 hb=>?_;exact ye (v:=str z) I1
end
section
open Go.RowKit Go.Sort Go.Shelf
theorem eqU_run{n m:Nat}(hn:n<W)(hm:m<W){b:Bool}(h:decide (n=m)=b)(x y:Operand)(w:World):(do eqGuard .eql 45 x y (U n) (U m);binOp .eql 45 (U n) (U m):Sem Value).run prog w=.ok (.bool b) w:=by
 have he:=run_eqU n m hn hm w;rw[h]at he;have hg:(eqGuard .eql 45 x y (U n) (U m)).run prog w=.ok () w:=by
  unfold eqGuard;simp[go_sem]
 simp only[Sem.run_bind,hg,Result.andThen_ok];unfold binOp Op.equal;simp only[Sem.run_bind];rw[show Op.maxDepth=10000 from rfl,he];rfl
def yx (m:List UInt8) (a n:Nat):List UInt8×Int×Int:=
 if n=0 then(m,0,0)else if 4096<a+n then(m,0,3)else(fil m (32*(wds ((a+n:Nat):Int)).toNat),cst (wds ((fil m (32*(wds ((a+n:Nat):Int)).toNat)).length:Int))-cst (wds (m.length:Int)),0)
theorem U0:U 0=U4 0 0 0 0:=rfl
theorem wds_bd{n:Int}(h0:0≤n)(h1:n≤1000000):0≤wds n∧wds n≤31250∧n≤32*wds n∧32*wds n<n+32:=by unfold wds;split<;>omega
theorem grow_any(m:List UInt8)(hm:m.length≤900000)(x n:Nat)(hx:x<W)(hn:n<W):RT 142 #[str m,U x,U n] (.tuple #[str (yx m x n).1,Z (yx m x n).2.1,Z (yx m x n).2.2]):=by
 intro w;have hM:=M_big;have hW:=M_W;have heq:=fun b h=>eqU_run hn (show 0<W by omega) (b:=b) h
 have hadd:=add_any x n hx hn;have hs:x+n<W→qw x n=x+n:=fun h=>Nat.mod_eq_of_lt h
 have hlt:=addW_lt x n;have hcmp:=zbv (qw x n) 4096 hlt (by omega);rw[U_sml 4096 (by omega)]at hcmp;have hof:=zaw 4096;rw[U0]at heq;have hov:ovW x n=decide (W≤x+n):=rfl;have hsm:qw x n<M→l0 (qw x n)=qw x n:=fun h=>(za7 _ h).1
 generalize ovW x n=ov at *;have hcv:cmpN (qw x n) 4096=if qw x n<4096 then -1 else if 4096<qw x n then 1 else 0:=rfl
 generalize cmpN (qw x n) 4096=cv at *;unfold U at hadd hcmp heq ⊢;generalize l0 (qw x n)=s0,l1 (qw x n)=s1,l2 (qw x n)=s2,l3 (qw x n)=s3 at *;generalize qw x n=s,l0 n=n0,l1 n=n1,l2 n=n2,l3 n=n3,l0 x=x0,l1 x=x1,l2 x=x2,l3 x=x3 at *;refine inZ func142 fun a I=>?_;by_cases h0:n=0
 ·refine goZ [dO 45 [] bd45_0,bO .eql 45 (heq true (decide_eq_true h0))] I fun β a w1 I1 hb=>?_;exact zm (v:=.tuple #[str m,Z 0,Z 0]) I1 ⟨by unfold yx;rw[if_pos h0],I1.hJ⟩
 refine goZ [dO 45 [] bd45_0,bO .eql 45 (heq false (decide_eq_false h0)),kC func91 hadd] I fun β a w1 I1 hb=>?_;by_cases h1:W≤x+n
 ·rw[decide_eq_true h1]at hov;subst hov;refine dwQ 7 [] (zd w) zk.post I1 fun a2 w2 I2=>?_;refine goZ [] I2 fun β a w3 I3 hb=>?_;exact zm (v:=.tuple #[str m,Z 0,Z 3]) I3 ⟨by unfold yx;rw[if_neg h0,if_pos (by omega)],I3.hJ⟩
 rw[decide_eq_false h1]at hov;subst hov;obtain rfl:=hs (by omega);by_cases h2:4096<x+n
 ·refine dwQ 7 [kC func48 hof,kC func148 hcmp,bO .gtr 3 (yf (x:=cv) (y:=0) (b:=true) (by rw[hcv,if_neg (by omega),if_pos h2];rfl))] (zd w) zk.post I1 fun a2 w2 I2=>?_;refine goZ [] I2 fun β a w3 I3 hb=>?_;exact zm (v:=.tuple #[str m,Z 0,Z 3]) I3 ⟨by unfold yx;rw[if_neg h0,if_pos h2],I3.hJ⟩
 refine dwQ 7 [kC func48 hof,kC func148 hcmp,bO .gtr 3 (yf (x:=cv) (y:=0) (b:=false) (by rw[hcv,if_neg h2];split<;>rfl))] (zd w) zk.post I1 fun a2 w2 I2=>?_;obtain rfl:=hsm (by omega);have e:yx m x n=(fil m (32*(wds ((x+n:Nat):Int)).toNat),cst (wds ((fil m (32*(wds ((x+n:Nat):Int)).toNat)).length:Int))-cst (wds (m.length:Int)),0):=by unfold yx;rw[if_neg h0,if_neg h2]
 rw[e];have hwm:=za3 m.length (by omega) (by omega);have hws:=za3 ((x+n:Nat):Int) (by omega) (by omega);have hbw:=wds_bd (n:=((x+n:Nat):Int)) (by omega) (by omega);generalize wds (m.length:Int)=wm at *;obtain⟨wk,hwk⟩:∃ k:Nat,wds ((x+n:Nat):Int)=k:=⟨_,(Int.toNat_of_nonneg hbw.1).symm⟩
 rw[hwk]at hws hbw ⊢;rw[Int.toNat_natCast];have hfi:=fill_any m (32*wk) (by omega) (by omega);have hfl:=fil_len m (32*wk);generalize fil m (32*wk)=gr at *;have hwg:=za3 gr.length (by omega) (by omega);generalize wds (gr.length:Int)=wg,x+n=s at *;refine goZ [lnO m,kC func145 hwm] I2 fun β a w3 I3 hb=>?_;refine mcall (f:=211) (ss:=[Sum.inl (Z wm)]) func211 I3 ((from_any wm w3).mono fun e w4 he=>?_);obtain⟨g,rfl,hg,hrow,hbl⟩:=he;have hw3:=I3.hJ.size
 have I4:=I3.moved (J':=clJ w g (cst wm)) (F':=clF w g) (zq.of_below hbl) ⟨I3.hJ.trans (hbl.mono hw3),hrow⟩ (fun k hk h=>h.elim id fun e=>by omega) (cloV g);refine goQ [vO 23 3 (cnv46 s (by omega)),kC func145 hws,bO .mul 3 (vc (x:=wk) (y:=32) (z:=(32*wk:Nat)) (by rw[wzf (by omega) (by omega)];omega)),kC func212 hfi] (clR _ _ _) I4 fun β5 a5 w5 I5 hb5=>?_;refine inY I5 fun I6=>?_;refine goQ [lnO gr,kC func145 hwg] (clR _ _ _) I6 fun β7 a7 w7 I7 hb7=>?_
 refine kl (f:=284) [Sum.inl (Z wg),Sum.inl (zz g)] func284 I7 ((clo_any I7.hJ.2 (cst_bd wm) wg).mono fun e w8 he=>?_);obtain⟨rfl,hbl8⟩:=he;have I8:=I7.moved (J':=clJ w g (cst wm)) (F':=clF w g) (zq.of_below hbl8) ((clR _ _ _).loc _ _ I7.hJ (zq.of_below hbl8)) (fun k hk h=>h) (Z (cst wg-cst wm));generalize cst wg-cst wm=q at *;refine goQ [] (clR _ _ _) I8 fun β9 a9 w9 I9 hb9=>?_;exact zm (v:=.tuple #[str gr,Z q,Z 0]) I9 ⟨rfl,I9.hJ.1⟩
end
end Go.Proofs.YthkpgfbjdabflaaGreatDoor
