/- Laid one behind the other: Mg, Mh. -/
import Derived.Test.YtdeompgdhaomgaaGreatDoorKtMb
namespace Go.Proofs.YtdeompgdhaomgaaGreatDoor
open Go.RowKit Go.Sort Go.Proofs.Tryz
set_option linter.unusedVariables false
set_option maxRecDepth 100000
set_option maxHeartbeats 4000000
def decSe (l m:List Se):Decidable (l=m):=@instDecidableEqList Se (@instDecidableEqProd Nat (Nat×Bool) _ _) l m
def eqZ (l m:List Se):Bool:=@decide (l=m) (decSe l m)
theorem eqZ_true{l m:List Se}(h:l=m):eqZ l m=true:=@decide_eq_true (l=m) (decSe l m) h
theorem zbs{l m:List Se}(h:¬ l=m):eqZ l m=false:=@decide_eq_false (l=m) (decSe l m) h
theorem eqZ_iff{l m:List Se}:eqZ l m=true↔l=m:=⟨fun h=>Classical.byContradiction fun e=>(by rw[zbs e]at h;cases h),eqZ_true⟩
theorem run_eqBd(d:Nat)(a b:Bool)(w:World):(Op.equalIn (d+1) 4 (.bool a) (.bool b)).run prog w=.ok (decide (a=b)) w:=by
 simp[Op.equalIn,run_underlying underlying4];cases a<;>cases b<;>rfl
abbrev slR (r q:Nat) (o:Bool):Array Value:=#[B (l0 r),B (l1 r),B (l2 r),B (l3 r),B (l0 q),B (l1 q),B (l2 q),B (l3 q),.bool o]
theorem run_eqSl(r q:Nat)(o:Bool)(r' q':Nat)(o':Bool)(h1:r<W)(h2:q<W)(h3:r'<W)(h4:q'<W)(w:World):(Op.equalIn 10000 63 (.agg (slR r q o)) (.agg (slR r' q' o'))).run prog w=.ok (decide (r=r')&&(decide (q=q')&&decide (o=o'))) w:=by
 have e0:∀ w,(Op.equalIn 9999 57 (U r) (U r')).run prog w=.ok (decide (r=r')) w:=fun w=>run_eqUd 9997 r r' h1 h3 w
 have e1:∀ w,(Op.equalIn 9999 57 (U q) (U q')).run prog w=.ok (decide (q=q')) w:=fun w=>run_eqUd 9997 q q' h2 h4 w
 have e2:∀ w,(Op.equalIn 9999 4 (.bool o) (.bool o')).run prog w=.ok (decide (o=o')) w:=fun w=>run_eqBd 9998 o o' w
 have hs:∀ w,(sizeOf 57).run prog w=.ok 4 w:=fun w=>by rw[run_sizeOf w info33,size33]
 have p1:∀ w,(part 57 (slR r q o) 0).run prog w=.ok (U r) w:=fun w=>by simp[part,isAgg,run_underlying underlying57,hs]
 have p2:∀ w,(part 57 (slR r' q' o') 0).run prog w=.ok (U r') w:=fun w=>by simp[part,isAgg,run_underlying underlying57,hs]
 have p3:∀ w,(part 57 (slR r q o) 4).run prog w=.ok (U q) w:=fun w=>by simp[part,isAgg,run_underlying underlying57,hs]
 have p4:∀ w,(part 57 (slR r' q' o') 4).run prog w=.ok (U q') w:=fun w=>by simp[part,isAgg,run_underlying underlying57,hs]
 have r0:∀ w,(part 4 (slR r q o) 8).run prog w=.ok (.bool o) w:=fun w=>by simp[part,isAgg,run_underlying underlying4]
 have r1:∀ w,(part 4 (slR r' q' o') 8).run prog w=.ok (.bool o') w:=fun w=>by simp[part,isAgg,run_underlying underlying4]
 rw[show(10000:Nat)=9999+1 from rfl,Op.equalIn];simp[run_underlying underlying63,e0,e1,e2,p1,p2,p3,p4,r0,r1];by_cases h0:r=r'<;>by_cases h1:q=q'<;>by_cases h2:o=o'<;>simp[*]
theorem zdd{a b:Se}(ha:a.1<W)(ha2:a.2.1<W)(hb:b.1<W)(hb2:b.2.1<W){q:Bool}(h:decide (a≠b)=q)(x y:Operand)(w:World):(do eqGuard .neq 63 x y (slV a) (slV b);binOp .neq 63 (slV a) (slV b):Sem Value).run prog w=.ok (.bool q) w:=by
 obtain⟨x0,x1,x2⟩:=a;obtain⟨y0,y1,y2⟩:=b;have e:=run_eqSl x0 x1 x2 y0 y1 y2 ha ha2 hb hb2 w;have hd:decide ((x0,x1,x2)≠(y0,y1,y2)) = !(decide (x0=y0)&&(decide (x1=y1)&&decide (x2=y2))):=by
  by_cases h0:x0=y0<;>by_cases h1:x1=y1<;>by_cases h2:x2=y2<;>simp[*]
 rw[← h,hd];generalize (decide (x0=y0)&&(decide (x1=y1)&&decide (x2=y2)))=r at e ⊢;have hg:(eqGuard .neq 63 x y (.agg (slR x0 x1 x2)) (.agg (slR y0 y1 y2))).run prog w=.ok () w:=by
  simp[eqGuard]
 have hb2:(binOp .neq 63 (.agg (slR x0 x1 x2)) (.agg (slR y0 y1 y2))).run prog w=.ok (.bool !r) w:=by
  unfold binOp;show((Op.equalIn 10000 63 (.agg (slR x0 x1 x2)) (.agg (slR y0 y1 y2)) >>= fun b=>pure (.bool !b):Sem Value)).run prog w=_;rw[Sem.run_bind,e,Result.andThen_ok,Sem.run_pure]
 show(do eqGuard .neq 63 x y (.agg (slR x0 x1 x2)) (.agg (slR y0 y1 y2));binOp .neq 63 (.agg (slR x0 x1 x2)) (.agg (slR y0 y1 y2)):Sem Value).run prog w=_;rw[Sem.run_bind,hg,Result.andThen_ok,hb2]
theorem equalS_any{w:World}{va vb:Value}{l m:List Se}(ha:SeI w va l)(hb:SeI w vb m)(hl:l.length<1000000000):Calls prog 98 #[va,vb] w fun e w'=>e=.returned (.bool (eqZ l m))∧Below w.heap.size w w':=by
 obtain⟨ada,capa,rfl,hma⟩:=ha;obtain⟨adb,capb,rfl,hmb⟩:=hb;refine inZ func98 fun a I=>?_;by_cases hlen:¬ l.length=m.length
 ·refine goZ [lS underlying29 (ad:=ada) (n:=l.length) (cap:=capa) rfl,lS underlying29 (ad:=adb) (n:=m.length) (cap:=capb) rfl,knT l.length m.length] I fun β a w1 I hb=>?_;exact zh (v:=.bool false) I ⟨by rw[zbs fun e=>hlen (by rw[e])],I.hJ⟩
 have hlen:=Classical.not_not.1 hlen;refine goZ [lS underlying29 (ad:=ada) (n:=l.length) (cap:=capa) rfl,lS underlying29 (ad:=adb) (n:=m.length) (cap:=capb) rfl,knF l.length m.length,lS underlying29 (ad:=ada) (n:=l.length) (cap:=capa) rfl] I fun β a w1 I hb=>?_
 let St:Nat→Act→World→Prop:=fun k a w'=>∃(i:Nat) (β:Nat→Nat) (u:Nat→Value),k=l.length-i∧i≤l.length∧(∀(j:Nat) x y,j<i→l[j]? = some x→m[j]? = some y→x=y) ∧
  SI (Below w.heap.size w) (· < w.heap.size) [] β (cfC (zc Tryz.f98) (zl (zg 26 seK) u 0 (seV (.slice ada l.length capa) (.slice adb m.length capb) l.length i)) [] 0) a w'
 refine lpM (zc Tryz.f98) St l.length ?_ ?_
 ·obtain⟨u,Iu⟩:=I.scr (zc Tryz.f98) (zg 26 seK) (seV (.slice ada l.length capa) (.slice adb m.length capb) l.length 0) [] 0;exact⟨0,β,u,by omega,Nat.zero_le _,fun j x y h=>absurd h (Nat.not_lt_zero j),Iu⟩
 rintro k a3 w3 ⟨i,β3,u,rfl,hi,hok,I⟩;refine zv (tm:=zl (zg 26 seK) u 0 (seV (.slice ada l.length capa) (.slice adb m.length capb) l.length i)) (rows:=[]) (nx:=0) ?_;rcases Nat.lt_or_ge i l.length with hil|hil
 ·have him:i<m.length:=by omega
  obtain⟨x,h1⟩:∃ t,l[i]? = some t:=⟨_,List.getElem?_eq_getElem hil⟩
  obtain⟨y,h2⟩:∃ t,m[i]? = some t:=⟨_,List.getElem?_eq_getElem him⟩
  obtain⟨ga,offa,cs,rfl,hlt,hca,rfl,hxW⟩:=hma i _ h1;obtain⟨gb,offb,cs2,rfl,hlt2,hcb,rfl,hyW⟩:=hmb i _ h2;have hld:∀ w',Below w.heap.size w w'→(loadVar 63 ⟨ga,offa+i*9,none⟩).run prog w'=.ok (slV x) w':=fun w' hb=>loadSe (hca.keep (hb.block ga hlt))
  have hld2:∀ w',Below w.heap.size w w'→(loadVar 63 ⟨gb,offb+i*9,none⟩).run prog w'=.ok (slV y) w':=fun w' hb=>loadSe (hcb.keep (hb.block gb hlt2))
  refine goZ [klT i l.length] I fun β4 a4 w4 I hb4=>?_;by_cases hxy:x=y
  ·refine dwT (T:=Below w.heap.size w) 9 [iA 29 underlying29 (sz:=9) (by kernel_rfl) (g:=ga) (off:=offa) (n:=l.length) (cap:=capa) hil,ldA 63 hld,iA 29 underlying29 (sz:=9) (by kernel_rfl) (g:=gb) (off:=offb) (n:=m.length) (cap:=capb) him,ldA 63 hld2,bO .neq 63 (zdd (a:=x) (b:=y) hxW.1 hxW.2 hyW.1 hyW.2 (q:=false) (by simp[hxy]))] (zj w) (fun _ h=>h) (zd.then (zd.qk zd.post)) I fun a5 w5 I=>?_;refine goZ [kaZ i 1 (i+1:Nat)] I fun β6 a6 w6 I hb6=>?_
   obtain⟨u',Iu⟩:=I.scr (zc Tryz.f98) (zg 26 seK) (seV (.slice (some ⟨ga,offa,none⟩) l.length capa) (.slice (some ⟨gb,offb,none⟩) m.length capb) l.length (i+1)) [] 0;refine xc ⟨l.length-(i+1),by omega,i+1,β6,u',rfl,hil,fun j p q hj hp hq=>?_,Iu⟩;rcases Nat.lt_or_ge j i with hji | hji
   ·exact hok j p q hji hp hq
   ·obtain rfl:j=i:=by omega
    rw[h1]at hp;rw[h2]at hq;cases hp;cases hq;exact hxy
  ·refine dwT (T:=Below w.heap.size w) 9 [iA 29 underlying29 (sz:=9) (by kernel_rfl) (g:=ga) (off:=offa) (n:=l.length) (cap:=capa) hil,ldA 63 hld,iA 29 underlying29 (sz:=9) (by kernel_rfl) (g:=gb) (off:=offb) (n:=m.length) (cap:=capb) him,ldA 63 hld2,bO .neq 63 (zdd (a:=x) (b:=y) hxW.1 hxW.2 hyW.1 hyW.2 (q:=true) (by simp[hxy]))] (zj w) (fun _ h=>h) (zd.then (zd.qk zd.post)) I fun a5 w5 I=>?_;refine goZ [] I fun β6 a6 w6 I hb6=>?_;refine qc (qb (v:=.bool false) I ⟨?_,I.hJ⟩);rw[zbs fun e=>hxy ?_];rw[e,h2]at h1;exact(Option.some.inj h1).symm
 ·obtain rfl:i=l.length:=by omega
  refine goZ [bO .lss 3 (zf (x:=l.length) (y:=l.length) (b:=false) (by simp))] I fun β4 a4 w4 I hb4=>?_;refine xg 0 ?_;refine goZ [] (I.exit _) fun β5 a5 w5 I hb5=>?_;exact zh (v:=.bool true) I ⟨by rw[eqZ_true (qt hlen fun j x y hx hy=>hok j x y (List.getElem?_eq_some_iff.1 hx).1 hx hy)],I.hJ⟩
theorem equalT_any{w:World}{va vb:Value}{l m:List ByteArray}(ha:StI w va l)(hb:StI w vb m)(hl:l.length<1000000000):Calls prog 65 #[va,vb] w fun e w'=>e=.returned (.bool (eqP l m))∧Below w.heap.size w w':=by
 obtain⟨ada,capa,rfl,hma⟩:=ha;obtain⟨adb,capb,rfl,hmb⟩:=hb;refine inZ func65 fun a I=>?_;by_cases hlen:¬ l.length=m.length
 ·refine goZ [lS underlying22 (ad:=ada) (n:=l.length) (cap:=capa) rfl,lS underlying22 (ad:=adb) (n:=m.length) (cap:=capb) rfl,knT l.length m.length] I fun β a w1 I hb=>?_;exact zh (v:=.bool false) I ⟨by rw[eqP,decide_eq_false fun e=>hlen (by rw[e])],I.hJ⟩
 have hlen:=Classical.not_not.1 hlen;refine goZ [lS underlying22 (ad:=ada) (n:=l.length) (cap:=capa) rfl,lS underlying22 (ad:=adb) (n:=m.length) (cap:=capb) rfl,knF l.length m.length,lS underlying22 (ad:=ada) (n:=l.length) (cap:=capa) rfl] I fun β a w1 I hb=>?_
 let St:Nat→Act→World→Prop:=fun k a w'=>∃(i:Nat) (β:Nat→Nat) (u:Nat→Value),k=l.length-i∧i≤l.length∧(∀(j:Nat) x y,j<i→l[j]? = some x→m[j]? = some y→x=y) ∧
  SI (Below w.heap.size w) (· < w.heap.size) [] β (cfC (zc Tryz.f65) (zl (zg 26 seK) u 0 (seV (.slice ada l.length capa) (.slice adb m.length capb) l.length i)) [] 0) a w'
 refine lpM (zc Tryz.f65) St l.length ?_ ?_
 ·obtain⟨u,Iu⟩:=I.scr (zc Tryz.f65) (zg 26 seK) (seV (.slice ada l.length capa) (.slice adb m.length capb) l.length 0) [] 0;exact⟨0,β,u,by omega,Nat.zero_le _,fun j x y h=>absurd h (Nat.not_lt_zero j),Iu⟩
 rintro k a3 w3 ⟨i,β3,u,rfl,hi,hok,I⟩;refine zv (tm:=zl (zg 26 seK) u 0 (seV (.slice ada l.length capa) (.slice adb m.length capb) l.length i)) (rows:=[]) (nx:=0) ?_;rcases Nat.lt_or_ge i l.length with hil|hil
 ·have him:i<m.length:=by omega
  obtain⟨x,h1⟩:∃ t,l[i]? = some t:=⟨_,List.getElem?_eq_getElem hil⟩
  obtain⟨y,h2⟩:∃ t,m[i]? = some t:=⟨_,List.getElem?_eq_getElem him⟩
  obtain⟨ga,offa,cs,rfl,hlt,hca,rfl⟩:=hma i _ h1;obtain⟨gb,offb,cs2,rfl,hlt2,hcb,rfl⟩:=hmb i _ h2;have hld:∀ w',Below w.heap.size w w'→(loadVar 9 ⟨ga,offa+i*1,none⟩).run prog w'=.ok (.string x) w':=fun w' hb=>zbh (hca.keep (hb.block ga hlt))
  have hld2:∀ w',Below w.heap.size w w'→(loadVar 9 ⟨gb,offb+i*1,none⟩).run prog w'=.ok (.string y) w':=fun w' hb=>zbh (hcb.keep (hb.block gb hlt2))
  refine goZ [klT i l.length] I fun β4 a4 w4 I hb4=>?_;by_cases hxy:x=y
  ·refine dwT (T:=Below w.heap.size w) 9 [iA 22 underlying22 (sz:=1) (by kernel_rfl) (g:=ga) (off:=offa) (n:=l.length) (cap:=capa) hil,ldA 9 hld,iA 22 underlying22 (sz:=1) (by kernel_rfl) (g:=gb) (off:=offb) (n:=m.length) (cap:=capb) him,ldA 9 hld2,bO .neq 9 (xr (a:=x) (b:=y) (q:=false) (by simp[hxy]))] (zj w) (fun _ h=>h) (zd.then (zd.qk zd.post)) I fun a5 w5 I=>?_;refine goZ [kaZ i 1 (i+1:Nat)] I fun β6 a6 w6 I hb6=>?_
   obtain⟨u',Iu⟩:=I.scr (zc Tryz.f65) (zg 26 seK) (seV (.slice (some ⟨ga,offa,none⟩) l.length capa) (.slice (some ⟨gb,offb,none⟩) m.length capb) l.length (i+1)) [] 0;refine xc ⟨l.length-(i+1),by omega,i+1,β6,u',rfl,hil,fun j p q hj hp hq=>?_,Iu⟩;rcases Nat.lt_or_ge j i with hji | hji
   ·exact hok j p q hji hp hq
   ·obtain rfl:j=i:=by omega
    rw[h1]at hp;rw[h2]at hq;cases hp;cases hq;exact hxy
  ·refine dwT (T:=Below w.heap.size w) 9 [iA 22 underlying22 (sz:=1) (by kernel_rfl) (g:=ga) (off:=offa) (n:=l.length) (cap:=capa) hil,ldA 9 hld,iA 22 underlying22 (sz:=1) (by kernel_rfl) (g:=gb) (off:=offb) (n:=m.length) (cap:=capb) him,ldA 9 hld2,bO .neq 9 (xr (a:=x) (b:=y) (q:=true) (by simp[hxy]))] (zj w) (fun _ h=>h) (zd.then (zd.qk zd.post)) I fun a5 w5 I=>?_;refine goZ [] I fun β6 a6 w6 I hb6=>?_;refine qc (qb (v:=.bool false) I ⟨?_,I.hJ⟩);rw[eqP,decide_eq_false fun e=>hxy ?_];rw[e,h2]at h1;exact(Option.some.inj h1).symm
 ·obtain rfl:i=l.length:=by omega
  refine goZ [bO .lss 3 (zf (x:=l.length) (y:=l.length) (b:=false) (by simp))] I fun β4 a4 w4 I hb4=>?_;refine xg 0 ?_;refine goZ [] (I.exit _) fun β5 a5 w5 I hb5=>?_;exact zh (v:=.bool true) I ⟨by rw[eqP,decide_eq_true (qt hlen fun j x y hx hy=>hok j x y (List.getElem?_eq_some_iff.1 hx).1 hx hy)],I.hJ⟩
theorem sameFixed_any{w:World}{f g:Fi}{pf pg:Value}(hf:StI w pf f.1)(hg:StI w pg g.1)(hl:f.1.length<1000000000):Calls prog 33 #[qm f pf,qm g pg] w fun e w'=>e=.returned (.bool (eqF f g))∧Below w.heap.size w w':=by
 obtain⟨p1,n1,a1,t1⟩:=f;obtain⟨p2,n2,a2,t2⟩:=g;obtain⟨ad,cap,rfl⟩:=hf.slice;obtain⟨ad2,cap2,rfl⟩:=hg.slice;simp only[]at hf hg hl;have hE:∀ w',Below w.heap.size w w'→Calls prog 65 #[.slice ad p1.length cap,.slice ad2 p2.length cap2] w' fun e w''=>e=.returned (.bool (eqP p1 p2))∧Below w'.heap.size w' w'':=fun w' hb=>equalT_any (hf.below CS.loc hb) (hg.below CS.loc hb) hl
 have he:eqF (p1,n1,a1,t1) (p2,n2,a2,t2)=(decide (n1=n2)&&decide (a1=a2)&&decide (t1=t2)&&eqP p1 p2):=rfl;rw[he];generalize eqP p1 p2=b at hE ⊢;refine inZ func33 fun a I=>?_;cases b with
 | false=>
  refine goT (T:=Below w.heap.size w) [cA func65 hE] (zj w) (fun _ h=>h) I fun β a w1 I hb=>?_;exact zh (v:=.bool false) I ⟨by rw[Bool.and_false],I.hJ⟩
 | true=>
 by_cases h1:¬ n1=n2
 ·refine goT (T:=Below w.heap.size w) [cA func65 hE,bO .eql 23 (yr (x:=n1) (y:=n2) (b:=false) (decide_eq_false h1))] (zj w) (fun _ h=>h) I fun β a w1 I hb=>?_;exact zh (v:=.bool false) I ⟨by rw[decide_eq_false h1];rfl,I.hJ⟩
 have h1:=Classical.not_not.1 h1;by_cases h2:¬ a1=a2
 ·refine goT (T:=Below w.heap.size w) [cA func65 hE,bO .eql 23 (yr (x:=n1) (y:=n2) (b:=true) (decide_eq_true h1)),bO .eql 9 (xp (a:=a1) (b:=a2) (q:=false) (decide_eq_false h2))] (zj w) (fun _ h=>h) I fun β a w1 I hb=>?_;exact zh (v:=.bool false) I ⟨by rw[decide_eq_false h2,Bool.and_false];rfl,I.hJ⟩
 have h2:=Classical.not_not.1 h2;refine goT (T:=Below w.heap.size w) [cA func65 hE,bO .eql 23 (yr (x:=n1) (y:=n2) (b:=true) (decide_eq_true h1)),bO .eql 9 (xp (a:=a1) (b:=a2) (q:=true) (decide_eq_true h2)),bO .eql 3 (z8 (x:=t1) (y:=t2) (b:=decide (t1=t2)) rfl)] (zj w) (fun _ h=>h) I fun β a w1 I hb=>?_;exact zh (v:=.bool (decide (t1=t2))) I ⟨by rw[decide_eq_true h1,decide_eq_true h2,Bool.and_true];rfl,I.hJ⟩
abbrev sg5 (v:Va) (ev sv:Value):List Value:=[B v.1,.bool v.2.1,.string v.2.2.1,ev,sv]
abbrev sgV (v:Va) (ev sv:Value):Value:=.agg #[B v.1,.bool v.2.1,.string v.2.2.1,ev,sv]
theorem loadSg{w:World}{g o:Nat}{v:Va}{ev sv:Value}(h:zo w g o (sg5 v ev sv)):(loadVar 31 ⟨g,o,none⟩).run prog w=.ok (sgV v ev sv) w:=loadN underlying31 rfl (n:=5) (by kernel_rfl) rfl h
structure SgI (w:World) (ev sv:Value) (v:Va) (l:List Se):Prop where
 xf:ExI w ev v.2.2.2
 sf:SeI w sv l
theorem SgI.below{w w':World}{ev sv:Value}{v:Va}{l:List Se}(h:SgI w ev sv v l)(hb:Below w.heap.size w w'):SgI w' ev sv v l:=⟨h.xf.below CE.loc hb,h.sf.below CZ.loc hb⟩
theorem sameSigned_any{w:World}{v u:Va}{l m:List Se}{ev sv eu su:Value}(hv:SgI w ev sv v l)(hu:SgI w eu su u m)(hok:okX v.2.2.2)(hl:l.length<1000000000):Calls prog 67 #[sgV v ev sv,sgV u eu su] w fun e w'=>e=.returned (.bool (eqV v u&&eqZ l m))∧Below w.heap.size w w':=by
 obtain⟨ade,cape,rfl⟩:=hv.xf.slice;obtain⟨ads,caps,rfl⟩:=hv.sf.slice;obtain⟨adf,capf,rfl⟩:=hu.xf.slice;obtain⟨adt,capt,rfl⟩:=hu.sf.slice;have hS:∀ w',Below w.heap.size w w'→Calls prog 97 #[vaV v (.slice ade v.2.2.2.length cape),vaV u (.slice adf u.2.2.2.length capf)] w' fun e w''=>e=.returned (.bool (eqV v u))∧Below w'.heap.size w' w'':=fun w' hb=>same_state (hv.xf.below CE.loc hb) (hu.xf.below CE.loc hb) hok
 have hZ:∀ w',Below w.heap.size w w'→Calls prog 98 #[.slice ads l.length caps,.slice adt m.length capt] w' fun e w''=>e=.returned (.bool (eqZ l m))∧Below w'.heap.size w' w'':=fun w' hb=>equalS_any (hv.sf.below CZ.loc hb) (hu.sf.below CZ.loc hb) hl
 generalize eqV v u=b at hS ⊢;generalize eqZ l m=z at hZ ⊢;refine inZ func67 fun a I=>?_;cases b with
 | false=>
  refine goT (T:=Below w.heap.size w) [cA func97 hS] (zj w) (fun _ h=>h) I fun β a w1 I hb=>?_;exact xj (v:=.bool false) I
 | true=>
  refine goT (T:=Below w.heap.size w) [cA func97 hS,cA func98 hZ] (zj w) (fun _ h=>h) I fun β a w1 I hb=>?_;exact xj (v:=.bool z) I
theorem equalG_any{w:World}{b1 b2:Nat}{v u:Va}{l m:List Se}{ev sv eu su:Value}(hv:SgI w ev sv v l)(hu:SgI w eu su u m)(hok:okX v.2.2.2)(hl:l.length<1000000000)(h1:zo w b1 0 (sg5 v ev sv))(h2:zo w b2 0 (sg5 u eu su)):Calls prog 66 #[.slice (some ⟨b1,0,none⟩) 1 1,.slice (some ⟨b2,0,none⟩) 1 1,fnV 67] w fun e w'=>e=.returned (.bool (eqV v u&&eqZ l m))∧Below w.heap.size w w':=by
 obtain⟨ade,cape,rfl⟩:=hv.xf.slice;obtain⟨ads,caps,rfl⟩:=hv.sf.slice;obtain⟨adf,capf,rfl⟩:=hu.xf.slice;obtain⟨adt,capt,rfl⟩:=hu.sf.slice;have hlt1:=h1.lt;have hlt2:=h2.lt;have hld:∀ w',Below w.heap.size w w'→(loadVar 31 ⟨b1,0+0*5,none⟩).run prog w'=.ok (sgV v (.slice ade v.2.2.2.length cape) (.slice ads l.length caps)) w':=fun w' hb=>loadSg (h1.keep (hb.block b1 hlt1))
 have hld2:∀ w',Below w.heap.size w w'→(loadVar 31 ⟨b2,0+0*5,none⟩).run prog w'=.ok (sgV u (.slice adf u.2.2.2.length capf) (.slice adt m.length capt)) w':=fun w' hb=>loadSg (h2.keep (hb.block b2 hlt2))
 have hS:∀ w',Below w.heap.size w w'→Calls prog 67 #[sgV v (.slice ade v.2.2.2.length cape) (.slice ads l.length caps),sgV u (.slice adf u.2.2.2.length capf) (.slice adt m.length capt)] w' fun e w''=>e=.returned (.bool (eqV v u&&eqZ l m))∧Below w'.heap.size w' w'':=fun w' hb=>sameSigned_any (hv.below hb) (hu.below hb) hok hl
 clear hv hu hok hl;generalize (eqV v u&&eqZ l m)=b at hS ⊢;obtain⟨t1,f1,d1,x1⟩:=v;obtain⟨t2,f2,d2,x2⟩:=u;refine inZ func66 fun a I=>?_;refine goZ [lS underlying76 (ad:=some ⟨b1,0,none⟩) (n:=1) (cap:=1) rfl,lS underlying76 (ad:=some ⟨b2,0,none⟩) (n:=1) (cap:=1) rfl,bO .neq 3 (yk (x:=(1:Nat)) (y:=(1:Nat)) (b:=false) (by decide)),lS underlying76 (ad:=some ⟨b1,0,none⟩) (n:=1) (cap:=1) rfl] I fun β a w1 I hb=>?_
 let St:Nat→Act→World→Prop:=fun k a w'=>∃(i:Nat) (β:Nat→Nat) (u:Nat→Value),k=1-i∧i≤1∧(i=1→b=true) ∧
  SI (Below w.heap.size w) (· < w.heap.size) [] β (cfC (zc Tryz.f66) (zl (zg 32 sfK) u 0 (sfV (.slice (some ⟨b1,0,none⟩) 1 1) (.slice (some ⟨b2,0,none⟩) 1 1) (fnV 67) 1 i)) [] 0) a w'
 refine lpM (zc Tryz.f66) St 1 ?_ ?_
 ·obtain⟨u,Iu⟩:=I.scr (zc Tryz.f66) (zg 32 sfK) (sfV (.slice (some ⟨b1,0,none⟩) 1 1) (.slice (some ⟨b2,0,none⟩) 1 1) (fnV 67) 1 0) [] 0;exact⟨0,β,u,rfl,Nat.zero_le _,fun h=>(by cases h),Iu⟩
 rintro k a3 w3 ⟨i,β3,u,rfl,hi,hok,I⟩;refine zv (tm:=zl (zg 32 sfK) u 0 (sfV (.slice (some ⟨b1,0,none⟩) 1 1) (.slice (some ⟨b2,0,none⟩) 1 1) (fnV 67) 1 i)) (rows:=[]) (nx:=0) ?_;rcases Nat.lt_or_ge i 1 with hil|hil
 ·obtain rfl:i=0:=by omega
  refine goT (T:=Below w.heap.size w) [bO .lss 3 (zf (x:=(0:Nat)) (y:=(1:Nat)) (b:=true) (by decide)),iA 76 underlying76 (sz:=5) (by kernel_rfl) (g:=b1) (off:=0) (n:=1) (cap:=1) (i:=0) (by decide),ldA 31 hld,iA 76 underlying76 (sz:=5) (by kernel_rfl) (g:=b2) (off:=0) (n:=1) (cap:=1) (i:=0) (by decide),ldA 31 hld2] (zj w) (fun _ h=>h) I fun β4 a4 w4 I hb4=>?_
  refine bcallX [Sum.inl (.agg #[B t1,.bool f1,.string d1,.slice ade x1.length cape,.slice ads l.length caps]),Sum.inl (.agg #[B t2,.bool f2,.string d2,.slice adf x2.length capf,.slice adt m.length capt])] func67 (zj w) I (fun v=>v=.bool b) ((hS w4 I.hJ).mono fun e w' h=>⟨h.2,_,h.1,rfl⟩) fun v w5 hv I=>?_;subst hv;cases b with
  | true=>
   refine goZ [uO .not (p:=.bool true) (v:=.bool false) (by intros;rfl),bO .add 3 (zw (x:=(0:Nat)) (y:=1) (z:=(0+1:Nat)) (by decide))] I fun β6 a6 w6 I hb6=>?_;obtain⟨u',Iu⟩:=I.scr (zc Tryz.f66) (zg 32 sfK) (sfV (.slice (some ⟨b1,0,none⟩) 1 1) (.slice (some ⟨b2,0,none⟩) 1 1) (fnV 67) 1 (0+1)) [] 0;exact xc ⟨0,by decide,0+1,β6,u',rfl,by decide,fun _=>rfl,Iu⟩
  | false=>
   refine goZ [uO .not (p:=.bool false) (v:=.bool true) (by intros;rfl)] I fun β6 a6 w6 I hb6=>?_;exact qc (qb (v:=.bool false) I ⟨rfl,I.hJ⟩)
 ·obtain rfl:i=1:=by omega
  refine goZ [bO .lss 3 (zf (x:=(1:Nat)) (y:=(1:Nat)) (b:=false) (by decide))] I fun β4 a4 w4 I hb4=>?_;refine xg 0 ?_;refine goZ [] (I.exit _) fun β5 a5 w5 I hb5=>?_;exact zh (v:=.bool true) I ⟨by rw[hok rfl],I.hJ⟩
theorem sameG_any{w:World}{b1 b2:Nat}{v u:Va}{l m:List Se}{ev sv eu su:Value}(hv:SgI w ev sv v l)(hu:SgI w eu su u m)(hok:okX v.2.2.2)(hl:l.length<1000000000)(h1:zo w b1 0 (sg5 v ev sv))(h2:zo w b2 0 (sg5 u eu su)):Calls prog 34 #[.slice (some ⟨b1,0,none⟩) 1 1,.slice (some ⟨b2,0,none⟩) 1 1] w fun e w'=>e=.returned (.bool (eqV v u&&eqZ l m))∧Below w.heap.size w w':=by
 refine inZ func34 fun a I=>?_;refine goZ [] I fun β a w1 I hb=>?_;have k1:=h1.keep (I.hJ.block b1 h1.lt);have k2:=h2.keep (I.hJ.block b2 h2.lt);refine bcallX [Sum.inl (.slice (some ⟨b1,0,none⟩) 1 1),Sum.inl (.slice (some ⟨b2,0,none⟩) 1 1),Sum.inl (fnV 67)] func66 (zj w) I (fun x=>x=.bool (eqV v u&&eqZ l m)) ((equalG_any (hv.below I.hJ) (hu.below I.hJ) hok hl k1 k2).mono fun e w' h=>⟨h.2,_,h.1,rfl⟩) fun x w2 hx I=>?_;subst hx;refine goZ [] I fun β3 a3 w3 I hb3=>?_;exact xj (v:=.bool (eqV v u&&eqZ l m)) I
theorem bs_sg(t:Nat)(f:Bool)(d:ByteArray)(ev sv:Value)(w:World):(Instr.buildSlice 76 1 #[(0,.agg #[B t,.bool f,.string d,ev,sv])]).run prog w=.ok (.slice (some ⟨w.heap.size,0,none⟩) 1 1) (w.alloc (.cells #[B t,.bool f,.string d,ev,sv] 31)):=by
 simp[go_sem]
theorem cells_of{w:World}{b t:Nat}{cs:List Value}(h:w.heap[b]? = some (.cells cs.toArray t)):zo w b 0 cs:=fun j c hc=>by
 have hr:zb w b cs.toArray:=⟨t,h⟩
 rw[Nat.zero_add,hr.cell];simpa using hc
def eqM (f:Fi) (v:Va) (l:List Se) (g:Fi) (u:Va) (m:List Se):Bool:=eqF f g&&(eqV v u&&eqZ l m)
theorem eqM_iff{f g:Fi}{v u:Va}{l m:List Se}:eqM f v l g u m=true↔f=g∧v=u∧l=m:=by
 unfold eqM;rw[Bool.and_eq_true,Bool.and_eq_true,eqF_iff,eqV_iff,eqZ_iff]
theorem msame_any{w:World}{pv ev sv pu eu su:Value}{f g:Fi}{v u:Va}{l m:List Se}(h:MlI w pv ev sv f v l)(k:MlI w pu eu su g u m)(hf:f.1.length<1000000000):Calls prog 14 #[mlV f v pv ev sv,mlV g u pu eu su] w fun e w'=>e=.returned (.bool (eqM f v l g u m))∧Below w.heap.size w w':=by
 obtain⟨adp,capp,rfl⟩:=h.pf.1.slice;obtain⟨ade,cape,rfl⟩:=h.xf.slice;obtain⟨ads,caps,rfl⟩:=h.sf.slice;obtain⟨adq,capq,rfl⟩:=k.pf.1.slice;obtain⟨adf,capf,rfl⟩:=k.xf.slice;obtain⟨adt,capt,rfl⟩:=k.sf.slice;have hF:∀ w',Below w.heap.size w w'→Calls prog 33 #[qm f (.slice adp f.1.length capp),qm g (.slice adq g.1.length capq)] w' fun e w''=>e=.returned (.bool (eqF f g))∧Below w'.heap.size w' w'':=fun w' hb=>sameFixed_any (h.pf.below hb).1 (k.pf.below hb).1 hf
 have hG:∀ b1 b2 w',Below w.heap.size w w'→zo w' b1 0 (sg5 v (.slice ade v.2.2.2.length cape) (.slice ads l.length caps))→zo w' b2 0 (sg5 u (.slice adf u.2.2.2.length capf) (.slice adt m.length capt))→Calls prog 34 #[.slice (some ⟨b1,0,none⟩) 1 1,.slice (some ⟨b2,0,none⟩) 1 1] w' fun e w''=>e=.returned (.bool (eqV v u&&eqZ l m))∧Below w'.heap.size w' w'':=fun b1 b2 w' hb c1 c2=>sameG_any ⟨h.xf.below CE.loc hb,h.sf.below CZ.loc hb⟩ ⟨k.xf.below CE.loc hb,k.sf.below CZ.loc hb⟩ h.ok (by have:=h.ln;omega) c1 c2
 unfold eqM;generalize eqF f g=bf at hF ⊢;generalize (eqV v u&&eqZ l m)=bg at hG ⊢;obtain⟨p1,n1,a1,t1⟩:=f;obtain⟨p2,n2,a2,t2⟩:=g;obtain⟨u1,b1,d1,x1⟩:=v;obtain⟨u2,b2,d2,x2⟩:=u;simp only[]at hF hG ⊢;clear h k;refine inZ func14 fun a I=>?_;cases bf with
 | false=>
  refine goT (T:=Below w.heap.size w) [cA func33 hF] (zj w) (fun _ h=>h) I fun β a w1 I hb=>?_;exact xj (v:=.bool false) I
 | true=>
  refine goT (T:=Below w.heap.size w) [cA func33 hF] (zj w) (fun _ h=>h) I fun β a w1 I hb=>?_;refine bslQ (ss:=[(0,Sum.inl (.agg #[B u1,.bool b1,.string d1,.slice ade x1.length cape,.slice ads l.length caps]))]) I (bs_sg u1 b1 d1 (.slice ade x1.length cape) (.slice ads l.length caps) w1) ?_;have I2:=I.lay (zj w) (.cells #[B u1,.bool b1,.string d1,.slice ade x1.length cape,.slice ads l.length caps] 31) (.slice (some ⟨w1.heap.size,0,none⟩) 1 1);obtain⟨c1,hc1⟩:∃ b,w1.heap.size=b:=⟨_,rfl⟩
  rw[hc1]at I2 ⊢;have R2:=(zj w).lay c1 (.cells #[B u1,.bool b1,.string d1,.slice ade x1.length cape,.slice ads l.length caps] 31);refine goQ [] R2 I2 fun β3 a3 w3 I3 hb3=>?_;refine bslQ (ss:=[(0,Sum.inl (.agg #[B u2,.bool b2,.string d2,.slice adf x2.length capf,.slice adt m.length capt]))]) I3 (bs_sg u2 b2 d2 (.slice adf x2.length capf) (.slice adt m.length capt) w3) ?_;have I4:=I3.lay R2 (.cells #[B u2,.bool b2,.string d2,.slice adf x2.length capf,.slice adt m.length capt] 31) (.slice (some ⟨w3.heap.size,0,none⟩) 1 1);obtain⟨c2,hc2⟩:∃ b,w3.heap.size=b:=⟨_,rfl⟩
  rw[hc2]at I4 ⊢;have R4:=R2.lay c2 (.cells #[B u2,.bool b2,.string d2,.slice adf x2.length capf,.slice adt m.length capt] 31);refine goT (T:=fun w'=>(Below w.heap.size w w'∧w'.heap[c1]? = some (.cells #[B u1,.bool b1,.string d1,.slice ade x1.length cape,.slice ads l.length caps] 31))∧w'.heap[c2]? = some (.cells #[B u2,.bool b2,.string d2,.slice adf x2.length capf,.slice adt m.length capt] 31)) [cA func34 (fun w' h=>hG c1 c2 w' h.1.1 (cells_of h.1.2) (cells_of h.2))] R4 (fun _ h=>h) I4 fun β5 a5 w5 I5 hb5=>?_;exact zh (v:=.bool bg) I5 ⟨rfl,I5.hJ.1.1⟩
abbrev gsK:List Nat:=[0,1,4,5]
abbrev gsV (a b:Value) (i:Nat):Vs:=frm 72 [(0,Sum.inl a),(1,Sum.inl b),(4,Sum.inl (.bool false)),(5,Sum.inl (Z i))]
abbrev gtK:List Nat:=[0,1,4,5,6]
abbrev gtV (a b:Value) (i j:Nat):Vs:=frm 72 [(0,Sum.inl a),(1,Sum.inl b),(4,Sum.inl (.bool false)),(5,Sum.inl (Z i)),(6,Sum.inl (Z j))]
theorem zo.head4{w:World}{g o:Nat}{c0 c1 c2 c3 c4:Value}(h:zo w g o [c0,c1,c2,c3,c4]):zo w g o [c0,c1,c2,c3]:=fun j c hc=>h j c (by
 match j,hc with
 | 0,hc=>exact hc
 | 1,hc=>exact hc
 | 2,hc=>exact hc
 | 3,hc=>exact hc)
theorem rsameG_any{w:World}{b1 b2:Nat}{v u:Va}{l m:List Se}{ev sv eu su:Value}(hv:SgI w ev sv v l)(hu:SgI w eu su u m)(hok:okX v.2.2.2)(hl:l.length<1000000000)(h1:zo w b1 0 (sg5 v ev sv))(h2:zo w b2 0 (sg5 u eu su)):Calls prog 36 #[.slice (some ⟨b1,0,none⟩) 1 1,.slice (some ⟨b2,0,none⟩) 1 1] w fun e w'=>e=.returned (.bool (eqV v u&&eqZ l m))∧Below w.heap.size w w':=by
 obtain⟨ade,cape,rfl⟩:=hv.xf.slice;obtain⟨adf,capf,rfl⟩:=hu.xf.slice;obtain⟨ads,caps,rfl,hma⟩:=id hv.sf;obtain⟨adt,capt,rfl,hmb⟩:=id hu.sf;have hlt1:=h1.lt;have hlt2:=h2.lt;have hA28:∀ w',Below w.heap.size w w'→(loadVar 28 ⟨b1,0+0*5+0,none⟩).run prog w'=.ok (vaV v (.slice ade v.2.2.2.length cape)) w':=fun w' hb=>loadN underlying28 rfl (n:=4) (by kernel_rfl) rfl (h1.keep (hb.block b1 hlt1)).head4
 have hB28:∀ w',Below w.heap.size w w'→(loadVar 28 ⟨b2,0+0*5+0,none⟩).run prog w'=.ok (vaV u (.slice adf u.2.2.2.length capf)) w':=fun w' hb=>loadN underlying28 rfl (n:=4) (by kernel_rfl) rfl (h2.keep (hb.block b2 hlt2)).head4
 have hA29:∀ w',Below w.heap.size w w'→(loadVar 29 ⟨b1,0+0*5+4,none⟩).run prog w'=.ok (.slice ads l.length caps) w':=fun w' hb=>xk (h1.keep (hb.block b1 hlt1)) 4 rfl 29 underlying29 rfl
 have hB29:∀ w',Below w.heap.size w w'→(loadVar 29 ⟨b2,0+0*5+4,none⟩).run prog w'=.ok (.slice adt m.length capt) w':=fun w' hb=>xk (h2.keep (hb.block b2 hlt2)) 4 rfl 29 underlying29 rfl
 have hS:∀ w',Below w.heap.size w w'→Calls prog 68 #[vaV v (.slice ade v.2.2.2.length cape),vaV u (.slice adf u.2.2.2.length capf)] w' fun e w''=>e=.returned (.bool (eqV v u))∧Below w'.heap.size w' w'':=fun w' hb=>rsame_state (hv.xf.below CE.loc hb) (hu.xf.below CE.loc hb) hok
 clear hv hu hok h1 h2;generalize eqV v u=bv at hS ⊢;obtain⟨t1,f1,d1,x1⟩:=v;obtain⟨t2,f2,d2,x2⟩:=u;refine inZ func36 fun a I=>?_;refine goZ [lS underlying76 (ad:=some ⟨b1,0,none⟩) (n:=1) (cap:=1) rfl,lS underlying76 (ad:=some ⟨b2,0,none⟩) (n:=1) (cap:=1) rfl,bO .neq 3 (yk (x:=(1:Nat)) (y:=(1:Nat)) (b:=false) (by decide))] I fun β a w1 I hb=>?_
 let St:Nat→Act→World→Prop:=fun k a w'=>∃(i:Nat) (β:Nat→Nat) (u:Nat→Value),k=1-i∧i≤1∧(i=1→(bv&&eqZ l m)=true) ∧
  SI (Below w.heap.size w) (· < w.heap.size) [] β (cfC (zc Tryz.f36) (zl (zg 72 gsK) u 0 (gsV (.slice (some ⟨b1,0,none⟩) 1 1) (.slice (some ⟨b2,0,none⟩) 1 1) i)) [] 0) a w'
 refine lpM (zc Tryz.f36) St 1 ?_ ?_
 ·obtain⟨u,Iu⟩:=I.scr (zc Tryz.f36) (zg 72 gsK) (gsV (.slice (some ⟨b1,0,none⟩) 1 1) (.slice (some ⟨b2,0,none⟩) 1 1) 0) [] 0;exact⟨0,β,u,rfl,Nat.zero_le _,fun h=>(by cases h),Iu⟩
 rintro k a3 w3 ⟨i,β3,u,rfl,hi,hok,I⟩;refine zv (tm:=zl (zg 72 gsK) u 0 (gsV (.slice (some ⟨b1,0,none⟩) 1 1) (.slice (some ⟨b2,0,none⟩) 1 1) i)) (rows:=[]) (nx:=0) ?_;rcases Nat.lt_or_ge i 1 with hil|hil
 ·obtain rfl:i=0:=by omega
  refine goZ [lS underlying76 (ad:=some ⟨b1,0,none⟩) (n:=1) (cap:=1) rfl,bO .lss 3 (zf (x:=(0:Nat)) (y:=(1:Nat)) (b:=true) (by decide))] I fun β4 a4 w4 I hb4=>?_;cases bv with
  | false=>
   refine dwT (T:=Below w.heap.size w) 27 [iA 76 underlying76 (sz:=5) (by kernel_rfl) (g:=b1) (off:=0) (n:=1) (cap:=1) (i:=0) (by decide),ldA 28 hA28,iA 76 underlying76 (sz:=5) (by kernel_rfl) (g:=b2) (off:=0) (n:=1) (cap:=1) (i:=0) (by decide),ldA 28 hB28,cA func68 hS,uO .not (p:=.bool false) (v:=.bool true) (by intros;rfl)] (zj w) (fun _ h=>h) (zd.then (zd.qk zd.post)) I fun a5 w5 I=>?_;refine goZ [] I fun β6 a6 w6 I hb6=>?_;exact qc (qb (v:=.bool false) I ⟨rfl,I.hJ⟩)
  | true=>
  by_cases hn:¬ l.length=m.length
  ·refine dwT (T:=Below w.heap.size w) 27 [iA 76 underlying76 (sz:=5) (by kernel_rfl) (g:=b1) (off:=0) (n:=1) (cap:=1) (i:=0) (by decide),ldA 28 hA28,iA 76 underlying76 (sz:=5) (by kernel_rfl) (g:=b2) (off:=0) (n:=1) (cap:=1) (i:=0) (by decide),ldA 28 hB28,cA func68 hS,uO .not (p:=.bool true) (v:=.bool false) (by intros;rfl),iA 76 underlying76 (sz:=5) (by kernel_rfl) (g:=b1) (off:=0) (n:=1) (cap:=1) (i:=0) (by decide),ldA 29 hA29,lS underlying29 (ad:=ads) (n:=l.length) (cap:=caps) rfl,iA 76 underlying76 (sz:=5) (by kernel_rfl) (g:=b2) (off:=0) (n:=1) (cap:=1) (i:=0) (by decide),ldA 29 hB29,lS underlying29 (ad:=adt) (n:=m.length) (cap:=capt) rfl,knT l.length m.length] (zj w) (fun _ h=>h) (zd.then (zd.qk zd.post)) I fun a5 w5 I=>?_
   refine goZ [] I fun β6 a6 w6 I hb6=>?_;exact qc (qb (v:=.bool false) I ⟨by rw[zbs fun h=>hn (by rw[h])];rfl,I.hJ⟩)
  have hn:=Classical.not_not.1 hn
  refine dwT (T:=Below w.heap.size w) 27 [iA 76 underlying76 (sz:=5) (by kernel_rfl) (g:=b1) (off:=0) (n:=1) (cap:=1) (i:=0) (by decide),ldA 28 hA28,iA 76 underlying76 (sz:=5) (by kernel_rfl) (g:=b2) (off:=0) (n:=1) (cap:=1) (i:=0) (by decide),ldA 28 hB28,cA func68 hS,uO .not (p:=.bool true) (v:=.bool false) (by intros;rfl),iA 76 underlying76 (sz:=5) (by kernel_rfl) (g:=b1) (off:=0) (n:=1) (cap:=1) (i:=0) (by decide),ldA 29 hA29,lS underlying29 (ad:=ads) (n:=l.length) (cap:=caps) rfl,iA 76 underlying76 (sz:=5) (by kernel_rfl) (g:=b2) (off:=0) (n:=1) (cap:=1) (i:=0) (by decide),ldA 29 hB29,lS underlying29 (ad:=adt) (n:=m.length) (cap:=capt) rfl,knF l.length m.length] (zj w) (fun _ h=>h) (zd.then (zd.qk zd.post)) I fun a5 w5 I=>?_
  refine goZ [] I fun β6 a6 w6 I hb6=>?_
  let St2:Nat→Act→World→Prop:=fun k a w'=>∃(j:Nat) (β:Nat→Nat) (u:Nat→Value),k=l.length-j∧j≤l.length∧(∀ q x y,q<j→l[q]? = some x→m[q]? = some y→x=y) ∧
   SI (Below w.heap.size w) (· < w.heap.size) [] β (cfC (yn Tryz.f36) (zl (zg 72 gtK) u 0 (gtV (.slice (some ⟨b1,0,none⟩) 1 1) (.slice (some ⟨b2,0,none⟩) 1 1) 0 j)) [] 0) a w'
  refine lpM (yn Tryz.f36) St2 l.length ?_ ?_
  ·obtain⟨u',Iu⟩:=I.scr (yn Tryz.f36) (zg 72 gtK) (gtV (.slice (some ⟨b1,0,none⟩) 1 1) (.slice (some ⟨b2,0,none⟩) 1 1) 0 0) [] 0;exact⟨0,β6,u',by omega,Nat.zero_le _,fun q x y h=>absurd h (Nat.not_lt_zero q),Iu⟩
  rintro k7 a7 w7 ⟨j,β7,u7,rfl,hj,hok2,I7⟩;refine zv (tm:=zl (zg 72 gtK) u7 0 (gtV (.slice (some ⟨b1,0,none⟩) 1 1) (.slice (some ⟨b2,0,none⟩) 1 1) 0 j)) (rows:=[]) (nx:=0) ?_;rcases Nat.lt_or_ge j l.length with hjl|hjl
  ·have hjl2:j<m.length:=by omega
   obtain⟨x,r1⟩:∃ t,l[j]? = some t:=⟨_,List.getElem?_eq_getElem hjl⟩
   obtain⟨y,r2⟩:∃ t,m[j]? = some t:=⟨_,List.getElem?_eq_getElem hjl2⟩
   obtain⟨gc,offc,cs3,rfl,hlt3,hcc,rfl,hx1,hx2⟩:=hma j _ r1;obtain⟨gd,offd,cs4,rfl,hlt4,hcd,rfl,hy1,hy2⟩:=hmb j _ r2;have hC:∀ w',Below w.heap.size w w'→(loadVar 63 ⟨gc,offc+j*9,none⟩).run prog w'=.ok (slV x) w':=fun w' hb=>loadSe (hcc.keep (hb.block gc hlt3))
   have hD:∀ w',Below w.heap.size w w'→(loadVar 63 ⟨gd,offd+j*9,none⟩).run prog w'=.ok (slV y) w':=fun w' hb=>loadSe (hcd.keep (hb.block gd hlt4))
   refine goT (T:=Below w.heap.size w) [iA 76 underlying76 (sz:=5) (by kernel_rfl) (g:=b1) (off:=0) (n:=1) (cap:=1) (i:=0) (by decide),ldA 29 hA29,lS underlying29 (ad:=some ⟨gc,offc,none⟩) (n:=l.length) (cap:=caps) rfl,klT j l.length] (zj w) (fun _ h=>h) I7 fun β8 a8 w8 I hb8=>?_;by_cases hxy:¬ x=y
   ·refine dwT (T:=Below w.heap.size w) 17 [iA 76 underlying76 (sz:=5) (by kernel_rfl) (g:=b1) (off:=0) (n:=1) (cap:=1) (i:=0) (by decide),ldA 29 hA29,iA 29 underlying29 (sz:=9) (by kernel_rfl) (g:=gc) (off:=offc) (n:=l.length) (cap:=caps) hjl,ldA 63 hC,iA 76 underlying76 (sz:=5) (by kernel_rfl) (g:=b2) (off:=0) (n:=1) (cap:=1) (i:=0) (by decide),ldA 29 hB29,iA 29 underlying29 (sz:=9) (by kernel_rfl) (g:=gd) (off:=offd) (n:=m.length) (cap:=capt) hjl2,ldA 63 hD,bO .neq 63 (zdd hx1 hx2 hy1 hy2 (q:=true) (decide_eq_true hxy))] (zj w) (fun _ h=>h) (zd.then (zd.qk (zd.then (zd.qk zd.post)))) I fun a9 w9 I=>?_
    refine goZ [] I fun β10 a10 w10 I hb10=>?_;refine qc ?_;refine @thenR prog (bodyPost prog Tryz.f36 _) _ _ a10 w10 ?_;refine qb (v:=.bool false) I ⟨?_,I.hJ⟩;rw[zbs fun h=>hxy (by rw[h,r2]at r1;exact(Option.some.inj r1).symm)];rfl
   have hxy:=Classical.not_not.1 hxy
   refine dwT (T:=Below w.heap.size w) 17 [iA 76 underlying76 (sz:=5) (by kernel_rfl) (g:=b1) (off:=0) (n:=1) (cap:=1) (i:=0) (by decide),ldA 29 hA29,iA 29 underlying29 (sz:=9) (by kernel_rfl) (g:=gc) (off:=offc) (n:=l.length) (cap:=caps) hjl,ldA 63 hC,iA 76 underlying76 (sz:=5) (by kernel_rfl) (g:=b2) (off:=0) (n:=1) (cap:=1) (i:=0) (by decide),ldA 29 hB29,iA 29 underlying29 (sz:=9) (by kernel_rfl) (g:=gd) (off:=offd) (n:=m.length) (cap:=capt) hjl2,ldA 63 hD,bO .neq 63 (zdd hx1 hx2 hy1 hy2 (q:=false) (decide_eq_false (not_not_intro hxy)))] (zj w) (fun _ h=>h) (zd.then (zd.qk (zd.then (zd.qk zd.post)))) I fun a9 w9 I=>?_
   refine goZ [kaZ j 1 (j+1:Nat)] I fun β10 a10 w10 I hb10=>?_;obtain⟨u',Iu⟩:=I.scr (yn Tryz.f36) (zg 72 gtK) (gtV (.slice (some ⟨b1,0,none⟩) 1 1) (.slice (some ⟨b2,0,none⟩) 1 1) 0 (j+1)) [] 0;refine xc ⟨l.length-(j+1),by omega,j+1,β10,u',rfl,hjl,fun q x' y' hq hx hy=>?_,Iu⟩;rcases Nat.lt_or_ge q j with hqj | hqj
   ·exact hok2 q x' y' hqj hx hy
   ·obtain rfl:q=j:=by omega
    rw[r1]at hx;rw[r2]at hy;cases hx;cases hy;exact hxy
  ·obtain rfl:j=l.length:=by omega
   refine goT (T:=Below w.heap.size w) [iA 76 underlying76 (sz:=5) (by kernel_rfl) (g:=b1) (off:=0) (n:=1) (cap:=1) (i:=0) (by decide),ldA 29 hA29,lS underlying29 (ad:=ads) (n:=l.length) (cap:=caps) rfl,bO .lss 3 (zf (x:=l.length) (y:=l.length) (b:=false) (by simp))] (zj w) (fun _ h=>h) I7 fun β8 a8 w8 I hb8=>?_;refine xg 2 ?_;refine goZ [bO .add 3 (zw (x:=(0:Nat)) (y:=1) (z:=(0+1:Nat)) (by decide))] (I.exit _) fun β9 a9 w9 I hb9=>?_;obtain⟨u',Iu⟩:=I.scr (zc Tryz.f36) (zg 72 gsK) (gsV (.slice (some ⟨b1,0,none⟩) 1 1) (.slice (some ⟨b2,0,none⟩) 1 1) (0+1)) [] 0
   exact xc ⟨0,by decide,0+1,β9,u',rfl,by decide,fun _=>by rw[eqZ_true (qt hn fun q x y hx hy=>hok2 q x y (List.getElem?_eq_some_iff.1 hx).1 hx hy)];rfl,Iu⟩
 ·obtain rfl:i=1:=by omega
  refine goZ [lS underlying76 (ad:=some ⟨b1,0,none⟩) (n:=1) (cap:=1) rfl,bO .lss 3 (zf (x:=(1:Nat)) (y:=(1:Nat)) (b:=false) (by decide))] I fun β4 a4 w4 I hb4=>?_;refine xg 0 ?_;refine goZ [] (I.exit _) fun β5 a5 w5 I hb5=>?_;exact zh (v:=.bool true) I ⟨by rw[hok rfl],I.hJ⟩
theorem rmsame_any{w:World}{pv ev sv pu eu su:Value}{f g:Fi}{v u:Va}{l m:List Se}(h:MlI w pv ev sv f v l)(k:MlI w pu eu su g u m)(hf:f.1.length<1000000000):Calls prog 15 #[mlV f v pv ev sv,mlV g u pu eu su] w fun e w'=>e=.returned (.bool (eqM f v l g u m))∧Below w.heap.size w w':=by
 obtain⟨adp,capp,rfl⟩:=h.pf.1.slice;obtain⟨ade,cape,rfl⟩:=h.xf.slice;obtain⟨ads,caps,rfl⟩:=h.sf.slice;obtain⟨adq,capq,rfl⟩:=k.pf.1.slice;obtain⟨adf,capf,rfl⟩:=k.xf.slice;obtain⟨adt,capt,rfl⟩:=k.sf.slice;have hF:∀ w',Below w.heap.size w w'→Calls prog 35 #[qm f (.slice adp f.1.length capp),qm g (.slice adq g.1.length capq)] w' fun e w''=>e=.returned (.bool (eqF f g))∧Below w'.heap.size w' w'':=fun w' hb=>rsame_fixed (h.pf.below hb).1 (k.pf.below hb).1 hf
 have hG:∀ b1 b2 w',Below w.heap.size w w'→zo w' b1 0 (sg5 v (.slice ade v.2.2.2.length cape) (.slice ads l.length caps))→zo w' b2 0 (sg5 u (.slice adf u.2.2.2.length capf) (.slice adt m.length capt))→Calls prog 36 #[.slice (some ⟨b1,0,none⟩) 1 1,.slice (some ⟨b2,0,none⟩) 1 1] w' fun e w''=>e=.returned (.bool (eqV v u&&eqZ l m))∧Below w'.heap.size w' w'':=fun b1 b2 w' hb c1 c2=>rsameG_any ⟨h.xf.below CE.loc hb,h.sf.below CZ.loc hb⟩ ⟨k.xf.below CE.loc hb,k.sf.below CZ.loc hb⟩ h.ok (by have:=h.ln;omega) c1 c2
 unfold eqM;generalize eqF f g=bf at hF ⊢;generalize (eqV v u&&eqZ l m)=bg at hG ⊢;obtain⟨p1,n1,a1,t1⟩:=f;obtain⟨p2,n2,a2,t2⟩:=g;obtain⟨u1,b1,d1,x1⟩:=v;obtain⟨u2,b2,d2,x2⟩:=u;simp only[]at hF hG ⊢;clear h k;refine inZ func15 fun a I=>?_;cases bf with
 | false=>
  refine goT (T:=Below w.heap.size w) [cA func35 hF] (zj w) (fun _ h=>h) I fun β a w1 I hb=>?_;exact xj (v:=.bool false) I
 | true=>
  refine goT (T:=Below w.heap.size w) [cA func35 hF] (zj w) (fun _ h=>h) I fun β a w1 I hb=>?_;refine bslQ (ss:=[(0,Sum.inl (.agg #[B u1,.bool b1,.string d1,.slice ade x1.length cape,.slice ads l.length caps]))]) I (bs_sg u1 b1 d1 (.slice ade x1.length cape) (.slice ads l.length caps) w1) ?_;have I2:=I.lay (zj w) (.cells #[B u1,.bool b1,.string d1,.slice ade x1.length cape,.slice ads l.length caps] 31) (.slice (some ⟨w1.heap.size,0,none⟩) 1 1);obtain⟨c1,hc1⟩:∃ b,w1.heap.size=b:=⟨_,rfl⟩
  rw[hc1]at I2 ⊢;have R2:=(zj w).lay c1 (.cells #[B u1,.bool b1,.string d1,.slice ade x1.length cape,.slice ads l.length caps] 31);refine goQ [] R2 I2 fun β3 a3 w3 I3 hb3=>?_;refine bslQ (ss:=[(0,Sum.inl (.agg #[B u2,.bool b2,.string d2,.slice adf x2.length capf,.slice adt m.length capt]))]) I3 (bs_sg u2 b2 d2 (.slice adf x2.length capf) (.slice adt m.length capt) w3) ?_;have I4:=I3.lay R2 (.cells #[B u2,.bool b2,.string d2,.slice adf x2.length capf,.slice adt m.length capt] 31) (.slice (some ⟨w3.heap.size,0,none⟩) 1 1);obtain⟨c2,hc2⟩:∃ b,w3.heap.size=b:=⟨_,rfl⟩
  rw[hc2]at I4 ⊢;have R4:=R2.lay c2 (.cells #[B u2,.bool b2,.string d2,.slice adf x2.length capf,.slice adt m.length capt] 31);refine goT (T:=fun w'=>(Below w.heap.size w w'∧w'.heap[c1]? = some (.cells #[B u1,.bool b1,.string d1,.slice ade x1.length cape,.slice ads l.length caps] 31))∧w'.heap[c2]? = some (.cells #[B u2,.bool b2,.string d2,.slice adf x2.length capf,.slice adt m.length capt] 31)) [cA func36 (fun w' h=>hG c1 c2 w' h.1.1 (cells_of h.1.2) (cells_of h.2))] R4 (fun _ h=>h) I4 fun β5 a5 w5 I5 hb5=>?_;exact zh (v:=.bool bg) I5 ⟨rfl,I5.hJ.1.1⟩
end Go.Proofs.YtdeompgdhaomgaaGreatDoor
