/- Laid one behind the other: Sn, Sr, Sa. -/
import Derived.Defers
import Derived.Test.YthkpgfbjdabflaaGreatDoorKkBu
import Derived.Test.YthkpgfbjdabflaaGreatDoorKkLm
namespace Go.Proofs.YthkpgfbjdabflaaGreatDoor
open Go.RowKit Go.Sort Tryz
set_option linter.unusedVariables false
set_option maxRecDepth 100000
set_option maxHeartbeats 4000000
def HW:Nat:=57896044618658097711785492504343953926634992332820282019728792003956564819968
theorem HW_pow:HW=2^255:=by decide +kernel
theorem HW_pos:0<HW:=by decide +kernel
def ng (a:Nat):Bool:=decide (HW≤a)
def negW (a:Nat):Nat:=subW 0 a
def tn (a:Nat) (b:Bool):Nat:=if b=true then negW a else a
def ab (a:Nat):Nat:=tn a (ng a)
def sq (a b:Nat):Nat:=tn (ab a/ab b) (ng a != ng b)
def sr (a b:Nat):Nat:=tn (dr 0 (ab a) (ab b)) (ng a)
def ls (a b:Nat):Bool:=if(ng a != ng b)=true then ng a else decide (a<b)
def sar (a n:Nat):Nat:=if ng a=true then notW (vw (notW a) n)else vw a n
def upE (k:Nat):Nat:=8*(31-k)
def exW (k a:Nat):Nat:=if k<31 then sar (shlW a (upE k)) (upE k)else a
def byW (k a:Nat):Nat:=if k<32 then zy a k else 0
theorem negW_lt(a:Nat):negW a<W:=Nat.mod_lt _ ku
theorem tn_lt(a:Nat)(b:Bool)(h:a<W):tn a b<W:=by
 unfold tn;split
 ·exact negW_lt a
 ·exact h
theorem ab_lt(a:Nat)(h:a<W):ab a<W:=tn_lt a _ h
theorem ng_true{a:Nat}(h:ng a=true):HW≤a:=of_decide_eq_true h
theorem dr0_lt(a b:Nat)(h:a<W):dr 0 a b<W:=by
 unfold dr;split
 ·exact ku
 ·rw[Nat.zero_mul,Nat.zero_add];exact Nat.lt_of_le_of_lt (Nat.mod_le _ _) h
theorem div_lt(a b:Nat)(h:a<W):a/b<W:=Nat.lt_of_le_of_lt (Nat.div_le_self _ _) h
theorem sq_lt(a b:Nat)(ha:a<W):sq a b<W:=tn_lt _ _ (div_lt _ _ (ab_lt a ha))
theorem sr_lt(a b:Nat)(ha:a<W):sr a b<W:=tn_lt _ _ (dr0_lt _ _ (ab_lt a ha))
theorem sar_lt(a n:Nat)(h:a<W):sar a n<W:=by
 unfold sar;split
 ·exact notW_lt _
 ·exact shrW_lt a n h
theorem exW_lt(k a:Nat)(h:a<W):exW k a<W:=by
 unfold exW;split
 ·exact sar_lt _ _ (shlW_lt _ _)
 ·exact h
theorem zeh(a k:Nat):zy a k<256:=Nat.mod_lt _ (by decide)
theorem byW_lt(k a:Nat):byW k a<256:=by
 unfold byW;split
 ·exact zeh a k
 ·decide
theorem ng_bits(a:Nat)(h:a<W):((xm a:Int)=256)↔ng a=true:=by
 constructor
 ·intro hb;have hb:xm a=256:=by omega
  have h0:0<a:=by
   rcases Nat.eq_zero_or_pos a with h0|h0
   ·subst h0;have:=zbn 0 0 (by decide);omega
   ·exact h0
  have:=(bitsN_spec a h h0).2.2.1;rw[hb]at this;exact decide_eq_true (by rw[HW_pow];exact this)
 ·intro hn;have hn:=ng_true hn;have hp:=HW_pos;obtain⟨b1,b2,b3,b4⟩:=bitsN_spec a h (by omega);rcases Nat.lt_or_ge (xm a) 256 with hl|hl
  ·exfalso;have:2^xm a≤2^255:=Nat.pow_le_pow_right (by decide) (by omega);rw[← HW_pow]at this;omega
  ·omega
theorem bZ4(w:World):(Instr.build 45 (([]:List Nat).zip []).toArray).run prog w=.ok (I4 0 0 0 0) w:=by kernel_rfl
def lsZ (c:Int):Fa prog (fun _=>True):=bO .lss 3 (p:=.int .i64 c) (q:=.int .i64 0) (v:=.bool (decide (c<0))) (by intros;simp[go_sem])
def ntB (b:Bool):Fa prog (fun _=>True):=uO .not (p:=.bool b) (v:=.bool (!b)) (by intros;simp[go_sem])
def nqB (a b:Bool):Fa prog (fun _=>True):=bO .neq 4 (p:=.bool a) (q:=.bool b) (v:=.bool (a != b)) (by intros;cases a<;>cases b<;>simp[go_sem])
theorem neg_raw(a x:Nat)(u:Bool)(hc:qv 246 #[I4 0 0 0 0,U a] (.tuple #[U x,.bool u]))(w:World):Calls prog 329 #[U a] w fun e w'=>e=.returned (U x)∧Below w.heap.size w w':=ro [(1,[dO 45 [] bZ4,nO,kC func246 hc.out])] func329
theorem under_raw(a:Nat)(x:Int)(hc:qv 214 #[U a] (.int .i64 x))(w:World):Calls prog 300 #[U a] w fun e w'=>e=.returned (.bool (decide (x=256)))∧Below w.heap.size w w':=ro [(1,[nO,kC func214 hc.out,bO .eql 3 (p:=.int .i64 x) (q:=.int .i64 256) (v:=.bool (decide (x=256))) (by intros;simp[go_sem];rfl)])] func300
theorem turned_yes(a x:Nat)(hn:qv 329 #[U a] (U x))(w:World):Calls prog 319 #[U a,.bool true] w fun e w'=>e=.returned (U x)∧Below w.heap.size w w':=ro [(2,[nO,kC func329 hn.out])] func319
theorem turned_no(a:Nat)(w:World):Calls prog 319 #[U a,.bool false] w fun e w'=>e=.returned (U a)∧Below w.heap.size w w':=ro [] func319
theorem less_tt(a b:Nat)(c:Int)(hp:qv 300 #[U a] (.bool true))(hq:qv 300 #[U b] (.bool true))(hc:qv 148 #[U a,U b] (.int .i64 c))(w:World):Calls prog 263 #[U a,U b] w fun e w'=>e=.returned (.bool (decide (c<0)))∧Below w.heap.size w w':=ro [(1,[nO,kC func300 hp.out,nO,kC func300 hq.out,nqB true true]),(3,[nO,nO,kC func148 hc.out,lsZ c])] func263
theorem less_tf(a b:Nat)(hp:qv 300 #[U a] (.bool true))(hq:qv 300 #[U b] (.bool false))(w:World):Calls prog 263 #[U a,U b] w fun e w'=>e=.returned (.bool true)∧Below w.heap.size w w':=ro [(1,[nO,kC func300 hp.out,nO,kC func300 hq.out,nqB true false]),(2,[nO,kC func300 hp.out])] func263
theorem less_ft(a b:Nat)(hp:qv 300 #[U a] (.bool false))(hq:qv 300 #[U b] (.bool true))(w:World):Calls prog 263 #[U a,U b] w fun e w'=>e=.returned (.bool false)∧Below w.heap.size w w':=ro [(1,[nO,kC func300 hp.out,nO,kC func300 hq.out,nqB false true]),(2,[nO,kC func300 hp.out])] func263
theorem less_ff(a b:Nat)(c:Int)(hp:qv 300 #[U a] (.bool false))(hq:qv 300 #[U b] (.bool false))(hc:qv 148 #[U a,U b] (.int .i64 c))(w:World):Calls prog 263 #[U a,U b] w fun e w'=>e=.returned (.bool (decide (c<0)))∧Below w.heap.size w w':=ro [(1,[nO,kC func300 hp.out,nO,kC func300 hq.out,nqB false false]),(3,[nO,nO,kC func148 hc.out,lsZ c])] func263
theorem sar_yes(a n x y z:Nat)(hp:qv 300 #[U a] (.bool true))(h1:qv 271 #[U a] (U x))(h2:qv 275 #[U x,B n] (U y))(h3:qv 271 #[U y] (U z))(w:World):Calls prog 276 #[U a,B n] w fun e w'=>e=.returned (U z)∧Below w.heap.size w w':=ro [(1,[nO,kC func300 hp.out]),(2,[nO,kC func271 h1.out,nO,kC func275 h2.out,kC func271 h3.out])] func276
theorem sar_no(a n y:Nat)(hp:qv 300 #[U a] (.bool false))(h2:qv 275 #[U a,B n] (U y))(w:World):Calls prog 276 #[U a,B n] w fun e w'=>e=.returned (U y)∧Below w.heap.size w w':=ro [(1,[nO,kC func300 hp.out]),(3,[nO,nO,kC func275 h2.out])] func276
theorem isb_raw(k n m:Nat)(c:Int)(h1:qv 48 #[B n] (U m))(h2:qv 148 #[U k,U m] (.int .i64 c))(w:World):Calls prog 299 #[U k,B n] w fun e w'=>e=.returned (.bool (decide (c<0)))∧Below w.heap.size w w':=ro [(1,[nO,nO,kC func48 h1.out,kC func148 h2.out,lsZ c])] func299
theorem ext_no(k a:Nat)(hb:qv 299 #[U k,B 31] (.bool false))(w:World):Calls prog 259 #[U k,U a] w fun e w'=>e=.returned (U a)∧Below w.heap.size w w':=ro [(1,[nO,kC func299 hb.out,ntB false])] func259
theorem ext_yes(k a up y z:Nat)(hb:qv 299 #[U k,B 31] (.bool true))(h1:qv 274 #[U a,B up] (U y))(h2:qv 276 #[U y,B up] (U z))(he:IntKind.u64.wrap (IntKind.u64.wrap (31-(l0 k:Int))*8)=(up:Int))(w:World):Calls prog 259 #[U k,U a] w fun e w'=>e=.returned (U z)∧Below w.heap.size w w':=ro [(1,[nO,kC func299 hb.out,ntB true]),(3,[nO,nO,bO .sub 23 (p:=B 31) (q:=B (l0 k)) (v:=.int .u64 (IntKind.u64.wrap (31-(l0 k:Int)))) (by intros;simp[go_sem]),bO .mul 23 (p:=.int .u64 (IntKind.u64.wrap (31-(l0 k:Int)))) (q:=B 8) (v:=B up) (by intros;simp[go_sem,he])]),(4,[nO,nO,kC func274 h1.out,nO,kC func276 h2.out])] func259
theorem byte_no(k a:Nat)(hb:qv 299 #[U k,B 32] (.bool false))(w:World):Calls prog 272 #[U k,U a] w fun e w'=>e=.returned (I4 0 0 0 0)∧Below w.heap.size w w':=ro [(1,[nO,kC func299 hb.out,ntB false]),(2,[dO 45 [] bZ4])] func272
theorem byte_yes(k a x:Nat)(s:ByteArray)(hb:qv 299 #[U k,B 32] (.bool true))(h1:qv 47 #[U a] (.string s))(h2:qv 48 #[B x] (U x))(hx:∀ w,(Instr.index 9 (.string s) (B (l0 k))).run prog w=.ok (.int .u8 (x:Int)) w)(hw:IntKind.u64.wrap (x:Int)=(x:Int))(w:World):Calls prog 272 #[U k,U a] w fun e w'=>e=.returned (U x)∧Below w.heap.size w w':=ro [(1,[nO,kC func299 hb.out,ntB true]),(3,[nO,kC func47 h1.out,nO,nO,iO 9 hx,vO 5 23 (p:=.int .u8 (x:Int)) (v:=B x) (by intros;simp[go_sem,hw]),kC func48 h2.out])] func272
theorem sdiv_raw(a b q r:Nat)(hd:qv 296 #[U a,U b] (.tuple #[U q,U r]))(w:World):Calls prog 251 #[U a,U b] w fun e w'=>e=.returned (.tuple #[U q,U r])∧Below w.heap.size w w':=ro [(1,[nO,nO,kC func296 hd.out])] func251
theorem ob_boolS{o:Oper}{a':Act}{w':World}{Q:Exit→Act→World→Prop}(x y:Operand)(ho:o.op=.store 4 x y){g:Nat}{c:Array Value}{b:Bool}(hx:a'.eval x=.pointer (some ⟨g,0,none⟩))(hy:a'.eval y=.bool b)(hr:zb w' g c)(hn:c.size=1):o.wp prog a' w' (fun a'' w''=>a''=a'.put o.dst undef∧w''=w'.setRow g #[.bool b]) Q:=by
 have hz:=hr.fz 0;have hc:w'.cell? ⟨g,0,none⟩=some c[0]:=by rw[hr.cell 0];simp[hn]
 have e:w'.setCell ⟨g,0,none⟩ (.bool b)=w'.setRow g #[.bool b]:=by
  rw[hr.setCell]
  congr 1
  apply Array.ext
  ·simp[hn]
  ·intro i h1 h2;simp[hn]at h1;subst h1;simp
 unfold Oper.wp;have hrun:∀ ev:Operand→Value,ev x=.pointer (some ⟨g,0,none⟩)→ev y=.bool b→(execOp ev o).run prog w'=.ok .skip (w'.setRow g #[.bool b]):=by
  intro ev hx hy;simp[execOp,ho,hx,hy,go_sem,hc,hz,e]
 rw[hrun _ hx hy];simp[go_sem]
theorem ob_boolF{o:Oper}{a':Act}{w':World}{Q:Exit→Act→World→Prop}(x:Operand)(ho:o.op=.load 4 x){g:Nat}{b:Bool}(hx:a'.eval x=.pointer (some ⟨g,0,none⟩))(hr:zb w' g #[.bool b]):o.wp prog a' w' (fun a'' w''=>a''=a'.put o.dst (.bool b)∧Below w'.heap.size w' w'') Q:=by
 have hc:w'.cell? ⟨g,0,none⟩=some (.bool b):=hr.cell 0;have hrun:∀ ev:Operand→Value,ev x=.pointer (some ⟨g,0,none⟩)→(execOp ev o).run prog w'=.ok (.value (.bool b)) w':=by
  intro ev hx;simp[execOp,ho,hx,go_sem,hc]
 exact ob_val (hrun _ hx)
theorem laid_on(q r x y gq g4 g5 gl:Nat)(p s:Bool)(ht1:qv 319 #[U q,.bool (p != s)] (U x))(ht2:qv 319 #[U r,.bool p] (U y))(u:FrameMode)(w w1:World)(RR:Hid (RB w w1 [(gq,Ar q),(g4,#[.bool p]),(g5,#[.bool s]),(gl,Ar r)]))(k0:w.heap.size≤gq)(k1:w.heap.size≤gl)(n1:gq<gl)(n2:gl<g4)(n3:gl<g5) :
  CallsD prog 318 #[.pointer (some ⟨gq,0,none⟩),.pointer (some ⟨g4,0,none⟩),.pointer (some ⟨g5,0,none⟩),.pointer (some ⟨gl,0,none⟩)] u w1 fun e u' w'=>u'=u∧e=.returned (.tuple #[])∧zb w' gq (Ar x)∧zb w' gl (Ar y)∧Below w.heap.size w w':=by
 go_enter_d func318,ntmps318
 obtain⟨q3,q2,q1,q0,_⟩:=RR.out.r.lts;obtain⟨c3_0,c3_1,c3_2,c3_3⟩:=zb.c4 (RR.out.at 0 rfl);have c2_0:=zb.c1 (RR.out.at 1 rfl);have c1_0:=zb.c1 (RR.out.at 2 rfl)
 go_wp2_with fail
 refine(ht1.out _).mono ?_;rintro e w2 ⟨rfl,hb2⟩;replace RR:=rbB RR hb2;clear hb2 q0 q1 q2 q3 c3_0 c3_1 c3_2 c3_3 c2_0 c1_0;obtain⟨q3,q2,q1,q0,_⟩:=RR.out.r.lts;obtain⟨c3_0,c3_1,c3_2,c3_3⟩:=zb.c4 (RR.out.at 0 rfl);obtain⟨z3_0,z3_1,z3_2,z3_3⟩:=zb.z4 (RR.out.at 0 rfl)
 go_upto_region 1 with fail
 refine xz _ ?_;intro w3 hF;rw[setc4 (RR.out.at 0 rfl) rfl]at hF;replace RR:Hid (RB w w3 [(gq,(Ar x)),(g4,#[.bool p]),(g5,#[.bool s]),(gl,(Ar r))]):=by rw[hF];exact(rbS RR 0 (Ar x) rfl (by omega) (zbf.here (y9.cons (by omega) (y9.cons (by omega) (y9.cons (by omega) y9.nil)))))
 clear hF q0 q1 q2 q3 c3_0 c3_1 c3_2 c3_3 z3_0 z3_1 z3_2 z3_3;obtain⟨q3,q2,q1,q0,_⟩:=RR.out.r.lts;have c2_0:=zb.c1 (RR.out.at 1 rfl);obtain⟨c0_0,c0_1,c0_2,c0_3⟩:=zb.c4 (RR.out.at 3 rfl)
 go_wp2_with fail
 refine(ht2.out _).mono ?_;rintro e w4 ⟨rfl,hb4⟩;replace RR:=rbB RR hb4;clear hb4 q0 q1 q2 q3 c2_0 c0_0 c0_1 c0_2 c0_3;obtain⟨q3,q2,q1,q0,_⟩:=RR.out.r.lts;obtain⟨c0_0,c0_1,c0_2,c0_3⟩:=zb.c4 (RR.out.at 3 rfl);obtain⟨z0_0,z0_1,z0_2,z0_3⟩:=zb.z4 (RR.out.at 3 rfl)
 go_wp2
 rw[setc4 (RR.out.at 3 rfl) rfl]
 go_end0
 exact⟨rfl,zb.set_other (RR.out.at 0 rfl) _ (by omega),zb.set_same (RR.out.at 3 rfl) _,zf RR.out.b (by omega) _⟩
theorem sdivide_raw(a b x y q r x' y':Nat)(p s:Bool)(h1:qv 300 #[U a] (.bool p))(h2:qv 300 #[U b] (.bool s))(h3:qv 319 #[U a,.bool p] (U x))(h4:qv 319 #[U b,.bool s] (U y))(h5:qv 249 #[U x,U y] (.tuple #[U q,U r]))(h6:qv 319 #[U q,.bool (p != s)] (U x'))(h7:qv 319 #[U r,.bool p] (U y'))(w:World) :
  Calls prog 296 #[U a,U b] w fun e w'=>e=.returned (.tuple #[U x',U y'])∧Below w.heap.size w w':=by
 have hmf:∀(fn:Fn) (first cap:Array Value) (w:World),(Instr.makeFunc fn first cap).run prog w=.ok (.func fn first cap) w:=fun _ _ _ _=>rfl
 go_enter_defers func296,ntmps296
 go_wp2_with fail
 refine xz _ ?_;intro wF hF0;have RR:Hid (RB w wF [(w.heap.size+1+1+1,Zr),(w.heap.size+1+1,Zr),(w.heap.size+1,(Ar b)),(w.heap.size,(Ar a))]):=by rw[hF0];exact(rbN (rbN (rbN (rbN (rb0 w) (by simp)) (by simp)) (by simp)) (by simp))
 clear hF0;obtain⟨q3,q2,q1,q0,_⟩:=RR.out.r.lts;refine zd1 (by kernel_rfl) (by kernel_rfl) (by kernel_rfl) [(w.heap.size,(Ar a)),(w.heap.size+1,(Ar b)),(w.heap.size+1+1,Zr),(w.heap.size+1+1+1,Zr)]
  [sV (U a),
   sV (.bool p),
   sV (U b),
   sV (.bool s),
   sA (fun g=>.pointer (some ⟨g,0,none⟩)) 6 #[.bool false] #[.bool p],
   sA (fun g=>.pointer (some ⟨g,0,none⟩)) 7 #[.bool false] #[.bool s],
   sS 4,
   sS 5]
  (by kernel_rfl) RR.out.b (zl.cons (RR.out.at 3 rfl) (zl.cons (RR.out.at 2 rfl) (zl.cons (RR.out.at 1 rfl) (zl.cons (RR.out.at 0 rfl) zl.nil)))) (StOk.of [] rfl StM.nil)
  (Obs.val (fun a' w' E=>ob_row 45 (.tmp 2) rfl (E.old 2 (by kernel_rfl)) (E.row 0 rfl) rfl underlying45 (by kernel_rfl))
  (Obs.val (fun a' w' E=>ob_call (f:=300) (args:=#[U a]) (by simp[ym,ev (E.new 8 0 (by kernel_rfl) rfl),go_sem]) (h1.out w'))
  (Obs.val (fun a' w' E=>ob_row 45 (.tmp 3) rfl (E.old 3 (by kernel_rfl)) (E.row 1 rfl) rfl underlying45 (by kernel_rfl))
  (Obs.val (fun a' w' E=>ob_call (f:=300) (args:=#[U b]) (by simp[ym,ev (E.new 10 2 (by kernel_rfl) rfl),go_sem]) (h2.out w'))
  (Obs.alloc (fun a' w' E=>ob_alloc (t:=4) (by simp[ym,execOp,go_sem]))
  (Obs.alloc (fun a' w' E=>ob_alloc (t:=4) (by simp[ym,execOp,go_sem]))
  (Obs.sta rfl (fun a' w' g E ha hr=>ob_boolS (.tmp 6) (.tmp 9) rfl (ha 6 (by kernel_rfl)) (E.new 9 1 (by kernel_rfl) rfl) hr rfl)
  (Obs.sta rfl (fun a' w' g E ha hr=>ob_boolS (.tmp 7) (.tmp 11) rfl (ha 7 (by kernel_rfl)) (E.new 11 3 (by kernel_rfl) rfl) hr rfl)
  Obs.nil)))))))) ?_
 intro bs w1 a2 ha F;have e:a2=({ tmps:=#[U a,U b,.pointer (some ⟨w.heap.size,0,none⟩),.pointer (some ⟨w.heap.size+1,0,none⟩),.pointer (some ⟨w.heap.size+1+1,0,none⟩),.pointer (some ⟨w.heap.size+1+1+1,0,none⟩),.pointer (some ⟨bs 4,0,none⟩),.pointer (some ⟨bs 5,0,none⟩),U a,.bool p,U b,.bool s,undef,undef,undef,undef,undef,undef,undef,undef,undef,undef],defers:=[] }:Act):=ha.trans (by kernel_rfl);subst e;clear ha;obtain⟨h4,X4⟩:=F.al 4 rfl rfl;obtain⟨h5,X5⟩:=F.al 5 rfl rfl;have n4_5:=F.ne 4 5 (by decide) rfl rfl
 replace RR:Hid (RB w w1 [(bs 5,#[.bool s]),(bs 4,#[.bool p]),(w.heap.size+1+1+1,Zr),(w.heap.size+1+1,Zr),(w.heap.size+1,(Ar b)),(w.heap.size,(Ar a))]):=⟨F.bw,(zl.cons X5 (zl.cons X4 (zl.cons (F.row 3 rfl) (zl.cons (F.row 2 rfl) (zl.cons (F.row 1 rfl) (zl.cons (F.row 0 rfl) zl.nil))))))⟩
 generalize bs 4=g4,bs 5=g5 at *;have k4_0:=Nat.lt_of_lt_of_le q0 h4;have k4_1:=Nat.lt_of_lt_of_le q1 h4;have k4_2:=Nat.lt_of_lt_of_le q2 h4;have k4_3:=Nat.lt_of_lt_of_le q3 h4;have k5_0:=Nat.lt_of_lt_of_le q0 h5;have k5_1:=Nat.lt_of_lt_of_le q1 h5;have k5_2:=Nat.lt_of_lt_of_le q2 h5;have k5_3:=Nat.lt_of_lt_of_le q3 h5;clear F q0 q1 q2 q3 h4 X4 h5 X5;obtain⟨q5,q4,q3,q2,q1,q0,_⟩:=RR.out.r.lts;obtain⟨c0_0,c0_1,c0_2,c0_3⟩:=zb.c4 (RR.out.at 5 rfl);obtain⟨c1_0,c1_1,c1_2,c1_3⟩:=zb.c4 (RR.out.at 4 rfl)
 go_wp2_with fail
 refine xz _ ?_;intro wF hF0;replace RR:Hid (RB w wF [(g5,#[.bool s]),(g4,#[.bool p]),(w.heap.size+1+1+1,Zr),(w.heap.size+1+1,Zr),(w.heap.size+1,(Ar b)),(w.heap.size,(Ar a))]):=by rw[hF0];exact RR
 clear hF0 q0 q1 q2 q3 q4 q5 c0_0 c0_1 c0_2 c0_3 c1_0 c1_1 c1_2 c1_3;obtain⟨q5,q4,q3,q2,q1,q0,_⟩:=RR.out.r.lts;refine zd1 (by kernel_rfl) (by kernel_rfl) (by kernel_rfl) [(w.heap.size,(Ar a)),(w.heap.size+1,(Ar b)),(g4,#[.bool p]),(g5,#[.bool s])]
  [sV (U a),
   sV (.bool p),
   sV (U x),
   sV (U b),
   sV (.bool s),
   sV (U y),
   sV (.tuple #[U q,U r]),
   sV (U q),
   sV (U r),
   sK (w.heap.size+1+1) Zr (Ar q),
   sK (w.heap.size+1+1+1) Zr (Ar r)]
  (by kernel_rfl) RR.out.b (zl.cons (RR.out.at 5 rfl) (zl.cons (RR.out.at 4 rfl) (zl.cons (RR.out.at 1 rfl) (zl.cons (RR.out.at 0 rfl) zl.nil)))) (StOk.of [(w.heap.size+1+1,Zr),(w.heap.size+1+1+1,Zr)] rfl (StM.cons (RR.out.at 3 rfl) (by omega) (y9.cons (by omega) (y9.cons (by omega) (y9.cons (by omega) (y9.cons (by omega) y9.nil)))) (y9.cons (by omega) y9.nil) (StM.cons (RR.out.at 2 rfl) (by omega) (y9.cons (by omega) (y9.cons (by omega) (y9.cons (by omega) (y9.cons (by omega) y9.nil)))) y9.nil StM.nil)))
  (Obs.val (fun a' w' E=>ob_row 45 (.tmp 2) rfl (E.old 2 (by kernel_rfl)) (E.row 0 rfl) rfl underlying45 (by kernel_rfl))
  (Obs.val (fun a' w' E=>ob_boolF (.tmp 6) rfl (E.old 6 (by kernel_rfl)) (E.row 2 rfl))
  (Obs.val (fun a' w' E=>ob_call (f:=319) (args:=#[U a,.bool p]) (by simp[ym,ev (E.new 13 0 (by kernel_rfl) rfl),ev (E.new 14 1 (by kernel_rfl) rfl),go_sem]) (h3.out w'))
  (Obs.val (fun a' w' E=>ob_row 45 (.tmp 3) rfl (E.old 3 (by kernel_rfl)) (E.row 1 rfl) rfl underlying45 (by kernel_rfl))
  (Obs.val (fun a' w' E=>ob_boolF (.tmp 7) rfl (E.old 7 (by kernel_rfl)) (E.row 3 rfl))
  (Obs.val (fun a' w' E=>ob_call (f:=319) (args:=#[U b,.bool s]) (by simp[ym,ev (E.new 16 3 (by kernel_rfl) rfl),ev (E.new 17 4 (by kernel_rfl) rfl),go_sem]) (h4.out w'))
  (Obs.val (fun a' w' E=>ob_call (f:=249) (args:=#[U x,U y]) (by simp[ym,ev (E.new 15 2 (by kernel_rfl) rfl),ev (E.new 18 5 (by kernel_rfl) rfl),go_sem]) (h5.out w'))
  (Obs.val (fun a' w' E=>ob_val (by simp[ym,execOp,go_sem,ev (E.new 19 6 (by kernel_rfl) rfl)]))
  (Obs.val (fun a' w' E=>ob_val (by simp[ym,execOp,go_sem,ev (E.new 19 6 (by kernel_rfl) rfl)]))
  (Obs.stk (fun a' w' E hr=>ob_store 45 (.tmp 4) (.tmp 20) rfl (E.old 4 (by kernel_rfl)) (E.new 20 7 (by kernel_rfl) rfl) hr rfl rfl (by simp[Value.oneCell']) (by kernel_rfl))
  (Obs.stk (fun a' w' E hr=>ob_store 45 (.tmp 5) (.tmp 21) rfl (E.old 5 (by kernel_rfl)) (E.new 21 8 (by kernel_rfl) rfl) hr rfl rfl (by simp[Value.oneCell']) (by kernel_rfl))
  Obs.nil))))))))))) ?_
 intro bs w2 a2 ha F
 have e:a2=({ tmps:=#[U a,U b,.pointer (some ⟨w.heap.size,0,none⟩),.pointer (some ⟨w.heap.size+1,0,none⟩),.pointer (some ⟨w.heap.size+1+1,0,none⟩),.pointer (some ⟨w.heap.size+1+1+1,0,none⟩),.pointer (some ⟨g4,0,none⟩),.pointer (some ⟨g5,0,none⟩),U a,.bool p,U b,.bool s,.func (.func 318) #[] #[.pointer (some ⟨w.heap.size+1+1,0,none⟩),.pointer (some ⟨g4,0,none⟩),.pointer (some ⟨g5,0,none⟩),.pointer (some ⟨w.heap.size+1+1+1,0,none⟩)],U a,.bool p,U x,U b,.bool s,U y,.tuple #[U q,U r],U q,U r],defers:=[{ target:=.fn (.func 318) #[.pointer (some ⟨w.heap.size+1+1,0,none⟩),.pointer (some ⟨g4,0,none⟩),.pointer (some ⟨g5,0,none⟩),.pointer (some ⟨w.heap.size+1+1+1,0,none⟩)],args:=#[] }] }:Act):=ha.trans (by kernel_rfl)
 subst e;clear ha;replace RR:Hid (RB w w2 [(g5,#[.bool s]),(g4,#[.bool p]),(w.heap.size+1+1+1,(Ar r)),(w.heap.size+1+1,(Ar q)),(w.heap.size+1,(Ar b)),(w.heap.size,(Ar a))]):=⟨F.bw,(zl.cons (F.row 3 rfl) (zl.cons (F.row 2 rfl) (zl.cons (F.sk 10 rfl) (zl.cons (F.sk 9 rfl) (zl.cons (F.row 1 rfl) (zl.cons (F.row 0 rfl) zl.nil))))))⟩
 clear F q0 q1 q2 q3 q4 q5;obtain⟨q5,q4,q3,q2,q1,q0,_⟩:=RR.out.r.lts
 go_wp2
 refine leaves_cons (f:=318) (args:=#[.pointer (some ⟨w.heap.size+1+1,0,none⟩),.pointer (some ⟨g4,0,none⟩),.pointer (some ⟨g5,0,none⟩),.pointer (some ⟨w.heap.size+1+1+1,0,none⟩)]) (by simp) (by simp[go_sem]) ?_;refine(laid_on q r x' y' (w.heap.size+1+1) g4 g5 (w.heap.size+1+1+1) p s h6 h7 .returning w _ ⟨RR.out.b,zl.cons (RR.out.at 3 rfl) (zl.cons (RR.out.at 1 rfl) (zl.cons (RR.out.at 0 rfl) (zl.cons (RR.out.at 2 rfl) zl.nil)))⟩ (by omega) (by omega) (by omega) (by omega) (by omega)).mono ?_;rintro e u' w'' ⟨rfl,rfl,X1,X2,X3⟩
 have hr:=res2 (P:=prog) (fn:=Tryz.f296) (tmps:=#[U a,U b,.pointer (some ⟨w.heap.size,0,none⟩),.pointer (some ⟨w.heap.size+1,0,none⟩),.pointer (some ⟨w.heap.size+1+1,0,none⟩),.pointer (some ⟨w.heap.size+1+1+1,0,none⟩),.pointer (some ⟨g4,0,none⟩),.pointer (some ⟨g5,0,none⟩),U a,.bool p,U b,.bool s,.func (.func 318) #[] #[.pointer (some ⟨w.heap.size+1+1,0,none⟩),.pointer (some ⟨g4,0,none⟩),.pointer (some ⟨g5,0,none⟩),.pointer (some ⟨w.heap.size+1+1+1,0,none⟩)],U a,.bool p,U x,U b,.bool s,U y,.tuple #[U q,U r],U q,U r]) rfl (w:=w'') (g:=w.heap.size+1+1) (g2:=w.heap.size+1+1+1) rfl rfl X1 X2 rfl rfl underlying45 (by kernel_rfl) underlying45 (by kernel_rfl)
 exact⟨_,hr,rfl,X3⟩
section
attribute [local go_sem] zc3 kp
theorem neg_any(a:Nat)(ha:a<W):RT 329 #[U a] (U (negW a)):=by
 intro w;exact neg_raw a _ _ (fun w=>by have h:=sub_any 0 a ku ha w;rw[U_zero]at h;exact h) w
theorem dec_bits(a:Nat)(h:a<W):decide ((xm a:Int)=256)=ng a:=by
 rw[Bool.eq_iff_iff,decide_eq_true_iff];exact ng_bits a h
theorem dec_cmp(a b:Nat):decide (cmpN a b<0)=decide (a<b):=by
 unfold cmpN;split
 ·rename_i h;rw[decide_eq_true h];rfl
 ·rename_i h;rw[decide_eq_false h];split<;>rfl
theorem zcq(a:Nat)(ha:a<W):RT 300 #[U a] (.bool (ng a)):=by
 intro w;have h:=under_raw a _ (zcg a) w;rw[dec_bits a ha]at h;exact h
theorem zdd(a:Nat)(b:Bool)(ha:a<W):RT 319 #[U a,.bool b] (U (tn a b)):=by
 intro w;cases b
 ·exact turned_no a w
 ·exact turned_yes a _ (neg_any a ha) w
theorem sdivide_any(a b:Nat)(ha:a<W)(hb:b<W):RT 296 #[U a,U b] (.tuple #[U (sq a b),U (sr a b)]):=by
 intro w;exact sdivide_raw a b (ab a) (ab b) (ab a/ab b) (dr 0 (ab a) (ab b)) (sq a b) (sr a b) (ng a) (ng b) (zcq a ha) (zcq b hb) (zdd a (ng a) ha) (zdd b (ng b) hb)
  (div_any (ab a) (ab b) (ab_lt a ha) (ab_lt b hb)) (zdd _ _ (div_lt _ _ (ab_lt a ha))) (zdd _ _ (dr0_lt _ _ (ab_lt a ha))) w
theorem sdiv_any(a b:Nat)(ha:a<W)(hb:b<W):RT 251 #[U a,U b] (.tuple #[U (sq a b),U (sr a b)]):=by
 intro w;exact sdiv_raw a b _ _ (sdivide_any a b ha hb) w
theorem less_any(a b:Nat)(ha:a<W)(hb:b<W):RT 263 #[U a,U b] (.bool (ls a b)):=by
 intro w;have h1:=zcq a ha;have h2:=zcq b hb;unfold ls;rw[← dec_cmp a b];cases hp:ng a<;>cases hs:ng b<;>rw[hp]at h1<;>rw[hs]at h2
 ·exact less_ff a b _ h1 h2 (zbv a b ha hb) w
 ·exact less_ft a b h1 h2 w
 ·exact less_tf a b h1 h2 w
 ·exact less_tt a b _ h1 h2 (zbv a b ha hb) w
theorem sar_any(a n:Nat)(ha:a<W):RT 276 #[U a,B n] (U (sar a n)):=by
 intro w;have h1:=zcq a ha;unfold sar;cases hp:ng a<;>rw[hp]at h1
 ·exact sar_no a n _ h1 (shr_any a n ha) w
 ·exact sar_yes a n _ _ _ h1 (not_any a ha) (shr_any _ n (notW_lt a)) (not_any _ (shrW_lt _ n (notW_lt a))) w
theorem up_wrap(k:Nat)(h:k<31):IntKind.u64.wrap (IntKind.u64.wrap (31-(k:Int))*8)=((upE k:Nat):Int):=by
 rw[IntKind.wrap_u64,IntKind.wrap_u64];unfold upE;omega
theorem M_lt_W:M≤W:=by decide +kernel
theorem str_at(n k:Nat)(hk:k<32):(ky n)[k]? = some (UInt8.ofNat (zy n k)):=by
 have hd:(ky n).data=((List.range 32).map fun j=>UInt8.ofNat (zy n j)).toArray:=by
  unfold ky strOfNums;simp
 have h2:k<(ky n).size:=by rw[zab];exact hk
 rw[ByteArray.getElem?_lt' _ _ h2]
 congr 1
 have h3:k<(ky n).data.size:=h2;have e:(ky n)[k]'h2=(ky n).data[k]'h3:=rfl;rw[e];have e2:(ky n).data[k]? = some (UInt8.ofNat (zy n k)):=by
  rw[hd,List.getElem?_toArray,List.getElem?_map,List.getElem?_range hk];rfl
 rw[Array.getElem?_eq_getElem h3]at e2;exact Option.some.inj e2
theorem idx_str(n k:Nat)(hk:k<32)(kd:IntKind)(w:World):(Instr.index 9 (.string (ky n)) (.int kd (k:Int))).run prog w=.ok (.int .u8 ((zy n k:Nat):Int)) w:=by
 have h2:k<(ky n).size:=by rw[zab];exact hk
 have h3:((ky n)[k]'h2).toNat=zy n k:=by
  have h:=str_at n k hk;rw[ByteArray.getElem?_lt' _ _ h2]at h;have:=Option.some.inj h;rw[this];have hb:=zeh n k;simp[UInt8.toNat_ofNat'];omega
 have h4:=run_index_string (P:=prog) w 9 (ky n) kd (k:Int) underlying9;rw[dif_pos ⟨by omega,by omega⟩]at h4;rw[h4];simp only[Int.toNat_natCast];rw[h3]
theorem byte_wrap(n k:Nat):IntKind.u64.wrap ((zy n k:Nat):Int)=((zy n k:Nat):Int):=by
 have:=zeh n k;rw[IntKind.wrap_u64];omega
theorem isb_any(k n:Nat)(hk:k<W)(hn:n<M):RT 299 #[U k,B n] (.bool (decide (k<n))):=by
 intro w;have h:=isb_raw k n n _ (zcx n hn) (zbv k n hk (Nat.lt_of_lt_of_le hn M_lt_W)) w;rw[dec_cmp]at h;exact h
theorem ext_any(k a:Nat)(hk:k<W)(ha:a<W):RT 259 #[U k,U a] (U (exW k a)):=by
 intro w;have h1:=isb_any k 31 hk (by decide);unfold exW;by_cases h:k<31
 ·rw[decide_eq_true h]at h1;rw[if_pos h];exact ext_yes k a (upE k) _ _ h1 (shl_any a (upE k) ha) (sar_any _ (upE k) (shlW_lt _ _)) (by rw[(za7 k (Nat.lt_trans h (by decide))).1];exact up_wrap k h) w
 ·rw[decide_eq_false h]at h1;rw[if_neg h];exact ext_no k a h1 w
theorem byte_any(k a:Nat)(hk:k<W)(ha:a<W):RT 272 #[U k,U a] (U (byW k a)):=by
 intro w;have h1:=isb_any k 32 hk (by decide);unfold byW;by_cases h:k<32
 ·rw[decide_eq_true h]at h1;rw[if_pos h];exact byte_yes k a (zy a k) (ky a) h1 (za4 a) (zcx _ (Nat.lt_trans (zeh a k) (by decide))) (fun w=>by rw[(za7 k (Nat.lt_trans h (by decide))).1];exact idx_str a k h .u64 w) (byte_wrap a k) w
 ·rw[decide_eq_false h]at h1;rw[if_neg h];exact byte_no k a h1 w
end
end Go.Proofs.YthkpgfbjdabflaaGreatDoor
