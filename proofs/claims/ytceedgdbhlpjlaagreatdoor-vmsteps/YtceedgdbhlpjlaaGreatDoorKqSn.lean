/- Laid one behind the other: Sn, Sr, Sa. -/
import Derived.Defers
import Derived.Test.YtceedgdbhlpjlaaGreatDoorKqBt
import Derived.Test.YtceedgdbhlpjlaaGreatDoorKqPt
namespace Go.Proofs.YtceedgdbhlpjlaaGreatDoor
open Go.RowKit Go.Sort Tryz
set_option linter.unusedVariables false
set_option maxRecDepth 100000
set_option maxHeartbeats 4000000
def HW:Nat:=57896044618658097711785492504343953926634992332820282019728792003956564819968
theorem HW_pow:HW=2^255:=by decide +kernel
theorem W_HW:W=HW+HW:=by decide +kernel
theorem HW_pos:0<HW:=by decide +kernel
def ng (a:Nat):Bool:=decide (HW≤a)
def negW (a:Nat):Nat:=subW 0 a
def tn (a:Nat) (b:Bool):Nat:=if b=true then negW a else a
def ab (a:Nat):Nat:=tn a (ng a)
def sq (a b:Nat):Nat:=tn (ab a/ab b) (ng a != ng b)
def sr (a b:Nat):Nat:=tn (dr 0 (ab a) (ab b)) (ng a)
def ls (a b:Nat):Bool:=if(ng a != ng b)=true then ng a else decide (a<b)
def sar (a n:Nat):Nat:=if ng a=true then notW (vu (notW a) n)else vu a n
def upE (k:Nat):Nat:=8*(31-k)
def exW (k a:Nat):Nat:=if k<31 then sar (shlW a (upE k)) (upE k)else a
def byW (k a:Nat):Nat:=if k<32 then zy a k else 0
theorem negW_lt(a:Nat):negW a<W:=Nat.mod_lt _ za1
theorem tn_lt(a:Nat)(b:Bool)(h:a<W):tn a b<W:=by
 unfold tn;split
 ·exact negW_lt a
 ·exact h
theorem ab_lt(a:Nat)(h:a<W):ab a<W:=tn_lt a _ h
theorem ng_true{a:Nat}(h:ng a=true):HW≤a:=of_decide_eq_true h
theorem ng_false{a:Nat}(h:ng a=false):a<HW:=by
 have:=of_decide_eq_false h;omega
theorem dr0_lt(a b:Nat)(h:a<W):dr 0 a b<W:=by
 unfold dr;split
 ·exact za1
 ·rw[Nat.zero_mul,Nat.zero_add];exact Nat.lt_of_le_of_lt (Nat.mod_le _ _) h
theorem div_lt(a b:Nat)(h:a<W):a/b<W:=Nat.lt_of_le_of_lt (Nat.div_le_self _ _) h
theorem sq_lt(a b:Nat)(ha:a<W):sq a b<W:=tn_lt _ _ (div_lt _ _ (ab_lt a ha))
theorem sr_lt(a b:Nat)(ha:a<W):sr a b<W:=tn_lt _ _ (dr0_lt _ _ (ab_lt a ha))
theorem sar_lt(a n:Nat)(h:a<W):sar a n<W:=by
 unfold sar;split
 ·exact notW_lt _
 ·exact shrW_lt a n h
theorem exW_lt(k a:Nat)(h:a<W):exW k a<W:=by
 unfold exW;split
 ·exact sar_lt _ _ (shlW_lt _ _)
 ·exact h
theorem zda(a k:Nat):zy a k<256:=Nat.mod_lt _ (by decide)
theorem byW_lt(k a:Nat):byW k a<256:=by
 unfold byW;split
 ·exact zda a k
 ·decide
theorem ng_bits(a:Nat)(h:a<W):((xb a:Int)=256)↔ng a=true:=by
 constructor
 ·intro hb;have hb:xb a=256:=by omega
  have h0:0<a:=by
   rcases Nat.eq_zero_or_pos a with h0|h0
   ·subst h0;have:=zan 0 0 (by decide);omega
   ·exact h0
  have:=(bitsN_spec a h h0).2.2.1;rw[hb]at this;exact decide_eq_true (by rw[HW_pow];exact this)
 ·intro hn;have hn:=ng_true hn;have hp:=HW_pos;obtain⟨b1,b2,b3,b4⟩:=bitsN_spec a h (by omega);rcases Nat.lt_or_ge (xb a) 256 with hl|hl
  ·exfalso;have:2^xb a≤2^255:=Nat.pow_le_pow_right (by decide) (by omega);rw[← HW_pow]at this;omega
  ·omega
theorem ng_bit(a:Nat)(h:a<W):a/2^255%2=if ng a=true then 1 else 0:=by
 rw[← HW_pow];have hW:=W_HW;have hp:=HW_pos;cases hn:ng a
 ·have:=ng_false hn;rw[Nat.div_eq_of_lt this];rfl
 ·have h1:=ng_true hn;have:a/HW=1:=by
   rw[Nat.div_eq_iff hp];omega
  rw[this];rfl
theorem bZ4(w:World):(Instr.build 38 (([]:List Nat).zip []).toArray).run prog w=.ok (I4 0 0 0 0) w:=by kernel_rfl
theorem bX4(x:Nat)(w:World):(Instr.build 38 (([0,1,2,3]:List Nat).zip [B x,B 0,B 0,B 0]).toArray).run prog w=.ok (I4 x 0 0 0) w:=by kernel_rfl
def lsZ (c:Int):Fa prog (fun _=>True):=bO .lss 3 (p:=.int .i64 c) (q:=.int .i64 0) (v:=.bool (decide (c<0))) (by intros;simp[go_sem])
def ntB (b:Bool):Fa prog (fun _=>True):=uO .not (p:=.bool b) (v:=.bool (!b)) (by intros;simp[go_sem])
def nqB (a b:Bool):Fa prog (fun _=>True):=bO .neq 4 (p:=.bool a) (q:=.bool b) (v:=.bool (a != b)) (by intros;cases a<;>cases b<;>simp[go_sem])
def nqN {x:Nat} {b:Bool} (h:decide (x≠0)=b):Fa prog (fun _=>True):=bO .neq 36 (p:=B x) (q:=B 0) (v:=.bool b) (by subst h;intros;by_cases q:x=0<;>simp[go_sem,q])
def gqN {x y:Nat} {b:Bool} (h:decide (y≤x)=b):Fa prog (fun _=>True):=bO .geq 36 (p:=B x) (q:=B y) (v:=.bool b) (by subst h;intros;by_cases q:y≤x<;>simp[go_sem,q])
theorem neg_raw(a x:Nat)(u:Bool)(hc:yi 174 #[I4 0 0 0 0,U a] (.tuple #[U x,.bool u]))(w:World):Calls prog 259 #[U a] w fun e w'=>e=.returned (U x)∧Below w.heap.size w w':=ro [(1,[dO 38 [] bZ4,nO,kC func174 hc.out])] func259
theorem rneg_raw(a x:Nat)(u:Bool)(hc:yi 83 #[I4 0 0 0 0,U a] (.tuple #[U x,.bool u]))(w:World):Calls prog 153 #[U a] w fun e w'=>e=.returned (U x)∧Below w.heap.size w w':=ro [(1,[dO 38 [] bZ4,nO,kC func83 hc.out])] func153
theorem under_raw(a:Nat)(x:Int)(hc:yi 142 #[U a] (.int .i64 x))(w:World):Calls prog 230 #[U a] w fun e w'=>e=.returned (.bool (decide (x=256)))∧Below w.heap.size w w':=ro [(1,[nO,kC func142 hc.out,bO .eql 3 (p:=.int .i64 x) (q:=.int .i64 256) (v:=.bool (decide (x=256))) (by intros;simp[go_sem];rfl)])] func230
theorem below_raw(a x:Nat)(hc:yi 155 #[U a,.int .i64 255] (B x))(w:World):Calls prog 152 #[U a] w fun e w'=>e=.returned (.bool (decide ((x:Int)=1)))∧Below w.heap.size w w':=ro [(1,[nO,kC func155 hc.out,bO .eql 36 (p:=B x) (q:=B 1) (v:=.bool (decide ((x:Int)=1))) (by intros;simp[go_sem];rfl)])] func152
theorem turned_yes(a x:Nat)(hn:yi 259 #[U a] (U x))(w:World):Calls prog 249 #[U a,.bool true] w fun e w'=>e=.returned (U x)∧Below w.heap.size w w':=ro [(2,[nO,kC func259 hn.out])] func249
theorem turned_no(a:Nat)(w:World):Calls prog 249 #[U a,.bool false] w fun e w'=>e=.returned (U a)∧Below w.heap.size w w':=ro [] func249
theorem size_yes(a x:Nat)(hb:yi 152 #[U a] (.bool true))(hn:yi 153 #[U a] (U x))(w:World):Calls prog 151 #[U a] w fun e w'=>e=.returned (U x)∧Below w.heap.size w w':=ro [(1,[nO,kC func152 hb.out]),(2,[nO,kC func153 hn.out])] func151
theorem size_no(a:Nat)(hb:yi 152 #[U a] (.bool false))(w:World):Calls prog 151 #[U a] w fun e w'=>e=.returned (U a)∧Below w.heap.size w w':=ro [(1,[nO,kC func152 hb.out])] func151
theorem less_tt(a b:Nat)(c:Int)(hp:yi 230 #[U a] (.bool true))(hq:yi 230 #[U b] (.bool true))(hc:yi 74 #[U a,U b] (.int .i64 c))(w:World):Calls prog 191 #[U a,U b] w fun e w'=>e=.returned (.bool (decide (c<0)))∧Below w.heap.size w w':=ro [(1,[nO,kC func230 hp.out,nO,kC func230 hq.out,nqB true true]),(3,[nO,nO,kC func74 hc.out,lsZ c])] func191
theorem less_tf(a b:Nat)(hp:yi 230 #[U a] (.bool true))(hq:yi 230 #[U b] (.bool false))(w:World):Calls prog 191 #[U a,U b] w fun e w'=>e=.returned (.bool true)∧Below w.heap.size w w':=ro [(1,[nO,kC func230 hp.out,nO,kC func230 hq.out,nqB true false]),(2,[nO,kC func230 hp.out])] func191
theorem less_ft(a b:Nat)(hp:yi 230 #[U a] (.bool false))(hq:yi 230 #[U b] (.bool true))(w:World):Calls prog 191 #[U a,U b] w fun e w'=>e=.returned (.bool false)∧Below w.heap.size w w':=ro [(1,[nO,kC func230 hp.out,nO,kC func230 hq.out,nqB false true]),(2,[nO,kC func230 hp.out])] func191
theorem less_ff(a b:Nat)(c:Int)(hp:yi 230 #[U a] (.bool false))(hq:yi 230 #[U b] (.bool false))(hc:yi 74 #[U a,U b] (.int .i64 c))(w:World):Calls prog 191 #[U a,U b] w fun e w'=>e=.returned (.bool (decide (c<0)))∧Below w.heap.size w w':=ro [(1,[nO,kC func230 hp.out,nO,kC func230 hq.out,nqB false false]),(3,[nO,nO,kC func74 hc.out,lsZ c])] func191
theorem rless_tt(a b:Nat)(c:Int)(hp:yi 152 #[U a] (.bool true))(hq:yi 152 #[U b] (.bool true))(hc:yi 45 #[U a,U b] (.int .i64 c))(w:World):Calls prog 160 #[U a,U b] w fun e w'=>e=.returned (.bool (decide (c<0)))∧Below w.heap.size w w':=ro [(1,[nO,kC func152 hp.out,nO,kC func152 hq.out,nqB true true]),(3,[nO,nO,kC func45 hc.out,lsZ c])] func160
theorem rless_tf(a b:Nat)(hp:yi 152 #[U a] (.bool true))(hq:yi 152 #[U b] (.bool false))(w:World):Calls prog 160 #[U a,U b] w fun e w'=>e=.returned (.bool true)∧Below w.heap.size w w':=ro [(1,[nO,kC func152 hp.out,nO,kC func152 hq.out,nqB true false]),(2,[nO,kC func152 hp.out])] func160
theorem rless_ft(a b:Nat)(hp:yi 152 #[U a] (.bool false))(hq:yi 152 #[U b] (.bool true))(w:World):Calls prog 160 #[U a,U b] w fun e w'=>e=.returned (.bool false)∧Below w.heap.size w w':=ro [(1,[nO,kC func152 hp.out,nO,kC func152 hq.out,nqB false true]),(2,[nO,kC func152 hp.out])] func160
theorem rless_ff(a b:Nat)(c:Int)(hp:yi 152 #[U a] (.bool false))(hq:yi 152 #[U b] (.bool false))(hc:yi 45 #[U a,U b] (.int .i64 c))(w:World):Calls prog 160 #[U a,U b] w fun e w'=>e=.returned (.bool (decide (c<0)))∧Below w.heap.size w w':=ro [(1,[nO,kC func152 hp.out,nO,kC func152 hq.out,nqB false false]),(3,[nO,nO,kC func45 hc.out,lsZ c])] func160
theorem sar_yes(a n x y z:Nat)(hp:yi 230 #[U a] (.bool true))(h1:yi 199 #[U a] (U x))(h2:yi 203 #[U x,B n] (U y))(h3:yi 199 #[U y] (U z))(w:World):Calls prog 204 #[U a,B n] w fun e w'=>e=.returned (U z)∧Below w.heap.size w w':=ro [(1,[nO,kC func230 hp.out]),(2,[nO,kC func199 h1.out,nO,kC func203 h2.out,kC func199 h3.out])] func204
theorem sar_no(a n y:Nat)(hp:yi 230 #[U a] (.bool false))(h2:yi 203 #[U a,B n] (U y))(w:World):Calls prog 204 #[U a,B n] w fun e w'=>e=.returned (U y)∧Below w.heap.size w w':=ro [(1,[nO,kC func230 hp.out]),(3,[nO,nO,kC func203 h2.out])] func204
theorem rsar_yes(a n x y z:Nat)(hp:yi 152 #[U a] (.bool true))(h1:yi 164 #[U a] (U x))(h2:yi 167 #[U x,B n] (U y))(h3:yi 164 #[U y] (U z))(w:World):Calls prog 157 #[U a,B n] w fun e w'=>e=.returned (U z)∧Below w.heap.size w w':=ro [(1,[nO,kC func152 hp.out,ntB true]),(3,[nO,kC func164 h1.out,nO,kC func167 h2.out,kC func164 h3.out])] func157
theorem rsar_no(a n y:Nat)(hp:yi 152 #[U a] (.bool false))(h2:yi 167 #[U a,B n] (U y))(w:World):Calls prog 157 #[U a,B n] w fun e w'=>e=.returned (U y)∧Below w.heap.size w w':=ro [(1,[nO,kC func152 hp.out,ntB false]),(2,[nO,nO,kC func167 h2.out])] func157
theorem isb_raw(k n m:Nat)(c:Int)(h1:yi 75 #[B n] (U m))(h2:yi 74 #[U k,U m] (.int .i64 c))(w:World):Calls prog 229 #[U k,B n] w fun e w'=>e=.returned (.bool (decide (c<0)))∧Below w.heap.size w w':=ro [(1,[nO,nO,kC func75 h1.out,kC func74 h2.out,lsZ c])] func229
theorem ext_no(k a:Nat)(hb:yi 229 #[U k,B 31] (.bool false))(w:World):Calls prog 187 #[U k,U a] w fun e w'=>e=.returned (U a)∧Below w.heap.size w w':=ro [(1,[nO,kC func229 hb.out,ntB false])] func187
theorem ext_yes(k a up y z:Nat)(hb:yi 229 #[U k,B 31] (.bool true))(h1:yi 202 #[U a,B up] (U y))(h2:yi 204 #[U y,B up] (U z))(he:IntKind.u64.wrap (IntKind.u64.wrap (31-(l0 k:Int))*8)=(up:Int))(w:World):Calls prog 187 #[U k,U a] w fun e w'=>e=.returned (U z)∧Below w.heap.size w w':=ro [(1,[nO,kC func229 hb.out,ntB true]),(3,[nO,nO,bO .sub 36 (p:=B 31) (q:=B (l0 k)) (v:=.int .u64 (IntKind.u64.wrap (31-(l0 k:Int)))) (by intros;simp[go_sem]),bO .mul 36 (p:=.int .u64 (IntKind.u64.wrap (31-(l0 k:Int)))) (q:=B 8) (v:=B up) (by intros;simp[go_sem,he])]),(4,[nO,nO,kC func202 h1.out,nO,kC func204 h2.out])] func187
theorem byte_no(k a:Nat)(hb:yi 229 #[U k,B 32] (.bool false))(w:World):Calls prog 200 #[U k,U a] w fun e w'=>e=.returned (I4 0 0 0 0)∧Below w.heap.size w w':=ro [(1,[nO,kC func229 hb.out,ntB false]),(2,[dO 38 [] bZ4])] func200
theorem byte_yes(k a x:Nat)(s:ByteArray)(hb:yi 229 #[U k,B 32] (.bool true))(h1:yi 209 #[U a] (.string s))(h2:yi 75 #[B x] (U x))(hx:∀ w,(Instr.index 9 (.string s) (B (l0 k))).run prog w=.ok (.int .u8 (x:Int)) w)(hw:IntKind.u64.wrap (x:Int)=(x:Int))(w:World):Calls prog 200 #[U k,U a] w fun e w'=>e=.returned (U x)∧Below w.heap.size w w':=ro [(1,[nO,kC func229 hb.out,ntB true]),(3,[nO,kC func209 h1.out,nO,nO,iO 9 hx,vO 5 36 (p:=.int .u8 (x:Int)) (v:=B x) (by intros;simp[go_sem,hw]),kC func75 h2.out])] func200
theorem small_yes(a m:Nat)(h0:l1 a=0)(h2:l2 a=0)(h3:l3 a=0)(h4:¬ m≤l0 a)(hw:wrap64 (l0 a:Int)=(l0 a:Int))(w:World):Calls prog 156 #[U a,B m] w fun e w'=>e=.returned (.tuple #[.int .i64 (l0 a:Nat),.bool true])∧Below w.heap.size w w':=ro [(1,[nO,nO,nqN (x:=l1 a) (b:=false) (by simp[h0]),nO,nO,nO,nqN (x:=l2 a) (b:=false) (by simp[h2]),nO,nO,nO,nO,nqN (x:=l3 a) (b:=false) (by simp[h3]),nO,nO,nO,nO,nO,gqN (x:=l0 a) (y:=m) (b:=false) (by simp;omega)]),(3,[nO,nO,vO 36 3 (p:=B (l0 a)) (v:=.int .i64 (l0 a:Nat)) (by intros;unfold wrap64 at hw;simp[go_sem];rw[IntKind.wrap_i64];exact hw)])] func156
theorem small_no0(a m:Nat)(h1:¬ l1 a=0)(w:World):Calls prog 156 #[U a,B m] w fun e w'=>e=.returned (.tuple #[.int .i64 0,.bool false])∧Below w.heap.size w w':=ro [(1,[nO,nO,nqN (x:=l1 a) (b:=true) (by simp[h1])])] func156
theorem small_no1(a m:Nat)(h1:l1 a=0)(h2:¬ l2 a=0)(w:World):Calls prog 156 #[U a,B m] w fun e w'=>e=.returned (.tuple #[.int .i64 0,.bool false])∧Below w.heap.size w w':=ro [(1,[nO,nO,nqN (x:=l1 a) (b:=false) (by simp[h1]),nO,nO,nO,nqN (x:=l2 a) (b:=true) (by simp[h2])])] func156
theorem small_no2(a m:Nat)(h1:l1 a=0)(h2:l2 a=0)(h3:¬ l3 a=0)(w:World):Calls prog 156 #[U a,B m] w fun e w'=>e=.returned (.tuple #[.int .i64 0,.bool false])∧Below w.heap.size w w':=ro [(1,[nO,nO,nqN (x:=l1 a) (b:=false) (by simp[h1]),nO,nO,nO,nqN (x:=l2 a) (b:=false) (by simp[h2]),nO,nO,nO,nO,nqN (x:=l3 a) (b:=true) (by simp[h3])])] func156
theorem small_no3(a m:Nat)(h1:l1 a=0)(h2:l2 a=0)(h3:l3 a=0)(h4:m≤l0 a)(w:World):Calls prog 156 #[U a,B m] w fun e w'=>e=.returned (.tuple #[.int .i64 0,.bool false])∧Below w.heap.size w w':=ro [(1,[nO,nO,nqN (x:=l1 a) (b:=false) (by simp[h1]),nO,nO,nO,nqN (x:=l2 a) (b:=false) (by simp[h2]),nO,nO,nO,nO,nqN (x:=l3 a) (b:=false) (by simp[h3]),nO,nO,nO,nO,nO,gqN (x:=l0 a) (y:=m) (b:=true) (by simp;omega)])] func156
theorem rext_no(k a:Nat)(hb:yi 156 #[U k,B 31] (.tuple #[.int .i64 0,.bool false]))(w:World):Calls prog 89 #[U k,U a] w fun e w'=>e=.returned (U a)∧Below w.heap.size w w':=ro [(1,[nO,kC func156 hb.out]),(2,[nO,ntB false])] func89
theorem rext_yes(k a n up y z:Nat)(hb:yi 156 #[U k,B 31] (.tuple #[.int .i64 (n:Int),.bool true]))(h1:yi 158 #[U a,B up] (U y))(h2:yi 157 #[U y,B up] (U z))(he:IntKind.u64.wrap (wrap64 (8*wrap64 (31-(n:Int))))=(up:Int))(w:World):Calls prog 89 #[U k,U a] w fun e w'=>e=.returned (U z)∧Below w.heap.size w w':=ro [(1,[nO,kC func156 hb.out]),(2,[nO,ntB true]),(4,[nO,bO .sub 3 (p:=.int .i64 31) (q:=.int .i64 (n:Int)) (v:=.int .i64 (IntKind.i64.wrap (31-(n:Int)))) (by intros;simp[go_sem]),bO .mul 3 (p:=.int .i64 8) (q:=.int .i64 (IntKind.i64.wrap (31-(n:Int)))) (v:=.int .i64 (IntKind.i64.wrap (8*IntKind.i64.wrap (31-(n:Int))))) (by intros;simp[go_sem]),vO 3 36 (p:=.int .i64 (IntKind.i64.wrap (8*IntKind.i64.wrap (31-(n:Int))))) (v:=B up) (by intros;unfold wrap64 at he;simp[go_sem];rw[IntKind.wrap_i64,IntKind.wrap_i64];exact he)]),(5,[nO,nO,kC func158 h1.out,nO,kC func157 h2.out])] func89
theorem rbyte_no(k a:Nat)(hb:yi 156 #[U k,B 32] (.tuple #[.int .i64 0,.bool false]))(w:World):Calls prog 165 #[U k,U a] w fun e w'=>e=.returned (I4 0 0 0 0)∧Below w.heap.size w w':=ro [(1,[nO,kC func156 hb.out]),(2,[nO,ntB false]),(3,[dO 38 [] bZ4])] func165
theorem rbyte_yes(k a n x:Nat)(s:ByteArray)(hb:yi 156 #[U k,B 32] (.tuple #[.int .i64 (n:Int),.bool true]))(h1:yi 80 #[U a] (.string s))(hx:∀ w,(Instr.index 9 (.string s) (.int .i64 (n:Int))).run prog w=.ok (.int .u8 (x:Int)) w)(hw:IntKind.u64.wrap (x:Int)=(x:Int))(w:World):Calls prog 165 #[U k,U a] w fun e w'=>e=.returned (I4 x 0 0 0)∧Below w.heap.size w w':=ro [(1,[nO,kC func156 hb.out]),(2,[nO,ntB true]),(4,[nO,kC func80 h1.out,nO,iO 9 hx,vO 5 36 (p:=.int .u8 (x:Int)) (v:=B x) (by intros;simp[go_sem,hw]),dO 38 [0,1,2,3] (xs:=[B x,B 0,B 0,B 0]) (v:=I4 x 0 0 0) (bX4 x)])] func165
theorem sdiv_raw(a b q r:Nat)(hd:yi 226 #[U a,U b] (.tuple #[U q,U r]))(w:World):Calls prog 179 #[U a,U b] w fun e w'=>e=.returned (.tuple #[U q,U r])∧Below w.heap.size w w':=ro [(1,[nO,nO,kC func226 hd.out])] func179
theorem rdiv_tt(a b x y q r nr:Nat)(hs1:yi 151 #[U a] (U x))(hs2:yi 151 #[U b] (U y))(hd:yi 84 #[U x,U y] (.tuple #[U q,U r]))(ha:yi 152 #[U a] (.bool true))(hb:yi 152 #[U b] (.bool true))(hr:yi 153 #[U r] (U nr))(w:World):Calls prog 85 #[U a,U b] w fun e w'=>e=.returned (.tuple #[U q,U nr])∧Below w.heap.size w w':=ro [(1,[nO,kC func151 hs1.out,nO,kC func151 hs2.out,kC func84 hd.out]),(2,[nO,kC func152 ha.out,nO,kC func152 hb.out,nqB true true]),(4,[nO,kC func152 ha.out]),(5,[nO,kC func153 hr.out])] func85
theorem rdiv_tf(a b x y q r nq nr:Nat)(hs1:yi 151 #[U a] (U x))(hs2:yi 151 #[U b] (U y))(hd:yi 84 #[U x,U y] (.tuple #[U q,U r]))(ha:yi 152 #[U a] (.bool true))(hb:yi 152 #[U b] (.bool false))(hq:yi 153 #[U q] (U nq))(hr:yi 153 #[U r] (U nr))(w:World):Calls prog 85 #[U a,U b] w fun e w'=>e=.returned (.tuple #[U nq,U nr])∧Below w.heap.size w w':=ro [(1,[nO,kC func151 hs1.out,nO,kC func151 hs2.out,kC func84 hd.out]),(2,[nO,kC func152 ha.out,nO,kC func152 hb.out,nqB true false]),(3,[nO,kC func153 hq.out]),(4,[nO,kC func152 ha.out]),(5,[nO,kC func153 hr.out])] func85
theorem rdiv_ft(a b x y q r nq:Nat)(hs1:yi 151 #[U a] (U x))(hs2:yi 151 #[U b] (U y))(hd:yi 84 #[U x,U y] (.tuple #[U q,U r]))(ha:yi 152 #[U a] (.bool false))(hb:yi 152 #[U b] (.bool true))(hq:yi 153 #[U q] (U nq))(w:World):Calls prog 85 #[U a,U b] w fun e w'=>e=.returned (.tuple #[U nq,U r])∧Below w.heap.size w w':=ro [(1,[nO,kC func151 hs1.out,nO,kC func151 hs2.out,kC func84 hd.out]),(2,[nO,kC func152 ha.out,nO,kC func152 hb.out,nqB false true]),(3,[nO,kC func153 hq.out]),(4,[nO,kC func152 ha.out])] func85
theorem rdiv_ff(a b x y q r:Nat)(hs1:yi 151 #[U a] (U x))(hs2:yi 151 #[U b] (U y))(hd:yi 84 #[U x,U y] (.tuple #[U q,U r]))(ha:yi 152 #[U a] (.bool false))(hb:yi 152 #[U b] (.bool false))(w:World):Calls prog 85 #[U a,U b] w fun e w'=>e=.returned (.tuple #[U q,U r])∧Below w.heap.size w w':=ro [(1,[nO,kC func151 hs1.out,nO,kC func151 hs2.out,kC func84 hd.out]),(2,[nO,kC func152 ha.out,nO,kC func152 hb.out,nqB false false]),(4,[nO,kC func152 ha.out])] func85
theorem ob_boolS{o:Oper}{a':Act}{w':World}{Q:Exit→Act→World→Prop}(x y:Operand)(ho:o.op=.store 4 x y){g:Nat}{c:Array Value}{b:Bool}(hx:a'.eval x=.pointer (some ⟨g,0,none⟩))(hy:a'.eval y=.bool b)(hr:za w' g c)(hn:c.size=1):o.wp prog a' w' (fun a'' w''=>a''=a'.put o.dst undef∧w''=w'.setRow g #[.bool b]) Q:=by
 have hz:=hr.fz 0;have hc:w'.cell? ⟨g,0,none⟩=some c[0]:=by rw[hr.cell 0];simp[hn]
 have e:w'.setCell ⟨g,0,none⟩ (.bool b)=w'.setRow g #[.bool b]:=by
  rw[hr.setCell]
  congr 1
  apply Array.ext
  ·simp[hn]
  ·intro i h1 h2;simp[hn]at h1;subst h1;simp
 unfold Oper.wp;have hrun:∀ ev:Operand→Value,ev x=.pointer (some ⟨g,0,none⟩)→ev y=.bool b→(execOp ev o).run prog w'=.ok .skip (w'.setRow g #[.bool b]):=by
  intro ev hx hy;simp[execOp,ho,hx,hy,go_sem,hc,hz,e]
 rw[hrun _ hx hy];simp[go_sem]
theorem ob_boolF{o:Oper}{a':Act}{w':World}{Q:Exit→Act→World→Prop}(x:Operand)(ho:o.op=.load 4 x){g:Nat}{b:Bool}(hx:a'.eval x=.pointer (some ⟨g,0,none⟩))(hr:za w' g #[.bool b]):o.wp prog a' w' (fun a'' w''=>a''=a'.put o.dst (.bool b)∧Below w'.heap.size w' w'') Q:=by
 have hc:w'.cell? ⟨g,0,none⟩=some (.bool b):=hr.cell 0;have hrun:∀ ev:Operand→Value,ev x=.pointer (some ⟨g,0,none⟩)→(execOp ev o).run prog w'=.ok (.value (.bool b)) w':=by
  intro ev hx;simp[execOp,ho,hx,go_sem,hc]
 exact ob_val (hrun _ hx)
theorem laid_on(q r x y gq g4 g5 gl:Nat)(p s:Bool)(ht1:yi 249 #[U q,.bool (p != s)] (U x))(ht2:yi 249 #[U r,.bool p] (U y))(u:FrameMode)(w w1:World)(RR:Hid (RB w w1 [(gq,Ar q),(g4,#[.bool p]),(g5,#[.bool s]),(gl,Ar r)]))(k0:w.heap.size≤gq)(k1:w.heap.size≤gl)(n1:gq<gl)(n2:gl<g4)(n3:gl<g5) :
  CallsD prog 248 #[.pointer (some ⟨gq,0,none⟩),.pointer (some ⟨g4,0,none⟩),.pointer (some ⟨g5,0,none⟩),.pointer (some ⟨gl,0,none⟩)] u w1 fun e u' w'=>u'=u∧e=.returned (.tuple #[])∧za w' gq (Ar x)∧za w' gl (Ar y)∧Below w.heap.size w w':=by
 go_enter_d func248,ntmps248
 obtain⟨q3,q2,q1,q0,_⟩:=RR.out.r.lts;obtain⟨c3_0,c3_1,c3_2,c3_3⟩:=za.c4 (RR.out.at 0 rfl);have c2_0:=za.c1 (RR.out.at 1 rfl);have c1_0:=za.c1 (RR.out.at 2 rfl)
 go_wp2_with fail
 refine(ht1.out _).mono ?_;rintro e w2 ⟨rfl,hb2⟩;replace RR:=rbB RR hb2;clear hb2 q0 q1 q2 q3 c3_0 c3_1 c3_2 c3_3 c2_0 c1_0;obtain⟨q3,q2,q1,q0,_⟩:=RR.out.r.lts;obtain⟨c3_0,c3_1,c3_2,c3_3⟩:=za.c4 (RR.out.at 0 rfl);obtain⟨z3_0,z3_1,z3_2,z3_3⟩:=za.z4 (RR.out.at 0 rfl)
 go_upto_region 1 with fail
 refine yw _ ?_;intro w3 hF;rw[setc4 (RR.out.at 0 rfl) rfl]at hF;replace RR:Hid (RB w w3 [(gq,(Ar x)),(g4,#[.bool p]),(g5,#[.bool s]),(gl,(Ar r))]):=by rw[hF];exact(rbS RR 0 (Ar x) rfl (by omega) (zbt.here (xj.cons (by omega) (xj.cons (by omega) (xj.cons (by omega) xj.nil)))))
 clear hF q0 q1 q2 q3 c3_0 c3_1 c3_2 c3_3 z3_0 z3_1 z3_2 z3_3;obtain⟨q3,q2,q1,q0,_⟩:=RR.out.r.lts;have c2_0:=za.c1 (RR.out.at 1 rfl);obtain⟨c0_0,c0_1,c0_2,c0_3⟩:=za.c4 (RR.out.at 3 rfl)
 go_wp2_with fail
 refine(ht2.out _).mono ?_;rintro e w4 ⟨rfl,hb4⟩;replace RR:=rbB RR hb4;clear hb4 q0 q1 q2 q3 c2_0 c0_0 c0_1 c0_2 c0_3;obtain⟨q3,q2,q1,q0,_⟩:=RR.out.r.lts;obtain⟨c0_0,c0_1,c0_2,c0_3⟩:=za.c4 (RR.out.at 3 rfl);obtain⟨z0_0,z0_1,z0_2,z0_3⟩:=za.z4 (RR.out.at 3 rfl)
 go_wp2
 rw[setc4 (RR.out.at 3 rfl) rfl]
 go_end0
 exact⟨rfl,za.set_other (RR.out.at 0 rfl) _ (by omega),za.set_same (RR.out.at 3 rfl) _,zd RR.out.b (by omega) _⟩
theorem sdivide_raw(a b x y q r x' y':Nat)(p s:Bool)(h1:yi 230 #[U a] (.bool p))(h2:yi 230 #[U b] (.bool s))(h3:yi 249 #[U a,.bool p] (U x))(h4:yi 249 #[U b,.bool s] (U y))(h5:yi 177 #[U x,U y] (.tuple #[U q,U r]))(h6:yi 249 #[U q,.bool (p != s)] (U x'))(h7:yi 249 #[U r,.bool p] (U y'))(w:World) :
  Calls prog 226 #[U a,U b] w fun e w'=>e=.returned (.tuple #[U x',U y'])∧Below w.heap.size w w':=by
 have hmf:∀(fn:Fn) (first cap:Array Value) (w:World),(Instr.makeFunc fn first cap).run prog w=.ok (.func fn first cap) w:=fun _ _ _ _=>rfl
 go_enter_defers func226,ntmps226
 go_wp2_with fail
 refine yw _ ?_;intro wF hF0;have RR:Hid (RB w wF [(w.heap.size+1+1+1,Zr),(w.heap.size+1+1,Zr),(w.heap.size+1,(Ar b)),(w.heap.size,(Ar a))]):=by rw[hF0];exact(rbN (rbN (rbN (rbN (rb0 w) (by simp)) (by simp)) (by simp)) (by simp))
 clear hF0;obtain⟨q3,q2,q1,q0,_⟩:=RR.out.r.lts;refine zek (by kernel_rfl) (by kernel_rfl) (by kernel_rfl) [(w.heap.size,(Ar a)),(w.heap.size+1,(Ar b)),(w.heap.size+1+1,Zr),(w.heap.size+1+1+1,Zr)]
  [sV (U a),
   sV (.bool p),
   sV (U b),
   sV (.bool s),
   sA (fun g=>.pointer (some ⟨g,0,none⟩)) 6 #[.bool false] #[.bool p],
   sA (fun g=>.pointer (some ⟨g,0,none⟩)) 7 #[.bool false] #[.bool s],
   sS 4,
   sS 5]
  (by kernel_rfl) RR.out.b (zt.cons (RR.out.at 3 rfl) (zt.cons (RR.out.at 2 rfl) (zt.cons (RR.out.at 1 rfl) (zt.cons (RR.out.at 0 rfl) zt.nil)))) (StOk.of [] rfl StM.nil)
  (Obs.val (fun a' w' E=>ob_row 38 (.tmp 2) rfl (E.old 2 (by kernel_rfl)) (E.row 0 rfl) rfl underlying38 (by kernel_rfl))
  (Obs.val (fun a' w' E=>ob_call (f:=230) (args:=#[U a]) (by simp[yv,ev (E.new 8 0 (by kernel_rfl) rfl),go_sem]) (h1.out w'))
  (Obs.val (fun a' w' E=>ob_row 38 (.tmp 3) rfl (E.old 3 (by kernel_rfl)) (E.row 1 rfl) rfl underlying38 (by kernel_rfl))
  (Obs.val (fun a' w' E=>ob_call (f:=230) (args:=#[U b]) (by simp[yv,ev (E.new 10 2 (by kernel_rfl) rfl),go_sem]) (h2.out w'))
  (Obs.alloc (fun a' w' E=>ob_alloc (t:=4) (by simp[yv,execOp,go_sem]))
  (Obs.alloc (fun a' w' E=>ob_alloc (t:=4) (by simp[yv,execOp,go_sem]))
  (Obs.sta rfl (fun a' w' g E ha hr=>ob_boolS (.tmp 6) (.tmp 9) rfl (ha 6 (by kernel_rfl)) (E.new 9 1 (by kernel_rfl) rfl) hr rfl)
  (Obs.sta rfl (fun a' w' g E ha hr=>ob_boolS (.tmp 7) (.tmp 11) rfl (ha 7 (by kernel_rfl)) (E.new 11 3 (by kernel_rfl) rfl) hr rfl)
  Obs.nil)))))))) ?_
 intro bs w1 a2 ha F;have e:a2=({ tmps:=#[U a,U b,.pointer (some ⟨w.heap.size,0,none⟩),.pointer (some ⟨w.heap.size+1,0,none⟩),.pointer (some ⟨w.heap.size+1+1,0,none⟩),.pointer (some ⟨w.heap.size+1+1+1,0,none⟩),.pointer (some ⟨bs 4,0,none⟩),.pointer (some ⟨bs 5,0,none⟩),U a,.bool p,U b,.bool s,undef,undef,undef,undef,undef,undef,undef,undef,undef,undef],defers:=[] }:Act):=ha.trans (by kernel_rfl);subst e;clear ha;obtain⟨h4,X4⟩:=F.al 4 rfl rfl;obtain⟨h5,X5⟩:=F.al 5 rfl rfl;have n4_5:=F.ne 4 5 (by decide) rfl rfl
 replace RR:Hid (RB w w1 [(bs 5,#[.bool s]),(bs 4,#[.bool p]),(w.heap.size+1+1+1,Zr),(w.heap.size+1+1,Zr),(w.heap.size+1,(Ar b)),(w.heap.size,(Ar a))]):=⟨F.bw,(zt.cons X5 (zt.cons X4 (zt.cons (F.row 3 rfl) (zt.cons (F.row 2 rfl) (zt.cons (F.row 1 rfl) (zt.cons (F.row 0 rfl) zt.nil))))))⟩
 generalize bs 4=g4,bs 5=g5 at *;have k4_0:=Nat.lt_of_lt_of_le q0 h4;have k4_1:=Nat.lt_of_lt_of_le q1 h4;have k4_2:=Nat.lt_of_lt_of_le q2 h4;have k4_3:=Nat.lt_of_lt_of_le q3 h4;have k5_0:=Nat.lt_of_lt_of_le q0 h5;have k5_1:=Nat.lt_of_lt_of_le q1 h5;have k5_2:=Nat.lt_of_lt_of_le q2 h5;have k5_3:=Nat.lt_of_lt_of_le q3 h5;clear F q0 q1 q2 q3 h4 X4 h5 X5;obtain⟨q5,q4,q3,q2,q1,q0,_⟩:=RR.out.r.lts;obtain⟨c0_0,c0_1,c0_2,c0_3⟩:=za.c4 (RR.out.at 5 rfl);obtain⟨c1_0,c1_1,c1_2,c1_3⟩:=za.c4 (RR.out.at 4 rfl)
 go_wp2_with fail
 refine yw _ ?_;intro wF hF0;replace RR:Hid (RB w wF [(g5,#[.bool s]),(g4,#[.bool p]),(w.heap.size+1+1+1,Zr),(w.heap.size+1+1,Zr),(w.heap.size+1,(Ar b)),(w.heap.size,(Ar a))]):=by rw[hF0];exact RR
 clear hF0 q0 q1 q2 q3 q4 q5 c0_0 c0_1 c0_2 c0_3 c1_0 c1_1 c1_2 c1_3;obtain⟨q5,q4,q3,q2,q1,q0,_⟩:=RR.out.r.lts;refine zek (by kernel_rfl) (by kernel_rfl) (by kernel_rfl) [(w.heap.size,(Ar a)),(w.heap.size+1,(Ar b)),(g4,#[.bool p]),(g5,#[.bool s])]
  [sV (U a),
   sV (.bool p),
   sV (U x),
   sV (U b),
   sV (.bool s),
   sV (U y),
   sV (.tuple #[U q,U r]),
   sV (U q),
   sV (U r),
   sK (w.heap.size+1+1) Zr (Ar q),
   sK (w.heap.size+1+1+1) Zr (Ar r)]
  (by kernel_rfl) RR.out.b (zt.cons (RR.out.at 5 rfl) (zt.cons (RR.out.at 4 rfl) (zt.cons (RR.out.at 1 rfl) (zt.cons (RR.out.at 0 rfl) zt.nil)))) (StOk.of [(w.heap.size+1+1,Zr),(w.heap.size+1+1+1,Zr)] rfl (StM.cons (RR.out.at 3 rfl) (by omega) (xj.cons (by omega) (xj.cons (by omega) (xj.cons (by omega) (xj.cons (by omega) xj.nil)))) (xj.cons (by omega) xj.nil) (StM.cons (RR.out.at 2 rfl) (by omega) (xj.cons (by omega) (xj.cons (by omega) (xj.cons (by omega) (xj.cons (by omega) xj.nil)))) xj.nil StM.nil)))
  (Obs.val (fun a' w' E=>ob_row 38 (.tmp 2) rfl (E.old 2 (by kernel_rfl)) (E.row 0 rfl) rfl underlying38 (by kernel_rfl))
  (Obs.val (fun a' w' E=>ob_boolF (.tmp 6) rfl (E.old 6 (by kernel_rfl)) (E.row 2 rfl))
  (Obs.val (fun a' w' E=>ob_call (f:=249) (args:=#[U a,.bool p]) (by simp[yv,ev (E.new 13 0 (by kernel_rfl) rfl),ev (E.new 14 1 (by kernel_rfl) rfl),go_sem]) (h3.out w'))
  (Obs.val (fun a' w' E=>ob_row 38 (.tmp 3) rfl (E.old 3 (by kernel_rfl)) (E.row 1 rfl) rfl underlying38 (by kernel_rfl))
  (Obs.val (fun a' w' E=>ob_boolF (.tmp 7) rfl (E.old 7 (by kernel_rfl)) (E.row 3 rfl))
  (Obs.val (fun a' w' E=>ob_call (f:=249) (args:=#[U b,.bool s]) (by simp[yv,ev (E.new 16 3 (by kernel_rfl) rfl),ev (E.new 17 4 (by kernel_rfl) rfl),go_sem]) (h4.out w'))
  (Obs.val (fun a' w' E=>ob_call (f:=177) (args:=#[U x,U y]) (by simp[yv,ev (E.new 15 2 (by kernel_rfl) rfl),ev (E.new 18 5 (by kernel_rfl) rfl),go_sem]) (h5.out w'))
  (Obs.val (fun a' w' E=>ob_val (by simp[yv,execOp,go_sem,ev (E.new 19 6 (by kernel_rfl) rfl)]))
  (Obs.val (fun a' w' E=>ob_val (by simp[yv,execOp,go_sem,ev (E.new 19 6 (by kernel_rfl) rfl)]))
  (Obs.stk (fun a' w' E hr=>ob_store 38 (.tmp 4) (.tmp 20) rfl (E.old 4 (by kernel_rfl)) (E.new 20 7 (by kernel_rfl) rfl) hr rfl rfl (by simp[Value.oneCell']) (by kernel_rfl))
  (Obs.stk (fun a' w' E hr=>ob_store 38 (.tmp 5) (.tmp 21) rfl (E.old 5 (by kernel_rfl)) (E.new 21 8 (by kernel_rfl) rfl) hr rfl rfl (by simp[Value.oneCell']) (by kernel_rfl))
  Obs.nil))))))))))) ?_
 intro bs w2 a2 ha F
 have e:a2=({ tmps:=#[U a,U b,.pointer (some ⟨w.heap.size,0,none⟩),.pointer (some ⟨w.heap.size+1,0,none⟩),.pointer (some ⟨w.heap.size+1+1,0,none⟩),.pointer (some ⟨w.heap.size+1+1+1,0,none⟩),.pointer (some ⟨g4,0,none⟩),.pointer (some ⟨g5,0,none⟩),U a,.bool p,U b,.bool s,.func (.func 248) #[] #[.pointer (some ⟨w.heap.size+1+1,0,none⟩),.pointer (some ⟨g4,0,none⟩),.pointer (some ⟨g5,0,none⟩),.pointer (some ⟨w.heap.size+1+1+1,0,none⟩)],U a,.bool p,U x,U b,.bool s,U y,.tuple #[U q,U r],U q,U r],defers:=[{ target:=.fn (.func 248) #[.pointer (some ⟨w.heap.size+1+1,0,none⟩),.pointer (some ⟨g4,0,none⟩),.pointer (some ⟨g5,0,none⟩),.pointer (some ⟨w.heap.size+1+1+1,0,none⟩)],args:=#[] }] }:Act):=ha.trans (by kernel_rfl)
 subst e;clear ha;replace RR:Hid (RB w w2 [(g5,#[.bool s]),(g4,#[.bool p]),(w.heap.size+1+1+1,(Ar r)),(w.heap.size+1+1,(Ar q)),(w.heap.size+1,(Ar b)),(w.heap.size,(Ar a))]):=⟨F.bw,(zt.cons (F.row 3 rfl) (zt.cons (F.row 2 rfl) (zt.cons (F.sk 10 rfl) (zt.cons (F.sk 9 rfl) (zt.cons (F.row 1 rfl) (zt.cons (F.row 0 rfl) zt.nil))))))⟩
 clear F q0 q1 q2 q3 q4 q5;obtain⟨q5,q4,q3,q2,q1,q0,_⟩:=RR.out.r.lts
 go_wp2
 refine leaves_cons (f:=248) (args:=#[.pointer (some ⟨w.heap.size+1+1,0,none⟩),.pointer (some ⟨g4,0,none⟩),.pointer (some ⟨g5,0,none⟩),.pointer (some ⟨w.heap.size+1+1+1,0,none⟩)]) (by simp) (by simp[go_sem]) ?_;refine(laid_on q r x' y' (w.heap.size+1+1) g4 g5 (w.heap.size+1+1+1) p s h6 h7 .returning w _ ⟨RR.out.b,zt.cons (RR.out.at 3 rfl) (zt.cons (RR.out.at 1 rfl) (zt.cons (RR.out.at 0 rfl) (zt.cons (RR.out.at 2 rfl) zt.nil)))⟩ (by omega) (by omega) (by omega) (by omega) (by omega)).mono ?_;rintro e u' w'' ⟨rfl,rfl,X1,X2,X3⟩
 have hr:=res2 (P:=prog) (fn:=Tryz.f226) (tmps:=#[U a,U b,.pointer (some ⟨w.heap.size,0,none⟩),.pointer (some ⟨w.heap.size+1,0,none⟩),.pointer (some ⟨w.heap.size+1+1,0,none⟩),.pointer (some ⟨w.heap.size+1+1+1,0,none⟩),.pointer (some ⟨g4,0,none⟩),.pointer (some ⟨g5,0,none⟩),U a,.bool p,U b,.bool s,.func (.func 248) #[] #[.pointer (some ⟨w.heap.size+1+1,0,none⟩),.pointer (some ⟨g4,0,none⟩),.pointer (some ⟨g5,0,none⟩),.pointer (some ⟨w.heap.size+1+1+1,0,none⟩)],U a,.bool p,U x,U b,.bool s,U y,.tuple #[U q,U r],U q,U r]) rfl (w:=w'') (g:=w.heap.size+1+1) (g2:=w.heap.size+1+1+1) rfl rfl X1 X2 rfl rfl underlying38 (by kernel_rfl) underlying38 (by kernel_rfl)
 exact⟨_,hr,rfl,X3⟩
section
attribute [local go_sem] zdn zak
theorem neg_any(a:Nat)(ha:a<W):RT 259 #[U a] (U (negW a)):=by
 intro w;exact neg_raw a _ _ (fun w=>by have h:=sub_any 0 a za1 ha w;rw[zcu]at h;exact h) w
theorem rneg_any(a:Nat)(ha:a<W):RT 153 #[U a] (U (negW a)):=by
 intro w;exact rneg_raw a _ _ (fun w=>by have h:=rsub_any 0 a za1 ha w;rw[zcu]at h;exact h) w
theorem dec_bits(a:Nat)(h:a<W):decide ((xb a:Int)=256)=ng a:=by
 rw[Bool.eq_iff_iff,decide_eq_true_iff];exact ng_bits a h
theorem dec_bit(a:Nat)(h:a<W):decide (((a/2^255%2:Nat):Int)=1)=ng a:=by
 rw[Bool.eq_iff_iff,decide_eq_true_iff,ng_bit a h];cases ng a<;>simp
theorem dec_cmp(a b:Nat):decide (ka a b<0)=decide (a<b):=by
 unfold ka;split
 ·rename_i h;rw[decide_eq_true h];rfl
 ·rename_i h;rw[decide_eq_false h];split<;>rfl
theorem low_parts(k m:Nat)(hk:k<W)(h1:l1 k=0)(h2:l2 k=0)(h3:l3 k=0):k=l0 k:=by
 have h:=xe k hk;rw[h1,h2,h3]at h;unfold mk at h;simp at h;exact h.symm
theorem zdb(a:Nat)(ha:a<W):RT 230 #[U a] (.bool (ng a)):=by
 intro w;have h:=under_raw a _ (zc8 a) w;rw[dec_bits a ha]at h;exact h
theorem zbp(a:Nat)(ha:a<W):RT 152 #[U a] (.bool (ng a)):=by
 intro w;have h:=below_raw a _ (bit_any a 255 (by decide)) w;rw[dec_bit a ha]at h;exact h
theorem zdo(a:Nat)(b:Bool)(ha:a<W):RT 249 #[U a,.bool b] (U (tn a b)):=by
 intro w;cases b
 ·exact turned_no a w
 ·exact turned_yes a _ (neg_any a ha) w
theorem za8(a:Nat)(ha:a<W):RT 151 #[U a] (U (ab a)):=by
 intro w;have hb:=zbp a ha;unfold ab;cases hn:ng a
 ·rw[hn]at hb;exact size_no a hb w
 ·rw[hn]at hb;exact size_yes a _ hb (rneg_any a ha) w
theorem sdivide_any(a b:Nat)(ha:a<W)(hb:b<W):RT 226 #[U a,U b] (.tuple #[U (sq a b),U (sr a b)]):=by
 intro w;exact sdivide_raw a b (ab a) (ab b) (ab a/ab b) (dr 0 (ab a) (ab b)) (sq a b) (sr a b) (ng a) (ng b) (zdb a ha) (zdb b hb) (zdo a (ng a) ha) (zdo b (ng b) hb)
  (div_any (ab a) (ab b) (ab_lt a ha) (ab_lt b hb)) (zdo _ _ (div_lt _ _ (ab_lt a ha))) (zdo _ _ (dr0_lt _ _ (ab_lt a ha))) w
theorem sdiv_any(a b:Nat)(ha:a<W)(hb:b<W):RT 179 #[U a,U b] (.tuple #[U (sq a b),U (sr a b)]):=by
 intro w;exact sdiv_raw a b _ _ (sdivide_any a b ha hb) w
theorem rsdiv_any(a b:Nat)(ha:a<W)(hb:b<W):RT 85 #[U a,U b] (.tuple #[U (sq a b),U (sr a b)]):=by
 intro w;have h1:=zbp a ha;have h2:=zbp b hb;have h3:=rdiv_any (ab a) (ab b) (ab_lt a ha) (ab_lt b hb);have n1:=rneg_any (ab a/ab b) (div_lt _ _ (ab_lt a ha));have n2:=rneg_any (dr 0 (ab a) (ab b)) (dr0_lt _ _ (ab_lt a ha));unfold sq sr;cases hp:ng a<;>cases hs:ng b<;>rw[hp]at h1<;>rw[hs]at h2
 ·exact rdiv_ff a b _ _ _ _ (za8 a ha) (za8 b hb) h3 h1 h2 w
 ·exact rdiv_ft a b _ _ _ _ _ (za8 a ha) (za8 b hb) h3 h1 h2 n1 w
 ·exact rdiv_tf a b _ _ _ _ _ _ (za8 a ha) (za8 b hb) h3 h1 h2 n1 n2 w
 ·exact rdiv_tt a b _ _ _ _ _ (za8 a ha) (za8 b hb) h3 h1 h2 n2 w
theorem less_any(a b:Nat)(ha:a<W)(hb:b<W):RT 191 #[U a,U b] (.bool (ls a b)):=by
 intro w;have h1:=zdb a ha;have h2:=zdb b hb;unfold ls;rw[← dec_cmp a b];cases hp:ng a<;>cases hs:ng b<;>rw[hp]at h1<;>rw[hs]at h2
 ·exact less_ff a b _ h1 h2 (zck a b ha hb) w
 ·exact less_ft a b h1 h2 w
 ·exact less_tf a b h1 h2 w
 ·exact less_tt a b _ h1 h2 (zck a b ha hb) w
theorem rless_any(a b:Nat)(ha:a<W)(hb:b<W):RT 160 #[U a,U b] (.bool (ls a b)):=by
 intro w;have h1:=zbp a ha;have h2:=zbp b hb;unfold ls;rw[← dec_cmp a b];cases hp:ng a<;>cases hs:ng b<;>rw[hp]at h1<;>rw[hs]at h2
 ·exact rless_ff a b _ h1 h2 (zb0 a b ha hb) w
 ·exact rless_ft a b h1 h2 w
 ·exact rless_tf a b h1 h2 w
 ·exact rless_tt a b _ h1 h2 (zb0 a b ha hb) w
theorem sar_any(a n:Nat)(ha:a<W):RT 204 #[U a,B n] (U (sar a n)):=by
 intro w;have h1:=zdb a ha;unfold sar;cases hp:ng a<;>rw[hp]at h1
 ·exact sar_no a n _ h1 (shr_any a n ha) w
 ·exact sar_yes a n _ _ _ h1 (not_any a ha) (shr_any _ n (notW_lt a)) (not_any _ (shrW_lt _ n (notW_lt a))) w
theorem rsar_any(a n:Nat)(ha:a<W):RT 157 #[U a,B n] (U (sar a n)):=by
 intro w;have h1:=zbp a ha;unfold sar;cases hp:ng a<;>rw[hp]at h1
 ·exact rsar_no a n _ h1 (rshr_any a n ha) w
 ·exact rsar_yes a n _ _ _ h1 (rnot_any a ha) (rshr_any _ n (notW_lt a)) (rnot_any _ (shrW_lt _ n (notW_lt a))) w
theorem up_wrap(k:Nat)(h:k<31):IntKind.u64.wrap (IntKind.u64.wrap (31-(k:Int))*8)=((upE k:Nat):Int):=by
 rw[IntKind.wrap_u64,IntKind.wrap_u64];unfold upE;omega
theorem up_wrap2(k:Nat)(h:k<31):IntKind.u64.wrap (wrap64 (8*wrap64 (31-(k:Int))))=((upE k:Nat):Int):=by
 rw[IntKind.wrap_u64];unfold upE wrap64;omega
theorem M_lt_W:M≤W:=by decide +kernel
theorem str_at(n k:Nat)(hk:k<32):(strN n)[k]? = some (UInt8.ofNat (zy n k)):=by
 have hd:(strN n).data=((List.range 32).map fun j=>UInt8.ofNat (zy n j)).toArray:=by
  unfold strN strOfNums;simp
 have h2:k<(strN n).size:=by rw[zc0];exact hk
 rw[ByteArray.getElem?_lt' _ _ h2]
 congr 1
 have h3:k<(strN n).data.size:=h2;have e:(strN n)[k]'h2=(strN n).data[k]'h3:=rfl;rw[e];have e2:(strN n).data[k]? = some (UInt8.ofNat (zy n k)):=by
  rw[hd,List.getElem?_toArray,List.getElem?_map,List.getElem?_range hk];rfl
 rw[Array.getElem?_eq_getElem h3]at e2;exact Option.some.inj e2
theorem idx_str(n k:Nat)(hk:k<32)(kd:IntKind)(w:World):(Instr.index 9 (.string (strN n)) (.int kd (k:Int))).run prog w=.ok (.int .u8 ((zy n k:Nat):Int)) w:=by
 have h2:k<(strN n).size:=by rw[zc0];exact hk
 have h3:((strN n)[k]'h2).toNat=zy n k:=by
  have h:=str_at n k hk;rw[ByteArray.getElem?_lt' _ _ h2]at h;have:=Option.some.inj h;rw[this];have hb:=zda n k;simp[UInt8.toNat_ofNat'];omega
 have h4:=run_index_string (P:=prog) w 9 (strN n) kd (k:Int) underlying9;rw[dif_pos ⟨by omega,by omega⟩]at h4;rw[h4];simp only[Int.toNat_natCast];rw[h3]
theorem byte_wrap(n k:Nat):IntKind.u64.wrap ((zy n k:Nat):Int)=((zy n k:Nat):Int):=by
 have:=zda n k;rw[IntKind.wrap_u64];omega
theorem U_small(n:Nat)(h:n<256):U n=I4 n 0 0 0:=by
 obtain⟨e0,e1,e2,e3⟩:=xc n (Nat.lt_of_lt_of_le h (by decide));unfold U;rw[e0,e1,e2,e3];rfl
theorem isb_any(k n:Nat)(hk:k<W)(hn:n<M):RT 229 #[U k,B n] (.bool (decide (k<n))):=by
 intro w;have h:=isb_raw k n n _ (of_any n hn) (zck k n hk (Nat.lt_of_lt_of_le hn M_lt_W)) w;rw[dec_cmp]at h;exact h
theorem ext_any(k a:Nat)(hk:k<W)(ha:a<W):RT 187 #[U k,U a] (U (exW k a)):=by
 intro w;have h1:=isb_any k 31 hk (by decide);unfold exW;by_cases h:k<31
 ·rw[decide_eq_true h]at h1;rw[if_pos h];exact ext_yes k a (upE k) _ _ h1 (shl_any a (upE k) ha) (sar_any _ (upE k) (shlW_lt _ _)) (by rw[(xc k (Nat.lt_trans h (by decide))).1];exact up_wrap k h) w
 ·rw[decide_eq_false h]at h1;rw[if_neg h];exact ext_no k a h1 w
theorem byte_any(k a:Nat)(hk:k<W)(ha:a<W):RT 200 #[U k,U a] (U (byW k a)):=by
 intro w;have h1:=isb_any k 32 hk (by decide);unfold byW;by_cases h:k<32
 ·rw[decide_eq_true h]at h1;rw[if_pos h];exact byte_yes k a (zy a k) (strN a) h1 (bytes_any a) (of_any _ (Nat.lt_trans (zda a k) (by decide))) (fun w=>by rw[(xc k (Nat.lt_trans h (by decide))).1];exact idx_str a k h .u64 w) (byte_wrap a k) w
 ·rw[decide_eq_false h]at h1;rw[if_neg h];exact byte_no k a h1 w
theorem small_in(k m:Nat)(hm:m≤32)(h:k<m):RT 156 #[U k,B m] (.tuple #[.int .i64 ((k:Nat):Int),.bool true]):=by
 intro w;obtain⟨e0,e1,e2,e3⟩:=xc k (show k<M from Nat.lt_of_lt_of_le h (Nat.le_trans hm (by decide)));have q:=small_yes k m e1 e2 e3 (by rw[e0];omega) (by rw[e0];unfold wrap64;omega) w;rw[e0]at q;exact q
theorem small_out(k m:Nat)(hk:k<W)(h:¬ k<m):RT 156 #[U k,B m] (.tuple #[.int .i64 0,.bool false]):=by
 intro w;by_cases h1:l1 k=0
 ·by_cases h2:l2 k=0
  ·by_cases h3:l3 k=0
   ·exact small_no3 k m h1 h2 h3 (by have:=low_parts k m hk h1 h2 h3;omega) w
   ·exact small_no2 k m h1 h2 h3 w
  ·exact small_no1 k m h1 h2 w
 ·exact small_no0 k m h1 w
theorem rext_any(k a:Nat)(hk:k<W)(ha:a<W):RT 89 #[U k,U a] (U (exW k a)):=by
 intro w;unfold exW;by_cases h:k<31
 ·rw[if_pos h];exact rext_yes k a k (upE k) _ _ (small_in k 31 (by decide) h) (rshl_any a (upE k) ha) (rsar_any _ (upE k) (shlW_lt _ _)) (up_wrap2 k h) w
 ·rw[if_neg h];exact rext_no k a (small_out k 31 hk h) w
theorem rbyte_any(k a:Nat)(hk:k<W)(ha:a<W):RT 165 #[U k,U a] (U (byW k a)):=by
 intro w;unfold byW;by_cases h:k<32
 ·rw[if_pos h,U_small _ (zda a k)];exact rbyte_yes k a k (zy a k) (strN a) (small_in k 32 (by decide) h) (rbytes_any a) (idx_str a k h .i64) (byte_wrap a k) w
 ·rw[if_neg h];exact rbyte_no k a (small_out k 32 hk h) w
end
end Go.Proofs.YtceedgdbhlpjlaaGreatDoor
