/- Out of Wo. -/
import Derived.Test.YtdeompgdhaomgaaGreatDoorKtWk
namespace Go.Proofs.YtdeompgdhaomgaaGreatDoor
open Go.RowKit Go.Sort Tryz
set_option linter.unusedVariables false
set_option maxRecDepth 100000
set_option maxHeartbeats 4000000
def sLH {T:World→Prop} (t:Nat) {p l m v:Value} (h:∀ w,(Instr.sliceAt t p (some l) (some m) none).run prog w=.ok v w):Fa prog T:=
 Sum.inr (Sum.inr ⟨fun o=>match o with | .slice t' _ (some _) (some _) none=>t' == t | _=>false,#[p,l,m],v,true,by
  intro a w oo _ hok hx;cases hop:oo.op with
  | slice t' x lo hi mx=>
   rw[hop]at hok hx;cases lo with
   | none=>simp at hok
   | some y=>
    cases hi with
    | none=>simp at hok
    | some z=>
     cases mx with
     | some z=>simp at hok
     | none=>
      simp at hok;subst hok;simp[vm]at hx;unfold execOp;simp only[hop,Option.map_some,Option.map_none,hx];rw[Sem.run_bind,h,Result.andThen_ok,Sem.run_pure]
  | _=>rw[hop]at hok;simp at hok⟩)
theorem vc{l:List UInt8}{i j:Nat}(hij:i≤j)(hj:j≤l.length)(w:World):(Instr.sliceAt 9 (str l) (some (Z i)) (some (Z j)) none).run prog w=.ok (str ((l.take j).drop i)) w:=by
 have h1:(i:Int)≤j:=by omega
 have h2:(j:Int)≤(⟨l.toArray⟩:ByteArray).size:=by rw[zn];omega
 rw[run_sliceAt_string (P:=prog) w 9 (str l) _ _ _ underlying9];have:=run_slice_string (P:=prog) w 9 ⟨l.toArray⟩ .i64 .i64 (i:Int) (j:Int) underlying9 (by omega) h1 h2;rw[this,zco];rfl
theorem eqE_run(x y:Int){q:Bool}(h:decide (x=y)=q)(o1 o2:Operand)(w:World):(do eqGuard .eql 36 o1 o2 (Z x) (Z y);binOp .eql 36 (Z x) (Z y):Sem Value).run prog w=.ok (.bool q) w:=by
 subst h;by_cases hx:x=y<;>simp[go_sem,hx]
theorem SI.free{J J':World→Prop}{F F':Nat→Prop}{ds:List Deferred}{β:Nat→Nat}{c:Cf}{a:Act}{w w':World}(I:SI J F ds β c a w)(hJ:J' w')(v:Value)(hr:c.rows=[]:=by kernel_rfl):SI J' F' ds β (xa c v) (a.put (yu c) v) w':=by
 have h0:∀ p,¬ p∈(xa c v).rows:=fun p hp=>by
  have:(xa c v).rows=c.rows:=rfl;rw[this,hr]at hp;cases hp
 refine⟨za7 I.fr (yu c) (some (Sum.inl v)),?_,hJ,fun p hp=>absurd hp (h0 p),fun p hp=>absurd hp (h0 p),fun p hp=>absurd hp (h0 p),fun p hp=>absurd hp (h0 p),zag I.ids (yu c) (by intro i o h;cases h)⟩;cases yu c<;>exact I.df
end Go.Proofs.YtdeompgdhaomgaaGreatDoor
