import Derived.Test.YtfhppenjbmmadaaGreatDoorXmM19
namespace Go.Proofs.YtfhppenjbmmadaaGreatDoor
set_option linter.unusedVariables false
set_option maxHeartbeats 8000000
open Go.RowKit Go.Sort
section
variable {P:Program} {T:World→Prop}
def sHi (t:Nat) {p h v:Value} (hh:∀ w,(Instr.sliceAt t p none (some h) none).run P w=.ok v w):Fa P T:=
 Sum.inr (Sum.inr ⟨fun o=>match o with | .slice t' _ none (some _) none=>t' == t | _=>false,#[p,h],v,by
  intro a w oo hok hx
  cases hop:oo.op with
  | slice t' x lo hi mx=>
   rw[hop] at hok hx
   cases lo with
   | some y=>simp at hok
   | none=>
    cases hi with
    | none=>simp at hok
    | some z=>
     cases mx with
     | some z=>simp at hok
     | none=>
      simp at hok
      subst hok
      simp[opnds] at hx
      unfold execOp
      simp only[hop,Option.map_some,Option.map_none,hx]
      rw[Sem.run_bind,hh,Result.andThen_ok,Sem.run_pure]
  | _=>rw[hop] at hok;simp at hok⟩)
def sLH (t:Nat) {p l h v:Value} (hh:∀ w,(Instr.sliceAt t p (some l) (some h) none).run P w=.ok v w):Fa P T:=
 Sum.inr (Sum.inr ⟨fun o=>match o with | .slice t' _ (some _) (some _) none=>t' == t | _=>false,#[p,l,h],v,by
  intro a w oo hok hx
  cases hop:oo.op with
  | slice t' x lo hi mx=>
   rw[hop] at hok hx
   cases lo with
   | none=>simp at hok
   | some y=>
    cases hi with
    | none=>simp at hok
    | some z=>
     cases mx with
     | some z=>simp at hok
     | none=>
      simp at hok
      subst hok
      simp[opnds] at hx
      unfold execOp
      simp only[hop,Option.map_some,Option.map_none,hx]
      rw[Sem.run_bind,hh,Result.andThen_ok,Sem.run_pure]
  | _=>rw[hop] at hok;simp at hok⟩)
end
end Go.Proofs.YtfhppenjbmmadaaGreatDoor
