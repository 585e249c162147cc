/- Out of Yl. -/
import Derived.Test.YtceedgdbhlpjlaaGreatDoorKqYk
namespace Go.Proofs.YtceedgdbhlpjlaaGreatDoor
open Go.RowKit Go.Sort Tryz
set_option linter.unusedVariables false
set_option maxRecDepth 100000
set_option maxHeartbeats 4000000
theorem psame_any(f g:Fr)(v v':Value)(hnf:∀ u∈f.st,u<W)(hng:∀ u∈g.st,u<W)(hlf:f.st.length≤100000)(w:World)(h1:SkR w v f.st)(h2:SkR w v' g.st):Calls prog 13 #[frV f v,frV g v'] w fun e w'=>e=.returned (.bool (samB f g))∧Below w.heap.size w w':=by
 have hsq:∀ q,decide (f.st=g.st)=q→∀ w',Below w.heap.size w w'→Calls prog 30 #[v,v'] w' fun e w''=>e=.returned (.bool q)∧Below w'.heap.size w' w'':=fun q hq w' hb=>hq ▸ sequal_any f.st g.st v v' hnf hng hlf w' (h1.below hb) (h2.below hb)
 obtain⟨ad,cap,rfl,_⟩:=h1;obtain⟨ad',cap',rfl,_⟩:=h2;refine inZ func13 fun A I=>?_;by_cases k_code:f.code=g.code
 case neg=>
  refine goT (T:=Below w.heap.size w) [bO .eql 9 (xm (a:=f.code) (b:=g.code) (q:=false) (decide_eq_false k_code))] (zq w) (fun _ h=>h) I fun β1 A1 w1 I1 hb1=>?_;exact zp (v:=.bool false) I1 ⟨by unfold samB;rw[decide_eq_false fun h=>k_code h.1],I1.hJ⟩
 refine goT (T:=Below w.heap.size w) [bO .eql 9 (xm (a:=f.code) (b:=g.code) (q:=true) (decide_eq_true k_code))] (zq w) (fun _ h=>h) I fun _ _ _ J0 _=>?_;by_cases k_inp:f.inp=g.inp
 case neg=>
  refine goT (T:=Below w.heap.size w) [bO .eql 9 (xm (a:=f.inp) (b:=g.inp) (q:=false) (decide_eq_false k_inp))] (zq w) (fun _ h=>h) J0 fun β1 A1 w1 I1 hb1=>?_;exact zp (v:=.bool false) I1 ⟨by unfold samB;rw[decide_eq_false fun h=>k_inp h.2.1],I1.hJ⟩
 refine goT (T:=Below w.heap.size w) [bO .eql 9 (xm (a:=f.inp) (b:=g.inp) (q:=true) (decide_eq_true k_inp))] (zq w) (fun _ h=>h) J0 fun _ _ _ J1 _=>?_;by_cases k_st:f.st=g.st
 case neg=>
  refine goT (T:=Below w.heap.size w) [cA func30 (hsq false (decide_eq_false k_st))] (zq w) (fun _ h=>h) J1 fun β1 A1 w1 I1 hb1=>?_;exact zp (v:=.bool false) I1 ⟨by unfold samB;rw[decide_eq_false fun h=>k_st h.2.2.2.2.2.2.2.2],I1.hJ⟩
 refine goT (T:=Below w.heap.size w) [cA func30 (hsq true (decide_eq_true k_st))] (zq w) (fun _ h=>h) J1 fun _ _ _ J2 _=>?_;by_cases k_mem:f.mem=g.mem
 case neg=>
  refine goT (T:=Below w.heap.size w) [bO .eql 9 (xm (a:=f.mem) (b:=g.mem) (q:=false) (decide_eq_false k_mem))] (zq w) (fun _ h=>h) J2 fun β1 A1 w1 I1 hb1=>?_;exact zp (v:=.bool false) I1 ⟨by unfold samB;rw[decide_eq_false fun h=>k_mem h.2.2.1],I1.hJ⟩
 refine goT (T:=Below w.heap.size w) [bO .eql 9 (xm (a:=f.mem) (b:=g.mem) (q:=true) (decide_eq_true k_mem))] (zq w) (fun _ h=>h) J2 fun _ _ _ J3 _=>?_;by_cases k_pc:f.pc=g.pc
 case neg=>
  refine goT (T:=Below w.heap.size w) [bO .eql 3 (yp (x:=f.pc) (y:=g.pc) (b:=false) (decide_eq_false k_pc))] (zq w) (fun _ h=>h) J3 fun β1 A1 w1 I1 hb1=>?_;exact zp (v:=.bool false) I1 ⟨by unfold samB;rw[decide_eq_false fun h=>k_pc h.2.2.2.1],I1.hJ⟩
 refine goT (T:=Below w.heap.size w) [bO .eql 3 (yp (x:=f.pc) (y:=g.pc) (b:=true) (decide_eq_true k_pc))] (zq w) (fun _ h=>h) J3 fun _ _ _ J4 _=>?_;by_cases k_gas:f.gas=g.gas
 case neg=>
  refine goT (T:=Below w.heap.size w) [bO .eql 3 (yp (x:=f.gas) (y:=g.gas) (b:=false) (decide_eq_false k_gas))] (zq w) (fun _ h=>h) J4 fun β1 A1 w1 I1 hb1=>?_;exact zp (v:=.bool false) I1 ⟨by unfold samB;rw[decide_eq_false fun h=>k_gas h.2.2.2.2.1],I1.hJ⟩
 refine goT (T:=Below w.heap.size w) [bO .eql 3 (yp (x:=f.gas) (y:=g.gas) (b:=true) (decide_eq_true k_gas))] (zq w) (fun _ h=>h) J4 fun _ _ _ J5 _=>?_;by_cases k_sd:f.sd=g.sd
 case neg=>
  refine goT (T:=Below w.heap.size w) [bO .eql 3 (yp (x:=f.sd) (y:=g.sd) (b:=false) (decide_eq_false k_sd))] (zq w) (fun _ h=>h) J5 fun β1 A1 w1 I1 hb1=>?_;exact zp (v:=.bool false) I1 ⟨by unfold samB;rw[decide_eq_false fun h=>k_sd h.2.2.2.2.2.1],I1.hJ⟩
 refine goT (T:=Below w.heap.size w) [bO .eql 3 (yp (x:=f.sd) (y:=g.sd) (b:=true) (decide_eq_true k_sd))] (zq w) (fun _ h=>h) J5 fun _ _ _ J6 _=>?_;by_cases k_er:f.er=g.er
 case neg=>
  refine goT (T:=Below w.heap.size w) [bO .eql 23 (run_eql26 (x:=f.er) (y:=g.er) (b:=false) (decide_eq_false k_er))] (zq w) (fun _ h=>h) J6 fun β1 A1 w1 I1 hb1=>?_;exact zp (v:=.bool false) I1 ⟨by unfold samB;rw[decide_eq_false fun h=>k_er h.2.2.2.2.2.2.1],I1.hJ⟩
 refine goT (T:=Below w.heap.size w) [bO .eql 23 (run_eql26 (x:=f.er) (y:=g.er) (b:=true) (decide_eq_true k_er))] (zq w) (fun _ h=>h) J6 fun _ _ _ J7 _=>?_;by_cases k_out:f.out=g.out
 case neg=>
  refine goT (T:=Below w.heap.size w) [bO .eql 9 (xm (a:=f.out) (b:=g.out) (q:=false) (decide_eq_false k_out))] (zq w) (fun _ h=>h) J7 fun β1 A1 w1 I1 hb1=>?_;exact zp (v:=.bool false) I1 ⟨by unfold samB;rw[decide_eq_false fun h=>k_out h.2.2.2.2.2.2.2.1],I1.hJ⟩
 refine goT (T:=Below w.heap.size w) [bO .eql 9 (xm (a:=f.out) (b:=g.out) (q:=true) (decide_eq_true k_out))] (zq w) (fun _ h=>h) J7 fun _ _ _ J8 _=>?_;exact zp (v:=.bool true) J8 ⟨by unfold samB;rw[decide_eq_true ⟨k_code,k_inp,k_mem,k_pc,k_gas,k_sd,k_er,k_out,k_st⟩],J8.hJ⟩
end Go.Proofs.YtceedgdbhlpjlaaGreatDoor
