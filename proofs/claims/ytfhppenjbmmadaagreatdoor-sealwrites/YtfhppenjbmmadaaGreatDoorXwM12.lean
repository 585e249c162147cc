import Derived.Test.YtfhppenjbmmadaaGreatDoorXwLm
namespace Go.Proofs.YtfhppenjbmmadaaGreatDoor
set_option linter.unusedVariables false
set_option maxHeartbeats 8000000
section
open Go.RowKit Go.Sort
theorem ag_cong{k:IntKind}{n:Nat}{f g:Nat→Nat}(h:∀ i,i<n→f i=g i):ag k n f=ag k n g:=by
 apply Array.ext_getElem?
 intro i
 rw[agG,agG]
 by_cases hi:i<n
 ·rw[if_pos hi,if_pos hi,h i hi]
 ·rw[if_neg hi,if_neg hi]
theorem LR.same{X V:Nat}{q o:Nat→Nat}(h:LR X V q o):Value.tuple #[A16 q,A8 o]=Value.tuple #[A16 (dg (X/V)),A8 (dg (rm X V))]:=by
 have e1:ag .u64 16 q=ag .u64 16 (dg (X/V)):=ag_cong fun i hi=>by rw[← h.vq,dg_vl h.hq hi]
 have e2:ag .u64 8 o=ag .u64 8 (dg (rm X V)):=ag_cong fun i hi=>by unfold rm;rw[← h.vo,dg_vl h.ho hi]
 unfold A16 A8
 rw[e1,e2]
end
section
open Go.RowKit Go.Sort
structure RR (w w':World) (hi lo m b1 b2:Nat) (fh fl dd:Nat→Nat):Prop where
 m:HRw w' (w.heap.size+1+1) #[B (l0 m),B (l1 m),B (l2 m),B (l3 m)]
 r:HRw w' (w.heap.size+1+1+1) #[.int .u64 0,.int .u64 0,.int .u64 0,.int .u64 0]
 d:HRw w' (w.heap.size+1+1+1+1) (ag .u64 16 dd)
 h:HRw w' b1 (ag .u64 8 fh)
 l:HRw w' b2 (ag .u64 8 fl)
 b:Below w.heap.size w w'
 g1:w.heap.size+1+1+1+1<b1
 g2:b1<b2
theorem RR.put{w w':World}{hi lo m b1 b2:Nat}{fh fl dd:Nat→Nat}(h:RR w w' hi lo m b1 b2 fh fl dd)(i x:Nat):RR w (w'.setCell ⟨w.heap.size+1+1+1+1,i,none⟩ (.int .u64 (x:Nat))) hi lo m b1 b2 fh fl (upd dd i x):=by
 have hg:=h.g1
 have hv:=h.g2
 rw[h.d.setCell,ag_set]
 exact ⟨h.m.set_other _ (by omega),h.r.set_other _ (by omega),h.d.set_same _,h.h.set_other _ (by omega),h.l.set_other _ (by omega),bSR h.b (by omega) _,hg,hv⟩
end
section
open Go.RowKit Go.Sort
structure DR (w w':World) (b b1:Nat) (fa dd:Nat→Nat):Prop where
 m:HRw w' (w.heap.size+1) #[B (l0 b),B (l1 b),B (l2 b),B (l3 b)]
 r:HRw w' (w.heap.size+1+1) #[.int .u64 0,.int .u64 0,.int .u64 0,.int .u64 0]
 s:HRw w' (w.heap.size+1+1+1) #[.int .u64 0,.int .u64 0,.int .u64 0,.int .u64 0]
 d:HRw w' (w.heap.size+1+1+1+1) (ag .u64 16 dd)
 h:HRw w' b1 (ag .u64 8 fa)
 bw:Below w.heap.size w w'
 g1:w.heap.size+1+1+1+1<b1
theorem DR.put{w w':World}{b b1:Nat}{fa dd:Nat→Nat}(h:DR w w' b b1 fa dd)(i x:Nat):DR w (w'.setCell ⟨w.heap.size+1+1+1+1,i,none⟩ (.int .u64 (x:Nat))) b b1 fa (upd dd i x):=by
 have hg:=h.g1
 rw[h.d.setCell,ag_set]
 exact ⟨h.m.set_other _ (by omega),h.r.set_other _ (by omega),h.s.set_other _ (by omega),h.d.set_same _,h.h.set_other _ (by omega),bSR h.bw (by omega) _,hg⟩
end
end Go.Proofs.YtfhppenjbmmadaaGreatDoor
