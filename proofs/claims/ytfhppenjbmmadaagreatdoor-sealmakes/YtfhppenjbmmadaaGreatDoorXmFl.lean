import Derived.Test.YtfhppenjbmmadaaGreatDoorXmM21
import Derived.Test.YtfhppenjbmmadaaGreatDoorXmM09
namespace Go.Proofs.YtfhppenjbmmadaaGreatDoor
set_option linter.unusedVariables false
set_option maxHeartbeats 8000000
open Go.RowKit Go.Sort
set_option maxRecDepth 100000 in
theorem power_raw(A O:Nat→Nat)(bt:Nat→Bool)(e n:Nat)(hN:n≤256)(h1:Ds 66 #[(.int .u64 1)] (U (O 0)))(hn:Ds 135 #[U e] (.int .i64 (n:Int)))(hb:∀ i,i<n→Ds 136 #[U e,.int .i64 (i:Int)] (.bool (bt i)))(hA:∀ i,Ds 126 #[U (A i),U (A i)] (U (A (i+1))))(hO:∀ i,i<n→bt i=true→Ds 126 #[U (O i),U (A i)] (U (O (i+1))))(hO2:∀ i,i<n→bt i=false→O (i+1)=O i)(w:World):Calls Tryz.prog 125 #[(U (A 0)),(U e)] w fun e w'=>e=.returned (U (O n))∧Below w.heap.size w w':=by
 go_enter Tryz.func125,Tryz.ntmps125
 go_upto_region 1 with fail
 refine name_world _ ?_
 intro wF hF0
 have RR:Hid (RB w wF [(w.heap.size+1+1,Zr),(w.heap.size+1,(Ar e)),(w.heap.size,(Ar (A 0)))]):=by rw[hF0];exact (rbN (rbN (rbN (rb0 w) (by simp)) (by simp)) (by simp))
 clear hF0
 obtain ⟨q2,q1,q0,qT⟩:=RR.out.r.lts
 refine wp_told [(w.heap.size,(Ar (A 0))),(w.heap.size+1,(Ar e)),(w.heap.size+1+1,Zr)]
  [sV (U (O 0)),
   sA (fun g=>.pointer (some ⟨g,0,none⟩)) 2 Zr (Ar (O 0)),
   sS 1]
  RR.out.b (Rc (RR.out.at 2 rfl) (Rc (RR.out.at 1 rfl) (Rc (RR.out.at 0 rfl) RA.nil))) (StOk.of [] rfl StM.nil)
  (Obs.val (fun a' w' E=>ob_fcall 66 _ _ rfl (am1 (evc a' (.int .u64 1))) (fc66 _ _) (h1.out w'))
  (Obs.alloc (fun a' w' E=>ob_alloc (t:=24) (by simp[opAt,execOp,go_sem]))
  (Obs.sta rfl (fun a' w' g E ha hr=>ob_sa 24 (.tmp 5) (.tmp 7) (ha 5 (by kernel_rfl)) (E.n (U (O 0)) 7 0) hr)
  Obs.nil))) ?_
 intro bs w1 aZ haZ F
 have eZ:aZ=(⟨#[(U (A 0)),(U e),(PT w.heap.size),(PT (w.heap.size+1)),(PT (w.heap.size+1+1)),(PT ((bs 1))),ud,(U (O 0)),ud,ud,ud,ud,ud,ud,ud,ud,ud,ud,ud,ud,ud,ud,ud,ud],[]⟩:Act):=haZ.trans (by kernel_rfl)
 subst eZ
 clear haZ
 obtain ⟨h1,X1⟩:=F.al 1 rfl rfl
 replace RR:Hid (RB w w1 [((bs 1),(Ar (O 0))),(w.heap.size+1+1,Zr),(w.heap.size+1,(Ar e)),(w.heap.size,(Ar (A 0)))]):=⟨F.bw,(Rc X1 (Rc (F.row 2 rfl) (Rc (F.row 1 rfl) (Rc (F.row 0 rfl) RA.nil))))⟩
 generalize bs 1=g1_1 at *
 have k1_1_0:=Nat.lt_of_lt_of_le q0 h1
 have k1_1_1:=Nat.lt_of_lt_of_le q1 h1
 have k1_1_2:=Nat.lt_of_lt_of_le q2 h1
 clear F qT q0 q1 q2 h1 X1
 clear wF
 go_upto_region 2 with fail
 obtain ⟨q3,q2,q1,q0,qT⟩:=RR.out.r.lts
 refine wp_told [(w.heap.size,(Ar (A 0))),(w.heap.size+1,(Ar e)),(w.heap.size+1+1,Zr),(g1_1,(Ar (O 0)))]
  [sV (U e),
   sV (.int .i64 n),
   sV (.int .i64 0)]
  RR.out.b (Rc (RR.out.at 3 rfl) (Rc (RR.out.at 2 rfl) (Rc (RR.out.at 1 rfl) (Rc (RR.out.at 0 rfl) RA.nil)))) (StOk.of [] rfl StM.nil)
  (Obs.val (fun a' w' E=>ob_la 24 (.tmp 3) (E.od 3) (E.row (g:=w.heap.size+1) (c:=(Ar e)) 1 rfl) Tryz.underlying24)
  (Obs.val (fun a' w' E=>ob_fcall 135 _ _ rfl (am1 (E.n (U e) 8 0)) (fc135 _ _) (hn.out w'))
  (Obs.val (fun a' w' E=>ob_move (.const (.int .i64 0)) rfl (evc a' (.int .i64 0)))
  Obs.nil))) ?_
 intro bs w2 aZ haZ F
 have eZ:aZ=(⟨#[(U (A 0)),(U e),(PT w.heap.size),(PT (w.heap.size+1)),(PT (w.heap.size+1+1)),(PT g1_1),ud,(U (O 0)),(U e),(.int .i64 n),(.int .i64 0),ud,ud,ud,ud,ud,ud,ud,ud,ud,ud,ud,ud,ud],[]⟩:Act):=haZ.trans (by kernel_rfl)
 subst eZ
 clear haZ
 replace RR:Hid (RB w w2 [(g1_1,(Ar (O 0))),(w.heap.size+1+1,Zr),(w.heap.size+1,(Ar e)),(w.heap.size,(Ar (A 0)))]):=⟨F.bw,(Rc (F.row 3 rfl) (Rc (F.row 2 rfl) (Rc (F.row 1 rfl) (Rc (F.row 0 rfl) RA.nil))))⟩
 clear F qT q0 q1 q2 q3
 go_wp2
 go_loopw [10] (fun v w'=>∃ i:Nat,i≤n∧v=.int .i64 (i:Int)∧RB w w' [(g1_1,(Ar (O i))),(w.heap.size+1+1,Zr),(w.heap.size+1,(Ar e)),(w.heap.size,(Ar (A i)))]) (fun v _=>n-(intOf v).toNat)
 case atStart=>exact ⟨0,Nat.zero_le _,rfl,RR.out⟩
 case round=>
  clear RR
  obtain ⟨i,hi,rfl,rr⟩:=hrel
  have RR:Hid (RB w wr [(g1_1,(Ar (O i))),(w.heap.size+1+1,Zr),(w.heap.size+1,(Ar e)),(w.heap.size,(Ar (A i)))]):=rr
  clear rr
  by_cases hlt:i<n
  ·have hd:(i:Int)<(n:Int):=by omega
   have hd2:¬ (n:Int)≤(i:Int):=by omega
   have hd3:(i:Int)<256:=by omega
   go_upto_region 5 with fail
   obtain ⟨q3,q2,q1,q0,qT⟩:=RR.out.r.lts
   refine wp_told [(w.heap.size,(Ar (A i))),(w.heap.size+1,(Ar e)),(w.heap.size+1+1,Zr),(g1_1,(Ar (O i)))]
    [sV (U e),
     sV (.int .i64 i),
     sV (.bool (bt i))]
    RR.out.b (Rc (RR.out.at 3 rfl) (Rc (RR.out.at 2 rfl) (Rc (RR.out.at 1 rfl) (Rc (RR.out.at 0 rfl) RA.nil)))) (StOk.of [] rfl StM.nil)
    (Obs.val (fun a' w' E=>ob_la 24 (.tmp 3) (E.od 3) (E.row (g:=w.heap.size+1) (c:=(Ar e)) 1 rfl) Tryz.underlying24)
    (Obs.val (fun a' w' E=>ob_move (.tmp 6) rfl (E.od 6))
    (Obs.val (fun a' w' E=>ob_fcall 136 _ _ rfl (am2 (E.n (U e) 13 0) (E.n (.int .i64 i) 14 1)) (fc136 _ _) ((hb i hlt).out w'))
    Obs.nil))) ?_
   intro bs w3 aZ haZ F
   have eZ:aZ=(⟨#[(U (A 0)),(U e),(PT w.heap.size),(PT (w.heap.size+1)),(PT (w.heap.size+1+1)),(PT g1_1),(.int .i64 i),(U (O 0)),(U e),(.int .i64 n),(.int .i64 i),(.bool true),(.int .i64 i),(U e),(.int .i64 i),(.bool (bt i)),u16,u17,u18,u19,u20,u21,u22,ud],[]⟩:Act):=haZ.trans (by kernel_rfl)
   subst eZ
   clear haZ
   replace RR:Hid (RB w w3 [(g1_1,(Ar (O i))),(w.heap.size+1+1,Zr),(w.heap.size+1,(Ar e)),(w.heap.size,(Ar (A i)))]):=⟨F.bw,(Rc (F.row 3 rfl) (Rc (F.row 2 rfl) (Rc (F.row 1 rfl) (Rc (F.row 0 rfl) RA.nil))))⟩
   clear F qT q0 q1 q2 q3
   cases hbt:bt i with
   | true=>
    go_upto_region 6 with fail
    obtain ⟨q3,q2,q1,q0,qT⟩:=RR.out.r.lts
    refine wp_told [(w.heap.size,(Ar (A i))),(w.heap.size+1,(Ar e)),(w.heap.size+1+1,Zr)]
     [sV (U (O i)),
      sV (U (A i)),
      sV (U (O (i+1))),
      sK (g1_1) (Ar (O i)) (Ar (O (i+1)))]
     RR.out.b (Rc (RR.out.at 3 rfl) (Rc (RR.out.at 2 rfl) (Rc (RR.out.at 1 rfl) RA.nil))) (StOk.of [(g1_1,(Ar (O i)))] rfl (StM.cons (RR.out.at 0 rfl) (by omega) (Ap.cons (by omega) (Ap.cons (by omega) (Ap.cons (by omega) Ap.nil))) Ap.nil StM.nil))
     (Obs.val (fun a' w' E=>ob_la 24 (.tmp 5) (E.od 5) (E.skb (g:=g1_1) (i:=(Ar (O i))) (e:=(Ar (O (i+1)))) 3 rfl (by kernel_rfl)) Tryz.underlying24)
     (Obs.val (fun a' w' E=>ob_la 24 (.tmp 2) (E.od 2) (E.row (g:=w.heap.size) (c:=(Ar (A i))) 0 rfl) Tryz.underlying24)
     (Obs.val (fun a' w' E=>ob_fcall 126 _ _ rfl (am2 (E.n (U (O i)) 16 0) (E.n (U (A i)) 17 1)) (fc126 _ _) ((hO i hlt hbt).out w'))
     (Obs.stk (fun a' w' E hr=>ob_sa 24 (.tmp 5) (.tmp 18) (E.od 5) (E.n (U (O (i+1))) 18 2) hr)
     Obs.nil)))) ?_
    intro bs w4 aZ haZ F
    have eZ:aZ=(⟨#[(U (A 0)),(U e),(PT w.heap.size),(PT (w.heap.size+1)),(PT (w.heap.size+1+1)),(PT g1_1),(.int .i64 i),(U (O 0)),(U e),(.int .i64 n),(.int .i64 i),(.bool true),(.int .i64 i),(U e),(.int .i64 i),(.bool true),(U (O i)),(U (A i)),(U (O (i+1))),u19,u20,u21,u22,ud],[]⟩:Act):=haZ.trans (by kernel_rfl)
    subst eZ
    clear haZ
    replace RR:Hid (RB w w4 [(g1_1,(Ar (O (i+1)))),(w.heap.size+1+1,Zr),(w.heap.size+1,(Ar e)),(w.heap.size,(Ar (A i)))]):=⟨F.bw,(Rc (F.sk 3 rfl) (Rc (F.row 2 rfl) (Rc (F.row 1 rfl) (Rc (F.row 0 rfl) RA.nil))))⟩
    clear F qT q0 q1 q2 q3
    go_upto_region 7 with fail
    obtain ⟨q3,q2,q1,q0,qT⟩:=RR.out.r.lts
    refine wp_told [(w.heap.size+1,(Ar e)),(w.heap.size+1+1,Zr),(g1_1,(Ar (O (i+1))))]
     [sV (U (A i)),
      sV (U (A i)),
      sV (U (A (i+1))),
      sK (w.heap.size) (Ar (A i)) (Ar (A (i+1)))]
     RR.out.b (Rc (RR.out.at 2 rfl) (Rc (RR.out.at 1 rfl) (Rc (RR.out.at 0 rfl) RA.nil))) (StOk.of [(w.heap.size,(Ar (A i)))] rfl (StM.cons (RR.out.at 3 rfl) (by omega) (Ap.cons (by omega) (Ap.cons (by omega) (Ap.cons (by omega) Ap.nil))) Ap.nil StM.nil))
     (Obs.val (fun a' w' E=>ob_la 24 (.tmp 2) (E.od 2) (E.skb (g:=w.heap.size) (i:=(Ar (A i))) (e:=(Ar (A (i+1)))) 3 rfl (by kernel_rfl)) Tryz.underlying24)
     (Obs.val (fun a' w' E=>ob_la 24 (.tmp 2) (E.od 2) (E.skb (g:=w.heap.size) (i:=(Ar (A i))) (e:=(Ar (A (i+1)))) 3 rfl (by kernel_rfl)) Tryz.underlying24)
     (Obs.val (fun a' w' E=>ob_fcall 126 _ _ rfl (am2 (E.n (U (A i)) 19 0) (E.n (U (A i)) 20 1)) (fc126 _ _) ((hA i).out w'))
     (Obs.stk (fun a' w' E hr=>ob_sa 24 (.tmp 2) (.tmp 21) (E.od 2) (E.n (U (A (i+1))) 21 2) hr)
     Obs.nil)))) ?_
    intro bs w5 aZ haZ F
    have eZ:aZ=(⟨#[(U (A 0)),(U e),(PT w.heap.size),(PT (w.heap.size+1)),(PT (w.heap.size+1+1)),(PT g1_1),(.int .i64 i),(U (O 0)),(U e),(.int .i64 n),(.int .i64 i),(.bool true),(.int .i64 i),(U e),(.int .i64 i),(.bool true),(U (O i)),(U (A i)),(U (O (i+1))),(U (A i)),(U (A i)),(U (A (i+1))),u22,ud],[]⟩:Act):=haZ.trans (by kernel_rfl)
    subst eZ
    clear haZ
    replace RR:Hid (RB w w5 [(g1_1,(Ar (O (i+1)))),(w.heap.size+1+1,Zr),(w.heap.size+1,(Ar e)),(w.heap.size,(Ar (A (i+1))))]):=⟨F.bw,(Rc (F.row 2 rfl) (Rc (F.row 1 rfl) (Rc (F.row 0 rfl) (Rc (F.sk 3 rfl) RA.nil))))⟩
    clear F qT q0 q1 q2 q3
    go_wp2
    go_roundw
    case rel=>exact ⟨i+1,hlt,by go_num,RR.out⟩
    case measure=>simp[intOf];omega
   | false=>
    go_upto_region 7 with fail
    obtain ⟨q3,q2,q1,q0,qT⟩:=RR.out.r.lts
    refine wp_told [(w.heap.size+1,(Ar e)),(w.heap.size+1+1,Zr),(g1_1,(Ar (O i)))]
     [sV (U (A i)),
      sV (U (A i)),
      sV (U (A (i+1))),
      sK (w.heap.size) (Ar (A i)) (Ar (A (i+1)))]
     RR.out.b (Rc (RR.out.at 2 rfl) (Rc (RR.out.at 1 rfl) (Rc (RR.out.at 0 rfl) RA.nil))) (StOk.of [(w.heap.size,(Ar (A i)))] rfl (StM.cons (RR.out.at 3 rfl) (by omega) (Ap.cons (by omega) (Ap.cons (by omega) (Ap.cons (by omega) Ap.nil))) Ap.nil StM.nil))
     (Obs.val (fun a' w' E=>ob_la 24 (.tmp 2) (E.od 2) (E.skb (g:=w.heap.size) (i:=(Ar (A i))) (e:=(Ar (A (i+1)))) 3 rfl (by kernel_rfl)) Tryz.underlying24)
     (Obs.val (fun a' w' E=>ob_la 24 (.tmp 2) (E.od 2) (E.skb (g:=w.heap.size) (i:=(Ar (A i))) (e:=(Ar (A (i+1)))) 3 rfl (by kernel_rfl)) Tryz.underlying24)
     (Obs.val (fun a' w' E=>ob_fcall 126 _ _ rfl (am2 (E.n (U (A i)) 19 0) (E.n (U (A i)) 20 1)) (fc126 _ _) ((hA i).out w'))
     (Obs.stk (fun a' w' E hr=>ob_sa 24 (.tmp 2) (.tmp 21) (E.od 2) (E.n (U (A (i+1))) 21 2) hr)
     Obs.nil)))) ?_
    intro bs w4 aZ haZ F
    have eZ:aZ=(⟨#[(U (A 0)),(U e),(PT w.heap.size),(PT (w.heap.size+1)),(PT (w.heap.size+1+1)),(PT g1_1),(.int .i64 i),(U (O 0)),(U e),(.int .i64 n),(.int .i64 i),(.bool true),(.int .i64 i),(U e),(.int .i64 i),(.bool false),u16,u17,u18,(U (A i)),(U (A i)),(U (A (i+1))),u22,ud],[]⟩:Act):=haZ.trans (by kernel_rfl)
    subst eZ
    clear haZ
    replace RR:Hid (RB w w4 [(g1_1,(Ar (O i))),(w.heap.size+1+1,Zr),(w.heap.size+1,(Ar e)),(w.heap.size,(Ar (A (i+1))))]):=⟨F.bw,(Rc (F.row 2 rfl) (Rc (F.row 1 rfl) (Rc (F.row 0 rfl) (Rc (F.sk 3 rfl) RA.nil))))⟩
    clear F qT q0 q1 q2 q3
    go_wp2
    go_roundw
    case rel=>exact ⟨i+1,hlt,by go_num,(by have h:=RR.out;rw[← hO2 i hlt hbt] at h;exact h)⟩
    case measure=>simp[intOf];omega
  ·have hin:n=i:=by omega
   subst hin
   clear hlt hi
   go_upto_region 9 with fail
   obtain ⟨q3,q2,q1,q0,qT⟩:=RR.out.r.lts
   refine wp_told [(w.heap.size,(Ar (A n))),(w.heap.size+1,(Ar e)),(g1_1,(Ar (O n)))]
    [sV (U (O n)),
     sK (w.heap.size+1+1) Zr (Ar (O n))]
    RR.out.b (Rc (RR.out.at 3 rfl) (Rc (RR.out.at 2 rfl) (Rc (RR.out.at 0 rfl) RA.nil))) (StOk.of [(w.heap.size+1+1,Zr)] rfl (StM.cons (RR.out.at 1 rfl) (by omega) (Ap.cons (by omega) (Ap.cons (by omega) (Ap.cons (by omega) Ap.nil))) Ap.nil StM.nil))
    (Obs.val (fun a' w' E=>ob_la 24 (.tmp 5) (E.od 5) (E.row (g:=g1_1) (c:=(Ar (O n))) 2 rfl) Tryz.underlying24)
    (Obs.stk (fun a' w' E hr=>ob_sa 24 (.tmp 4) (.tmp 23) (E.od 4) (E.n (U (O n)) 23 0) hr)
    Obs.nil)) ?_
   intro bs w3 aZ haZ F
   have eZ:aZ=(⟨#[(U (A 0)),(U e),(PT w.heap.size),(PT (w.heap.size+1)),(PT (w.heap.size+1+1)),(PT g1_1),u6,(U (O 0)),(U e),(.int .i64 n),(.int .i64 n),(.bool false),u12,u13,u14,u15,u16,u17,u18,u19,u20,u21,u22,(U (O n))],[]⟩:Act):=haZ.trans (by kernel_rfl)
   subst eZ
   clear haZ
   replace RR:Hid (RB w w3 [(g1_1,(Ar (O n))),(w.heap.size+1+1,(Ar (O n))),(w.heap.size+1,(Ar e)),(w.heap.size,(Ar (A n)))]):=⟨F.bw,(Rc (F.row 2 rfl) (Rc (F.sk 1 rfl) (Rc (F.row 1 rfl) (Rc (F.row 0 rfl) RA.nil))))⟩
   clear F qT q0 q1 q2 q3
   go_wp2
   exact bodyPost_ret (v:=(U (O n))) (resA (p:=4) (ty:=24) rfl (g:=w.heap.size+1+1) rfl (RR.out.at 1 rfl) Tryz.underlying24 rfl (by kernel_rfl)) rfl ⟨rfl,RR.out.b⟩
set_option maxRecDepth 100000 in
theorem rpower_raw(bt:Nat→Bool)(bv:Nat→Nat)(e n:Nat)(hN:n≤256)(hw:IntKind.i64.wrap ((n:Int)-1)=(n:Int)-1)(hn:Ds 79 #[U e] (.int .i64 (n:Int)))(hb:∀ i,i<n→Ds 81 #[U e,.int .i64 (i:Int)] (B (bv i)))(hq:∀ i,(((bv i:Nat):Int) == 1)=bt i)(a:Nat)(O D:Nat→Nat)(h1:O n=1)(hS:∀ i,i<n→Ds 49 #[U (O (i+1)),U (O (i+1))] (U (D i)))(hM:∀ i,i<n→bt i=true→Ds 49 #[U (D i),U a] (U (O i)))(hK:∀ i,i<n→bt i=false→O i=D i)(w:World):Calls Tryz.prog 107 #[(U a),(U e)] w fun e w'=>e=.returned (U (O 0))∧Below w.heap.size w w':=by
 go_enter Tryz.func107,Tryz.ntmps107
 go_upto_region 1 with fail
 refine name_world _ ?_
 intro wF hF0
 have RR:Hid (RB w wF [(w.heap.size+1+1,Zr),(w.heap.size+1,(Ar e)),(w.heap.size,(Ar a))]):=by rw[hF0];exact (rbN (rbN (rbN (rb0 w) (by simp)) (by simp)) (by simp))
 clear hF0
 obtain ⟨q2,q1,q0,qT⟩:=RR.out.r.lts
 refine wp_told [(w.heap.size,(Ar a)),(w.heap.size+1,(Ar e)),(w.heap.size+1+1,Zr)]
  [sV (U 1),
   sA (fun g=>.pointer (some ⟨g,0,none⟩)) 2 Zr (Ar 1),
   sS 1]
  RR.out.b (Rc (RR.out.at 2 rfl) (Rc (RR.out.at 1 rfl) (Rc (RR.out.at 0 rfl) RA.nil))) (StOk.of [] rfl StM.nil)
  (Obs.val (fun a' w' E=>ob_build 24 _ rfl (pm4 (evc a' (.int .u64 1)) (evc a' (.int .u64 0)) (evc a' (.int .u64 0)) (evc a' (.int .u64 0))) (bdk1 w'))
  (Obs.alloc (fun a' w' E=>ob_alloc (t:=24) (by simp[opAt,execOp,go_sem]))
  (Obs.sta rfl (fun a' w' g E ha hr=>ob_sa 24 (.tmp 5) (.tmp 7) (ha 5 (by kernel_rfl)) (E.n (U 1) 7 0) hr)
  Obs.nil))) ?_
 intro bs w1 aZ haZ F
 have eZ:aZ=(⟨#[(U a),(U e),(PT w.heap.size),(PT (w.heap.size+1)),(PT (w.heap.size+1+1)),(PT ((bs 1))),ud,(U 1),ud,ud,ud,ud,ud,ud,ud,ud,ud,ud,ud,ud,ud,ud,ud,ud,ud,ud],[]⟩:Act):=haZ.trans (by kernel_rfl)
 subst eZ
 clear haZ
 obtain ⟨h1,X1⟩:=F.al 1 rfl rfl
 replace RR:Hid (RB w w1 [((bs 1),(Ar 1)),(w.heap.size+1+1,Zr),(w.heap.size+1,(Ar e)),(w.heap.size,(Ar a))]):=⟨F.bw,(Rc X1 (Rc (F.row 2 rfl) (Rc (F.row 1 rfl) (Rc (F.row 0 rfl) RA.nil))))⟩
 generalize bs 1=g1_1 at *
 have k1_1_0:=Nat.lt_of_lt_of_le q0 h1
 have k1_1_1:=Nat.lt_of_lt_of_le q1 h1
 have k1_1_2:=Nat.lt_of_lt_of_le q2 h1
 clear F qT q0 q1 q2 h1 X1
 clear wF
 go_upto_region 2 with fail
 obtain ⟨q3,q2,q1,q0,qT⟩:=RR.out.r.lts
 refine wp_told [(w.heap.size,(Ar a)),(w.heap.size+1,(Ar e)),(w.heap.size+1+1,Zr),(g1_1,(Ar 1))]
  [sV (U e),
   sV (.int .i64 n),
   sV (.int .i64 ((n:Int)-1)),
   sV (.int .i64 ((n:Int)-1))]
  RR.out.b (Rc (RR.out.at 3 rfl) (Rc (RR.out.at 2 rfl) (Rc (RR.out.at 1 rfl) (Rc (RR.out.at 0 rfl) RA.nil)))) (StOk.of [] rfl StM.nil)
  (Obs.val (fun a' w' E=>ob_la 24 (.tmp 3) (E.od 3) (E.row (g:=w.heap.size+1) (c:=(Ar e)) 1 rfl) Tryz.underlying24)
  (Obs.val (fun a' w' E=>ob_fcall 79 _ _ rfl (am1 (E.n (U e) 8 0)) (fc79 _ _) (hn.out w'))
  (Obs.val (fun a' w' E=>ob_binOp .sub 3 (.tmp 9) (.const (.int .i64 1)) 3 rfl (E.n (.int .i64 n) 9 1) (evc a' (.int .i64 1)) (by simp[go_sem,hw]))
  (Obs.val (fun a' w' E=>ob_assign (.tmp 10) rfl (E.n (.int .i64 ((n:Int)-1)) 10 2))
  Obs.nil)))) ?_
 intro bs w2 aZ haZ F
 have eZ:aZ=(⟨#[(U a),(U e),(PT w.heap.size),(PT (w.heap.size+1)),(PT (w.heap.size+1+1)),(PT g1_1),(.int .i64 ((n:Int)-1)),(U 1),(U e),(.int .i64 n),(.int .i64 ((n:Int)-1)),ud,ud,ud,ud,ud,ud,ud,ud,ud,ud,ud,ud,ud,ud,ud],[]⟩:Act):=haZ.trans (by kernel_rfl)
 subst eZ
 clear haZ
 replace RR:Hid (RB w w2 [(g1_1,(Ar 1)),(w.heap.size+1+1,Zr),(w.heap.size+1,(Ar e)),(w.heap.size,(Ar a))]):=⟨F.bw,(Rc (F.row 3 rfl) (Rc (F.row 2 rfl) (Rc (F.row 1 rfl) (Rc (F.row 0 rfl) RA.nil))))⟩
 clear F qT q0 q1 q2 q3
 go_wp2
 go_loopw [6] (fun v w'=>∃ j:Nat,j≤n∧v=.int .i64 ((j:Int)-1)∧RB w w' [(g1_1,(Ar (O j))),(w.heap.size+1+1,Zr),(w.heap.size+1,(Ar e)),(w.heap.size,(Ar a))]) (fun v _=>((intOf v)+1).toNat)
 case atStart=>exact ⟨n,Nat.le_refl _,rfl,by rw[h1];exact RR.out⟩
 case round=>
  clear RR
  obtain ⟨j,hj,rfl,rr⟩:=hrel
  cases j with
  | succ i=>
   have RR:Hid (RB w wr [(g1_1,(Ar (O (i+1)))),(w.heap.size+1+1,Zr),(w.heap.size+1,(Ar e)),(w.heap.size,(Ar a))]):=rr
   clear rr
   rw[show (((i+1:Nat):Int)-1)=(i:Int) by omega]
   have hlt:i<n:=by omega
   have hd:(i:Int)<256:=by omega
   have hd2:(0:Int)≤(i:Int):=by omega
   go_upto_region 5 with fail
   obtain ⟨q3,q2,q1,q0,qT⟩:=RR.out.r.lts
   refine wp_told [(w.heap.size,(Ar a)),(w.heap.size+1,(Ar e)),(w.heap.size+1+1,Zr)]
    [sV (U (O (i+1))),
     sV (U (O (i+1))),
     sV (U (D i)),
     sK (g1_1) (Ar (O (i+1))) (Ar (D i))]
    RR.out.b (Rc (RR.out.at 3 rfl) (Rc (RR.out.at 2 rfl) (Rc (RR.out.at 1 rfl) RA.nil))) (StOk.of [(g1_1,(Ar (O (i+1))))] rfl (StM.cons (RR.out.at 0 rfl) (by omega) (Ap.cons (by omega) (Ap.cons (by omega) (Ap.cons (by omega) Ap.nil))) Ap.nil StM.nil))
    (Obs.val (fun a' w' E=>ob_la 24 (.tmp 5) (E.od 5) (E.skb (g:=g1_1) (i:=(Ar (O (i+1)))) (e:=(Ar (D i))) 3 rfl (by kernel_rfl)) Tryz.underlying24)
    (Obs.val (fun a' w' E=>ob_la 24 (.tmp 5) (E.od 5) (E.skb (g:=g1_1) (i:=(Ar (O (i+1)))) (e:=(Ar (D i))) 3 rfl (by kernel_rfl)) Tryz.underlying24)
    (Obs.val (fun a' w' E=>ob_fcall 49 _ _ rfl (am2 (E.n (U (O (i+1))) 15 0) (E.n (U (O (i+1))) 16 1)) (fc49 _ _) ((hS i hlt).out w'))
    (Obs.stk (fun a' w' E hr=>ob_sa 24 (.tmp 5) (.tmp 17) (E.od 5) (E.n (U (D i)) 17 2) hr)
    Obs.nil)))) ?_
   intro bs w3 aZ haZ F
   have eZ:aZ=(⟨#[(U a),(U e),(PT w.heap.size),(PT (w.heap.size+1)),(PT (w.heap.size+1+1)),(PT g1_1),(.int .i64 i),(U 1),(U e),(.int .i64 n),(.int .i64 ((n:Int)-1)),(.int .i64 i),(.bool true),u13,u14,(U (O (i+1))),(U (O (i+1))),(U (D i)),u18,u19,u20,u21,u22,u23,u24,ud],[]⟩:Act):=haZ.trans (by kernel_rfl)
   subst eZ
   clear haZ
   replace RR:Hid (RB w w3 [(g1_1,(Ar (D i))),(w.heap.size+1+1,Zr),(w.heap.size+1,(Ar e)),(w.heap.size,(Ar a))]):=⟨F.bw,(Rc (F.sk 3 rfl) (Rc (F.row 2 rfl) (Rc (F.row 1 rfl) (Rc (F.row 0 rfl) RA.nil))))⟩
   clear F qT q0 q1 q2 q3
   go_upto_region 6 with fail
   obtain ⟨q3,q2,q1,q0,qT⟩:=RR.out.r.lts
   refine wp_told [(w.heap.size,(Ar a)),(w.heap.size+1,(Ar e)),(w.heap.size+1+1,Zr),(g1_1,(Ar (D i)))]
    [sV (U e),
     sV (.int .i64 i),
     sV (B (bv i)),
     sV (.bool (bt i))]
    RR.out.b (Rc (RR.out.at 3 rfl) (Rc (RR.out.at 2 rfl) (Rc (RR.out.at 1 rfl) (Rc (RR.out.at 0 rfl) RA.nil)))) (StOk.of [] rfl StM.nil)
    (Obs.val (fun a' w' E=>ob_la 24 (.tmp 3) (E.od 3) (E.row (g:=w.heap.size+1) (c:=(Ar e)) 1 rfl) Tryz.underlying24)
    (Obs.val (fun a' w' E=>ob_move (.tmp 6) rfl (E.od 6))
    (Obs.val (fun a' w' E=>ob_fcall 81 _ _ rfl (am2 (E.n (U e) 18 0) (E.n (.int .i64 i) 19 1)) (fc81 _ _) ((hb i hlt).out w'))
    (Obs.val (fun a' w' E=>ob_binOp .eql 22 (.tmp 20) (.const (.int .u64 1)) 22 rfl (E.n (B (bv i)) 20 2) (evc a' (.int .u64 1)) (by simp[go_sem,hq i]))
    Obs.nil)))) ?_
   intro bs w4 aZ haZ F
   have eZ:aZ=(⟨#[(U a),(U e),(PT w.heap.size),(PT (w.heap.size+1)),(PT (w.heap.size+1+1)),(PT g1_1),(.int .i64 i),(U 1),(U e),(.int .i64 n),(.int .i64 ((n:Int)-1)),(.int .i64 i),(.bool true),u13,u14,(U (O (i+1))),(U (O (i+1))),(U (D i)),(U e),(.int .i64 i),(B (bv i)),(.bool (bt i)),u22,u23,u24,ud],[]⟩:Act):=haZ.trans (by kernel_rfl)
   subst eZ
   clear haZ
   replace RR:Hid (RB w w4 [(g1_1,(Ar (D i))),(w.heap.size+1+1,Zr),(w.heap.size+1,(Ar e)),(w.heap.size,(Ar a))]):=⟨F.bw,(Rc (F.row 3 rfl) (Rc (F.row 2 rfl) (Rc (F.row 1 rfl) (Rc (F.row 0 rfl) RA.nil))))⟩
   clear F qT q0 q1 q2 q3
   cases hbt:bt i with
   | true=>
    go_upto_region 7 with fail
    obtain ⟨q3,q2,q1,q0,qT⟩:=RR.out.r.lts
    refine wp_told [(w.heap.size,(Ar a)),(w.heap.size+1,(Ar e)),(w.heap.size+1+1,Zr)]
     [sV (U (D i)),
      sV (U a),
      sV (U (O i)),
      sK (g1_1) (Ar (D i)) (Ar (O i))]
     RR.out.b (Rc (RR.out.at 3 rfl) (Rc (RR.out.at 2 rfl) (Rc (RR.out.at 1 rfl) RA.nil))) (StOk.of [(g1_1,(Ar (D i)))] rfl (StM.cons (RR.out.at 0 rfl) (by omega) (Ap.cons (by omega) (Ap.cons (by omega) (Ap.cons (by omega) Ap.nil))) Ap.nil StM.nil))
     (Obs.val (fun a' w' E=>ob_la 24 (.tmp 5) (E.od 5) (E.skb (g:=g1_1) (i:=(Ar (D i))) (e:=(Ar (O i))) 3 rfl (by kernel_rfl)) Tryz.underlying24)
     (Obs.val (fun a' w' E=>ob_la 24 (.tmp 2) (E.od 2) (E.row (g:=w.heap.size) (c:=(Ar a)) 0 rfl) Tryz.underlying24)
     (Obs.val (fun a' w' E=>ob_fcall 49 _ _ rfl (am2 (E.n (U (D i)) 22 0) (E.n (U a) 23 1)) (fc49 _ _) ((hM i hlt hbt).out w'))
     (Obs.stk (fun a' w' E hr=>ob_sa 24 (.tmp 5) (.tmp 24) (E.od 5) (E.n (U (O i)) 24 2) hr)
     Obs.nil)))) ?_
    intro bs w5 aZ haZ F
    have eZ:aZ=(⟨#[(U a),(U e),(PT w.heap.size),(PT (w.heap.size+1)),(PT (w.heap.size+1+1)),(PT g1_1),(.int .i64 i),(U 1),(U e),(.int .i64 n),(.int .i64 ((n:Int)-1)),(.int .i64 i),(.bool true),u13,u14,(U (O (i+1))),(U (O (i+1))),(U (D i)),(U e),(.int .i64 i),(B (bv i)),(.bool true),(U (D i)),(U a),(U (O i)),ud],[]⟩:Act):=haZ.trans (by kernel_rfl)
    subst eZ
    clear haZ
    replace RR:Hid (RB w w5 [(g1_1,(Ar (O i))),(w.heap.size+1+1,Zr),(w.heap.size+1,(Ar e)),(w.heap.size,(Ar a))]):=⟨F.bw,(Rc (F.sk 3 rfl) (Rc (F.row 2 rfl) (Rc (F.row 1 rfl) (Rc (F.row 0 rfl) RA.nil))))⟩
    clear F qT q0 q1 q2 q3
    go_wp2
    go_roundw
    case rel=>exact ⟨i,by omega,by go_num,RR.out⟩
    case measure=>first | (simp[intOf];done) | (simp[intOf];omega)
   | false=>
    go_wp2
    go_roundw
    case rel=>exact ⟨i,by omega,by go_num,by have h:=RR.out;rw[← hK i hlt hbt] at h;exact h⟩
    case measure=>first | (simp[intOf];done) | (simp[intOf];omega)
  | zero=>
   have RR:Hid (RB w wr [(g1_1,(Ar (O 0))),(w.heap.size+1+1,Zr),(w.heap.size+1,(Ar e)),(w.heap.size,(Ar a))]):=rr
   clear rr
   rw[show (((0:Nat):Int)-1) = -1 by omega]
   go_upto_region 8 with fail
   obtain ⟨q3,q2,q1,q0,qT⟩:=RR.out.r.lts
   refine wp_told [(w.heap.size,(Ar a)),(w.heap.size+1,(Ar e)),(g1_1,(Ar (O 0)))]
    [sV (U (O 0)),
     sK (w.heap.size+1+1) Zr (Ar (O 0))]
    RR.out.b (Rc (RR.out.at 3 rfl) (Rc (RR.out.at 2 rfl) (Rc (RR.out.at 0 rfl) RA.nil))) (StOk.of [(w.heap.size+1+1,Zr)] rfl (StM.cons (RR.out.at 1 rfl) (by omega) (Ap.cons (by omega) (Ap.cons (by omega) (Ap.cons (by omega) Ap.nil))) Ap.nil StM.nil))
    (Obs.val (fun a' w' E=>ob_la 24 (.tmp 5) (E.od 5) (E.row (g:=g1_1) (c:=(Ar (O 0))) 2 rfl) Tryz.underlying24)
    (Obs.stk (fun a' w' E hr=>ob_sa 24 (.tmp 4) (.tmp 25) (E.od 4) (E.n (U (O 0)) 25 0) hr)
    Obs.nil)) ?_
   intro bs w3 aZ haZ F
   have eZ:aZ=(⟨#[(U a),(U e),(PT w.heap.size),(PT (w.heap.size+1)),(PT (w.heap.size+1+1)),(PT g1_1),(.int .i64 (-1)),(U 1),(U e),(.int .i64 n),(.int .i64 ((n:Int)-1)),(.int .i64 (-1)),(.bool false),u13,u14,u15,u16,u17,u18,u19,u20,u21,u22,u23,u24,(U (O 0))],[]⟩:Act):=haZ.trans (by kernel_rfl)
   subst eZ
   clear haZ
   replace RR:Hid (RB w w3 [(g1_1,(Ar (O 0))),(w.heap.size+1+1,(Ar (O 0))),(w.heap.size+1,(Ar e)),(w.heap.size,(Ar a))]):=⟨F.bw,(Rc (F.row 2 rfl) (Rc (F.sk 1 rfl) (Rc (F.row 1 rfl) (Rc (F.row 0 rfl) RA.nil))))⟩
   clear F qT q0 q1 q2 q3
   go_wp2
   exact bodyPost_ret (v:=(U (O 0))) (resA (p:=4) (ty:=24) rfl (g:=w.heap.size+1+1) rfl (RR.out.at 1 rfl) Tryz.underlying24 rfl (by kernel_rfl)) rfl ⟨rfl,RR.out.b⟩
set_option maxRecDepth 100000 in
theorem rmul_raw(bt:Nat→Bool)(bv:Nat→Nat)(e n:Nat)(hN:n≤256)(hw:IntKind.i64.wrap ((n:Int)-1)=(n:Int)-1)(hn:Ds 79 #[U e] (.int .i64 (n:Int)))(hb:∀ i,i<n→Ds 81 #[U e,.int .i64 (i:Int)] (B (bv i)))(hq:∀ i,(((bv i:Nat):Int) == 1)=bt i)(px py:Nat)(pn:Bool)(X Y Z D1 D2 D3:Nat→Nat)(h1:X n=0)(h2:Y n=0)(h3:Z n=0)(hS:∀ i,i<n→Ds 80 #[A3 (X (i+1)) (Y (i+1)) (Z (i+1))] (A3 (D1 i) (D2 i) (D3 i)))(hM:∀ i,i<n→bt i=true→Ds 82 #[A3 (D1 i) (D2 i) (D3 i),A9 px py pn] (A3 (X i) (Y i) (Z i)))(hK:∀ i,i<n→bt i=false→X i=D1 i∧Y i=D2 i∧Z i=D3 i)(fx fy:Nat)(fn:Bool)(hF:Ds 83 #[A3 (X 0) (Y 0) (Z 0)] (A9 fx fy fn))(w:World):Calls Tryz.prog 38 #[(U e),(A9 px py pn)] w fun e w'=>e=.returned (A9 fx fy fn)∧Below w.heap.size w w':=by
 go_enter Tryz.func38,Tryz.ntmps38
 go_upto_region 1 with fail
 refine name_world _ ?_
 intro wF hF0
 have RR:Hid (RB w wF [(w.heap.size+1+1,Z9),(w.heap.size+1,(P9 px py pn)),(w.heap.size,(Ar e))]):=by rw[hF0];exact (rbN (rbN (rbN (rb0 w) (by simp)) (by simp)) (by simp))
 clear hF0
 obtain ⟨q2,q1,q0,qT⟩:=RR.out.r.lts
 refine wp_told [(w.heap.size,(Ar e)),(w.heap.size+1,(P9 px py pn)),(w.heap.size+1+1,Z9)]
  [sV (A3 0 0 0),
   sA (fun g=>.pointer (some ⟨g,0,none⟩)) 2 Z12 (T3 0 0 0),
   sS 1]
  RR.out.b (Rc (RR.out.at 2 rfl) (Rc (RR.out.at 1 rfl) (Rc (RR.out.at 0 rfl) RA.nil))) (StOk.of [] rfl StM.nil)
  (Obs.val (fun a' w' E=>ob_build 103 _ rfl (pm0) (bd103_ w'))
  (Obs.alloc (fun a' w' E=>ob_alloc (t:=103) (by simp[opAt,execOp,go_sem]))
  (Obs.sta rfl (fun a' w' g E ha hr=>ob_sa 103 (.tmp 5) (.tmp 7) (ha 5 (by kernel_rfl)) (E.n (A3 0 0 0) 7 0) hr)
  Obs.nil))) ?_
 intro bs w1 aZ haZ F
 have eZ:aZ=(⟨#[(U e),(A9 px py pn),(PT w.heap.size),(PT (w.heap.size+1)),(PT (w.heap.size+1+1)),(PT ((bs 1))),ud,(A3 0 0 0),ud,ud,ud,ud,ud,ud,ud,ud,ud,ud,ud,ud,ud,ud,ud,ud,ud,ud],[]⟩:Act):=haZ.trans (by kernel_rfl)
 subst eZ
 clear haZ
 obtain ⟨h1,X1⟩:=F.al 1 rfl rfl
 replace RR:Hid (RB w w1 [((bs 1),(T3 0 0 0)),(w.heap.size+1+1,Z9),(w.heap.size+1,(P9 px py pn)),(w.heap.size,(Ar e))]):=⟨F.bw,(Rc X1 (Rc (F.row 2 rfl) (Rc (F.row 1 rfl) (Rc (F.row 0 rfl) RA.nil))))⟩
 generalize bs 1=g1_1 at *
 have k1_1_0:=Nat.lt_of_lt_of_le q0 h1
 have k1_1_1:=Nat.lt_of_lt_of_le q1 h1
 have k1_1_2:=Nat.lt_of_lt_of_le q2 h1
 clear F qT q0 q1 q2 h1 X1
 clear wF
 go_upto_region 2 with fail
 obtain ⟨q3,q2,q1,q0,qT⟩:=RR.out.r.lts
 refine wp_told [(w.heap.size,(Ar e)),(w.heap.size+1,(P9 px py pn)),(w.heap.size+1+1,Z9),(g1_1,(T3 0 0 0))]
  [sV (U e),
   sV (.int .i64 n),
   sV (.int .i64 ((n:Int)-1)),
   sV (.int .i64 ((n:Int)-1))]
  RR.out.b (Rc (RR.out.at 3 rfl) (Rc (RR.out.at 2 rfl) (Rc (RR.out.at 1 rfl) (Rc (RR.out.at 0 rfl) RA.nil)))) (StOk.of [] rfl StM.nil)
  (Obs.val (fun a' w' E=>ob_la 24 (.tmp 2) (E.od 2) (E.row (g:=w.heap.size) (c:=(Ar e)) 0 rfl) Tryz.underlying24)
  (Obs.val (fun a' w' E=>ob_fcall 79 _ _ rfl (am1 (E.n (U e) 8 0)) (fc79 _ _) (hn.out w'))
  (Obs.val (fun a' w' E=>ob_binOp .sub 3 (.tmp 9) (.const (.int .i64 1)) 3 rfl (E.n (.int .i64 n) 9 1) (evc a' (.int .i64 1)) (by simp[go_sem,hw]))
  (Obs.val (fun a' w' E=>ob_assign (.tmp 10) rfl (E.n (.int .i64 ((n:Int)-1)) 10 2))
  Obs.nil)))) ?_
 intro bs w2 aZ haZ F
 have eZ:aZ=(⟨#[(U e),(A9 px py pn),(PT w.heap.size),(PT (w.heap.size+1)),(PT (w.heap.size+1+1)),(PT g1_1),(.int .i64 ((n:Int)-1)),(A3 0 0 0),(U e),(.int .i64 n),(.int .i64 ((n:Int)-1)),ud,ud,ud,ud,ud,ud,ud,ud,ud,ud,ud,ud,ud,ud,ud],[]⟩:Act):=haZ.trans (by kernel_rfl)
 subst eZ
 clear haZ
 replace RR:Hid (RB w w2 [(g1_1,(T3 0 0 0)),(w.heap.size+1+1,Z9),(w.heap.size+1,(P9 px py pn)),(w.heap.size,(Ar e))]):=⟨F.bw,(Rc (F.row 3 rfl) (Rc (F.row 2 rfl) (Rc (F.row 1 rfl) (Rc (F.row 0 rfl) RA.nil))))⟩
 clear F qT q0 q1 q2 q3
 go_wp2
 go_loopw [6] (fun v w'=>∃ j:Nat,j≤n∧v=.int .i64 ((j:Int)-1)∧RB w w' [(g1_1,(T3 (X j) (Y j) (Z j))),(w.heap.size+1+1,Z9),(w.heap.size+1,(P9 px py pn)),(w.heap.size,(Ar e))]) (fun v _=>((intOf v)+1).toNat)
 case atStart=>exact ⟨n,Nat.le_refl _,rfl,by rw[h1,h2,h3];exact RR.out⟩
 case round=>
  clear RR
  obtain ⟨j,hj,rfl,rr⟩:=hrel
  cases j with
  | succ i=>
   have RR:Hid (RB w wr [(g1_1,(T3 (X (i+1)) (Y (i+1)) (Z (i+1)))),(w.heap.size+1+1,Z9),(w.heap.size+1,(P9 px py pn)),(w.heap.size,(Ar e))]):=rr
   clear rr
   rw[show (((i+1:Nat):Int)-1)=(i:Int) by omega]
   have hlt:i<n:=by omega
   have hd:(i:Int)<256:=by omega
   have hd2:(0:Int)≤(i:Int):=by omega
   go_upto_region 5 with fail
   obtain ⟨q3,q2,q1,q0,qT⟩:=RR.out.r.lts
   refine wp_told [(w.heap.size,(Ar e)),(w.heap.size+1,(P9 px py pn)),(w.heap.size+1+1,Z9)]
    [sV (A3 (X (i+1)) (Y (i+1)) (Z (i+1))),
     sV (A3 (D1 i) (D2 i) (D3 i)),
     sK (g1_1) (T3 (X (i+1)) (Y (i+1)) (Z (i+1))) (T3 (D1 i) (D2 i) (D3 i))]
    RR.out.b (Rc (RR.out.at 3 rfl) (Rc (RR.out.at 2 rfl) (Rc (RR.out.at 1 rfl) RA.nil))) (StOk.of [(g1_1,(T3 (X (i+1)) (Y (i+1)) (Z (i+1))))] rfl (StM.cons (RR.out.at 0 rfl) (by omega) (Ap.cons (by omega) (Ap.cons (by omega) (Ap.cons (by omega) Ap.nil))) Ap.nil StM.nil))
    (Obs.val (fun a' w' E=>ob_la 103 (.tmp 5) (E.od 5) (E.skb (g:=g1_1) (i:=(T3 (X (i+1)) (Y (i+1)) (Z (i+1)))) (e:=(T3 (D1 i) (D2 i) (D3 i))) 2 rfl (by kernel_rfl)) Tryz.underlying103)
    (Obs.val (fun a' w' E=>ob_fcall 80 _ _ rfl (am1 (E.n (A3 (X (i+1)) (Y (i+1)) (Z (i+1))) 15 0)) (fc80 _ _) ((hS i hlt).out w'))
    (Obs.stk (fun a' w' E hr=>ob_sa 103 (.tmp 5) (.tmp 16) (E.od 5) (E.n (A3 (D1 i) (D2 i) (D3 i)) 16 1) hr)
    Obs.nil))) ?_
   intro bs w3 aZ haZ F
   have eZ:aZ=(⟨#[(U e),(A9 px py pn),(PT w.heap.size),(PT (w.heap.size+1)),(PT (w.heap.size+1+1)),(PT g1_1),(.int .i64 i),(A3 0 0 0),(U e),(.int .i64 n),(.int .i64 ((n:Int)-1)),(.int .i64 i),(.bool true),u13,u14,(A3 (X (i+1)) (Y (i+1)) (Z (i+1))),(A3 (D1 i) (D2 i) (D3 i)),u17,u18,u19,u20,u21,u22,u23,ud,ud],[]⟩:Act):=haZ.trans (by kernel_rfl)
   subst eZ
   clear haZ
   replace RR:Hid (RB w w3 [(g1_1,(T3 (D1 i) (D2 i) (D3 i))),(w.heap.size+1+1,Z9),(w.heap.size+1,(P9 px py pn)),(w.heap.size,(Ar e))]):=⟨F.bw,(Rc (F.sk 2 rfl) (Rc (F.row 2 rfl) (Rc (F.row 1 rfl) (Rc (F.row 0 rfl) RA.nil))))⟩
   clear F qT q0 q1 q2 q3
   go_upto_region 6 with fail
   obtain ⟨q3,q2,q1,q0,qT⟩:=RR.out.r.lts
   refine wp_told [(w.heap.size,(Ar e)),(w.heap.size+1,(P9 px py pn)),(w.heap.size+1+1,Z9),(g1_1,(T3 (D1 i) (D2 i) (D3 i)))]
    [sV (U e),
     sV (.int .i64 i),
     sV (B (bv i)),
     sV (.bool (bt i))]
    RR.out.b (Rc (RR.out.at 3 rfl) (Rc (RR.out.at 2 rfl) (Rc (RR.out.at 1 rfl) (Rc (RR.out.at 0 rfl) RA.nil)))) (StOk.of [] rfl StM.nil)
    (Obs.val (fun a' w' E=>ob_la 24 (.tmp 2) (E.od 2) (E.row (g:=w.heap.size) (c:=(Ar e)) 0 rfl) Tryz.underlying24)
    (Obs.val (fun a' w' E=>ob_move (.tmp 6) rfl (E.od 6))
    (Obs.val (fun a' w' E=>ob_fcall 81 _ _ rfl (am2 (E.n (U e) 17 0) (E.n (.int .i64 i) 18 1)) (fc81 _ _) ((hb i hlt).out w'))
    (Obs.val (fun a' w' E=>ob_binOp .eql 22 (.tmp 19) (.const (.int .u64 1)) 22 rfl (E.n (B (bv i)) 19 2) (evc a' (.int .u64 1)) (by simp[go_sem,hq i]))
    Obs.nil)))) ?_
   intro bs w4 aZ haZ F
   have eZ:aZ=(⟨#[(U e),(A9 px py pn),(PT w.heap.size),(PT (w.heap.size+1)),(PT (w.heap.size+1+1)),(PT g1_1),(.int .i64 i),(A3 0 0 0),(U e),(.int .i64 n),(.int .i64 ((n:Int)-1)),(.int .i64 i),(.bool true),u13,u14,(A3 (X (i+1)) (Y (i+1)) (Z (i+1))),(A3 (D1 i) (D2 i) (D3 i)),(U e),(.int .i64 i),(B (bv i)),(.bool (bt i)),u21,u22,u23,ud,ud],[]⟩:Act):=haZ.trans (by kernel_rfl)
   subst eZ
   clear haZ
   replace RR:Hid (RB w w4 [(g1_1,(T3 (D1 i) (D2 i) (D3 i))),(w.heap.size+1+1,Z9),(w.heap.size+1,(P9 px py pn)),(w.heap.size,(Ar e))]):=⟨F.bw,(Rc (F.row 3 rfl) (Rc (F.row 2 rfl) (Rc (F.row 1 rfl) (Rc (F.row 0 rfl) RA.nil))))⟩
   clear F qT q0 q1 q2 q3
   cases hbt:bt i with
   | true=>
    go_upto_region 7 with fail
    obtain ⟨q3,q2,q1,q0,qT⟩:=RR.out.r.lts
    refine wp_told [(w.heap.size,(Ar e)),(w.heap.size+1,(P9 px py pn)),(w.heap.size+1+1,Z9)]
     [sV (A3 (D1 i) (D2 i) (D3 i)),
      sV (A9 px py pn),
      sV (A3 (X i) (Y i) (Z i)),
      sK (g1_1) (T3 (D1 i) (D2 i) (D3 i)) (T3 (X i) (Y i) (Z i))]
     RR.out.b (Rc (RR.out.at 3 rfl) (Rc (RR.out.at 2 rfl) (Rc (RR.out.at 1 rfl) RA.nil))) (StOk.of [(g1_1,(T3 (D1 i) (D2 i) (D3 i)))] rfl (StM.cons (RR.out.at 0 rfl) (by omega) (Ap.cons (by omega) (Ap.cons (by omega) (Ap.cons (by omega) Ap.nil))) Ap.nil StM.nil))
     (Obs.val (fun a' w' E=>ob_la 103 (.tmp 5) (E.od 5) (E.skb (g:=g1_1) (i:=(T3 (D1 i) (D2 i) (D3 i))) (e:=(T3 (X i) (Y i) (Z i))) 3 rfl (by kernel_rfl)) Tryz.underlying103)
     (Obs.val (fun a' w' E=>ob_la 38 (.tmp 3) (E.od 3) (E.row (g:=w.heap.size+1) (c:=(P9 px py pn)) 1 rfl) Tryz.underlying38)
     (Obs.val (fun a' w' E=>ob_fcall 82 _ _ rfl (am2 (E.n (A3 (D1 i) (D2 i) (D3 i)) 21 0) (E.n (A9 px py pn) 22 1)) (fc82 _ _) ((hM i hlt hbt).out w'))
     (Obs.stk (fun a' w' E hr=>ob_sa 103 (.tmp 5) (.tmp 23) (E.od 5) (E.n (A3 (X i) (Y i) (Z i)) 23 2) hr)
     Obs.nil)))) ?_
    intro bs w5 aZ haZ F
    have eZ:aZ=(⟨#[(U e),(A9 px py pn),(PT w.heap.size),(PT (w.heap.size+1)),(PT (w.heap.size+1+1)),(PT g1_1),(.int .i64 i),(A3 0 0 0),(U e),(.int .i64 n),(.int .i64 ((n:Int)-1)),(.int .i64 i),(.bool true),u13,u14,(A3 (X (i+1)) (Y (i+1)) (Z (i+1))),(A3 (D1 i) (D2 i) (D3 i)),(U e),(.int .i64 i),(B (bv i)),(.bool true),(A3 (D1 i) (D2 i) (D3 i)),(A9 px py pn),(A3 (X i) (Y i) (Z i)),ud,ud],[]⟩:Act):=haZ.trans (by kernel_rfl)
    subst eZ
    clear haZ
    replace RR:Hid (RB w w5 [(g1_1,(T3 (X i) (Y i) (Z i))),(w.heap.size+1+1,Z9),(w.heap.size+1,(P9 px py pn)),(w.heap.size,(Ar e))]):=⟨F.bw,(Rc (F.sk 3 rfl) (Rc (F.row 2 rfl) (Rc (F.row 1 rfl) (Rc (F.row 0 rfl) RA.nil))))⟩
    clear F qT q0 q1 q2 q3
    go_wp2
    go_roundw
    case rel=>exact ⟨i,by omega,by go_num,RR.out⟩
    case measure=>first | (simp[intOf];done) | (simp[intOf];omega)
   | false=>
    go_wp2
    go_roundw
    case rel=>exact ⟨i,by omega,by go_num,by have h:=RR.out;rw[← (hK i hlt hbt).1,← (hK i hlt hbt).2.1,← (hK i hlt hbt).2.2] at h;exact h⟩
    case measure=>first | (simp[intOf];done) | (simp[intOf];omega)
  | zero=>
   have RR:Hid (RB w wr [(g1_1,(T3 (X 0) (Y 0) (Z 0))),(w.heap.size+1+1,Z9),(w.heap.size+1,(P9 px py pn)),(w.heap.size,(Ar e))]):=rr
   clear rr
   rw[show (((0:Nat):Int)-1) = -1 by omega]
   go_upto_region 8 with fail
   obtain ⟨q3,q2,q1,q0,qT⟩:=RR.out.r.lts
   refine wp_told [(w.heap.size,(Ar e)),(w.heap.size+1,(P9 px py pn)),(g1_1,(T3 (X 0) (Y 0) (Z 0)))]
    [sV (A3 (X 0) (Y 0) (Z 0)),
     sV (A9 fx fy fn),
     sK (w.heap.size+1+1) Z9 (P9 fx fy fn)]
    RR.out.b (Rc (RR.out.at 3 rfl) (Rc (RR.out.at 2 rfl) (Rc (RR.out.at 0 rfl) RA.nil))) (StOk.of [(w.heap.size+1+1,Z9)] rfl (StM.cons (RR.out.at 1 rfl) (by omega) (Ap.cons (by omega) (Ap.cons (by omega) (Ap.cons (by omega) Ap.nil))) Ap.nil StM.nil))
    (Obs.val (fun a' w' E=>ob_la 103 (.tmp 5) (E.od 5) (E.row (g:=g1_1) (c:=(T3 (X 0) (Y 0) (Z 0))) 2 rfl) Tryz.underlying103)
    (Obs.val (fun a' w' E=>ob_fcall 83 _ _ rfl (am1 (E.n (A3 (X 0) (Y 0) (Z 0)) 24 0)) (fc83 _ _) (hF.out w'))
    (Obs.stk (fun a' w' E hr=>ob_sa 38 (.tmp 4) (.tmp 25) (E.od 4) (E.n (A9 fx fy fn) 25 1) hr)
    Obs.nil))) ?_
   intro bs w3 aZ haZ F
   have eZ:aZ=(⟨#[(U e),(A9 px py pn),(PT w.heap.size),(PT (w.heap.size+1)),(PT (w.heap.size+1+1)),(PT g1_1),(.int .i64 (-1)),(A3 0 0 0),(U e),(.int .i64 n),(.int .i64 ((n:Int)-1)),(.int .i64 (-1)),(.bool false),u13,u14,u15,u16,u17,u18,u19,u20,u21,u22,u23,(A3 (X 0) (Y 0) (Z 0)),(A9 fx fy fn)],[]⟩:Act):=haZ.trans (by kernel_rfl)
   subst eZ
   clear haZ
   replace RR:Hid (RB w w3 [(g1_1,(T3 (X 0) (Y 0) (Z 0))),(w.heap.size+1+1,(P9 fx fy fn)),(w.heap.size+1,(P9 px py pn)),(w.heap.size,(Ar e))]):=⟨F.bw,(Rc (F.row 2 rfl) (Rc (F.sk 2 rfl) (Rc (F.row 1 rfl) (Rc (F.row 0 rfl) RA.nil))))⟩
   clear F qT q0 q1 q2 q3
   go_wp2
   exact bodyPost_ret (v:=(A9 fx fy fn)) (resA (p:=4) (ty:=38) rfl (g:=w.heap.size+1+1) rfl (RR.out.at 1 rfl) Tryz.underlying38 rfl (by kernel_rfl)) rfl ⟨rfl,RR.out.b⟩
end Go.Proofs.YtfhppenjbmmadaaGreatDoor
