import Derived.Test.YtfhppenjbmmadaaGreatDoorXtM21
import Derived.Test.YtfhppenjbmmadaaGreatDoorXtM09
namespace Go.Proofs.YtfhppenjbmmadaaGreatDoor
set_option linter.unusedVariables false
set_option maxHeartbeats 8000000
open Go.RowKit Go.Sort
set_option maxRecDepth 100000 in
theorem rsum_raw(bt ct:Nat→Bool)(bu bv:Nat→Nat)(e l na nb n:Nat)(hN:n≤256)(hw:IntKind.i64.wrap ((n:Int)-1)=(n:Int)-1)(hna:Ds 79 #[U e] (.int .i64 (na:Int)))(hnb:Ds 79 #[U l] (.int .i64 (nb:Int)))(hmax:∀ w,(Builtin.max_ #[3,3] 3 #[.int .i64 (na:Int),.int .i64 (nb:Int)]).run Tryz.prog w=.ok (.int .i64 (n:Int)) w)(hbu:∀ i,i<n→Ds 81 #[U e,.int .i64 (i:Int)] (B (bu i)))(hu:∀ i,(((bu i:Nat):Int) == 1)=bt i)(hbv:∀ i,i<n→Ds 81 #[U l,.int .i64 (i:Int)] (B (bv i)))(hv:∀ i,(((bv i:Nat):Int) == 1)=ct i)(px py qx qy sx sy:Nat)(pn qn sn:Bool)(hA:Ds 109 #[A9 px py pn,A9 qx qy qn] (A9 sx sy sn))(X Y Z D1 D2 D3:Nat→Nat)(h1:X n=0)(h2:Y n=0)(h3:Z n=0)(hS:∀ i,i<n→Ds 80 #[A3 (X (i+1)) (Y (i+1)) (Z (i+1))] (A3 (D1 i) (D2 i) (D3 i)))(hTT:∀ i,i<n→bt i=true→ct i=true→Ds 82 #[A3 (D1 i) (D2 i) (D3 i),A9 sx sy sn] (A3 (X i) (Y i) (Z i)))(hTF:∀ i,i<n→bt i=true→ct i=false→Ds 82 #[A3 (D1 i) (D2 i) (D3 i),A9 px py pn] (A3 (X i) (Y i) (Z i)))(hFT:∀ i,i<n→bt i=false→ct i=true→Ds 82 #[A3 (D1 i) (D2 i) (D3 i),A9 qx qy qn] (A3 (X i) (Y i) (Z i)))(hFF:∀ i,i<n→bt i=false→ct i=false→X i=D1 i∧Y i=D2 i∧Z i=D3 i)(fx fy:Nat)(fn:Bool)(hF:Ds 83 #[A3 (X 0) (Y 0) (Z 0)] (A9 fx fy fn))(w:World):Calls Tryz.prog 59 #[(U e),(A9 px py pn),(U l),(A9 qx qy qn)] w fun e w'=>e=.returned (A9 fx fy fn)∧Below w.heap.size w w':=by
 go_enter Tryz.func59,Tryz.ntmps59
 go_upto_region 1 with fail
 refine name_world _ ?_
 intro wF hF0
 have RR:Hid (RB w wF [(w.heap.size+1+1+1+1,Z9),(w.heap.size+1+1+1,(P9 qx qy qn)),(w.heap.size+1+1,(Ar l)),(w.heap.size+1,(P9 px py pn)),(w.heap.size,(Ar e))]):=by rw[hF0];exact (rbN (rbN (rbN (rbN (rbN (rb0 w) (by simp)) (by simp)) (by simp)) (by simp)) (by simp))
 clear hF0
 obtain ⟨q4,q3,q2,q1,q0,qT⟩:=RR.out.r.lts
 refine wp_told [(w.heap.size,(Ar e)),(w.heap.size+1,(P9 px py pn)),(w.heap.size+1+1,(Ar l)),(w.heap.size+1+1+1,(P9 qx qy qn)),(w.heap.size+1+1+1+1,Z9)]
  [sV (A9 px py pn),
   sV (A9 qx qy qn),
   sV (A9 sx sy sn),
   sA (fun g=>.pointer (some ⟨g,0,none⟩)) 4 Z9 (P9 sx sy sn),
   sS 3]
  RR.out.b (Rc (RR.out.at 4 rfl) (Rc (RR.out.at 3 rfl) (Rc (RR.out.at 2 rfl) (Rc (RR.out.at 1 rfl) (Rc (RR.out.at 0 rfl) RA.nil))))) (StOk.of [] rfl StM.nil)
  (Obs.val (fun a' w' E=>ob_la 38 (.tmp 5) (E.od 5) (E.row (g:=w.heap.size+1) (c:=(P9 px py pn)) 1 rfl) Tryz.underlying38)
  (Obs.val (fun a' w' E=>ob_la 38 (.tmp 7) (E.od 7) (E.row (g:=w.heap.size+1+1+1) (c:=(P9 qx qy qn)) 3 rfl) Tryz.underlying38)
  (Obs.val (fun a' w' E=>ob_fcall 109 _ _ rfl (am2 (E.n (A9 px py pn) 14 0) (E.n (A9 qx qy qn) 15 1)) (fc109 _ _) (hA.out w'))
  (Obs.alloc (fun a' w' E=>ob_alloc (t:=38) (by simp[opAt,execOp,go_sem]))
  (Obs.sta rfl (fun a' w' g E ha hr=>ob_sa 38 (.tmp 9) (.tmp 16) (ha 9 (by kernel_rfl)) (E.n (A9 sx sy sn) 16 2) hr)
  Obs.nil))))) ?_
 intro bs w1 aZ haZ F
 have eZ:aZ=(⟨#[(U e),(A9 px py pn),(U l),(A9 qx qy qn),(PT w.heap.size),(PT (w.heap.size+1)),(PT (w.heap.size+1+1)),(PT (w.heap.size+1+1+1)),(PT (w.heap.size+1+1+1+1)),(PT ((bs 3))),ud,ud,ud,ud,(A9 px py pn),(A9 qx qy qn),(A9 sx sy sn),ud,ud,ud,ud,ud,ud,ud,ud,ud,ud,ud,ud,ud,ud,ud,ud,ud,ud,ud,ud,ud,ud,ud,ud,ud,ud,ud,ud,ud,ud,ud,ud,ud,ud,ud,ud,ud,ud,ud,ud],[]⟩:Act):=haZ.trans (by kernel_rfl)
 subst eZ
 clear haZ
 obtain ⟨h3,X3⟩:=F.al 3 rfl rfl
 replace RR:Hid (RB w w1 [((bs 3),(P9 sx sy sn)),(w.heap.size+1+1+1+1,Z9),(w.heap.size+1+1+1,(P9 qx qy qn)),(w.heap.size+1+1,(Ar l)),(w.heap.size+1,(P9 px py pn)),(w.heap.size,(Ar e))]):=⟨F.bw,(Rc X3 (Rc (F.row 4 rfl) (Rc (F.row 3 rfl) (Rc (F.row 2 rfl) (Rc (F.row 1 rfl) (Rc (F.row 0 rfl) RA.nil))))))⟩
 generalize bs 3=g1_3 at *
 have k1_3_0:=Nat.lt_of_lt_of_le q0 h3
 have k1_3_1:=Nat.lt_of_lt_of_le q1 h3
 have k1_3_2:=Nat.lt_of_lt_of_le q2 h3
 have k1_3_3:=Nat.lt_of_lt_of_le q3 h3
 have k1_3_4:=Nat.lt_of_lt_of_le q4 h3
 clear F qT q0 q1 q2 q3 q4 h3 X3
 clear wF
 go_upto_region 2 with fail
 obtain ⟨q5,q4,q3,q2,q1,q0,qT⟩:=RR.out.r.lts
 refine wp_told [(w.heap.size,(Ar e)),(w.heap.size+1,(P9 px py pn)),(w.heap.size+1+1,(Ar l)),(w.heap.size+1+1+1,(P9 qx qy qn)),(w.heap.size+1+1+1+1,Z9),(g1_3,(P9 sx sy sn))]
  [sV (A3 0 0 0),
   sA (fun g=>.pointer (some ⟨g,0,none⟩)) 2 Z12 (T3 0 0 0),
   sS 1]
  RR.out.b (Rc (RR.out.at 5 rfl) (Rc (RR.out.at 4 rfl) (Rc (RR.out.at 3 rfl) (Rc (RR.out.at 2 rfl) (Rc (RR.out.at 1 rfl) (Rc (RR.out.at 0 rfl) RA.nil)))))) (StOk.of [] rfl StM.nil)
  (Obs.val (fun a' w' E=>ob_build 103 _ rfl (pm0) (bd103_ w'))
  (Obs.alloc (fun a' w' E=>ob_alloc (t:=103) (by simp[opAt,execOp,go_sem]))
  (Obs.sta rfl (fun a' w' g E ha hr=>ob_sa 103 (.tmp 10) (.tmp 17) (ha 10 (by kernel_rfl)) (E.n (A3 0 0 0) 17 0) hr)
  Obs.nil))) ?_
 intro bs w2 aZ haZ F
 have eZ:aZ=(⟨#[(U e),(A9 px py pn),(U l),(A9 qx qy qn),(PT w.heap.size),(PT (w.heap.size+1)),(PT (w.heap.size+1+1)),(PT (w.heap.size+1+1+1)),(PT (w.heap.size+1+1+1+1)),(PT g1_3),(PT ((bs 1))),ud,ud,ud,(A9 px py pn),(A9 qx qy qn),(A9 sx sy sn),(A3 0 0 0),ud,ud,ud,ud,ud,ud,ud,ud,ud,ud,ud,ud,ud,ud,ud,ud,ud,ud,ud,ud,ud,ud,ud,ud,ud,ud,ud,ud,ud,ud,ud,ud,ud,ud,ud,ud,ud,ud,ud],[]⟩:Act):=haZ.trans (by kernel_rfl)
 subst eZ
 clear haZ
 obtain ⟨h1,X1⟩:=F.al 1 rfl rfl
 replace RR:Hid (RB w w2 [((bs 1),(T3 0 0 0)),(g1_3,(P9 sx sy sn)),(w.heap.size+1+1+1+1,Z9),(w.heap.size+1+1+1,(P9 qx qy qn)),(w.heap.size+1+1,(Ar l)),(w.heap.size+1,(P9 px py pn)),(w.heap.size,(Ar e))]):=⟨F.bw,(Rc X1 (Rc (F.row 5 rfl) (Rc (F.row 4 rfl) (Rc (F.row 3 rfl) (Rc (F.row 2 rfl) (Rc (F.row 1 rfl) (Rc (F.row 0 rfl) RA.nil)))))))⟩
 generalize bs 1=g2_1 at *
 have k2_1_0:=Nat.lt_of_lt_of_le q0 h1
 have k2_1_1:=Nat.lt_of_lt_of_le q1 h1
 have k2_1_2:=Nat.lt_of_lt_of_le q2 h1
 have k2_1_3:=Nat.lt_of_lt_of_le q3 h1
 have k2_1_4:=Nat.lt_of_lt_of_le q4 h1
 have k2_1_5:=Nat.lt_of_lt_of_le q5 h1
 clear F qT q0 q1 q2 q3 q4 q5 h1 X1
 go_upto_region 3 with fail
 obtain ⟨q6,q5,q4,q3,q2,q1,q0,qT⟩:=RR.out.r.lts
 refine wp_told [(w.heap.size,(Ar e)),(w.heap.size+1,(P9 px py pn)),(w.heap.size+1+1,(Ar l)),(w.heap.size+1+1+1,(P9 qx qy qn)),(w.heap.size+1+1+1+1,Z9),(g1_3,(P9 sx sy sn)),(g2_1,(T3 0 0 0))]
  [sV (U e),
   sV (.int .i64 na),
   sV (U l),
   sV (.int .i64 nb),
   sV (.int .i64 n),
   sV (.int .i64 ((n:Int)-1)),
   sV (.int .i64 ((n:Int)-1))]
  RR.out.b (Rc (RR.out.at 6 rfl) (Rc (RR.out.at 5 rfl) (Rc (RR.out.at 4 rfl) (Rc (RR.out.at 3 rfl) (Rc (RR.out.at 2 rfl) (Rc (RR.out.at 1 rfl) (Rc (RR.out.at 0 rfl) RA.nil))))))) (StOk.of [] rfl StM.nil)
  (Obs.val (fun a' w' E=>ob_la 24 (.tmp 4) (E.od 4) (E.row (g:=w.heap.size) (c:=(Ar e)) 0 rfl) Tryz.underlying24)
  (Obs.val (fun a' w' E=>ob_fcall 79 _ _ rfl (am1 (E.n (U e) 18 0)) (fc79 _ _) (hna.out w'))
  (Obs.val (fun a' w' E=>ob_la 24 (.tmp 6) (E.od 6) (E.row (g:=w.heap.size+1+1) (c:=(Ar l)) 2 rfl) Tryz.underlying24)
  (Obs.val (fun a' w' E=>ob_fcall 79 _ _ rfl (am1 (E.n (U l) 20 2)) (fc79 _ _) (hnb.out w'))
  (Obs.val (fun a' w' E=>ob_val (by simp[opAt,execOp,go_sem,ev (show a'.eval (.tmp 19)=(.int .i64 na) from (E.n (.int .i64 na) 19 1)),ev (show a'.eval (.tmp 21)=(.int .i64 nb) from (E.n (.int .i64 nb) 21 3)),hmax]))
  (Obs.val (fun a' w' E=>ob_binOp .sub 3 (.tmp 22) (.const (.int .i64 1)) 3 rfl (E.n (.int .i64 n) 22 4) (evc a' (.int .i64 1)) (by simp[go_sem,hw]))
  (Obs.val (fun a' w' E=>ob_assign (.tmp 23) rfl (E.n (.int .i64 ((n:Int)-1)) 23 5))
  Obs.nil))))))) ?_
 intro bs w3 aZ haZ F
 have eZ:aZ=(⟨#[(U e),(A9 px py pn),(U l),(A9 qx qy qn),(PT w.heap.size),(PT (w.heap.size+1)),(PT (w.heap.size+1+1)),(PT (w.heap.size+1+1+1)),(PT (w.heap.size+1+1+1+1)),(PT g1_3),(PT g2_1),(.int .i64 ((n:Int)-1)),ud,ud,(A9 px py pn),(A9 qx qy qn),(A9 sx sy sn),(A3 0 0 0),(U e),(.int .i64 na),(U l),(.int .i64 nb),(.int .i64 n),(.int .i64 ((n:Int)-1)),ud,ud,ud,ud,ud,ud,ud,ud,ud,ud,ud,ud,ud,ud,ud,ud,ud,ud,ud,ud,ud,ud,ud,ud,ud,ud,ud,ud,ud,ud,ud,ud,ud],[]⟩:Act):=haZ.trans (by kernel_rfl)
 subst eZ
 clear haZ
 replace RR:Hid (RB w w3 [(g2_1,(T3 0 0 0)),(g1_3,(P9 sx sy sn)),(w.heap.size+1+1+1+1,Z9),(w.heap.size+1+1+1,(P9 qx qy qn)),(w.heap.size+1+1,(Ar l)),(w.heap.size+1,(P9 px py pn)),(w.heap.size,(Ar e))]):=⟨F.bw,(Rc (F.row 6 rfl) (Rc (F.row 5 rfl) (Rc (F.row 4 rfl) (Rc (F.row 3 rfl) (Rc (F.row 2 rfl) (Rc (F.row 1 rfl) (Rc (F.row 0 rfl) RA.nil)))))))⟩
 clear F qT q0 q1 q2 q3 q4 q5 q6
 go_wp2
 go_loopw [11] (fun v w'=>∃ j:Nat,j≤n∧v=.int .i64 ((j:Int)-1)∧RB w w' [(g2_1,(T3 (X j) (Y j) (Z j))),(g1_3,(P9 sx sy sn)),(w.heap.size+1+1+1+1,Z9),(w.heap.size+1+1+1,(P9 qx qy qn)),(w.heap.size+1+1,(Ar l)),(w.heap.size+1,(P9 px py pn)),(w.heap.size,(Ar e))]) (fun v _=>((intOf v)+1).toNat)
 case atStart=>exact ⟨n,Nat.le_refl _,rfl,by rw[h1,h2,h3];exact RR.out⟩
 case round=>
  clear RR
  obtain ⟨j,hj,rfl,rr⟩:=hrel
  cases j with
  | succ i=>
   have RR:Hid (RB w wr [(g2_1,(T3 (X (i+1)) (Y (i+1)) (Z (i+1)))),(g1_3,(P9 sx sy sn)),(w.heap.size+1+1+1+1,Z9),(w.heap.size+1+1+1,(P9 qx qy qn)),(w.heap.size+1+1,(Ar l)),(w.heap.size+1,(P9 px py pn)),(w.heap.size,(Ar e))]):=rr
   clear rr
   rw[show (((i+1:Nat):Int)-1)=(i:Int) by omega]
   have hlt:i<n:=by omega
   have hd:(i:Int)<256:=by omega
   have hd2:(0:Int)≤(i:Int):=by omega
   go_upto_region 6 with fail
   obtain ⟨q6,q5,q4,q3,q2,q1,q0,qT⟩:=RR.out.r.lts
   refine wp_told [(w.heap.size,(Ar e)),(w.heap.size+1,(P9 px py pn)),(w.heap.size+1+1,(Ar l)),(w.heap.size+1+1+1,(P9 qx qy qn)),(w.heap.size+1+1+1+1,Z9),(g1_3,(P9 sx sy sn))]
    [sV (A3 (X (i+1)) (Y (i+1)) (Z (i+1))),
     sV (A3 (D1 i) (D2 i) (D3 i)),
     sK (g2_1) (T3 (X (i+1)) (Y (i+1)) (Z (i+1))) (T3 (D1 i) (D2 i) (D3 i))]
    RR.out.b (Rc (RR.out.at 6 rfl) (Rc (RR.out.at 5 rfl) (Rc (RR.out.at 4 rfl) (Rc (RR.out.at 3 rfl) (Rc (RR.out.at 2 rfl) (Rc (RR.out.at 1 rfl) RA.nil)))))) (StOk.of [(g2_1,(T3 (X (i+1)) (Y (i+1)) (Z (i+1))))] rfl (StM.cons (RR.out.at 0 rfl) (by omega) (Ap.cons (by omega) (Ap.cons (by omega) (Ap.cons (by omega) (Ap.cons (by omega) (Ap.cons (by omega) (Ap.cons (by omega) Ap.nil)))))) Ap.nil StM.nil))
    (Obs.val (fun a' w' E=>ob_la 103 (.tmp 10) (E.od 10) (E.skb (g:=g2_1) (i:=(T3 (X (i+1)) (Y (i+1)) (Z (i+1)))) (e:=(T3 (D1 i) (D2 i) (D3 i))) 2 rfl (by kernel_rfl)) Tryz.underlying103)
    (Obs.val (fun a' w' E=>ob_fcall 80 _ _ rfl (am1 (E.n (A3 (X (i+1)) (Y (i+1)) (Z (i+1))) 28 0)) (fc80 _ _) ((hS i hlt).out w'))
    (Obs.stk (fun a' w' E hr=>ob_sa 103 (.tmp 10) (.tmp 29) (E.od 10) (E.n (A3 (D1 i) (D2 i) (D3 i)) 29 1) hr)
    Obs.nil))) ?_
   intro bs w4 aZ haZ F
   have eZ:aZ=(⟨#[(U e),(A9 px py pn),(U l),(A9 qx qy qn),(PT w.heap.size),(PT (w.heap.size+1)),(PT (w.heap.size+1+1)),(PT (w.heap.size+1+1+1)),(PT (w.heap.size+1+1+1+1)),(PT g1_3),(PT g2_1),(.int .i64 i),u12,u13,(A9 px py pn),(A9 qx qy qn),(A9 sx sy sn),(A3 0 0 0),(U e),(.int .i64 na),(U l),(.int .i64 nb),(.int .i64 n),(.int .i64 ((n:Int)-1)),(.int .i64 i),(.bool true),u26,u27,(A3 (X (i+1)) (Y (i+1)) (Z (i+1))),(A3 (D1 i) (D2 i) (D3 i)),u30,u31,u32,u33,u34,u35,u36,u37,u38,u39,u40,u41,u42,u43,u44,u45,u46,u47,u48,u49,u50,u51,u52,u53,u54,ud,ud],[]⟩:Act):=haZ.trans (by kernel_rfl)
   subst eZ
   clear haZ
   replace RR:Hid (RB w w4 [(g2_1,(T3 (D1 i) (D2 i) (D3 i))),(g1_3,(P9 sx sy sn)),(w.heap.size+1+1+1+1,Z9),(w.heap.size+1+1+1,(P9 qx qy qn)),(w.heap.size+1+1,(Ar l)),(w.heap.size+1,(P9 px py pn)),(w.heap.size,(Ar e))]):=⟨F.bw,(Rc (F.sk 2 rfl) (Rc (F.row 5 rfl) (Rc (F.row 4 rfl) (Rc (F.row 3 rfl) (Rc (F.row 2 rfl) (Rc (F.row 1 rfl) (Rc (F.row 0 rfl) RA.nil)))))))⟩
   clear F qT q0 q1 q2 q3 q4 q5 q6
   go_upto_region 7 with fail
   obtain ⟨q6,q5,q4,q3,q2,q1,q0,qT⟩:=RR.out.r.lts
   refine wp_told [(w.heap.size,(Ar e)),(w.heap.size+1,(P9 px py pn)),(w.heap.size+1+1,(Ar l)),(w.heap.size+1+1+1,(P9 qx qy qn)),(w.heap.size+1+1+1+1,Z9),(g1_3,(P9 sx sy sn)),(g2_1,(T3 (D1 i) (D2 i) (D3 i)))]
    [sV (U e),
     sV (.int .i64 i),
     sV (B (bu i)),
     sV (B (bu i))]
    RR.out.b (Rc (RR.out.at 6 rfl) (Rc (RR.out.at 5 rfl) (Rc (RR.out.at 4 rfl) (Rc (RR.out.at 3 rfl) (Rc (RR.out.at 2 rfl) (Rc (RR.out.at 1 rfl) (Rc (RR.out.at 0 rfl) RA.nil))))))) (StOk.of [] rfl StM.nil)
    (Obs.val (fun a' w' E=>ob_la 24 (.tmp 4) (E.od 4) (E.row (g:=w.heap.size) (c:=(Ar e)) 0 rfl) Tryz.underlying24)
    (Obs.val (fun a' w' E=>ob_move (.tmp 11) rfl (E.od 11))
    (Obs.val (fun a' w' E=>ob_fcall 81 _ _ rfl (am2 (E.n (U e) 30 0) (E.n (.int .i64 i) 31 1)) (fc81 _ _) ((hbu i hlt).out w'))
    (Obs.val (fun a' w' E=>ob_assign (.tmp 32) rfl (E.n (B (bu i)) 32 2))
    Obs.nil)))) ?_
   intro bs w5 aZ haZ F
   have eZ:aZ=(⟨#[(U e),(A9 px py pn),(U l),(A9 qx qy qn),(PT w.heap.size),(PT (w.heap.size+1)),(PT (w.heap.size+1+1)),(PT (w.heap.size+1+1+1)),(PT (w.heap.size+1+1+1+1)),(PT g1_3),(PT g2_1),(.int .i64 i),(B (bu i)),u13,(A9 px py pn),(A9 qx qy qn),(A9 sx sy sn),(A3 0 0 0),(U e),(.int .i64 na),(U l),(.int .i64 nb),(.int .i64 n),(.int .i64 ((n:Int)-1)),(.int .i64 i),(.bool true),u26,u27,(A3 (X (i+1)) (Y (i+1)) (Z (i+1))),(A3 (D1 i) (D2 i) (D3 i)),(U e),(.int .i64 i),(B (bu i)),u33,u34,u35,u36,u37,u38,u39,u40,u41,u42,u43,u44,u45,u46,u47,u48,u49,u50,u51,u52,u53,u54,ud,ud],[]⟩:Act):=haZ.trans (by kernel_rfl)
   subst eZ
   clear haZ
   replace RR:Hid (RB w w5 [(g2_1,(T3 (D1 i) (D2 i) (D3 i))),(g1_3,(P9 sx sy sn)),(w.heap.size+1+1+1+1,Z9),(w.heap.size+1+1+1,(P9 qx qy qn)),(w.heap.size+1+1,(Ar l)),(w.heap.size+1,(P9 px py pn)),(w.heap.size,(Ar e))]):=⟨F.bw,(Rc (F.row 6 rfl) (Rc (F.row 5 rfl) (Rc (F.row 4 rfl) (Rc (F.row 3 rfl) (Rc (F.row 2 rfl) (Rc (F.row 1 rfl) (Rc (F.row 0 rfl) RA.nil)))))))⟩
   clear F qT q0 q1 q2 q3 q4 q5 q6
   go_upto_region 8 with fail
   obtain ⟨q6,q5,q4,q3,q2,q1,q0,qT⟩:=RR.out.r.lts
   refine wp_told [(w.heap.size,(Ar e)),(w.heap.size+1,(P9 px py pn)),(w.heap.size+1+1,(Ar l)),(w.heap.size+1+1+1,(P9 qx qy qn)),(w.heap.size+1+1+1+1,Z9),(g1_3,(P9 sx sy sn)),(g2_1,(T3 (D1 i) (D2 i) (D3 i)))]
    [sV (U l),
     sV (.int .i64 i),
     sV (B (bv i)),
     sV (B (bv i))]
    RR.out.b (Rc (RR.out.at 6 rfl) (Rc (RR.out.at 5 rfl) (Rc (RR.out.at 4 rfl) (Rc (RR.out.at 3 rfl) (Rc (RR.out.at 2 rfl) (Rc (RR.out.at 1 rfl) (Rc (RR.out.at 0 rfl) RA.nil))))))) (StOk.of [] rfl StM.nil)
    (Obs.val (fun a' w' E=>ob_la 24 (.tmp 6) (E.od 6) (E.row (g:=w.heap.size+1+1) (c:=(Ar l)) 2 rfl) Tryz.underlying24)
    (Obs.val (fun a' w' E=>ob_move (.tmp 11) rfl (E.od 11))
    (Obs.val (fun a' w' E=>ob_fcall 81 _ _ rfl (am2 (E.n (U l) 33 0) (E.n (.int .i64 i) 34 1)) (fc81 _ _) ((hbv i hlt).out w'))
    (Obs.val (fun a' w' E=>ob_assign (.tmp 35) rfl (E.n (B (bv i)) 35 2))
    Obs.nil)))) ?_
   intro bs w6 aZ haZ F
   have eZ:aZ=(⟨#[(U e),(A9 px py pn),(U l),(A9 qx qy qn),(PT w.heap.size),(PT (w.heap.size+1)),(PT (w.heap.size+1+1)),(PT (w.heap.size+1+1+1)),(PT (w.heap.size+1+1+1+1)),(PT g1_3),(PT g2_1),(.int .i64 i),(B (bu i)),(B (bv i)),(A9 px py pn),(A9 qx qy qn),(A9 sx sy sn),(A3 0 0 0),(U e),(.int .i64 na),(U l),(.int .i64 nb),(.int .i64 n),(.int .i64 ((n:Int)-1)),(.int .i64 i),(.bool true),u26,u27,(A3 (X (i+1)) (Y (i+1)) (Z (i+1))),(A3 (D1 i) (D2 i) (D3 i)),(U e),(.int .i64 i),(B (bu i)),(U l),(.int .i64 i),(B (bv i)),u36,u37,u38,u39,u40,u41,u42,u43,u44,u45,u46,u47,u48,u49,u50,u51,u52,u53,u54,ud,ud],[]⟩:Act):=haZ.trans (by kernel_rfl)
   subst eZ
   clear haZ
   replace RR:Hid (RB w w6 [(g2_1,(T3 (D1 i) (D2 i) (D3 i))),(g1_3,(P9 sx sy sn)),(w.heap.size+1+1+1+1,Z9),(w.heap.size+1+1+1,(P9 qx qy qn)),(w.heap.size+1+1,(Ar l)),(w.heap.size+1,(P9 px py pn)),(w.heap.size,(Ar e))]):=⟨F.bw,(Rc (F.row 6 rfl) (Rc (F.row 5 rfl) (Rc (F.row 4 rfl) (Rc (F.row 3 rfl) (Rc (F.row 2 rfl) (Rc (F.row 1 rfl) (Rc (F.row 0 rfl) RA.nil)))))))⟩
   clear F qT q0 q1 q2 q3 q4 q5 q6
   cases hbu2:bt i with
   | true=>
    have hqu:(((bu i:Nat):Int) == 1)=true:=(hu i).trans hbu2
    cases hbv2:ct i with
    | true=>
     have hqv:(((bv i:Nat):Int) == 1)=true:=(hv i).trans hbv2
     go_upto_region 9 with fail
     obtain ⟨q6,q5,q4,q3,q2,q1,q0,qT⟩:=RR.out.r.lts
     refine wp_told [(w.heap.size,(Ar e)),(w.heap.size+1,(P9 px py pn)),(w.heap.size+1+1,(Ar l)),(w.heap.size+1+1+1,(P9 qx qy qn)),(w.heap.size+1+1+1+1,Z9),(g1_3,(P9 sx sy sn)),(g2_1,(T3 (D1 i) (D2 i) (D3 i)))]
      [sV (B (bu i)),
       sV (.bool true),
       sV (.bool true),
       sV (B (bv i)),
       sV (.bool true),
       sV (.bool true)]
      RR.out.b (Rc (RR.out.at 6 rfl) (Rc (RR.out.at 5 rfl) (Rc (RR.out.at 4 rfl) (Rc (RR.out.at 3 rfl) (Rc (RR.out.at 2 rfl) (Rc (RR.out.at 1 rfl) (Rc (RR.out.at 0 rfl) RA.nil))))))) (StOk.of [] rfl StM.nil)
      (Obs.val (fun a' w' E=>ob_move (.tmp 12) rfl (E.od 12))
      (Obs.val (fun a' w' E=>ob_binOp .eql 22 (.tmp 36) (.const (.int .u64 1)) 22 rfl (E.n (B (bu i)) 36 0) (evc a' (.int .u64 1)) (by simp[go_sem,hqu]))
      (Obs.val (fun a' w' E=>ob_move (.tmp 37) rfl (E.n (.bool true) 37 1))
      (Obs.gval rfl rfl (fun a' w' E=>E.new 38 2 (by kernel_rfl) rfl) (fun a' w' E=>ob_move (.tmp 13) rfl (E.od 13))
      (Obs.gval rfl rfl (fun a' w' E=>E.new 38 2 (by kernel_rfl) rfl) (fun a' w' E=>ob_binOp .eql 22 (.tmp 39) (.const (.int .u64 1)) 22 rfl (E.n (B (bv i)) 39 3) (evc a' (.int .u64 1)) (by simp[go_sem,hqv]))
      (Obs.val (fun a' w' E=>ob_pick (.tmp 38) (.tmp 40) (.const (.bool false)) rfl (E.n (.bool true) 38 2) (E.n (.bool true) 40 4))
      Obs.nil)))))) ?_
     intro bs w7 aZ haZ F
     have eZ:aZ=(⟨#[(U e),(A9 px py pn),(U l),(A9 qx qy qn),(PT w.heap.size),(PT (w.heap.size+1)),(PT (w.heap.size+1+1)),(PT (w.heap.size+1+1+1)),(PT (w.heap.size+1+1+1+1)),(PT g1_3),(PT g2_1),(.int .i64 i),(B (bu i)),(B (bv i)),(A9 px py pn),(A9 qx qy qn),(A9 sx sy sn),(A3 0 0 0),(U e),(.int .i64 na),(U l),(.int .i64 nb),(.int .i64 n),(.int .i64 ((n:Int)-1)),(.int .i64 i),(.bool true),u26,u27,(A3 (X (i+1)) (Y (i+1)) (Z (i+1))),(A3 (D1 i) (D2 i) (D3 i)),(U e),(.int .i64 i),(B (bu i)),(U l),(.int .i64 i),(B (bv i)),(B (bu i)),(.bool true),(.bool true),(B (bv i)),(.bool true),(.bool true),u42,u43,u44,u45,u46,u47,u48,u49,u50,u51,u52,u53,u54,ud,ud],[]⟩:Act):=haZ.trans (by kernel_rfl)
     subst eZ
     clear haZ
     replace RR:Hid (RB w w7 [(g2_1,(T3 (D1 i) (D2 i) (D3 i))),(g1_3,(P9 sx sy sn)),(w.heap.size+1+1+1+1,Z9),(w.heap.size+1+1+1,(P9 qx qy qn)),(w.heap.size+1+1,(Ar l)),(w.heap.size+1,(P9 px py pn)),(w.heap.size,(Ar e))]):=⟨F.bw,(Rc (F.row 6 rfl) (Rc (F.row 5 rfl) (Rc (F.row 4 rfl) (Rc (F.row 3 rfl) (Rc (F.row 2 rfl) (Rc (F.row 1 rfl) (Rc (F.row 0 rfl) RA.nil)))))))⟩
     clear F qT q0 q1 q2 q3 q4 q5 q6
     go_upto_region 10 with fail
     obtain ⟨q6,q5,q4,q3,q2,q1,q0,qT⟩:=RR.out.r.lts
     refine wp_told [(w.heap.size,(Ar e)),(w.heap.size+1,(P9 px py pn)),(w.heap.size+1+1,(Ar l)),(w.heap.size+1+1+1,(P9 qx qy qn)),(w.heap.size+1+1+1+1,Z9),(g1_3,(P9 sx sy sn))]
      [sV (A3 (D1 i) (D2 i) (D3 i)),
       sV (A9 sx sy sn),
       sV (A3 (X i) (Y i) (Z i)),
       sK (g2_1) (T3 (D1 i) (D2 i) (D3 i)) (T3 (X i) (Y i) (Z i))]
      RR.out.b (Rc (RR.out.at 6 rfl) (Rc (RR.out.at 5 rfl) (Rc (RR.out.at 4 rfl) (Rc (RR.out.at 3 rfl) (Rc (RR.out.at 2 rfl) (Rc (RR.out.at 1 rfl) RA.nil)))))) (StOk.of [(g2_1,(T3 (D1 i) (D2 i) (D3 i)))] rfl (StM.cons (RR.out.at 0 rfl) (by omega) (Ap.cons (by omega) (Ap.cons (by omega) (Ap.cons (by omega) (Ap.cons (by omega) (Ap.cons (by omega) (Ap.cons (by omega) Ap.nil)))))) Ap.nil StM.nil))
      (Obs.val (fun a' w' E=>ob_la 103 (.tmp 10) (E.od 10) (E.skb (g:=g2_1) (i:=(T3 (D1 i) (D2 i) (D3 i))) (e:=(T3 (X i) (Y i) (Z i))) 3 rfl (by kernel_rfl)) Tryz.underlying103)
      (Obs.val (fun a' w' E=>ob_la 38 (.tmp 9) (E.od 9) (E.row (g:=g1_3) (c:=(P9 sx sy sn)) 5 rfl) Tryz.underlying38)
      (Obs.val (fun a' w' E=>ob_fcall 82 _ _ rfl (am2 (E.n (A3 (D1 i) (D2 i) (D3 i)) 42 0) (E.n (A9 sx sy sn) 43 1)) (fc82 _ _) ((hTT i hlt hbu2 hbv2).out w'))
      (Obs.stk (fun a' w' E hr=>ob_sa 103 (.tmp 10) (.tmp 44) (E.od 10) (E.n (A3 (X i) (Y i) (Z i)) 44 2) hr)
      Obs.nil)))) ?_
     intro bs w8 aZ haZ F
     have eZ:aZ=(⟨#[(U e),(A9 px py pn),(U l),(A9 qx qy qn),(PT w.heap.size),(PT (w.heap.size+1)),(PT (w.heap.size+1+1)),(PT (w.heap.size+1+1+1)),(PT (w.heap.size+1+1+1+1)),(PT g1_3),(PT g2_1),(.int .i64 i),(B (bu i)),(B (bv i)),(A9 px py pn),(A9 qx qy qn),(A9 sx sy sn),(A3 0 0 0),(U e),(.int .i64 na),(U l),(.int .i64 nb),(.int .i64 n),(.int .i64 ((n:Int)-1)),(.int .i64 i),(.bool true),u26,u27,(A3 (X (i+1)) (Y (i+1)) (Z (i+1))),(A3 (D1 i) (D2 i) (D3 i)),(U e),(.int .i64 i),(B (bu i)),(U l),(.int .i64 i),(B (bv i)),(B (bu i)),(.bool true),(.bool true),(B (bv i)),(.bool true),(.bool true),(A3 (D1 i) (D2 i) (D3 i)),(A9 sx sy sn),(A3 (X i) (Y i) (Z i)),u45,u46,u47,u48,u49,u50,u51,u52,u53,u54,ud,ud],[]⟩:Act):=haZ.trans (by kernel_rfl)
     subst eZ
     clear haZ
     replace RR:Hid (RB w w8 [(g2_1,(T3 (X i) (Y i) (Z i))),(g1_3,(P9 sx sy sn)),(w.heap.size+1+1+1+1,Z9),(w.heap.size+1+1+1,(P9 qx qy qn)),(w.heap.size+1+1,(Ar l)),(w.heap.size+1,(P9 px py pn)),(w.heap.size,(Ar e))]):=⟨F.bw,(Rc (F.sk 3 rfl) (Rc (F.row 5 rfl) (Rc (F.row 4 rfl) (Rc (F.row 3 rfl) (Rc (F.row 2 rfl) (Rc (F.row 1 rfl) (Rc (F.row 0 rfl) RA.nil)))))))⟩
     clear F qT q0 q1 q2 q3 q4 q5 q6
     go_wp2
     go_roundw
     case rel=>exact ⟨i,by omega,by go_num,RR.out⟩
     case measure=>first | (simp[intOf];done) | (simp[intOf];omega)
    | false=>
     have hqv:(((bv i:Nat):Int) == 1)=false:=(hv i).trans hbv2
     go_upto_region 9 with fail
     obtain ⟨q6,q5,q4,q3,q2,q1,q0,qT⟩:=RR.out.r.lts
     refine wp_told [(w.heap.size,(Ar e)),(w.heap.size+1,(P9 px py pn)),(w.heap.size+1+1,(Ar l)),(w.heap.size+1+1+1,(P9 qx qy qn)),(w.heap.size+1+1+1+1,Z9),(g1_3,(P9 sx sy sn)),(g2_1,(T3 (D1 i) (D2 i) (D3 i)))]
      [sV (B (bu i)),
       sV (.bool true),
       sV (.bool true),
       sV (B (bv i)),
       sV (.bool false),
       sV (.bool false)]
      RR.out.b (Rc (RR.out.at 6 rfl) (Rc (RR.out.at 5 rfl) (Rc (RR.out.at 4 rfl) (Rc (RR.out.at 3 rfl) (Rc (RR.out.at 2 rfl) (Rc (RR.out.at 1 rfl) (Rc (RR.out.at 0 rfl) RA.nil))))))) (StOk.of [] rfl StM.nil)
      (Obs.val (fun a' w' E=>ob_move (.tmp 12) rfl (E.od 12))
      (Obs.val (fun a' w' E=>ob_binOp .eql 22 (.tmp 36) (.const (.int .u64 1)) 22 rfl (E.n (B (bu i)) 36 0) (evc a' (.int .u64 1)) (by simp[go_sem,hqu]))
      (Obs.val (fun a' w' E=>ob_move (.tmp 37) rfl (E.n (.bool true) 37 1))
      (Obs.gval rfl rfl (fun a' w' E=>E.new 38 2 (by kernel_rfl) rfl) (fun a' w' E=>ob_move (.tmp 13) rfl (E.od 13))
      (Obs.gval rfl rfl (fun a' w' E=>E.new 38 2 (by kernel_rfl) rfl) (fun a' w' E=>ob_binOp .eql 22 (.tmp 39) (.const (.int .u64 1)) 22 rfl (E.n (B (bv i)) 39 3) (evc a' (.int .u64 1)) (by simp[go_sem,hqv]))
      (Obs.val (fun a' w' E=>ob_pick (.tmp 38) (.tmp 40) (.const (.bool false)) rfl (E.n (.bool true) 38 2) (E.n (.bool false) 40 4))
      Obs.nil)))))) ?_
     intro bs w7 aZ haZ F
     have eZ:aZ=(⟨#[(U e),(A9 px py pn),(U l),(A9 qx qy qn),(PT w.heap.size),(PT (w.heap.size+1)),(PT (w.heap.size+1+1)),(PT (w.heap.size+1+1+1)),(PT (w.heap.size+1+1+1+1)),(PT g1_3),(PT g2_1),(.int .i64 i),(B (bu i)),(B (bv i)),(A9 px py pn),(A9 qx qy qn),(A9 sx sy sn),(A3 0 0 0),(U e),(.int .i64 na),(U l),(.int .i64 nb),(.int .i64 n),(.int .i64 ((n:Int)-1)),(.int .i64 i),(.bool true),u26,u27,(A3 (X (i+1)) (Y (i+1)) (Z (i+1))),(A3 (D1 i) (D2 i) (D3 i)),(U e),(.int .i64 i),(B (bu i)),(U l),(.int .i64 i),(B (bv i)),(B (bu i)),(.bool true),(.bool true),(B (bv i)),(.bool false),(.bool false),u42,u43,u44,u45,u46,u47,u48,u49,u50,u51,u52,u53,u54,ud,ud],[]⟩:Act):=haZ.trans (by kernel_rfl)
     subst eZ
     clear haZ
     replace RR:Hid (RB w w7 [(g2_1,(T3 (D1 i) (D2 i) (D3 i))),(g1_3,(P9 sx sy sn)),(w.heap.size+1+1+1+1,Z9),(w.heap.size+1+1+1,(P9 qx qy qn)),(w.heap.size+1+1,(Ar l)),(w.heap.size+1,(P9 px py pn)),(w.heap.size,(Ar e))]):=⟨F.bw,(Rc (F.row 6 rfl) (Rc (F.row 5 rfl) (Rc (F.row 4 rfl) (Rc (F.row 3 rfl) (Rc (F.row 2 rfl) (Rc (F.row 1 rfl) (Rc (F.row 0 rfl) RA.nil)))))))⟩
     clear F qT q0 q1 q2 q3 q4 q5 q6
     go_upto_region 11 with fail
     obtain ⟨q6,q5,q4,q3,q2,q1,q0,qT⟩:=RR.out.r.lts
     refine wp_told [(w.heap.size,(Ar e)),(w.heap.size+1,(P9 px py pn)),(w.heap.size+1+1,(Ar l)),(w.heap.size+1+1+1,(P9 qx qy qn)),(w.heap.size+1+1+1+1,Z9),(g1_3,(P9 sx sy sn)),(g2_1,(T3 (D1 i) (D2 i) (D3 i)))]
      [sV (B (bu i)),
       sV (.bool true)]
      RR.out.b (Rc (RR.out.at 6 rfl) (Rc (RR.out.at 5 rfl) (Rc (RR.out.at 4 rfl) (Rc (RR.out.at 3 rfl) (Rc (RR.out.at 2 rfl) (Rc (RR.out.at 1 rfl) (Rc (RR.out.at 0 rfl) RA.nil))))))) (StOk.of [] rfl StM.nil)
      (Obs.val (fun a' w' E=>ob_move (.tmp 12) rfl (E.od 12))
      (Obs.val (fun a' w' E=>ob_binOp .eql 22 (.tmp 45) (.const (.int .u64 1)) 22 rfl (E.n (B (bu i)) 45 0) (evc a' (.int .u64 1)) (by simp[go_sem,hqu]))
      Obs.nil)) ?_
     intro bs w8 aZ haZ F
     have eZ:aZ=(⟨#[(U e),(A9 px py pn),(U l),(A9 qx qy qn),(PT w.heap.size),(PT (w.heap.size+1)),(PT (w.heap.size+1+1)),(PT (w.heap.size+1+1+1)),(PT (w.heap.size+1+1+1+1)),(PT g1_3),(PT g2_1),(.int .i64 i),(B (bu i)),(B (bv i)),(A9 px py pn),(A9 qx qy qn),(A9 sx sy sn),(A3 0 0 0),(U e),(.int .i64 na),(U l),(.int .i64 nb),(.int .i64 n),(.int .i64 ((n:Int)-1)),(.int .i64 i),(.bool true),u26,u27,(A3 (X (i+1)) (Y (i+1)) (Z (i+1))),(A3 (D1 i) (D2 i) (D3 i)),(U e),(.int .i64 i),(B (bu i)),(U l),(.int .i64 i),(B (bv i)),(B (bu i)),(.bool true),(.bool true),(B (bv i)),(.bool false),(.bool false),u42,u43,u44,(B (bu i)),(.bool true),u47,u48,u49,u50,u51,u52,u53,u54,ud,ud],[]⟩:Act):=haZ.trans (by kernel_rfl)
     subst eZ
     clear haZ
     replace RR:Hid (RB w w8 [(g2_1,(T3 (D1 i) (D2 i) (D3 i))),(g1_3,(P9 sx sy sn)),(w.heap.size+1+1+1+1,Z9),(w.heap.size+1+1+1,(P9 qx qy qn)),(w.heap.size+1+1,(Ar l)),(w.heap.size+1,(P9 px py pn)),(w.heap.size,(Ar e))]):=⟨F.bw,(Rc (F.row 6 rfl) (Rc (F.row 5 rfl) (Rc (F.row 4 rfl) (Rc (F.row 3 rfl) (Rc (F.row 2 rfl) (Rc (F.row 1 rfl) (Rc (F.row 0 rfl) RA.nil)))))))⟩
     clear F qT q0 q1 q2 q3 q4 q5 q6
     go_upto_region 12 with fail
     obtain ⟨q6,q5,q4,q3,q2,q1,q0,qT⟩:=RR.out.r.lts
     refine wp_told [(w.heap.size,(Ar e)),(w.heap.size+1,(P9 px py pn)),(w.heap.size+1+1,(Ar l)),(w.heap.size+1+1+1,(P9 qx qy qn)),(w.heap.size+1+1+1+1,Z9),(g1_3,(P9 sx sy sn))]
      [sV (A3 (D1 i) (D2 i) (D3 i)),
       sV (A9 px py pn),
       sV (A3 (X i) (Y i) (Z i)),
       sK (g2_1) (T3 (D1 i) (D2 i) (D3 i)) (T3 (X i) (Y i) (Z i))]
      RR.out.b (Rc (RR.out.at 6 rfl) (Rc (RR.out.at 5 rfl) (Rc (RR.out.at 4 rfl) (Rc (RR.out.at 3 rfl) (Rc (RR.out.at 2 rfl) (Rc (RR.out.at 1 rfl) RA.nil)))))) (StOk.of [(g2_1,(T3 (D1 i) (D2 i) (D3 i)))] rfl (StM.cons (RR.out.at 0 rfl) (by omega) (Ap.cons (by omega) (Ap.cons (by omega) (Ap.cons (by omega) (Ap.cons (by omega) (Ap.cons (by omega) (Ap.cons (by omega) Ap.nil)))))) Ap.nil StM.nil))
      (Obs.val (fun a' w' E=>ob_la 103 (.tmp 10) (E.od 10) (E.skb (g:=g2_1) (i:=(T3 (D1 i) (D2 i) (D3 i))) (e:=(T3 (X i) (Y i) (Z i))) 3 rfl (by kernel_rfl)) Tryz.underlying103)
      (Obs.val (fun a' w' E=>ob_la 38 (.tmp 5) (E.od 5) (E.row (g:=w.heap.size+1) (c:=(P9 px py pn)) 1 rfl) Tryz.underlying38)
      (Obs.val (fun a' w' E=>ob_fcall 82 _ _ rfl (am2 (E.n (A3 (D1 i) (D2 i) (D3 i)) 47 0) (E.n (A9 px py pn) 48 1)) (fc82 _ _) ((hTF i hlt hbu2 hbv2).out w'))
      (Obs.stk (fun a' w' E hr=>ob_sa 103 (.tmp 10) (.tmp 49) (E.od 10) (E.n (A3 (X i) (Y i) (Z i)) 49 2) hr)
      Obs.nil)))) ?_
     intro bs w9 aZ haZ F
     have eZ:aZ=(⟨#[(U e),(A9 px py pn),(U l),(A9 qx qy qn),(PT w.heap.size),(PT (w.heap.size+1)),(PT (w.heap.size+1+1)),(PT (w.heap.size+1+1+1)),(PT (w.heap.size+1+1+1+1)),(PT g1_3),(PT g2_1),(.int .i64 i),(B (bu i)),(B (bv i)),(A9 px py pn),(A9 qx qy qn),(A9 sx sy sn),(A3 0 0 0),(U e),(.int .i64 na),(U l),(.int .i64 nb),(.int .i64 n),(.int .i64 ((n:Int)-1)),(.int .i64 i),(.bool true),u26,u27,(A3 (X (i+1)) (Y (i+1)) (Z (i+1))),(A3 (D1 i) (D2 i) (D3 i)),(U e),(.int .i64 i),(B (bu i)),(U l),(.int .i64 i),(B (bv i)),(B (bu i)),(.bool true),(.bool true),(B (bv i)),(.bool false),(.bool false),u42,u43,u44,(B (bu i)),(.bool true),(A3 (D1 i) (D2 i) (D3 i)),(A9 px py pn),(A3 (X i) (Y i) (Z i)),u50,u51,u52,u53,u54,ud,ud],[]⟩:Act):=haZ.trans (by kernel_rfl)
     subst eZ
     clear haZ
     replace RR:Hid (RB w w9 [(g2_1,(T3 (X i) (Y i) (Z i))),(g1_3,(P9 sx sy sn)),(w.heap.size+1+1+1+1,Z9),(w.heap.size+1+1+1,(P9 qx qy qn)),(w.heap.size+1+1,(Ar l)),(w.heap.size+1,(P9 px py pn)),(w.heap.size,(Ar e))]):=⟨F.bw,(Rc (F.sk 3 rfl) (Rc (F.row 5 rfl) (Rc (F.row 4 rfl) (Rc (F.row 3 rfl) (Rc (F.row 2 rfl) (Rc (F.row 1 rfl) (Rc (F.row 0 rfl) RA.nil)))))))⟩
     clear F qT q0 q1 q2 q3 q4 q5 q6
     go_wp2
     go_roundw
     case rel=>exact ⟨i,by omega,by go_num,RR.out⟩
     case measure=>first | (simp[intOf];done) | (simp[intOf];omega)
   | false=>
    have hqu:(((bu i:Nat):Int) == 1)=false:=(hu i).trans hbu2
    cases hbv2:ct i with
    | true=>
     have hqv:(((bv i:Nat):Int) == 1)=true:=(hv i).trans hbv2
     go_upto_region 9 with fail
     obtain ⟨q6,q5,q4,q3,q2,q1,q0,qT⟩:=RR.out.r.lts
     refine wp_told [(w.heap.size,(Ar e)),(w.heap.size+1,(P9 px py pn)),(w.heap.size+1+1,(Ar l)),(w.heap.size+1+1+1,(P9 qx qy qn)),(w.heap.size+1+1+1+1,Z9),(g1_3,(P9 sx sy sn)),(g2_1,(T3 (D1 i) (D2 i) (D3 i)))]
      [sV (B (bu i)),
       sV (.bool false),
       sV (.bool false),
       sV ud,
       sV ud,
       sV (.bool false)]
      RR.out.b (Rc (RR.out.at 6 rfl) (Rc (RR.out.at 5 rfl) (Rc (RR.out.at 4 rfl) (Rc (RR.out.at 3 rfl) (Rc (RR.out.at 2 rfl) (Rc (RR.out.at 1 rfl) (Rc (RR.out.at 0 rfl) RA.nil))))))) (StOk.of [] rfl StM.nil)
      (Obs.val (fun a' w' E=>ob_move (.tmp 12) rfl (E.od 12))
      (Obs.val (fun a' w' E=>ob_binOp .eql 22 (.tmp 36) (.const (.int .u64 1)) 22 rfl (E.n (B (bu i)) 36 0) (evc a' (.int .u64 1)) (by simp[go_sem,hqu]))
      (Obs.val (fun a' w' E=>ob_move (.tmp 37) rfl (E.n (.bool false) 37 1))
      (Obs.skip rfl rfl (fun a' w' E=>E.new 38 2 (by kernel_rfl) rfl) (by decide)
      (Obs.skip rfl rfl (fun a' w' E=>E.new 38 2 (by kernel_rfl) rfl) (by decide)
      (Obs.val (fun a' w' E=>ob_pick (.tmp 38) (.tmp 40) (.const (.bool false)) rfl (E.n (.bool false) 38 2) (evc a' (.bool false)))
      Obs.nil)))))) ?_
     intro bs w7 aZ haZ F
     have eZ:aZ=(⟨#[(U e),(A9 px py pn),(U l),(A9 qx qy qn),(PT w.heap.size),(PT (w.heap.size+1)),(PT (w.heap.size+1+1)),(PT (w.heap.size+1+1+1)),(PT (w.heap.size+1+1+1+1)),(PT g1_3),(PT g2_1),(.int .i64 i),(B (bu i)),(B (bv i)),(A9 px py pn),(A9 qx qy qn),(A9 sx sy sn),(A3 0 0 0),(U e),(.int .i64 na),(U l),(.int .i64 nb),(.int .i64 n),(.int .i64 ((n:Int)-1)),(.int .i64 i),(.bool true),u26,u27,(A3 (X (i+1)) (Y (i+1)) (Z (i+1))),(A3 (D1 i) (D2 i) (D3 i)),(U e),(.int .i64 i),(B (bu i)),(U l),(.int .i64 i),(B (bv i)),(B (bu i)),(.bool false),(.bool false),ud,ud,(.bool false),u42,u43,u44,u45,u46,u47,u48,u49,u50,u51,u52,u53,u54,ud,ud],[]⟩:Act):=haZ.trans (by kernel_rfl)
     subst eZ
     clear haZ
     replace RR:Hid (RB w w7 [(g2_1,(T3 (D1 i) (D2 i) (D3 i))),(g1_3,(P9 sx sy sn)),(w.heap.size+1+1+1+1,Z9),(w.heap.size+1+1+1,(P9 qx qy qn)),(w.heap.size+1+1,(Ar l)),(w.heap.size+1,(P9 px py pn)),(w.heap.size,(Ar e))]):=⟨F.bw,(Rc (F.row 6 rfl) (Rc (F.row 5 rfl) (Rc (F.row 4 rfl) (Rc (F.row 3 rfl) (Rc (F.row 2 rfl) (Rc (F.row 1 rfl) (Rc (F.row 0 rfl) RA.nil)))))))⟩
     clear F qT q0 q1 q2 q3 q4 q5 q6
     go_upto_region 11 with fail
     obtain ⟨q6,q5,q4,q3,q2,q1,q0,qT⟩:=RR.out.r.lts
     refine wp_told [(w.heap.size,(Ar e)),(w.heap.size+1,(P9 px py pn)),(w.heap.size+1+1,(Ar l)),(w.heap.size+1+1+1,(P9 qx qy qn)),(w.heap.size+1+1+1+1,Z9),(g1_3,(P9 sx sy sn)),(g2_1,(T3 (D1 i) (D2 i) (D3 i)))]
      [sV (B (bu i)),
       sV (.bool false)]
      RR.out.b (Rc (RR.out.at 6 rfl) (Rc (RR.out.at 5 rfl) (Rc (RR.out.at 4 rfl) (Rc (RR.out.at 3 rfl) (Rc (RR.out.at 2 rfl) (Rc (RR.out.at 1 rfl) (Rc (RR.out.at 0 rfl) RA.nil))))))) (StOk.of [] rfl StM.nil)
      (Obs.val (fun a' w' E=>ob_move (.tmp 12) rfl (E.od 12))
      (Obs.val (fun a' w' E=>ob_binOp .eql 22 (.tmp 45) (.const (.int .u64 1)) 22 rfl (E.n (B (bu i)) 45 0) (evc a' (.int .u64 1)) (by simp[go_sem,hqu]))
      Obs.nil)) ?_
     intro bs w8 aZ haZ F
     have eZ:aZ=(⟨#[(U e),(A9 px py pn),(U l),(A9 qx qy qn),(PT w.heap.size),(PT (w.heap.size+1)),(PT (w.heap.size+1+1)),(PT (w.heap.size+1+1+1)),(PT (w.heap.size+1+1+1+1)),(PT g1_3),(PT g2_1),(.int .i64 i),(B (bu i)),(B (bv i)),(A9 px py pn),(A9 qx qy qn),(A9 sx sy sn),(A3 0 0 0),(U e),(.int .i64 na),(U l),(.int .i64 nb),(.int .i64 n),(.int .i64 ((n:Int)-1)),(.int .i64 i),(.bool true),u26,u27,(A3 (X (i+1)) (Y (i+1)) (Z (i+1))),(A3 (D1 i) (D2 i) (D3 i)),(U e),(.int .i64 i),(B (bu i)),(U l),(.int .i64 i),(B (bv i)),(B (bu i)),(.bool false),(.bool false),ud,ud,(.bool false),u42,u43,u44,(B (bu i)),(.bool false),u47,u48,u49,u50,u51,u52,u53,u54,ud,ud],[]⟩:Act):=haZ.trans (by kernel_rfl)
     subst eZ
     clear haZ
     replace RR:Hid (RB w w8 [(g2_1,(T3 (D1 i) (D2 i) (D3 i))),(g1_3,(P9 sx sy sn)),(w.heap.size+1+1+1+1,Z9),(w.heap.size+1+1+1,(P9 qx qy qn)),(w.heap.size+1+1,(Ar l)),(w.heap.size+1,(P9 px py pn)),(w.heap.size,(Ar e))]):=⟨F.bw,(Rc (F.row 6 rfl) (Rc (F.row 5 rfl) (Rc (F.row 4 rfl) (Rc (F.row 3 rfl) (Rc (F.row 2 rfl) (Rc (F.row 1 rfl) (Rc (F.row 0 rfl) RA.nil)))))))⟩
     clear F qT q0 q1 q2 q3 q4 q5 q6
     go_upto_region 13 with fail
     obtain ⟨q6,q5,q4,q3,q2,q1,q0,qT⟩:=RR.out.r.lts
     refine wp_told [(w.heap.size,(Ar e)),(w.heap.size+1,(P9 px py pn)),(w.heap.size+1+1,(Ar l)),(w.heap.size+1+1+1,(P9 qx qy qn)),(w.heap.size+1+1+1+1,Z9),(g1_3,(P9 sx sy sn)),(g2_1,(T3 (D1 i) (D2 i) (D3 i)))]
      [sV (B (bv i)),
       sV (.bool true)]
      RR.out.b (Rc (RR.out.at 6 rfl) (Rc (RR.out.at 5 rfl) (Rc (RR.out.at 4 rfl) (Rc (RR.out.at 3 rfl) (Rc (RR.out.at 2 rfl) (Rc (RR.out.at 1 rfl) (Rc (RR.out.at 0 rfl) RA.nil))))))) (StOk.of [] rfl StM.nil)
      (Obs.val (fun a' w' E=>ob_move (.tmp 13) rfl (E.od 13))
      (Obs.val (fun a' w' E=>ob_binOp .eql 22 (.tmp 50) (.const (.int .u64 1)) 22 rfl (E.n (B (bv i)) 50 0) (evc a' (.int .u64 1)) (by simp[go_sem,hqv]))
      Obs.nil)) ?_
     intro bs w9 aZ haZ F
     have eZ:aZ=(⟨#[(U e),(A9 px py pn),(U l),(A9 qx qy qn),(PT w.heap.size),(PT (w.heap.size+1)),(PT (w.heap.size+1+1)),(PT (w.heap.size+1+1+1)),(PT (w.heap.size+1+1+1+1)),(PT g1_3),(PT g2_1),(.int .i64 i),(B (bu i)),(B (bv i)),(A9 px py pn),(A9 qx qy qn),(A9 sx sy sn),(A3 0 0 0),(U e),(.int .i64 na),(U l),(.int .i64 nb),(.int .i64 n),(.int .i64 ((n:Int)-1)),(.int .i64 i),(.bool true),u26,u27,(A3 (X (i+1)) (Y (i+1)) (Z (i+1))),(A3 (D1 i) (D2 i) (D3 i)),(U e),(.int .i64 i),(B (bu i)),(U l),(.int .i64 i),(B (bv i)),(B (bu i)),(.bool false),(.bool false),ud,ud,(.bool false),u42,u43,u44,(B (bu i)),(.bool false),u47,u48,u49,(B (bv i)),(.bool true),u52,u53,u54,ud,ud],[]⟩:Act):=haZ.trans (by kernel_rfl)
     subst eZ
     clear haZ
     replace RR:Hid (RB w w9 [(g2_1,(T3 (D1 i) (D2 i) (D3 i))),(g1_3,(P9 sx sy sn)),(w.heap.size+1+1+1+1,Z9),(w.heap.size+1+1+1,(P9 qx qy qn)),(w.heap.size+1+1,(Ar l)),(w.heap.size+1,(P9 px py pn)),(w.heap.size,(Ar e))]):=⟨F.bw,(Rc (F.row 6 rfl) (Rc (F.row 5 rfl) (Rc (F.row 4 rfl) (Rc (F.row 3 rfl) (Rc (F.row 2 rfl) (Rc (F.row 1 rfl) (Rc (F.row 0 rfl) RA.nil)))))))⟩
     clear F qT q0 q1 q2 q3 q4 q5 q6
     go_upto_region 14 with fail
     obtain ⟨q6,q5,q4,q3,q2,q1,q0,qT⟩:=RR.out.r.lts
     refine wp_told [(w.heap.size,(Ar e)),(w.heap.size+1,(P9 px py pn)),(w.heap.size+1+1,(Ar l)),(w.heap.size+1+1+1,(P9 qx qy qn)),(w.heap.size+1+1+1+1,Z9),(g1_3,(P9 sx sy sn))]
      [sV (A3 (D1 i) (D2 i) (D3 i)),
       sV (A9 qx qy qn),
       sV (A3 (X i) (Y i) (Z i)),
       sK (g2_1) (T3 (D1 i) (D2 i) (D3 i)) (T3 (X i) (Y i) (Z i))]
      RR.out.b (Rc (RR.out.at 6 rfl) (Rc (RR.out.at 5 rfl) (Rc (RR.out.at 4 rfl) (Rc (RR.out.at 3 rfl) (Rc (RR.out.at 2 rfl) (Rc (RR.out.at 1 rfl) RA.nil)))))) (StOk.of [(g2_1,(T3 (D1 i) (D2 i) (D3 i)))] rfl (StM.cons (RR.out.at 0 rfl) (by omega) (Ap.cons (by omega) (Ap.cons (by omega) (Ap.cons (by omega) (Ap.cons (by omega) (Ap.cons (by omega) (Ap.cons (by omega) Ap.nil)))))) Ap.nil StM.nil))
      (Obs.val (fun a' w' E=>ob_la 103 (.tmp 10) (E.od 10) (E.skb (g:=g2_1) (i:=(T3 (D1 i) (D2 i) (D3 i))) (e:=(T3 (X i) (Y i) (Z i))) 3 rfl (by kernel_rfl)) Tryz.underlying103)
      (Obs.val (fun a' w' E=>ob_la 38 (.tmp 7) (E.od 7) (E.row (g:=w.heap.size+1+1+1) (c:=(P9 qx qy qn)) 3 rfl) Tryz.underlying38)
      (Obs.val (fun a' w' E=>ob_fcall 82 _ _ rfl (am2 (E.n (A3 (D1 i) (D2 i) (D3 i)) 52 0) (E.n (A9 qx qy qn) 53 1)) (fc82 _ _) ((hFT i hlt hbu2 hbv2).out w'))
      (Obs.stk (fun a' w' E hr=>ob_sa 103 (.tmp 10) (.tmp 54) (E.od 10) (E.n (A3 (X i) (Y i) (Z i)) 54 2) hr)
      Obs.nil)))) ?_
     intro bs w10 aZ haZ F
     have eZ:aZ=(⟨#[(U e),(A9 px py pn),(U l),(A9 qx qy qn),(PT w.heap.size),(PT (w.heap.size+1)),(PT (w.heap.size+1+1)),(PT (w.heap.size+1+1+1)),(PT (w.heap.size+1+1+1+1)),(PT g1_3),(PT g2_1),(.int .i64 i),(B (bu i)),(B (bv i)),(A9 px py pn),(A9 qx qy qn),(A9 sx sy sn),(A3 0 0 0),(U e),(.int .i64 na),(U l),(.int .i64 nb),(.int .i64 n),(.int .i64 ((n:Int)-1)),(.int .i64 i),(.bool true),u26,u27,(A3 (X (i+1)) (Y (i+1)) (Z (i+1))),(A3 (D1 i) (D2 i) (D3 i)),(U e),(.int .i64 i),(B (bu i)),(U l),(.int .i64 i),(B (bv i)),(B (bu i)),(.bool false),(.bool false),ud,ud,(.bool false),u42,u43,u44,(B (bu i)),(.bool false),u47,u48,u49,(B (bv i)),(.bool true),(A3 (D1 i) (D2 i) (D3 i)),(A9 qx qy qn),(A3 (X i) (Y i) (Z i)),ud,ud],[]⟩:Act):=haZ.trans (by kernel_rfl)
     subst eZ
     clear haZ
     replace RR:Hid (RB w w10 [(g2_1,(T3 (X i) (Y i) (Z i))),(g1_3,(P9 sx sy sn)),(w.heap.size+1+1+1+1,Z9),(w.heap.size+1+1+1,(P9 qx qy qn)),(w.heap.size+1+1,(Ar l)),(w.heap.size+1,(P9 px py pn)),(w.heap.size,(Ar e))]):=⟨F.bw,(Rc (F.sk 3 rfl) (Rc (F.row 5 rfl) (Rc (F.row 4 rfl) (Rc (F.row 3 rfl) (Rc (F.row 2 rfl) (Rc (F.row 1 rfl) (Rc (F.row 0 rfl) RA.nil)))))))⟩
     clear F qT q0 q1 q2 q3 q4 q5 q6
     go_wp2
     go_roundw
     case rel=>exact ⟨i,by omega,by go_num,RR.out⟩
     case measure=>first | (simp[intOf];done) | (simp[intOf];omega)
    | false=>
     have hqv:(((bv i:Nat):Int) == 1)=false:=(hv i).trans hbv2
     go_upto_region 9 with fail
     obtain ⟨q6,q5,q4,q3,q2,q1,q0,qT⟩:=RR.out.r.lts
     refine wp_told [(w.heap.size,(Ar e)),(w.heap.size+1,(P9 px py pn)),(w.heap.size+1+1,(Ar l)),(w.heap.size+1+1+1,(P9 qx qy qn)),(w.heap.size+1+1+1+1,Z9),(g1_3,(P9 sx sy sn)),(g2_1,(T3 (D1 i) (D2 i) (D3 i)))]
      [sV (B (bu i)),
       sV (.bool false),
       sV (.bool false),
       sV ud,
       sV ud,
       sV (.bool false)]
      RR.out.b (Rc (RR.out.at 6 rfl) (Rc (RR.out.at 5 rfl) (Rc (RR.out.at 4 rfl) (Rc (RR.out.at 3 rfl) (Rc (RR.out.at 2 rfl) (Rc (RR.out.at 1 rfl) (Rc (RR.out.at 0 rfl) RA.nil))))))) (StOk.of [] rfl StM.nil)
      (Obs.val (fun a' w' E=>ob_move (.tmp 12) rfl (E.od 12))
      (Obs.val (fun a' w' E=>ob_binOp .eql 22 (.tmp 36) (.const (.int .u64 1)) 22 rfl (E.n (B (bu i)) 36 0) (evc a' (.int .u64 1)) (by simp[go_sem,hqu]))
      (Obs.val (fun a' w' E=>ob_move (.tmp 37) rfl (E.n (.bool false) 37 1))
      (Obs.skip rfl rfl (fun a' w' E=>E.new 38 2 (by kernel_rfl) rfl) (by decide)
      (Obs.skip rfl rfl (fun a' w' E=>E.new 38 2 (by kernel_rfl) rfl) (by decide)
      (Obs.val (fun a' w' E=>ob_pick (.tmp 38) (.tmp 40) (.const (.bool false)) rfl (E.n (.bool false) 38 2) (evc a' (.bool false)))
      Obs.nil)))))) ?_
     intro bs w7 aZ haZ F
     have eZ:aZ=(⟨#[(U e),(A9 px py pn),(U l),(A9 qx qy qn),(PT w.heap.size),(PT (w.heap.size+1)),(PT (w.heap.size+1+1)),(PT (w.heap.size+1+1+1)),(PT (w.heap.size+1+1+1+1)),(PT g1_3),(PT g2_1),(.int .i64 i),(B (bu i)),(B (bv i)),(A9 px py pn),(A9 qx qy qn),(A9 sx sy sn),(A3 0 0 0),(U e),(.int .i64 na),(U l),(.int .i64 nb),(.int .i64 n),(.int .i64 ((n:Int)-1)),(.int .i64 i),(.bool true),u26,u27,(A3 (X (i+1)) (Y (i+1)) (Z (i+1))),(A3 (D1 i) (D2 i) (D3 i)),(U e),(.int .i64 i),(B (bu i)),(U l),(.int .i64 i),(B (bv i)),(B (bu i)),(.bool false),(.bool false),ud,ud,(.bool false),u42,u43,u44,u45,u46,u47,u48,u49,u50,u51,u52,u53,u54,ud,ud],[]⟩:Act):=haZ.trans (by kernel_rfl)
     subst eZ
     clear haZ
     replace RR:Hid (RB w w7 [(g2_1,(T3 (D1 i) (D2 i) (D3 i))),(g1_3,(P9 sx sy sn)),(w.heap.size+1+1+1+1,Z9),(w.heap.size+1+1+1,(P9 qx qy qn)),(w.heap.size+1+1,(Ar l)),(w.heap.size+1,(P9 px py pn)),(w.heap.size,(Ar e))]):=⟨F.bw,(Rc (F.row 6 rfl) (Rc (F.row 5 rfl) (Rc (F.row 4 rfl) (Rc (F.row 3 rfl) (Rc (F.row 2 rfl) (Rc (F.row 1 rfl) (Rc (F.row 0 rfl) RA.nil)))))))⟩
     clear F qT q0 q1 q2 q3 q4 q5 q6
     go_upto_region 11 with fail
     obtain ⟨q6,q5,q4,q3,q2,q1,q0,qT⟩:=RR.out.r.lts
     refine wp_told [(w.heap.size,(Ar e)),(w.heap.size+1,(P9 px py pn)),(w.heap.size+1+1,(Ar l)),(w.heap.size+1+1+1,(P9 qx qy qn)),(w.heap.size+1+1+1+1,Z9),(g1_3,(P9 sx sy sn)),(g2_1,(T3 (D1 i) (D2 i) (D3 i)))]
      [sV (B (bu i)),
       sV (.bool false)]
      RR.out.b (Rc (RR.out.at 6 rfl) (Rc (RR.out.at 5 rfl) (Rc (RR.out.at 4 rfl) (Rc (RR.out.at 3 rfl) (Rc (RR.out.at 2 rfl) (Rc (RR.out.at 1 rfl) (Rc (RR.out.at 0 rfl) RA.nil))))))) (StOk.of [] rfl StM.nil)
      (Obs.val (fun a' w' E=>ob_move (.tmp 12) rfl (E.od 12))
      (Obs.val (fun a' w' E=>ob_binOp .eql 22 (.tmp 45) (.const (.int .u64 1)) 22 rfl (E.n (B (bu i)) 45 0) (evc a' (.int .u64 1)) (by simp[go_sem,hqu]))
      Obs.nil)) ?_
     intro bs w8 aZ haZ F
     have eZ:aZ=(⟨#[(U e),(A9 px py pn),(U l),(A9 qx qy qn),(PT w.heap.size),(PT (w.heap.size+1)),(PT (w.heap.size+1+1)),(PT (w.heap.size+1+1+1)),(PT (w.heap.size+1+1+1+1)),(PT g1_3),(PT g2_1),(.int .i64 i),(B (bu i)),(B (bv i)),(A9 px py pn),(A9 qx qy qn),(A9 sx sy sn),(A3 0 0 0),(U e),(.int .i64 na),(U l),(.int .i64 nb),(.int .i64 n),(.int .i64 ((n:Int)-1)),(.int .i64 i),(.bool true),u26,u27,(A3 (X (i+1)) (Y (i+1)) (Z (i+1))),(A3 (D1 i) (D2 i) (D3 i)),(U e),(.int .i64 i),(B (bu i)),(U l),(.int .i64 i),(B (bv i)),(B (bu i)),(.bool false),(.bool false),ud,ud,(.bool false),u42,u43,u44,(B (bu i)),(.bool false),u47,u48,u49,u50,u51,u52,u53,u54,ud,ud],[]⟩:Act):=haZ.trans (by kernel_rfl)
     subst eZ
     clear haZ
     replace RR:Hid (RB w w8 [(g2_1,(T3 (D1 i) (D2 i) (D3 i))),(g1_3,(P9 sx sy sn)),(w.heap.size+1+1+1+1,Z9),(w.heap.size+1+1+1,(P9 qx qy qn)),(w.heap.size+1+1,(Ar l)),(w.heap.size+1,(P9 px py pn)),(w.heap.size,(Ar e))]):=⟨F.bw,(Rc (F.row 6 rfl) (Rc (F.row 5 rfl) (Rc (F.row 4 rfl) (Rc (F.row 3 rfl) (Rc (F.row 2 rfl) (Rc (F.row 1 rfl) (Rc (F.row 0 rfl) RA.nil)))))))⟩
     clear F qT q0 q1 q2 q3 q4 q5 q6
     go_upto_region 13 with fail
     obtain ⟨q6,q5,q4,q3,q2,q1,q0,qT⟩:=RR.out.r.lts
     refine wp_told [(w.heap.size,(Ar e)),(w.heap.size+1,(P9 px py pn)),(w.heap.size+1+1,(Ar l)),(w.heap.size+1+1+1,(P9 qx qy qn)),(w.heap.size+1+1+1+1,Z9),(g1_3,(P9 sx sy sn)),(g2_1,(T3 (D1 i) (D2 i) (D3 i)))]
      [sV (B (bv i)),
       sV (.bool false)]
      RR.out.b (Rc (RR.out.at 6 rfl) (Rc (RR.out.at 5 rfl) (Rc (RR.out.at 4 rfl) (Rc (RR.out.at 3 rfl) (Rc (RR.out.at 2 rfl) (Rc (RR.out.at 1 rfl) (Rc (RR.out.at 0 rfl) RA.nil))))))) (StOk.of [] rfl StM.nil)
      (Obs.val (fun a' w' E=>ob_move (.tmp 13) rfl (E.od 13))
      (Obs.val (fun a' w' E=>ob_binOp .eql 22 (.tmp 50) (.const (.int .u64 1)) 22 rfl (E.n (B (bv i)) 50 0) (evc a' (.int .u64 1)) (by simp[go_sem,hqv]))
      Obs.nil)) ?_
     intro bs w9 aZ haZ F
     have eZ:aZ=(⟨#[(U e),(A9 px py pn),(U l),(A9 qx qy qn),(PT w.heap.size),(PT (w.heap.size+1)),(PT (w.heap.size+1+1)),(PT (w.heap.size+1+1+1)),(PT (w.heap.size+1+1+1+1)),(PT g1_3),(PT g2_1),(.int .i64 i),(B (bu i)),(B (bv i)),(A9 px py pn),(A9 qx qy qn),(A9 sx sy sn),(A3 0 0 0),(U e),(.int .i64 na),(U l),(.int .i64 nb),(.int .i64 n),(.int .i64 ((n:Int)-1)),(.int .i64 i),(.bool true),u26,u27,(A3 (X (i+1)) (Y (i+1)) (Z (i+1))),(A3 (D1 i) (D2 i) (D3 i)),(U e),(.int .i64 i),(B (bu i)),(U l),(.int .i64 i),(B (bv i)),(B (bu i)),(.bool false),(.bool false),ud,ud,(.bool false),u42,u43,u44,(B (bu i)),(.bool false),u47,u48,u49,(B (bv i)),(.bool false),u52,u53,u54,ud,ud],[]⟩:Act):=haZ.trans (by kernel_rfl)
     subst eZ
     clear haZ
     replace RR:Hid (RB w w9 [(g2_1,(T3 (D1 i) (D2 i) (D3 i))),(g1_3,(P9 sx sy sn)),(w.heap.size+1+1+1+1,Z9),(w.heap.size+1+1+1,(P9 qx qy qn)),(w.heap.size+1+1,(Ar l)),(w.heap.size+1,(P9 px py pn)),(w.heap.size,(Ar e))]):=⟨F.bw,(Rc (F.row 6 rfl) (Rc (F.row 5 rfl) (Rc (F.row 4 rfl) (Rc (F.row 3 rfl) (Rc (F.row 2 rfl) (Rc (F.row 1 rfl) (Rc (F.row 0 rfl) RA.nil)))))))⟩
     clear F qT q0 q1 q2 q3 q4 q5 q6
     go_wp2
     go_roundw
     case rel=>exact ⟨i,by omega,by go_num,by have h:=RR.out;rw[← (hFF i hlt hbu2 hbv2).1,← (hFF i hlt hbu2 hbv2).2.1,← (hFF i hlt hbu2 hbv2).2.2] at h;exact h⟩
     case measure=>first | (simp[intOf];done) | (simp[intOf];omega)
  | zero=>
   have RR:Hid (RB w wr [(g2_1,(T3 (X 0) (Y 0) (Z 0))),(g1_3,(P9 sx sy sn)),(w.heap.size+1+1+1+1,Z9),(w.heap.size+1+1+1,(P9 qx qy qn)),(w.heap.size+1+1,(Ar l)),(w.heap.size+1,(P9 px py pn)),(w.heap.size,(Ar e))]):=rr
   clear rr
   rw[show (((0:Nat):Int)-1) = -1 by omega]
   go_upto_region 15 with fail
   obtain ⟨q6,q5,q4,q3,q2,q1,q0,qT⟩:=RR.out.r.lts
   refine wp_told [(w.heap.size,(Ar e)),(w.heap.size+1,(P9 px py pn)),(w.heap.size+1+1,(Ar l)),(w.heap.size+1+1+1,(P9 qx qy qn)),(g1_3,(P9 sx sy sn)),(g2_1,(T3 (X 0) (Y 0) (Z 0)))]
    [sV (A3 (X 0) (Y 0) (Z 0)),
     sV (A9 fx fy fn),
     sK (w.heap.size+1+1+1+1) Z9 (P9 fx fy fn)]
    RR.out.b (Rc (RR.out.at 6 rfl) (Rc (RR.out.at 5 rfl) (Rc (RR.out.at 4 rfl) (Rc (RR.out.at 3 rfl) (Rc (RR.out.at 1 rfl) (Rc (RR.out.at 0 rfl) RA.nil)))))) (StOk.of [(w.heap.size+1+1+1+1,Z9)] rfl (StM.cons (RR.out.at 2 rfl) (by omega) (Ap.cons (by omega) (Ap.cons (by omega) (Ap.cons (by omega) (Ap.cons (by omega) (Ap.cons (by omega) (Ap.cons (by omega) Ap.nil)))))) Ap.nil StM.nil))
    (Obs.val (fun a' w' E=>ob_la 103 (.tmp 10) (E.od 10) (E.row (g:=g2_1) (c:=(T3 (X 0) (Y 0) (Z 0))) 5 rfl) Tryz.underlying103)
    (Obs.val (fun a' w' E=>ob_fcall 83 _ _ rfl (am1 (E.n (A3 (X 0) (Y 0) (Z 0)) 55 0)) (fc83 _ _) (hF.out w'))
    (Obs.stk (fun a' w' E hr=>ob_sa 38 (.tmp 8) (.tmp 56) (E.od 8) (E.n (A9 fx fy fn) 56 1) hr)
    Obs.nil))) ?_
   intro bs w4 aZ haZ F
   have eZ:aZ=(⟨#[(U e),(A9 px py pn),(U l),(A9 qx qy qn),(PT w.heap.size),(PT (w.heap.size+1)),(PT (w.heap.size+1+1)),(PT (w.heap.size+1+1+1)),(PT (w.heap.size+1+1+1+1)),(PT g1_3),(PT g2_1),(.int .i64 (-1)),u12,u13,(A9 px py pn),(A9 qx qy qn),(A9 sx sy sn),(A3 0 0 0),(U e),(.int .i64 na),(U l),(.int .i64 nb),(.int .i64 n),(.int .i64 ((n:Int)-1)),(.int .i64 (-1)),(.bool false),u26,u27,u28,u29,u30,u31,u32,u33,u34,u35,u36,u37,u38,u39,u40,u41,u42,u43,u44,u45,u46,u47,u48,u49,u50,u51,u52,u53,u54,(A3 (X 0) (Y 0) (Z 0)),(A9 fx fy fn)],[]⟩:Act):=haZ.trans (by kernel_rfl)
   subst eZ
   clear haZ
   replace RR:Hid (RB w w4 [(g2_1,(T3 (X 0) (Y 0) (Z 0))),(g1_3,(P9 sx sy sn)),(w.heap.size+1+1+1+1,(P9 fx fy fn)),(w.heap.size+1+1+1,(P9 qx qy qn)),(w.heap.size+1+1,(Ar l)),(w.heap.size+1,(P9 px py pn)),(w.heap.size,(Ar e))]):=⟨F.bw,(Rc (F.row 5 rfl) (Rc (F.row 4 rfl) (Rc (F.sk 2 rfl) (Rc (F.row 3 rfl) (Rc (F.row 2 rfl) (Rc (F.row 1 rfl) (Rc (F.row 0 rfl) RA.nil)))))))⟩
   clear F qT q0 q1 q2 q3 q4 q5 q6
   go_wp2
   exact bodyPost_ret (v:=(A9 fx fy fn)) (resA (p:=8) (ty:=38) rfl (g:=w.heap.size+1+1+1+1) rfl (RR.out.at 2 rfl) Tryz.underlying38 rfl (by kernel_rfl)) rfl ⟨rfl,RR.out.b⟩
end Go.Proofs.YtfhppenjbmmadaaGreatDoor
