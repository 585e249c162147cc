import Derived.Test.YtfhppenjbmmadaaGreatDoorXmM39
import Derived.Test.YtfhppenjbmmadaaGreatDoorXmM20
import Derived.Test.YtfhppenjbmmadaaGreatDoorXmM14
namespace Go.Proofs.YtfhppenjbmmadaaGreatDoor
set_option linter.unusedVariables false
set_option maxHeartbeats 8000000
section
open Go.RowKit Go.Sort
set_option maxRecDepth 100000
theorem fc44(xs:Array Operand)(ts:Array TypeId)(a:Act)(ty:TypeId)(w:World):(do let d ← resolve a.eval { callee:=.value (.func 44),args:=xs,argTypes:=ts } ty;invoke d.target d.args:Sem Next).run Tryz.prog w=.ok (.enter 44 (xs.map a.eval)) w:=by
 simp[go_sem]
theorem fc62(xs:Array Operand)(ts:Array TypeId)(a:Act)(ty:TypeId)(w:World):(do let d ← resolve a.eval { callee:=.value (.func 62),args:=xs,argTypes:=ts } ty;invoke d.target d.args:Sem Next).run Tryz.prog w=.ok (.enter 62 (xs.map a.eval)) w:=by
 simp[go_sem]
theorem conv1{w:World}{b:Nat}{x:Int}(h:HRw w b #[.int .u8 x]):(convert 61 9 (.slice (some ⟨b,0,none⟩) 1 1)).run Tryz.prog w=.ok (.string (strOfNums [x])) w:=by
 refine run_convert_bytes_arg _ 61 5 Tryz.underlying61 Tryz.underlying5 _ 0 1 1 _ rfl (fun i hi=>?_) 9 Tryz.underlying9
 obtain rfl:i=0:=by omega
 exact HRw.cell h 0
theorem secret_raw(s a g:ByteArray)(d r k:Nat)(i:Int)(h1:a.size+s.size≤9223372036854775807)(h2:a.size+s.size+(strOfNums [i]).size≤9223372036854775807)(hB:Ds 88 #[(U d)] (.string a))(hS:DoesT 110 #[(.string (((a++s)++strOfNums [i])))] (.string g))(hR:Ds 44 #[(.string g)] (.tuple #[(U r),(.int .i64 0)]))(hO:Ds 62 #[(U r)] (U k))(w:World)(ht:Tabs w ki):Calls Tryz.prog 74 #[(.string s),(U d),(.int .u8 i)] w fun e w'=>e=.returned (U k)∧Below w.heap.size w w':=by
 have HT:Hid (Tabs w ki):=ht
 clear ht
 go_enter Tryz.func74,Tryz.ntmps74
 go_upto_region 1 with fail
 refine name_world _ ?_
 intro wF hF0
 have RR:Hid (RB w wF [(w.heap.size+1,Zr),(w.heap.size,(Ar d))]):=by rw[hF0];exact (rbN (rbN (rb0 w) (by simp)) (by simp))
 clear hF0
 obtain ⟨q1,q0,qT⟩:=RR.out.r.lts
 refine wp_told [(w.heap.size,(Ar d)),(w.heap.size+1,Zr)]
  [sV (U d),
   sV (.string a),
   sV (.string s),
   sV (.string ((a++s))),
   sV (.int .u8 i),
   sA (fun g=>.slice (some ⟨g,0,none⟩) 1 1) 1005 #[(.int .u8 i)] #[(.int .u8 i)],
   sV (.string ((strOfNums [i]))),
   sV (.string (((a++s)++strOfNums [i]))),
   sV (.string g),
   sV (.tuple #[(U r),(.int .i64 0)]),
   sV (.tuple #[(U r),(.int .i64 0)]),
   sV (U r),
   sV (.int .i64 0),
   sA (fun g=>.pointer (some ⟨g,0,none⟩)) 14 Zr (Ar r),
   sS 13,
   sV (.int .i64 0)]
  RR.out.b (Rc (RR.out.at 1 rfl) (Rc (RR.out.at 0 rfl) RA.nil)) (StOk.of [] rfl StM.nil)
  (Obs.val (fun a' w' E=>ob_la 24 (.tmp 4) (E.od 4) (E.row (g:=w.heap.size) (c:=(Ar d)) 0 rfl) Tryz.underlying24)
  (Obs.val (fun a' w' E=>ob_fcall 88 _ _ rfl (am1 (E.n (U d) 10 0)) (fc88 _ _) (hB.out w'))
  (Obs.val (fun a' w' E=>ob_move (.tmp 0) rfl (E.od 0))
  (Obs.val (fun a' w' E=>ob_binOp .add 9 (.tmp 11) (.tmp 12) 9 rfl (E.n (.string a) 11 1) (E.n (.string s) 12 2) (by simp[go_sem,h1]))
  (Obs.val (fun a' w' E=>ob_move (.tmp 2) rfl (E.od 2))
  (Obs.alloc (fun a' w' E=>ob_alloc (t:=5) (by simp[opAt,execOp,go_sem,ev (show a'.eval (.tmp 14)=(.int .u8 i) from (E.n (.int .u8 i) 14 4))]))
  (Obs.val (fun a' w' E=>by obtain ⟨g,hv,_,hr⟩:=E.ali 15 5 (by kernel_rfl) rfl (Nat.le_of_ble_eq_true rfl);exact ob_val (by simp[opAt,execOp,go_sem,ev hv,conv1 hr]))
  (Obs.val (fun a' w' E=>ob_binOp .add 9 (.tmp 13) (.tmp 16) 9 rfl (E.n (.string ((a++s))) 13 3) (E.n (.string ((strOfNums [i]))) 16 6) (by simp[go_sem,h2]))
  (Obs.val (fun a' w' E=>ob_fcall 110 _ _ rfl (am1 (E.new (v:=(.string (((a++s)++strOfNums [i])))) 17 7 (by kernel_rfl) rfl)) (fc110 _ _) (tbl hS HT.out E.bw w'))
  (Obs.val (fun a' w' E=>ob_fcall 44 _ _ rfl (am1 (E.n (.string g) 18 8)) (fc44 _ _) (hR.out w'))
  (Obs.val (fun a' w' E=>ob_move (.tmp 19) rfl (E.n (.tuple #[(U r),(.int .i64 0)]) 19 9))
  (Obs.val (fun a' w' E=>ob_extract (.tmp 9) 0 rfl (E.n (.tuple #[(U r),(.int .i64 0)]) 9 10) rfl)
  (Obs.val (fun a' w' E=>ob_extract (.tmp 9) 1 rfl (E.n (.tuple #[(U r),(.int .i64 0)]) 9 10) rfl)
  (Obs.alloc (fun a' w' E=>ob_alloc (t:=24) (by simp[opAt,execOp,go_sem]))
  (Obs.sta rfl (fun a' w' g E ha hr=>ob_sa 24 (.tmp 7) (.tmp 20) (ha 7 (by kernel_rfl)) (E.n (U r) 20 11) hr)
  (Obs.val (fun a' w' E=>ob_assign (.tmp 21) rfl (E.n (.int .i64 0) 21 12))
  Obs.nil)))))))))))))))) ?_
 intro bs w1 aZ haZ F
 have eZ:aZ=(⟨#[(.string s),(U d),(.int .u8 i),ud,(PT w.heap.size),ud,(PT (w.heap.size+1)),(PT ((bs 13))),(.int .i64 0),(.tuple #[(U r),(.int .i64 0)]),(U d),(.string a),(.string s),(.string ((a++s))),(.int .u8 i),(.slice (some ⟨(bs 5),0,none⟩) 1 1),(.string ((strOfNums [i]))),(.string (((a++s)++strOfNums [i]))),(.string g),(.tuple #[(U r),(.int .i64 0)]),(U r),(.int .i64 0),ud,ud],[]⟩:Act):=haZ.trans (by kernel_rfl)
 subst eZ
 clear haZ
 obtain ⟨h5,X5⟩:=F.ali 5 rfl rfl
 obtain ⟨h13,X13⟩:=F.al 13 rfl rfl
 have n1_5_13:=F.ne 5 13 (by decide) rfl rfl
 replace RR:Hid (RB w w1 [((bs 13),(Ar r)),((bs 5),#[(.int .u8 i)]),(w.heap.size+1,Zr),(w.heap.size,(Ar d))]):=⟨F.bw,(Rc X13 (Rc X5 (Rc (F.row 1 rfl) (Rc (F.row 0 rfl) RA.nil))))⟩
 generalize bs 5=g1_5 at *
 generalize bs 13=g1_13 at *
 have k1_5_0:=Nat.lt_of_lt_of_le q0 h5
 have k1_5_1:=Nat.lt_of_lt_of_le q1 h5
 have k1_13_0:=Nat.lt_of_lt_of_le q0 h13
 have k1_13_1:=Nat.lt_of_lt_of_le q1 h13
 clear F qT q0 q1 h5 X5 h13 X13
 clear wF
 go_upto_region 2 with fail
 obtain ⟨q3,q2,q1,q0,qT⟩:=RR.out.r.lts
 refine wp_told [(w.heap.size,(Ar d)),(g1_5,#[(.int .u8 i)]),(g1_13,(Ar r))]
  [sV (U r),
   sV (U k),
   sK (w.heap.size+1) Zr (Ar k)]
  RR.out.b (Rc (RR.out.at 3 rfl) (Rc (RR.out.at 1 rfl) (Rc (RR.out.at 0 rfl) RA.nil))) (StOk.of [(w.heap.size+1,Zr)] rfl (StM.cons (RR.out.at 2 rfl) (by omega) (Ap.cons (by omega) (Ap.cons (by omega) (Ap.cons (by omega) Ap.nil))) Ap.nil StM.nil))
  (Obs.val (fun a' w' E=>ob_la 24 (.tmp 7) (E.od 7) (E.row (g:=g1_13) (c:=(Ar r)) 2 rfl) Tryz.underlying24)
  (Obs.val (fun a' w' E=>ob_fcall 62 _ _ rfl (am1 (E.n (U r) 22 0)) (fc62 _ _) (hO.out w'))
  (Obs.stk (fun a' w' E hr=>ob_sa 24 (.tmp 6) (.tmp 23) (E.od 6) (E.n (U k) 23 1) hr)
  Obs.nil))) ?_
 intro bs w2 aZ haZ F
 have eZ:aZ=(⟨#[(.string s),(U d),(.int .u8 i),ud,(PT w.heap.size),ud,(PT (w.heap.size+1)),(PT g1_13),(.int .i64 0),(.tuple #[(U r),(.int .i64 0)]),(U d),(.string a),(.string s),(.string ((a++s))),(.int .u8 i),(.slice (some ⟨g1_5,0,none⟩) 1 1),(.string ((strOfNums [i]))),(.string (((a++s)++strOfNums [i]))),(.string g),(.tuple #[(U r),(.int .i64 0)]),(U r),(.int .i64 0),(U r),(U k)],[]⟩:Act):=haZ.trans (by kernel_rfl)
 subst eZ
 clear haZ
 replace RR:Hid (RB w w2 [(g1_13,(Ar r)),(g1_5,#[(.int .u8 i)]),(w.heap.size+1,(Ar k)),(w.heap.size,(Ar d))]):=⟨F.bw,(Rc (F.row 2 rfl) (Rc (F.row 1 rfl) (Rc (F.sk 2 rfl) (Rc (F.row 0 rfl) RA.nil))))⟩
 clear F qT q0 q1 q2 q3
 go_wp2
 exact bodyPost_ret (v:=(U k)) (resA (p:=6) (ty:=24) rfl (g:=w.heap.size+1) rfl (RR.out.at 2 rfl) Tryz.underlying24 rfl (by kernel_rfl)) rfl ⟨rfl,RR.out.b⟩
end
section
open Go.RowKit Go.Sort Go.Shelf
attribute [local go_sem] Oper.semAt_some
theorem KpN.row{n:Nat}{A B:World}{g:Nat}{c:Array Value}(h:KpN n A B)(hr:HRw A g c)(hg:g<n):HRw B g c:=by
 obtain ⟨t,hr⟩:=hr
 exact ⟨t,(h.2 g hg).trans hr⟩
theorem KpN.tab{n:Nat}{A B:World}(h:KpN n A B)(ht:Tabs A ki)(hn:2<n):Tabs B ki:=by
 obtain ⟨⟨a,b,c⟩,⟨d,e,f⟩,⟨i,j,k⟩⟩:=ht
 exact ⟨⟨a,b,(h.2 0 (by omega)).trans c⟩,⟨d,e,(h.2 1 (by omega)).trans f⟩,⟨i,j,(h.2 2 hn).trans k⟩⟩
theorem KpN.below{n:Nat}{A B:World}(h:RowKit.Below A.heap.size A B)(hn:n≤A.heap.size):KpN n A B:=⟨h.size,fun k hk=>h.block k (by omega)⟩
structure CYt (Np:Nat) (W0:World) (J:Nat→World→Prop) (Jx:World→Prop) (i g l:Nat) (k gx gy px py:Nat) (gn pn:Bool) (lz:Array Bool) (vs:Nat→Value) (w':World):Prop where
 pre:¬ lz.getD 5 false=true→HRw w' g (Ar k)∧J i w'∧KpN Np W0 w'
 c0:lz.getD 0 false=true→vs 0=.func (.yield l) #[] #[]
 c1:lz.getD 1 false=true→vs 1=U k
 c2:lz.getD 2 false=true→vs 2=U k
 c3:lz.getD 3 false=true→vs 3=A9 gx gy gn
 c4:lz.getD 4 false=true→vs 4=A9 px py pn
 c5:lz.getD 5 false=true→(vs 5=.bool true∧J (i+1) w'∧KpN Np W0 w')∨(vs 5=.bool false∧Jx w')
 c6:lz.getD 6 false=true→∃ b,vs 5=.bool b∧vs 6=.bool !b
set_option maxRecDepth 100000 in
theorem tries1_in(n:Nat)(hn:1≤n)(l b1 b2:Nat)(s:ByteArray)(d gx gy:Nat)(gn:Bool)(kN px py:Nat→Nat)(pn:Nat→Bool)(hS:∀ i:Nat,i<256→DoesT 74 #[.string s,U d,.int .u8 (i:Int)] (U (kN i)))(hB:Ds 57 #[] (A9 gx gy gn))(hM:∀ i,i<256→Ds 75 #[U (kN i),A9 gx gy gn] (A9 (px i) (py i) (pn i)))(Np:Nat)(h2:2<Np)(J:Nat→World→Prop)(Jx:World→Prop)(W:World)(hNp:Np≤W.heap.size)(hT:Tabs W ki)(hJ:∀ i A B,J i A→RowKit.Below W.heap.size A B→J i B)(hJx:∀ A B,Jx A→RowKit.Below W.heap.size A B→Jx B)(hY:∀ i W1,i<256→J i W1→YieldAt Fence.wide (n-1) Tryz.prog l #[U (kN i),A9 (px i) (py i) (pn i)] W1 fun e W'=>(e=.returned (.bool true)∧J (i+1) W'∧KpN Np W1 W')∨(e=.returned (.bool false)∧Jx W'))(h1:HRw W b1 #[.string s])(hb1:b1<Np)(h3:HRw W b2 (Ar d))(hb2:b2<Np)(h0:J 0 W) :
  CallsIn Fence.wide n Tryz.prog 73 #[.func (.yield l) #[] #[],.pointer (some ⟨b1,0,none⟩),.pointer (some ⟨b2,0,none⟩)] W fun e W'=>(∃ v,e=.returned v)∧(J 256 W'∨Jx W'):=by
 have HY:Hid _:=hY
 have HJ:Hid _:=hJ
 have HX:Hid _:=hJx
 have HS:Hid _:=hS
 have HB:Hid _:=hB
 have HM:Hid _:=hM
 have HT:Hid (Tabs W ki):=hT
 have R1:Hid (HRw W b1 #[.string s]):=h1
 have R2:Hid (HRw W b2 (Ar d)):=h3
 have J0:Hid (J 0 W):=h0
 clear hY hJ hJx hS hB hM hT h1 h3 h0
 refine callsIn_of_wp Tryz.func73 rfl trivial ?_ rfl
 simp only[Tryz.ntmps73,List.size_toArray,List.length_cons,List.length_nil,Nat.reduceAdd,Nat.reduceSub,Array.replicate_succ,Array.replicate_zero,List.push_toArray,List.append_toArray,List.nil_append,List.cons_append]
 gi_wp2
 gi_loopw [6] (fun p wr=>∃ k:Nat,k≤256∧p=.int .i64 (k:Int)∧J k wr∧KpN Np W wr) (fun p _=>256-(intOf p).toNat)
 case atStart=>exact ⟨0,by omega,rfl,J0.out,Nat.le_refl _,fun _ _=>rfl⟩
 case round=>
  clear J0
  obtain ⟨k,hk,rfl,hj,hkp⟩:=hrel
  have hsz:=hkp.1
  have RJ:Hid (J k wr):=hj
  have RK:Hid (KpN Np W wr):=hkp
  clear hj hkp
  by_cases hkc:k<256
  ·have hd:(k:Int)<256:=by omega
   have hw:IntKind.u8.wrap (k:Int)=(k:Int):=by unfold IntKind.wrap;simp[IntKind.signed,IntKind.bits];omega
   have q0:wr.cell? ⟨b1,0,none⟩=some (.string s):=HRw.cell (RK.out.row R1.out hb1) 0
   have q1:wr.cell? ⟨b2,0,none⟩=some (B (l0 d)):=HRw.cell (RK.out.row R2.out hb2) 0
   have q2:wr.cell? ⟨b2,1,none⟩=some (B (l1 d)):=HRw.cell (RK.out.row R2.out hb2) 1
   have q3:wr.cell? ⟨b2,2,none⟩=some (B (l2 d)):=HRw.cell (RK.out.row R2.out hb2) 2
   have q4:wr.cell? ⟨b2,3,none⟩=some (B (l3 d)):=HRw.cell (RK.out.row R2.out hb2) 3
   gi_wp2_with fail
   refine ⟨trivial,(callsIn_wide.2 ((HS.out k hkc).out wr (RK.out.tab HT.out h2))).mono ?_⟩
   rintro e W2 ⟨rfl,hb⟩
   have J2:Hid (J k W2):=HJ.out _ _ _ RJ.out (hb.mono hsz)
   have K2:Hid (KpN Np W W2):=RK.out.trans (KpN.below hb (by omega))
   have hsz2:W.heap.size≤W2.heap.size:=Nat.le_trans hsz hb.size
   clear hb q0 q1 q2 q3 q4 RJ RK
   gi_upto_region 4 with fail
   refine name_worldIn _ ?_
   intro W3 hW3
   have R3:Hid (HRw W3 W2.heap.size (Ar (kN k))):=by rw[hW3];exact HRw.last rfl
   have J3:Hid (J k W3):=by rw[hW3];exact HJ.out _ _ _ J2.out ((bAl (RowKit.Below.refl _ _) _).mono hsz2)
   have K3:Hid (KpN Np W W3):=by rw[hW3];exact K2.out.trans (KpN.below (bAl (RowKit.Below.refl _ _) _) (by omega))
   clear hW3 J2 K2
   have hsz3:W.heap.size≤W3.heap.size:=Nat.le_trans hsz2 (Nat.le_of_lt R3.out.lt)
   refine regI_vals (by kernel_rfl) (by kernel_rfl) (by kernel_rfl) (CYt Np W J Jx k W2.heap.size l (kN k) gx gy (px k) (py k) gn (pn k)) ?_ ?_ ?_
   ·refine ⟨fun _=>⟨R3.out,HJ.out _ _ _ J3.out (RowKit.Below.refl _ _).drew,K3.out⟩,?_,?_,?_,?_,?_,?_,?_⟩<;>(intro h;simp[Array.getD] at h)
   ·intro lz vs a' w' i o' hs ho hi hW hF cc
    have hi6:i<7:=by have:=(Array.getElem?_eq_some_iff.1 ho).1;simpa using this
    have hcase:i=0∨i=1∨i=2∨i=3∨i=4∨i=5∨i=6:=by omega
    rcases hcase with rfl | rfl | rfl | rfl | rfl | rfl | rfl
    ·simp at ho
     subst ho
     have T:=dT lz 0
     have hun:¬ lz.getD 0 false=true:=fun h=>undone hi hs h
     have n5:¬ lz.getD 5 false=true:=fun h=>hun (hW 0 5 (by kernel_rfl) h)
     have n6:¬ lz.getD 6 false=true:=fun h=>n5 (hW 5 6 (by kernel_rfl) h)
     have m5:¬ (lz.setIfInBounds 0 true).getD 5 false=true:=fun h=>n5 (T 5 (by decide) h)
     have m6:¬ (lz.setIfInBounds 0 true).getD 6 false=true:=fun h=>n6 (T 6 (by decide) h)
     obtain ⟨p1,p2,p3⟩:=cc.pre n5
     exact wp_wide (wVF (v:=.func (.yield l) #[] #[]) (w1:=w') (by simp[execOp,ev ((hF.old (t:=0) (by kernel_rfl)).trans rfl),go_sem]) ⟨_,rfl,⟨fun _=>⟨p1,p2,p3⟩,fun _=>rfl,fun h=>cc.c1 (T 1 (by decide) h),fun h=>cc.c2 (T 2 (by decide) h),fun h=>cc.c3 (T 3 (by decide) h),fun h=>cc.c4 (T 4 (by decide) h),fun h=>absurd h m5,fun h=>absurd h m6⟩⟩)
    ·simp at ho
     subst ho
     have T:=dT lz 1
     have hun:¬ lz.getD 1 false=true:=fun h=>undone hi hs h
     have n5:¬ lz.getD 5 false=true:=fun h=>hun (hW 1 5 (by kernel_rfl) h)
     have n6:¬ lz.getD 6 false=true:=fun h=>n5 (hW 5 6 (by kernel_rfl) h)
     have m5:¬ (lz.setIfInBounds 1 true).getD 5 false=true:=fun h=>n5 (T 5 (by decide) h)
     have m6:¬ (lz.setIfInBounds 1 true).getD 6 false=true:=fun h=>n6 (T 6 (by decide) h)
     obtain ⟨p1,p2,p3⟩:=cc.pre n5
     exact wp_wide (wp_rowA 24 (.tmp 5) rfl W2.heap.size ((hF.old (by kernel_rfl)).trans rfl) p1 Tryz.underlying24 rfl (by kernel_rfl) ⟨_,rfl,⟨fun _=>⟨p1,p2,p3⟩,fun h=>cc.c0 (T 0 (by decide) h),fun _=>rfl,fun h=>cc.c2 (T 2 (by decide) h),fun h=>cc.c3 (T 3 (by decide) h),fun h=>cc.c4 (T 4 (by decide) h),fun h=>absurd h m5,fun h=>absurd h m6⟩⟩)
    ·simp at ho
     subst ho
     have T:=dT lz 2
     have hun:¬ lz.getD 2 false=true:=fun h=>undone hi hs h
     have n5:¬ lz.getD 5 false=true:=fun h=>hun (hW 2 4 (by kernel_rfl) (hW 4 5 (by kernel_rfl) h))
     have n6:¬ lz.getD 6 false=true:=fun h=>n5 (hW 5 6 (by kernel_rfl) h)
     have m5:¬ (lz.setIfInBounds 2 true).getD 5 false=true:=fun h=>n5 (T 5 (by decide) h)
     have m6:¬ (lz.setIfInBounds 2 true).getD 6 false=true:=fun h=>n6 (T 6 (by decide) h)
     obtain ⟨p1,p2,p3⟩:=cc.pre n5
     exact wp_wide (wp_rowA 24 (.tmp 5) rfl W2.heap.size ((hF.old (by kernel_rfl)).trans rfl) p1 Tryz.underlying24 rfl (by kernel_rfl) ⟨_,rfl,⟨fun _=>⟨p1,p2,p3⟩,fun h=>cc.c0 (T 0 (by decide) h),fun h=>cc.c1 (T 1 (by decide) h),fun _=>rfl,fun h=>cc.c3 (T 3 (by decide) h),fun h=>cc.c4 (T 4 (by decide) h),fun h=>absurd h m5,fun h=>absurd h m6⟩⟩)
    ·simp at ho
     subst ho
     have T:=dT lz 3
     have hun:¬ lz.getD 3 false=true:=fun h=>undone hi hs h
     have n5:¬ lz.getD 5 false=true:=fun h=>hun (hW 3 4 (by kernel_rfl) (hW 4 5 (by kernel_rfl) h))
     have n6:¬ lz.getD 6 false=true:=fun h=>n5 (hW 5 6 (by kernel_rfl) h)
     have m5:¬ (lz.setIfInBounds 3 true).getD 5 false=true:=fun h=>n5 (T 5 (by decide) h)
     have m6:¬ (lz.setIfInBounds 3 true).getD 6 false=true:=fun h=>n6 (T 6 (by decide) h)
     obtain ⟨p1,p2,p3⟩:=cc.pre n5
     refine wp_wide (wp_callF (f:=57) (args:=#[]) (v:=A9 gx gy gn) (by simp[execOp_call_go,go_sem]) (HB.out w') ?_)
     intro w'' hb''
     exact ⟨_,rfl,⟨fun _=>⟨p1.below hb'',HJ.out _ _ _ p2 (hb''.mono p3.1),p3.trans (KpN.below hb'' (Nat.le_trans hNp p3.1))⟩,fun h=>cc.c0 (T 0 (by decide) h),fun h=>cc.c1 (T 1 (by decide) h),fun h=>cc.c2 (T 2 (by decide) h),fun _=>rfl,fun h=>cc.c4 (T 4 (by decide) h),fun h=>absurd h m5,fun h=>absurd h m6⟩⟩
    ·simp at ho
     subst ho
     have T:=dT lz 4
     have hun:¬ lz.getD 4 false=true:=fun h=>undone hi hs h
     have n5:¬ lz.getD 5 false=true:=fun h=>hun (hW 4 5 (by kernel_rfl) h)
     have n6:¬ lz.getD 6 false=true:=fun h=>n5 (hW 5 6 (by kernel_rfl) h)
     have m5:¬ (lz.setIfInBounds 4 true).getD 5 false=true:=fun h=>n5 (T 5 (by decide) h)
     have m6:¬ (lz.setIfInBounds 4 true).getD 6 false=true:=fun h=>n6 (T 6 (by decide) h)
     obtain ⟨p1,p2,p3⟩:=cc.pre n5
     have d2:=wDn (i:=4) (j:=2) (by kernel_rfl) hi
     have d3:=wDn (i:=4) (j:=3) (by kernel_rfl) hi
     have v2:=(hF.new (t:=16) (i:=2) (by kernel_rfl) (by simp) d2).trans (cc.c2 d2)
     have v3:=(hF.new (t:=17) (i:=3) (by kernel_rfl) (by simp) d3).trans (cc.c3 d3)
     refine wp_wide (wp_callF (f:=75) (args:=#[U (kN k),A9 gx gy gn]) (v:=A9 (px k) (py k) (pn k)) (by simp[execOp_call_go,ev v2,ev v3,go_sem]) ((HM.out k hkc).out w') ?_)
     intro w'' hb''
     exact ⟨_,rfl,⟨fun _=>⟨p1.below hb'',HJ.out _ _ _ p2 (hb''.mono p3.1),p3.trans (KpN.below hb'' (Nat.le_trans hNp p3.1))⟩,fun h=>cc.c0 (T 0 (by decide) h),fun h=>cc.c1 (T 1 (by decide) h),fun h=>cc.c2 (T 2 (by decide) h),fun h=>cc.c3 (T 3 (by decide) h),fun _=>rfl,fun h=>absurd h m5,fun h=>absurd h m6⟩⟩
    ·simp at ho
     subst ho
     have T:=dT lz 5
     have hun:¬ lz.getD 5 false=true:=fun h=>undone hi hs h
     obtain ⟨p1,p2,p3⟩:=cc.pre hun
     have n6:¬ lz.getD 6 false=true:=fun h=>hun (hW 5 6 (by kernel_rfl) h)
     have m6:¬ (lz.setIfInBounds 5 true).getD 6 false=true:=fun h=>n6 (T 6 (by decide) h)
     have l5:(lz.setIfInBounds 5 true).getD 5 false=true:=done_me hs (by decide)
     have d0:=wDn (i:=5) (j:=0) (by kernel_rfl) hi
     have d1:=wDn (i:=5) (j:=1) (by kernel_rfl) hi
     have d4:=wDn (i:=5) (j:=4) (by kernel_rfl) hi
     have v0:=(hF.new (t:=14) (i:=0) (by kernel_rfl) (by simp) d0).trans (cc.c0 d0)
     have v1:=(hF.new (t:=15) (i:=1) (by kernel_rfl) (by simp) d1).trans (cc.c1 d1)
     have v4:=(hF.new (t:=18) (i:=4) (by kernel_rfl) (by simp) d4).trans (cc.c4 d4)
     obtain ⟨fn,tmps,assign,body,hy,hR⟩:=HY.out k w' hkc p2
     unfold Oper.wpIn
     refine ⟨fun _ _=>trivial,?_⟩
     rw[Fence.wide_round,Oper.semAt_none]
     rw[show (execOp a'.eval _).run Tryz.prog w'=.ok (.round l fn tmps assign body) w' from by simp[ev v0,ev v1,ev v4,go_sem,hy],Oper.uponIn_round]
     refine ⟨fun h=>by simp[Fence.wide] at h,hR.mono ?_⟩
     rintro e w'' (⟨rfl,q1,q2⟩ | ⟨rfl,q1⟩)
     ·exact ⟨_,rfl,⟨fun h=>absurd l5 h,fun h=>cc.c0 (T 0 (by decide) h),fun h=>cc.c1 (T 1 (by decide) h),fun h=>cc.c2 (T 2 (by decide) h),fun h=>cc.c3 (T 3 (by decide) h),fun h=>cc.c4 (T 4 (by decide) h),fun _=>.inl ⟨rfl,q1,p3.trans q2⟩,fun h=>absurd h m6⟩⟩
     ·exact ⟨_,rfl,⟨fun h=>absurd l5 h,fun h=>cc.c0 (T 0 (by decide) h),fun h=>cc.c1 (T 1 (by decide) h),fun h=>cc.c2 (T 2 (by decide) h),fun h=>cc.c3 (T 3 (by decide) h),fun h=>cc.c4 (T 4 (by decide) h),fun _=>.inr ⟨rfl,q1⟩,fun h=>absurd h m6⟩⟩
    ·simp at ho
     subst ho
     have T:=dT lz 6
     have hun:¬ lz.getD 6 false=true:=fun h=>undone hi hs h
     have d5:=wDn (i:=6) (j:=5) (by kernel_rfl) hi
     obtain ⟨b,hb⟩:∃ b,vs 5=.bool b:=by rcases cc.c5 d5 with ⟨h,_⟩ | ⟨h,_⟩<;>exact ⟨_,h⟩
     have v5:=(hF.new (t:=19) (i:=5) (by kernel_rfl) (by simp) d5).trans hb
     exact wp_wide (wVF (v:=.bool !b) (w1:=w') (by simp[execOp,ev v5,go_sem]) ⟨_,rfl,⟨fun h=>absurd (done_keep d5) h,fun h=>cc.c0 (T 0 (by decide) h),fun h=>cc.c1 (T 1 (by decide) h),fun h=>cc.c2 (T 2 (by decide) h),fun h=>cc.c3 (T 3 (by decide) h),fun h=>cc.c4 (T 4 (by decide) h),fun h=>cc.c5 (T 5 (by decide) h),fun _=>⟨b,hb,rfl⟩⟩⟩)
   intro lz vs a' w5 hd hF cc
   have e0:=cc.c0 (hd 0 (by decide))
   have e1:=cc.c1 (hd 1 (by decide))
   have e2:=cc.c2 (hd 2 (by decide))
   have e3:=cc.c3 (hd 3 (by decide))
   have e4:=cc.c4 (hd 4 (by decide))
   obtain ⟨b,e5,e6⟩:=cc.c6 (hd 6 (by decide))
   have C5:Hid _:=cc.c5 (hd 5 (by decide))
   have eZ:a'={ tmps:=#[.func (.yield l) #[] #[],.pointer (some ⟨b1,0,none⟩),.pointer (some ⟨b2,0,none⟩),undef,.int .i64 (k:Int),.pointer (some ⟨W2.heap.size,0,none⟩),.int .i64 (k:Int),.bool true,.int .i64 (k:Int),.string s,.agg #[B (l0 d),B (l1 d),B (l2 d),B (l3 d)],.int .i64 (k:Int),.int .u8 (k:Int),U (kN k),vs 0,vs 1,vs 2,vs 3,vs 4,vs 5,vs 6,u21],defers:=[] }:=(hF.all hd).trans (by kernel_rfl)
   rw[e5] at C5
   rw[e0,e1,e2,e3,e4,e5,e6] at eZ
   subst eZ
   clear hF cc hd e0 e1 e2 e3 e4 e5 e6 R3 J3 K3
   cases b with
   | true=>
    rcases C5.out with ⟨_,q1,q2⟩ | ⟨h,_⟩
    ·have RJ5:Hid (J (k+1) w5):=q1
     have RK5:Hid (KpN Np W w5):=q2
     clear q1 q2 C5
     gi_wp2
     exact ⟨⟨k+1,hkc,by go_num,RJ5.out,RK5.out⟩,by simp[intOf];omega⟩
    ·cases h
   | false=>
    rcases C5.out with ⟨h,_,_⟩ | ⟨_,q1⟩
    ·cases h
    ·have RX5:Hid (Jx w5):=q1
     clear q1 C5
     gi_wp2
     refine bodyPost_ret (results_none rfl _ _ _) rfl ?_
     exact ⟨⟨_,rfl⟩,.inr RX5.out⟩
  ·have hkn:k=256:=by omega
   subst hkn
   gi_wp2
   go_end0
   exact ⟨⟨_,rfl⟩,.inl RJ.out⟩
abbrev FT (b:Nat):Value:=.func (.func 73) #[] #[.pointer (some ⟨b,0,none⟩),.pointer (some ⟨b+1,0,none⟩)]
theorem tries_ex(s:ByteArray)(d:Nat)(w:World):Calls Tryz.prog 33 #[.string s,U d] w fun e w'=>(∃ b,e=.returned (FT b)∧HRw w' b #[.string s]∧HRw w' (b+1) (Ar d))∧RowKit.Below w.heap.size w w':=by
 go_enter Tryz.func33,Tryz.ntmps33
 go_wp2
 go_ret
 exact ⟨⟨w.heap.size,rfl,HRw.old (HRw.last rfl),HRw.last (by simp)⟩,bAl (bAl (RowKit.Below.refl _ _) _) _⟩
theorem tries_seq(n:Nat)(hn:1≤n)(b1 b2:Nat)(s:ByteArray)(d gx gy:Nat)(gn:Bool)(kN px py:Nat→Nat)(pn:Nat→Bool)(hS:∀ i:Nat,i<256→DoesT 74 #[.string s,U d,.int .u8 (i:Int)] (U (kN i)))(hB:Ds 57 #[] (A9 gx gy gn))(hM:∀ i,i<256→Ds 75 #[U (kN i),A9 gx gy gn] (A9 (px i) (py i) (pn i)))(w w0:World)(hw:RowKit.Below w0.heap.size w0 w)(hT:Tabs w0 ki)(h1:HRw w0 b1 #[.string s])(h3:HRw w0 b2 (Ar d)) :
  SeqN n Tryz.prog 73 #[.pointer (some ⟨b1,0,none⟩),.pointer (some ⟨b2,0,none⟩)] (fun i=>#[U (kN i),A9 (px i) (py i) (pn i)]) (KpN w0.heap.size) 256 w:=by
 intro l J Jx W hW hJ hJx hY h0
 have hb:RowKit.Below w0.heap.size w0 W:=hw.trans (hW.mono hw.size)
 have h2:2<w0.heap.size:=by
  obtain ⟨t,fr,h⟩:=hT.p
  exact (Array.getElem?_eq_some_iff.1 h).1
 exact tries1_in n hn l b1 b2 s d gx gy gn kN px py pn hS hB hM w0.heap.size h2 J Jx W hb.size (hT.below hb) hJ hJx hY (h1.below hb) h1.lt (h3.below hb) h3.lt h0
end
end Go.Proofs.YtfhppenjbmmadaaGreatDoor
