import Derived.Test.YtfhppenjbmmadaaGreatDoorXmM21
import Derived.Test.YtfhppenjbmmadaaGreatDoorXmM09
import Derived.Test.YtfhppenjbmmadaaGreatDoorXmM34
import Derived.Test.YtfhppenjbmmadaaGreatDoorXmM19
namespace Go.Proofs.YtfhppenjbmmadaaGreatDoor
set_option linter.unusedVariables false
set_option maxHeartbeats 8000000
section
open Go.RowKit Go.Sort
set_option maxRecDepth 100000
set_option maxRecDepth 100000 in
theorem above1_raw(k b bd:Nat)(z:Int)(hC:Ds 93 #[(U k),(U bd)] (.int .i64 z))(w:World)(hB:HRw w b (Ar bd)):Calls Tryz.prog 112 #[(U k),(PT b)] w fun e w'=>e=.returned (.bool (decide (0<z)))∧Below w.heap.size w w':=by
 go_enter Tryz.func112,Tryz.ntmps112
 have RR:Hid (RB w w [(b,Ar bd)]):=⟨Below.refl _ _,Rc hB RA.nil⟩
 clear hB
 go_upto_region 1 with fail
 refine name_world _ ?_
 intro wF hF0
 replace RR:Hid (RB w wF [(w.heap.size,(Ar k)),(b,(Ar bd))]):=by rw[hF0];exact (rbN RR (by simp))
 clear hF0
 obtain ⟨q1,q0,qT⟩:=RR.out.r.lts
 refine wp_told [(b,(Ar bd)),(w.heap.size,(Ar k))]
  [sV (U k),
   sV (U bd),
   sV (.int .i64 z),
   sV (.bool (decide (0<z))),
   sV (.bool (decide (0<z)))]
  RR.out.b (Rc (RR.out.at 1 rfl) (Rc (RR.out.at 0 rfl) RA.nil)) (StOk.of [] rfl StM.nil)
  (Obs.val (fun a' w' E=>ob_la 24 (.tmp 2) (E.od 2) (E.row (g:=w.heap.size) (c:=(Ar k)) 1 rfl) Tryz.underlying24)
  (Obs.val (fun a' w' E=>ob_la 24 (.tmp 1) (E.od 1) (E.row (g:=b) (c:=(Ar bd)) 0 rfl) Tryz.underlying24)
  (Obs.val (fun a' w' E=>ob_fcall 93 _ _ rfl (am2 (E.n (U k) 4 0) (E.n (U bd) 5 1)) (fc93 _ _) (hC.out w'))
  (Obs.val (fun a' w' E=>ob_binOp .gtr 3 (.tmp 6) (.const (.int .i64 0)) 3 rfl (E.n (.int .i64 z) 6 2) (evc a' (.int .i64 0)) (by simp[go_sem]))
  (Obs.val (fun a' w' E=>ob_assign (.tmp 7) rfl (E.n (.bool (decide (0<z))) 7 3))
  Obs.nil))))) ?_
 intro bs w1 aZ haZ F
 have eZ:aZ=(⟨#[(U k),(PT b),(PT w.heap.size),(.bool (decide (0<z))),(U k),(U bd),(.int .i64 z),(.bool (decide (0<z)))],[]⟩:Act):=haZ.trans (by kernel_rfl)
 subst eZ
 clear haZ
 replace RR:Hid (RB w w1 [(w.heap.size,(Ar k)),(b,(Ar bd))]):=⟨F.bw,(Rc (F.row 1 rfl) (Rc (F.row 0 rfl) RA.nil))⟩
 clear F qT q0 q1
 clear wF
 go_wp2
 exact bodyPost_ret (v:=(.bool (decide (0<z)))) (by simp[results,Tryz.results112,go_sem]) rfl ⟨rfl,RR.out.b⟩
set_option maxRecDepth 100000 in
theorem below1_raw(k b bd:Nat)(z:Int)(hC:Ds 93 #[(U k),(U bd)] (.int .i64 z))(w:World)(hB:HRw w b (Ar bd)):Calls Tryz.prog 113 #[(U k),(PT b)] w fun e w'=>e=.returned (.bool (decide (z<0)))∧Below w.heap.size w w':=by
 go_enter Tryz.func113,Tryz.ntmps113
 have RR:Hid (RB w w [(b,Ar bd)]):=⟨Below.refl _ _,Rc hB RA.nil⟩
 clear hB
 go_upto_region 1 with fail
 refine name_world _ ?_
 intro wF hF0
 replace RR:Hid (RB w wF [(w.heap.size,(Ar k)),(b,(Ar bd))]):=by rw[hF0];exact (rbN RR (by simp))
 clear hF0
 obtain ⟨q1,q0,qT⟩:=RR.out.r.lts
 refine wp_told [(b,(Ar bd)),(w.heap.size,(Ar k))]
  [sV (U k),
   sV (U bd),
   sV (.int .i64 z),
   sV (.bool (decide (z<0))),
   sV (.bool (decide (z<0)))]
  RR.out.b (Rc (RR.out.at 1 rfl) (Rc (RR.out.at 0 rfl) RA.nil)) (StOk.of [] rfl StM.nil)
  (Obs.val (fun a' w' E=>ob_la 24 (.tmp 2) (E.od 2) (E.row (g:=w.heap.size) (c:=(Ar k)) 1 rfl) Tryz.underlying24)
  (Obs.val (fun a' w' E=>ob_la 24 (.tmp 1) (E.od 1) (E.row (g:=b) (c:=(Ar bd)) 0 rfl) Tryz.underlying24)
  (Obs.val (fun a' w' E=>ob_fcall 93 _ _ rfl (am2 (E.n (U k) 4 0) (E.n (U bd) 5 1)) (fc93 _ _) (hC.out w'))
  (Obs.val (fun a' w' E=>ob_binOp .lss 3 (.tmp 6) (.const (.int .i64 0)) 3 rfl (E.n (.int .i64 z) 6 2) (evc a' (.int .i64 0)) (by simp[go_sem]))
  (Obs.val (fun a' w' E=>ob_assign (.tmp 7) rfl (E.n (.bool (decide (z<0))) 7 3))
  Obs.nil))))) ?_
 intro bs w1 aZ haZ F
 have eZ:aZ=(⟨#[(U k),(PT b),(PT w.heap.size),(.bool (decide (z<0))),(U k),(U bd),(.int .i64 z),(.bool (decide (z<0)))],[]⟩:Act):=haZ.trans (by kernel_rfl)
 subst eZ
 clear haZ
 replace RR:Hid (RB w w1 [(w.heap.size,(Ar k)),(b,(Ar bd))]):=⟨F.bw,(Rc (F.row 1 rfl) (Rc (F.row 0 rfl) RA.nil))⟩
 clear F qT q0 q1
 clear wF
 go_wp2
 exact bodyPost_ret (v:=(.bool (decide (z<0)))) (by simp[results,Tryz.results113,go_sem]) rfl ⟨rfl,RR.out.b⟩
theorem addr_none(x y:Nat)(w:World)(ht:Tabs w ki):Calls Tryz.prog 61 #[(A9 x y true)] w fun e w'=>e=.returned (.string { data:=#[] })∧Below w.heap.size w w':=
 roT (T:=fun w=>Tabs w ki) [] Tryz.func61 (fun _ hb=>ht.below hb)
theorem addr_some(x y:Nat)(a b d r:ByteArray)(hab:a.size+b.size≤9223372036854775807)(hw:IntKind.i64.wrap 12=12)(hl:(d.size:Int)=32)(hsl:∀ w,(Instr.slice 9 (.string d) (some (.int .i64 12)) none none).run Tryz.prog w=.ok (.string r) w)(h1:Ds 88 #[(U x)] (.string a))(h2:Ds 88 #[(U y)] (.string b))(hS:DoesT 110 #[(.string ((a++b)))] (.string d))(w:World)(ht:Tabs w ki):Calls Tryz.prog 61 #[(A9 x y false)] w fun e w'=>e=.returned (.string r)∧Below w.heap.size w w':=
 roT (T:=fun w=>Tabs w ki) [(3,[nO,nO,kC Tryz.func88 h1.out,nO,nO,kC Tryz.func88 h2.out,bO .add 9 (p:=(.string a)) (q:=(.string b)) (v:=(.string ((a++b)))) (by intros;simp[go_sem,hab]),cA Tryz.func110 hS.out]),(4,[nO,nO,lO Tryz.underlying9 hl,bO .sub 3 (p:=(.int .i64 32)) (q:=(.int .i64 20)) (v:=(.int .i64 12)) (by intros;simp[go_sem,hw]),sO 9 (p:=(.string d)) (l:=(.int .i64 12)) (v:=(.string r)) (by intros;simp[go_sem,hsl])])] Tryz.func61 (fun _ hb=>ht.below hb)
end
section
open Go.RowKit Go.Sort
set_option maxRecDepth 100000
theorem rfit_zero(k:Nat)(hE0:∀ w,(Op.equalIn 10000 24 (U k) (U 0)).run Tryz.prog w=.ok true w)(w:World):Calls Tryz.prog 22 #[(U k)] w fun e w'=>e=.returned (.bool false)∧Below w.heap.size w w':=
 ro [(1,[nO,dO 24 [] (xs:=[]) (bd24_),bO .neq 24 (p:=(U k)) (q:=(U 0)) (v:=(.bool false)) (by intros;simp[go_sem,hE0])])] Tryz.func22
theorem rfit_big(k od:Nat)(z:Int)(hz:¬ z<0)(hO:Ds 28 #[] (U od))(hC:Ds 42 #[(U k),(U od)] (.int .i64 z))(hE0:∀ w,(Op.equalIn 10000 24 (U k) (U 0)).run Tryz.prog w=.ok false w)(w:World):Calls Tryz.prog 22 #[(U k)] w fun e w'=>e=.returned (.bool false)∧Below w.heap.size w w':=
 ro [(1,[nO,dO 24 [] (xs:=[]) (bd24_),bO .neq 24 (p:=(U k)) (q:=(U 0)) (v:=(.bool true)) (by intros;simp[go_sem,hE0]),nO,nO,kC Tryz.func28 hO.out,kC Tryz.func42 hC.out,bO .lss 3 (p:=(.int .i64 z)) (q:=(.int .i64 0)) (v:=(.bool false)) (by intros;simp[go_sem,hz])])] Tryz.func22
theorem rfit_ok(k od:Nat)(z:Int)(hz:z<0)(hO:Ds 28 #[] (U od))(hC:Ds 42 #[(U k),(U od)] (.int .i64 z))(hE0:∀ w,(Op.equalIn 10000 24 (U k) (U 0)).run Tryz.prog w=.ok false w)(w:World):Calls Tryz.prog 22 #[(U k)] w fun e w'=>e=.returned (.bool true)∧Below w.heap.size w w':=
 ro [(1,[nO,dO 24 [] (xs:=[]) (bd24_),bO .neq 24 (p:=(U k)) (q:=(U 0)) (v:=(.bool true)) (by intros;simp[go_sem,hE0]),nO,nO,kC Tryz.func28 hO.out,kC Tryz.func42 hC.out,bO .lss 3 (p:=(.int .i64 z)) (q:=(.int .i64 0)) (v:=(.bool true)) (by intros;simp[go_sem,hz])])] Tryz.func22
theorem rpublic_no(k:Nat)(hF:Ds 22 #[(U k)] (.bool false))(w:World):Calls Tryz.prog 23 #[(U k)] w fun e w'=>e=.returned (.tuple #[(A9 0 0 false),(.int .i64 5)])∧Below w.heap.size w w':=
 ro [(1,[nO,kC Tryz.func22 hF.out,uO .not (p:=(.bool false)) (v:=(.bool true)) (by intros;simp[go_sem])]),(2,[dO 38 [] (xs:=[]) (bd38_)])] Tryz.func23
theorem rpublic_yes(k gx gy px py:Nat)(gn pn:Bool)(hF:Ds 22 #[(U k)] (.bool true))(hB:Ds 39 #[] (A9 gx gy gn))(hM:Ds 38 #[(U k),(A9 gx gy gn)] (A9 px py pn))(w:World):Calls Tryz.prog 23 #[(U k)] w fun e w'=>e=.returned (.tuple #[(A9 px py pn),(.int .i64 0)])∧Below w.heap.size w w':=
 ro [(1,[nO,kC Tryz.func22 hF.out,uO .not (p:=(.bool true)) (v:=(.bool false)) (by intros;simp[go_sem])]),(3,[nO,kC Tryz.func39 hB.out,kC Tryz.func38 hM.out])] Tryz.func23
theorem raddr_none(x y:Nat)(w:World):Calls Tryz.prog 24 #[(A9 x y true)] w fun e w'=>e=.returned (.string { data:=#[] })∧Below w.heap.size w w':=
 ro [] Tryz.func24
theorem raddr_some(x y:Nat)(a b d r:ByteArray)(hab:a.size+b.size≤9223372036854775807)(hsl:∀ w,(Instr.slice 9 (.string d) (some (.int .i64 12)) none none).run Tryz.prog w=.ok (.string r) w)(h1:Ds 37 #[(U x)] (.string a))(h2:Ds 37 #[(U y)] (.string b))(hS:Ds 36 #[(.string ((a++b)))] (.string d))(w:World):Calls Tryz.prog 24 #[(A9 x y false)] w fun e w'=>e=.returned (.string r)∧Below w.heap.size w w':=
 ro [(3,[nO,nO,kC Tryz.func37 h1.out,nO,nO,kC Tryz.func37 h2.out,bO .add 9 (p:=(.string a)) (q:=(.string b)) (v:=(.string ((a++b)))) (by intros;simp[go_sem,hab]),kC Tryz.func36 hS.out,sO 9 (p:=(.string d)) (l:=(.int .i64 12)) (v:=(.string r)) (by intros;simp[go_sem,hsl])])] Tryz.func24
theorem rwho_no(k:Nat)(hP:Ds 23 #[(U k)] (.tuple #[(A9 0 0 false),(.int .i64 5)]))(w:World):Calls Tryz.prog 29 #[(U k)] w fun e w'=>e=.returned (.tuple #[(.string { data:=#[] }),(.int .i64 5)])∧Below w.heap.size w w':=
 ro [(1,[nO,kC Tryz.func23 hP.out]),(2,[nO,bO .neq 3 (p:=(.int .i64 5)) (q:=(.int .i64 0)) (v:=(.bool true)) (by intros;simp[go_sem])])] Tryz.func29
theorem rwho_yes(k px py:Nat)(pn:Bool)(s:ByteArray)(hP:Ds 23 #[(U k)] (.tuple #[(A9 px py pn),(.int .i64 0)]))(hA:Ds 24 #[(A9 px py pn)] (.string s))(w:World):Calls Tryz.prog 29 #[(U k)] w fun e w'=>e=.returned (.tuple #[(.string s),(.int .i64 0)])∧Below w.heap.size w w':=
 ro [(1,[nO,kC Tryz.func23 hP.out]),(2,[nO,bO .neq 3 (p:=(.int .i64 0)) (q:=(.int .i64 0)) (v:=(.bool false)) (by intros;simp[go_sem])]),(4,[nO,kC Tryz.func24 hA.out])] Tryz.func29
end
end Go.Proofs.YtfhppenjbmmadaaGreatDoor
