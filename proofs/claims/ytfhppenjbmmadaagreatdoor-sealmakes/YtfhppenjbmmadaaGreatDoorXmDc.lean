import Derived.Test.YtfhppenjbmmadaaGreatDoorXmM08
namespace Go.Proofs.YtfhppenjbmmadaaGreatDoor
set_option linter.unusedVariables false
set_option maxHeartbeats 8000000
open Go.RowKit Go.Sort
theorem setRow_setRow{w:World}{g:Nat}{c:Array Value}(h:HRw w g c)(c1 c2:Array Value):(w.setRow g c1).setRow g c2=w.setRow g c2:=by
 obtain ⟨t,h⟩:=h
 unfold World.setRow
 congr 1
 apply Array.ext_getElem?
 intro j
 simp only[Array.getElem?_modify]
 by_cases hj:g=j
 ·subst hj;simp[h]
 ·simp[hj]
theorem set4{w:World}{g:Nat}{c:Array Value}(h:HRw w g c)(hn:c.size=4)(a b d e:Value) :
  (((w.setCell ⟨g,0,none⟩ a).setCell ⟨g,1,none⟩ b).setCell ⟨g,2,none⟩ d).setCell ⟨g,3,none⟩ e=w.setRow g #[a,b,d,e]:=by
 rw[h.setCell,(h.set_same _).setCell,setRow_setRow h,(h.set_same _).setCell,setRow_setRow h,(h.set_same _).setCell,setRow_setRow h]
 congr 1
 apply Array.ext_getElem?
 intro j
 simp only[Array.getElem?_setIfInBounds,Array.size_setIfInBounds,hn]
 have hc:j=0∨j=1∨j=2∨j=3∨4≤j:=by omega
 rcases hc with rfl | rfl | rfl | rfl | hj
 ·simp
 ·simp
 ·simp
 ·simp
 ·rw[if_neg (by omega),if_neg (by omega),if_neg (by omega),if_neg (by omega),Array.getElem?_eq_none (by omega),Array.getElem?_eq_none (by simpa using hj)]
theorem results_cell2'{P:Program}{fn:Func}{p q:Tmp}{ty ty2:TypeId}(h:fn.results=#[.cell p ty,.cell q ty2]){tmps:Array Value}{w:World}{g g2:Nat}{c c2:Array Value}{n n2:Nat}{e e2:TypeId}(h1:tmps.getD p undef=.pointer (some ⟨g,0,none⟩))(h2:tmps.getD q undef=.pointer (some ⟨g2,0,none⟩))(r1:HRw w g c)(r2:HRw w g2 c2)(n1:c.size=n)(n2':c2.size=n2)(hu:P.underlying ty=some (.array n e))(hi:(P.info? ty).map (·.size)=some n)(hu2:P.underlying ty2=some (.array n2 e2))(hi2:(P.info? ty2).map (·.size)=some n2) :
  (results fn tmps).run P w=.ok (.tuple #[.agg c,.agg c2]) w:=
 results_cell2 (P:=P) (fn:=fn) h { tmps:=tmps,defers:=[] } w h1 h2 r1 r2 n1 n2' hu hi hu2 hi2
theorem wpList_rowL{P:Program}{ops:Array Oper}{rest:List Oper}{o:Oper}{a:Act}{w:World}{Q:Exit→Act→World→Prop}(hgd:o.guard=none)(ty:TypeId)(x:Operand)(ho:o.op=.load ty x)(g:Nat)(hx:a.eval x=.pointer (some ⟨g,0,none⟩)){c:Array Value}{n:Nat}{e:TypeId}(hr:HRw w g c)(hn:c.size=n)(hu:P.underlying ty=some (.array n e))(hi:(P.info? ty).map (·.size)=some n)(h:wpList P ops Q rest (a.put o.dst (.agg c)) w):wpList P ops Q (o::rest) a w:=by
 obtain ⟨t,hr⟩:=hr
 exact wpList_load_row hgd ty x ho g hx t c (0,0) _ hr hu rfl (by rw[hn];exact hi) h
theorem wpList_rowT{P:Program}{ops:Array Oper}{rest:List Oper}{o:Oper}{a:Act}{w:World}{Q:Exit→Act→World→Prop}(hgd:o.guard=none)(ty:TypeId)(x y:Operand)(ho:o.op=.store ty x y)(g:Nat){c c':Array Value}{n:Nat}(hx:a.eval x=.pointer (some ⟨g,0,none⟩))(hy:a.eval y=.agg c')(hr:HRw w g c)(hn:c.size=n)(hn':c'.size=n)(h1:c'.all (·.oneCell')=true)(hi:(P.info? ty).map (·.size)=some n)(h:wpList P ops Q rest (a.put o.dst undef) (w.setRow g c')):wpList P ops Q (o::rest) a w:=by
 obtain ⟨t,hr⟩:=hr
 exact wpList_store_row hgd ty x y ho g c' hx hy t c hr (by rw[hn'];exact hi) (by rw[hn,hn']) h1 h
set_option maxRecDepth 100000 in
theorem zero_raw(hg lw dv:Nat)(s1:Hid (∀ w,Calls Tryz.prog 135 #[U dv] w fun e w'=>e=.returned (.int .i64 0)∧Below w.heap.size w w'))(w:World) :
  Calls Tryz.prog 153 #[U hg,U lw,U dv] w fun e w'=>e=.returned (.tuple #[I4 0 0 0 0,I4 0 0 0 0])∧Below w.heap.size w w':=by
 go_enter Tryz.func153,Tryz.ntmps153
 go_wp2
 go_step3
 go_wp2_with fail
 refine (s1.out _).mono ?_
 rintro e w1 ⟨rfl,hb1⟩
 have F1:Hid (D0 w w1 hg lw dv):=⟨(HRw.old (HRw.old (HRw.old (HRw.old (HRw.last rfl))))).below hb1,(HRw.old (HRw.old (HRw.old (HRw.last (by simp))))).below hb1,(HRw.old (HRw.old (HRw.last (by simp)))).below hb1,(HRw.old (HRw.last (by simp))).below hb1,(HRw.last (by simp)).below hb1,bCl (by (repeat (first | exact Below.refl _ _ | refine bAl ?_ _))) hb1⟩
 clear hb1
 have R1:=F1.out.r1
 have R2:=F1.out.r2
 have g0:=R1.cell 0
 have g1:=R1.cell 1
 have g2:=R1.cell 2
 have g3:=R1.cell 3
 simp at g0 g1 g2 g3
 have gz0:=R1.frozen 0
 have gz1:=R1.frozen 1
 have gz2:=R1.frozen 2
 have gz3:=R1.frozen 3
 have gq:=R1.lt
 have k0:=R2.cell 0
 have k1:=R2.cell 1
 have k2:=R2.cell 2
 have k3:=R2.cell 3
 simp at k0 k1 k2 k3
 have kz0:=R2.frozen 0
 have kz1:=R2.frozen 1
 have kz2:=R2.frozen 2
 have kz3:=R2.frozen 3
 have kq:=R2.lt
 have H1:Hid (HRw w1 (w.heap.size+1+1+1) #[.int .u64 0,.int .u64 0,.int .u64 0,.int .u64 0]):=R1
 have H2:Hid (HRw w1 (w.heap.size+1+1+1+1) #[.int .u64 0,.int .u64 0,.int .u64 0,.int .u64 0]):=R2
 clear R1 R2
 go_wp2
 unfold Exit.noGoto
 simp only[]
 have R1:HRw w1 (w.heap.size+1+1+1) #[.int .u64 0,.int .u64 0,.int .u64 0,.int .u64 0]:=H1.out
 have R2:HRw w1 (w.heap.size+1+1+1+1) #[.int .u64 0,.int .u64 0,.int .u64 0,.int .u64 0]:=H2.out
 rw[set4 R1 rfl,set4 (R2.set_other _ (by omega)) rfl]
 have hb:=F1.out.b
 refine bodyPost_ret (v:=.tuple #[I4 0 0 0 0,I4 0 0 0 0]) (results_cell2' (p:=6) (q:=7) (ty:=24) (ty2:=24) rfl (g:=w.heap.size+1+1+1) (g2:=w.heap.size+1+1+1+1) rfl rfl ((R1.set_same _).set_other _ (by omega)) ((R2.set_other _ (by omega)).set_same _) rfl rfl Tryz.underlying24 (by kernel_rfl) Tryz.underlying24 (by kernel_rfl)) rfl ⟨rfl,bSR (bSR hb (by omega) _) (by omega) _⟩
theorem divide_any(high low dv:Nat)(hh:high<W)(hl:low<W)(hd:dv<W)(w:World) :
  Calls Tryz.prog 153 #[U high,U low,U dv] w fun e w'=>e=.returned (.tuple #[U (dq high low dv),U (dr high low dv)])∧Below w.heap.size w w':=by
 rcases Nat.eq_zero_or_pos dv with h | h
 ·subst h
  have e1:dq high low 0=0:=by unfold dq;rw[Nat.div_zero];decide +kernel
  have e2:dr high low 0=0:=rfl
  rw[e1,e2,U_zero]
  exact zero_raw high low 0 (fun w=>by have:=bits_any 0 w;rwa [show bitsN 0=0 by decide +kernel] at this) w
 ·exact divide_pos high low dv hh hl hd h w
set_option maxRecDepth 100000 in
theorem div_raw(a b q r:Nat)(c:Hid (∀ w,Calls Tryz.prog 153 #[I4 0 0 0 0,U a,U b] w fun e w'=>e=.returned (.tuple #[U q,U r])∧Below w.heap.size w w'))(w:World) :
  Calls Tryz.prog 148 #[U a,U b] w fun e w'=>e=.returned (.tuple #[U q,U r])∧Below w.heap.size w w':=by
 go_enter Tryz.func148,Tryz.ntmps148
 go_wp2_with fail
 refine (c.out _).mono ?_
 rintro e w1 ⟨rfl,hb1⟩
 have R1:HRw w1 (w.heap.size+1+1) #[.int .u64 0,.int .u64 0,.int .u64 0,.int .u64 0]:=(HRw.old (HRw.last (by simp))).below hb1
 have R2:HRw w1 (w.heap.size+1+1+1) #[.int .u64 0,.int .u64 0,.int .u64 0,.int .u64 0]:=(HRw.last (by simp)).below hb1
 have HB:Hid (Below w.heap.size w w1):=bCl (by (repeat (first | exact Below.refl _ _ | refine bAl ?_ _))) hb1
 clear hb1
 have g0:=R1.cell 0
 have g1:=R1.cell 1
 have g2:=R1.cell 2
 have g3:=R1.cell 3
 simp at g0 g1 g2 g3
 have gz0:=R1.frozen 0
 have gz1:=R1.frozen 1
 have gz2:=R1.frozen 2
 have gz3:=R1.frozen 3
 have gq:=R1.lt
 have k0:=R2.cell 0
 have k1:=R2.cell 1
 have k2:=R2.cell 2
 have k3:=R2.cell 3
 simp at k0 k1 k2 k3
 have kz0:=R2.frozen 0
 have kz1:=R2.frozen 1
 have kz2:=R2.frozen 2
 have kz3:=R2.frozen 3
 have kq:=R2.lt
 have H1:Hid (HRw w1 (w.heap.size+1+1) #[.int .u64 0,.int .u64 0,.int .u64 0,.int .u64 0]):=R1
 have H2:Hid (HRw w1 (w.heap.size+1+1+1) #[.int .u64 0,.int .u64 0,.int .u64 0,.int .u64 0]):=R2
 clear R1 R2
 go_wp2
 have R1:HRw w1 (w.heap.size+1+1) #[.int .u64 0,.int .u64 0,.int .u64 0,.int .u64 0]:=H1.out
 have R2:HRw w1 (w.heap.size+1+1+1) #[.int .u64 0,.int .u64 0,.int .u64 0,.int .u64 0]:=H2.out
 rw[set4 R1 rfl,set4 (R2.set_other _ (by omega)) rfl]
 exact bodyPost_ret (v:=.tuple #[U q,U r]) (results_cell2' (p:=4) (q:=5) (ty:=24) (ty2:=24) rfl (g:=w.heap.size+1+1) (g2:=w.heap.size+1+1+1) rfl rfl ((R1.set_same _).set_other _ (by omega)) ((R2.set_other _ (by omega)).set_same _) rfl rfl Tryz.underlying24 (by kernel_rfl) Tryz.underlying24 (by kernel_rfl)) rfl ⟨rfl,bSR (bSR HB.out (by omega) _) (by omega) _⟩
set_option maxRecDepth 100000 in
theorem rest_raw(x a b q r:Nat)(c:Hid (∀ w,Calls Tryz.prog 153 #[U x,U a,U b] w fun e w'=>e=.returned (.tuple #[U q,U r])∧Below w.heap.size w w'))(w:World) :
  Calls Tryz.prog 138 #[U x,U a,U b] w fun e w'=>e=.returned (U r)∧Below w.heap.size w w':=by
 go_enter Tryz.func138,Tryz.ntmps138
 go_wp2_with fail
 refine (c.out _).mono ?_
 rintro e w1 ⟨rfl,hb1⟩
 have R1:HRw w1 (w.heap.size+1+1+1) #[.int .u64 0,.int .u64 0,.int .u64 0,.int .u64 0]:=(HRw.last (by simp)).below hb1
 have HB:Hid (Below w.heap.size w w1):=bCl (by (repeat (first | exact Below.refl _ _ | refine bAl ?_ _))) hb1
 clear hb1
 have H1:Hid (HRw w1 (w.heap.size+1+1+1) #[.int .u64 0,.int .u64 0,.int .u64 0,.int .u64 0]):=R1
 clear R1
 go_upto_region 2 with fail
 have R1:HRw w1 (w.heap.size+1+1+1) #[.int .u64 0,.int .u64 0,.int .u64 0,.int .u64 0]:=H1.out
 refine wp_region_lit ?_
 refine wpList_rowL rfl 24 (.tmp 8) rfl (w1.heap.size+1) rfl (HRw.last (by simp)) rfl Tryz.underlying24 (by kernel_rfl) ?_
 refine wpList_rowT rfl 24 (.tmp 6) (.tmp 16) rfl (w.heap.size+1+1+1) rfl rfl (HRw.old (HRw.old R1)) rfl rfl (by simp[Value.oneCell']) (by kernel_rfl) ?_
 have E1:=(HRw.old (o:=Obj.cells #[B (l0 r),B (l1 r),B (l2 r),B (l3 r)] 24) (HRw.old (o:=Obj.cells #[B (l0 q),B (l1 q),B (l2 q),B (l3 q)] 24) R1)).set_same #[B (l0 r),B (l1 r),B (l2 r),B (l3 r)]
 have E2:=bSR (bAl (bAl HB.out (Obj.cells #[B (l0 q),B (l1 q),B (l2 q),B (l3 q)] 24)) (Obj.cells #[B (l0 r),B (l1 r),B (l2 r),B (l3 r)] 24)) (g:=w.heap.size+1+1+1) (by omega) #[B (l0 r),B (l1 r),B (l2 r),B (l3 r)]
 generalize ((w1.alloc (Obj.cells #[B (l0 q),B (l1 q),B (l2 q),B (l3 q)] 24)).alloc (Obj.cells #[B (l0 r),B (l1 r),B (l2 r),B (l3 r)] 24)).setRow (w.heap.size+1+1+1) #[B (l0 r),B (l1 r),B (l2 r),B (l3 r)]=w9 at *
 have E3:Hid (HRw w9 (w.heap.size+1+1+1) #[B (l0 r),B (l1 r),B (l2 r),B (l3 r)]):=E1
 have E4:Hid (Below w.heap.size w w9):=E2
 clear E1 E2 R1 H1 HB
 go_wp2
 exact bodyPost_ret (v:=U r) (rC1 (p:=6) (ty:=24) rfl (g:=w.heap.size+1+1+1) rfl E3.out rfl Tryz.underlying24 (by kernel_rfl)) rfl ⟨rfl,E4.out⟩
set_option maxRecDepth 100000 in
theorem mul_raw(a b q r:Nat)(c:Hid (∀ w,Calls Tryz.prog 137 #[U a,U b] w fun e w'=>e=.returned (.tuple #[U q,U r])∧Below w.heap.size w w'))(w:World) :
  Calls Tryz.prog 149 #[U a,U b] w fun e w'=>e=.returned (U r)∧Below w.heap.size w w':=by
 go_enter Tryz.func149,Tryz.ntmps149
 go_wp2_with fail
 refine (c.out _).mono ?_
 rintro e w1 ⟨rfl,hb1⟩
 have R1:HRw w1 (w.heap.size+1+1) #[.int .u64 0,.int .u64 0,.int .u64 0,.int .u64 0]:=(HRw.last (by simp)).below hb1
 have HB:Hid (Below w.heap.size w w1):=bCl (by (repeat (first | exact Below.refl _ _ | refine bAl ?_ _))) hb1
 clear hb1
 have H1:Hid (HRw w1 (w.heap.size+1+1) #[.int .u64 0,.int .u64 0,.int .u64 0,.int .u64 0]):=R1
 clear R1
 go_upto_region 2 with fail
 have R1:HRw w1 (w.heap.size+1+1) #[.int .u64 0,.int .u64 0,.int .u64 0,.int .u64 0]:=H1.out
 refine wp_region_lit ?_
 refine wpList_rowL rfl 24 (.tmp 6) rfl (w1.heap.size+1) rfl (HRw.last (by simp)) rfl Tryz.underlying24 (by kernel_rfl) ?_
 refine wpList_rowT rfl 24 (.tmp 4) (.tmp 13) rfl (w.heap.size+1+1) rfl rfl (HRw.old (HRw.old R1)) rfl rfl (by simp[Value.oneCell']) (by kernel_rfl) ?_
 have E1:=(HRw.old (o:=Obj.cells #[B (l0 r),B (l1 r),B (l2 r),B (l3 r)] 24) (HRw.old (o:=Obj.cells #[B (l0 q),B (l1 q),B (l2 q),B (l3 q)] 24) R1)).set_same #[B (l0 r),B (l1 r),B (l2 r),B (l3 r)]
 have E2:=bSR (bAl (bAl HB.out (Obj.cells #[B (l0 q),B (l1 q),B (l2 q),B (l3 q)] 24)) (Obj.cells #[B (l0 r),B (l1 r),B (l2 r),B (l3 r)] 24)) (g:=w.heap.size+1+1) (by omega) #[B (l0 r),B (l1 r),B (l2 r),B (l3 r)]
 generalize ((w1.alloc (Obj.cells #[B (l0 q),B (l1 q),B (l2 q),B (l3 q)] 24)).alloc (Obj.cells #[B (l0 r),B (l1 r),B (l2 r),B (l3 r)] 24)).setRow (w.heap.size+1+1) #[B (l0 r),B (l1 r),B (l2 r),B (l3 r)]=w9 at *
 have E3:Hid (HRw w9 (w.heap.size+1+1) #[B (l0 r),B (l1 r),B (l2 r),B (l3 r)]):=E1
 have E4:Hid (Below w.heap.size w w9):=E2
 clear E1 E2 R1 H1 HB
 go_wp2
 exact bodyPost_ret (v:=U r) (rC1 (p:=4) (ty:=24) rfl (g:=w.heap.size+1+1) rfl E3.out rfl Tryz.underlying24 (by kernel_rfl)) rfl ⟨rfl,E4.out⟩
theorem div_any(a b:Nat)(ha:a<W)(hb:b<W)(w:World):Calls Tryz.prog 148 #[U a,U b] w fun e w'=>e=.returned (.tuple #[U (a/b),U (dr 0 a b)])∧Below w.heap.size w w':=by
 have e:dq 0 a b=a/b:=by
  unfold dq
  rw[Nat.zero_mul,Nat.zero_add]
  exact Nat.mod_eq_of_lt (Nat.lt_of_le_of_lt (Nat.div_le_self _ _) ha)
 rw[← e]
 exact div_raw a b _ _ (fun w=>by have:=divide_any 0 a b W_pos ha hb w;rwa [U_zero] at this) w
theorem rest_any(x a b:Nat)(hx:x<W)(ha:a<W)(hb:b<W)(w:World):Calls Tryz.prog 138 #[U x,U a,U b] w fun e w'=>e=.returned (U (dr x a b))∧Below w.heap.size w w':=
 rest_raw x a b _ _ (divide_any x a b hx ha hb) w
theorem mul_any(a b:Nat)(ha:a<W)(hb:b<W)(w:World):Calls Tryz.prog 149 #[U a,U b] w fun e w'=>e=.returned (U (a*b%W))∧Below w.heap.size w w':=
 mul_raw a b _ _ (wide_any a b ha hb) w
end Go.Proofs.YtfhppenjbmmadaaGreatDoor
