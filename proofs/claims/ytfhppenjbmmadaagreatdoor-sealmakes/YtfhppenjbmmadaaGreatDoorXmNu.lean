import Derived.Test.YtfhppenjbmmadaaGreatDoorXmM41
namespace Go.Proofs.YtfhppenjbmmadaaGreatDoor
set_option linter.unusedVariables false
set_option maxHeartbeats 8000000
open Go.RowKit Go.Sort
set_option maxRecDepth 100000
def kA:List Nat:=[8,9,10,11,12,13,14,15,16,17,18,19,20,21,22,23,24,25,26,27,28,29,30,31,32,33,34,35,36,37,38,39,40,41,42,43,44,45,46,47,48,49,50,51,52,53,54,55,56,57,58,59,60,61,62,63,64,65,66,67,68,69,70,71,72,73,74,75,76,77,78,79,80,81,82,83,84,85,86,87,88,89,90,91,92,93,94,95,96,97,98,99,100,101]
def kB:List Nat:=[9,10,11,12,13,14,15,16,17,18,19,20,21,22,23,24,25,26,27,28,29,30,31,32,33,34,35,36,37,38,39,40,41,42,43,44,45,46,47,48,49,50,51,52,53,54,55,56,57,58,59,60,61,62,63,64,65,66,67,68,69,70,71,72,73,74,75,76,77,78,79,80,81,82,83,84,85,86,87,88,89,90,91,92,93,94,95,96,97,98,99,100,101]
def kF (s:ByteArray) (d:Nat) (x y:Option SV):Vs:=[V (.string s),V (U d),none,R 0,R 1,V (.int .i64 0),R 2,x,y,none,none,none,none,none,none,none,none,none,none,none,none,none,none,none,none,none,none,none,none,none,none,none,none,none,none,none,none,none,none,none,none,none,none,none,none,none,none,none,none,none,none,none,none,none,none,none,none,none,none,none,none,none,none,none,none,none,none,none,none,none,none,none,none,none,none,none,none,none,none,none,none,none,none,none,none,none,none,none,none,none,none,none,none,none,none,none,none,none,none,none,none,none]
theorem HeadI.less{w0 w:World}{scr:List Nat}{tm:Vs}{bs:List Nat}{cs:List (Array Value)}{a:Act}(h:HeadI w0 scr tm bs cs a w)(scr' ids:List Nat)(tm':Vs)(cs':List (Array Value))(h1:∀ u,(dropF scr' 0 (fillF scr u 0 tm)).map (rnS (pos ids))=dropF scr' 0 tm')(h2:∀ u,inF scr' ids (fillF scr u 0 tm)=true)(h3:ids.map (rowOf (numC 0 cs))=cs'.map some)(h4:nodupB ids=true):HeadI w0 scr' tm' (ids.map (bN bs)) cs' a w:=by
 obtain ⟨u,I⟩:=h.inv
 exact I.head rfl (h1 u) (h2 u) h3 h4
theorem mfc34(xs:Array Operand)(ts:Array TypeId)(a:Act)(ty:TypeId)(w:World):(do let d ← resolve a.eval { callee:=.value (.func 34),args:=xs,argTypes:=ts } ty;invoke d.target d.args:Sem Next).run Tryz.prog w=.ok (.enter 34 (xs.map a.eval)) w:=by
 simp[go_sem]
theorem mfc35(xs:Array Operand)(ts:Array TypeId)(a:Act)(ty:TypeId)(w:World):(do let d ← resolve a.eval { callee:=.value (.func 35),args:=xs,argTypes:=ts } ty;invoke d.target d.args:Sem Next).run Tryz.prog w=.ok (.enter 35 (xs.map a.eval)) w:=by
 simp[go_sem]
theorem mfc36(xs:Array Operand)(ts:Array TypeId)(a:Act)(ty:TypeId)(w:World):(do let d ← resolve a.eval { callee:=.value (.func 36),args:=xs,argTypes:=ts } ty;invoke d.target d.args:Sem Next).run Tryz.prog w=.ok (.enter 36 (xs.map a.eval)) w:=by
 simp[go_sem]
theorem mfc37(xs:Array Operand)(ts:Array TypeId)(a:Act)(ty:TypeId)(w:World):(do let d ← resolve a.eval { callee:=.value (.func 37),args:=xs,argTypes:=ts } ty;invoke d.target d.args:Sem Next).run Tryz.prog w=.ok (.enter 37 (xs.map a.eval)) w:=by
 simp[go_sem]
theorem HeadI.more{w0 w w2:World}{scr scr':List Nat}{tm tm':Vs}{bs:List Nat}{cs:List (Array Value)}{a a2:Act}{x:Nat}{c:Array Value}(h:HeadI w0 scr tm bs cs a w)(hfr:∃ u,a2.tmps=((fillF scr' u 0 tm').map (upO (bN (bs++[x])))).toArray)(hd:a2.defers=[])(hb:RowKit.Below w0.heap.size w0 w2)(hrows:∀ (i:Nat) (c:Array Value),cs[i]? = some c→HRw w2 (bN bs i) c)(hx:w.heap.size≤x)(hr:HRw w2 x c):HeadI w0 scr' tm' (bs++[x]) (cs++[c]) a2 w2:=by
 have hl:=h.ln
 have hb1:∀ i,i<bs.length→bN (bs++[x]) i=bN bs i:=fun i hi=>by simp[bN,List.getD,List.getElem?_append_left hi]
 have hb2:bN (bs++[x]) bs.length=x:=by simp[bN,List.getD]
 refine ⟨hfr,hd,hb,?_,by simp[hl],?_,?_⟩
 ·intro i c' hc
  rcases Nat.lt_or_ge i cs.length with hi | hi
  ·rw[List.getElem?_append_left hi] at hc
   rw[hb1 i (by omega)]
   exact hrows i c' hc
  ·have hi2:i=cs.length:=by
    have:=(List.getElem?_eq_some_iff.1 hc).1
    simp at this;omega
   subst hi2
   simp at hc
   subst hc
   rw[← hl,hb2]
   exact hr
 ·rw[List.nodup_append]
  refine ⟨h.nd,by simp,?_⟩
  intro y hy z hz
  simp at hz
  subst hz
  obtain ⟨i,hi⟩:=List.mem_iff_getElem?.1 hy
  have hi1:=(List.getElem?_eq_some_iff.1 hi).1
  have:=(h.row i _ (List.getElem?_eq_getElem (by omega))).lt
  have e:bN bs i=y:=by simp[bN,List.getD,hi]
  omega
 ·intro i hi
  rcases Nat.lt_or_ge i bs.length with hj | hj
  ·rw[hb1 i hj];exact h.lo i hj
  ·have:i=bs.length:=by simp at hi;omega
   subst this
   rw[hb2]
   exact Nat.le_trans h.bw.size hx
theorem three{bs:List Nat}(h:bs.length=3):∃ x y z,bs=[x,y,z]:=by
 match bs,h with
 | [x,y,z],_=>exact ⟨x,y,z,rfl⟩
theorem rmake_fin{w w':World}{a:Act}{scr:List Nat}{tm:Vs}{bs:List Nat}{cs:List (Array Value)}(h:HeadI w scr tm bs cs a w'){rx ry:Nat}{ro:Bool}{re:Int}(h4:∀ u,(fillF scr u 0 tm)[4]? = some (R 1))(h5:∀ u,(fillF scr u 0 tm)[5]? = some (V (.int .i64 re)))(hr:cs[1]? = some (P9 rx ry ro)) :
  bodyPost Tryz.prog Tryz.f10 (fun e w'=>e=.returned (.tuple #[A9 rx ry ro,.int .i64 re])∧RowKit.Below w.heap.size w w') .ret a w':=by
 obtain ⟨u,hf⟩:=h.fr
 have k4:a.tmps.getD 4 undef=.pointer (some ⟨bN bs 1,0,none⟩):=by rw[hf,Array.getD_eq_getD_getElem?,List.getElem?_toArray,List.getElem?_map,h4 u];rfl
 have k5:a.tmps.getD 5 undef=.int .i64 re:=by rw[hf,Array.getD_eq_getD_getElem?,List.getElem?_toArray,List.getElem?_map,h5 u];rfl
 exact bodyPost_ret (resAT (p:=4) (q:=5) (ty:=27) rfl k4 k5 (h.row 1 _ hr) Tryz.underlying27 rfl (by kernel_rfl)) h.df ⟨rfl,h.bw⟩
theorem rmake_raw(s b:ByteArray)(d on en hh gx gy:Nat)(gn:Bool)(f:Nat)(hf:f≤256)(g:Nat→ByteArray)(rN kN px py vN mN aN sN zN:Nat→Nat)(pn fN bo od:Nat→Bool)(cN eN qN:Nat→Int)(hl:(s.size:Int)=32)(hz1:b.size+s.size≤9223372036854775806)(hFit:Ds 22 #[U d] (.bool true))(hO:Ds 28 #[] (U on))(hB:Ds 37 #[U d] (.string b))(hE:Ds 35 #[.string s] (U en))(hB2:Ds 39 #[] (A9 gx gy gn))(hH:Ds 43 #[] (U hh))(hS:∀ i:Nat,i<256→Ds 36 #[.string (b++s++strOfNums [(i:Int)])] (.string (g i)))(hN:∀ i,i<256→Ds 35 #[.string (g i)] (U (rN i)))(hA:∀ i,i<256→Ds 34 #[U (rN i),U 0,U on] (U (kN i)))(hM:∀ i,i<256→Ds 38 #[U (kN i),A9 gx gy gn] (A9 (px i) (py i) (pn i)))(hI:∀ i,i<256→Ds 40 #[U (kN i),U on] (.tuple #[U (vN i),.bool (fN i)]))(hT1:∀ i,i<256→Ds 41 #[U (px i),U d] (U (mN i)))(hA2:∀ i,i<256→Ds 34 #[U en,U (mN i),U on] (U (aN i)))(hT2:∀ i,i<256→Ds 41 #[U (vN i),U (aN i)] (U (sN i)))(hC:∀ i,i<256→Ds 42 #[U (px i),U on] (.int .i64 (cN i)))(hC2:∀ i,i<256→Ds 42 #[U (sN i),U hh] (.int .i64 (eN i)))(hSu:∀ i,i<256→Ds 27 #[U on,U (sN i)] (.tuple #[U (zN i),.bool (bo i)]))(hk0:∀ i,i<256→∀ w,(Op.equalIn 10000 24 (U (kN i)) (U 0)).run Tryz.prog w=.ok (decide (kN i=0)) w)(hx0:∀ i,i<256→∀ w,(Op.equalIn 10000 24 (U (px i)) (U 0)).run Tryz.prog w=.ok (decide (px i=0)) w)(hs0:∀ i,i<256→∀ w,(Op.equalIn 10000 24 (U (sN i)) (U 0)).run Tryz.prog w=.ok (decide (sN i=0)) w)(hq:∀ i,((l0 (py i):Nat):Int).tmod 2=qN i)(hod:∀ i,(qN i == 1)=od i)(hlt:∀ i,i<f→kN i=0∨px i=0∨0≤cN i∨sN i=0)(hgd:f<256→¬ kN f=0∧¬ px f=0∧¬ 0≤cN f∧¬ sN f=0)(rx ry:Nat)(ro:Bool)(re:Int)(hr1:f=256→rx=0∧ry=0∧ro=false∧re=4)(hr2:f<256→rx=px f∧re=0∧(eN f≤0→ry=sN f∧ro=od f)∧(0<eN f→ry=zN f∧ro = !od f))(w:World):Calls Tryz.prog 10 #[.string s,U d] w fun e w'=>e=.returned (.tuple #[A9 rx ry ro,.int .i64 re])∧Below w.heap.size w w':=by
 refine roH (T:=fun _=>True) 4 [(1,[nO,lO Tryz.underlying9 hl,bO .neq 3 (p:=.int .i64 32) (q:=.int .i64 32) (v:=.bool false) (by intros;simp[go_sem])]),(3,[nO,kC Tryz.func22 hFit.out,uO .not (p:=.bool true) (v:=.bool false) (by intros;simp[go_sem])]),(5,[kC Tryz.func28 hO.out])] Tryz.func10 rfl (fun _ _=>trivial) kA [0,1,10] (kF s d (none) (none)) [Ar d,P9 0 0 false,Ar on] ?_
 intro bs a w1 h0
 obtain ⟨b0,b1,b2,rfl⟩:=three h0.ln
 refine wp_seq (wp_seq (roR (T:=fun _=>True) [] h0 (fun _ _=>trivial) .normal (kF s d (V (.int .i64 ((0:Nat):Int))) (none)) [Ar d,P9 0 0 false,Ar on] fun a0 w0 h=>?_))
 refine wp_block (loop_dn (fun j a w'=>j≤f∧HeadI w kA (kF s d (V (.int .i64 ((f-j:Nat):Int))) (none)) [b0,b1,b2] [Ar d,P9 0 0 false,Ar on] a w') ?_ (i:=f) ⟨Nat.le_refl _,by rw[Nat.sub_self];exact h⟩)
 clear h h0
 rintro j a w' ⟨hj,h⟩
 obtain ⟨i,hi0⟩:∃ i,i=f-j:=⟨_,rfl⟩
 rw[← hi0] at h
 rcases Nat.lt_or_ge i 256 with hi | hi
 ·have hlt7:(i:Int)<256:=by omega
  have hw1:IntKind.i64.wrap ((i:Int)+1)=(i:Int)+1:=by unfold IntKind.wrap;simp[IntKind.signed,IntKind.bits];omega
  have hw8:IntKind.u8.wrap (i:Int)=(i:Int):=by unfold IntKind.wrap;simp[IntKind.signed,IntKind.bits];omega
  have hz1':b.size+s.size≤9223372036854775807:=by omega
  have hz2:b.size+s.size+(strOfNums [(i:Int)]).size≤9223372036854775807:=by rw[strOfNums_size];simp;omega
  refine wp_seq (roR (T:=fun _=>True) [(7,[nO,bO .lss 3 (p:=.int .i64 (i:Int)) (q:=.int .i64 256) (v:=.bool true) (by intros;simp[go_sem,hlt7])])] h (fun _ _=>trivial) .normal (kF s d (V (.int .i64 (i:Int))) (none)) [Ar d,P9 0 0 false,Ar on] fun a1 w1 h1=>wp_seq (wp_block (wp_seq ?_)))
  obtain ⟨u,hfr⟩:=h1.fr
  have ea:a1=⟨((fillF kA u 0 (kF s d (V (.int .i64 (i:Int))) (none))).map (upO (bN [b0,b1,b2]))).toArray,[]⟩:=by
   obtain ⟨x,y⟩:=a1
   have hd:=h1.df
   simp only at hfr hd
   rw[hfr,hd]
  subst ea
  have t0:(⟨((fillF kA u 0 (kF s d (V (.int .i64 (i:Int))) (none))).map (upO (bN [b0,b1,b2]))).toArray,[]⟩:Act).eval (.tmp 0)=.string s:=by kernel_rfl
  have t3:(⟨((fillF kA u 0 (kF s d (V (.int .i64 (i:Int))) (none))).map (upO (bN [b0,b1,b2]))).toArray,[]⟩:Act).eval (.tmp 3)=.pointer (some ⟨b0,0,none⟩):=by kernel_rfl
  have t6:(⟨((fillF kA u 0 (kF s d (V (.int .i64 (i:Int))) (none))).map (upO (bN [b0,b1,b2]))).toArray,[]⟩:Act).eval (.tmp 6)=.pointer (some ⟨b2,0,none⟩):=by kernel_rfl
  have t7:(⟨((fillF kA u 0 (kF s d (V (.int .i64 (i:Int))) (none))).map (upO (bN [b0,b1,b2]))).toArray,[]⟩:Act).eval (.tmp 7)=.int .i64 (i:Int):=by kernel_rfl
  refine wp_region_told (by kernel_rfl) (by kernel_rfl) (by kernel_rfl) [(b0,Ar d),(b2,Ar on),(b1,P9 0 0 false)]
   [sV (U d),sV (.string b),sV (.string s),sV (.string (b++s)),sV (.int .i64 (i:Int)),sV (.int .u8 (i:Int)),sA (fun g=>.slice (some ⟨g,0,none⟩) 1 1) 1005 #[.int .u8 (i:Int)] #[.int .u8 (i:Int)],sV (.string (strOfNums [(i:Int)])),sV (.string (b++s++strOfNums [(i:Int)])),sV (.string (g i)),sV (U (rN i)),sV (U 0),sV (U on),sV (U (kN i)),sA (fun g=>.pointer (some ⟨g,0,none⟩)) 15 Zr (Ar (kN i)),sS 14]
   (by kernel_rfl) h1.bw (Rc (h1.row 0 _ rfl) (Rc (h1.row 2 _ rfl) (Rc (h1.row 1 _ rfl) RA.nil))) (StOk.of [] rfl StM.nil)
   (Obs.val (fun a' w' E=>ob_la 24 (.tmp 3) ((E.od 3).trans t3) (E.row (g:=b0) (c:=(Ar d)) 0 rfl) Tryz.underlying24)
   (Obs.val (fun a' w' E=>ob_fcall 37 _ _ rfl (am1 (E.n (U d) 27 0)) (mfc37 _ _) (hB.out w'))
   (Obs.val (fun a' w' E=>ob_move (.tmp 0) rfl ((E.od 0).trans t0))
   (Obs.val (fun a' w' E=>ob_binOp .add 9 (.tmp 28) (.tmp 29) 9 rfl (E.n (.string b) 28 1) (E.n (.string s) 29 2) (by simp[go_sem,hz1']))
   (Obs.val (fun a' w' E=>ob_move (.tmp 7) rfl ((E.od 7).trans t7))
   (Obs.val (fun a' w' E=>ob_val (by simp[opAt,execOp,go_sem,ev (E.n (.int .i64 (i:Int)) 31 4),hw8]))
   (Obs.alloc (fun a' w' E=>ob_alloc (t:=5) (by simp[opAt,execOp,go_sem,ev (show a'.eval (.tmp 32)=(.int .u8 (i:Int)) from (E.n (.int .u8 (i:Int)) 32 5))]))
   (Obs.val (fun a' w' E=>by obtain ⟨g,hv,_,hr⟩:=E.ali 33 6 (by kernel_rfl) rfl (Nat.le_of_ble_eq_true rfl);exact ob_val (by simp[opAt,execOp,go_sem,ev hv,conv1 hr]))
   (Obs.val (fun a' w' E=>ob_binOp .add 9 (.tmp 30) (.tmp 34) 9 rfl (E.n (.string (b++s)) 30 3) (E.n (.string (strOfNums [(i:Int)])) 34 7) (by simp[go_sem,hz2]))
   (Obs.val (fun a' w' E=>ob_fcall 36 _ _ rfl (am1 (E.n (.string (b++s++strOfNums [(i:Int)])) 35 8)) (mfc36 _ _) ((hS i hi).out w'))
   (Obs.val (fun a' w' E=>ob_fcall 35 _ _ rfl (am1 (E.n (.string (g i)) 36 9)) (mfc35 _ _) ((hN i hi).out w'))
   (Obs.val (fun a' w' E=>ob_val (by simp[opAt,execOp,go_sem,l0,l1,l2,l3]))
   (Obs.val (fun a' w' E=>ob_la 24 (.tmp 6) ((E.od 6).trans t6) (E.row (g:=b2) (c:=(Ar on)) 1 rfl) Tryz.underlying24)
   (Obs.val (fun a' w' E=>ob_fcall 34 _ _ rfl (am3 (E.n (U (rN i)) 37 10) (E.n (U 0) 38 11) (E.n (U on) 39 12)) (mfc34 _ _) ((hA i hi).out w'))
   (Obs.alloc (fun a' w' E=>ob_alloc (t:=24) (by simp[opAt,execOp,go_sem]))
   (Obs.sta rfl (fun a' w' g E ha hr=>ob_sa 24 (.tmp 8) (.tmp 40) (ha 8 (by kernel_rfl)) (E.n (U (kN i)) 40 13) hr)
   Obs.nil)))))))))))))))) ?_
  intro bq w2 a2 ha2 F
  obtain ⟨x1,x2⟩:=F.al 14 rfl rfl
  have H2:HeadI w kB (kF s d (V (.int .i64 (i:Int))) (R 3)) [b0,b1,b2,bq 14] [Ar d,P9 0 0 false,Ar on,Ar (kN i)] a2 w2:=by
   refine HeadI.more (x:=bq 14) (c:=Ar (kN i)) h1 ⟨fun t=>((([(27,U d),(28,.string b),(29,.string s),(30,.string (b++s)),(31,.int .i64 (i:Int)),(32,.int .u8 (i:Int)),(33,.slice (some ⟨bq 6,0,none⟩) 1 1),(34,.string (strOfNums [(i:Int)])),(35,.string (b++s++strOfNums [(i:Int)])),(36,.string (g i)),(37,U (rN i)),(38,U 0),(39,U on),(40,U (kN i))]:List (Nat×Value)).lookup t).getD (u t)),?_⟩ ?_ F.bw ?_ x1 x2
   ·rw[ha2];kernel_rfl
   ·rw[ha2];kernel_rfl
   ·intro j c hc
    match j,hc with
    | 0,hc=>cases hc;exact F.row 0 rfl
    | 1,hc=>cases hc;exact F.row 2 rfl
    | 2,hc=>cases hc;exact F.row 1 rfl
  clear ha2 F x1 x2 t0 t3 t6 t7 h1
  generalize bq 14=b3 at H2
  rcases Nat.lt_or_ge i f with hif | hif
  ·have NX:∀ a4 w4,HeadI w kA (kF s d (V (.int .i64 ((i:Int)+1))) (none)) [b0,b1,b2] [Ar d,P9 0 0 false,Ar on] a4 w4→∃ j',j'<j∧j'≤f∧HeadI w kA (kF s d (V ((.int .i64 ((f-j':Nat):Int)))) (none)) [b0,b1,b2] [Ar d,P9 0 0 false,Ar on] a4 w4:=fun a4 w4 h4=>by
    refine ⟨j-1,by omega,by omega,?_⟩
    have e:((f-(j-1):Nat):Int)=(i:Int)+1:=by omega
    rw[e]
    exact h4
   by_cases k0:kN i=0
   ·have hk0:∀ w,(Op.equalIn 10000 24 (U (kN i)) (U 0)).run Tryz.prog w=.ok true w:=fun w=>by rw[hk0 i hi w,decide_eq_true k0]
    exact roR (T:=fun _=>True) [(10,[nO,dO 24 [] (xs:=[]) bd24_,bO .eql 24 (p:=U (kN i)) (q:=U 0) (v:=.bool true) (by intros;simp[go_sem,hk0])])] H2 (fun _ _=>trivial) (.exit 1) (kF s d (V (.int .i64 (i:Int))) (R 3)) [Ar d,P9 0 0 false,Ar on,Ar (kN i)] fun a3 w3 h3=>roR (T:=fun _=>True) [(8,[nO,bO .add 3 (p:=.int .i64 (i:Int)) (q:=.int .i64 1) (v:=.int .i64 ((i:Int)+1)) (by intros;simp[go_sem,hw1])])] h3 (fun _ _=>trivial) .normal (kF s d (V (.int .i64 ((i:Int)+1))) (R 3)) [Ar d,P9 0 0 false,Ar on,Ar (kN i)] fun a4 w4 h4=>NX a4 w4 (h4.less kA [0,1,2] (kF s d (V (.int .i64 ((i:Int)+1))) (none)) [Ar d,P9 0 0 false,Ar on] (fun u=>by kernel_rfl) (fun u=>by kernel_rfl) rfl (by kernel_rfl))
   ·have hk0:∀ w,(Op.equalIn 10000 24 (U (kN i)) (U 0)).run Tryz.prog w=.ok false w:=fun w=>by rw[hk0 i hi w,decide_eq_false k0]
    by_cases x0:px i=0
    ·have hx0:∀ w,(Op.equalIn 10000 24 (U (px i)) (U 0)).run Tryz.prog w=.ok true w:=fun w=>by rw[hx0 i hi w,decide_eq_true x0]
     exact roR (T:=fun _=>True) [(10,[nO,dO 24 [] (xs:=[]) bd24_,bO .eql 24 (p:=U (kN i)) (q:=U 0) (v:=.bool false) (by intros;simp[go_sem,hk0])]),(11,[nO,kC Tryz.func39 hB2.out,kC Tryz.func38 (hM i hi).out]),(12,[nO,nO,kC Tryz.func40 (hI i hi).out]),(13,[nO,nO,kC Tryz.func35 hE.out,nO,nO,nO,kC Tryz.func41 (hT1 i hi).out,nO,kC Tryz.func34 (hA2 i hi).out,kC Tryz.func41 (hT2 i hi).out]),(14,[nO,nO,dO 24 [] (xs:=[]) bd24_,bO .eql 24 (p:=U (px i)) (q:=U 0) (v:=.bool true) (by intros;simp[go_sem,hx0])])] H2 (fun _ _=>trivial) (.exit 1) (kF s d (V (.int .i64 (i:Int))) (R 3)) [Ar d,P9 0 0 false,Ar on,Ar (kN i)] fun a3 w3 h3=>roR (T:=fun _=>True) [(8,[nO,bO .add 3 (p:=.int .i64 (i:Int)) (q:=.int .i64 1) (v:=.int .i64 ((i:Int)+1)) (by intros;simp[go_sem,hw1])])] h3 (fun _ _=>trivial) .normal (kF s d (V (.int .i64 ((i:Int)+1))) (R 3)) [Ar d,P9 0 0 false,Ar on,Ar (kN i)] fun a4 w4 h4=>NX a4 w4 (h4.less kA [0,1,2] (kF s d (V (.int .i64 ((i:Int)+1))) (none)) [Ar d,P9 0 0 false,Ar on] (fun u=>by kernel_rfl) (fun u=>by kernel_rfl) rfl (by kernel_rfl))
    ·have hx0:∀ w,(Op.equalIn 10000 24 (U (px i)) (U 0)).run Tryz.prog w=.ok false w:=fun w=>by rw[hx0 i hi w,decide_eq_false x0]
     by_cases hc0:0≤cN i
     ·exact roR (T:=fun _=>True) [(10,[nO,dO 24 [] (xs:=[]) bd24_,bO .eql 24 (p:=U (kN i)) (q:=U 0) (v:=.bool false) (by intros;simp[go_sem,hk0])]),(11,[nO,kC Tryz.func39 hB2.out,kC Tryz.func38 (hM i hi).out]),(12,[nO,nO,kC Tryz.func40 (hI i hi).out]),(13,[nO,nO,kC Tryz.func35 hE.out,nO,nO,nO,kC Tryz.func41 (hT1 i hi).out,nO,kC Tryz.func34 (hA2 i hi).out,kC Tryz.func41 (hT2 i hi).out]),(14,[nO,nO,dO 24 [] (xs:=[]) bd24_,bO .eql 24 (p:=U (px i)) (q:=U 0) (v:=.bool false) (by intros;simp[go_sem,hx0]),nO,nO,nO,nO,kC Tryz.func42 (hC i hi).out,bO .geq 3 (p:=.int .i64 (cN i)) (q:=.int .i64 0) (v:=.bool true) (by intros;simp[go_sem,hc0])])] H2 (fun _ _=>trivial) (.exit 1) (kF s d (V (.int .i64 (i:Int))) (R 3)) [Ar d,P9 0 0 false,Ar on,Ar (kN i)] fun a3 w3 h3=>roR (T:=fun _=>True) [(8,[nO,bO .add 3 (p:=.int .i64 (i:Int)) (q:=.int .i64 1) (v:=.int .i64 ((i:Int)+1)) (by intros;simp[go_sem,hw1])])] h3 (fun _ _=>trivial) .normal (kF s d (V (.int .i64 ((i:Int)+1))) (R 3)) [Ar d,P9 0 0 false,Ar on,Ar (kN i)] fun a4 w4 h4=>NX a4 w4 (h4.less kA [0,1,2] (kF s d (V (.int .i64 ((i:Int)+1))) (none)) [Ar d,P9 0 0 false,Ar on] (fun u=>by kernel_rfl) (fun u=>by kernel_rfl) rfl (by kernel_rfl))
     ·have s0:sN i=0:=by rcases hlt i hif with h | h | h | h;exact absurd h k0;exact absurd h x0;exact absurd h hc0;exact h
      have hs0:∀ w,(Op.equalIn 10000 24 (U (sN i)) (U 0)).run Tryz.prog w=.ok true w:=fun w=>by rw[hs0 i hi w,decide_eq_true s0]
      exact roR (T:=fun _=>True) [(10,[nO,dO 24 [] (xs:=[]) bd24_,bO .eql 24 (p:=U (kN i)) (q:=U 0) (v:=.bool false) (by intros;simp[go_sem,hk0])]),(11,[nO,kC Tryz.func39 hB2.out,kC Tryz.func38 (hM i hi).out]),(12,[nO,nO,kC Tryz.func40 (hI i hi).out]),(13,[nO,nO,kC Tryz.func35 hE.out,nO,nO,nO,kC Tryz.func41 (hT1 i hi).out,nO,kC Tryz.func34 (hA2 i hi).out,kC Tryz.func41 (hT2 i hi).out]),(14,[nO,nO,dO 24 [] (xs:=[]) bd24_,bO .eql 24 (p:=U (px i)) (q:=U 0) (v:=.bool false) (by intros;simp[go_sem,hx0]),nO,nO,nO,nO,kC Tryz.func42 (hC i hi).out,bO .geq 3 (p:=.int .i64 (cN i)) (q:=.int .i64 0) (v:=.bool false) (by intros;simp[go_sem,hc0]),nO,nO,nO,dO 24 [] (xs:=[]) bd24_,bO .eql 24 (p:=U (sN i)) (q:=U 0) (v:=.bool true) (by intros;simp[go_sem,hs0])])] H2 (fun _ _=>trivial) (.exit 1) (kF s d (V (.int .i64 (i:Int))) (R 3)) [Ar d,P9 0 0 false,Ar on,Ar (kN i)] fun a3 w3 h3=>roR (T:=fun _=>True) [(8,[nO,bO .add 3 (p:=.int .i64 (i:Int)) (q:=.int .i64 1) (v:=.int .i64 ((i:Int)+1)) (by intros;simp[go_sem,hw1])])] h3 (fun _ _=>trivial) .normal (kF s d (V (.int .i64 ((i:Int)+1))) (R 3)) [Ar d,P9 0 0 false,Ar on,Ar (kN i)] fun a4 w4 h4=>NX a4 w4 (h4.less kA [0,1,2] (kF s d (V (.int .i64 ((i:Int)+1))) (none)) [Ar d,P9 0 0 false,Ar on] (fun u=>by kernel_rfl) (fun u=>by kernel_rfl) rfl (by kernel_rfl))
  ·obtain rfl:i=f:=by omega
   obtain ⟨k0,x0,hc0,s0⟩:=hgd hi
   obtain ⟨e1,e2,e3,e4⟩:=hr2 hi
   have hk0:∀ w,(Op.equalIn 10000 24 (U (kN i)) (U 0)).run Tryz.prog w=.ok false w:=fun w=>by rw[hk0 i hi w,decide_eq_false k0]
   have hx0:∀ w,(Op.equalIn 10000 24 (U (px i)) (U 0)).run Tryz.prog w=.ok false w:=fun w=>by rw[hx0 i hi w,decide_eq_false x0]
   have hs0:∀ w,(Op.equalIn 10000 24 (U (sN i)) (U 0)).run Tryz.prog w=.ok false w:=fun w=>by rw[hs0 i hi w,decide_eq_false s0]
   have hq:=hq i
   have hod:=hod i
   by_cases he0:0<eN i
   ·obtain ⟨e5,e6⟩:=e4 he0
    rw[e1,e2,e5,e6]
    exact roR (T:=fun _=>True) [(10,[nO,dO 24 [] (xs:=[]) bd24_,bO .eql 24 (p:=U (kN i)) (q:=U 0) (v:=.bool false) (by intros;simp[go_sem,hk0])]),(11,[nO,kC Tryz.func39 hB2.out,kC Tryz.func38 (hM i hi).out]),(12,[nO,nO,kC Tryz.func40 (hI i hi).out]),(13,[nO,nO,kC Tryz.func35 hE.out,nO,nO,nO,kC Tryz.func41 (hT1 i hi).out,nO,kC Tryz.func34 (hA2 i hi).out,kC Tryz.func41 (hT2 i hi).out]),(14,[nO,nO,dO 24 [] (xs:=[]) bd24_,bO .eql 24 (p:=U (px i)) (q:=U 0) (v:=.bool false) (by intros;simp[go_sem,hx0]),nO,nO,nO,nO,kC Tryz.func42 (hC i hi).out,bO .geq 3 (p:=.int .i64 (cN i)) (q:=.int .i64 0) (v:=.bool false) (by intros;simp[go_sem,hc0]),nO,nO,nO,dO 24 [] (xs:=[]) bd24_,bO .eql 24 (p:=U (sN i)) (q:=U 0) (v:=.bool false) (by intros;simp[go_sem,hs0])]),(15,[nO,nO,nO,bO .rem 22 (p:=B (l0 (py i))) (q:=.int .u64 2) (v:=.int .u64 (qN i)) (by intros;simp[go_sem,hq]),bO .eql 22 (p:=.int .u64 (qN i)) (q:=.int .u64 1) (v:=.bool (od i)) (by intros;simp[go_sem,hod])]),(16,[nO,kC Tryz.func43 hH.out,kC Tryz.func42 (hC2 i hi).out,bO .gtr 3 (p:=.int .i64 (eN i)) (q:=.int .i64 0) (v:=.bool true) (by intros;simp[go_sem,he0])]),(17,[nO,nO,kC Tryz.func27 (hSu i hi).out]),(18,[nO,uO .not (p:=.bool (od i)) (v:=.bool (!od i)) (by intros;simp[go_sem])]),(19,[nO,nO,nO,nO,dO 27 [0,1,2] (xs:=[U (px i),U (zN i),.bool (!od i)]) (bd27_0U_1U_2b (px i) (zN i) (!od i))])] H2 (fun _ _=>trivial) .ret (kF s d (V (.int .i64 (i:Int))) (R 3)) [Ar d,P9 (px i) (zN i) (!od i),Ar on,Ar (kN i)] fun a3 w3 h3=>rmake_fin h3 (fun u=>by kernel_rfl) (fun u=>by kernel_rfl) rfl
   ·obtain ⟨e5,e6⟩:=e3 (by omega)
    rw[e1,e2,e5,e6]
    exact roR (T:=fun _=>True) [(10,[nO,dO 24 [] (xs:=[]) bd24_,bO .eql 24 (p:=U (kN i)) (q:=U 0) (v:=.bool false) (by intros;simp[go_sem,hk0])]),(11,[nO,kC Tryz.func39 hB2.out,kC Tryz.func38 (hM i hi).out]),(12,[nO,nO,kC Tryz.func40 (hI i hi).out]),(13,[nO,nO,kC Tryz.func35 hE.out,nO,nO,nO,kC Tryz.func41 (hT1 i hi).out,nO,kC Tryz.func34 (hA2 i hi).out,kC Tryz.func41 (hT2 i hi).out]),(14,[nO,nO,dO 24 [] (xs:=[]) bd24_,bO .eql 24 (p:=U (px i)) (q:=U 0) (v:=.bool false) (by intros;simp[go_sem,hx0]),nO,nO,nO,nO,kC Tryz.func42 (hC i hi).out,bO .geq 3 (p:=.int .i64 (cN i)) (q:=.int .i64 0) (v:=.bool false) (by intros;simp[go_sem,hc0]),nO,nO,nO,dO 24 [] (xs:=[]) bd24_,bO .eql 24 (p:=U (sN i)) (q:=U 0) (v:=.bool false) (by intros;simp[go_sem,hs0])]),(15,[nO,nO,nO,bO .rem 22 (p:=B (l0 (py i))) (q:=.int .u64 2) (v:=.int .u64 (qN i)) (by intros;simp[go_sem,hq]),bO .eql 22 (p:=.int .u64 (qN i)) (q:=.int .u64 1) (v:=.bool (od i)) (by intros;simp[go_sem,hod])]),(16,[nO,kC Tryz.func43 hH.out,kC Tryz.func42 (hC2 i hi).out,bO .gtr 3 (p:=.int .i64 (eN i)) (q:=.int .i64 0) (v:=.bool false) (by intros;simp[go_sem,he0])]),(19,[nO,nO,nO,nO,dO 27 [0,1,2] (xs:=[U (px i),U (sN i),.bool (od i)]) (bd27_0U_1U_2b (px i) (sN i) (od i))])] H2 (fun _ _=>trivial) .ret (kF s d (V (.int .i64 (i:Int))) (R 3)) [Ar d,P9 (px i) (sN i) (od i),Ar on,Ar (kN i)] fun a3 w3 h3=>rmake_fin h3 (fun u=>by kernel_rfl) (fun u=>by kernel_rfl) rfl
 ·have hn:¬ ((i:Int)<256):=by omega
  obtain ⟨e1,e2,e3,e4⟩:=hr1 (by omega)
  rw[e1,e2,e3,e4]
  exact roR (T:=fun _=>True) [(7,[nO,bO .lss 3 (p:=.int .i64 (i:Int)) (q:=.int .i64 256) (v:=.bool false) (by intros;simp[go_sem,hn])])] h (fun _ _=>trivial) (.exit 0) (kF s d (V (.int .i64 (i:Int))) (none)) [Ar d,P9 0 0 false,Ar on] fun a' w' h=>roX (T:=fun _=>True) [(20,[dO 27 [] (xs:=[]) bd27_])] h (fun _ _=>trivial)
end Go.Proofs.YtfhppenjbmmadaaGreatDoor
