import Derived.Test.YtfhppenjbmmadaaGreatDoorXtM43
namespace Go.Proofs.YtfhppenjbmmadaaGreatDoor
set_option linter.unusedVariables false
set_option maxHeartbeats 8000000
section
open Go.RowKit Go.Sort
set_option maxRecDepth 100000
theorem tells_a(s:ByteArray)(r q px py:Nat)(o pn:Bool)(l:Int)(hl:(s.size:Int)=l)(hn:1000<l)(hW:DoesT 8 #[] (.bool true))(w:World)(ht:Tabs w ki):Calls Tryz.prog 4 #[(.string s),(A9 r q o),(A9 px py pn)] w fun e w'=>e=.returned (.bool true)∧Below w.heap.size w w':=
 roT (T:=fun w=>Tabs w ki) [(1,[nO,lO Tryz.underlying9 hl,bO .gtr 3 (p:=(.int .i64 l)) (q:=(.int .i64 1000)) (v:=(.bool true)) (by intros;simp[go_sem,hn])]),(2,[cA Tryz.func8 hW.out])] Tryz.func4 (fun _ hb=>ht.below hb)
theorem tells_b(s:ByteArray)(r q px py:Nat)(o pn:Bool)(l:Int)(hl:(s.size:Int)=l)(hn:¬ 1000<l)(hO:Ds 15 #[(A9 px py pn)] (.bool false))(hW:DoesT 8 #[] (.bool true))(w:World)(ht:Tabs w ki):Calls Tryz.prog 4 #[(.string s),(A9 r q o),(A9 px py pn)] w fun e w'=>e=.returned (.bool true)∧Below w.heap.size w w':=
 roT (T:=fun w=>Tabs w ki) [(1,[nO,lO Tryz.underlying9 hl,bO .gtr 3 (p:=(.int .i64 l)) (q:=(.int .i64 1000)) (v:=(.bool false)) (by intros;simp[go_sem,hn]),nO,nO,kC Tryz.func15 hO.out,uO .not (p:=(.bool false)) (v:=(.bool true)) (by intros;simp[go_sem])]),(2,[cA Tryz.func8 hW.out])] Tryz.func4 (fun _ hb=>ht.below hb)
theorem tells_c(s:ByteArray)(r q px py:Nat)(o pn:Bool)(l:Int)(hl:(s.size:Int)=l)(hn:¬ 1000<l)(ax ay:Nat)(an v:Bool)(ev gv:Int)(c:ByteArray)(hO:Ds 15 #[(A9 px py pn)] (.bool true))(h1:Ds 16 #[(.string s),(A9 r q o)] (.tuple #[(A9 ax ay an),(.int .i64 ev)]))(h2:Ds 17 #[(.string s),(A9 r q o)] (.tuple #[(A9 ax ay an),(.int .i64 ev)]))(h3:DoesT 18 #[(.string s),(A9 r q o)] (.tuple #[(.string c),(.int .i64 gv)]))(h4:Ds 19 #[(.string s),(A9 r q o)] (.tuple #[(.string c),(.int .i64 gv)]))(h5:Ds 20 #[(.string s),(A9 r q o),(A9 px py pn)] (.bool v))(h6:Ds 21 #[(.string s),(A9 r q o),(A9 px py pn)] (.bool v))(hW:DoesT 8 #[] (.bool true))(hE0:∀ w,(Op.equalIn 10000 38 (A9 ax ay an) (A9 ax ay an)).run Tryz.prog w=.ok true w)(w:World)(ht:Tabs w ki):Calls Tryz.prog 4 #[(.string s),(A9 r q o),(A9 px py pn)] w fun e w'=>e=.returned (.bool true)∧Below w.heap.size w w':=
 roT (T:=fun w=>Tabs w ki) [(1,[nO,lO Tryz.underlying9 hl,bO .gtr 3 (p:=(.int .i64 l)) (q:=(.int .i64 1000)) (v:=(.bool false)) (by intros;simp[go_sem,hn]),nO,nO,kC Tryz.func15 hO.out,uO .not (p:=(.bool true)) (v:=(.bool false)) (by intros;simp[go_sem])]),(3,[nO,nO,kC Tryz.func16 h1.out]),(4,[nO,nO,kC Tryz.func17 h2.out]),(5,[nO,nO,cA Tryz.func18 h3.out]),(6,[nO,nO,kC Tryz.func19 h4.out]),(7,[nO,nO,bO .eql 38 (p:=(A9 ax ay an)) (q:=(A9 ax ay an)) (v:=(.bool true)) (by intros;simp[go_sem,hE0]),nO,nO,nO,bO .eql 3 (p:=(.int .i64 ev)) (q:=(.int .i64 ev)) (v:=(.bool true)) (by intros;simp[go_sem]),nO,nO,nO,nO,bO .eql 9 (p:=(.string c)) (q:=(.string c)) (v:=(.bool true)) (by intros;simp[go_sem]),nO,nO,nO,nO,bO .eql 3 (p:=(.int .i64 gv)) (q:=(.int .i64 gv)) (v:=(.bool true)) (by intros;simp[go_sem]),nO,nO,nO,nO,nO,kC Tryz.func20 h5.out,nO,nO,nO,kC Tryz.func21 h6.out,bO .eql 4 (p:=(.bool v)) (q:=(.bool v)) (v:=(.bool true)) (by intros;simp[go_sem]),nO,nO,cA Tryz.func8 hW.out])] Tryz.func4 (fun _ hb=>ht.below hb)
end
section
open Go.RowKit Go.Sort
section
variable [NeZero Pp] [NeZero On]
theorem tells_walk(s:ByteArray)(r q:Nat)(o:Bool)(px py:Nat)(pn:Bool)(hr:r<W)(hq:q<W)(hx:px<W)(hy:py<W):DoesT 4 #[.string s,A9 r q o,A9 px py pn] (.bool true):=by
 have hO:=ron_any px py pn hx hy
 by_cases h1:(1000:Int)<(s.size:Int)
 ·exact fun w ht=>tells_a s r q px py o pn _ rfl h1 awake_any w ht
 ·cases h2:onB px py pn with
  | false=>
   rw[h2] at hO
   exact fun w ht=>tells_b s r q px py o pn _ rfl h1 hO awake_any w ht
  | true=>
   rw[h2] at hO
   obtain ⟨P,hP,e,rfl,rfl,rfl⟩:=onB_pt h2
   exact fun w ht=>tells_c s r q _ _ o _ _ rfl h1 _ _ _ _ _ _ _ hO (recover_any s r q o hr hq) (rrecover_any s r q o hr hq) (swho_any s r q o hr hq) (rswho_any s r q o hr hq) (verify_any s r q o P hP hr hq) (rverify_any s r q o P hP hr hq) awake_any (eq9_same _ _ _ (reX_W _ _ _ _) (reY_W _ _ _ _)) w ht
end
end
end Go.Proofs.YtfhppenjbmmadaaGreatDoor
