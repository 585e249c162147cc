/- Laid one behind the other: Vg, Vh. -/
import Derived.Test.YtceedgdbhlpjlaaGreatDoorKqVe
namespace Go.Proofs.YtceedgdbhlpjlaaGreatDoor
open Go.RowKit Go.Sort Tryz
set_option linter.unusedVariables false
set_option maxRecDepth 100000
set_option maxHeartbeats 4000000
theorem zei{n m:Nat}(hn:n<W)(hm:m<W){b:Bool}(h:decide (n≠m)=b)(x y:Operand)(w:World):(do eqGuard .neq 38 x y (U n) (U m);binOp .neq 38 (U n) (U m):Sem Value).run prog w=.ok (.bool b) w:=by
 have he:=run_eqU n m hn hm w;have hg:(eqGuard .neq 38 x y (U n) (U m)).run prog w=.ok () w:=by
  unfold eqGuard;simp[go_sem]
 simp only[Sem.run_bind,hg,Result.andThen_ok];unfold binOp Op.equal;simp only[Sem.run_bind];rw[show Op.maxDepth=10000 from rfl,he];subst h;by_cases hq:n=m<;>simp[go_sem,hq]
theorem smI_run(n:Nat)(w:World):∃ i:Int,(n<1000000000000→i=n)∧∀ w,Calls prog 72 #[U n] w fun e w'=>e=.returned (Z i)∧Below w.heap.size w w':=by
 by_cases h:n<1000000000000
 ·exact⟨n,fun _=>rfl,ve n h⟩
 refine⟨IntKind.i64.wrap (l0 n),fun h'=>absurd h' h,fun w=>?_⟩;have hc:∀ w,(convert 36 3 (B (l0 n))).run prog w=.ok (Z (IntKind.i64.wrap (l0 n))) w:=fun w=>by simp[go_sem]
 unfold U;generalize IntKind.i64.wrap (l0 n)=z at *;generalize l0 n=a0,l1 n=a1,l2 n=a2,l3 n=a3 at *;refine inZ func72 fun a I=>?_;refine goZ [vO 36 3 hc] I fun β a w1 I1 hb=>?_;exact zl (v:=Z z) I1
theorem kt(m:List UInt8)(i:Int):putV m i []=m:=by
 unfold putV;split
 ·rfl
 ·simp
abbrev r0 (P:Program) (c:Cf):=rn P (T:=fun _=>True) [] c
def cO (F:Func) (r:Array Value):Cf:=cfR F (Sum.inr (0,0)::([]:List Value).map Sum.inl) [(0,r)] 1
def cP (P:Program) (F:Func) (r r':Array Value):Cf:=rowQ (qf (r0 P (cO F r)).1 TU0) 0 r'
theorem mone{k q g : Nat}{F H : Func}{f f' : Fr}{op : Nat}{pa : Int}{fv : Value}(hk : prog.funcs[k]? = some F)(hh : prog.funcs[q]? = some H)(t : Mth q g [fv] f op pa TU0 f' op pa)(h1 : F.body.isSome = true := by kernel_rfl)(h2 : ∀ r, (r0 prog (cO F r)).2.2.map (·.1) = (r0 prog (cO F r)).2.2.map (·.2) := by intro r; kernel_rfl)(h3 : ∀ r, callX (r0 prog (cO F r)).1 = some (q, Sum.inr (0, 0) :: [fv].map Sum.inl) := by intro r; kernel_rfl)(h4 : ∀ r, xr (r0 prog (cO F r)).1.rows 0 = some r := by intro r; kernel_rfl)(h5 : H.body.isNone = false := by kernel_rfl)(h6 : (H.name == "runtime.NumGoroutine") = false := by kernel_rfl)(h7 : ∀ r r', (r0 prog (cP prog F r r')).2.2.map (·.1) = (r0 prog (cP prog F r r')).2.2.map (·.2) := by intro r r'; kernel_rfl)(h8 : F.results = #[] := by kernel_rfl)(h9 : ∀ r r', (r0 prog (cP prog F r r')).1.dn = some .normal := by intro r r'; kernel_rfl)(h10 : ∀ r r', xr (r0 prog (cP prog F r r')).1.rows 0 = some r' := by intro r r'; kernel_rfl)(h11 : ∀ r r', decide (0 < (cP prog F r r').nx) = true := by intro r r'; kernel_rfl) : Mth k g [] f op pa TU0 f' op pa := by
 intro v dv w h;refine inG (J:=MS w g v dv v f dv) (F:=MF w g v dv) [] hk h.start h.row h.c.not (fun Az I=>?_) h1;refine goM [] I (fun β0 A0 w0 I0 hb0=>?_) (he:=h2 _);have hz0:β0 0=g:=agr hb0 0 rfl;refine zv hh t I0 hz0 (fun ad cap dv' w1 I1=>?_) (h3 _) (h4 _) h5 h6;refine goM [] I1 (fun β2 A2 w2 I2 hb2=>?_) (he:=h7 _ _);exact vg I2 ⟨_,_,rfl,I2.mp (agr hb2 0 hz0 (h11 _ _)) (h10 _ _)⟩ h8 (h9 _ _)
abbrev M2 (k:Nat) (r:Nat→Nat→Nat):Prop:=∀{g:Nat} {f:Fr} {op:Nat} {pa:Int} {a b:Nat} {s:List Nat},f.st=a::b::s→a<W→b<W→f.st.length≤900→Mth k g [] f op pa TU0 { f with st:=r a b::s } op pa
abbrev M3 (k:Nat) (r:Nat→Nat→Nat→Nat):Prop:=∀{g:Nat} {f:Fr} {op:Nat} {pa:Int} {a b c:Nat} {s:List Nat},f.st=a::b::c::s→a<W→b<W→c<W→f.st.length≤900→Mth k g [] f op pa TU0 { f with st:=r a b c::s } op pa
theorem m_add:M2 93 (xq):=fun hs ha hb hl=>mone func93 func169 (kg hs hl func170 (by kernel_rfl) (by kernel_rfl) _ (add_c _ _ ha hb))
theorem m_mul:M2 94 (fun a b=>a*b%W):=fun hs ha hb hl=>mone func94 func169 (kg hs hl func172 (by kernel_rfl) (by kernel_rfl) _ (mul_any _ _ ha hb))
theorem m_sub:M2 95 (subW):=fun hs ha hb hl=>mone func95 func169 (kg hs hl func173 (by kernel_rfl) (by kernel_rfl) _ (sub_c _ _ ha hb))
theorem m_div:M2 96 (fun a b=>a/b):=fun hs ha hb hl=>mone func96 func169 (kg hs hl func175 (by kernel_rfl) (by kernel_rfl) _ (div_c _ _ ha hb))
theorem m_sdiv:M2 97 (sq):=fun hs ha hb hl=>mone func97 func169 (kg hs hl func178 (by kernel_rfl) (by kernel_rfl) _ (sdiv_c _ _ ha hb))
theorem m_rest:M2 98 (dr 0):=fun hs ha hb hl=>mone func98 func169 (kg hs hl func180 (by kernel_rfl) (by kernel_rfl) _ (rst_c _ _ ha hb))
theorem m_srest:M2 99 (sr):=fun hs ha hb hl=>mone func99 func169 (kg hs hl func182 (by kernel_rfl) (by kernel_rfl) _ (srst_c _ _ ha hb))
theorem m_pow:M2 102 (fun a b=>rm (a^b) W):=fun hs ha hb hl=>mone func102 func169 (kg hs hl func186 (by kernel_rfl) (by kernel_rfl) _ (exp_any _ _ ha hb))
theorem m_ext:M2 103 (exW):=fun hs ha hb hl=>mone func103 func169 (kg hs hl func187 (by kernel_rfl) (by kernel_rfl) _ (ext_any _ _ ha hb))
theorem m_and:M2 110 (fun a b=>a &&& b):=fun hs ha hb hl=>mone func110 func169 (kg hs hl func196 (by kernel_rfl) (by kernel_rfl) _ (and_any _ _))
theorem m_or:M2 111 (fun a b=>a ||| b):=fun hs ha hb hl=>mone func111 func169 (kg hs hl func197 (by kernel_rfl) (by kernel_rfl) _ (or_any _ _))
theorem m_xor:M2 112 (fun a b=>a ^^^ b):=fun hs ha hb hl=>mone func112 func169 (kg hs hl func198 (by kernel_rfl) (by kernel_rfl) _ (xor_any _ _))
theorem m_byte:M2 114 (byW):=fun hs ha hb hl=>mone func114 func169 (kg hs hl func200 (by kernel_rfl) (by kernel_rfl) _ (byte_any _ _ ha hb))
theorem m_less:M2 104 (fun a b=>trB (decide (ka a b<0))):=fun hs ha hb hl=>mone func104 func188 (zc2 hs hl func189 (by kernel_rfl) (by kernel_rfl) _ (less_c _ _ ha hb))
theorem m_more:M2 105 (fun a b=>trB (decide (0<ka a b))):=fun hs ha hb hl=>mone func105 func188 (zc2 hs hl func190 (by kernel_rfl) (by kernel_rfl) _ (more_c _ _ ha hb))
theorem m_sless:M2 106 (fun a b=>trB (ls a b)):=fun hs ha hb hl=>mone func106 func188 (zc2 hs hl func191 (by kernel_rfl) (by kernel_rfl) _ (less_any _ _ ha hb))
theorem m_smore:M2 107 (fun a b=>trB (ls b a)):=fun hs ha hb hl=>mone func107 func188 (zc2 hs hl func192 (by kernel_rfl) (by kernel_rfl) _ (smore_c _ _ ha hb))
theorem m_same:M2 108 (fun a b=>trB (decide (a=b))):=fun hs ha hb hl=>mone func108 func188 (zc2 hs hl func193 (by kernel_rfl) (by kernel_rfl) _ (same_c _ _ ha hb))
theorem m_shl:M2 115 (fun a b=>shlW b (shN a)):=fun hs ha hb hl=>mone func115 func201 (shift_any hs hl func202 (by kernel_rfl) (by kernel_rfl) _ (shl_any _ (shN _) hb))
theorem m_shr:M2 116 (fun a b=>vu b (shN a)):=fun hs ha hb hl=>mone func116 func201 (shift_any hs hl func203 (by kernel_rfl) (by kernel_rfl) _ (shr_any _ (shN _) hb))
theorem m_sar:M2 117 (fun a b=>sar b (shN a)):=fun hs ha hb hl=>mone func117 func201 (shift_any hs hl func204 (by kernel_rfl) (by kernel_rfl) _ (sar_any _ (shN _) hb))
theorem m_addm:M3 100 (fun a b c=>rm (a+b) c):=fun hs ha hb hc hl=>mone func100 func183 (three_any hs hl func184 (by kernel_rfl) (by kernel_rfl) _ (addmod_any _ _ _ ha hb hc))
theorem m_mulm:M3 101 (fun a b c=>rm (a*b) c):=fun hs ha hb hc hl=>mone func101 func183 (three_any hs hl func185 (by kernel_rfl) (by kernel_rfl) _ (mulmod_any _ _ _ ha hb hc))
theorem m_zero{g:Nat}{f:Fr}{op:Nat}{pa:Int}{a:Nat}{s:List Nat}(hs:f.st=a::s)(ha:a<W)(hl:f.st.length≤900):Mth 109 g [] f op pa TU0 { f with st:=trB (decide (a=0))::s } op pa:=by
 have t0:=yo (g:=g) (op:=op) (pa:=pa) hs (by omega);have hy:=zbi (g:=g) (op:=op) (pa:=pa) (f:={ f with st:=s }) (trB (decide (a=0))) (by simp only[];rw[hs]at hl;simp at hl;omega);obtain⟨q,hq⟩:∃ q,decide (a=0)=q:=⟨_,rfl⟩
 have he:=zco ha (show 0<W from Nat.lt_of_le_of_lt (Nat.zero_le _) ha) hq;rw[U0]at he;rw[hq]at hy ⊢;have ht:=truth_any q;generalize trB q=r at *;unfold U at *;generalize l0 a=a0,l1 a=a1,l2 a=a2,l3 a=a3,l0 r=r0,l1 r=r1,l2 r=r2,l3 r=r3 at *;intro v dv w h;refine inG (J:=MS w g v dv v f dv) (F:=MF w g v dv) [] func109 h.start h.row h.c.not fun Az I=>?_;refine goM [] I fun β0 A0 w0 I0 hb0=>?_;have hz0:β0 0=g:=agr hb0 0 rfl;refine zv func195 t0 I0 hz0 fun ad0 cap0 dv0 w1 I1=>?_;refine goM [dO 38 [] qw,bO .eql 38 he,kC func194 ht] I1 fun β2 A2 w2 I2 hb2=>?_
 have hz2:β2 0=g:=agr hb2 0 hz0;refine zv func136 hy I2 hz2 fun ad cap dv' w3 I3=>?_;refine goM [] I3 fun β9 A9 w9 I9 hb9=>?_;exact vg I9 ⟨_,_,rfl,I9.mp (agr hb9 0 hz2)⟩
theorem m_not{g:Nat}{f:Fr}{op:Nat}{pa:Int}{a:Nat}{s:List Nat}(hs:f.st=a::s)(ha:a<W)(hl:f.st.length≤900):Mth 113 g [] f op pa TU0 { f with st:=notW a::s } op pa:=by
 have t0:=yo (g:=g) (op:=op) (pa:=pa) hs (by omega);have hy:=zbi (g:=g) (op:=op) (pa:=pa) (f:={ f with st:=s }) (notW a) (by simp only[];rw[hs]at hl;simp at hl;omega);have hn:=not_any a ha;generalize notW a=r at *;unfold U at *;generalize l0 a=a0,l1 a=a1,l2 a=a2,l3 a=a3,l0 r=r0,l1 r=r1,l2 r=r2,l3 r=r3 at *;intro v dv w h;refine inG (J:=MS w g v dv v f dv) (F:=MF w g v dv) [] func113 h.start h.row h.c.not fun Az I=>?_;refine goM [] I fun β0 A0 w0 I0 hb0=>?_;have hz0:β0 0=g:=agr hb0 0 rfl;refine zv func195 t0 I0 hz0 fun ad0 cap0 dv0 w1 I1=>?_
 refine goM [kC func199 hn] I1 fun β2 A2 w2 I2 hb2=>?_;have hz2:β2 0=g:=agr hb2 0 hz0;refine zv func136 hy I2 hz2 fun ad cap dv' w3 I3=>?_;refine goM [] I3 fun β9 A9 w9 I9 hb9=>?_;exact vg I9 ⟨_,_,rfl,I9.mp (agr hb9 0 hz2)⟩
theorem m_pop{g:Nat}{f:Fr}{op:Nat}{pa:Int}{a:Nat}{s:List Nat}(hs:f.st=a::s)(ha:a<W)(hl:f.st.length≤900):Mth 124 g [] f op pa TU0 { f with st:=s } op pa:=by
 have t0:=yo (g:=g) (op:=op) (pa:=pa) hs (by omega);unfold U at *;generalize l0 a=a0,l1 a=a1,l2 a=a2,l3 a=a3 at *;intro v dv w h;refine inG (J:=MS w g v dv v f dv) (F:=MF w g v dv) [] func124 h.start h.row h.c.not fun Az I=>?_;refine goM [] I fun β0 A0 w0 I0 hb0=>?_;have hz0:β0 0=g:=agr hb0 0 rfl;refine zv func195 t0 I0 hz0 fun ad0 cap0 dv0 w1 I1=>?_;refine goM [] I1 fun β9 A9 w9 I9 hb9=>?_;exact vg I9 ⟨_,_,rfl,I9.mp (agr hb9 0 hz0)⟩
theorem m_stop{g:Nat}{f:Fr}{op:Nat}{pa:Int}:Mth 92 g [] f op pa TU0 { f with sd:=1 } op pa:=by
 intro v dv w h;refine inG (J:=MS w g v dv v f dv) (F:=MF w g v dv) [] func92 h.start h.row h.c.not fun Az I=>?_;refine goM [] I fun β0 A0 w0 I0 hb0=>?_;exact vg I0 ⟨_,_,rfl,I0.mp' { f with sd:=1 } (agr hb0 0 rfl) rfl rfl⟩
theorem m_dest{g:Nat}{f:Fr}{op:Nat}{pa:Int}:Mth 133 g [] f op pa TU0 f op pa:=by
 intro v dv w h;refine inG (J:=MS w g v dv v f dv) (F:=MF w g v dv) [] func133 h.start h.row h.c.not fun Az I=>?_;refine goM [] I fun β0 A0 w0 I0 hb0=>?_;exact vg I0 ⟨_,_,rfl,I0.mp (agr hb0 0 rfl)⟩
theorem m_isize{g:Nat}{f:Fr}{op:Nat}{pa:Int}(hp:f.inp.length≤1000000)(hl:f.st.length≤900):Mth 120 g [] f op pa TU0 { f with st:=(f.inp.length)::f.st } op pa:=by
 have t:=zbz (g:=g) (op:=op) (pa:=pa) (f:=f) (f.inp.length) (by omega) hl;intro v dv w h;refine inG (J:=MS w g v dv v f dv) (F:=MF w g v dv) [] func120 h.start h.row h.c.not fun Az I=>?_;refine goM [lnO f.inp] I fun β0 A0 w0 I0 hb0=>?_;have hz0:β0 0=g:=agr hb0 0 rfl;refine zv func206 t I0 hz0 fun ad cap dv' w1 I1=>?_;refine goM [] I1 fun β9 A9 w9 I9 hb9=>?_;exact vg I9 ⟨_,_,rfl,I9.mp (agr hb9 0 hz0)⟩
theorem m_csize{g:Nat}{f:Fr}{op:Nat}{pa:Int}(hp:f.code.length≤1000000)(hl:f.st.length≤900):Mth 122 g [] f op pa TU0 { f with st:=(f.code.length)::f.st } op pa:=by
 have t:=zbz (g:=g) (op:=op) (pa:=pa) (f:=f) (f.code.length) (by omega) hl;intro v dv w h;refine inG (J:=MS w g v dv v f dv) (F:=MF w g v dv) [] func122 h.start h.row h.c.not fun Az I=>?_;refine goM [lnO f.code] I fun β0 A0 w0 I0 hb0=>?_;have hz0:β0 0=g:=agr hb0 0 rfl;refine zv func206 t I0 hz0 fun ad cap dv' w1 I1=>?_;refine goM [] I1 fun β9 A9 w9 I9 hb9=>?_;exact vg I9 ⟨_,_,rfl,I9.mp (agr hb9 0 hz0)⟩
theorem m_msize{g:Nat}{f:Fr}{op:Nat}{pa:Int}(hp:f.mem.length≤1000000)(hl:f.st.length≤900):Mth 131 g [] f op pa TU0 { f with st:=(f.mem.length)::f.st } op pa:=by
 have t:=zbz (g:=g) (op:=op) (pa:=pa) (f:=f) (f.mem.length) (by omega) hl;intro v dv w h;refine inG (J:=MS w g v dv v f dv) (F:=MF w g v dv) [] func131 h.start h.row h.c.not fun Az I=>?_;refine goM [lnO f.mem] I fun β0 A0 w0 I0 hb0=>?_;have hz0:β0 0=g:=agr hb0 0 rfl;refine zv func206 t I0 hz0 fun ad cap dv' w1 I1=>?_;refine goM [] I1 fun β9 A9 w9 I9 hb9=>?_;exact vg I9 ⟨_,_,rfl,I9.mp (agr hb9 0 hz0)⟩
theorem m_place{g:Nat}{f:Fr}{op:Nat}{p:Nat}(hp:p≤1000000)(hl:f.st.length≤900):Mth 130 g [] f op (p:Int) TU0 { f with st:=(p)::f.st } op (p:Int):=by
 have t:=zbz (g:=g) (op:=op) (pa:=(p:Int)) (f:=f) (p) (by omega) hl;intro v dv w h;refine inG (J:=MS w g v dv v f dv) (F:=MF w g v dv) [] func130 h.start h.row h.c.not fun Az I=>?_;refine goM [] I fun β0 A0 w0 I0 hb0=>?_;have hz0:β0 0=g:=agr hb0 0 rfl;refine zv func206 t I0 hz0 fun ad cap dv' w1 I1=>?_;refine goM [] I1 fun β9 A9 w9 I9 hb9=>?_;exact vg I9 ⟨_,_,rfl,I9.mp (agr hb9 0 hz0)⟩
theorem m_gas{g:Nat}{f:Fr}{op:Nat}{pa:Int}(h0:0≤f.gas)(hp:f.gas≤1000000)(hl:f.st.length≤900):Mth 132 g [] f op pa TU0 { f with st:=f.gas.toNat::f.st } op pa:=by
 have t:=zbz (g:=g) (op:=op) (pa:=pa) (f:=f) f.gas.toNat (by omega) hl;rw[Int.toNat_of_nonneg h0]at t;intro v dv w h;refine inG (J:=MS w g v dv v f dv) (F:=MF w g v dv) [] func132 h.start h.row h.c.not fun Az I=>?_;refine goM [] I fun β0 A0 w0 I0 hb0=>?_;have hz0:β0 0=g:=agr hb0 0 rfl;refine zv func206 t I0 hz0 fun ad cap dv' w1 I1=>?_;refine goM [] I1 fun β9 A9 w9 I9 hb9=>?_;exact vg I9 ⟨_,_,rfl,I9.mp (agr hb9 0 hz0)⟩
theorem m_jump{g:Nat}{f:Fr}{op:Nat}{pa:Int}{a:Nat}{s:List Nat}(hs:f.st=a::s)(ha:a<W)(hl:f.st.length≤900)(hp:a≤1000000):Mth 128 g [] f op pa TU0 { f with st:=s,pc:=a } op pa:=by
 have t0:=yo (g:=g) (op:=op) (pa:=pa) hs (by omega);have hsm:=ve a (by omega);unfold U at *;generalize l0 a=a0,l1 a=a1,l2 a=a2,l3 a=a3 at *;intro v dv w h;refine inG (J:=MS w g v dv v f dv) (F:=MF w g v dv) [] func128 h.start h.row h.c.not fun Az I=>?_;refine goM [] I fun β0 A0 w0 I0 hb0=>?_;have hz0:β0 0=g:=agr hb0 0 rfl;refine zv func195 t0 I0 hz0 fun ad0 cap0 dv0 w1 I1=>?_;refine goM [kC func72 hsm] I1 fun β9 A9 w9 I9 hb9=>?_;exact vg I9 ⟨_,_,rfl,I9.mp' { f with st:=s,pc:=a } (agr hb9 0 hz0) rfl rfl⟩
theorem m_jumpi{g:Nat}{f:Fr}{op:Nat}{pa:Int}{a b:Nat}{s:List Nat}(hs:f.st=a::b::s)(ha:a<W)(hb:b<W)(hl:f.st.length≤900)(hp:b≠0→a≤1000000):Mth 129 g [] f op pa TU0 { f with st:=s,pc:=if b=0 then f.pc else a } op pa:=by
 have t0:=yo (g:=g) (op:=op) (pa:=pa) hs (by omega);have t1:=yo (g:=g) (op:=op) (pa:=pa) (f:={ f with st:=b::s }) (u:=b) (s:=s) rfl (by simp only[];rw[hs]at hl;simp at hl ⊢;omega);by_cases hz:b=0
 ·rw[if_pos hz];have he:=zei hb (show 0<W from Nat.lt_of_le_of_lt (Nat.zero_le _) ha) (b:=false) (by simp[hz]);rw[U0]at he;unfold U at *;generalize l0 a=a0,l1 a=a1,l2 a=a2,l3 a=a3,l0 b=b0,l1 b=b1,l2 b=b2,l3 b=b3 at *;intro v dv w h;refine inG (J:=MS w g v dv v f dv) (F:=MF w g v dv) [] func129 h.start h.row h.c.not fun Az I=>?_;refine goM [] I fun β0 A0 w0 I0 hb0=>?_;have hz0:β0 0=g:=agr hb0 0 rfl;refine zv func195 t0 I0 hz0 fun ad0 cap0 dv0 w1 I1=>?_;refine goM [] I1 fun β1 A2 w2 I2 hb1=>?_;have hz1:β1 0=g:=agr hb1 0 hz0
  refine zv func195 t1 I2 hz1 fun ad1 cap1 dv1 w3 I3=>?_;refine goM [dO 38 [] qw,bO .neq 38 he] I3 fun β9 A9 w9 I9 hb9=>?_;exact vg I9 ⟨_,_,rfl,I9.mp' { f with st:=s,pc:=f.pc } (agr hb9 0 hz1) rfl rfl⟩
 ·rw[if_neg hz];have he:=zei hb (show 0<W from Nat.lt_of_le_of_lt (Nat.zero_le _) ha) (b:=true) (by simp[hz]);have hsm:=ve a (by have:=hp hz;omega);rw[U0]at he;unfold U at *;generalize l0 a=a0,l1 a=a1,l2 a=a2,l3 a=a3,l0 b=b0,l1 b=b1,l2 b=b2,l3 b=b3 at *;intro v dv w h;refine inG (J:=MS w g v dv v f dv) (F:=MF w g v dv) [] func129 h.start h.row h.c.not fun Az I=>?_;refine goM [] I fun β0 A0 w0 I0 hb0=>?_;have hz0:β0 0=g:=agr hb0 0 rfl;refine zv func195 t0 I0 hz0 fun ad0 cap0 dv0 w1 I1=>?_;refine goM [] I1 fun β1 A2 w2 I2 hb1=>?_;have hz1:β1 0=g:=agr hb1 0 hz0
  refine zv func195 t1 I2 hz1 fun ad1 cap1 dv1 w3 I3=>?_;refine goM [dO 38 [] qw,bO .neq 38 he,kC func72 hsm] I3 fun β9 A9 w9 I9 hb9=>?_;exact vg I9 ⟨_,_,rfl,I9.mp' { f with st:=s,pc:=a } (agr hb9 0 hz1) rfl rfl⟩
theorem mputI_any{g:Nat}{f:Fr}{op:Nat}{pa:Int}(n:Nat)(t:List UInt8)(ht:t.length≤1000000)(hm:f.mem.length≤1000000)(hn:n<1000000000000∨t=[]):Mth 208 g [U n,str t] f op pa TU0 { f with mem:=putV f.mem n t } op pa:=by
 rcases hn with hn|rfl
 ·exact mput_any n hn t ht hm
 rw[kt];obtain⟨i,_,hsm⟩:=smI_run n default;have hp:=put_any f.mem [] hm (by simp) i;rw[kt]at hp;unfold U at *;generalize l0 n=n0,l1 n=n1,l2 n=n2,l3 n=n3 at *;intro v dv w h;refine inG (J:=MS w g v dv v f dv) (F:=MF w g v dv) [U4 n0 n1 n2 n3,str []] func208 h.start h.row h.c.not fun Az I=>?_;refine goM [] I fun β0 A0 w0 I0 hb0=>?_;have hz0:β0 0=g:=agr hb0 0 rfl;refine dwQ 10 [kC func72 hsm,kC func235 hp] (MS.rs _ _ _ _ _ _ _) yg.post I0 fun A2 w2 I2=>?_;refine goM [] I2 fun βq Aq wq Iq hbq=>?_;exact vg Iq ⟨_,_,rfl,Iq.mp (agr hbq 0 hz0)⟩
theorem m_store{g:Nat}{f:Fr}{op:Nat}{pa:Int}{a b:Nat}{s:List Nat}(hs:f.st=a::b::s)(ha:a<W)(hb:b<W)(hl:f.st.length≤900)(hp:a≤1000000)(hm:f.mem.length≤1000000):Mth 126 g [] f op pa TU0 { f with st:=s,mem:=putV f.mem a (bsN b) } op pa:=by
 have t0:=yo (g:=g) (op:=op) (pa:=pa) hs (by omega);have t1:=yo (g:=g) (op:=op) (pa:=pa) (f:={ f with st:=b::s }) (u:=b) (s:=s) rfl (by simp only[];rw[hs]at hl;simp at hl ⊢;omega);have hby:=bytes_any b;have hz:(bsN b).length=32:=by have:=zc0 b;unfold bsN;rw[Array.length_toList];exact this
 have eb:(strN b)=⟨(bsN b).toArray⟩:=by simp[bsN]
 rw[eb]at hby;have hq:=mput_any (g:=g) (op:=op) (pa:=pa) (f:={ f with st:=s }) a (by omega) (bsN b) (by omega) hm;generalize putV f.mem a (bsN b)=x at *;generalize bsN b=ty at *;unfold U at *;generalize l0 a=a0,l1 a=a1,l2 a=a2,l3 a=a3,l0 b=b0,l1 b=b1,l2 b=b2,l3 b=b3 at *;intro v dv w h;refine inG (J:=MS w g v dv v f dv) (F:=MF w g v dv) [] func126 h.start h.row h.c.not fun Az I=>?_;refine goM [] I fun β0 A0 w0 I0 hb0=>?_;have hz0:β0 0=g:=agr hb0 0 rfl;refine zv func195 t0 I0 hz0 fun ad0 cap0 dv0 w1 I1=>?_;refine goM [] I1 fun β1 A2 w2 I2 hb1=>?_;have hz1:β1 0=g:=agr hb1 0 hz0
 refine zv func195 t1 I2 hz1 fun ad1 cap1 dv1 w3 I3=>?_;refine goM [] I3 fun β4 A4 w4 I4 hb4=>?_;have hz4:β4 0=g:=agr hb4 0 hz1;refine dwQ 4 [kC func209 hby] (MS.rs _ _ _ _ _ _ _) yg.post I4 fun A5 w5 I5=>?_;refine zv func208 hq I5 hz4 fun ad cap dv' w6 I6=>?_;refine goM [] I6 fun β9 A9 w9 I9 hb9=>?_;exact vg I9 ⟨_,_,rfl,I9.mp (agr hb9 0 hz4)⟩
theorem m_store8{g:Nat}{f:Fr}{op:Nat}{pa:Int}{a b:Nat}{s:List Nat}(hs:f.st=a::b::s)(ha:a<W)(hb:b<W)(hl:f.st.length≤900)(hp:a≤1000000)(hm:f.mem.length≤1000000):Mth 127 g [] f op pa TU0 { f with st:=s,mem:=putV f.mem a ((bsN b).drop 31) } op pa:=by
 have t0:=yo (g:=g) (op:=op) (pa:=pa) hs (by omega);have t1:=yo (g:=g) (op:=op) (pa:=pa) (f:={ f with st:=b::s }) (u:=b) (s:=s) rfl (by simp only[];rw[hs]at hl;simp at hl ⊢;omega);have hby:=bytes_any b;have hz:(bsN b).length=32:=by have:=zc0 b;unfold bsN;rw[Array.length_toList];exact this
 have eb:(strN b)=⟨(bsN b).toArray⟩:=by simp[bsN]
 rw[eb]at hby;have hq:=mput_any (g:=g) (op:=op) (pa:=pa) (f:={ f with st:=s }) a (by omega) ((bsN b).drop 31) (by rw[List.length_drop];omega) hm;have hsl:=fun w=>from_run (l:=bsN b) (k:=31) (by omega) w
 generalize putV f.mem a ((bsN b).drop 31)=x at *;generalize (bsN b).drop 31=tx at *;generalize bsN b=ty at *;unfold U at *;generalize l0 a=a0,l1 a=a1,l2 a=a2,l3 a=a3,l0 b=b0,l1 b=b1,l2 b=b2,l3 b=b3 at *;intro v dv w h;refine inG (J:=MS w g v dv v f dv) (F:=MF w g v dv) [] func127 h.start h.row h.c.not fun Az I=>?_;refine goM [] I fun β0 A0 w0 I0 hb0=>?_;have hz0:β0 0=g:=agr hb0 0 rfl;refine zv func195 t0 I0 hz0 fun ad0 cap0 dv0 w1 I1=>?_;refine goM [] I1 fun β1 A2 w2 I2 hb1=>?_;have hz1:β1 0=g:=agr hb1 0 hz0;refine zv func195 t1 I2 hz1 fun ad1 cap1 dv1 w3 I3=>?_
 refine goM [] I3 fun β4 A4 w4 I4 hb4=>?_;have hz4:β4 0=g:=agr hb4 0 hz1;refine dwQ 5 [kC func209 hby,sO 9 hsl] (MS.rs _ _ _ _ _ _ _) yg.post I4 fun A5 w5 I5=>?_;refine zv func208 hq I5 hz4 fun ad cap dv' w6 I6=>?_;refine goM [] I6 fun β9 A9 w9 I9 hb9=>?_;exact vg I9 ⟨_,_,rfl,I9.mp (agr hb9 0 hz4)⟩
theorem copy_any{g:Nat}{f:Fr}{op:Nat}{pa:Int}{a b c:Nat}{s:List Nat}(hs:f.st=a::b::c::s)(ha:a<W)(hb:b<W)(hc:c<W)(hl:f.st.length≤900)(t:List UInt8)(ht:t.length≤1000000)(hm:f.mem.length≤1000000)(hc2:c≤65536)(hp:c≠0→a≤1000000):Mth 207 g [str t] f op pa TU0 { f with st:=s,mem:=putV f.mem a (slV t b c) } op pa:=by
 have t0:=yo (g:=g) (op:=op) (pa:=pa) hs (by omega);have t1:=yo (g:=g) (op:=op) (pa:=pa) (f:={ f with st:=b::c::s }) (u:=b) (s:=c::s) rfl (by simp only[];rw[hs]at hl;simp at hl ⊢;omega);have t2:=yo (g:=g) (op:=op) (pa:=pa) (f:={ f with st:=c::s }) (u:=c) (s:=s) rfl (by simp only[];rw[hs]at hl;simp at hl ⊢;omega);have hsl:=zbs t ht b hb c;have hsm:=ve c (by omega);have hln:=vy t b c hc2;have hq:=mputI_any (g:=g) (op:=op) (pa:=pa) (f:={ f with st:=s }) a (slV t b c) (by omega) hm (by
  by_cases h:c=0
  ·right;exact List.eq_nil_of_length_eq_zero (by omega)
  ·left;have:=hp h;omega)
 generalize putV f.mem a (slV t b c)=x at *;generalize slV t b c=y at *;unfold U at *;generalize l0 a=a0,l1 a=a1,l2 a=a2,l3 a=a3,l0 b=b0,l1 b=b1,l2 b=b2,l3 b=b3,l0 c=c0,l1 c=c1,l2 c=c2,l3 c=c3 at *;intro v dv w h;refine inG (J:=MS w g v dv v f dv) (F:=MF w g v dv) [str t] func207 h.start h.row h.c.not fun Az I=>?_;refine goM [] I fun β0 A0 w0 I0 hb0=>?_;have hz0:β0 0=g:=agr hb0 0 rfl;refine zv func195 t0 I0 hz0 fun ad0 cap0 dv0 w1 I1=>?_;refine goM [] I1 fun β1 A2 w2 I2 hb1=>?_;have hz1:β1 0=g:=agr hb1 0 hz0;refine zv func195 t1 I2 hz1 fun ad1 cap1 dv1 w3 I3=>?_
 refine goM [] I3 fun β2 A4 w4 I4 hb2=>?_;have hz2:β2 0=g:=agr hb2 0 hz1;refine zv func195 t2 I4 hz2 fun ad2 cap2 dv2 w5 I5=>?_;refine goM [] I5 fun β6 A6 w6 I6 hb6=>?_;have hz6:β6 0=g:=agr hb6 0 hz2;refine dwQ 7 [kC func72 hsm,kC func135 hsl] (MS.rs _ _ _ _ _ _ _) yg.post I6 fun A7 w7 I7=>?_;refine zv func208 hq I7 hz6 fun ad cap dv' w8 I8=>?_;refine goM [] I8 fun β9 A9 w9 I9 hb9=>?_;exact vg I9 ⟨_,_,rfl,I9.mp (agr hb9 0 hz6)⟩
theorem m_icopy{g:Nat}{f:Fr}{op:Nat}{pa:Int}{a b c:Nat}{s:List Nat}(hs:f.st=a::b::c::s)(ha:a<W)(hb:b<W)(hc:c<W)(hl:f.st.length≤900)(ht:f.inp.length≤1000000)(hm:f.mem.length≤1000000)(hc2:c≤65536)(hp:c≠0→a≤1000000):Mth 121 g [] f op pa TU0 { f with st:=s,mem:=putV f.mem a (slV f.inp b c) } op pa:=by
 have t:=copy_any (g:=g) (op:=op) (pa:=pa) hs ha hb hc hl f.inp ht hm hc2 hp;generalize putV f.mem a (slV f.inp b c)=x at *;intro v dv w h;refine inG (J:=MS w g v dv v f dv) (F:=MF w g v dv) [] func121 h.start h.row h.c.not fun Az I=>?_;refine goM [] I fun β0 A0 w0 I0 hb0=>?_;have hz0:β0 0=g:=agr hb0 0 rfl;refine zv func207 t I0 hz0 fun ad cap dv' w1 I1=>?_;refine goM [] I1 fun β9 A9 w9 I9 hb9=>?_;exact vg I9 ⟨_,_,rfl,I9.mp (agr hb9 0 hz0)⟩
theorem m_ccopy{g:Nat}{f:Fr}{op:Nat}{pa:Int}{a b c:Nat}{s:List Nat}(hs:f.st=a::b::c::s)(ha:a<W)(hb:b<W)(hc:c<W)(hl:f.st.length≤900)(ht:f.code.length≤1000000)(hm:f.mem.length≤1000000)(hc2:c≤65536)(hp:c≠0→a≤1000000):Mth 123 g [] f op pa TU0 { f with st:=s,mem:=putV f.mem a (slV f.code b c) } op pa:=by
 have t:=copy_any (g:=g) (op:=op) (pa:=pa) hs ha hb hc hl f.code ht hm hc2 hp;generalize putV f.mem a (slV f.code b c)=x at *;intro v dv w h;refine inG (J:=MS w g v dv v f dv) (F:=MF w g v dv) [] func123 h.start h.row h.c.not fun Az I=>?_;refine goM [] I fun β0 A0 w0 I0 hb0=>?_;have hz0:β0 0=g:=agr hb0 0 rfl;refine zv func207 t I0 hz0 fun ad cap dv' w1 I1=>?_;refine goM [] I1 fun β9 A9 w9 I9 hb9=>?_;exact vg I9 ⟨_,_,rfl,I9.mp (agr hb9 0 hz0)⟩
theorem end_any{g:Nat}{f:Fr}{op:Nat}{pa:Int}{a b:Nat}{s:List Nat}(hs:f.st=a::b::s)(ha:a<W)(hb:b<W)(hl:f.st.length≤900)(z:Int)(hm:f.mem.length≤1000000)(hb2:b≤65536):Mth 137 g [Z z] f op pa TU0 { f with st:=s,out:=slV f.mem a b,sd:=z } op pa:=by
 have t0:=yo (g:=g) (op:=op) (pa:=pa) hs (by omega);have t1:=yo (g:=g) (op:=op) (pa:=pa) (f:={ f with st:=b::s }) (u:=b) (s:=s) rfl (by simp only[];rw[hs]at hl;simp at hl ⊢;omega);have hsl:=zbs f.mem hm a ha b;have hsm:=ve b (by omega);generalize slV f.mem a b=y at *;unfold U at *;generalize l0 a=a0,l1 a=a1,l2 a=a2,l3 a=a3,l0 b=b0,l1 b=b1,l2 b=b2,l3 b=b3 at *;intro v dv w h;refine inG (J:=MS w g v dv v f dv) (F:=MF w g v dv) [Z z] func137 h.start h.row h.c.not fun Az I=>?_;refine goM [] I fun β0 A0 w0 I0 hb0=>?_;have hz0:β0 0=g:=agr hb0 0 rfl
 refine zv func195 t0 I0 hz0 fun ad0 cap0 dv0 w1 I1=>?_;refine goM [] I1 fun β1 A2 w2 I2 hb1=>?_;have hz1:β1 0=g:=agr hb1 0 hz0;refine zv func195 t1 I2 hz1 fun ad1 cap1 dv1 w3 I3=>?_;refine goM [] I3 fun β4 A4 w4 I4 hb4=>?_;have hz4:β4 0=g:=agr hb4 0 hz1;refine dwQ 10 [kC func72 hsm,kC func135 hsl] (MS.rs _ _ _ _ _ _ _) yg.post I4 fun A5 w5 I5=>?_;refine goM [] I5 fun β9 A9 w9 I9 hb9=>?_;exact vg I9 ⟨_,_,rfl,I9.mp' { f with st:=s,out:=y,sd:=z } (agr hb9 0 hz4) rfl rfl⟩
theorem m_out{g:Nat}{f:Fr}{op:Nat}{pa:Int}{a b:Nat}{s:List Nat}(hs:f.st=a::b::s)(ha:a<W)(hb:b<W)(hl:f.st.length≤900)(hm:f.mem.length≤1000000)(hb2:b≤65536):Mth 64 g [] f op pa TU0 { f with st:=s,out:=slV f.mem a b,sd:=1 } op pa:=by
 have t:=end_any (g:=g) (op:=op) (pa:=pa) hs ha hb hl 1 hm hb2;generalize slV f.mem a b=x at *;intro v dv w h;refine inG (J:=MS w g v dv v f dv) (F:=MF w g v dv) [] func64 h.start h.row h.c.not fun Az I=>?_;refine goM [] I fun β0 A0 w0 I0 hb0=>?_;have hz0:β0 0=g:=agr hb0 0 rfl;refine zv func137 t I0 hz0 fun ad cap dv' w1 I1=>?_;refine goM [] I1 fun β9 A9 w9 I9 hb9=>?_;exact vg I9 ⟨_,_,rfl,I9.mp (agr hb9 0 hz0)⟩
theorem m_back{g:Nat}{f:Fr}{op:Nat}{pa:Int}{a b:Nat}{s:List Nat}(hs:f.st=a::b::s)(ha:a<W)(hb:b<W)(hl:f.st.length≤900)(hm:f.mem.length≤1000000)(hb2:b≤65536):Mth 65 g [] f op pa TU0 { f with st:=s,out:=slV f.mem a b,sd:=2 } op pa:=by
 have t:=end_any (g:=g) (op:=op) (pa:=pa) hs ha hb hl 2 hm hb2;generalize slV f.mem a b=x at *;intro v dv w h;refine inG (J:=MS w g v dv v f dv) (F:=MF w g v dv) [] func65 h.start h.row h.c.not fun Az I=>?_;refine goM [] I fun β0 A0 w0 I0 hb0=>?_;have hz0:β0 0=g:=agr hb0 0 rfl;refine zv func137 t I0 hz0 fun ad cap dv' w1 I1=>?_;refine goM [] I1 fun β9 A9 w9 I9 hb9=>?_;exact vg I9 ⟨_,_,rfl,I9.mp (agr hb9 0 hz0)⟩
theorem told_len(f:Nat→Nat):(told f).size=32:=by
 unfold told strOfNums;simp[ByteArray.size]
theorem m_kec{g:Nat}{f:Fr}{op:Nat}{pa:Int}{a b:Nat}{s:List Nat}(hs:f.st=a::b::s)(ha:a<W)(hb:b<W)(hl:f.st.length≤900)(hm:f.mem.length≤1000000)(hb2:b≤65536):Mth 118 g [] f op pa TU0 { f with st:=kecV (slV f.mem a b)::s } op pa:=by
 have t0:=yo (g:=g) (op:=op) (pa:=pa) hs (by omega);have t1:=yo (g:=g) (op:=op) (pa:=pa) (f:={ f with st:=b::s }) (u:=b) (s:=s) rfl (by simp only[];rw[hs]at hl;simp at hl ⊢;omega);have hsl:=zbs f.mem hm a ha b;have hsm:=ve b (by omega);have hsu:=fun w' (h:Tabs w' ki)=>sum_any ⟨(slV f.mem a b).toArray⟩ w' h
 have hly:=zel (g:=g) (op:=op) (pa:=pa) (f:={ f with st:=s }) (told (spg (blks ⟨(slV f.mem a b).toArray⟩))) (by rw[told_len];omega) (by simp only[];rw[hs]at hl;simp at hl;omega);rw[told_len]at hly;unfold kecV;generalize told (spg (blks ⟨(slV f.mem a b).toArray⟩))=q at *;generalize rdN q 32=r,slV f.mem a b=y at *;unfold U at *;generalize l0 a=a0,l1 a=a1,l2 a=a2,l3 a=a3,l0 b=b0,l1 b=b1,l2 b=b2,l3 b=b3 at *;intro v dv w h;refine inG (J:=MS w g v dv v f dv) (F:=MF w g v dv) [] func118 h.start h.row h.c.not fun Az I=>?_;refine goM [] I fun β0 A0 w0 I0 hb0=>?_
 have hz0:β0 0=g:=agr hb0 0 rfl;refine zv func195 t0 I0 hz0 fun ad0 cap0 dv0 w1 I1=>?_;refine goM [] I1 fun β1 A2 w2 I2 hb1=>?_;have hz1:β1 0=g:=agr hb1 0 hz0;refine zv func195 t1 I2 hz1 fun ad1 cap1 dv1 w3 I3=>?_;refine goM [] I3 fun β4 A4 w4 I4 hb4=>?_;have hz4:β4 0=g:=agr hb4 0 hz1;refine dwT (T:=fun w'=>Tabs w' ki) 11 [kC func72 hsm,kC func135 hsl,cA func205 hsu] (MS.rs _ _ _ _ _ _ _) (fun _ h=>h.c.ts) yg.post I4 fun A5 w5 I5=>?_;refine zv func134 hly I5 hz4 fun ad cap dv' w6 I6=>?_;refine goM [] I6 fun β9 A9 w9 I9 hb9=>?_
 exact vg I9 ⟨_,_,rfl,I9.mp (agr hb9 0 hz4)⟩
theorem m_push{g:Nat}{f:Fr}{op:Nat}{pa:Int}(h1:95≤op)(h2:op<128)(hc:f.code.length≤1000000)(p0:0≤f.pc)(p1:f.pc≤1000000)(hl:f.st.length≤900):Mth 61 g [] f op pa TU0 { f with st:=rdB (slV f.code f.pc.toNat ((op-95:Nat):Int))::f.st,pc:=f.pc+((op-95:Nat):Int) } op pa:=by
 obtain⟨code,inp,st,mem,pc,gas,sd,er,out⟩:=f;simp only[]at hc p0 p1 hl;obtain⟨k,hk⟩:∃ k,op-95=k:=⟨_,rfl⟩
 obtain⟨p,rfl⟩:∃ p:Nat,pc=p:=⟨pc.toNat,(Int.toNat_of_nonneg p0).symm⟩
 have hsb:=fun o1 o2 w=>sub8 (x:=op) (y:=95) (by omega) (by omega) o1 o2 w
 rw[hk]at hsb ⊢;have hcv:=qb k (by omega);simp only[Int.toNat_natCast];have hM:=zah;have hW:=M_W;have hof:=of_any p (by omega);have hcp:=zcw p (by omega);have hsl:=zbs code hc p (by omega) k;have hln:=vy code p k (by omega);have hly:=zel (g:=g) (op:=op) (pa:=pa) (f:=⟨code,inp,st,mem,p,gas,sd,er,out⟩) ⟨(slV code p k).toArray⟩ (by rw[y9];omega) hl;rw[y9]at hly;unfold rdB;generalize rdN ⟨(slV code p k).toArray⟩ (slV code p k).length=r at *;generalize slV code p k=y at *;unfold U at *;generalize l0 p=p0,l1 p=p1,l2 p=p2,l3 p=p3 at *;intro v dv w h
 refine inG (J:=MS w g v dv v ⟨code,inp,st,mem,p,gas,sd,er,out⟩ dv) (F:=MF w g v dv) [] func61 h.start h.row h.c.not fun Az I=>?_;refine goM [bO .sub 5 hsb,vO 5 3 hcv] I fun β0 A0 w0 I0 hb0=>?_;have hz0:β0 0=g:=agr hb0 0 rfl;refine dwQ 15 [vO 3 36 hcp,kC func75 hof,kC func135 hsl] (MS.rs _ _ _ _ _ _ _) yg.post I0 fun A5 w5 I5=>?_;refine zv func134 hly I5 hz0 fun ad cap dv' w6 I6=>?_;refine goM [kaZ p k ((p:Int)+k)] I6 fun β9 A9 w9 I9 hb9=>?_;exact vg I9 ⟨_,_,rfl,I9.mp' ⟨code,inp,r::st,mem,(p:Int)+k,gas,sd,er,out⟩ (agr hb9 0 hz0) rfl rfl⟩
theorem m_dup{g:Nat}{f:Fr}{op:Nat}{pa:Int}(h1:128≤op)(h2:op<144)(hk:op-128<f.st.length)(hl:f.st.length≤900):Mth 62 g [] f op pa TU0 { f with st:=tp f.st (op-128)::f.st } op pa:=by
 have hly:=zbi (g:=g) (op:=op) (pa:=pa) (f:=f) (tp f.st (op-128)) (by omega);have htop:=fun v dv w (h:MI g v f op pa dv w)=>zc9 h (op-128) hk (by omega)
 have hsb:=fun o1 o2 w=>sub8 (x:=op) (y:=128) (by omega) (by omega) o1 o2 w
 have hcv:=qb (op-128) (by omega);generalize tp f.st (op-128)=u at *;generalize op-128=k at *;unfold U at *;generalize l0 u=u0,l1 u=u1,l2 u=u2,l3 u=u3 at *;intro v dv w h;refine inG (J:=MS w g v dv v f dv) (F:=MF w g v dv) [] func62 h.start h.row h.c.not fun Az I=>?_;refine goM [bO .sub 5 hsb,vO 5 3 hcv] I fun β0 A0 w0 I0 hb0=>?_;have hz0:β0 0=g:=agr hb0 0 rfl;refine rcallM (xs:=[Z k]) (op:=op) (pa:=pa) func43 I0 hz0 (htop v dv w0) fun w2 I2=>?_;refine goM [] I2 fun β3 A3 w3 I3 hb3=>?_;have hz3:β3 0=g:=agr hb3 0 hz0;refine zv func136 hly I3 hz3 fun ad cap dv' w6 I6=>?_
 refine goM [] I6 fun β9 A9 w9 I9 hb9=>?_;exact vg I9 ⟨_,_,rfl,I9.mp (agr hb9 0 hz3)⟩
def mF (n:Nat):Nat:=if n<12 then 92+n else if n<30 then 104+(n-16)else if n=32 then 118 else if n<58 then 119+(n-53)else if n<84 then 124+(n-80)else if n<92 then 128+(n-86)else if n<128 then 61 else if n<144 then 62 else if n<160 then 63 else if n=243 then 64 else 65
def qF (i j:Nat):Fa prog (fun _=>True):=bO .eql 5 (zdw (x:=i) (y:=j) (b:=decide ((i:Int)=j)) rfl)
def lF (i j:Nat):Fa prog (fun _=>True):=bO .leq 5 (run_leq8 (x:=i) (y:=j) (b:=decide ((i:Int)≤j)) rfl)
def nF (n j:Nat) (h:n≠j):Fa prog (fun _=>True):=jeF n j
def gF (n j:Nat) (h:j<n):Fa prog (fun _=>True):=jmF n j
def eF (n j:Nat) (h:n≤j):Fa prog (fun _=>True):=jmT n j
def tbs (k:Nat):List Nat:=if k=57 then List.range 12 else if k=58 then List.range' 16 14 else if k=59 then [32,53,54,55,56,57]else [80,81,82,83,86,87,88,89,90,91]
def tF (k n:Nat):List (Fa prog (fun _=>True)):=((tbs k).filter (· ≤ n)).map (qF n)
def uF (k n:Nat):List (Fa prog (fun _=>True)):=([(57,11),(58,29),(59,57),(60,91)].filter (·.1≤k)).map (fun p=>lF n p.2)
theorem tbX(k n m:Nat){F:Func}(hF:prog.funcs[k]? = some F)(h1:F.body.isSome=true:=by kernel_rfl)(h2:(rn prog (tF k n) (cfF F #[b8 n])).2.2.map (·.1)=(rn prog (tF k n) (cfF F #[b8 n])).2.2.map (·.2):=by kernel_rfl)(h3:mfX (rn prog (tF k n) (cfF F #[b8 n])).1=some (.func m,[]):=by kernel_rfl)(h4:(r0 prog (qf (rn prog (tF k n) (cfF F #[b8 n])).1 (fnV m))).2.2.map (·.1)=(r0 prog (qf (rn prog (tF k n) (cfF F #[b8 n])).1 (fnV m))).2.2.map (·.2):=by kernel_rfl)(h5:resX prog F ((r0 prog (qf (rn prog (tF k n) (cfF F #[b8 n])).1 (fnV m))).1.tm,(r0 prog (qf (rn prog (tF k n) (cfF F #[b8 n])).1 (fnV m))).1.rows,(r0 prog (qf (rn prog (tF k n) (cfF F #[b8 n])).1 (fnV m))).1.nx)=some (fnV m):=by kernel_rfl)(h6:(r0 prog (qf (rn prog (tF k n) (cfF F #[b8 n])).1 (fnV m))).1.dn=some .ret:=by kernel_rfl):∀ w,Calls prog k #[b8 n] w fun e w'=>e=.returned (fnV m)∧Below w.heap.size w w':=by
 intro w;refine inZ hF (fun a I=>?_) h1;refine goQ (tF k n) (zq w) I (fun β a w1 I1 hb=>?_) (he:=h2);refine mkfX (fn:=.func m) (ss:=[]) I1 ?_ h3;refine goZ [] (I1.same (fnV m)) (fun β2 a2 w2 I2 hb2=>?_) (he:=h4);exact zl (v:=fnV m) I2 h5 (.inl h6)
theorem opX(k n m : Nat){F : Func}(hF : prog.funcs[k]? = some F)(ht : ∀ w, Calls prog k #[b8 n] w fun e w' => e = .returned (fnV m) ∧ Below w.heap.size w w')(hB : F.body.isNone = false := by kernel_rfl)(hN : (F.name == "runtime.NumGoroutine") = false := by kernel_rfl)(h2 : (rn prog (uF k n ++ [kC hF ht hB hN]) (cfF Tryz.f35 #[b8 n])).2.2.map (·.1) = (rn prog (uF k n ++ [kC hF ht hB hN]) (cfF Tryz.f35 #[b8 n])).2.2.map (·.2) := by kernel_rfl)(h5 : resX prog Tryz.f35 ((rn prog (uF k n ++ [kC hF ht hB hN]) (cfF Tryz.f35 #[b8 n])).1.tm, (rn prog (uF k n ++ [kC hF ht hB hN]) (cfF Tryz.f35 #[b8 n])).1.rows, (rn prog (uF k n ++ [kC hF ht hB hN]) (cfF Tryz.f35 #[b8 n])).1.nx) = some (fnV m) := by kernel_rfl)(h6 : (rn prog (uF k n ++ [kC hF ht hB hN]) (cfF Tryz.f35 #[b8 n])).1.dn = some .ret := by kernel_rfl) : ∀ w, Calls prog 35 #[b8 n] w fun e w' => e = .returned (fnV m) ∧ Below w.heap.size w w' := by
 intro w;refine inZ func35 fun a I=>?_;refine goQ (uF k n++[kC hF ht hB hN]) (zq w) I (fun β a w1 I1 hb=>?_) (he:=h2);exact zl (v:=fnV m) I1 h5 (.inl h6)
theorem non_58(n:Nat)(h:n<16∨29<n):RT 58 #[b8 n] (.nilFunc):=by
 refine fun w=>inZ func58 fun a I=>?_;refine goZ [nF n 16 (by omega),nF n 17 (by omega),nF n 18 (by omega),nF n 19 (by omega),nF n 20 (by omega),nF n 21 (by omega),nF n 22 (by omega),nF n 23 (by omega),nF n 24 (by omega),nF n 25 (by omega),nF n 26 (by omega),nF n 27 (by omega),nF n 28 (by omega),nF n 29 (by omega)] I fun β a w1 I1 hb=>?_;exact zl (v:=.nilFunc) I1
theorem non_59(n:Nat)(h:n≠32∧(n<53∨57<n)):RT 59 #[b8 n] (.nilFunc):=by
 refine fun w=>inZ func59 fun a I=>?_;refine goZ [nF n 32 (by omega),nF n 53 (by omega),nF n 54 (by omega),nF n 55 (by omega),nF n 56 (by omega),nF n 57 (by omega)] I fun β a w1 I1 hb=>?_;exact zl (v:=.nilFunc) I1
theorem non_60(n:Nat)(h:n<80∨n=84∨n=85∨91<n):RT 60 #[b8 n] (.nilFunc):=by
 refine fun w=>inZ func60 fun a I=>?_;refine goZ [nF n 80 (by omega),nF n 81 (by omega),nF n 82 (by omega),nF n 83 (by omega),nF n 86 (by omega),nF n 87 (by omega),nF n 88 (by omega),nF n 89 (by omega),nF n 90 (by omega),nF n 91 (by omega)] I fun β a w1 I1 hb=>?_;exact zl (v:=.nilFunc) I1
theorem none_58(n:Nat)(h:11<n∧n<16):RT 35 #[b8 n] (.nilFunc):=by
 refine fun w=>inZ func35 fun a I=>?_;refine goZ [gF n 11 (by omega),eF n 29 (by omega),kC func58 (non_58 n (by omega))] I fun β a w1 I1 hb=>?_;exact zl (v:=.nilFunc) I1
theorem none_59(n:Nat)(h:29<n∧n<53∧n≠32):RT 35 #[b8 n] (.nilFunc):=by
 refine fun w=>inZ func35 fun a I=>?_;refine goZ [gF n 11 (by omega),gF n 29 (by omega),eF n 57 (by omega),kC func59 (non_59 n (by omega))] I fun β a w1 I1 hb=>?_;exact zl (v:=.nilFunc) I1
theorem none_60(n:Nat)(h:(57<n∧n<80)∨n=84∨n=85):RT 35 #[b8 n] (.nilFunc):=by
 refine fun w=>inZ func35 fun a I=>?_;refine goZ [gF n 11 (by omega),gF n 29 (by omega),gF n 57 (by omega),eF n 91 (by omega),kC func60 (non_60 n (by omega))] I fun β a w1 I1 hb=>?_;exact zl (v:=.nilFunc) I1
theorem ope_r0(n:Nat)(h1:95≤n)(h2:n≤127):RT 35 #[b8 n] (fnV 61):=by
 refine fun w=>inZ func35 fun a I=>?_;refine goZ [gF n 11 (by omega),gF n 29 (by omega),gF n 57 (by omega),gF n 91 (by omega),eF 95 n (by omega),eF n 127 (by omega)] I fun β a w1 I1 hb=>?_;refine mkfX (fn:=.func 61) (ss:=[]) I1 ?_;refine goZ [] (I1.same (fnV 61)) fun β2 a2 w2 I2 hb2=>?_;exact zl (v:=fnV 61) I2
theorem ope_r1(n:Nat)(h1:128≤n)(h2:n≤143):RT 35 #[b8 n] (fnV 62):=by
 refine fun w=>inZ func35 fun a I=>?_;refine goZ [gF n 11 (by omega),gF n 29 (by omega),gF n 57 (by omega),gF n 91 (by omega),eF 95 n (by omega),gF n 127 (by omega),eF 128 n (by omega),eF n 143 (by omega)] I fun β a w1 I1 hb=>?_;refine mkfX (fn:=.func 62) (ss:=[]) I1 ?_;refine goZ [] (I1.same (fnV 62)) fun β2 a2 w2 I2 hb2=>?_;exact zl (v:=fnV 62) I2
theorem ope_r2(n:Nat)(h1:144≤n)(h2:n≤159):RT 35 #[b8 n] (fnV 63):=by
 refine fun w=>inZ func35 fun a I=>?_;refine goZ [gF n 11 (by omega),gF n 29 (by omega),gF n 57 (by omega),gF n 91 (by omega),eF 95 n (by omega),gF n 127 (by omega),eF 128 n (by omega),gF n 143 (by omega),eF 144 n (by omega),eF n 159 (by omega)] I fun β a w1 I1 hb=>?_;refine mkfX (fn:=.func 63) (ss:=[]) I1 ?_;refine goZ [] (I1.same (fnV 63)) fun β2 a2 w2 I2 hb2=>?_;exact zl (v:=fnV 63) I2
theorem ope_243:RT 35 #[b8 243] (fnV 64):=by
 refine fun w=>inZ func35 fun a I=>?_;refine goZ [lF 243 11,lF 243 29,lF 243 57,lF 243 91,lF 95 243,lF 243 127,lF 128 243,lF 243 143,lF 144 243,lF 243 159,qF 243 243] I fun β a w1 I1 hb=>?_;refine mkfX (fn:=.func 64) (ss:=[]) I1 ?_;refine goZ [] (I1.same (fnV 64)) fun β2 a2 w2 I2 hb2=>?_;exact zl (v:=fnV 64) I2
theorem ope_253:RT 35 #[b8 253] (fnV 65):=by
 refine fun w=>inZ func35 fun a I=>?_;refine goZ [lF 253 11,lF 253 29,lF 253 57,lF 253 91,lF 95 253,lF 253 127,lF 128 253,lF 253 143,lF 144 253,lF 253 159,qF 253 243,qF 253 253] I fun β a w1 I1 hb=>?_;refine mkfX (fn:=.func 65) (ss:=[]) I1 ?_;refine goZ [] (I1.same (fnV 65)) fun β2 a2 w2 I2 hb2=>?_;exact zl (v:=fnV 65) I2
theorem none_lo(n:Nat)(h:91<n∧n<95):RT 35 #[b8 n] (.nilFunc):=by
 refine fun w=>inZ func35 fun a I=>?_;refine goZ [gF n 11 (by omega),gF n 29 (by omega),gF n 57 (by omega),gF n 91 (by omega),gF 95 n (by omega),gF 128 n (by omega),gF 144 n (by omega),nF n 243 (by omega),nF n 253 (by omega)] I fun β a w1 I1 hb=>?_;exact zl (v:=.nilFunc) I1
theorem none_hi(n:Nat)(h:159<n∧n≠243∧n≠253):RT 35 #[b8 n] (.nilFunc):=by
 refine fun w=>inZ func35 fun a I=>?_;refine goZ [gF n 11 (by omega),gF n 29 (by omega),gF n 57 (by omega),gF n 91 (by omega),eF 95 n (by omega),gF n 127 (by omega),eF 128 n (by omega),gF n 143 (by omega),eF 144 n (by omega),gF n 159 (by omega),nF n 243 (by omega),nF n 253 (by omega)] I fun β a w1 I1 hb=>?_;exact zl (v:=.nilFunc) I1
theorem zb4{n:Nat}(h:kr n=true):n=0∨n=1∨n=2∨n=3∨n=4∨n=5∨n=6∨n=7∨n=8∨n=9∨n=10∨n=11∨n=16∨n=17∨n=18∨n=19∨n=20∨n=21∨n=22∨n=23∨n=24∨n=25∨n=26∨n=27∨n=28∨n=29∨n=32∨n=53∨n=54∨n=55∨n=56∨n=57∨n=80∨n=81∨n=82∨n=83∨n=86∨n=87∨n=88∨n=89∨n=90∨n=91∨(95≤n∧n≤127)∨(128≤n∧n≤143)∨(144≤n∧n≤159)∨n=243∨n=253:=by
 unfold kr at h;simp only[Bool.or_eq_true,Bool.and_eq_true,decide_eq_true_eq]at h;omega
theorem notOp_cases{n:Nat}(h:kr n=false):(11<n∧n<16)∨(29<n∧n<53∧n≠32)∨((57<n∧n<80)∨n=84∨n=85)∨(91<n∧n<95)∨(159<n∧n≠243∧n≠253):=by
 unfold kr at h;simp only[Bool.or_eq_false_iff,Bool.and_eq_false_iff,decide_eq_false_iff_not]at h;omega
theorem oper_none{n:Nat}(h:kr n=false):RT 35 #[b8 n] .nilFunc:=by
 intro w;rcases notOp_cases h with h|h|h|h|h
 ·exact none_58 n h w
 ·exact none_59 n h w
 ·exact none_60 n h w
 ·exact none_lo n h w
 ·exact none_hi n h w
theorem oper_some{n:Nat}(h:kr n=true):RT 35 #[b8 n] (fnV (mF n)):=by
 intro w;have hr:∀ lo hi fn,lo≤n→n≤hi→((lo=95∧hi=127∧fn=61)∨(lo=128∧hi=143∧fn=62)∨(lo=144∧hi=159∧fn=63))→mF n=fn:=by
  intro lo hi fn h1 h2 h3;unfold mF;rcases h3 with⟨rfl,rfl,rfl⟩|⟨rfl,rfl,rfl⟩|⟨rfl,rfl,rfl⟩<;>(repeat rw[if_neg (by omega)])<;>rw[if_pos (by omega)]
 rcases zb4 h with rfl|rfl|rfl|rfl|rfl|rfl|rfl|rfl|rfl|rfl|rfl|rfl|rfl|rfl|rfl|rfl|rfl|rfl|rfl|rfl|rfl|rfl|rfl|rfl|rfl|rfl|rfl|rfl|rfl|rfl|rfl|rfl|rfl|rfl|rfl|rfl|rfl|rfl|rfl|rfl|rfl|rfl|h|h|h|rfl|rfl
 ·exact(opX 57 0 92 func57 (tbX 57 0 92 func57)) w
 ·exact(opX 57 1 93 func57 (tbX 57 1 93 func57)) w
 ·exact(opX 57 2 94 func57 (tbX 57 2 94 func57)) w
 ·exact(opX 57 3 95 func57 (tbX 57 3 95 func57)) w
 ·exact(opX 57 4 96 func57 (tbX 57 4 96 func57)) w
 ·exact(opX 57 5 97 func57 (tbX 57 5 97 func57)) w
 ·exact(opX 57 6 98 func57 (tbX 57 6 98 func57)) w
 ·exact(opX 57 7 99 func57 (tbX 57 7 99 func57)) w
 ·exact(opX 57 8 100 func57 (tbX 57 8 100 func57)) w
 ·exact(opX 57 9 101 func57 (tbX 57 9 101 func57)) w
 ·exact(opX 57 10 102 func57 (tbX 57 10 102 func57)) w
 ·exact(opX 57 11 103 func57 (tbX 57 11 103 func57)) w
 ·exact(opX 58 16 104 func58 (tbX 58 16 104 func58)) w
 ·exact(opX 58 17 105 func58 (tbX 58 17 105 func58)) w
 ·exact(opX 58 18 106 func58 (tbX 58 18 106 func58)) w
 ·exact(opX 58 19 107 func58 (tbX 58 19 107 func58)) w
 ·exact(opX 58 20 108 func58 (tbX 58 20 108 func58)) w
 ·exact(opX 58 21 109 func58 (tbX 58 21 109 func58)) w
 ·exact(opX 58 22 110 func58 (tbX 58 22 110 func58)) w
 ·exact(opX 58 23 111 func58 (tbX 58 23 111 func58)) w
 ·exact(opX 58 24 112 func58 (tbX 58 24 112 func58)) w
 ·exact(opX 58 25 113 func58 (tbX 58 25 113 func58)) w
 ·exact(opX 58 26 114 func58 (tbX 58 26 114 func58)) w
 ·exact(opX 58 27 115 func58 (tbX 58 27 115 func58)) w
 ·exact(opX 58 28 116 func58 (tbX 58 28 116 func58)) w
 ·exact(opX 58 29 117 func58 (tbX 58 29 117 func58)) w
 ·exact(opX 59 32 118 func59 (tbX 59 32 118 func59)) w
 ·exact(opX 59 53 119 func59 (tbX 59 53 119 func59)) w
 ·exact(opX 59 54 120 func59 (tbX 59 54 120 func59)) w
 ·exact(opX 59 55 121 func59 (tbX 59 55 121 func59)) w
 ·exact(opX 59 56 122 func59 (tbX 59 56 122 func59)) w
 ·exact(opX 59 57 123 func59 (tbX 59 57 123 func59)) w
 ·exact(opX 60 80 124 func60 (tbX 60 80 124 func60)) w
 ·exact(opX 60 81 125 func60 (tbX 60 81 125 func60)) w
 ·exact(opX 60 82 126 func60 (tbX 60 82 126 func60)) w
 ·exact(opX 60 83 127 func60 (tbX 60 83 127 func60)) w
 ·exact(opX 60 86 128 func60 (tbX 60 86 128 func60)) w
 ·exact(opX 60 87 129 func60 (tbX 60 87 129 func60)) w
 ·exact(opX 60 88 130 func60 (tbX 60 88 130 func60)) w
 ·exact(opX 60 89 131 func60 (tbX 60 89 131 func60)) w
 ·exact(opX 60 90 132 func60 (tbX 60 90 132 func60)) w
 ·exact(opX 60 91 133 func60 (tbX 60 91 133 func60)) w
 ·rw[hr 95 127 61 h.1 h.2 (by decide)];exact ope_r0 n h.1 h.2 w
 ·rw[hr 128 143 62 h.1 h.2 (by decide)];exact ope_r1 n h.1 h.2 w
 ·rw[hr 144 159 63 h.1 h.2 (by decide)];exact ope_r2 n h.1 h.2 w
 ·exact ope_243 w
 ·exact ope_253 w
structure Rdy (op:Nat) (f:Fr):Prop where
 code:f.code.length≤65536
 inp:f.inp.length≤65536
 st:f.st.length≤256
 num:∀ u∈f.st,u<W
 mem:f.mem.length≤1000000
 pc0:1≤f.pc
 pc1:f.pc≤1000000
 gas0:0≤f.gas
 gas1:f.gas≤100000
 tk:(opP op).2.1≤f.st.length
 m1:op=32∨op=243∨op=253→tp f.st 1≤65536
 m2:op=55∨op=57→tp f.st 2≤65536∧(tp f.st 2≠0→tp f.st 0≤1000000)
 m3:op=82∨op=83∨op=86→tp f.st 0≤1000000
 m4:op=87→tp f.st 1≠0→tp f.st 0≤1000000
theorem one_of{l:List Nat}(h:1≤l.length):∃ a s,l=a::s:=by
 rcases l with _|⟨a,s⟩
 ·simp at h
 ·exact⟨a,s,rfl⟩
theorem two_of{l:List Nat}(h:2≤l.length):∃ a b s,l=a::b::s:=by
 rcases l with _|⟨a,_|⟨b,s⟩⟩
 ·simp at h
 ·simp at h
 ·exact⟨a,b,s,rfl⟩
theorem three_of{l:List Nat}(h:3≤l.length):∃ a b c s,l=a::b::c::s:=by
 rcases l with _|⟨a,_|⟨b,_|⟨c,s⟩⟩⟩
 ·simp at h
 ·simp at h
 ·simp at h
 ·exact⟨a,b,c,s,rfl⟩
theorem Mth.to{fn g:Nat}{xs:List Value}{f f1 f2:Fr}{op op':Nat}{pa pa':Int}{x:Value}(h:Mth fn g xs f op pa x f1 op' pa')(e:f1=f2):Mth fn g xs f op pa x f2 op' pa':=e ▸ h
theorem to_reck{k g:Nat}{f:Fr}{op:Nat}{pa:Int}{r:Nat}{s:List Nat}(hm:Mth k g [] f op pa TU0 { f with st:=r::s } op pa)(h0:op≠0)(h:op<32)(hr:zk op (tp f.st 0) (tp f.st 1) (tp f.st 2)=r)(hs:f.st.drop (opP op).2.1=s):Mth k g [] f op pa TU0 (doV op f) op pa:=by
 refine hm.to ?_;unfold doV;rw[if_neg h0,if_pos h,hr,hs]
theorem do2{n k g:Nat}{r:Nat→Nat→Nat}(hm:M2 k r){f:Fr}{pa:Int}(h:Rdy n f)(h0:n≠0:=by decide)(h1:n<32:=by decide)(ht:(opP n).2.1=2:=by rfl)(hr:∀ a b c,zk n a b c=r a b:=by intros;simp[zk]):Mth k g [] f n pa TU0 (doV n f) n pa:=by
 obtain⟨code,inp,st,mem,pc,gas,sd,er,out⟩:=f;have hst:st.length≤256:=h.st;have hk:=h.tk;rw[ht]at hk;obtain⟨a,b,s,rfl⟩:=two_of (show 2≤st.length from hk);exact to_reck (hm rfl (h.num a (by simp)) (h.num b (by simp)) (Nat.le_trans hst (by decide))) h0 h1 (hr _ _ _) (by rw[ht];rfl)
theorem do3{n k g:Nat}{r:Nat→Nat→Nat→Nat}(hm:M3 k r){f:Fr}{pa:Int}(h:Rdy n f)(h0:n≠0:=by decide)(h1:n<32:=by decide)(ht:(opP n).2.1=3:=by rfl)(hr:∀ a b c,zk n a b c=r a b c:=by intros;simp[zk]):Mth k g [] f n pa TU0 (doV n f) n pa:=by
 obtain⟨code,inp,st,mem,pc,gas,sd,er,out⟩:=f;have hst:st.length≤256:=h.st;have hk:=h.tk;rw[ht]at hk;obtain⟨a,b,c,s,rfl⟩:=three_of (show 3≤st.length from hk);exact to_reck (hm rfl (h.num a (by simp)) (h.num b (by simp)) (h.num c (by simp)) (Nat.le_trans hst (by decide))) h0 h1 (hr _ _ _) (by rw[ht];rfl)
theorem dA{k g op : Nat}{f : Fr}{pa : Int}{F : Func}(hf : prog.funcs[k]? = some F)(hm : Mth k g [] f op pa TU0 (doV op f) op pa)(h1 : F.body.isNone = false := by kernel_rfl)(h2 : (F.name == "runtime.NumGoroutine") = false := by kernel_rfl) : ∃ F : Func, prog.funcs[k]? = some F ∧ F.body.isNone = false ∧ (F.name == "runtime.NumGoroutine") = false ∧ Mth k g [] f op pa TU0 (doV op f) op pa := ⟨F, hf, h1, h2, hm⟩
theorem do_0{g:Nat}{f:Fr}{pa:Int}(h:Rdy 0 f)(hpa:pa=f.pc-1):Mth 92 g [] f 0 pa TU0 (doV 0 f) 0 pa:=by
 obtain⟨code,inp,st,mem,pc,gas,sd,er,out⟩:=f;have hst:st.length≤256:=h.st;exact m_stop.to (by kernel_rfl)
theorem do_21{g:Nat}{f:Fr}{pa:Int}(h:Rdy 21 f)(hpa:pa=f.pc-1):Mth 109 g [] f 21 pa TU0 (doV 21 f) 21 pa:=by
 obtain⟨code,inp,st,mem,pc,gas,sd,er,out⟩:=f;have hst:st.length≤256:=h.st;obtain⟨a,s,rfl⟩:=one_of (show 1≤st.length from h.tk);exact to_reck (m_zero rfl (h.num a (by simp)) (Nat.le_trans hst (by decide))) (by decide) (by decide) (by simp[zk,tp]) (by rfl)
theorem do_25{g:Nat}{f:Fr}{pa:Int}(h:Rdy 25 f)(hpa:pa=f.pc-1):Mth 113 g [] f 25 pa TU0 (doV 25 f) 25 pa:=by
 obtain⟨code,inp,st,mem,pc,gas,sd,er,out⟩:=f;have hst:st.length≤256:=h.st;obtain⟨a,s,rfl⟩:=one_of (show 1≤st.length from h.tk);exact to_reck (m_not rfl (h.num a (by simp)) (Nat.le_trans hst (by decide))) (by decide) (by decide) (by simp[zk,tp]) (by rfl)
theorem do_32{g:Nat}{f:Fr}{pa:Int}(h:Rdy 32 f)(hpa:pa=f.pc-1):Mth 118 g [] f 32 pa TU0 (doV 32 f) 32 pa:=by
 obtain⟨code,inp,st,mem,pc,gas,sd,er,out⟩:=f;have hst:st.length≤256:=h.st;obtain⟨a,b,s,rfl⟩:=two_of (show 2≤st.length from h.tk);exact(m_kec rfl (h.num a (by simp)) (h.num b (by simp)) (Nat.le_trans hst (by decide)) h.mem (h.m1 (.inl rfl))).to (by kernel_rfl)
theorem do_53{g:Nat}{f:Fr}{pa:Int}(h:Rdy 53 f)(hpa:pa=f.pc-1):Mth 119 g [] f 53 pa TU0 (doV 53 f) 53 pa:=by
 obtain⟨code,inp,st,mem,pc,gas,sd,er,out⟩:=f;have hst:st.length≤256:=h.st;obtain⟨a,s,rfl⟩:=one_of (show 1≤st.length from h.tk);exact(m_iload rfl (h.num a (by simp)) (Nat.le_trans hst (by decide)) (Nat.le_trans h.inp (by decide))).to (by kernel_rfl)
theorem do_54{g:Nat}{f:Fr}{pa:Int}(h:Rdy 54 f)(hpa:pa=f.pc-1):Mth 120 g [] f 54 pa TU0 (doV 54 f) 54 pa:=by
 obtain⟨code,inp,st,mem,pc,gas,sd,er,out⟩:=f;have hst:st.length≤256:=h.st;exact(m_isize (Nat.le_trans h.inp (by decide)) (Nat.le_trans hst (by decide))).to (by kernel_rfl)
theorem do_55{g:Nat}{f:Fr}{pa:Int}(h:Rdy 55 f)(hpa:pa=f.pc-1):Mth 121 g [] f 55 pa TU0 (doV 55 f) 55 pa:=by
 obtain⟨code,inp,st,mem,pc,gas,sd,er,out⟩:=f;have hst:st.length≤256:=h.st;obtain⟨a,b,c,s,rfl⟩:=three_of (show 3≤st.length from h.tk);exact(m_icopy rfl (h.num a (by simp)) (h.num b (by simp)) (h.num c (by simp)) (Nat.le_trans hst (by decide)) (Nat.le_trans h.inp (by decide)) h.mem (h.m2 (.inl rfl)).1 (h.m2 (.inl rfl)).2).to (by kernel_rfl)
theorem do_56{g:Nat}{f:Fr}{pa:Int}(h:Rdy 56 f)(hpa:pa=f.pc-1):Mth 122 g [] f 56 pa TU0 (doV 56 f) 56 pa:=by
 obtain⟨code,inp,st,mem,pc,gas,sd,er,out⟩:=f;have hst:st.length≤256:=h.st;exact(m_csize (Nat.le_trans h.code (by decide)) (Nat.le_trans hst (by decide))).to (by kernel_rfl)
theorem do_57{g:Nat}{f:Fr}{pa:Int}(h:Rdy 57 f)(hpa:pa=f.pc-1):Mth 123 g [] f 57 pa TU0 (doV 57 f) 57 pa:=by
 obtain⟨code,inp,st,mem,pc,gas,sd,er,out⟩:=f;have hst:st.length≤256:=h.st;obtain⟨a,b,c,s,rfl⟩:=three_of (show 3≤st.length from h.tk);exact(m_ccopy rfl (h.num a (by simp)) (h.num b (by simp)) (h.num c (by simp)) (Nat.le_trans hst (by decide)) (Nat.le_trans h.code (by decide)) h.mem (h.m2 (.inr rfl)).1 (h.m2 (.inr rfl)).2).to (by kernel_rfl)
theorem do_80{g:Nat}{f:Fr}{pa:Int}(h:Rdy 80 f)(hpa:pa=f.pc-1):Mth 124 g [] f 80 pa TU0 (doV 80 f) 80 pa:=by
 obtain⟨code,inp,st,mem,pc,gas,sd,er,out⟩:=f;have hst:st.length≤256:=h.st;obtain⟨a,s,rfl⟩:=one_of (show 1≤st.length from h.tk);exact(m_pop rfl (h.num a (by simp)) (Nat.le_trans hst (by decide))).to (by kernel_rfl)
theorem do_81{g:Nat}{f:Fr}{pa:Int}(h:Rdy 81 f)(hpa:pa=f.pc-1):Mth 125 g [] f 81 pa TU0 (doV 81 f) 81 pa:=by
 obtain⟨code,inp,st,mem,pc,gas,sd,er,out⟩:=f;have hst:st.length≤256:=h.st;obtain⟨a,s,rfl⟩:=one_of (show 1≤st.length from h.tk);exact(m_load rfl (h.num a (by simp)) (Nat.le_trans hst (by decide)) h.mem).to (by kernel_rfl)
theorem do_82{g:Nat}{f:Fr}{pa:Int}(h:Rdy 82 f)(hpa:pa=f.pc-1):Mth 126 g [] f 82 pa TU0 (doV 82 f) 82 pa:=by
 obtain⟨code,inp,st,mem,pc,gas,sd,er,out⟩:=f;have hst:st.length≤256:=h.st;obtain⟨a,b,s,rfl⟩:=two_of (show 2≤st.length from h.tk);exact(m_store rfl (h.num a (by simp)) (h.num b (by simp)) (Nat.le_trans hst (by decide)) (h.m3 (.inl rfl)) h.mem).to (by kernel_rfl)
theorem do_83{g:Nat}{f:Fr}{pa:Int}(h:Rdy 83 f)(hpa:pa=f.pc-1):Mth 127 g [] f 83 pa TU0 (doV 83 f) 83 pa:=by
 obtain⟨code,inp,st,mem,pc,gas,sd,er,out⟩:=f;have hst:st.length≤256:=h.st;obtain⟨a,b,s,rfl⟩:=two_of (show 2≤st.length from h.tk);exact(m_store8 rfl (h.num a (by simp)) (h.num b (by simp)) (Nat.le_trans hst (by decide)) (h.m3 (.inr (.inl rfl))) h.mem).to (by kernel_rfl)
theorem do_86{g:Nat}{f:Fr}{pa:Int}(h:Rdy 86 f)(hpa:pa=f.pc-1):Mth 128 g [] f 86 pa TU0 (doV 86 f) 86 pa:=by
 obtain⟨code,inp,st,mem,pc,gas,sd,er,out⟩:=f;have hst:st.length≤256:=h.st;obtain⟨a,s,rfl⟩:=one_of (show 1≤st.length from h.tk);exact(m_jump rfl (h.num a (by simp)) (Nat.le_trans hst (by decide)) (h.m3 (.inr (.inr rfl)))).to (by kernel_rfl)
theorem do_87{g:Nat}{f:Fr}{pa:Int}(h:Rdy 87 f)(hpa:pa=f.pc-1):Mth 129 g [] f 87 pa TU0 (doV 87 f) 87 pa:=by
 obtain⟨code,inp,st,mem,pc,gas,sd,er,out⟩:=f;have hst:st.length≤256:=h.st;obtain⟨a,b,s,rfl⟩:=two_of (show 2≤st.length from h.tk);exact(m_jumpi rfl (h.num a (by simp)) (h.num b (by simp)) (Nat.le_trans hst (by decide)) (h.m4 rfl)).to (by kernel_rfl)
theorem do_88{g:Nat}{f:Fr}{pa:Int}(h:Rdy 88 f)(hpa:pa=f.pc-1):Mth 130 g [] f 88 pa TU0 (doV 88 f) 88 pa:=by
 obtain⟨code,inp,st,mem,pc,gas,sd,er,out⟩:=f;have hst:st.length≤256:=h.st;have p0:1≤pc:=h.pc0;have p1:pc≤1000000:=h.pc1;obtain⟨p,hp⟩:∃ p:Nat,pc-1=p:=⟨(pc-1).toNat,(Int.toNat_of_nonneg (by omega)).symm⟩
 have e:pa=(p:Int):=hpa.trans hp;subst e;refine(m_place (p:=p) (by omega) (Nat.le_trans hst (by decide))).to ?_;have e2:(pc-1).toNat=p:=by rw[hp];rfl
 show _=(Fr.mk code inp ((pc-1).toNat::st) mem pc gas sd er out)
 rw[e2]
theorem do_89{g:Nat}{f:Fr}{pa:Int}(h:Rdy 89 f)(hpa:pa=f.pc-1):Mth 131 g [] f 89 pa TU0 (doV 89 f) 89 pa:=by
 obtain⟨code,inp,st,mem,pc,gas,sd,er,out⟩:=f;have hst:st.length≤256:=h.st;exact(m_msize h.mem (Nat.le_trans hst (by decide))).to (by kernel_rfl)
theorem do_90{g:Nat}{f:Fr}{pa:Int}(h:Rdy 90 f)(hpa:pa=f.pc-1):Mth 132 g [] f 90 pa TU0 (doV 90 f) 90 pa:=by
 obtain⟨code,inp,st,mem,pc,gas,sd,er,out⟩:=f;have hst:st.length≤256:=h.st;exact(m_gas h.gas0 (Int.le_trans h.gas1 (by decide)) (Nat.le_trans hst (by decide))).to (by kernel_rfl)
theorem do_91{g:Nat}{f:Fr}{pa:Int}(h:Rdy 91 f)(hpa:pa=f.pc-1):Mth 133 g [] f 91 pa TU0 (doV 91 f) 91 pa:=by
 obtain⟨code,inp,st,mem,pc,gas,sd,er,out⟩:=f;have hst:st.length≤256:=h.st;exact m_dest.to (by kernel_rfl)
theorem do_243{g:Nat}{f:Fr}{pa:Int}(h:Rdy 243 f)(hpa:pa=f.pc-1):Mth 64 g [] f 243 pa TU0 (doV 243 f) 243 pa:=by
 obtain⟨code,inp,st,mem,pc,gas,sd,er,out⟩:=f;have hst:st.length≤256:=h.st;obtain⟨a,b,s,rfl⟩:=two_of (show 2≤st.length from h.tk);exact(m_out rfl (h.num a (by simp)) (h.num b (by simp)) (Nat.le_trans hst (by decide)) h.mem (h.m1 (.inr (.inl rfl)))).to (by kernel_rfl)
theorem do_253{g:Nat}{f:Fr}{pa:Int}(h:Rdy 253 f)(hpa:pa=f.pc-1):Mth 65 g [] f 253 pa TU0 (doV 253 f) 253 pa:=by
 obtain⟨code,inp,st,mem,pc,gas,sd,er,out⟩:=f;have hst:st.length≤256:=h.st;obtain⟨a,b,s,rfl⟩:=two_of (show 2≤st.length from h.tk);exact(m_back rfl (h.num a (by simp)) (h.num b (by simp)) (Nat.le_trans hst (by decide)) h.mem (h.m1 (.inr (.inr rfl)))).to (by kernel_rfl)
theorem opP_push{n:Nat}(h1:95≤n)(h2:n≤127):(opP n).2.1=0∧(opP n).2.2.1=1:=by
 have:∀ k:Fin 33,(opP (95+k.val)).2.1=0∧(opP (95+k.val)).2.2.1=1:=by decide +kernel
 have:=this ⟨n-95,by omega⟩;simpa [show 95+(n-95)=n by omega]using this
theorem opP_dup{n:Nat}(h1:128≤n)(h2:n≤143):(opP n).2.1=n-127∧(opP n).2.2.1=n-126:=by
 have:∀ k:Fin 16,(opP (128+k.val)).2.1=k.val+1∧(opP (128+k.val)).2.2.1=k.val+2:=by decide +kernel
 have:=this ⟨n-128,by omega⟩;simp only[show 128+(n-128)=n by omega]at this;omega
theorem opP_swap{n:Nat}(h1:144≤n)(h2:n≤159):(opP n).2.1=n-142∧(opP n).2.2.1=n-142:=by
 have:∀ k:Fin 16,(opP (144+k.val)).2.1=k.val+2∧(opP (144+k.val)).2.2.1=k.val+2:=by decide +kernel
 have:=this ⟨n-144,by omega⟩;simp only[show 144+(n-144)=n by omega]at this;omega
theorem do_r0{g:Nat}{f:Fr}{op:Nat}{pa:Int}(h1:95≤op)(h2:op≤127)(h:Rdy op f):Mth 61 g [] f op pa TU0 (doV op f) op pa:=by
 refine(m_push h1 (by omega) (Nat.le_trans h.code (by decide)) (Int.le_trans (by decide) h.pc0) h.pc1 (Nat.le_trans h.st (by decide))).to ?_;unfold doV
 repeat rw[if_neg (by omega)]
 rw[if_pos (by omega)]
theorem do_r1{g:Nat}{f:Fr}{op:Nat}{pa:Int}(h1:128≤op)(h2:op≤143)(h:Rdy op f):Mth 62 g [] f op pa TU0 (doV op f) op pa:=by
 have ht:=h.tk;rw[(opP_dup h1 h2).1]at ht;refine(m_dup h1 (by omega) (by omega) (Nat.le_trans h.st (by decide))).to ?_;unfold doV
 repeat rw[if_neg (by omega)]
 rw[if_pos (by omega)]
theorem do_r2{g:Nat}{f:Fr}{op:Nat}{pa:Int}(h1:144≤op)(h2:op≤159)(h:Rdy op f):Mth 63 g [] f op pa TU0 (doV op f) op pa:=by
 have ht:=h.tk;rw[(opP_swap h1 h2).1]at ht;refine(m_swap h1 (by omega) (by omega) (Nat.le_trans h.st (by decide))).to ?_;unfold doV
 repeat rw[if_neg (by omega)]
 rw[if_pos (by omega)]
theorem do_any{g : Nat}{f : Fr}{op : Nat}{pa : Int}(ho : kr op = true)(h : Rdy op f)(hpa : pa = f.pc - 1) : ∃ F : Func, prog.funcs[mF op]? = some F ∧ F.body.isNone = false ∧ (F.name == "runtime.NumGoroutine") = false ∧ Mth (mF op) g [] f op pa TU0 (doV op f) op pa := by
 have hr:∀ lo hi fn,lo≤op→op≤hi→((lo=95∧hi=127∧fn=61)∨(lo=128∧hi=143∧fn=62)∨(lo=144∧hi=159∧fn=63))→mF op=fn:=by
  intro lo hi fn h1 h2 h3;unfold mF;rcases h3 with⟨rfl,rfl,rfl⟩|⟨rfl,rfl,rfl⟩|⟨rfl,rfl,rfl⟩<;>(repeat rw[if_neg (by omega)])<;>rw[if_pos (by omega)]
 rcases zb4 ho with rfl|rfl|rfl|rfl|rfl|rfl|rfl|rfl|rfl|rfl|rfl|rfl|rfl|rfl|rfl|rfl|rfl|rfl|rfl|rfl|rfl|rfl|rfl|rfl|rfl|rfl|rfl|rfl|rfl|rfl|rfl|rfl|rfl|rfl|rfl|rfl|rfl|rfl|rfl|rfl|rfl|rfl|h1|h1|h1|rfl|rfl
 ·exact dA func92 (do_0 h hpa)
 ·exact dA func93 (do2 m_add h)
 ·exact dA func94 (do2 m_mul h)
 ·exact dA func95 (do2 m_sub h)
 ·exact dA func96 (do2 m_div h)
 ·exact dA func97 (do2 m_sdiv h)
 ·exact dA func98 (do2 m_rest h)
 ·exact dA func99 (do2 m_srest h)
 ·exact dA func100 (do3 m_addm h)
 ·exact dA func101 (do3 m_mulm h)
 ·exact dA func102 (do2 m_pow h)
 ·exact dA func103 (do2 m_ext h)
 ·exact dA func104 (do2 m_less h)
 ·exact dA func105 (do2 m_more h)
 ·exact dA func106 (do2 m_sless h)
 ·exact dA func107 (do2 m_smore h)
 ·exact dA func108 (do2 m_same h)
 ·exact dA func109 (do_21 h hpa)
 ·exact dA func110 (do2 m_and h)
 ·exact dA func111 (do2 m_or h)
 ·exact dA func112 (do2 m_xor h)
 ·exact dA func113 (do_25 h hpa)
 ·exact dA func114 (do2 m_byte h)
 ·exact dA func115 (do2 m_shl h)
 ·exact dA func116 (do2 m_shr h)
 ·exact dA func117 (do2 m_sar h)
 ·exact dA func118 (do_32 h hpa)
 ·exact dA func119 (do_53 h hpa)
 ·exact dA func120 (do_54 h hpa)
 ·exact dA func121 (do_55 h hpa)
 ·exact dA func122 (do_56 h hpa)
 ·exact dA func123 (do_57 h hpa)
 ·exact dA func124 (do_80 h hpa)
 ·exact dA func125 (do_81 h hpa)
 ·exact dA func126 (do_82 h hpa)
 ·exact dA func127 (do_83 h hpa)
 ·exact dA func128 (do_86 h hpa)
 ·exact dA func129 (do_87 h hpa)
 ·exact dA func130 (do_88 h hpa)
 ·exact dA func131 (do_89 h hpa)
 ·exact dA func132 (do_90 h hpa)
 ·exact dA func133 (do_91 h hpa)
 ·rw[hr 95 127 61 h1.1 h1.2 (by decide)];exact⟨_,func61,by kernel_rfl,by kernel_rfl,do_r0 h1.1 h1.2 h⟩
 ·rw[hr 128 143 62 h1.1 h1.2 (by decide)];exact⟨_,func62,by kernel_rfl,by kernel_rfl,do_r1 h1.1 h1.2 h⟩
 ·rw[hr 144 159 63 h1.1 h1.2 (by decide)];exact⟨_,func63,by kernel_rfl,by kernel_rfl,do_r2 h1.1 h1.2 h⟩
 ·exact dA func64 (do_243 h hpa)
 ·exact dA func65 (do_253 h hpa)
end Go.Proofs.YtceedgdbhlpjlaaGreatDoor
