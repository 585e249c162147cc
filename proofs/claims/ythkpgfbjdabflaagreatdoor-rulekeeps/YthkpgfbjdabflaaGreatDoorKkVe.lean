/- Laid one behind the other: Ve, Vf. -/
import Derived.Test.YthkpgfbjdabflaaGreatDoorKkVa
import Derived.Test.YthkpgfbjdabflaaGreatDoorKkMx
namespace Go.Proofs.YthkpgfbjdabflaaGreatDoor
open Go.RowKit Go.Sort Tryz
set_option linter.unusedVariables false
set_option maxRecDepth 100000
set_option maxHeartbeats 4000000
abbrev fnV (k:Nat):Value:=.func (.func k) #[] #[]
theorem add_c(a b:Nat)(ha:a<W)(hb:b<W):RT 242 #[U a,U b] (U (qw a b)):=by
 intro w;have hc:=add_any a b ha hb;have hf:=fst_b (l0 (qw a b)) (l1 (qw a b)) (l2 (qw a b)) (l3 (qw a b)) (.bool (ovW a b));unfold U at *;generalize l0 (qw a b)=r0,l1 (qw a b)=r1,l2 (qw a b)=r2,l3 (qw a b)=r3,l0 a=a0,l1 a=a1,l2 a=a2,l3 a=a3,l0 b=b0,l1 b=b1,l2 b=b2,l3 b=b3 at *;refine inZ func242 fun a I=>?_;refine goZ [kC func91 hc,kC func243 hf] I fun β a w1 I1 hb=>?_;exact ye (v:=U4 r0 r1 r2 r3) I1
theorem sub_c(a b:Nat)(ha:a<W)(hb:b<W):RT 245 #[U a,U b] (U (subW a b)):=by
 intro w;have hc:=sub_any a b ha hb;have hf:=fst_b (l0 (subW a b)) (l1 (subW a b)) (l2 (subW a b)) (l3 (subW a b)) (.bool (unW a b));unfold U at *;generalize l0 (subW a b)=r0,l1 (subW a b)=r1,l2 (subW a b)=r2,l3 (subW a b)=r3,l0 a=a0,l1 a=a1,l2 a=a2,l3 a=a3,l0 b=b0,l1 b=b1,l2 b=b2,l3 b=b3 at *;refine inZ func245 fun a I=>?_;refine goZ [kC func246 hc,kC func243 hf] I fun β a w1 I1 hb=>?_;exact ye (v:=U4 r0 r1 r2 r3) I1
theorem div_c(a b:Nat)(ha:a<W)(hb:b<W):RT 247 #[U a,U b] (U (a/b)):=by
 intro w;have hc:=div_any a b ha hb;have hf:=fst_u (l0 (a/b)) (l1 (a/b)) (l2 (a/b)) (l3 (a/b)) (l0 (dr 0 a b)) (l1 (dr 0 a b)) (l2 (dr 0 a b)) (l3 (dr 0 a b));unfold U at *;generalize l0 (a/b)=r0,l1 (a/b)=r1,l2 (a/b)=r2,l3 (a/b)=r3,l0 (dr 0 a b)=q0,l1 (dr 0 a b)=q1,l2 (dr 0 a b)=q2,l3 (dr 0 a b)=q3,l0 a=a0,l1 a=a1,l2 a=a2,l3 a=a3,l0 b=b0,l1 b=b1,l2 b=b2,l3 b=b3 at *;refine inZ func247 fun a I=>?_;refine goZ [kC func249 hc,kC func248 hf] I fun β a w1 I1 hb=>?_;exact ye (v:=U4 r0 r1 r2 r3) I1
theorem sdiv_c(a b:Nat)(ha:a<W)(hb:b<W):RT 250 #[U a,U b] (U (sq a b)):=by
 intro w;have hc:=sdiv_any a b ha hb;have hf:=fst_u (l0 (sq a b)) (l1 (sq a b)) (l2 (sq a b)) (l3 (sq a b)) (l0 (sr a b)) (l1 (sr a b)) (l2 (sr a b)) (l3 (sr a b));unfold U at *;generalize l0 (sq a b)=r0,l1 (sq a b)=r1,l2 (sq a b)=r2,l3 (sq a b)=r3,l0 (sr a b)=q0,l1 (sr a b)=q1,l2 (sr a b)=q2,l3 (sr a b)=q3,l0 a=a0,l1 a=a1,l2 a=a2,l3 a=a3,l0 b=b0,l1 b=b1,l2 b=b2,l3 b=b3 at *;refine inZ func250 fun a I=>?_;refine goZ [kC func251 hc,kC func248 hf] I fun β a w1 I1 hb=>?_;exact ye (v:=U4 r0 r1 r2 r3) I1
theorem rst_c(a b:Nat)(ha:a<W)(hb:b<W):RT 252 #[U a,U b] (U (dr 0 a b)):=by
 intro w;have hc:=div_any a b ha hb;have hf:=snd_u (l0 (a/b)) (l1 (a/b)) (l2 (a/b)) (l3 (a/b)) (l0 (dr 0 a b)) (l1 (dr 0 a b)) (l2 (dr 0 a b)) (l3 (dr 0 a b));unfold U at *;generalize l0 (dr 0 a b)=r0,l1 (dr 0 a b)=r1,l2 (dr 0 a b)=r2,l3 (dr 0 a b)=r3,l0 (a/b)=q0,l1 (a/b)=q1,l2 (a/b)=q2,l3 (a/b)=q3,l0 a=a0,l1 a=a1,l2 a=a2,l3 a=a3,l0 b=b0,l1 b=b1,l2 b=b2,l3 b=b3 at *;refine inZ func252 fun a I=>?_;refine goZ [kC func249 hc,kC func253 hf] I fun β a w1 I1 hb=>?_;exact ye (v:=U4 r0 r1 r2 r3) I1
theorem srst_c(a b:Nat)(ha:a<W)(hb:b<W):RT 254 #[U a,U b] (U (sr a b)):=by
 intro w;have hc:=sdiv_any a b ha hb;have hf:=snd_u (l0 (sq a b)) (l1 (sq a b)) (l2 (sq a b)) (l3 (sq a b)) (l0 (sr a b)) (l1 (sr a b)) (l2 (sr a b)) (l3 (sr a b));unfold U at *;generalize l0 (sr a b)=r0,l1 (sr a b)=r1,l2 (sr a b)=r2,l3 (sr a b)=r3,l0 (sq a b)=q0,l1 (sq a b)=q1,l2 (sq a b)=q2,l3 (sq a b)=q3,l0 a=a0,l1 a=a1,l2 a=a2,l3 a=a3,l0 b=b0,l1 b=b1,l2 b=b2,l3 b=b3 at *;refine inZ func254 fun a I=>?_;refine goZ [kC func251 hc,kC func253 hf] I fun β a w1 I1 hb=>?_;exact ye (v:=U4 r0 r1 r2 r3) I1
theorem less_c(a b:Nat)(ha:a<W)(hb:b<W):RT 261 #[U a,U b] (.bool (decide (cmpN a b<0))):=by
 intro w;have hc:=zbv a b ha hb;obtain⟨q,hq⟩:∃ q,decide (cmpN a b<0)=q:=⟨_,rfl⟩
 rw[hq];generalize cmpN a b=z at *;unfold U at *;generalize l0 a=a0,l1 a=a1,l2 a=a2,l3 a=a3,l0 b=b0,l1 b=b1,l2 b=b2,l3 b=b3 at *;refine inZ func261 fun a I=>?_;refine goZ [kC func148 hc,bO .lss 3 (zh (x:=z) (y:=0) (b:=q) hq)] I fun β a w1 I1 hb=>?_;exact ye (v:=.bool q) I1
theorem more_c(a b:Nat)(ha:a<W)(hb:b<W):RT 262 #[U a,U b] (.bool (decide (0<cmpN a b))):=by
 intro w;have hc:=zbv a b ha hb;obtain⟨q,hq⟩:∃ q,decide (0<cmpN a b)=q:=⟨_,rfl⟩
 rw[hq];generalize cmpN a b=z at *;unfold U at *;generalize l0 a=a0,l1 a=a1,l2 a=a2,l3 a=a3,l0 b=b0,l1 b=b1,l2 b=b2,l3 b=b3 at *;refine inZ func262 fun a I=>?_;refine goZ [kC func148 hc,bO .gtr 3 (yf (x:=z) (y:=0) (b:=q) hq)] I fun β a w1 I1 hb=>?_;exact ye (v:=.bool q) I1
theorem smore_c(a b:Nat)(ha:a<W)(hb:b<W):RT 264 #[U a,U b] (.bool (ls b a)):=by
 intro w;have hc:=less_any b a hb ha;generalize ls b a=q at *;unfold U at *;generalize l0 a=a0,l1 a=a1,l2 a=a2,l3 a=a3,l0 b=b0,l1 b=b1,l2 b=b2,l3 b=b3 at *;refine inZ func264 fun a I=>?_;refine goZ [kC func263 hc] I fun β a w1 I1 hb=>?_;exact ye (v:=.bool q) I1
theorem same_c(a b:Nat)(ha:a<W)(hb:b<W):RT 265 #[U a,U b] (.bool (decide (a=b))):=by
 intro w;obtain⟨q,hq⟩:∃ q,decide (a=b)=q:=⟨_,rfl⟩
 have hc:=eqU_run ha hb hq;rw[hq];unfold U at *;generalize l0 a=a0,l1 a=a1,l2 a=a2,l3 a=a3,l0 b=b0,l1 b=b1,l2 b=b2,l3 b=b3 at *;refine inZ func265 fun a I=>?_;refine goZ [bO .eql 45 hc] I fun β a w1 I1 hb=>?_;exact ye (v:=.bool q) I1
theorem vj{g : Nat}{f : Fr}{op : Nat}{pa : Int}{a b : Nat}{s : List Nat}(hs : f.st = a :: b :: s)(hl : f.st.length ≤ 900){fn : Nat}{F : Func}(hF : prog.funcs[fn]? = some F)(hB : F.body.isNone = false)(hN : (F.name == "runtime.NumGoroutine") = false)(r : Nat)(hr : ∀ w, Calls prog fn #[U a, U b] w fun e w' => e = .returned (U r) ∧ Below w.heap.size w w') : Mth 241 g [fnV fn] f op pa TU0 { f with st := r :: s } op pa := by
 have t0:=yc (g:=g) (op:=op) (pa:=pa) hs (by omega);have t1:=yc (g:=g) (op:=op) (pa:=pa) (f:={ f with st:=b::s }) (u:=b) (s:=s) rfl (by simp only[];rw[hs]at hl;simp at hl ⊢;omega);have hy:=za0 (g:=g) (op:=op) (pa:=pa) (f:={ f with st:=s }) (r) (by simp only[];rw[hs]at hl;simp at hl;omega);unfold U at *;generalize l0 a=a0,l1 a=a1,l2 a=a2,l3 a=a3,l0 b=b0,l1 b=b1,l2 b=b2,l3 b=b3,l0 r=r0,l1 r=r1,l2 r=r2,l3 r=r3 at *;intro v dv w h;refine inG (J:=MS w g v dv v f dv) (F:=MF w g v dv) [fnV fn] func241 h.start h.row h.c.not fun a I=>?_;refine goM [] I fun β0 A0 w0 I0 hb0=>?_
 have hz0:β0 0=g:=agr hb0 0 rfl;refine zp func267 t0 I0 hz0 fun ad0 cap0 dv0 w1 I1=>?_;refine goM [] I1 fun β1 A2 w2 I2 hb1=>?_;have hz1:β1 0=g:=agr hb1 0 hz0;refine zp func267 t1 I2 hz1 fun ad1 cap1 dv1 w3 I3=>?_;refine goM [] I3 fun β2 A4 w4 I4 hb2=>?_;have hz2:β2 0=g:=agr hb2 0 hz1;refine inY I4 fun I5=>?_;refine goM [] I5 fun β6 A6 w6 I6 hb6=>?_;refine bcallX [Sum.inl (U4 a0 a1 a2 a3),Sum.inl (U4 b0 b1 b2 b3)] hF (MS.rs _ _ _ _ _ _ _) I6 (fun v=>v=U4 r0 r1 r2 r3) ((hr w6).mono fun e w' h=>⟨h.2,_,h.1,rfl⟩) (fun v w7 hv I7=>?_) (by kernel_rfl) hB hN;subst hv
 refine goM [] I7 fun β8 A8 w8 I8 hb8=>?_;have hz8:β8 0=g:=agr hb8 0 (agr hb6 0 hz2);refine zp func209 hy I8 hz8 fun ad cap dv' w9 I9=>?_;refine goM [] I9 fun βq Aq wq Iq hbq=>?_;exact x9 Iq ⟨_,_,rfl,Iq.mp (agr hbq 0 hz8)⟩
theorem three_any{g : Nat}{f : Fr}{op : Nat}{pa : Int}{a b c : Nat}{s : List Nat}(hs : f.st = a :: b :: c :: s)(hl : f.st.length ≤ 900){fn : Nat}{F : Func}(hF : prog.funcs[fn]? = some F)(hB : F.body.isNone = false)(hN : (F.name == "runtime.NumGoroutine") = false)(r : Nat)(hr : ∀ w, Calls prog fn #[U a, U b, U c] w fun e w' => e = .returned (U r) ∧ Below w.heap.size w w') : Mth 255 g [fnV fn] f op pa TU0 { f with st := r :: s } op pa := by
 have t0:=yc (g:=g) (op:=op) (pa:=pa) hs (by omega);have t1:=yc (g:=g) (op:=op) (pa:=pa) (f:={ f with st:=b::c::s }) (u:=b) (s:=c::s) rfl (by simp only[];rw[hs]at hl;simp at hl ⊢;omega);have t2:=yc (g:=g) (op:=op) (pa:=pa) (f:={ f with st:=c::s }) (u:=c) (s:=s) rfl (by simp only[];rw[hs]at hl;simp at hl ⊢;omega);have hy:=za0 (g:=g) (op:=op) (pa:=pa) (f:={ f with st:=s }) (r) (by simp only[];rw[hs]at hl;simp at hl;omega);unfold U at *
 generalize l0 a=a0,l1 a=a1,l2 a=a2,l3 a=a3,l0 b=b0,l1 b=b1,l2 b=b2,l3 b=b3,l0 c=c0,l1 c=c1,l2 c=c2,l3 c=c3,l0 r=r0,l1 r=r1,l2 r=r2,l3 r=r3 at *;intro v dv w h;refine inG (J:=MS w g v dv v f dv) (F:=MF w g v dv) [fnV fn] func255 h.start h.row h.c.not fun a I=>?_;refine goM [] I fun β0 A0 w0 I0 hb0=>?_;have hz0:β0 0=g:=agr hb0 0 rfl;refine zp func267 t0 I0 hz0 fun ad0 cap0 dv0 w1 I1=>?_;refine goM [] I1 fun β1 A2 w2 I2 hb1=>?_;have hz1:β1 0=g:=agr hb1 0 hz0;refine zp func267 t1 I2 hz1 fun ad1 cap1 dv1 w3 I3=>?_;refine goM [] I3 fun β2 A4 w4 I4 hb2=>?_
 have hz2:β2 0=g:=agr hb2 0 hz1;refine zp func267 t2 I4 hz2 fun ad2 cap2 dv2 w5 I5=>?_;refine goM [] I5 fun β3 A6 w6 I6 hb3=>?_;have hz3:β3 0=g:=agr hb3 0 hz2;refine inY I6 fun I5=>?_;refine goM [] I5 fun βx Ax wx Ix hbx=>?_;refine bcallX [Sum.inl (U4 a0 a1 a2 a3),Sum.inl (U4 b0 b1 b2 b3),Sum.inl (U4 c0 c1 c2 c3)] hF (MS.rs _ _ _ _ _ _ _) Ix (fun v=>v=U4 r0 r1 r2 r3) ((hr wx).mono fun e w' h=>⟨h.2,_,h.1,rfl⟩) (fun v w7 hv I7=>?_) (by kernel_rfl) hB hN;subst hv;refine goM [] I7 fun β8 A8 w8 I8 hb8=>?_;have hz8:β8 0=g:=agr hb8 0 (agr hbx 0 hz3)
 refine zp func209 hy I8 hz8 fun ad cap dv' w9 I9=>?_;refine goM [] I9 fun βq Aq wq Iq hbq=>?_;exact x9 Iq ⟨_,_,rfl,Iq.mp (agr hbq 0 hz8)⟩
theorem zch{g : Nat}{f : Fr}{op : Nat}{pa : Int}{a b : Nat}{s : List Nat}(hs : f.st = a :: b :: s)(hl : f.st.length ≤ 900){fn : Nat}{F : Func}(hF : prog.funcs[fn]? = some F)(hB : F.body.isNone = false)(hN : (F.name == "runtime.NumGoroutine") = false)(r : Bool)(hr : ∀ w, Calls prog fn #[U a, U b] w fun e w' => e = .returned (.bool r) ∧ Below w.heap.size w w') : Mth 260 g [fnV fn] f op pa TU0 { f with st := trB r :: s } op pa := by
 have t0:=yc (g:=g) (op:=op) (pa:=pa) hs (by omega);have t1:=yc (g:=g) (op:=op) (pa:=pa) (f:={ f with st:=b::s }) (u:=b) (s:=s) rfl (by simp only[];rw[hs]at hl;simp at hl ⊢;omega);have hy:=za0 (g:=g) (op:=op) (pa:=pa) (f:={ f with st:=s }) (trB r) (by simp only[];rw[hs]at hl;simp at hl;omega);have ht:=truth_any r;unfold U at *;generalize l0 a=a0,l1 a=a1,l2 a=a2,l3 a=a3,l0 b=b0,l1 b=b1,l2 b=b2,l3 b=b3,l0 (trB r)=r0,l1 (trB r)=r1,l2 (trB r)=r2,l3 (trB r)=r3 at *;intro v dv w h
 refine inG (J:=MS w g v dv v f dv) (F:=MF w g v dv) [fnV fn] func260 h.start h.row h.c.not fun a I=>?_;refine goM [] I fun β0 A0 w0 I0 hb0=>?_;have hz0:β0 0=g:=agr hb0 0 rfl;refine zp func267 t0 I0 hz0 fun ad0 cap0 dv0 w1 I1=>?_;refine goM [] I1 fun β1 A2 w2 I2 hb1=>?_;have hz1:β1 0=g:=agr hb1 0 hz0;refine zp func267 t1 I2 hz1 fun ad1 cap1 dv1 w3 I3=>?_;refine goM [] I3 fun β2 A4 w4 I4 hb2=>?_;have hz2:β2 0=g:=agr hb2 0 hz1;refine inY I4 fun I5=>?_;refine goM [] I5 fun β6 A6 w6 I6 hb6=>?_
 refine bcallX [Sum.inl (U4 a0 a1 a2 a3),Sum.inl (U4 b0 b1 b2 b3)] hF (MS.rs _ _ _ _ _ _ _) I6 (fun v=>v=.bool r) ((hr w6).mono fun e w' h=>⟨h.2,_,h.1,rfl⟩) (fun v w7 hv I7=>?_) (by kernel_rfl) hB hN;subst hv;refine goM [kC func266 ht] I7 fun β8 A8 w8 I8 hb8=>?_;have hz8:β8 0=g:=agr hb8 0 (agr hb6 0 hz2);refine zp func209 hy I8 hz8 fun ad cap dv' w9 I9=>?_;refine goM [] I9 fun βq Aq wq Iq hbq=>?_;exact x9 Iq ⟨_,_,rfl,Iq.mp (agr hbq 0 hz8)⟩
theorem shift_any{g : Nat}{f : Fr}{op : Nat}{pa : Int}{a b : Nat}{s : List Nat}(hs : f.st = a :: b :: s)(hl : f.st.length ≤ 900){fn : Nat}{F : Func}(hF : prog.funcs[fn]? = some F)(hB : F.body.isNone = false)(hN : (F.name == "runtime.NumGoroutine") = false)(r : Nat)(hr : ∀ w, Calls prog fn #[U b, B (shN a)] w fun e w' => e = .returned (U r) ∧ Below w.heap.size w w') : Mth 273 g [fnV fn] f op pa TU0 { f with st := r :: s } op pa := by
 have t0:=yc (g:=g) (op:=op) (pa:=pa) hs (by omega);have t1:=yc (g:=g) (op:=op) (pa:=pa) (f:={ f with st:=b::s }) (u:=b) (s:=s) rfl (by simp only[];rw[hs]at hl;simp at hl ⊢;omega);have hy:=za0 (g:=g) (op:=op) (pa:=pa) (f:={ f with st:=s }) (r) (by simp only[];rw[hs]at hl;simp at hl;omega);have hbt:=zcg a;have hof:=zaw 256;unfold shN at hr;generalize xm a=m at *;unfold U at *;generalize l0 a=a0,l1 a=a1,l2 a=a2,l3 a=a3,l0 b=b0,l1 b=b1,l2 b=b2,l3 b=b3,l0 r=r0,l1 r=r1,l2 r=r2,l3 r=r3 at *;intro v dv w h
 refine inG (J:=MS w g v dv v f dv) (F:=MF w g v dv) [fnV fn] func273 h.start h.row h.c.not fun a I=>?_;refine goM [] I fun β0 A0 w0 I0 hb0=>?_;have hz0:β0 0=g:=agr hb0 0 rfl;refine zp func267 t0 I0 hz0 fun ad0 cap0 dv0 w1 I1=>?_;refine goM [] I1 fun β1 A2 w2 I2 hb1=>?_;have hz1:β1 0=g:=agr hb1 0 hz0;refine zp func267 t1 I2 hz1 fun ad1 cap1 dv1 w3 I3=>?_;refine goM [] I3 fun β2 A4 w4 I4 hb2=>?_;have hz2:β2 0=g:=agr hb2 0 hz1;rcases Nat.lt_or_ge 64 m with hm | hm
 ·rw[if_pos hm]at hr;refine goM [kC func214 hbt,kgT m 64,kC func48 hof] I4 fun βk Ak wk Ik hbk=>?_;refine inY Ik fun I5=>?_;refine goM [] I5 fun β6 A6 w6 I6 hb6=>?_;refine bcallX [Sum.inl (U4 b0 b1 b2 b3),Sum.inl (B 256)] hF (MS.rs _ _ _ _ _ _ _) I6 (fun v=>v=U4 r0 r1 r2 r3) ((hr w6).mono fun e w' h=>⟨h.2,_,h.1,rfl⟩) (fun v w7 hv I7=>?_) (by kernel_rfl) hB hN;subst hv;refine goM [] I7 fun β8 A8 w8 I8 hb8=>?_;have hz8:β8 0=g:=agr hb8 0 (agr hb6 0 (agr hbk 0 hz2));refine zp func209 hy I8 hz8 fun ad cap dv' w9 I9=>?_;refine goM [] I9 fun βq Aq wq Iq hbq=>?_
  exact x9 Iq ⟨_,_,rfl,Iq.mp (agr hbq 0 hz8)⟩
 ·rw[if_neg (by omega)]at hr;refine goM [kC func214 hbt,kgF m 64] I4 fun βk Ak wk Ik hbk=>?_;refine inY Ik fun I5=>?_;refine goM [] I5 fun β6 A6 w6 I6 hb6=>?_;refine bcallX [Sum.inl (U4 b0 b1 b2 b3),Sum.inl (B a0)] hF (MS.rs _ _ _ _ _ _ _) I6 (fun v=>v=U4 r0 r1 r2 r3) ((hr w6).mono fun e w' h=>⟨h.2,_,h.1,rfl⟩) (fun v w7 hv I7=>?_) (by kernel_rfl) hB hN;subst hv;refine goM [] I7 fun β8 A8 w8 I8 hb8=>?_;have hz8:β8 0=g:=agr hb8 0 (agr hb6 0 (agr hbk 0 hz2));refine zp func209 hy I8 hz8 fun ad cap dv' w9 I9=>?_;refine goM [] I9 fun βq Aq wq Iq hbq=>?_
  exact x9 Iq ⟨_,_,rfl,Iq.mp (agr hbq 0 hz8)⟩
theorem cnvZ46(n:Nat)(h:n<1000000000000)(w:World):(convert 3 23 (Z n)).run prog w=.ok (B n) w:=cnv64 n h w
theorem zbe{g:Nat}{f:Fr}{op:Nat}{pa:Int}(n:Nat)(hn:n<1000000000000)(hl:f.st.length≤900):Mth 278 g [Z n] f op pa TU0 { f with st:=n::f.st } op pa:=by
 have hy:=za0 (g:=g) (op:=op) (pa:=pa) (f:=f) n (by omega);have hof:=zcx n (by have:=M_big;omega);have hc:=cnvZ46 n hn;unfold U at *;generalize l0 n=n0,l1 n=n1,l2 n=n2,l3 n=n3 at *;intro v dv w h;refine inG (J:=MS w g v dv v f dv) (F:=MF w g v dv) [Z n] func278 h.start h.row h.c.not fun a I=>?_;refine goM [vO 3 23 hc,kC func48 hof] I fun β0 A0 w0 I0 hb0=>?_;have hz0:β0 0=g:=agr hb0 0 rfl;refine zp func209 hy I0 hz0 fun ad cap dv' w9 I9=>?_;refine goM [] I9 fun βq Aq wq Iq hbq=>?_;exact x9 Iq ⟨_,_,rfl,Iq.mp (agr hbq 0 hz0)⟩
theorem zd9{g:Nat}{f:Fr}{op:Nat}{pa:Int}(t:ByteArray)(ht:t.size≤32)(hl:f.st.length≤900):Mth 207 g [.string t] f op pa TU0 { f with st:=rdN t t.size::f.st } op pa:=by
 have hy:=za0 (g:=g) (op:=op) (pa:=pa) (f:=f) (rdN t t.size) (by omega);have hrd:=read_any t ht;have hfi:=fst_e (l0 (rdN t t.size)) (l1 (rdN t t.size)) (l2 (rdN t t.size)) (l3 (rdN t t.size)) (Z 0);generalize rdN t t.size=n at *;unfold U at *;generalize l0 n=n0,l1 n=n1,l2 n=n2,l3 n=n3 at *;intro v dv w h;refine inG (J:=MS w g v dv v f dv) (F:=MF w g v dv) [.string t] func207 h.start h.row h.c.not fun a I=>?_;refine goM [kC func101 hrd,kC func281 hfi] I fun β0 A0 w0 I0 hb0=>?_;have hz0:β0 0=g:=agr hb0 0 rfl;refine zp func209 hy I0 hz0 fun ad cap dv' w9 I9=>?_
 refine goM [] I9 fun βq Aq wq Iq hbq=>?_;exact x9 Iq ⟨_,_,rfl,Iq.mp (agr hbq 0 hz0)⟩
theorem mput_any{g:Nat}{f:Fr}{op:Nat}{pa:Int}(n:Nat)(hn:n<1000000000000)(t:List UInt8)(ht:t.length≤1000000)(hm:f.mem.length≤1000000):Mth 280 g [U n,str t] f op pa TU0 { f with mem:=putV f.mem n t } op pa:=by
 have hp:=put_any f.mem t hm ht n;have hsm:=ql n hn;generalize hx:putV f.mem n t=x at *;unfold U at *;generalize l0 n=n0,l1 n=n1,l2 n=n2,l3 n=n3 at *;intro v dv w h;refine inG (J:=MS w g v dv v f dv) (F:=MF w g v dv) [U4 n0 n1 n2 n3,str t] func280 h.start h.row h.c.not fun a I=>?_;refine goM [] I fun β0 A0 w0 I0 hb0=>?_;have hz0:β0 0=g:=agr hb0 0 rfl;refine dwQ 10 [kC func146 hsm,kC func305 hp] (MS.rs _ _ _ _ _ _ _) zk.post I0 fun A2 w2 I2=>?_;refine goM [] I2 fun βq Aq wq Iq hbq=>?_;exact x9 Iq ⟨_,_,rfl,Iq.mp' { f with mem:=x } (agr hbq 0 hz0) rfl rfl⟩
theorem wp_callG{P:Program}{Q:Exit→Act→World→Prop}{o:Oper}{a:Act}{w:World}{K:Act→World→Prop}{f:FuncId}{args:Array Value}(hrun:(execOp a.eval o).run P w=.ok (.enter f args) w)(hc:Calls P f args w fun e w'=>∃ v,e=.returned v∧K (a.put o.dst v) w'):o.wp P a w K Q:=by
 unfold Oper.wp;rw[hrun,Oper.upon_enter];refine hc.mono ?_;rintro e w' ⟨v,rfl,hb⟩;exact hb
theorem MS.drew{wE:World}{g:Nat}{v0 dv0 v dv:Value}{f:Fr}{w w':World}(h:MS wE g v0 dv0 v f dv w)(hb:Below w.heap.size w w'):MS wE g v0 dv0 v f dv w':=(MS.rs _ _ _ _ _ _ _).loc _ _ h (zq.of_below hb)
theorem zc4(t:List UInt8)(n:Nat)(i:Nat)(h:i≤65536):(slV t n i).length=i:=by
 unfold slV;rw[if_neg (by omega),fil_len,Int.toNat_natCast,List.length_take];omega
structure CLi (W0:World) (g:Nat) (f:Fr) (op:Nat) (pa:Int) (v dv:Value) (u:Nat) (s:List Nat) (za:Array Bool) (vs:Nat→Value) (w':World):Prop where
 pre:¬ za.getD 7 false=true→MP g v dv W0 v f op pa dv w'
 mid:za.getD 7 false=true→¬ za.getD 9 false=true→∃ v1 dv1,MP g v dv W0 v1 { f with st:=s } op pa dv1 w'
 k8:za.getD 8 false=true→za.getD 5 false=true∧za.getD 7 false=true
 k9:za.getD 9 false=true→za.getD 8 false=true
 c0:za.getD 0 false=true→vs 0=zz g
 c1:za.getD 1 false=true→vs 1=zz g
 c2:za.getD 2 false=true→vs 2=zz g
 c3:za.getD 3 false=true→vs 3=.pointer (some ⟨g,0+0,none⟩)
 c4:za.getD 4 false=true→vs 4=.pointer (some ⟨g,0+0+1,none⟩)
 c5:za.getD 5 false=true→vs 5=str f.inp
 c6:za.getD 6 false=true→vs 6=zz g
 c7:za.getD 7 false=true→vs 7=U u
 c8:za.getD 8 false=true→vs 8=str (slV f.inp u 32)
 c9:za.getD 9 false=true→∃ v2 dv2,MP g v dv W0 v2 { f with st:=rdB (slV f.inp u 32)::s } op pa dv2 w'
theorem m_iload{g:Nat}{f:Fr}{op:Nat}{pa:Int}{u:Nat}{s:List Nat}(hs:f.st=u::s)(hu:u<W)(hl:f.st.length≤900)(hp:f.inp.length≤1000000):Mth 192 g [] f op pa TU0 { f with st:=rdB (slV f.inp u 32)::s } op pa:=by
 intro v dv w h;have HT:Hid _:=yc (g:=g) (op:=op) (pa:=pa) hs (by omega);have hsl:(slV f.inp u 32).length=32:=zc4 _ _ 32 (by omega);have hly:=zd9 (g:=g) (op:=op) (pa:=pa) (f:={ f with st:=s }) ⟨(slV f.inp u 32).toArray⟩ (by rw[xw];omega) (by simp only[];rw[hs]at hl;simp at hl;omega);rw[xw]at hly;have HL:Hid _:=hly;have HS:Hid _:=za2 f.inp hp u hu 32;have P0:Hid (MP g v dv w v f op pa dv w):=⟨h.row,h.start⟩
 clear h hs hl hp hu hly hsl;show Calls prog 192 #[zz g] w _
 go_enter func192,ntmps192
 go_upto_region 0 with fail
 have A0:=P0.out;refine RegV.wp (by kernel_rfl) (zae (by kernel_rfl) (by kernel_rfl) (CLi w g f op pa v dv u s) ?_ ?_ ?_)
 ·rintro w1 (rfl|rfl)
  ·refine⟨fun _=>A0,?_,?_,?_,?_,?_,?_,?_,?_,?_,?_,?_,?_,?_⟩<;>(intro h;simp[Array.getD]at h)
  ·refine⟨fun _=>⟨A0.row,A0.s.drew (Below.refl _ _).drew⟩,?_,?_,?_,?_,?_,?_,?_,?_,?_,?_,?_,?_,?_⟩<;>(intro h;simp[Array.getD]at h)
 ·clear A0;intro za vs a' w' i o hs ho hi hF cc;have hi13:i<10:=by have:=(Array.getElem?_eq_some_iff.1 ho).1;simpa using this
  have hcase:i=0∨i=1∨i=2∨i=3∨i=4∨i=5∨i=6∨i=7∨i=8∨i=9:=by omega
  rcases hcase with rfl|rfl|rfl|rfl|rfl|rfl|rfl|rfl|rfl|rfl
  ·simp at ho;subst ho;have T:=dT3 za 0;have hun:¬ za.getD 0 false=true:=fun h=>ya hi hs h
   exact zi rfl (zt (v:=zz g) (w1:=w') (by simp[execOp,ev ((hF.old (t:=0) (by kernel_rfl)).trans rfl),go_sem]) ⟨_,rfl,⟨fun h=>cc.pre (fun q=>h (zc q)),fun h h9=>cc.mid (T 7 (by decide) h) (fun q=>h9 (zc q)),fun h=>⟨zc (cc.k8 (T 8 (by decide) h)).1,zc (cc.k8 (T 8 (by decide) h)).2⟩,fun h=>zc (cc.k9 (T 9 (by decide) h)),fun _=>rfl,uz cc.c1,uz cc.c2,uz cc.c3,uz cc.c4,uz cc.c5,uz cc.c6,uz cc.c7,uz cc.c8,uz cc.c9⟩⟩)
  ·simp at ho;subst ho;have T:=dT3 za 1;have hun:¬ za.getD 1 false=true:=fun h=>ya hi hs h
   exact zi rfl (zt (v:=zz g) (w1:=w') (by simp[execOp,ev ((hF.old (t:=0) (by kernel_rfl)).trans rfl),go_sem]) ⟨_,rfl,⟨fun h=>cc.pre (fun q=>h (zc q)),fun h h9=>cc.mid (T 7 (by decide) h) (fun q=>h9 (zc q)),fun h=>⟨zc (cc.k8 (T 8 (by decide) h)).1,zc (cc.k8 (T 8 (by decide) h)).2⟩,fun h=>zc (cc.k9 (T 9 (by decide) h)),uz cc.c0,fun _=>rfl,uz cc.c2,uz cc.c3,uz cc.c4,uz cc.c5,uz cc.c6,uz cc.c7,uz cc.c8,uz cc.c9⟩⟩)
  ·simp at ho;subst ho;have T:=dT3 za 2;have hun:¬ za.getD 2 false=true:=fun h=>ya hi hs h
   have d1:=zg (i:=2) (j:=1) (by kernel_rfl) hi;have v1:=(hF.new (t:=3) (i:=1) (by kernel_rfl) (by simp) d1).trans (cc.c1 d1);exact zi rfl (zt (v:=zz g) (w1:=w') (by simp[execOp,ev v1,go_sem]) ⟨_,rfl,⟨fun h=>cc.pre (fun q=>h (zc q)),fun h h9=>cc.mid (T 7 (by decide) h) (fun q=>h9 (zc q)),fun h=>⟨zc (cc.k8 (T 8 (by decide) h)).1,zc (cc.k8 (T 8 (by decide) h)).2⟩,fun h=>zc (cc.k9 (T 9 (by decide) h)),uz cc.c0,uz cc.c1,fun _=>rfl,uz cc.c3,uz cc.c4,uz cc.c5,uz cc.c6,uz cc.c7,uz cc.c8,uz cc.c9⟩⟩)
  ·simp at ho;subst ho;have T:=dT3 za 3;have hun:¬ za.getD 3 false=true:=fun h=>ya hi hs h
   have d2:=zg (i:=3) (j:=2) (by kernel_rfl) hi;have v2:=(hF.new (t:=4) (i:=2) (by kernel_rfl) (by simp) d2).trans (cc.c2 d2);exact zi rfl (zt (v:=.pointer (some ⟨g,0+0,none⟩)) (w1:=w') (by simp[execOp,ev v2,go_sem]) ⟨_,rfl,⟨fun h=>cc.pre (fun q=>h (zc q)),fun h h9=>cc.mid (T 7 (by decide) h) (fun q=>h9 (zc q)),fun h=>⟨zc (cc.k8 (T 8 (by decide) h)).1,zc (cc.k8 (T 8 (by decide) h)).2⟩,fun h=>zc (cc.k9 (T 9 (by decide) h)),uz cc.c0,uz cc.c1,uz cc.c2,fun _=>rfl,uz cc.c4,uz cc.c5,uz cc.c6,uz cc.c7,uz cc.c8,uz cc.c9⟩⟩)
  ·simp at ho;subst ho;have T:=dT3 za 4;have hun:¬ za.getD 4 false=true:=fun h=>ya hi hs h
   have d3:=zg (i:=4) (j:=3) (by kernel_rfl) hi;have v3:=(hF.new (t:=5) (i:=3) (by kernel_rfl) (by simp) d3).trans (cc.c3 d3);exact zi rfl (zt (v:=.pointer (some ⟨g,0+0+1,none⟩)) (w1:=w') (by simp[execOp,ev v3,go_sem]) ⟨_,rfl,⟨fun h=>cc.pre (fun q=>h (zc q)),fun h h9=>cc.mid (T 7 (by decide) h) (fun q=>h9 (zc q)),fun h=>⟨zc (cc.k8 (T 8 (by decide) h)).1,zc (cc.k8 (T 8 (by decide) h)).2⟩,fun h=>zc (cc.k9 (T 9 (by decide) h)),uz cc.c0,uz cc.c1,uz cc.c2,uz cc.c3,fun _=>rfl,uz cc.c5,uz cc.c6,uz cc.c7,uz cc.c8,uz cc.c9⟩⟩)
  ·simp at ho;subst ho;have T:=dT3 za 5;have hun:¬ za.getD 5 false=true:=fun h=>ya hi hs h
   have d4:=zg (i:=5) (j:=4) (by kernel_rfl) hi;have v4:=(hF.new (t:=6) (i:=4) (by kernel_rfl) (by simp) d4).trans (cc.c4 d4);by_cases d7:za.getD 7 false=true
   ·obtain⟨v1,dv1,p1⟩:=cc.mid d7 (fun h=>hun (cc.k8 (cc.k9 h)).1);refine zi rfl (Oper.wp_mono ?_ (zcw 9 (.tmp 6) rfl v4 p1.row underlying9 rfl rfl));rintro a2 w2 ⟨rfl,rfl⟩;exact⟨_,rfl,⟨fun h=>cc.pre (fun q=>h (zc q)),fun h h9=>cc.mid (T 7 (by decide) h) (fun q=>h9 (zc q)),fun h=>⟨zc (cc.k8 (T 8 (by decide) h)).1,zc (cc.k8 (T 8 (by decide) h)).2⟩,fun h=>zc (cc.k9 (T 9 (by decide) h)),uz cc.c0,uz cc.c1,uz cc.c2,uz cc.c3,uz cc.c4,fun _=>rfl,uz cc.c6,uz cc.c7,uz cc.c8,uz cc.c9⟩⟩
   ·have p1:=cc.pre d7;refine zi rfl (Oper.wp_mono ?_ (zcw 9 (.tmp 6) rfl v4 p1.row underlying9 rfl rfl));rintro a2 w2 ⟨rfl,rfl⟩;exact⟨_,rfl,⟨fun h=>cc.pre (fun q=>h (zc q)),fun h h9=>cc.mid (T 7 (by decide) h) (fun q=>h9 (zc q)),fun h=>⟨zc (cc.k8 (T 8 (by decide) h)).1,zc (cc.k8 (T 8 (by decide) h)).2⟩,fun h=>zc (cc.k9 (T 9 (by decide) h)),uz cc.c0,uz cc.c1,uz cc.c2,uz cc.c3,uz cc.c4,fun _=>rfl,uz cc.c6,uz cc.c7,uz cc.c8,uz cc.c9⟩⟩
  ·simp at ho;subst ho;have T:=dT3 za 6;have hun:¬ za.getD 6 false=true:=fun h=>ya hi hs h
   exact zi rfl (zt (v:=zz g) (w1:=w') (by simp[execOp,ev ((hF.old (t:=0) (by kernel_rfl)).trans rfl),go_sem]) ⟨_,rfl,⟨fun h=>cc.pre (fun q=>h (zc q)),fun h h9=>cc.mid (T 7 (by decide) h) (fun q=>h9 (zc q)),fun h=>⟨zc (cc.k8 (T 8 (by decide) h)).1,zc (cc.k8 (T 8 (by decide) h)).2⟩,fun h=>zc (cc.k9 (T 9 (by decide) h)),uz cc.c0,uz cc.c1,uz cc.c2,uz cc.c3,uz cc.c4,uz cc.c5,fun _=>rfl,uz cc.c7,uz cc.c8,uz cc.c9⟩⟩)
  ·simp at ho;subst ho;have T:=dT3 za 7;have hun:¬ za.getD 7 false=true:=fun h=>ya hi hs h
   have d6:=zg (i:=7) (j:=6) (by kernel_rfl) hi;have v6:=(hF.new (t:=8) (i:=6) (by kernel_rfl) (by simp) d6).trans (cc.c6 d6);have l7:(za.setIfInBounds 7 true).getD 7 false=true:=done_mV hs (by decide);have p1:=cc.pre hun;refine zi rfl (wp_callG (f:=267) (args:=#[zz g]) (by simp[execOp_call_go,ev v6,go_sem]) ((HT.out v dv w' p1.mi).mono fun e w2 he=>?_));obtain⟨v1,dv1,rfl,q1⟩:=he
   exact⟨_,rfl,⟨_,rfl,⟨fun h=>absurd l7 h,fun _ _=>⟨v1,dv1,p1.trans q1⟩,fun h=>absurd (cc.k8 (T 8 (by decide) h)).2 hun,fun h=>absurd (cc.k8 (cc.k9 (T 9 (by decide) h))).2 hun,uz cc.c0,uz cc.c1,uz cc.c2,uz cc.c3,uz cc.c4,uz cc.c5,uz cc.c6,fun _=>rfl,fun h=>absurd (cc.k8 (T 8 (by decide) h)).2 hun,fun h=>absurd (cc.k8 (cc.k9 (T 9 (by decide) h))).2 hun⟩⟩⟩
  ·simp at ho;subst ho;have T:=dT3 za 8;have hun:¬ za.getD 8 false=true:=fun h=>ya hi hs h
   have d5:=zg (i:=8) (j:=5) (by kernel_rfl) hi;have v5:=(hF.new (t:=7) (i:=5) (by kernel_rfl) (by simp) d5).trans (cc.c5 d5);have d7:=zg (i:=8) (j:=7) (by kernel_rfl) hi;have v7:=(hF.new (t:=9) (i:=7) (by kernel_rfl) (by simp) d7).trans (cc.c7 d7);obtain⟨v1,dv1,p1⟩:=cc.mid d7 (fun h=>hun (cc.k9 h));refine zi rfl (qm (f:=208) (args:=#[str f.inp,U u,Z 32]) (v:=str (slV f.inp u 32)) (by simp[execOp_call_go,ev v5,ev v7,go_sem]) (HS.out w') ?_);intro w2 hb2
   exact⟨_,rfl,⟨fun h=>absurd (zc d7) h,fun _ _=>⟨v1,dv1,p1.row.below hb2,p1.s.drew hb2⟩,fun _=>⟨zc d5,zc d7⟩,fun h=>absurd (cc.k9 (T 9 (by decide) h)) hun,uz cc.c0,uz cc.c1,uz cc.c2,uz cc.c3,uz cc.c4,uz cc.c5,uz cc.c6,uz cc.c7,fun _=>rfl,fun h=>absurd (cc.k9 (T 9 (by decide) h)) hun⟩⟩
  ·simp at ho;subst ho;have T:=dT3 za 9;have hun:¬ za.getD 9 false=true:=fun h=>ya hi hs h
   have d0:=zg (i:=9) (j:=0) (by kernel_rfl) hi;have v0:=(hF.new (t:=2) (i:=0) (by kernel_rfl) (by simp) d0).trans (cc.c0 d0);have d8:=zg (i:=9) (j:=8) (by kernel_rfl) hi;have v8:=(hF.new (t:=10) (i:=8) (by kernel_rfl) (by simp) d8).trans (cc.c8 d8);have l9:(za.setIfInBounds 9 true).getD 9 false=true:=done_mV hs (by decide);obtain⟨v1,dv1,p1⟩:=cc.mid (cc.k8 d8).2 hun;refine zi rfl (wp_callG (f:=207) (args:=#[zz g,str (slV f.inp u 32)]) (by simp[execOp_call_go,ev v0,ev v8,go_sem]) ((HL.out v1 dv1 w' p1.mi).mono fun e w2 he=>?_));obtain⟨v2,dv2,rfl,q1⟩:=he
   exact⟨_,rfl,⟨_,rfl,⟨fun h=>absurd (zc (cc.k8 d8).2) h,fun _ h=>absurd l9 h,fun h=>⟨zc (cc.k8 (T 8 (by decide) h)).1,zc (cc.k8 (T 8 (by decide) h)).2⟩,fun _=>zc d8,uz cc.c0,uz cc.c1,uz cc.c2,uz cc.c3,uz cc.c4,uz cc.c5,uz cc.c6,uz cc.c7,uz cc.c8,fun _=>⟨v2,dv2,p1.trans q1⟩⟩⟩⟩
 ·intro za vs a' w' hd hF cc;obtain⟨v2,dv2,q1⟩:=cc.c9 (hd 9 (by decide));have eD:a'.defers=[]:=by rw[hF.all hd];rfl
  exact bodyPost_end (results_none rfl _ _ _) eD ⟨v2,dv2,rfl,q1⟩
structure CLm (W0:World) (g:Nat) (f:Fr) (op:Nat) (pa:Int) (v dv:Value) (u:Nat) (s:List Nat) (za:Array Bool) (vs:Nat→Value) (w':World):Prop where
 pre:¬ za.getD 7 false=true→MP g v dv W0 v f op pa dv w'
 mid:za.getD 7 false=true→¬ za.getD 9 false=true→∃ v1 dv1,MP g v dv W0 v1 { f with st:=s } op pa dv1 w'
 k8:za.getD 8 false=true→za.getD 5 false=true∧za.getD 7 false=true
 k9:za.getD 9 false=true→za.getD 8 false=true
 c0:za.getD 0 false=true→vs 0=zz g
 c1:za.getD 1 false=true→vs 1=zz g
 c2:za.getD 2 false=true→vs 2=zz g
 c3:za.getD 3 false=true→vs 3=.pointer (some ⟨g,0+0,none⟩)
 c4:za.getD 4 false=true→vs 4=.pointer (some ⟨g,0+0+3,none⟩)
 c5:za.getD 5 false=true→vs 5=str f.mem
 c6:za.getD 6 false=true→vs 6=zz g
 c7:za.getD 7 false=true→vs 7=U u
 c8:za.getD 8 false=true→vs 8=str (slV f.mem u 32)
 c9:za.getD 9 false=true→∃ v2 dv2,MP g v dv W0 v2 { f with st:=rdB (slV f.mem u 32)::s } op pa dv2 w'
theorem m_load{g:Nat}{f:Fr}{op:Nat}{pa:Int}{u:Nat}{s:List Nat}(hs:f.st=u::s)(hu:u<W)(hl:f.st.length≤900)(hp:f.mem.length≤1000000):Mth 198 g [] f op pa TU0 { f with st:=rdB (slV f.mem u 32)::s } op pa:=by
 intro v dv w h;have HT:Hid _:=yc (g:=g) (op:=op) (pa:=pa) hs (by omega);have hsl:(slV f.mem u 32).length=32:=zc4 _ _ 32 (by omega);have hly:=zd9 (g:=g) (op:=op) (pa:=pa) (f:={ f with st:=s }) ⟨(slV f.mem u 32).toArray⟩ (by rw[xw];omega) (by simp only[];rw[hs]at hl;simp at hl;omega);rw[xw]at hly;have HL:Hid _:=hly;have HS:Hid _:=za2 f.mem hp u hu 32;have P0:Hid (MP g v dv w v f op pa dv w):=⟨h.row,h.start⟩
 clear h hs hl hp hu hly hsl;show Calls prog 198 #[zz g] w _
 go_enter func198,ntmps198
 go_upto_region 0 with fail
 have A0:=P0.out;refine RegV.wp (by kernel_rfl) (zae (by kernel_rfl) (by kernel_rfl) (CLm w g f op pa v dv u s) ?_ ?_ ?_)
 ·rintro w1 (rfl|rfl)
  ·refine⟨fun _=>A0,?_,?_,?_,?_,?_,?_,?_,?_,?_,?_,?_,?_,?_⟩<;>(intro h;simp[Array.getD]at h)
  ·refine⟨fun _=>⟨A0.row,A0.s.drew (Below.refl _ _).drew⟩,?_,?_,?_,?_,?_,?_,?_,?_,?_,?_,?_,?_,?_⟩<;>(intro h;simp[Array.getD]at h)
 ·clear A0;intro za vs a' w' i o hs ho hi hF cc;have hi13:i<10:=by have:=(Array.getElem?_eq_some_iff.1 ho).1;simpa using this
  have hcase:i=0∨i=1∨i=2∨i=3∨i=4∨i=5∨i=6∨i=7∨i=8∨i=9:=by omega
  rcases hcase with rfl|rfl|rfl|rfl|rfl|rfl|rfl|rfl|rfl|rfl
  ·simp at ho;subst ho;have T:=dT3 za 0;have hun:¬ za.getD 0 false=true:=fun h=>ya hi hs h
   exact zi rfl (zt (v:=zz g) (w1:=w') (by simp[execOp,ev ((hF.old (t:=0) (by kernel_rfl)).trans rfl),go_sem]) ⟨_,rfl,⟨fun h=>cc.pre (fun q=>h (zc q)),fun h h9=>cc.mid (T 7 (by decide) h) (fun q=>h9 (zc q)),fun h=>⟨zc (cc.k8 (T 8 (by decide) h)).1,zc (cc.k8 (T 8 (by decide) h)).2⟩,fun h=>zc (cc.k9 (T 9 (by decide) h)),fun _=>rfl,uz cc.c1,uz cc.c2,uz cc.c3,uz cc.c4,uz cc.c5,uz cc.c6,uz cc.c7,uz cc.c8,uz cc.c9⟩⟩)
  ·simp at ho;subst ho;have T:=dT3 za 1;have hun:¬ za.getD 1 false=true:=fun h=>ya hi hs h
   exact zi rfl (zt (v:=zz g) (w1:=w') (by simp[execOp,ev ((hF.old (t:=0) (by kernel_rfl)).trans rfl),go_sem]) ⟨_,rfl,⟨fun h=>cc.pre (fun q=>h (zc q)),fun h h9=>cc.mid (T 7 (by decide) h) (fun q=>h9 (zc q)),fun h=>⟨zc (cc.k8 (T 8 (by decide) h)).1,zc (cc.k8 (T 8 (by decide) h)).2⟩,fun h=>zc (cc.k9 (T 9 (by decide) h)),uz cc.c0,fun _=>rfl,uz cc.c2,uz cc.c3,uz cc.c4,uz cc.c5,uz cc.c6,uz cc.c7,uz cc.c8,uz cc.c9⟩⟩)
  ·simp at ho;subst ho;have T:=dT3 za 2;have hun:¬ za.getD 2 false=true:=fun h=>ya hi hs h
   have d1:=zg (i:=2) (j:=1) (by kernel_rfl) hi;have v1:=(hF.new (t:=3) (i:=1) (by kernel_rfl) (by simp) d1).trans (cc.c1 d1);exact zi rfl (zt (v:=zz g) (w1:=w') (by simp[execOp,ev v1,go_sem]) ⟨_,rfl,⟨fun h=>cc.pre (fun q=>h (zc q)),fun h h9=>cc.mid (T 7 (by decide) h) (fun q=>h9 (zc q)),fun h=>⟨zc (cc.k8 (T 8 (by decide) h)).1,zc (cc.k8 (T 8 (by decide) h)).2⟩,fun h=>zc (cc.k9 (T 9 (by decide) h)),uz cc.c0,uz cc.c1,fun _=>rfl,uz cc.c3,uz cc.c4,uz cc.c5,uz cc.c6,uz cc.c7,uz cc.c8,uz cc.c9⟩⟩)
  ·simp at ho;subst ho;have T:=dT3 za 3;have hun:¬ za.getD 3 false=true:=fun h=>ya hi hs h
   have d2:=zg (i:=3) (j:=2) (by kernel_rfl) hi;have v2:=(hF.new (t:=4) (i:=2) (by kernel_rfl) (by simp) d2).trans (cc.c2 d2);exact zi rfl (zt (v:=.pointer (some ⟨g,0+0,none⟩)) (w1:=w') (by simp[execOp,ev v2,go_sem]) ⟨_,rfl,⟨fun h=>cc.pre (fun q=>h (zc q)),fun h h9=>cc.mid (T 7 (by decide) h) (fun q=>h9 (zc q)),fun h=>⟨zc (cc.k8 (T 8 (by decide) h)).1,zc (cc.k8 (T 8 (by decide) h)).2⟩,fun h=>zc (cc.k9 (T 9 (by decide) h)),uz cc.c0,uz cc.c1,uz cc.c2,fun _=>rfl,uz cc.c4,uz cc.c5,uz cc.c6,uz cc.c7,uz cc.c8,uz cc.c9⟩⟩)
  ·simp at ho;subst ho;have T:=dT3 za 4;have hun:¬ za.getD 4 false=true:=fun h=>ya hi hs h
   have d3:=zg (i:=4) (j:=3) (by kernel_rfl) hi;have v3:=(hF.new (t:=5) (i:=3) (by kernel_rfl) (by simp) d3).trans (cc.c3 d3);exact zi rfl (zt (v:=.pointer (some ⟨g,0+0+3,none⟩)) (w1:=w') (by simp[execOp,ev v3,go_sem]) ⟨_,rfl,⟨fun h=>cc.pre (fun q=>h (zc q)),fun h h9=>cc.mid (T 7 (by decide) h) (fun q=>h9 (zc q)),fun h=>⟨zc (cc.k8 (T 8 (by decide) h)).1,zc (cc.k8 (T 8 (by decide) h)).2⟩,fun h=>zc (cc.k9 (T 9 (by decide) h)),uz cc.c0,uz cc.c1,uz cc.c2,uz cc.c3,fun _=>rfl,uz cc.c5,uz cc.c6,uz cc.c7,uz cc.c8,uz cc.c9⟩⟩)
  ·simp at ho;subst ho;have T:=dT3 za 5;have hun:¬ za.getD 5 false=true:=fun h=>ya hi hs h
   have d4:=zg (i:=5) (j:=4) (by kernel_rfl) hi;have v4:=(hF.new (t:=6) (i:=4) (by kernel_rfl) (by simp) d4).trans (cc.c4 d4);by_cases d7:za.getD 7 false=true
   ·obtain⟨v1,dv1,p1⟩:=cc.mid d7 (fun h=>hun (cc.k8 (cc.k9 h)).1);refine zi rfl (Oper.wp_mono ?_ (zcw 9 (.tmp 6) rfl v4 p1.row underlying9 rfl rfl));rintro a2 w2 ⟨rfl,rfl⟩;exact⟨_,rfl,⟨fun h=>cc.pre (fun q=>h (zc q)),fun h h9=>cc.mid (T 7 (by decide) h) (fun q=>h9 (zc q)),fun h=>⟨zc (cc.k8 (T 8 (by decide) h)).1,zc (cc.k8 (T 8 (by decide) h)).2⟩,fun h=>zc (cc.k9 (T 9 (by decide) h)),uz cc.c0,uz cc.c1,uz cc.c2,uz cc.c3,uz cc.c4,fun _=>rfl,uz cc.c6,uz cc.c7,uz cc.c8,uz cc.c9⟩⟩
   ·have p1:=cc.pre d7;refine zi rfl (Oper.wp_mono ?_ (zcw 9 (.tmp 6) rfl v4 p1.row underlying9 rfl rfl));rintro a2 w2 ⟨rfl,rfl⟩;exact⟨_,rfl,⟨fun h=>cc.pre (fun q=>h (zc q)),fun h h9=>cc.mid (T 7 (by decide) h) (fun q=>h9 (zc q)),fun h=>⟨zc (cc.k8 (T 8 (by decide) h)).1,zc (cc.k8 (T 8 (by decide) h)).2⟩,fun h=>zc (cc.k9 (T 9 (by decide) h)),uz cc.c0,uz cc.c1,uz cc.c2,uz cc.c3,uz cc.c4,fun _=>rfl,uz cc.c6,uz cc.c7,uz cc.c8,uz cc.c9⟩⟩
  ·simp at ho;subst ho;have T:=dT3 za 6;have hun:¬ za.getD 6 false=true:=fun h=>ya hi hs h
   exact zi rfl (zt (v:=zz g) (w1:=w') (by simp[execOp,ev ((hF.old (t:=0) (by kernel_rfl)).trans rfl),go_sem]) ⟨_,rfl,⟨fun h=>cc.pre (fun q=>h (zc q)),fun h h9=>cc.mid (T 7 (by decide) h) (fun q=>h9 (zc q)),fun h=>⟨zc (cc.k8 (T 8 (by decide) h)).1,zc (cc.k8 (T 8 (by decide) h)).2⟩,fun h=>zc (cc.k9 (T 9 (by decide) h)),uz cc.c0,uz cc.c1,uz cc.c2,uz cc.c3,uz cc.c4,uz cc.c5,fun _=>rfl,uz cc.c7,uz cc.c8,uz cc.c9⟩⟩)
  ·simp at ho;subst ho;have T:=dT3 za 7;have hun:¬ za.getD 7 false=true:=fun h=>ya hi hs h
   have d6:=zg (i:=7) (j:=6) (by kernel_rfl) hi;have v6:=(hF.new (t:=8) (i:=6) (by kernel_rfl) (by simp) d6).trans (cc.c6 d6);have l7:(za.setIfInBounds 7 true).getD 7 false=true:=done_mV hs (by decide);have p1:=cc.pre hun;refine zi rfl (wp_callG (f:=267) (args:=#[zz g]) (by simp[execOp_call_go,ev v6,go_sem]) ((HT.out v dv w' p1.mi).mono fun e w2 he=>?_));obtain⟨v1,dv1,rfl,q1⟩:=he
   exact⟨_,rfl,⟨_,rfl,⟨fun h=>absurd l7 h,fun _ _=>⟨v1,dv1,p1.trans q1⟩,fun h=>absurd (cc.k8 (T 8 (by decide) h)).2 hun,fun h=>absurd (cc.k8 (cc.k9 (T 9 (by decide) h))).2 hun,uz cc.c0,uz cc.c1,uz cc.c2,uz cc.c3,uz cc.c4,uz cc.c5,uz cc.c6,fun _=>rfl,fun h=>absurd (cc.k8 (T 8 (by decide) h)).2 hun,fun h=>absurd (cc.k8 (cc.k9 (T 9 (by decide) h))).2 hun⟩⟩⟩
  ·simp at ho;subst ho;have T:=dT3 za 8;have hun:¬ za.getD 8 false=true:=fun h=>ya hi hs h
   have d5:=zg (i:=8) (j:=5) (by kernel_rfl) hi;have v5:=(hF.new (t:=7) (i:=5) (by kernel_rfl) (by simp) d5).trans (cc.c5 d5);have d7:=zg (i:=8) (j:=7) (by kernel_rfl) hi;have v7:=(hF.new (t:=9) (i:=7) (by kernel_rfl) (by simp) d7).trans (cc.c7 d7);obtain⟨v1,dv1,p1⟩:=cc.mid d7 (fun h=>hun (cc.k9 h));refine zi rfl (qm (f:=208) (args:=#[str f.mem,U u,Z 32]) (v:=str (slV f.mem u 32)) (by simp[execOp_call_go,ev v5,ev v7,go_sem]) (HS.out w') ?_);intro w2 hb2
   exact⟨_,rfl,⟨fun h=>absurd (zc d7) h,fun _ _=>⟨v1,dv1,p1.row.below hb2,p1.s.drew hb2⟩,fun _=>⟨zc d5,zc d7⟩,fun h=>absurd (cc.k9 (T 9 (by decide) h)) hun,uz cc.c0,uz cc.c1,uz cc.c2,uz cc.c3,uz cc.c4,uz cc.c5,uz cc.c6,uz cc.c7,fun _=>rfl,fun h=>absurd (cc.k9 (T 9 (by decide) h)) hun⟩⟩
  ·simp at ho;subst ho;have T:=dT3 za 9;have hun:¬ za.getD 9 false=true:=fun h=>ya hi hs h
   have d0:=zg (i:=9) (j:=0) (by kernel_rfl) hi;have v0:=(hF.new (t:=2) (i:=0) (by kernel_rfl) (by simp) d0).trans (cc.c0 d0);have d8:=zg (i:=9) (j:=8) (by kernel_rfl) hi;have v8:=(hF.new (t:=10) (i:=8) (by kernel_rfl) (by simp) d8).trans (cc.c8 d8);have l9:(za.setIfInBounds 9 true).getD 9 false=true:=done_mV hs (by decide);obtain⟨v1,dv1,p1⟩:=cc.mid (cc.k8 d8).2 hun;refine zi rfl (wp_callG (f:=207) (args:=#[zz g,str (slV f.mem u 32)]) (by simp[execOp_call_go,ev v0,ev v8,go_sem]) ((HL.out v1 dv1 w' p1.mi).mono fun e w2 he=>?_));obtain⟨v2,dv2,rfl,q1⟩:=he
   exact⟨_,rfl,⟨_,rfl,⟨fun h=>absurd (zc (cc.k8 d8).2) h,fun _ h=>absurd l9 h,fun h=>⟨zc (cc.k8 (T 8 (by decide) h)).1,zc (cc.k8 (T 8 (by decide) h)).2⟩,fun _=>zc d8,uz cc.c0,uz cc.c1,uz cc.c2,uz cc.c3,uz cc.c4,uz cc.c5,uz cc.c6,uz cc.c7,uz cc.c8,fun _=>⟨v2,dv2,p1.trans q1⟩⟩⟩⟩
 ·intro za vs a' w' hd hF cc;obtain⟨v2,dv2,q1⟩:=cc.c9 (hd 9 (by decide));have eD:a'.defers=[]:=by rw[hF.all hd];rfl
  exact bodyPost_end (results_none rfl _ _ _) eD ⟨v2,dv2,rfl,q1⟩
theorem run_svA{P:Program}{w':World}(ty:TypeId){g off:Nat}{v:Value}{c:Array Value}(hr:zb w' g c)(hi:(P.info? ty).map (·.size)=some v.cells.size)(hn:off+v.cells.size≤c.size)(h1:v.cells.all (·.oneCell')=true):(storeVar ty ⟨g,off,none⟩ v).run P w'=.ok () (w'.setRow g (kh c off v.cells)):=by
 obtain⟨t,hg⟩:=hr;have hs:=run_storeCells_at P g off t v.cells.toList 0 c w' hg (by simpa using hn) (fun x hx=>Array.all_eq_true_iff_forall_mem.1 h1 x (by simpa using hx));cases hq:P.info? ty with
 | none=>simp[hq]at hi
 | some i=>
  have hz:v.cells.size=i.size:=by simp[hq]at hi;omega
  have h3:(c.toList.take (off+0)++v.cells.toList++c.toList.drop (off+0+v.cells.toList.length)).toArray=kh c off v.cells:=by simp[kh]
  rw[h3]at hs;simpa [storeVar,sizeOf,typeInfo,hq,hz]using hs
theorem sC_set:∀(s:List Nat) (i x:Nat),i<s.length→sC (s.set i x)=(sC s).take (4*(s.length-1-i))++uc x++(sC s).drop (4*(s.length-1-i)+4)
 | [],i,x,h=>by simp at h
 | a::s,0,x,_=>by
  rw[List.set_cons_zero,zc5,zc5];have e:4*((a::s).length-1-0)=(sC s).length:=by rw[sC_len];simp
  rw[e,List.take_append_of_le_length (Nat.le_refl _),List.take_length,List.drop_eq_nil_of_le (by rw[List.length_append];simp),List.append_nil]
 | a::s,i+1,x,h=>by
  have hi:i<s.length:=by simpa using h
  rw[List.set_cons_succ,zc5,zc5,sC_set s i x hi];have e:(a::s).length-1-(i+1)=s.length-1-i:=by simp;omega
  rw[e,List.take_append_of_le_length (by rw[sC_len];omega),List.drop_append_of_le_length (by rw[sC_len];omega)];simp only[List.append_assoc]
theorem over_take(l:List Value)(p n:Nat)(ys:List Value)(h4:ys.length=4)(h:p+4≤4*n)(hn:4*n≤l.length):(l.take p++ys++l.drop (p+4)).take (4*n)=(l.take (4*n)).take p++ys++(l.take (4*n)).drop (p+4):=by
 have e6:(l.take p).length=p:=by rw[List.length_take];omega
 rw[List.append_assoc,List.take_append,e6,List.take_of_length_le (l:=l.take p) (by omega),List.take_append,h4,List.take_of_length_le (l:=ys) (by omega),List.take_take,Nat.min_eq_left (by omega),List.drop_take,List.append_assoc,Nat.sub_sub]
theorem own_set{w:World}{g k cap:Nat}{s:List Nat}(h:w.ownsRow (g+1) 45 4 (.slice (some ⟨k,0,none⟩) s.length cap) s.length (sC s))(i x:Nat)(hi:i<s.length) :
  ∃ w',(storeVar 45 ⟨k,0+(s.length-1-i)*4,none⟩ (U x)).run prog w=.ok () w'∧w'.ownsRow (g+1) 45 4 (.slice (some ⟨k,0,none⟩) s.length cap) s.length (sC (s.set i x))∧zq (fun j=>j≠k) w w':=by
 rcases h.2 with⟨h1,_⟩|⟨k',cap',cur,h1,h2,h3,h4,h5,h6,h7⟩
 ·cases h1
 cases h1;have hr:zb w k cur:=⟨45,h3⟩
 have hq:(s.length-1-i)*4+4≤cur.size:=by rw[h6];omega
 refine⟨w.setRow k (kh cur (0+(s.length-1-i)*4) (U x).cells),run_svA 45 hr (by kernel_rfl) (by rw[show(U x).cells.size=4 from rfl];omega) (by kernel_rfl),⟨by rw[sC_len];simp;omega,.inr ⟨_,_,kh cur (0+(s.length-1-i)*4) (U x).cells,rfl,h2,?_,h4,h5,?_,?_⟩⟩,zao _ _ _ (fun h=>h rfl)⟩
 ·rw[setRow_heap w k cur _ 45 (0,0) h3]
 ·unfold kh;simp only[List.size_toArray,List.length_append,List.length_take,List.length_drop,Array.length_toList,show(U x).cells.size=4 from rfl];omega
 ·rw[sC_set s i x hi,← h7];have e5:s.length*4=4*s.length:=by omega
  have e7:0+(s.length-1-i)*4=4*(s.length-1-i):=by omega
  rw[e5,e7];exact over_take cur.toList (4*(s.length-1-i)) s.length (uc x) rfl (by omega) (by have:cur.toList.length=cur.size:=Array.length_toList;omega)
theorem SI.sto{J J':World→Prop}{F F':Nat→Prop}{ds:List Deferred}{β:Nat→Nat}{c:Cf}{a:Act}{w w':World}(I:SI J F ds β c a w)(g:zq (fun k=>¬ F k) w w')(hJ:J' w')(hF:∀ k,k<w.heap.size→F' k→F k):SI J' F' ds β (qt c (yt c) none) (a.put (yt c) undef) w':=I.move g hJ hF (yt c) none
theorem sub8{x y:Nat}(h:y≤x)(hx:x<256)(o1 o2:Operand)(w:World):(do eqGuard .sub 5 o1 o2 (b8 x) (.int .u8 y);binOp .sub 5 (b8 x) (.int .u8 y):Sem Value).run prog w=.ok (b8 (x-y)) w:=run_sub8 (x:=x) (y:=y) (z:=(x-y:Nat)) (by rw[wrap8 (by omega) (by omega)];omega) o1 o2 w
theorem MS.seta{wE:World}{g:Nat}{v0 dv0 dv:Value}{f f':Fr}{w w':World}{k cap n:Nat}(h:MS wE g v0 dv0 (.slice (some ⟨k,0,none⟩) n cap) f dv w)(gr:zq (fun j=>j≠k) w w')(ho:w'.ownsRow (g+1) 45 4 (.slice (some ⟨k,0,none⟩) n cap) f'.st.length (sC f'.st))(hc:f'.code=f.code):MS wE g v0 dv0 (.slice (some ⟨k,0,none⟩) n cap) f' dv w':=by
 have gg:GG g (.slice (some ⟨k,0,none⟩) n cap) w w':=⟨gr.os,gr.tape,gr.output,gr.size,fun j hj hn=>gr.block j hj fun e=>hn.2 (by rw[e];rfl)⟩
 refine⟨h.c.moved gg ho (fun j hj=>.inl hj) hc,h.lt,⟨gr.os.trans h.gr.os,gr.tape.trans h.gr.tape,gr.output.trans h.gr.output,Nat.le_trans h.gr.size gr.size,fun j hj hn=>(gr.block j (Nat.lt_of_lt_of_le hj h.gr.size) fun e=>?_).trans (h.gr.block j hj hn)⟩,h.nb,h.db⟩;rcases h.nb k rfl with h1 | h1
 ·exact hn.2 (e ▸ h1)
 ·omega
theorem m_swap{g:Nat}{f:Fr}{op:Nat}{pa:Int}(h1:144≤op)(h2:op<160)(hk:op-144+1<f.st.length)(hl:f.st.length≤900):Mth 137 g [] f op pa TU0 { f with st:=swV f.st (op-144) } op pa:=by
 intro v dv w h;obtain⟨b,cap,rfl,hcap⟩:=own_addr h.c.own (by omega);obtain⟨k,hkk⟩:∃ k,op-144=k:=⟨_,rfl⟩
 have hop:op=144+k:=by omega
 rw[hkk]at hk ⊢;have hld:∀ i,i<f.st.length→∀ w',MS w g (.slice (some ⟨b,0,none⟩) f.st.length cap) dv (.slice (some ⟨b,0,none⟩) f.st.length cap) f dv w'→(loadVar 45 ⟨b,0+(f.st.length-1-i)*4,none⟩).run prog w'=.ok (.agg (uc (tp f.st i)).toArray) w':=fun i hi w' h'=>loadN underlying45 rfl (n:=4) (by kernel_rfl) rfl (own_at h'.c.own i hi)
 have hA:=hld (k+1) hk;have hB:=hld 0 (by omega);have hS1:=fun w' (h':MS w g (.slice (some ⟨b,0,none⟩) f.st.length cap) dv (.slice (some ⟨b,0,none⟩) f.st.length cap) f dv w')=>own_set h'.c.own 0 (tp f.st (k+1)) (by omega)
 have hsl:(f.st.set 0 (tp f.st (k+1))).length=f.st.length:=List.length_set;have hS2:=fun(w':World) (h':w'.ownsRow (g+1) 45 4 (.slice (some ⟨b,0,none⟩) (f.st.set 0 (tp f.st (k+1))).length cap) (f.st.set 0 (tp f.st (k+1))).length (sC (f.st.set 0 (tp f.st (k+1)))))=>own_set h' (k+1) (tp f.st 0) (by omega)
 rw[hsl]at hS2;have e1:f.st.length-1-(k+1)=f.st.length-2-k:=by omega
 rw[e1]at hA hS2;have e2:f.st.length-1-0=f.st.length-1:=by omega
 rw[e2]at hB hS1;have hst:=h.start;have hrw:=h.row;have hnn:=h.c.not (wE:=w);unfold U at hS1 hS2;simp only[uc]at hA hB;have hx:∀(s:List Nat),s=swV f.st k→s.length=f.st.length:=fun s hs=>by rw[hs];simp[swV]
 obtain⟨sw,hsw⟩:∃ sw,sw=swV f.st k:=⟨_,rfl⟩
 have hswl:=hx sw hsw;have hsw':sw=(f.st.set 0 (tp f.st (k+1))).set (k+1) (tp f.st 0):=hsw;rw[← hsw']at hS2;rw[← hsw];generalize l0 (tp f.st (k+1))=x0,l1 (tp f.st (k+1))=x1,l2 (tp f.st (k+1))=x2,l3 (tp f.st (k+1))=x3,l0 (tp f.st 0)=y0,l1 (tp f.st 0)=y1,l2 (tp f.st 0)=y2,l3 (tp f.st 0)=y3 at *;generalize hn:f.st.length=n at *;have hsb:=fun o1 o2 w=>sub8 (x:=op) (y:=144) (by omega) (by omega) o1 o2 w
 rw[show op-144=k by omega]at hsb;have hcv:=vu k (by omega);refine inG (J:=MS w g (.slice (some ⟨b,0,none⟩) n cap) dv (.slice (some ⟨b,0,none⟩) n cap) f dv) (F:=MF w g (.slice (some ⟨b,0,none⟩) n cap) dv) [] func137 hst hrw hnn fun a I=>?_;refine goM [lS underlying61 (ad:=some ⟨b,0,none⟩) (n:=n) (cap:=cap) (z:=n) rfl,ksZ n 1 (n-1:Nat),ksZ (n-1:Nat) 1 (n-2:Nat),bO .sub 5 hsb,vO 5 3 hcv,ksZ (n-2:Nat) k (n-2-k:Nat)] I fun β0 A0 w0 I0 hb0=>?_;have hz0:β0 0=g:=agr hb0 0 rfl
 refine dwT (T:=MS w g (.slice (some ⟨b,0,none⟩) n cap) dv (.slice (some ⟨b,0,none⟩) n cap) f dv) 28 [iA 61 underlying61 (sz:=4) (by kernel_rfl) (g:=b) (off:=0) (n:=n) (cap:=cap) (i:=n-2-k) (by omega),ldA 45 hA,iA 61 underlying61 (sz:=4) (by kernel_rfl) (g:=b) (off:=0) (n:=n) (cap:=cap) (i:=n-1) (by omega),ldA 45 hB] (MS.rs _ _ _ _ _ _ _) (fun _ h=>h) zk.post I0 fun A2 w2 I2=>?_;refine goM [iA 61 underlying61 (sz:=4) (by kernel_rfl) (g:=b) (off:=0) (n:=n) (cap:=cap) (i:=n-1) (by omega)] I2 fun β3 A3 w3 I3 hb3=>?_;have hz3:β3 0=g:=agr hb3 0 hz0
 obtain⟨w4,r4,o4,g4⟩:=hS1 w3 I3.hJ;refine stoQ (ad:=⟨b,0+(n-1)*4,none⟩) (v:=U4 x0 x1 x2 x3) I3 r4 ?_;have I4:SI (MS w g (.slice (some ⟨b,0,none⟩) n cap) dv (.slice (some ⟨b,0,none⟩) n cap) { f with st:=f.st.set 0 (tp f.st (k+1)) } dv) (MF w g (.slice (some ⟨b,0,none⟩) n cap) dv) [] β3 _ _ w4:=I3.sto ⟨g4.os,g4.tape,g4.output,g4.size,fun j hj hn=>g4.block j hj fun e=>hn (.inr (.inl (by rw[e];rfl)))⟩ (I3.hJ.seta g4 (by rw[hsl];exact o4) rfl) (fun _ _ h=>h)
 refine goM [iA 61 underlying61 (sz:=4) (by kernel_rfl) (g:=b) (off:=0) (n:=n) (cap:=cap) (i:=n-2-k) (by omega)] I4 fun β5 A5 w5 I5 hb5=>?_;have hz5:β5 0=g:=agr hb5 0 hz3;have ho5:=I5.hJ.c.own;simp only[hsl]at ho5;obtain⟨w6,r6,o6,g6⟩:=hS2 w5 ho5;refine stoQ (ad:=⟨b,0+(n-2-k)*4,none⟩) (v:=U4 y0 y1 y2 y3) I5 r6 ?_
 have I6:SI (MS w g (.slice (some ⟨b,0,none⟩) n cap) dv (.slice (some ⟨b,0,none⟩) n cap) { f with st:=sw } dv) (MF w g (.slice (some ⟨b,0,none⟩) n cap) dv) [] β5 _ _ w6:=I5.sto ⟨g6.os,g6.tape,g6.output,g6.size,fun j hj hn=>g6.block j hj fun e=>hn (.inr (.inl (by rw[e];rfl)))⟩ (I5.hJ.seta (f':={ f with st:=sw }) g6 (by simp only[];rw[hswl];exact o6) rfl) (fun _ _ h=>h);refine goM [] I6 fun β7 A7 w7 I7 hb7=>?_;exact x9 I7 ⟨_,_,rfl,I7.mp (op:=op) (pa:=pa) (agr hb7 0 hz5)⟩
end Go.Proofs.YthkpgfbjdabflaaGreatDoor
