/- Out of Yb. -/
import Derived.Test.YtceedgdbhlpjlaaGreatDoorKqYa
namespace Go.Proofs.YtceedgdbhlpjlaaGreatDoor
open Go.RowKit Go.Sort Tryz
set_option linter.unusedVariables false
set_option maxRecDepth 100000
set_option maxHeartbeats 4000000
theorem rwrong_any(f:Fr)(ad:Option Addr)(n cap:Nat)(e:Int)(w:World):Calls prog 22 #[frV f (.slice ad n cap),Z e] w fun r w'=>r=.returned (frV (kp f e) (.slice ad n cap))∧Below w.heap.size w w':=by
 refine inZ func22 fun A I=>?_;refine goZ [] I fun β A1 w1 I1 hb1=>?_;exact zl (v:=frV (kp f e) (.slice ad n cap)) I1
theorem rtop_any(s:List Nat)(v:Value)(k:Nat)(hk:k≤100)(hl:s.length≤100000)(w:World)(h:SkR w v s):Calls prog 24 #[v,Z k] w fun e w'=>e=.returned (U (tp s k))∧Below w.heap.size w w':=by
 obtain⟨ad,cap,rfl,hr⟩:=h;refine inZ func24 fun A I=>?_;rcases Nat.lt_or_ge k s.length with hkl | hkl
 ·obtain⟨b,off,rfl,hc⟩:=hr (s.length-1-k) (by omega);rw[show s.length-1-(s.length-1-k)=k by omega]at hc;have hld:∀ w',Below w.heap.size w w'→(loadVar 38 ⟨b,off+(s.length-1-k)*4,none⟩).run prog w'=.ok (.agg (uc (tp s k)).toArray) w':=fun w' hbl=>loadN underlying38 rfl (n:=4) (by kernel_rfl) rfl fun j c hj=>(World.cell?_of_block (a:=⟨b,off+(s.length-1-k)*4+j,none⟩) (hbl.block b (World.block_lt_of_cell? w ⟨b,off+(s.length-1-k)*4+j,none⟩ (hc j c hj)))).trans (hc j c hj)
  generalize tp s k=x at *;simp only[uc]at hld;unfold U;generalize l0 x=x0,l1 x=x1,l2 x=x2,l3 x=x3,s.length=n at *;refine goT (T:=Below w.heap.size w) [lSk (some ⟨b,off,none⟩) n cap,khF k n,lSk (some ⟨b,off,none⟩) n cap,ksZ n 1 (n-1:Nat),ksZ (n-1:Nat) k (n-1-k:Nat),iA 22 underlying22 (sz:=4) (by kernel_rfl) (g:=b) (off:=off) (n:=n) (cap:=cap) (i:=n-1-k) (by omega),ldA 38 hld] (zq w) (fun _ h=>h) I fun β A1 w1 I1 hb1=>?_;exact zl (v:=U4 x0 x1 x2 x3) I1
 ·have e:tp s k=0:=by unfold tp;rw[List.getD_eq_getElem?_getD,List.getElem?_eq_none hkl];rfl
  rw[e];generalize s.length=n at *;refine goZ [lSk ad n cap,khT k n,dO 38 [] qw] I fun β A1 w1 I1 hb1=>?_;exact zp (v:=U4 0 0 0 0) I1 ⟨by rw[U0],I1.hJ⟩
def reaA (op a b c:Nat):Nat×Nat:=
 if op=32∨op=243∨op=253 then(a,b)else if op=55∨op=57 then(a,c)else if op=81∨op=82 then(a,32)else if op=83 then(a,1)else(0,0)
theorem reaA_eq(op:Nat)(s:List Nat):yk op s=reaA op (tp s 0) (tp s 1) (tp s 2):=rfl
def extA (op b n:Nat):Int:=if op=10 then 50*((xb b+7)/8:Nat)else if op=32 then 6*wds (n:Nat)else if op=55∨op=57 then 3*wds (n:Nat)else 0
theorem extA_eq(op:Nat)(s:List Nat):extV op s=extA op (tp s 1) (yk op s).2:=by
 unfold extV extA yk;by_cases h1:op=10
 ·rw[if_pos h1,if_pos h1]
 rw[if_neg h1,if_neg h1];by_cases h2:op=32
 ·rw[if_pos h2,if_pos h2,if_pos (.inl h2)]
 rw[if_neg h2,if_neg h2];by_cases h3:op=55∨op=57
 ·rw[if_pos h3,if_pos h3,if_neg (by omega),if_pos h3]
 ·rw[if_neg h3,if_neg h3]
theorem rreach_any(op a b c:Nat)(ho:op<256):RT 25 #[b8 op,U a,U b,U c] (.tuple #[U (reaA op a b c).1,U (reaA op a b c).2]):=by
 refine fun w=>inZ func25 fun A I=>?_;unfold reaA;have e32:U 32=U4 32 0 0 0:=by kernel_rfl
 by_cases h1:op=32
 ·rw[if_pos (by omega)];simp only[]
  skip
  unfold U at I ⊢;generalize l0 a=a0,l1 a=a1,l2 a=a2,l3 a=a3,l0 b=b0,l1 b=b1,l2 b=b2,l3 b=b3,l0 c=c0,l1 c=c1,l2 c=c2,l3 c=c3 at *;refine goZ [dO 38 [0,1,2,3] (bdU 32 0 0 0),eqF op 32 h1] I fun β A1 w1 I1 hb1=>?_;refine dw22 38 5 6 8 9 17 18 0 1 3 4 #[B a0,B a1,B a2,B a3] #[B b0,B b1,B b2,B b3] #[B 0,B 0,B 0,B 0] #[B 0,B 0,B 0,B 0] underlying38 rfl (by kernel_rfl) ⟨rfl,rfl,rfl⟩ (by kernel_rfl) (by kernel_rfl) (zq w) I1 fun A2 w2 I2=>?_;refine goZ [] I2 fun β3 A3 w3 I3 hb3=>?_;exact zl (v:=.tuple #[U4 a0 a1 a2 a3,U4 b0 b1 b2 b3]) I3
 by_cases h1:op=243
 ·rw[if_pos (by omega)];simp only[]
  skip
  unfold U at I ⊢;generalize l0 a=a0,l1 a=a1,l2 a=a2,l3 a=a3,l0 b=b0,l1 b=b1,l2 b=b2,l3 b=b3,l0 c=c0,l1 c=c1,l2 c=c2,l3 c=c3 at *;refine goZ [dO 38 [0,1,2,3] (bdU 32 0 0 0),neF op 32 (by omega),eqF op 243 h1] I fun β A1 w1 I1 hb1=>?_;refine dw22 38 5 6 8 9 17 18 0 1 3 4 #[B a0,B a1,B a2,B a3] #[B b0,B b1,B b2,B b3] #[B 0,B 0,B 0,B 0] #[B 0,B 0,B 0,B 0] underlying38 rfl (by kernel_rfl) ⟨rfl,rfl,rfl⟩ (by kernel_rfl) (by kernel_rfl) (zq w) I1 fun A2 w2 I2=>?_;refine goZ [] I2 fun β3 A3 w3 I3 hb3=>?_;exact zl (v:=.tuple #[U4 a0 a1 a2 a3,U4 b0 b1 b2 b3]) I3
 by_cases h1:op=253
 ·rw[if_pos (by omega)];simp only[]
  skip
  unfold U at I ⊢;generalize l0 a=a0,l1 a=a1,l2 a=a2,l3 a=a3,l0 b=b0,l1 b=b1,l2 b=b2,l3 b=b3,l0 c=c0,l1 c=c1,l2 c=c2,l3 c=c3 at *;refine goZ [dO 38 [0,1,2,3] (bdU 32 0 0 0),neF op 32 (by omega),neF op 243 (by omega),eqF op 253 h1] I fun β A1 w1 I1 hb1=>?_;refine dw22 38 5 6 8 9 17 18 0 1 3 4 #[B a0,B a1,B a2,B a3] #[B b0,B b1,B b2,B b3] #[B 0,B 0,B 0,B 0] #[B 0,B 0,B 0,B 0] underlying38 rfl (by kernel_rfl) ⟨rfl,rfl,rfl⟩ (by kernel_rfl) (by kernel_rfl) (zq w) I1 fun A2 w2 I2=>?_;refine goZ [] I2 fun β3 A3 w3 I3 hb3=>?_;exact zl (v:=.tuple #[U4 a0 a1 a2 a3,U4 b0 b1 b2 b3]) I3
 by_cases h1:op=55
 ·rw[if_neg (by omega),if_pos (by omega)];simp only[]
  skip
  unfold U at I ⊢;generalize l0 a=a0,l1 a=a1,l2 a=a2,l3 a=a3,l0 b=b0,l1 b=b1,l2 b=b2,l3 b=b3,l0 c=c0,l1 c=c1,l2 c=c2,l3 c=c3 at *;refine goZ [dO 38 [0,1,2,3] (bdU 32 0 0 0),neF op 32 (by omega),neF op 243 (by omega),neF op 253 (by omega),eqF op 55 h1] I fun β A1 w1 I1 hb1=>?_;refine dw22 38 5 7 8 9 22 23 0 2 3 4 #[B a0,B a1,B a2,B a3] #[B c0,B c1,B c2,B c3] #[B 0,B 0,B 0,B 0] #[B 0,B 0,B 0,B 0] underlying38 rfl (by kernel_rfl) ⟨rfl,rfl,rfl⟩ (by kernel_rfl) (by kernel_rfl) (zq w) I1 fun A2 w2 I2=>?_;refine goZ [] I2 fun β3 A3 w3 I3 hb3=>?_
  exact zl (v:=.tuple #[U4 a0 a1 a2 a3,U4 c0 c1 c2 c3]) I3
 by_cases h1:op=57
 ·rw[if_neg (by omega),if_pos (by omega)];simp only[]
  skip
  unfold U at I ⊢;generalize l0 a=a0,l1 a=a1,l2 a=a2,l3 a=a3,l0 b=b0,l1 b=b1,l2 b=b2,l3 b=b3,l0 c=c0,l1 c=c1,l2 c=c2,l3 c=c3 at *;refine goZ [dO 38 [0,1,2,3] (bdU 32 0 0 0),neF op 32 (by omega),neF op 243 (by omega),neF op 253 (by omega),neF op 55 (by omega),eqF op 57 h1] I fun β A1 w1 I1 hb1=>?_;refine dw22 38 5 7 8 9 22 23 0 2 3 4 #[B a0,B a1,B a2,B a3] #[B c0,B c1,B c2,B c3] #[B 0,B 0,B 0,B 0] #[B 0,B 0,B 0,B 0] underlying38 rfl (by kernel_rfl) ⟨rfl,rfl,rfl⟩ (by kernel_rfl) (by kernel_rfl) (zq w) I1 fun A2 w2 I2=>?_;refine goZ [] I2 fun β3 A3 w3 I3 hb3=>?_
  exact zl (v:=.tuple #[U4 a0 a1 a2 a3,U4 c0 c1 c2 c3]) I3
 by_cases h1:op=81
 ·rw[if_neg (by omega),if_neg (by omega),if_pos (by omega)];simp only[];rw[e32];unfold U at I ⊢;generalize l0 a=a0,l1 a=a1,l2 a=a2,l3 a=a3,l0 b=b0,l1 b=b1,l2 b=b2,l3 b=b3,l0 c=c0,l1 c=c1,l2 c=c2,l3 c=c3 at *;refine goZ [dO 38 [0,1,2,3] (bdU 32 0 0 0),neF op 32 (by omega),neF op 243 (by omega),neF op 253 (by omega),neF op 55 (by omega),neF op 57 (by omega),eqF op 81 h1] I fun β A1 w1 I1 hb1=>?_
  refine dw22 38 5 10 8 9 27 28 0 5 3 4 #[B a0,B a1,B a2,B a3] #[B 32,B 0,B 0,B 0] #[B 0,B 0,B 0,B 0] #[B 0,B 0,B 0,B 0] underlying38 rfl (by kernel_rfl) ⟨rfl,rfl,rfl⟩ (by kernel_rfl) (by kernel_rfl) (zq w) I1 fun A2 w2 I2=>?_;refine goZ [] I2 fun β3 A3 w3 I3 hb3=>?_;exact zl (v:=.tuple #[U4 a0 a1 a2 a3,U4 32 0 0 0]) I3
 by_cases h1:op=82
 ·rw[if_neg (by omega),if_neg (by omega),if_pos (by omega)];simp only[];rw[e32];unfold U at I ⊢;generalize l0 a=a0,l1 a=a1,l2 a=a2,l3 a=a3,l0 b=b0,l1 b=b1,l2 b=b2,l3 b=b3,l0 c=c0,l1 c=c1,l2 c=c2,l3 c=c3 at *;refine goZ [dO 38 [0,1,2,3] (bdU 32 0 0 0),neF op 32 (by omega),neF op 243 (by omega),neF op 253 (by omega),neF op 55 (by omega),neF op 57 (by omega),neF op 81 (by omega),eqF op 82 h1] I fun β A1 w1 I1 hb1=>?_
  refine dw22 38 5 10 8 9 27 28 0 5 3 4 #[B a0,B a1,B a2,B a3] #[B 32,B 0,B 0,B 0] #[B 0,B 0,B 0,B 0] #[B 0,B 0,B 0,B 0] underlying38 rfl (by kernel_rfl) ⟨rfl,rfl,rfl⟩ (by kernel_rfl) (by kernel_rfl) (zq w) I1 fun A2 w2 I2=>?_;refine goZ [] I2 fun β3 A3 w3 I3 hb3=>?_;exact zl (v:=.tuple #[U4 a0 a1 a2 a3,U4 32 0 0 0]) I3
 by_cases h1:op=83
 ·rw[if_neg (by omega),if_neg (by omega),if_neg (by omega),if_pos (by omega)];simp only[];rw[U4_1];unfold U at I ⊢;generalize l0 a=a0,l1 a=a1,l2 a=a2,l3 a=a3,l0 b=b0,l1 b=b1,l2 b=b2,l3 b=b3,l0 c=c0,l1 c=c1,l2 c=c2,l3 c=c3 at *;refine goZ [dO 38 [0,1,2,3] (bdU 32 0 0 0),neF op 32 (by omega),neF op 243 (by omega),neF op 253 (by omega),neF op 55 (by omega),neF op 57 (by omega),neF op 81 (by omega),neF op 82 (by omega),eqF op 83 h1,dO 38 [0,1,2,3] (bdU 1 0 0 0)] I fun β A1 w1 I1 hb1=>?_;exact zl (v:=.tuple #[U4 a0 a1 a2 a3,U4 1 0 0 0]) I1
 rw[if_neg (by omega),if_neg (by omega),if_neg (by omega),if_neg (by omega)];have ez:(.tuple #[U (0,0).1,U (0,0).2]:Value)=.tuple #[U4 0 0 0 0,U4 0 0 0 0]:=by kernel_rfl
 rw[ez];unfold U at I ⊢;generalize l0 a=a0,l1 a=a1,l2 a=a2,l3 a=a3,l0 b=b0,l1 b=b1,l2 b=b2,l3 b=b3,l0 c=c0,l1 c=c1,l2 c=c2,l3 c=c3 at *;refine goZ [dO 38 [0,1,2,3] (bdU 32 0 0 0),neF op 32 (by omega),neF op 243 (by omega),neF op 253 (by omega),neF op 55 (by omega),neF op 57 (by omega),neF op 81 (by omega),neF op 82 (by omega),neF op 83 (by omega),dO 38 [] qw,dO 38 [] qw] I fun β A1 w1 I1 hb1=>?_;exact zl (v:=.tuple #[U4 0 0 0 0,U4 0 0 0 0]) I1
theorem rextra_any(op b n:Nat)(ho:op<256)(hb:b<W)(hn:op=32∨op=55∨op=57→n≤65536):RT 28 #[b8 op,U b,U n] (Z (extA op b n)):=by
 refine fun w=>inZ func28 fun A I=>?_;unfold extA;unfold U at I ⊢;by_cases h1:op=10
 ·rw[if_pos h1];have hbt:=rbits_any b;have hle:=zan b 256 hb;generalize xb b=m at *;unfold U at hbt;generalize l0 b=b0,l1 b=b1,l2 b=b2,l3 b=b3,l0 n=n0,l1 n=n1,l2 n=n2,l3 n=n3 at *;refine goZ [eqF op 10 h1,kC func48 hbt,kaZ m 7 (m+7:Nat),bO .quo 3 (zb7 (x:=(m+7:Nat)) (y:=8) (z:=((m+7)/8:Nat)) (by decide) (by rw[Int.tdiv_eq_ediv_of_nonneg (by omega),wzf (by omega) (by omega)];omega)),bO .mul 3 (qp (x:=50) (y:=((m+7)/8:Nat)) (z:=50*((m+7)/8:Nat)) (by rw[wzf (by omega) (by omega)]))] I fun β A1 w1 I1 hb1=>?_;exact zl (v:=Z (50*((m+7)/8:Nat))) I1
 by_cases h1:op=32
 ·rw[if_neg (by omega),if_pos h1];have hle:=hn (by omega);have hM:=zah;have hl0:l0 n=n:=(xc n (by omega)).1;rw[hl0]at I ⊢;have hcv:=zch n (by omega);have hwd:=zau (n:Int) (by omega) (by omega);have hwb:=zdl (n:=(n:Int)) (by omega) (by omega);generalize wds (n:Int)=q at *;clear hl0;generalize l0 b=b0,l1 b=b1,l2 b=b2,l3 b=b3,l1 n=n1,l2 n=n2,l3 n=n3 at *;refine goZ [neF op 10 (by omega),eqF op 32 h1,vO 36 3 hcv,kC func46 hwd,bO .mul 3 (qp (x:=6) (y:=q) (z:=6*q) (by rw[wzf (by omega) (by omega)]))] I fun β A1 w1 I1 hb1=>?_;exact zl (v:=Z (6*q)) I1
 by_cases h1:op=55
 ·rw[if_neg (by omega),if_neg (by omega),if_pos (.inl h1)];have hle:=hn (by omega);have hM:=zah;have hl0:l0 n=n:=(xc n (by omega)).1;rw[hl0]at I ⊢;have hcv:=zch n (by omega);have hwd:=zau (n:Int) (by omega) (by omega);have hwb:=zdl (n:=(n:Int)) (by omega) (by omega);generalize wds (n:Int)=q at *;clear hl0;generalize l0 b=b0,l1 b=b1,l2 b=b2,l3 b=b3,l1 n=n1,l2 n=n2,l3 n=n3 at *
  refine goZ [neF op 10 (by omega),neF op 32 (by omega),eqF op 55 h1,vO 36 3 hcv,kC func46 hwd,bO .mul 3 (qp (x:=3) (y:=q) (z:=3*q) (by rw[wzf (by omega) (by omega)]))] I fun β A1 w1 I1 hb1=>?_;exact zl (v:=Z (3*q)) I1
 by_cases h1:op=57
 ·rw[if_neg (by omega),if_neg (by omega),if_pos (.inr h1)];have hle:=hn (by omega);have hM:=zah;have hl0:l0 n=n:=(xc n (by omega)).1;rw[hl0]at I ⊢;have hcv:=zch n (by omega);have hwd:=zau (n:Int) (by omega) (by omega);have hwb:=zdl (n:=(n:Int)) (by omega) (by omega);generalize wds (n:Int)=q at *;clear hl0;generalize l0 b=b0,l1 b=b1,l2 b=b2,l3 b=b3,l1 n=n1,l2 n=n2,l3 n=n3 at *
  refine goZ [neF op 10 (by omega),neF op 32 (by omega),neF op 55 (by omega),eqF op 57 h1,vO 36 3 hcv,kC func46 hwd,bO .mul 3 (qp (x:=3) (y:=q) (z:=3*q) (by rw[wzf (by omega) (by omega)]))] I fun β A1 w1 I1 hb1=>?_;exact zl (v:=Z (3*q)) I1
 rw[if_neg (by omega),if_neg (by omega),if_neg (by omega)];generalize l0 b=b0,l1 b=b1,l2 b=b2,l3 b=b3,l0 n=n0,l1 n=n1,l2 n=n2,l3 n=n3 at *;refine goZ [neF op 10 (by omega),neF op 32 (by omega),neF op 55 (by omega),neF op 57 (by omega)] I fun β A1 w1 I1 hb1=>?_;exact zl (v:=Z 0) I1
def iU {T : World → Prop} (t : Nat) {e : TypeId} (hu : prog.underlying t = some (.slice e)) {sz : Nat} (hs : (prog.info? e).map (·.size) = some sz) {g off n cap i : Nat} (hi : i < n) : Fa prog T := Sum.inr (Sum.inr
  { ok := fun | .indexAddr t' _ _ => t' == t | _ => false
    xs := #[.slice (some ⟨g, off, none⟩) n cap, B i]
    v := .pointer (some ⟨g, off + i * sz, none⟩)
    fr := true
    h := by
      intro a w oo _ hok hx
      cases hop : oo.op with
      | indexAddr t' x y =>
        rw [hop] at hok hx
        simp only [beq_iff_eq] at hok
        subst hok
        simp only [vp, List.map_cons, List.map_nil] at hx
        have hx1 : a.eval x = .slice (some ⟨g, off, none⟩) n cap ∧ a.eval y = B i := by simpa using hx
        cases hq : prog.info? e with
        | none => rw [hq] at hs; cases hs
        | some inf =>
          rw [hq] at hs
          simp only [Option.map_some, Option.some.injEq] at hs
          subst hs
          unfold execOp
          simp only [hop, hx1.1, hx1.2, Instr.indexAt, Sem.run_bind, asIntOf, Sem.run_pure, Result.andThen_ok, run_underlying hu]
          simp [hi, sizeOf, typeInfo, hq, kh]
      | _ => rw [hop] at hok; simp at hok })
theorem rjump_any(f:Fr)(ad:Option Addr)(n cap:Nat)(a:Nat)(ha:a<W)(hc:f.code.length≤1000000)(w:World):Calls prog 51 #[frV f (.slice ad n cap),U a] w fun r w'=>r=.returned (frV (if dstV f.code a=true then{ f with pc:=a }else kp f 20) (.slice ad n cap))∧Below w.heap.size w w':=by
 have hM:=zah;have hW:=M_W;have hcmp:=zb0 a f.code.length ha (by omega);rw[U_sml f.code.length (by omega)]at hcmp;have hcv:=zcw f.code.length (by omega);have hbd:=bdU f.code.length 0 0 0;have hwr:=rwrong_any f ad n cap 20;have hcz:ka a f.code.length=if a<f.code.length then -1 else if f.code.length<a then 1 else 0:=rfl
 have hl0:a<f.code.length→l0 a=a:=fun h=>(xc a (by omega)).1
 generalize ka a f.code.length=cz at *;obtain⟨q,hq⟩:∃ q,dstV f.code a=q:=⟨_,rfl⟩
 have hld:∀ d,a<f.code.length→∀ w':World,w'.heap[d]? = some (.cells (blC (dsN f.code)) 4)→(loadVar 4 ⟨d,0+a*1,none⟩).run prog w'=.ok (.bool q) w':=fun d h w' h'=>hq ▸ ld_dest h' h
 have hge:¬ a<f.code.length→q=false:=fun h=>by
  rw[← hq];cases hd:dstV f.code a with
  | false=>rfl
  | true=>exact absurd (dst_lt hd) h
 rw[hq];refine inZ func51 fun A I=>?_;unfold U at hcmp I ⊢;generalize l1 a=a1,l2 a=a2,l3 a=a3,l0 a=a0 at *;refine goZ [] I fun β1 A1 w1 I1 hb1=>?_;refine qx [Sum.inl (str f.code)] func79 I1 ((rdests_any f.code (by omega) w1).mono fun e w2 he=>?_);obtain⟨_,rfl,d,rfl,hd1,hd2,hbl⟩:=he;have hw1:=I1.hJ;have I2:SI (dJ w d (dsN f.code)) (dF w d) [] β1 _ _ w2:=I1.moved (zu.of_below hbl) ⟨hw1.trans (hbl.mono hw1.size),hd2⟩ (fun k hk h=>by
  rcases h with h|h
  ·exact h
  ·omega) (.slice (some ⟨d,0,none⟩) f.code.length f.code.length)
 rcases Nat.lt_or_ge a f.code.length with hl|hl
 ·obtain rfl:=hl0 hl;rw[if_pos hl]at hcz;subst hcz;cases q with
  | true=>
   refine goT (T:=fun w'=>w'.heap[d]? = some (.cells (blC (dsN f.code)) 4)) [lS underlying39 (ad:=some ⟨d,0,none⟩) (n:=f.code.length) (cap:=f.code.length) (z:=f.code.length) rfl,vO 3 36 hcv,dO 38 [0,1,2,3] hbd,kC func45 hcmp,bO .geq 3 (zb5 (x:= -1) (y:=0) (b:=false) rfl),iU 39 underlying39 (sz:=1) (by kernel_rfl) (g:=d) (off:=0) (n:=f.code.length) (cap:=f.code.length) (i:=a0) hl,ldA 4 (hld d hl),uO .not (p:=.bool true) (v:=.bool false) (by intros;rfl),vO 36 3 (zch a0 (by omega))] (dJ.rs _ _ _) (fun _ h=>h.2) I2 fun β3 A3 w3 I3 hb3=>?_
   exact zp (v:=frV { f with pc:=a0 } (.slice ad n cap)) I3 ⟨by rw[if_pos rfl],I3.hJ.1⟩
  | false=>
   refine goT (T:=fun w'=>w'.heap[d]? = some (.cells (blC (dsN f.code)) 4)) [lS underlying39 (ad:=some ⟨d,0,none⟩) (n:=f.code.length) (cap:=f.code.length) (z:=f.code.length) rfl,vO 3 36 hcv,dO 38 [0,1,2,3] hbd,kC func45 hcmp,bO .geq 3 (zb5 (x:= -1) (y:=0) (b:=false) rfl),iU 39 underlying39 (sz:=1) (by kernel_rfl) (g:=d) (off:=0) (n:=f.code.length) (cap:=f.code.length) (i:=a0) hl,ldA 4 (hld d hl),uO .not (p:=.bool false) (v:=.bool true) (by intros;rfl),kC func22 hwr] (dJ.rs _ _ _) (fun _ h=>h.2) I2 fun β3 A3 w3 I3 hb3=>?_
   exact zp (v:=frV (kp f 20) (.slice ad n cap)) I3 ⟨by rw[if_neg (by decide)],I3.hJ.1⟩
 ·have hq0:=hge (by omega);subst hq0;rw[if_neg (by omega)]at hcz;have hcz2:0≤cz:=by rw[hcz];split<;>decide
  refine goQ [lS underlying39 (ad:=some ⟨d,0,none⟩) (n:=f.code.length) (cap:=f.code.length) (z:=f.code.length) rfl,vO 3 36 hcv,dO 38 [0,1,2,3] hbd,kC func45 hcmp,bO .geq 3 (zb5 (x:=cz) (y:=0) (b:=true) (decide_eq_true hcz2)),kC func22 hwr] (dJ.rs _ _ _) I2 fun β3 A3 w3 I3 hb3=>?_;exact zp (v:=frV (kp f 20) (.slice ad n cap)) I3 ⟨by rw[if_neg (by decide)],I3.hJ.1⟩
end Go.Proofs.YtceedgdbhlpjlaaGreatDoor
