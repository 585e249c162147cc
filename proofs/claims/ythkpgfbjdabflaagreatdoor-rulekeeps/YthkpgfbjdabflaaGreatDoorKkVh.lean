/- Out of Vh. -/
import Derived.Test.YthkpgfbjdabflaaGreatDoorKkVg
namespace Go.Proofs.YthkpgfbjdabflaaGreatDoor
open Go.RowKit Go.Sort Tryz
set_option linter.unusedVariables false
set_option maxRecDepth 100000
set_option maxHeartbeats 4000000
def mF (n:Nat):Nat:=if n<12 then 165+n else if n<30 then 177+(n-16)else if n=32 then 191 else if n<58 then 192+(n-53)else if n<84 then 197+(n-80)else if n<92 then 201+(n-86)else if n<128 then 135 else if n<144 then 136 else if n<160 then 137 else if n=243 then 138 else 139
def qF (i j:Nat):Fa prog (fun _=>True):=bO .eql 5 (run_eql8 (x:=i) (y:=j) (b:=decide ((i:Int)=j)) rfl)
def lF (i j:Nat):Fa prog (fun _=>True):=bO .leq 5 (run_leq8 (x:=i) (y:=j) (b:=decide ((i:Int)≤j)) rfl)
def nF (n j:Nat) (h:n≠j):Fa prog (fun _=>True):=jeF n j
def gF (n j:Nat) (h:j<n):Fa prog (fun _=>True):=jmF n j
def eF (n j:Nat) (h:n≤j):Fa prog (fun _=>True):=jmT n j
def tbs (k:Nat):List Nat:=if k=131 then List.range 12 else if k=132 then List.range' 16 14 else if k=133 then [32,53,54,55,56,57]else [80,81,82,83,86,87,88,89,90,91]
def tF (k n:Nat):List (Fa prog (fun _=>True)):=((tbs k).filter (· ≤ n)).map (qF n)
def uF (k n:Nat):List (Fa prog (fun _=>True)):=([(131,11),(132,29),(133,57),(134,91)].filter (·.1≤k)).map (fun p=>lF n p.2)
theorem tbX(k n m:Nat){F:Func}(hF:prog.funcs[k]? = some F)(h1:F.body.isSome=true:=by kernel_rfl)(h2:(rn prog (tF k n) (cfF F #[b8 n])).2.2.map (·.1)=(rn prog (tF k n) (cfF F #[b8 n])).2.2.map (·.2):=by kernel_rfl)(h3:mfX (rn prog (tF k n) (cfF F #[b8 n])).1=some (.func m,[]):=by kernel_rfl)(h4:(r0 prog (xp (rn prog (tF k n) (cfF F #[b8 n])).1 (fnV m))).2.2.map (·.1)=(r0 prog (xp (rn prog (tF k n) (cfF F #[b8 n])).1 (fnV m))).2.2.map (·.2):=by kernel_rfl)(h5:resX prog F ((r0 prog (xp (rn prog (tF k n) (cfF F #[b8 n])).1 (fnV m))).1.tm,(r0 prog (xp (rn prog (tF k n) (cfF F #[b8 n])).1 (fnV m))).1.rows,(r0 prog (xp (rn prog (tF k n) (cfF F #[b8 n])).1 (fnV m))).1.nx)=some (fnV m):=by kernel_rfl)(h6:(r0 prog (xp (rn prog (tF k n) (cfF F #[b8 n])).1 (fnV m))).1.dn=some .ret:=by kernel_rfl):∀ w,Calls prog k #[b8 n] w fun e w'=>e=.returned (fnV m)∧Below w.heap.size w w':=by
 intro w;refine inZ hF (fun a I=>?_) h1;refine goQ (tF k n) (zd w) I (fun β a w1 I1 hb=>?_) (he:=h2);refine mkfX (fn:=.func m) (ss:=[]) I1 ?_ h3;refine goZ [] (I1.same (fnV m)) (fun β2 a2 w2 I2 hb2=>?_) (he:=h4);exact ye (v:=fnV m) I2 h5 (.inl h6)
theorem opX(k n m : Nat){F : Func}(hF : prog.funcs[k]? = some F)(ht : ∀ w, Calls prog k #[b8 n] w fun e w' => e = .returned (fnV m) ∧ Below w.heap.size w w')(hB : F.body.isNone = false := by kernel_rfl)(hN : (F.name == "runtime.NumGoroutine") = false := by kernel_rfl)(h2 : (rn prog (uF k n ++ [kC hF ht hB hN]) (cfF Tryz.f106 #[b8 n])).2.2.map (·.1) = (rn prog (uF k n ++ [kC hF ht hB hN]) (cfF Tryz.f106 #[b8 n])).2.2.map (·.2) := by kernel_rfl)(h5 : resX prog Tryz.f106 ((rn prog (uF k n ++ [kC hF ht hB hN]) (cfF Tryz.f106 #[b8 n])).1.tm, (rn prog (uF k n ++ [kC hF ht hB hN]) (cfF Tryz.f106 #[b8 n])).1.rows, (rn prog (uF k n ++ [kC hF ht hB hN]) (cfF Tryz.f106 #[b8 n])).1.nx) = some (fnV m) := by kernel_rfl)(h6 : (rn prog (uF k n ++ [kC hF ht hB hN]) (cfF Tryz.f106 #[b8 n])).1.dn = some .ret := by kernel_rfl) : ∀ w, Calls prog 106 #[b8 n] w fun e w' => e = .returned (fnV m) ∧ Below w.heap.size w w' := by
 intro w;refine inZ func106 fun a I=>?_;refine goQ (uF k n++[kC hF ht hB hN]) (zd w) I (fun β a w1 I1 hb=>?_) (he:=h2);exact ye (v:=fnV m) I1 h5 (.inl h6)
theorem non_58(n:Nat)(h:n<16∨29<n):RT 132 #[b8 n] (.nilFunc):=by
 refine fun w=>inZ func132 fun a I=>?_;refine goZ [nF n 16 (by omega),nF n 17 (by omega),nF n 18 (by omega),nF n 19 (by omega),nF n 20 (by omega),nF n 21 (by omega),nF n 22 (by omega),nF n 23 (by omega),nF n 24 (by omega),nF n 25 (by omega),nF n 26 (by omega),nF n 27 (by omega),nF n 28 (by omega),nF n 29 (by omega)] I fun β a w1 I1 hb=>?_;exact ye (v:=.nilFunc) I1
theorem non_59(n:Nat)(h:n≠32∧(n<53∨57<n)):RT 133 #[b8 n] (.nilFunc):=by
 refine fun w=>inZ func133 fun a I=>?_;refine goZ [nF n 32 (by omega),nF n 53 (by omega),nF n 54 (by omega),nF n 55 (by omega),nF n 56 (by omega),nF n 57 (by omega)] I fun β a w1 I1 hb=>?_;exact ye (v:=.nilFunc) I1
theorem non_60(n:Nat)(h:n<80∨n=84∨n=85∨91<n):RT 134 #[b8 n] (.nilFunc):=by
 refine fun w=>inZ func134 fun a I=>?_;refine goZ [nF n 80 (by omega),nF n 81 (by omega),nF n 82 (by omega),nF n 83 (by omega),nF n 86 (by omega),nF n 87 (by omega),nF n 88 (by omega),nF n 89 (by omega),nF n 90 (by omega),nF n 91 (by omega)] I fun β a w1 I1 hb=>?_;exact ye (v:=.nilFunc) I1
theorem none_58(n:Nat)(h:11<n∧n<16):RT 106 #[b8 n] (.nilFunc):=by
 refine fun w=>inZ func106 fun a I=>?_;refine goZ [gF n 11 (by omega),eF n 29 (by omega),kC func132 (non_58 n (by omega))] I fun β a w1 I1 hb=>?_;exact ye (v:=.nilFunc) I1
theorem none_59(n:Nat)(h:29<n∧n<53∧n≠32):RT 106 #[b8 n] (.nilFunc):=by
 refine fun w=>inZ func106 fun a I=>?_;refine goZ [gF n 11 (by omega),gF n 29 (by omega),eF n 57 (by omega),kC func133 (non_59 n (by omega))] I fun β a w1 I1 hb=>?_;exact ye (v:=.nilFunc) I1
theorem none_60(n:Nat)(h:(57<n∧n<80)∨n=84∨n=85):RT 106 #[b8 n] (.nilFunc):=by
 refine fun w=>inZ func106 fun a I=>?_;refine goZ [gF n 11 (by omega),gF n 29 (by omega),gF n 57 (by omega),eF n 91 (by omega),kC func134 (non_60 n (by omega))] I fun β a w1 I1 hb=>?_;exact ye (v:=.nilFunc) I1
theorem ope_r0(n:Nat)(h1:95≤n)(h2:n≤127):RT 106 #[b8 n] (fnV 135):=by
 refine fun w=>inZ func106 fun a I=>?_;refine goZ [gF n 11 (by omega),gF n 29 (by omega),gF n 57 (by omega),gF n 91 (by omega),eF 95 n (by omega),eF n 127 (by omega)] I fun β a w1 I1 hb=>?_;refine mkfX (fn:=.func 135) (ss:=[]) I1 ?_;refine goZ [] (I1.same (fnV 135)) fun β2 a2 w2 I2 hb2=>?_;exact ye (v:=fnV 135) I2
theorem ope_r1(n:Nat)(h1:128≤n)(h2:n≤143):RT 106 #[b8 n] (fnV 136):=by
 refine fun w=>inZ func106 fun a I=>?_;refine goZ [gF n 11 (by omega),gF n 29 (by omega),gF n 57 (by omega),gF n 91 (by omega),eF 95 n (by omega),gF n 127 (by omega),eF 128 n (by omega),eF n 143 (by omega)] I fun β a w1 I1 hb=>?_;refine mkfX (fn:=.func 136) (ss:=[]) I1 ?_;refine goZ [] (I1.same (fnV 136)) fun β2 a2 w2 I2 hb2=>?_;exact ye (v:=fnV 136) I2
theorem ope_r2(n:Nat)(h1:144≤n)(h2:n≤159):RT 106 #[b8 n] (fnV 137):=by
 refine fun w=>inZ func106 fun a I=>?_;refine goZ [gF n 11 (by omega),gF n 29 (by omega),gF n 57 (by omega),gF n 91 (by omega),eF 95 n (by omega),gF n 127 (by omega),eF 128 n (by omega),gF n 143 (by omega),eF 144 n (by omega),eF n 159 (by omega)] I fun β a w1 I1 hb=>?_;refine mkfX (fn:=.func 137) (ss:=[]) I1 ?_;refine goZ [] (I1.same (fnV 137)) fun β2 a2 w2 I2 hb2=>?_;exact ye (v:=fnV 137) I2
theorem ope_243:RT 106 #[b8 243] (fnV 138):=by
 refine fun w=>inZ func106 fun a I=>?_;refine goZ [lF 243 11,lF 243 29,lF 243 57,lF 243 91,lF 95 243,lF 243 127,lF 128 243,lF 243 143,lF 144 243,lF 243 159,qF 243 243] I fun β a w1 I1 hb=>?_;refine mkfX (fn:=.func 138) (ss:=[]) I1 ?_;refine goZ [] (I1.same (fnV 138)) fun β2 a2 w2 I2 hb2=>?_;exact ye (v:=fnV 138) I2
theorem ope_253:RT 106 #[b8 253] (fnV 139):=by
 refine fun w=>inZ func106 fun a I=>?_;refine goZ [lF 253 11,lF 253 29,lF 253 57,lF 253 91,lF 95 253,lF 253 127,lF 128 253,lF 253 143,lF 144 253,lF 253 159,qF 253 243,qF 253 253] I fun β a w1 I1 hb=>?_;refine mkfX (fn:=.func 139) (ss:=[]) I1 ?_;refine goZ [] (I1.same (fnV 139)) fun β2 a2 w2 I2 hb2=>?_;exact ye (v:=fnV 139) I2
theorem none_lo(n:Nat)(h:91<n∧n<95):RT 106 #[b8 n] (.nilFunc):=by
 refine fun w=>inZ func106 fun a I=>?_;refine goZ [gF n 11 (by omega),gF n 29 (by omega),gF n 57 (by omega),gF n 91 (by omega),gF 95 n (by omega),gF 128 n (by omega),gF 144 n (by omega),nF n 243 (by omega),nF n 253 (by omega)] I fun β a w1 I1 hb=>?_;exact ye (v:=.nilFunc) I1
theorem none_hi(n:Nat)(h:159<n∧n≠243∧n≠253):RT 106 #[b8 n] (.nilFunc):=by
 refine fun w=>inZ func106 fun a I=>?_;refine goZ [gF n 11 (by omega),gF n 29 (by omega),gF n 57 (by omega),gF n 91 (by omega),eF 95 n (by omega),gF n 127 (by omega),eF 128 n (by omega),gF n 143 (by omega),eF 144 n (by omega),gF n 159 (by omega),nF n 243 (by omega),nF n 253 (by omega)] I fun β a w1 I1 hb=>?_;exact ye (v:=.nilFunc) I1
theorem isOp_cases{n:Nat}(h:isOp n=true):n=0∨n=1∨n=2∨n=3∨n=4∨n=5∨n=6∨n=7∨n=8∨n=9∨n=10∨n=11∨n=16∨n=17∨n=18∨n=19∨n=20∨n=21∨n=22∨n=23∨n=24∨n=25∨n=26∨n=27∨n=28∨n=29∨n=32∨n=53∨n=54∨n=55∨n=56∨n=57∨n=80∨n=81∨n=82∨n=83∨n=86∨n=87∨n=88∨n=89∨n=90∨n=91∨(95≤n∧n≤127)∨(128≤n∧n≤143)∨(144≤n∧n≤159)∨n=243∨n=253:=by
 unfold isOp at h;simp only[Bool.or_eq_true,Bool.and_eq_true,decide_eq_true_eq]at h;omega
theorem notOp_cases{n:Nat}(h:isOp n=false):(11<n∧n<16)∨(29<n∧n<53∧n≠32)∨((57<n∧n<80)∨n=84∨n=85)∨(91<n∧n<95)∨(159<n∧n≠243∧n≠253):=by
 unfold isOp at h;simp only[Bool.or_eq_false_iff,Bool.and_eq_false_iff,decide_eq_false_iff_not]at h;omega
theorem oper_none{n:Nat}(h:isOp n=false):RT 106 #[b8 n] .nilFunc:=by
 intro w;rcases notOp_cases h with h|h|h|h|h
 ·exact none_58 n h w
 ·exact none_59 n h w
 ·exact none_60 n h w
 ·exact none_lo n h w
 ·exact none_hi n h w
theorem oper_some{n:Nat}(h:isOp n=true):RT 106 #[b8 n] (fnV (mF n)):=by
 intro w;have hr:∀ lo hi fn,lo≤n→n≤hi→((lo=95∧hi=127∧fn=135)∨(lo=128∧hi=143∧fn=136)∨(lo=144∧hi=159∧fn=137))→mF n=fn:=by
  intro lo hi fn h1 h2 h3;unfold mF;rcases h3 with⟨rfl,rfl,rfl⟩|⟨rfl,rfl,rfl⟩|⟨rfl,rfl,rfl⟩<;>(repeat rw[if_neg (by omega)])<;>rw[if_pos (by omega)]
 rcases isOp_cases h with rfl|rfl|rfl|rfl|rfl|rfl|rfl|rfl|rfl|rfl|rfl|rfl|rfl|rfl|rfl|rfl|rfl|rfl|rfl|rfl|rfl|rfl|rfl|rfl|rfl|rfl|rfl|rfl|rfl|rfl|rfl|rfl|rfl|rfl|rfl|rfl|rfl|rfl|rfl|rfl|rfl|rfl|h|h|h|rfl|rfl
 ·exact(opX 131 0 165 func131 (tbX 131 0 165 func131)) w
 ·exact(opX 131 1 166 func131 (tbX 131 1 166 func131)) w
 ·exact(opX 131 2 167 func131 (tbX 131 2 167 func131)) w
 ·exact(opX 131 3 168 func131 (tbX 131 3 168 func131)) w
 ·exact(opX 131 4 169 func131 (tbX 131 4 169 func131)) w
 ·exact(opX 131 5 170 func131 (tbX 131 5 170 func131)) w
 ·exact(opX 131 6 171 func131 (tbX 131 6 171 func131)) w
 ·exact(opX 131 7 172 func131 (tbX 131 7 172 func131)) w
 ·exact(opX 131 8 173 func131 (tbX 131 8 173 func131)) w
 ·exact(opX 131 9 174 func131 (tbX 131 9 174 func131)) w
 ·exact(opX 131 10 175 func131 (tbX 131 10 175 func131)) w
 ·exact(opX 131 11 176 func131 (tbX 131 11 176 func131)) w
 ·exact(opX 132 16 177 func132 (tbX 132 16 177 func132)) w
 ·exact(opX 132 17 178 func132 (tbX 132 17 178 func132)) w
 ·exact(opX 132 18 179 func132 (tbX 132 18 179 func132)) w
 ·exact(opX 132 19 180 func132 (tbX 132 19 180 func132)) w
 ·exact(opX 132 20 181 func132 (tbX 132 20 181 func132)) w
 ·exact(opX 132 21 182 func132 (tbX 132 21 182 func132)) w
 ·exact(opX 132 22 183 func132 (tbX 132 22 183 func132)) w
 ·exact(opX 132 23 184 func132 (tbX 132 23 184 func132)) w
 ·exact(opX 132 24 185 func132 (tbX 132 24 185 func132)) w
 ·exact(opX 132 25 186 func132 (tbX 132 25 186 func132)) w
 ·exact(opX 132 26 187 func132 (tbX 132 26 187 func132)) w
 ·exact(opX 132 27 188 func132 (tbX 132 27 188 func132)) w
 ·exact(opX 132 28 189 func132 (tbX 132 28 189 func132)) w
 ·exact(opX 132 29 190 func132 (tbX 132 29 190 func132)) w
 ·exact(opX 133 32 191 func133 (tbX 133 32 191 func133)) w
 ·exact(opX 133 53 192 func133 (tbX 133 53 192 func133)) w
 ·exact(opX 133 54 193 func133 (tbX 133 54 193 func133)) w
 ·exact(opX 133 55 194 func133 (tbX 133 55 194 func133)) w
 ·exact(opX 133 56 195 func133 (tbX 133 56 195 func133)) w
 ·exact(opX 133 57 196 func133 (tbX 133 57 196 func133)) w
 ·exact(opX 134 80 197 func134 (tbX 134 80 197 func134)) w
 ·exact(opX 134 81 198 func134 (tbX 134 81 198 func134)) w
 ·exact(opX 134 82 199 func134 (tbX 134 82 199 func134)) w
 ·exact(opX 134 83 200 func134 (tbX 134 83 200 func134)) w
 ·exact(opX 134 86 201 func134 (tbX 134 86 201 func134)) w
 ·exact(opX 134 87 202 func134 (tbX 134 87 202 func134)) w
 ·exact(opX 134 88 203 func134 (tbX 134 88 203 func134)) w
 ·exact(opX 134 89 204 func134 (tbX 134 89 204 func134)) w
 ·exact(opX 134 90 205 func134 (tbX 134 90 205 func134)) w
 ·exact(opX 134 91 206 func134 (tbX 134 91 206 func134)) w
 ·rw[hr 95 127 135 h.1 h.2 (by decide)];exact ope_r0 n h.1 h.2 w
 ·rw[hr 128 143 136 h.1 h.2 (by decide)];exact ope_r1 n h.1 h.2 w
 ·rw[hr 144 159 137 h.1 h.2 (by decide)];exact ope_r2 n h.1 h.2 w
 ·exact ope_243 w
 ·exact ope_253 w
structure Rdy (op:Nat) (f:Fr):Prop where
 code:f.code.length≤65536
 inp:f.inp.length≤65536
 st:f.st.length≤256
 num:∀ u∈f.st,u<W
 mem:f.mem.length≤1000000
 pc0:1≤f.pc
 pc1:f.pc≤1000000
 gas0:0≤f.gas
 gas1:f.gas≤100000
 tk:(opP op).2.1≤f.st.length
 m1:op=32∨op=243∨op=253→tp f.st 1≤65536
 m2:op=55∨op=57→tp f.st 2≤65536∧(tp f.st 2≠0→tp f.st 0≤1000000)
 m3:op=82∨op=83∨op=86→tp f.st 0≤1000000
 m4:op=87→tp f.st 1≠0→tp f.st 0≤1000000
theorem one_of{l:List Nat}(h:1≤l.length):∃ a s,l=a::s:=by
 rcases l with _|⟨a,s⟩
 ·simp at h
 ·exact⟨a,s,rfl⟩
theorem two_of{l:List Nat}(h:2≤l.length):∃ a b s,l=a::b::s:=by
 rcases l with _|⟨a,_|⟨b,s⟩⟩
 ·simp at h
 ·simp at h
 ·exact⟨a,b,s,rfl⟩
theorem three_of{l:List Nat}(h:3≤l.length):∃ a b c s,l=a::b::c::s:=by
 rcases l with _|⟨a,_|⟨b,_|⟨c,s⟩⟩⟩
 ·simp at h
 ·simp at h
 ·simp at h
 ·exact⟨a,b,c,s,rfl⟩
theorem Mth.to{fn g:Nat}{xs:List Value}{f f1 f2:Fr}{op op':Nat}{pa pa':Int}{x:Value}(h:Mth fn g xs f op pa x f1 op' pa')(e:f1=f2):Mth fn g xs f op pa x f2 op' pa':=e ▸ h
theorem to_reck{k g:Nat}{f:Fr}{op:Nat}{pa:Int}{r:Nat}{s:List Nat}(hm:Mth k g [] f op pa TU0 { f with st:=r::s } op pa)(h0:op≠0)(h:op<32)(hr:reckV op (tp f.st 0) (tp f.st 1) (tp f.st 2)=r)(hs:f.st.drop (opP op).2.1=s):Mth k g [] f op pa TU0 (doV op f) op pa:=by
 refine hm.to ?_;unfold doV;rw[if_neg h0,if_pos h,hr,hs]
theorem do2{n k g:Nat}{r:Nat→Nat→Nat}(hm:M2 k r){f:Fr}{pa:Int}(h:Rdy n f)(h0:n≠0:=by decide)(h1:n<32:=by decide)(ht:(opP n).2.1=2:=by rfl)(hr:∀ a b c,reckV n a b c=r a b:=by intros;simp[reckV]):Mth k g [] f n pa TU0 (doV n f) n pa:=by
 obtain⟨code,inp,st,mem,pc,gas,sd,er,out⟩:=f;have hst:st.length≤256:=h.st;have hk:=h.tk;rw[ht]at hk;obtain⟨a,b,s,rfl⟩:=two_of (show 2≤st.length from hk);exact to_reck (hm rfl (h.num a (by simp)) (h.num b (by simp)) (Nat.le_trans hst (by decide))) h0 h1 (hr _ _ _) (by rw[ht];rfl)
theorem do3{n k g:Nat}{r:Nat→Nat→Nat→Nat}(hm:M3 k r){f:Fr}{pa:Int}(h:Rdy n f)(h0:n≠0:=by decide)(h1:n<32:=by decide)(ht:(opP n).2.1=3:=by rfl)(hr:∀ a b c,reckV n a b c=r a b c:=by intros;simp[reckV]):Mth k g [] f n pa TU0 (doV n f) n pa:=by
 obtain⟨code,inp,st,mem,pc,gas,sd,er,out⟩:=f;have hst:st.length≤256:=h.st;have hk:=h.tk;rw[ht]at hk;obtain⟨a,b,c,s,rfl⟩:=three_of (show 3≤st.length from hk);exact to_reck (hm rfl (h.num a (by simp)) (h.num b (by simp)) (h.num c (by simp)) (Nat.le_trans hst (by decide))) h0 h1 (hr _ _ _) (by rw[ht];rfl)
theorem dA{k g op : Nat}{f : Fr}{pa : Int}{F : Func}(hf : prog.funcs[k]? = some F)(hm : Mth k g [] f op pa TU0 (doV op f) op pa)(h1 : F.body.isNone = false := by kernel_rfl)(h2 : (F.name == "runtime.NumGoroutine") = false := by kernel_rfl) : ∃ F : Func, prog.funcs[k]? = some F ∧ F.body.isNone = false ∧ (F.name == "runtime.NumGoroutine") = false ∧ Mth k g [] f op pa TU0 (doV op f) op pa := ⟨F, hf, h1, h2, hm⟩
theorem do_0{g:Nat}{f:Fr}{pa:Int}(h:Rdy 0 f)(hpa:pa=f.pc-1):Mth 165 g [] f 0 pa TU0 (doV 0 f) 0 pa:=by
 obtain⟨code,inp,st,mem,pc,gas,sd,er,out⟩:=f;have hst:st.length≤256:=h.st;exact m_stop.to (by kernel_rfl)
theorem do_21{g:Nat}{f:Fr}{pa:Int}(h:Rdy 21 f)(hpa:pa=f.pc-1):Mth 182 g [] f 21 pa TU0 (doV 21 f) 21 pa:=by
 obtain⟨code,inp,st,mem,pc,gas,sd,er,out⟩:=f;have hst:st.length≤256:=h.st;obtain⟨a,s,rfl⟩:=one_of (show 1≤st.length from h.tk);exact to_reck (m_zero rfl (h.num a (by simp)) (Nat.le_trans hst (by decide))) (by decide) (by decide) (by simp[reckV,tp]) (by rfl)
theorem do_25{g:Nat}{f:Fr}{pa:Int}(h:Rdy 25 f)(hpa:pa=f.pc-1):Mth 186 g [] f 25 pa TU0 (doV 25 f) 25 pa:=by
 obtain⟨code,inp,st,mem,pc,gas,sd,er,out⟩:=f;have hst:st.length≤256:=h.st;obtain⟨a,s,rfl⟩:=one_of (show 1≤st.length from h.tk);exact to_reck (m_not rfl (h.num a (by simp)) (Nat.le_trans hst (by decide))) (by decide) (by decide) (by simp[reckV,tp]) (by rfl)
theorem do_32{g:Nat}{f:Fr}{pa:Int}(h:Rdy 32 f)(hpa:pa=f.pc-1):Mth 191 g [] f 32 pa TU0 (doV 32 f) 32 pa:=by
 obtain⟨code,inp,st,mem,pc,gas,sd,er,out⟩:=f;have hst:st.length≤256:=h.st;obtain⟨a,b,s,rfl⟩:=two_of (show 2≤st.length from h.tk);exact(m_kec rfl (h.num a (by simp)) (h.num b (by simp)) (Nat.le_trans hst (by decide)) h.mem (h.m1 (.inl rfl))).to (by kernel_rfl)
theorem do_53{g:Nat}{f:Fr}{pa:Int}(h:Rdy 53 f)(hpa:pa=f.pc-1):Mth 192 g [] f 53 pa TU0 (doV 53 f) 53 pa:=by
 obtain⟨code,inp,st,mem,pc,gas,sd,er,out⟩:=f;have hst:st.length≤256:=h.st;obtain⟨a,s,rfl⟩:=one_of (show 1≤st.length from h.tk);exact(m_iload rfl (h.num a (by simp)) (Nat.le_trans hst (by decide)) (Nat.le_trans h.inp (by decide))).to (by kernel_rfl)
theorem do_54{g:Nat}{f:Fr}{pa:Int}(h:Rdy 54 f)(hpa:pa=f.pc-1):Mth 193 g [] f 54 pa TU0 (doV 54 f) 54 pa:=by
 obtain⟨code,inp,st,mem,pc,gas,sd,er,out⟩:=f;have hst:st.length≤256:=h.st;exact(m_isize (Nat.le_trans h.inp (by decide)) (Nat.le_trans hst (by decide))).to (by kernel_rfl)
theorem do_55{g:Nat}{f:Fr}{pa:Int}(h:Rdy 55 f)(hpa:pa=f.pc-1):Mth 194 g [] f 55 pa TU0 (doV 55 f) 55 pa:=by
 obtain⟨code,inp,st,mem,pc,gas,sd,er,out⟩:=f;have hst:st.length≤256:=h.st;obtain⟨a,b,c,s,rfl⟩:=three_of (show 3≤st.length from h.tk);exact(m_icopy rfl (h.num a (by simp)) (h.num b (by simp)) (h.num c (by simp)) (Nat.le_trans hst (by decide)) (Nat.le_trans h.inp (by decide)) h.mem (h.m2 (.inl rfl)).1 (h.m2 (.inl rfl)).2).to (by kernel_rfl)
theorem do_56{g:Nat}{f:Fr}{pa:Int}(h:Rdy 56 f)(hpa:pa=f.pc-1):Mth 195 g [] f 56 pa TU0 (doV 56 f) 56 pa:=by
 obtain⟨code,inp,st,mem,pc,gas,sd,er,out⟩:=f;have hst:st.length≤256:=h.st;exact(m_csize (Nat.le_trans h.code (by decide)) (Nat.le_trans hst (by decide))).to (by kernel_rfl)
theorem do_57{g:Nat}{f:Fr}{pa:Int}(h:Rdy 57 f)(hpa:pa=f.pc-1):Mth 196 g [] f 57 pa TU0 (doV 57 f) 57 pa:=by
 obtain⟨code,inp,st,mem,pc,gas,sd,er,out⟩:=f;have hst:st.length≤256:=h.st;obtain⟨a,b,c,s,rfl⟩:=three_of (show 3≤st.length from h.tk);exact(m_ccopy rfl (h.num a (by simp)) (h.num b (by simp)) (h.num c (by simp)) (Nat.le_trans hst (by decide)) (Nat.le_trans h.code (by decide)) h.mem (h.m2 (.inr rfl)).1 (h.m2 (.inr rfl)).2).to (by kernel_rfl)
theorem do_80{g:Nat}{f:Fr}{pa:Int}(h:Rdy 80 f)(hpa:pa=f.pc-1):Mth 197 g [] f 80 pa TU0 (doV 80 f) 80 pa:=by
 obtain⟨code,inp,st,mem,pc,gas,sd,er,out⟩:=f;have hst:st.length≤256:=h.st;obtain⟨a,s,rfl⟩:=one_of (show 1≤st.length from h.tk);exact(m_pop rfl (h.num a (by simp)) (Nat.le_trans hst (by decide))).to (by kernel_rfl)
theorem do_81{g:Nat}{f:Fr}{pa:Int}(h:Rdy 81 f)(hpa:pa=f.pc-1):Mth 198 g [] f 81 pa TU0 (doV 81 f) 81 pa:=by
 obtain⟨code,inp,st,mem,pc,gas,sd,er,out⟩:=f;have hst:st.length≤256:=h.st;obtain⟨a,s,rfl⟩:=one_of (show 1≤st.length from h.tk);exact(m_load rfl (h.num a (by simp)) (Nat.le_trans hst (by decide)) h.mem).to (by kernel_rfl)
theorem do_82{g:Nat}{f:Fr}{pa:Int}(h:Rdy 82 f)(hpa:pa=f.pc-1):Mth 199 g [] f 82 pa TU0 (doV 82 f) 82 pa:=by
 obtain⟨code,inp,st,mem,pc,gas,sd,er,out⟩:=f;have hst:st.length≤256:=h.st;obtain⟨a,b,s,rfl⟩:=two_of (show 2≤st.length from h.tk);exact(m_store rfl (h.num a (by simp)) (h.num b (by simp)) (Nat.le_trans hst (by decide)) (h.m3 (.inl rfl)) h.mem).to (by kernel_rfl)
theorem do_83{g:Nat}{f:Fr}{pa:Int}(h:Rdy 83 f)(hpa:pa=f.pc-1):Mth 200 g [] f 83 pa TU0 (doV 83 f) 83 pa:=by
 obtain⟨code,inp,st,mem,pc,gas,sd,er,out⟩:=f;have hst:st.length≤256:=h.st;obtain⟨a,b,s,rfl⟩:=two_of (show 2≤st.length from h.tk);exact(m_store8 rfl (h.num a (by simp)) (h.num b (by simp)) (Nat.le_trans hst (by decide)) (h.m3 (.inr (.inl rfl))) h.mem).to (by kernel_rfl)
theorem do_86{g:Nat}{f:Fr}{pa:Int}(h:Rdy 86 f)(hpa:pa=f.pc-1):Mth 201 g [] f 86 pa TU0 (doV 86 f) 86 pa:=by
 obtain⟨code,inp,st,mem,pc,gas,sd,er,out⟩:=f;have hst:st.length≤256:=h.st;obtain⟨a,s,rfl⟩:=one_of (show 1≤st.length from h.tk);exact(m_jump rfl (h.num a (by simp)) (Nat.le_trans hst (by decide)) (h.m3 (.inr (.inr rfl)))).to (by kernel_rfl)
theorem do_87{g:Nat}{f:Fr}{pa:Int}(h:Rdy 87 f)(hpa:pa=f.pc-1):Mth 202 g [] f 87 pa TU0 (doV 87 f) 87 pa:=by
 obtain⟨code,inp,st,mem,pc,gas,sd,er,out⟩:=f;have hst:st.length≤256:=h.st;obtain⟨a,b,s,rfl⟩:=two_of (show 2≤st.length from h.tk);exact(m_jumpi rfl (h.num a (by simp)) (h.num b (by simp)) (Nat.le_trans hst (by decide)) (h.m4 rfl)).to (by kernel_rfl)
theorem do_88{g:Nat}{f:Fr}{pa:Int}(h:Rdy 88 f)(hpa:pa=f.pc-1):Mth 203 g [] f 88 pa TU0 (doV 88 f) 88 pa:=by
 obtain⟨code,inp,st,mem,pc,gas,sd,er,out⟩:=f;have hst:st.length≤256:=h.st;have p0:1≤pc:=h.pc0;have p1:pc≤1000000:=h.pc1;obtain⟨p,hp⟩:∃ p:Nat,pc-1=p:=⟨(pc-1).toNat,(Int.toNat_of_nonneg (by omega)).symm⟩
 have e:pa=(p:Int):=hpa.trans hp;subst e;refine(m_place (p:=p) (by omega) (Nat.le_trans hst (by decide))).to ?_;have e2:(pc-1).toNat=p:=by rw[hp];rfl
 show _=(Fr.mk code inp ((pc-1).toNat::st) mem pc gas sd er out)
 rw[e2]
theorem do_89{g:Nat}{f:Fr}{pa:Int}(h:Rdy 89 f)(hpa:pa=f.pc-1):Mth 204 g [] f 89 pa TU0 (doV 89 f) 89 pa:=by
 obtain⟨code,inp,st,mem,pc,gas,sd,er,out⟩:=f;have hst:st.length≤256:=h.st;exact(m_msize h.mem (Nat.le_trans hst (by decide))).to (by kernel_rfl)
theorem do_90{g:Nat}{f:Fr}{pa:Int}(h:Rdy 90 f)(hpa:pa=f.pc-1):Mth 205 g [] f 90 pa TU0 (doV 90 f) 90 pa:=by
 obtain⟨code,inp,st,mem,pc,gas,sd,er,out⟩:=f;have hst:st.length≤256:=h.st;exact(m_gas h.gas0 (Int.le_trans h.gas1 (by decide)) (Nat.le_trans hst (by decide))).to (by kernel_rfl)
theorem do_91{g:Nat}{f:Fr}{pa:Int}(h:Rdy 91 f)(hpa:pa=f.pc-1):Mth 206 g [] f 91 pa TU0 (doV 91 f) 91 pa:=by
 obtain⟨code,inp,st,mem,pc,gas,sd,er,out⟩:=f;have hst:st.length≤256:=h.st;exact m_dest.to (by kernel_rfl)
theorem do_243{g:Nat}{f:Fr}{pa:Int}(h:Rdy 243 f)(hpa:pa=f.pc-1):Mth 138 g [] f 243 pa TU0 (doV 243 f) 243 pa:=by
 obtain⟨code,inp,st,mem,pc,gas,sd,er,out⟩:=f;have hst:st.length≤256:=h.st;obtain⟨a,b,s,rfl⟩:=two_of (show 2≤st.length from h.tk);exact(m_out rfl (h.num a (by simp)) (h.num b (by simp)) (Nat.le_trans hst (by decide)) h.mem (h.m1 (.inr (.inl rfl)))).to (by kernel_rfl)
theorem do_253{g:Nat}{f:Fr}{pa:Int}(h:Rdy 253 f)(hpa:pa=f.pc-1):Mth 139 g [] f 253 pa TU0 (doV 253 f) 253 pa:=by
 obtain⟨code,inp,st,mem,pc,gas,sd,er,out⟩:=f;have hst:st.length≤256:=h.st;obtain⟨a,b,s,rfl⟩:=two_of (show 2≤st.length from h.tk);exact(m_back rfl (h.num a (by simp)) (h.num b (by simp)) (Nat.le_trans hst (by decide)) h.mem (h.m1 (.inr (.inr rfl)))).to (by kernel_rfl)
theorem opP_push{n:Nat}(h1:95≤n)(h2:n≤127):(opP n).2.1=0∧(opP n).2.2.1=1:=by
 have:∀ k:Fin 33,(opP (95+k.val)).2.1=0∧(opP (95+k.val)).2.2.1=1:=by decide +kernel
 have:=this ⟨n-95,by omega⟩;simpa [show 95+(n-95)=n by omega]using this
theorem opP_dup{n:Nat}(h1:128≤n)(h2:n≤143):(opP n).2.1=n-127∧(opP n).2.2.1=n-126:=by
 have:∀ k:Fin 16,(opP (128+k.val)).2.1=k.val+1∧(opP (128+k.val)).2.2.1=k.val+2:=by decide +kernel
 have:=this ⟨n-128,by omega⟩;simp only[show 128+(n-128)=n by omega]at this;omega
theorem opP_swap{n:Nat}(h1:144≤n)(h2:n≤159):(opP n).2.1=n-142∧(opP n).2.2.1=n-142:=by
 have:∀ k:Fin 16,(opP (144+k.val)).2.1=k.val+2∧(opP (144+k.val)).2.2.1=k.val+2:=by decide +kernel
 have:=this ⟨n-144,by omega⟩;simp only[show 144+(n-144)=n by omega]at this;omega
theorem do_r0{g:Nat}{f:Fr}{op:Nat}{pa:Int}(h1:95≤op)(h2:op≤127)(h:Rdy op f):Mth 135 g [] f op pa TU0 (doV op f) op pa:=by
 refine(m_push h1 (by omega) (Nat.le_trans h.code (by decide)) (Int.le_trans (by decide) h.pc0) h.pc1 (Nat.le_trans h.st (by decide))).to ?_;unfold doV
 repeat rw[if_neg (by omega)]
 rw[if_pos (by omega)]
theorem do_r1{g:Nat}{f:Fr}{op:Nat}{pa:Int}(h1:128≤op)(h2:op≤143)(h:Rdy op f):Mth 136 g [] f op pa TU0 (doV op f) op pa:=by
 have ht:=h.tk;rw[(opP_dup h1 h2).1]at ht;refine(m_dup h1 (by omega) (by omega) (Nat.le_trans h.st (by decide))).to ?_;unfold doV
 repeat rw[if_neg (by omega)]
 rw[if_pos (by omega)]
theorem do_r2{g:Nat}{f:Fr}{op:Nat}{pa:Int}(h1:144≤op)(h2:op≤159)(h:Rdy op f):Mth 137 g [] f op pa TU0 (doV op f) op pa:=by
 have ht:=h.tk;rw[(opP_swap h1 h2).1]at ht;refine(m_swap h1 (by omega) (by omega) (Nat.le_trans h.st (by decide))).to ?_;unfold doV
 repeat rw[if_neg (by omega)]
 rw[if_pos (by omega)]
theorem do_any{g : Nat}{f : Fr}{op : Nat}{pa : Int}(ho : isOp op = true)(h : Rdy op f)(hpa : pa = f.pc - 1) : ∃ F : Func, prog.funcs[mF op]? = some F ∧ F.body.isNone = false ∧ (F.name == "runtime.NumGoroutine") = false ∧ Mth (mF op) g [] f op pa TU0 (doV op f) op pa := by
 have hr:∀ lo hi fn,lo≤op→op≤hi→((lo=95∧hi=127∧fn=135)∨(lo=128∧hi=143∧fn=136)∨(lo=144∧hi=159∧fn=137))→mF op=fn:=by
  intro lo hi fn h1 h2 h3;unfold mF;rcases h3 with⟨rfl,rfl,rfl⟩|⟨rfl,rfl,rfl⟩|⟨rfl,rfl,rfl⟩<;>(repeat rw[if_neg (by omega)])<;>rw[if_pos (by omega)]
 rcases isOp_cases ho with rfl|rfl|rfl|rfl|rfl|rfl|rfl|rfl|rfl|rfl|rfl|rfl|rfl|rfl|rfl|rfl|rfl|rfl|rfl|rfl|rfl|rfl|rfl|rfl|rfl|rfl|rfl|rfl|rfl|rfl|rfl|rfl|rfl|rfl|rfl|rfl|rfl|rfl|rfl|rfl|rfl|rfl|h1|h1|h1|rfl|rfl
 ·exact dA func165 (do_0 h hpa)
 ·exact dA func166 (do2 m_add h)
 ·exact dA func167 (do2 m_mul h)
 ·exact dA func168 (do2 m_sub h)
 ·exact dA func169 (do2 m_div h)
 ·exact dA func170 (do2 m_sdiv h)
 ·exact dA func171 (do2 m_rest h)
 ·exact dA func172 (do2 m_srest h)
 ·exact dA func173 (do3 m_addm h)
 ·exact dA func174 (do3 m_mulm h)
 ·exact dA func175 (do2 m_pow h)
 ·exact dA func176 (do2 m_ext h)
 ·exact dA func177 (do2 m_less h)
 ·exact dA func178 (do2 m_more h)
 ·exact dA func179 (do2 m_sless h)
 ·exact dA func180 (do2 m_smore h)
 ·exact dA func181 (do2 m_same h)
 ·exact dA func182 (do_21 h hpa)
 ·exact dA func183 (do2 m_and h)
 ·exact dA func184 (do2 m_or h)
 ·exact dA func185 (do2 m_xor h)
 ·exact dA func186 (do_25 h hpa)
 ·exact dA func187 (do2 m_byte h)
 ·exact dA func188 (do2 m_shl h)
 ·exact dA func189 (do2 m_shr h)
 ·exact dA func190 (do2 m_sar h)
 ·exact dA func191 (do_32 h hpa)
 ·exact dA func192 (do_53 h hpa)
 ·exact dA func193 (do_54 h hpa)
 ·exact dA func194 (do_55 h hpa)
 ·exact dA func195 (do_56 h hpa)
 ·exact dA func196 (do_57 h hpa)
 ·exact dA func197 (do_80 h hpa)
 ·exact dA func198 (do_81 h hpa)
 ·exact dA func199 (do_82 h hpa)
 ·exact dA func200 (do_83 h hpa)
 ·exact dA func201 (do_86 h hpa)
 ·exact dA func202 (do_87 h hpa)
 ·exact dA func203 (do_88 h hpa)
 ·exact dA func204 (do_89 h hpa)
 ·exact dA func205 (do_90 h hpa)
 ·exact dA func206 (do_91 h hpa)
 ·rw[hr 95 127 135 h1.1 h1.2 (by decide)];exact⟨_,func135,by kernel_rfl,by kernel_rfl,do_r0 h1.1 h1.2 h⟩
 ·rw[hr 128 143 136 h1.1 h1.2 (by decide)];exact⟨_,func136,by kernel_rfl,by kernel_rfl,do_r1 h1.1 h1.2 h⟩
 ·rw[hr 144 159 137 h1.1 h1.2 (by decide)];exact⟨_,func137,by kernel_rfl,by kernel_rfl,do_r2 h1.1 h1.2 h⟩
 ·exact dA func138 (do_243 h hpa)
 ·exact dA func139 (do_253 h hpa)
end Go.Proofs.YthkpgfbjdabflaaGreatDoor
