import Derived.Test.YtfhppenjbmmadaaGreatDoorXwM42
import Derived.Test.YtfhppenjbmmadaaGreatDoorXwM41
namespace Go.Proofs.YtfhppenjbmmadaaGreatDoor
set_option linter.unusedVariables false
set_option maxHeartbeats 8000000
section
open Go.RowKit Go.Sort
abbrev tB (s:ByteArray) (d i:Nat):ByteArray:=strN d++s++strOfNums [(i:Int)]
def kBl:Decidable (∀ n:Nat,n=n):=Eq.mpr (congrArg Decidable (propext ⟨fun _=>trivial,fun _ _=>rfl⟩)) (.isTrue trivial)
def kHd (x:Nat):Nat:=@ite Nat (∀ n:Nat,n=n) kBl x 0
theorem kHd_eq(x:Nat):kHd x=x:=@if_pos _ kBl (fun _=>rfl) _ _ _
def kT (s:ByteArray) (d i:Nat):Nat:=kHd (nD (told (spg (blks (tB s d i))))%On)
theorem kT_eq(s:ByteArray)(d i:Nat):kT s d i=nD (told (spg (blks (tB s d i))))%On:=kHd_eq _
theorem kT_lt(s:ByteArray)(d i:Nat):kT s d i<On:=by rw[kT_eq];exact Nat.mod_lt _ On0
theorem kT_W(s:ByteArray)(d i:Nat):kT s d i<W:=by rw[kT_eq];exact mod_W _
theorem one_size(x:Int):(strOfNums [x]).size=1:=by rw[strOfNums_size];rfl
theorem secret_any(s:ByteArray)(hs:s.size=32)(d i:Nat):DoesT 74 #[.string s,U d,.int .u8 (i:Int)] (U (kT s d i)):=by
 have h1:(strN d).size+s.size≤9223372036854775807:=by rw[strN_size,hs];decide
 have h2:(strN d).size+s.size+(strOfNums [(i:Int)]).size≤9223372036854775807:=by rw[strN_size,hs,one_size];decide
 have hS:DoesT 110 #[.string (tB s d i)] (.string (told (spg (blks (tB s d i))))):=fun w ht=>sum_any _ w ht
 rw[kT_eq]
 exact fun w ht=>secret_raw s (strN d) _ d _ _ i h1 h2 (fun w=>bytes_any d w) hS (fun w=>read_any _ (by rw[told_size];decide) w) (byOrder_any _ (nD_W _ (told_size _))) w ht
theorem lowS_W(s:Nat)(h:s<On):lowS s<W:=by
 unfold lowS
 split
 ·exact Nat.lt_trans h On_W
 ·exact neg_W _
section
variable [NeZero Pp]
def pT (s:ByteArray) (d i:Nat):Pt:=mulP (kT s d i) Gp'
def sT (s:ByteArray) (d i:Nat):Nat:=shN (nD s) d (kT s d i) (pX (pT s d i))
theorem sT_lt(s:ByteArray)(d i:Nat):sT s d i<On:=Nat.mod_lt _ On0
def gB (s:ByteArray) (d i:Nat):Bool:= !decide (kT s d i=0)&&fitB (pX (pT s d i)) && !decide (sT s d i=0)
def fstI (s:ByteArray) (d:Nat):Option Nat:=(List.range 256).find? (gB s d)
def oT (s:ByteArray) (d i:Nat):Bool:=decide (pY (pT s d i)%2=1)
def mR (s:ByteArray) (d:Nat):Nat:=match fstI s d with | some i=>pX (pT s d i) | none=>0
def mS (s:ByteArray) (d:Nat):Nat:=match fstI s d with | some i=>lowS (sT s d i) | none=>0
def mO (s:ByteArray) (d:Nat):Bool:=match fstI s d with | some i=>lowO (sT s d i) (oT s d i) | none=>false
def mE (s:ByteArray) (d:Nat):Int:=match fstI s d with | some _=>0 | none=>4
theorem first_any(s:ByteArray)(hs:s.size=32)(d:Nat)(hd:d<W)(b:Nat)(w:World)(ht:Tabs w ki)(h1:HRw w b #[.string s])(h2:HRw w (b+1) (Ar d)) :
  Calls Tryz.prog 32 #[U (nD s),U d,FT b] w fun e w'=>e=.returned (.tuple #[A9 (mR s d) (mS s d) (mO s d),.int .i64 (mE s d)])∧RowKit.Below w.heap.size w w':=by
 have hM:∀ i,i<256→Ds 75 #[U (kT s d i),A9 Gx Gy false] (A9 (pX (pT s d i)) (pY (pT s d i)) (pN (pT s d i))):=fun i _=>by
  have h:=cmul_any G_on (kT s d i) (kT_W s d i)
  rw[vG,vP_eq] at h
  exact h
 have he:=nD_W s hs
 refine (first_raw (nD s) d b (b+1) (kT s d) (fun i=>pX (pT s d i)) (fun i=>pY (pT s d i)) (sT s d) (fun i=>pX (pT s d i)) (fun i=>lowS (sT s d i)) (fun i=>pN (pT s d i)) (fun i=>decide (kT s d i=0)) (fun i=>fitB (pX (pT s d i))) (fun i=>decide (sT s d i=0)) (oT s d) (fun i=>lowO (sT s d i) (oT s d i)) w
  (fun w' hb=>tries_seq 5 (by decide) b (b+1) s d Gx Gy false _ _ _ _ (fun i _=>secret_any s hs d i) base_any hM w' w hb ht h1 h2)
  (fun i _=>share_any _ _ _ _ he hd (kT_W s d i) (pX_lt _)) (fun i _ w=>by rw[run_eqU _ _ (kT_W s d i) zero_lt_W]) (fun i _=>inside_any _ (pX_lt _)) (fun i _ w=>by rw[run_eqU _ _ (Nat.lt_trans (sT_lt s d i) On_W) zero_lt_W]) (fun i _=>sodd_any _) (fun i _=>lowered_any _ _ _ (sT_lt s d i))).mono ?_
 rintro e w' ⟨h,hb⟩
 refine ⟨?_,hb⟩
 rcases h with ⟨i,hi,hg,hl,rfl⟩ | ⟨hl,rfl⟩
 ·have hf:fstI s d=some i:=by
   unfold fstI
   rw[List.find?_range_eq_some]
   exact ⟨hg,List.mem_range.2 hi,fun j hj=>by have:=hl j hj;unfold gB;rw[this];rfl⟩
  unfold mR mS mO mE
  rw[hf]
 ·have hf:fstI s d=none:=by
   unfold fstI
   rw[List.find?_range_eq_none]
   exact fun j hj=>by have:=hl j hj;unfold gB;rw[this];rfl
  unfold mR mS mO mE
  rw[hf]
def mkE (s:ByteArray) (d:Nat):Int:=if s.size=32 then (if fitB d=true then mE s d else 5) else 2
def mkR (s:ByteArray) (d:Nat):Nat:=if s.size=32 then (if fitB d=true then mR s d else 0) else 0
def mkS (s:ByteArray) (d:Nat):Nat:=if s.size=32 then (if fitB d=true then mS s d else 0) else 0
def mkO (s:ByteArray) (d:Nat):Bool:=if s.size=32 then (if fitB d=true then mO s d else false) else false
theorem make_any(s:ByteArray)(d:Nat)(hd:d<W):DoesT 9 #[.string s,U d] (.tuple #[A9 (mkR s d) (mkS s d) (mkO s d),.int .i64 (mkE s d)]):=by
 unfold mkR mkS mkO mkE
 have hF:=fit_any d hd
 by_cases h1:s.size=32
 ·rw[if_pos h1,if_pos h1,if_pos h1,if_pos h1]
  cases h2:fitB d with
  | false=>
   rw[h2] at hF
   exact fun w ht=>make_key s d (nD s) (snum_any s h1) hF w ht
  | true=>
   rw[h2] at hF
   exact fun w ht=>make_raw s d (nD s) _ _ _ _ (snum_any s h1) hF (first_any s h1 d hd) w ht
 ·rw[if_neg h1,if_neg h1,if_neg h1,if_neg h1]
  exact fun w ht=>make_form s d (snum_err s h1) w ht
theorem mkR_W(s:ByteArray)(d:Nat):mkR s d<W:=by
 unfold mkR mR
 repeat' split
 all_goals first | exact pX_lt _ | exact zero_lt_W
theorem mkS_W(s:ByteArray)(d:Nat):mkS s d<W:=by
 unfold mkS mS
 repeat' split
 all_goals first | exact lowS_W _ (sT_lt _ _ _) | exact zero_lt_W
theorem liP_of{x y:Fin Pp}(h:y*y=x*x*x+7):isR x.val=true∧liP x.val (decide (y.val%2=1))=some (x,y):=by
 obtain ⟨h1,h2⟩:=lift_back h
 refine ⟨h1,?_⟩
 have h3:liftY x.val (decide (y.val%2=1))=(liftF x (decide (y.val%2=1))).val:=by unfold liftY;rw[if_pos h1,dif_pos x.isLt]
 generalize liftF x (decide (y.val%2=1))=z at h2 h3
 subst h2
 unfold liP
 rw[h3,cf_val,cf_val]
theorem odd_not{y:Fin Pp}(hy:y≠0):decide ((- y).val%2=1) = !decide (y.val%2=1):=by
 rw[odd_neg hy]
 rcases Nat.mod_two_eq_zero_or_one y.val with h | h<;>rw[h]<;>rfl
theorem sealed[NeZero On]{s:ByteArray}{d i:Nat}(hg:gB s d i=true):sfitB (pX (pT s d i)) (lowS (sT s d i))=true∧isR (pX (pT s d i))=true ∧
  recP (liP (pX (pT s d i)) (lowO (sT s d i) (oT s d i))) (pX (pT s d i)) (lowS (sT s d i)) (nD s)=mulP d Gp':=by
 unfold gB at hg
 simp only[Bool.and_eq_true,Bool.not_eq_true',decide_eq_false_iff_not] at hg
 obtain ⟨⟨hk,hf⟩,hs⟩:=hg
 have hkl:=kT_lt s d i
 have hsl:=sT_lt s d i
 have hon:onP (pT s d i):=mulP_on G_on _
 have hfk:fitB (kT s d i)=true:=fit_of (by omega) hkl
 have hnn:pT s d i≠none:=mul_nn hfk
 have hks:=co_iv (co_fit hfk)
 have hrz:=co_fit hf
 have hS:co (sT s d i)*co (kT s d i)=co (nD s)+co (pX (pT s d i))*co d:=by
  unfold sT shN
  rw[co_mod,co_mul,co_mod,co_add,co_mod,co_mul]
  generalize co (ivN (kT s d i))=a at *
  generalize co (kT s d i)=b at *
  grind
 unfold oT lowS lowO
 have hT:pT s d i=mulP (kT s d i) Gp':=rfl
 generalize sT s d i=q at *
 generalize pT s d i=P at *
 generalize kT s d i=k at *
 cases P with
 | none=>exact absurd rfl hnn
 | some p=>
  obtain ⟨x,y⟩:=p
  have hy:y*y=x*x*x+7:=hon
  have hynz:=y_nz fc hy
  obtain ⟨h1,h2⟩:=liP_of hy
  have hx:pX (some (x,y))=x.val:=rfl
  have hyv:pY (some (x,y))=y.val:=rfl
  rw[hx] at hf hrz hS
  rw[hx,hyv]
  by_cases hq:q≤hO
  ·rw[if_pos hq,if_pos hq]
   refine ⟨?_,h1,?_⟩
   ·unfold sfitB
    rw[hf,fit_of (by omega) hsl,decide_eq_true hq]
    rfl
   ·rw[h2,hT]
    exact recP_key hrz hS
  ·rw[if_neg hq,if_neg hq]
   have hO2:=On_hO
   refine ⟨?_,h1,?_⟩
   ·unfold sfitB
    rw[hf,fit_of (show 0<On-q by omega) (by omega),decide_eq_true (show On-q≤hO by omega)]
    rfl
   ·have hy2 : - y * - y=x*x*x+7:=by rw[← hy];grind
    have h3:=(liP_of hy2).2
    rw[odd_not hynz] at h3
    have h4:some (x,- y)=mulP (On-k) Gp':=by
     rw[← mulP_cancel G_on nG (Nat.le_of_lt hkl),← hT]
     rfl
    rw[h3,h4]
    refine recP_key hrz ?_
    rw[co_neg (Nat.le_of_lt hsl),co_neg (Nat.le_of_lt hkl)]
    grind
theorem back_any[NeZero On]{s:ByteArray}{d:Nat}(h:mkE s d=0):sfitB (mkR s d) (mkS s d)=true∧reE s (mkR s d) (mkS s d) (mkO s d)=0∧reX s (mkR s d) (mkS s d) (mkO s d)=pX (mulP d Gp')∧reY s (mkR s d) (mkS s d) (mkO s d)=pY (mulP d Gp')∧s.size=32∧fitB d=true:=by
 unfold mkE at h
 by_cases h1:s.size=32
 ·rw[if_pos h1] at h
  cases h2:fitB d with
  | false=>rw[h2,if_neg (by simp)] at h;exact absurd h (by decide)
  | true=>
   rw[h2,if_pos rfl] at h
   unfold mkR mkS mkO
   rw[if_pos h1,if_pos h1,if_pos h1,h2,if_pos rfl,if_pos rfl,if_pos rfl]
   unfold mE at h
   cases hf:fstI s d with
   | none=>rw[hf] at h;exact absurd h (by decide)
   | some i=>
    have hg:gB s d i=true:=List.find?_some hf
    obtain ⟨k1,k2,k3⟩:=sealed hg
    unfold mR mS mO
    rw[hf]
    simp only[]
    have hn:=pN_false (mul_nn h2)
    have hE:reE s (pX (pT s d i)) (lowS (sT s d i)) (lowO (sT s d i) (oT s d i))=0:=by
     unfold reE
     rw[if_pos h1,if_pos k1,if_pos k2,k3,hn]
     rfl
    refine ⟨k1,hE,?_,?_,h1,trivial⟩
    ·unfold reX
     rw[if_pos hE,k3]
    ·unfold reY
     rw[if_pos hE,k3]
 ·rw[if_neg h1] at h
  exact absurd h (by decide)
end
end
section
open Go.RowKit Go.Sort
def zD:ByteArray:=strOfNums (List.replicate 32 0)
theorem zD_size:zD.size=32:=by unfold zD;rw[strOfNums_size];rfl
theorem z_bytes:tB zD 1 0=zB:=by kernel_rfl
theorem z_num:nD zD=0:=by kernel_rfl
def k0:Nat:=111594542125744662995515847773901948781774209346110323578706790219863918233192
def x0:Nat:=70972539639706075865740615119464760892133899796396059878886706454591731338046
def y0:Nat:=2651542274534411066330276071202798178743440947915376884005876472823526726791
theorem k0_num:nD zS%On=k0:=by kernel_rfl
theorem k0_lt:k0<2^256:=by decide +kernel
theorem x0_lt:x0<Pp:=by decide +kernel
theorem x0_fit:fitB x0=true:=by decide +kernel
theorem k0_mul:(mulK 256 k0 fun x y z=>Nat.beq (x0*z%Pp) x&&(Nat.beq (y0*z%Pp) y && !(Nat.beq (z%Pp) 0)))=true:=by decide +kernel
theorem z_k:kT zD 1 0=k0:=by rw[kT_eq,z_bytes,z_sum,k0_num]
theorem k0_nz:¬ k0=0:=by decide +kernel
theorem find_head{p:Nat→Bool}(h:p 0=true):(List.range 256).find? p=some 0:=by
 rw[List.find?_range_eq_some]
 exact ⟨h,List.mem_range.2 (by decide),fun j hj=>absurd hj (Nat.not_lt_zero j)⟩
section
variable [NeZero Pp]
theorem k0_pt:mulP k0 Gp'=some (cf x0,cf y0):=by
 obtain ⟨X,Y,Z,hk,_,_,e⟩:=mulK_eq 256 k0 k0_lt
 have h:=k0_mul
 rw[hk] at h
 rw[Bool.and_eq_true,Bool.and_eq_true] at h
 obtain ⟨g1,g2,g3⟩:=h
 have k1:=Nat.eq_of_beq_eq_true g1
 have k2:=Nat.eq_of_beq_eq_true g2
 have k3:cf Z≠0:=by
  intro e0
  have:=Nat.mod_eq_zero_of_dvd (cf_dvd e0)
  rw[this] at g3
  cases g3
 rw[← e]
 exact nrm_eq k3 (by rw[← k1,cf_mod,cf_mul]) (by rw[← k2,cf_mod,cf_mul])
theorem z_x:pX (pT zD 1 0)=x0:=by
 unfold pT
 rw[z_k,k0_pt]
 show (cf x0).val=x0
 rw[val_cf x0_lt]
theorem z_good[NeZero On]:gB zD 1 0=true:=by
 have hf:fitB (kT zD 1 0)=true:=fit_of (by rw[z_k];exact Nat.pos_of_ne_zero k0_nz) (kT_lt _ _ _)
 have hk:=co_iv (co_fit hf)
 have hs:¬ sT zD 1 0=0:=by
  intro h0
  have h1:co (sT zD 1 0)=0:=by rw[h0,co_zero]
  unfold sT shN at h1
  rw[co_mod,co_mul,co_mod,co_add,co_mod,co_mul,z_num,co_zero,co_one,z_x] at h1
  have h2:=co_fit x0_fit
  generalize co x0=r at h1 h2
  generalize co (kT zD 1 0)=a at hk
  generalize co (ivN (kT zD 1 0))=b at hk h1
  apply h2
  grind
 unfold gB
 rw[z_x,x0_fit,z_k,decide_eq_false k0_nz,decide_eq_false hs]
 rfl
theorem z_made[NeZero On]:mkE zD 1=0:=by
 have hf:fstI zD 1=some 0:=find_head z_good
 unfold mkE
 rw[if_pos zD_size,if_pos fit_1]
 unfold mE
 rw[hf]
end
end
section
open Go.RowKit Go.Sort
set_option maxRecDepth 100000
theorem convz{w:World}{b:Nat}(h:HRw w b z32):(convert 61 9 (.slice (some ⟨b,0,none⟩) 32 32)).run Tryz.prog w=.ok (.string zD) w:=by
 refine run_convert_bytes_arg _ 61 5 Tryz.underlying61 Tryz.underlying5 _ 0 32 32 (List.replicate 32 0) (by simp) (fun i hi=>?_) 9 Tryz.underlying9
 rw[Nat.zero_add,HRw.cell h i]
 iterate 32 (rcases i with _ | i; · rfl)
 omega
abbrev U1:Value:=.agg #[.int .u64 1,.int .u64 0,.int .u64 0,.int .u64 0]
theorem awake_raw(x y:Nat)(n:Bool)(av:ByteArray)(ev:Int)(hM:DoesT 9 #[.string zD,U1] (.tuple #[A9 x y n,.int .i64 0]))(hW:DoesT 18 #[.string zD,A9 x y n] (.tuple #[.string av,.int .i64 0]))(hR:Ds 29 #[U1] (.tuple #[.string av,.int .i64 ev]))(w:World)(ht:Tabs w ki):Calls Tryz.prog 8 #[] w fun e w'=>e=.returned (.bool true)∧RowKit.Below w.heap.size w w':=by
 have HT:Hid (Tabs w ki):=ht
 clear ht
 have hmk:=make32 w
 go_enter Tryz.func8,Tryz.ntmps8
 have hcv:=convz (w:=w.alloc (.cells z32 5)) (b:=w.heap.size) (HRw.last rfl)
 go_upto_region 2 with fail
 clear hcv hmk
 rename_i K hK
 refine name_world _ ?_
 intro w1 hw1
 have B1:RowKit.Below w.heap.size w w1:=by rw[hw1];exact bAl (RowKit.Below.refl _ _) _
 clear hw1
 have hT:∀ w',RowKit.Below w.heap.size w w'→Tabs w' ki:=fun w' hb=>HT.out.below hb
 refine roS (T:=fun w=>Tabs w ki) (Lg.plain (by kernel_rfl)) [(2,[nO,dO 24 [0] (xs:=[.int .u64 1]) (bd24_0i _),cA Tryz.func9 hM.out])] (inv_of (w0:=w) (w:=w1) (tm:=[V (.bool false),V (.string zD),none,none,none,none,none,none,V (.slice (some ⟨w.heap.size,0,none⟩) 32 32),V (.string zD),none,none,none,none,none,none,none,none,none,none,none,none,none,none,none,none,none,none,none,none,none,none,none,none,none,none,none,none]) [] (by kernel_rfl) B1 trivial (by simp) (by simp)) hT .normal ([V (.bool false),V (.string zD),R 6,V (.int .i64 0),none,none,none,none,V (.slice (some ⟨w.heap.size,0,none⟩) 32 32),V (.string zD),V (.tuple #[A9 x y n,.int .i64 0]),V (.string zD),V (U1),V (.tuple #[A9 x y n,.int .i64 0]),V (A9 x y n),V (.int .i64 0),none,none,none,none,none,none,none,none,none,none,none,none,none,none,none,none,none,none,none,none,none,none],[(6,P9 x y n)],9) (fun β' a' w' I'=>hK _ _ ?_)
 exact roE (T:=fun w=>Tabs w ki) [(3,[nO,nO,cA Tryz.func18 hW.out]),(4,[dO 24 [0] (xs:=[.int .u64 1]) (bd24_0i _),kC Tryz.func29 hR.out]),(5,[nO,bO .eql 28 (p:=.int .i64 0) (q:=.int .i64 0) (v:=.bool true) (by intros;simp[go_sem]),nO,nO,bO .eql 28 (p:=.int .i64 0) (q:=.int .i64 0) (v:=.bool true) (by intros;simp[go_sem]),nO,nO,nO,nO,bO .eql 9 (p:=.string av) (q:=.string av) (v:=.bool true) (by intros;simp[go_sem])])] I' hT rfl
theorem U1_eq:U 1=U1:=U_small 1 (by decide)
section
variable [NeZero Pp] [NeZero On]
theorem awake_any:DoesT 8 #[] (.bool true):=by
 have h0:=z_made
 obtain ⟨h1,h2,h3,h4,_,_⟩:=back_any h0
 have hM:=make_any zD 1 W1
 have hW:=swho_any zD (mkR zD 1) (mkS zD 1) (mkO zD 1) (mkR_W _ _) (mkS_W _ _)
 have hR:=rwho_any 1 W1
 have hA:whoT zD (mkR zD 1) (mkS zD 1) (mkO zD 1)=whoS 1:=by
  unfold whoT whoS
  rw[if_pos h2,if_pos fit_1,h3,h4,pN_false (mul_nn fit_1)]
 rw[h0,U1_eq] at hM
 rw[h2,hA] at hW
 rw[U1_eq] at hR
 exact fun w ht=>awake_raw _ _ _ _ _ hM hW hR w ht
end
end
end Go.Proofs.YtfhppenjbmmadaaGreatDoor
