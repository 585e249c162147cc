/- Laid one behind the other: Ke, Kf. -/
import Derived.Test.YtceedgdbhlpjlaaGreatDoorKqKb
namespace Go.Proofs.YtceedgdbhlpjlaaGreatDoor
open Go.RowKit Go.Sort Tryz
set_option linter.unusedVariables false
set_option maxRecDepth 100000
set_option maxHeartbeats 4000000
abbrev RfR:Type:=Nat×OpR
def rfV (r:RfR):List Value:=b8 r.1::rwV r.2
def rfL:List RfR:=[(0,[83,84,79,80],0,0,0),(1,[65,68,68],2,1,3),(2,[77,85,76],2,1,5),(3,[83,85,66],2,1,3),(4,[68,73,86],2,1,5),(5,[83,68,73,86],2,1,5),(6,[77,79,68],2,1,5),(7,[83,77,79,68],2,1,5),(8,[65,68,68,77,79,68],3,1,8),(9,[77,85,76,77,79,68],3,1,8),(10,[69,88,80],2,1,10),(11,[83,73,71,78,69,88,84,69,78,68],2,1,5),(16,[76,84],2,1,3),(17,[71,84],2,1,3),(18,[83,76,84],2,1,3),(19,[83,71,84],2,1,3),(20,[69,81],2,1,3),(21,[73,83,90,69,82,79],1,1,3),(22,[65,78,68],2,1,3),(23,[79,82],2,1,3),(24,[88,79,82],2,1,3),(25,[78,79,84],1,1,3),(26,[66,89,84,69],2,1,3),(27,[83,72,76],2,1,3),(28,[83,72,82],2,1,3),(29,[83,65,82],2,1,3),(32,[75,69,67,67,65,75,50,53,54],2,1,30),(53,[67,65,76,76,68,65,84,65,76,79,65,68],1,1,3),(54,[67,65,76,76,68,65,84,65,83,73,90,69],0,1,2),(55,[67,65,76,76,68,65,84,65,67,79,80,89],3,0,3),(56,[67,79,68,69,83,73,90,69],0,1,2),(57,[67,79,68,69,67,79,80,89],3,0,3),(80,[80,79,80],1,0,2),(81,[77,76,79,65,68],1,1,3),(82,[77,83,84,79,82,69],2,0,3),(83,[77,83,84,79,82,69,56],2,0,3),(86,[74,85,77,80],1,0,8),(87,[74,85,77,80,73],2,0,10),(88,[80,67],0,1,2),(89,[77,83,73,90,69],0,1,2),(90,[71,65,83],0,1,2),(91,[74,85,77,80,68,69,83,84],0,0,1),(243,[82,69,84,85,82,78],2,0,0),(253,[82,69,86,69,82,84],2,0,0),(254,[73,78,86,65,76,73,68],0,0,0),(95,[80,85,83,72,48],0,1,2)]
theorem xw(n:Nat)(s:List UInt8)(t l g:Nat)(w:World):(Instr.build 58 (([0,1,2,3,4]:List Nat).zip (rfV (n,s,t,l,g))).toArray).run prog w=.ok (.agg (rfV (n,s,t,l,g)).toArray) w:=by kernel_rfl
theorem bd58_(w:World):(Instr.build 58 (([]:List Nat).zip []).toArray).run prog w=.ok (.agg (rfV (0,opD)).toArray) w:=by kernel_rfl
def ssL:List (Nat×SV):=((List.range 46).zip rfL).map fun p=>(p.1,Sum.inl (Value.agg (rfV p.2).toArray))
theorem bs46(β:Nat→Nat)(w:World):(Instr.buildSlice 84 46 (ssL.map fun p=>(p.1,up β p.2)).toArray).run prog w=.ok (.slice (some ⟨w.heap.size,0,none⟩) 46 46) (w.alloc (.cells (rfL.flatMap rfV).toArray 58)):=by kernel_rfl
theorem rows_any(w:World):Calls prog 55 #[] w fun e w'=>∃ b,e=.returned (.slice (some ⟨b,0,none⟩) 46 46)∧w.heap.size≤b∧w'.heap[b]? = some (.cells (rfL.flatMap rfV).toArray 58)∧Below w.heap.size w w':=by
 refine inZ func55 fun a I=>?_
 refine goZ [dO 58 [0,1,2,3,4] (xw 0 [83,84,79,80] 0 0 0),dO 58 [0,1,2,3,4] (xw 1 [65,68,68] 2 1 3),dO 58 [0,1,2,3,4] (xw 2 [77,85,76] 2 1 5),dO 58 [0,1,2,3,4] (xw 3 [83,85,66] 2 1 3),dO 58 [0,1,2,3,4] (xw 4 [68,73,86] 2 1 5),dO 58 [0,1,2,3,4] (xw 5 [83,68,73,86] 2 1 5),dO 58 [0,1,2,3,4] (xw 6 [77,79,68] 2 1 5),dO 58 [0,1,2,3,4] (xw 7 [83,77,79,68] 2 1 5),dO 58 [0,1,2,3,4] (xw 8 [65,68,68,77,79,68] 3 1 8),dO 58 [0,1,2,3,4] (xw 9 [77,85,76,77,79,68] 3 1 8),dO 58 [0,1,2,3,4] (xw 10 [69,88,80] 2 1 10),dO 58 [0,1,2,3,4] (xw 11 [83,73,71,78,69,88,84,69,78,68] 2 1 5),dO 58 [0,1,2,3,4] (xw 16 [76,84] 2 1 3),dO 58 [0,1,2,3,4] (xw 17 [71,84] 2 1 3),dO 58 [0,1,2,3,4] (xw 18 [83,76,84] 2 1 3),dO 58 [0,1,2,3,4] (xw 19 [83,71,84] 2 1 3),dO 58 [0,1,2,3,4] (xw 20 [69,81] 2 1 3),dO 58 [0,1,2,3,4] (xw 21 [73,83,90,69,82,79] 1 1 3),dO 58 [0,1,2,3,4] (xw 22 [65,78,68] 2 1 3),dO 58 [0,1,2,3,4] (xw 23 [79,82] 2 1 3),dO 58 [0,1,2,3,4] (xw 24 [88,79,82] 2 1 3),dO 58 [0,1,2,3,4] (xw 25 [78,79,84] 1 1 3),dO 58 [0,1,2,3,4] (xw 26 [66,89,84,69] 2 1 3),dO 58 [0,1,2,3,4] (xw 27 [83,72,76] 2 1 3),dO 58 [0,1,2,3,4] (xw 28 [83,72,82] 2 1 3),dO 58 [0,1,2,3,4] (xw 29 [83,65,82] 2 1 3),dO 58 [0,1,2,3,4] (xw 32 [75,69,67,67,65,75,50,53,54] 2 1 30),dO 58 [0,1,2,3,4] (xw 53 [67,65,76,76,68,65,84,65,76,79,65,68] 1 1 3),dO 58 [0,1,2,3,4] (xw 54 [67,65,76,76,68,65,84,65,83,73,90,69] 0 1 2),dO 58 [0,1,2,3,4] (xw 55 [67,65,76,76,68,65,84,65,67,79,80,89] 3 0 3),dO 58 [0,1,2,3,4] (xw 56 [67,79,68,69,83,73,90,69] 0 1 2),dO 58 [0,1,2,3,4] (xw 57 [67,79,68,69,67,79,80,89] 3 0 3),dO 58 [0,1,2,3,4] (xw 80 [80,79,80] 1 0 2),dO 58 [0,1,2,3,4] (xw 81 [77,76,79,65,68] 1 1 3),dO 58 [0,1,2,3,4] (xw 82 [77,83,84,79,82,69] 2 0 3),dO 58 [0,1,2,3,4] (xw 83 [77,83,84,79,82,69,56] 2 0 3),dO 58 [0,1,2,3,4] (xw 86 [74,85,77,80] 1 0 8),dO 58 [0,1,2,3,4] (xw 87 [74,85,77,80,73] 2 0 10),dO 58 [0,1,2,3,4] (xw 88 [80,67] 0 1 2),dO 58 [0,1,2,3,4] (xw 89 [77,83,73,90,69] 0 1 2),dO 58 [0,1,2,3,4] (xw 90 [71,65,83] 0 1 2),dO 58 [0,1,2,3,4] (xw 91 [74,85,77,80,68,69,83,84] 0 0 1),dO 58 [0,1,2,3,4] (xw 243 [82,69,84,85,82,78] 2 0 0),dO 58 [0,1,2,3,4] (xw 253 [82,69,86,69,82,84] 2 0 0),dO 58 [0,1,2,3,4] (xw 254 [73,78,86,65,76,73,68] 0 0 0),dO 58 [0,1,2,3,4] (xw 95 [80,85,83,72,48] 0 1 2)] I fun β a w1 I hb=>?_
 refine bslQ (t:=84) (n:=46) (ss:=ssL) I (bs46 β w1) ?_;have I2:=I.lay (zq w) (.cells (rfL.flatMap rfV).toArray 58) (.slice (some ⟨w1.heap.size,0,none⟩) 46 46);have hs:=I.hJ.size;have R:=(zq w).lay w1.heap.size (.cells (rfL.flatMap rfV).toArray 58);generalize w1.heap.size=b,w1.alloc (.cells (rfL.flatMap rfV).toArray 58)=w2 at *;refine goQ [] R I2 fun β3 a3 w3 I hb=>?_;exact zp (v:=.slice (some ⟨b,0,none⟩) 46 46) I ⟨b,rfl,hs,I.hJ.2,I.hJ.1⟩
abbrev dgK:List Nat:=[0,2,3]
abbrev dgW (m:Nat) (s:List UInt8):Vs:=frm 23 [(0,Sum.inl (Z m)),(2,Sum.inl (str [])),(3,Sum.inl (str s))]
theorem run_quoZ{x y z:Int}(hy:y≠0)(h:IntKind.i64.wrap (x.tdiv y)=z)(o1 o2:Operand)(w:World):(do eqGuard .quo 3 o1 o2 (Z x) (Z y);binOp .quo 3 (Z x) (Z y):Sem Value).run prog w=.ok (Z z) w:=by simp[go_sem,h,hy]
theorem u8n(n:Nat)(h:n<256):b8 n=.int .u8 ((UInt8.ofNat n).toNat:Nat):=by rw[UInt8.toNat_ofNat',Nat.mod_eq_of_lt (by omega)]
theorem zdz(n:Nat)(hn:n<100):RT 56 #[Z n] (str (decL n)):=by
 refine fun w=>inZ func56 fun a I=>?_;refine goZ [] I fun β a w1 I hb=>?_
 let St:Nat→Act→World→Prop:=fun k a w'=>∃(m:Nat) (s:List UInt8) (β:Nat→Nat) (u:Nat→Value),k=m∧m<100∧s.length≤1∧(10≤m→s=[]∧m=n)∧(m<10→UInt8.ofNat (48+m)::s=decL n)∧SI (Below w.heap.size w) (· < w.heap.size) [] β (cfC (qz Tryz.f56) (kf (scrF 23 dgK) u 0 (dgW m s)) [] 0) a w'
 refine lpM (qz Tryz.f56) St n ?_ ?_
 ·obtain⟨u,Iu⟩:=I.scr (qz Tryz.f56) (scrF 23 dgK) (dgW n []) [] 0;exact⟨n,[],β,u,rfl,hn,by simp,fun _=>⟨rfl,rfl⟩,fun h=>by unfold decL;rw[if_pos h],Iu⟩
 rintro k a3 w3 ⟨m,s,β3,u,rfl,hm,hsl,h1,h2,I9⟩;refine zbe (tm:=kf (scrF 23 dgK) u 0 (dgW k s)) (rows:=[]) (nx:=0) ?_;rcases Nat.lt_or_ge k 10 with hk|hk
 ·refine goZ [khF k 10] I9 fun β4 a4 w4 I hb4=>?_;refine endE 0 ?_;refine goZ [kaZ 48 k (48+k:Nat),vO 3 5 (cnvZ8 (48+k) (by omega))] (I.exit _) fun β5 a5 w5 I hb5=>?_;have hbs:=bs1 (UInt8.ofNat (48+k)) w5;rw[← u8n (48+k) (by omega)]at hbs;have hcv:=conv_new w5 [UInt8.ofNat (48+k)] (by simp);refine bslQ (t:=76) (n:=1) (ss:=[(0,Sum.inl (b8 (48+k)))]) I hbs ?_;have I2:=I.alloc (zq w) (.cells (bc [UInt8.ofNat (48+k)]).toArray 5) (.slice (some ⟨w5.heap.size,0,none⟩) 1 1);refine cnvQ I2 hcv ?_;have I3:=I2.same (str [UInt8.ofNat (48+k)]);rw[← h2 hk];generalize UInt8.ofNat (48+k)=x at *
  refine goZ [bO .add 9 (ke [x] s (by rw[List.length_singleton];omega))] I3 fun β6 a6 w6 I hb6=>?_;exact zl (v:=str (x::s)) I
 ·obtain⟨rfl,rfl⟩:=h1 hk;refine goZ [khT k 10,bO .rem 3 (zea (x:=k) (y:=10) (z:=(k%10:Nat)) (by decide) (by rw[Int.tmod_eq_emod_of_nonneg (by omega)];omega)),kaZ 48 (k%10:Nat) (48+k%10:Nat),vO 3 5 (cnvZ8 (48+k%10) (by omega))] I9 fun β5 a5 w5 I hb5=>?_;have hbs:=bs1 (UInt8.ofNat (48+k%10)) w5;rw[← u8n (48+k%10) (by omega)]at hbs;have hcv:=conv_new w5 [UInt8.ofNat (48+k%10)] (by simp);refine bslQ (t:=76) (n:=1) (ss:=[(0,Sum.inl (b8 (48+k%10)))]) I hbs ?_;have I2:=I.alloc (zq w) (.cells (bc [UInt8.ofNat (48+k%10)]).toArray 5) (.slice (some ⟨w5.heap.size,0,none⟩) 1 1)
  refine cnvQ I2 hcv ?_;have I3:=I2.same (str [UInt8.ofNat (48+k%10)]);have hdl:decL k=[UInt8.ofNat (48+k/10),UInt8.ofNat (48+k%10)]:=by unfold decL;rw[if_neg (by omega)]
  generalize UInt8.ofNat (48+k%10)=x at *;refine goZ [bO .add 9 (ke [x] [] (by simp)),bO .quo 3 (run_quoZ (x:=k) (y:=10) (z:=(k/10:Nat)) (by decide) (by rw[Int.tdiv_eq_ediv_of_nonneg (by omega),wz (by omega) (by omega)];omega))] I3 fun β6 a6 w6 I hb6=>?_;obtain⟨u',Iu⟩:=I.scr (qz Tryz.f56) (scrF 23 dgK) (dgW (k/10) [x]) [] 0;exact endL ⟨k/10,by omega,k/10,[x],β6,u',rfl,by omega,by simp,fun h=>by omega,fun h=>by rw[hdl],Iu⟩
theorem rown_any(n:Nat)(hn:n<256):RT 144 #[b8 n] (Z (qc n:Nat)):=by
 refine fun w=>inZ func144 fun a I=>?_;by_cases h1:96≤n
 ·by_cases h2:n≤127
  ·refine goZ [jhT n 96,jmT n 127,vO 5 3 (qb n hn),ksZ n 95 (n-95:Nat)] I fun β a w1 I hb=>?_;have:qc n=n-95:=by unfold qc numN;rw[if_neg (by omega),if_pos (by omega)]
   rw[this];exact zl (v:=Z (n-95:Nat)) I
  ·refine goZ [jhT n 96,jmF n 127] I fun β a w1 I hb=>?_;have:qc n=0:=by unfold qc;rw[if_pos (by omega)]
   rw[this];exact zl (v:=Z 0) I
 ·refine goZ [jhF n 96] I fun β a w1 I hb=>?_;have:qc n=0:=by unfold qc numN;rw[if_neg (by omega),if_neg (by omega),if_neg (by omega),if_neg (by omega)]
  rw[this];exact zl (v:=Z 0) I
def numRf (n:Nat):RfR:=if n<96 then(0,opD)else if n<128 then(n,[80,85,83,72]++decL (n-95),0,1,3)else if n<144 then(n,[68,85,80]++decL (n-127),n-127,n-126,3)else if n<160 then(n,[83,87,65,80]++decL (n-143),n-142,n-142,3)else(0,opD)
def rfF (n:Nat):RfR:=match rfL.find? fun r=>decide (r.1=n)with
 | some r=>r
 | none=>numRf n
theorem rf_get:∀(l:List RfR) (i j:Nat),i<l.length→j<5→(l.flatMap rfV)[i*5+j]? = (rfV (l.getD i (0,opD)))[j]?
 | [],i,j,h,_=>by simp at h
 | r::l,0,j,_,hj=>by
  rw[List.flatMap_cons,List.getElem?_append_left (by simp[rfV,rwV];omega)];simp
 | r::l,i+1,j,h,hj=>by
  have e:(rfV r).length=5:=rfl;rw[List.flatMap_cons,List.getElem?_append_right (by rw[e];omega),e,show(i+1)*5+j-5=i*5+j by omega,rf_get l i j (by simpa using h) hj];simp
def rfC:Array Value:=(rfL.flatMap rfV).toArray
theorem rf_cells{w:World}{b:Nat}(h:w.heap[b]? = some (.cells rfC 58))(i:Nat)(hi:i<46):zcm w b (0+i*5) (rfV (rfL.getD i (0,opD))):=by
 intro j c hc;have hj:j<5:=by have:=(List.getElem?_eq_some_iff.1 hc).1;simpa [rfV,rwV]using this
 rw[← rf_get rfL i j hi hj]at hc;simp only[World.cell?,h];rw[show 0+i*5+j=i*5+j by omega];simpa [rfC]using hc
abbrev rJ (w:World) (b:Nat) (w':World):Prop:=Below w.heap.size w w'∧w'.heap[b]? = some (.cells rfC 58)
abbrev rF (w:World) (b k:Nat):Prop:=k<w.heap.size∨k=b
abbrev fnK:List Nat:=[0,2,3,4]
abbrev fnW (n b i:Nat):Vs:=frm 74 [(0,Sum.inl (b8 n)),(2,Sum.inr (0,0)),(3,Sum.inl (.slice (some ⟨b,0,none⟩) 46 46)),(4,Sum.inl (Z i))]
abbrev fn0:Rows:=[(0,(rfV (0,opD)).toArray)]
theorem rfind_any(n:Nat)(hn:n<256):RT 32 #[b8 n] (.agg (rfV (rfF n)).toArray):=by
 refine fun w=>inZ func32 fun a I=>?_;refine goZ [] I fun β a w1 I hb=>?_;refine mcall (f:=55) (ss:=[]) func55 I ((rows_any w1).mono fun e w2 he=>?_);obtain⟨b,rfl,hbs,hrow,hbl⟩:=he;have hw1:=I.hJ.size;have I2:SI (rJ w b) (rF w b) [] β _ _ w2:=I.moved (J':=rJ w b) (F':=rF w b) (zu.of_below hbl) ⟨I.hJ.trans (hbl.mono hw1),hrow⟩ (fun k hk h=>h.elim id fun e=>by omega) (.slice (some ⟨b,0,none⟩) 46 46);have R:qm (rJ w b) (rF w b):=(zq w).lay b _;refine goQ [] R I2 fun β3 a3 w3 I hb3=>?_
 let St:Nat→Act→World→Prop:=fun k a w'=>∃(i:Nat) (β:Nat→Nat) (u:Nat→Value),k=46-i∧i≤46∧(∀ j,j<i→(rfL.getD j (0,opD)).1≠n)∧SI (rJ w b) (rF w b) [] β (cfC (qz Tryz.f32) (kf (scrF 74 fnK) u 0 (fnW n b i)) fn0 1) a w'
 refine lpM (qz Tryz.f32) St 46 ?_ ?_
 ·obtain⟨u,Iu⟩:=I.scr (qz Tryz.f32) (scrF 74 fnK) (fnW n b 0) fn0 1;exact⟨0,β3,u,by omega,Nat.zero_le _,fun j hj=>absurd hj (Nat.not_lt_zero j),Iu⟩
 rintro k a3 w3 ⟨i,β3,u,rfl,hi,hall,I⟩;refine zbe (tm:=kf (scrF 74 fnK) u 0 (fnW n b i)) (rows:=fn0) (nx:=1) ?_;rcases Nat.lt_or_ge i 46 with hil|hil
 ·have hld:∀ w',rJ w b w'→(loadVar 5 ⟨b,0+i*5+0,none⟩).run prog w'=.ok (b8 (rfL.getD i (0,opD)).1) w':=fun w' h=>load1 (rf_cells h.2 i hil) 0 rfl 5 underlying5 rfl
  have hlw:∀ w',rJ w b w'→(loadVar 58 ⟨b,0+i*5,none⟩).run prog w'=.ok (.agg (rfV (rfL.getD i (0,opD))).toArray) w':=fun w' h=>loadN underlying58 rfl (n:=5) (by kernel_rfl) rfl (rf_cells h.2 i hil)
  have hget:rfL[i]? = some (rfL.getD i (0,opD)):=by rw[List.getD_eq_getElem?_getD,List.getElem?_eq_getElem hil];rfl
  by_cases he:(rfL.getD i (0,opD)).1=n
  ·have hF:rfF n=rfL.getD i (0,opD):=by
    unfold rfF;have:rfL.find? (fun r=>decide (r.1=n))=some (rfL.getD i (0,opD)):=by
     rw[List.find?_eq_some_iff_getElem];refine⟨by simpa using he,i,hil,?_,fun j hj=>?_⟩
     ·exact(List.getElem?_eq_some_iff.1 hget).2
     ·have h3:=hall j hj;have hj2:rfL.getD j (0,opD)=rfL[j]'(Nat.lt_trans hj (show i<rfL.length from hil)):=by rw[List.getD_eq_getElem?_getD,List.getElem?_eq_getElem (Nat.lt_trans hj (show i<rfL.length from hil))];rfl
      rw[hj2]at h3;show(!decide (_=n))=true;rw[decide_eq_false h3];rfl
    rw[this]
   rw[hF];generalize rfL.getD i (0,opD)=r at *;obtain⟨rn,s,t,l,g⟩:=r;obtain rfl:rn=n:=he;refine goT (T:=rJ w b) [lS underlying84 (ad:=some ⟨b,0,none⟩) (n:=46) (cap:=46) rfl,klT i 46,iA 84 underlying84 (sz:=5) (by kernel_rfl) (g:=b) (off:=0) (n:=46) (cap:=46) hil,ldA 5 hld,bO .eql 5 (zdw (x:=rn) (y:=rn) (b:=true) (by simp)),iA 84 underlying84 (sz:=5) (by kernel_rfl) (g:=b) (off:=0) (n:=46) (cap:=46) hil,ldA 58 hlw] R (fun _ h=>h) I fun β4 a4 w4 I hb4=>?_;exact endR (retV (v:=.agg (rfV (rn,s,t,l,g)).toArray) I ⟨rfl,I.hJ.1⟩)
  ·have hall':∀ j,j<i+1→(rfL.getD j (0,opD)).1≠n:=fun j hj=>by
    rcases Nat.lt_or_ge j i with h|h
    ·exact hall j h
    ·obtain rfl:j=i:=by omega
     exact he
   generalize rfL.getD i (0,opD)=r at hld hlw he;refine goT (T:=rJ w b) [lS underlying84 (ad:=some ⟨b,0,none⟩) (n:=46) (cap:=46) rfl,klT i 46,iA 84 underlying84 (sz:=5) (by kernel_rfl) (g:=b) (off:=0) (n:=46) (cap:=46) hil,ldA 5 hld,jeF r.1 n,kaZ i 1 (i+1:Nat)] R (fun _ h=>h) I fun β4 a4 w4 I hb4=>?_;obtain⟨u',Iu⟩:=I.scr (qz Tryz.f32) (scrF 74 fnK) (fnW n b (i+1)) fn0 1;exact endL ⟨46-(i+1),by omega,i+1,β4,u',rfl,hil,hall',Iu⟩
 ·obtain rfl:i=46:=by omega
  have hF:rfF n=numRf n:=by
   unfold rfF;have:rfL.find? (fun r=>decide (r.1=n))=none:=by
    rw[List.find?_eq_none];intro r hr;obtain⟨j,hj,e⟩:=List.getElem_of_mem hr;have hj2:rfL.getD j (0,opD)=rfL[j]:=by rw[List.getD_eq_getElem?_getD,List.getElem?_eq_getElem hj];rfl
    have h3:=hall j hj;rw[hj2,e]at h3;simpa using h3
   rw[this]
  rw[hF];clear hall;refine goQ [lS underlying84 (ad:=some ⟨b,0,none⟩) (n:=46) (cap:=46) rfl,bO .lss 3 (vr (x:=(46:Nat)) (y:=46) (b:=false) (by simp))] R I fun β4 a4 w4 I hb4=>?_;refine endE 0 ?_;unfold numRf;by_cases c96:n<96
  ·rw[if_pos c96];refine goQ [vO 5 3 (qb n hn),khF n 96,khF n 128,khF n 144,dO 58 [] bd58_] R (I.exit _) fun β5 a5 w5 I hb5=>?_;exact zp (v:=.agg (rfV (0,opD)).toArray) I ⟨rfl,I.hJ.1⟩
  rw[if_neg c96];by_cases c128:n<128
  ·rw[if_pos c128];have hd:=zdz (n-95) (by omega);have hdl:=decL_len (n-95);generalize decL (n-95)=dl at hd hdl ⊢;refine goQ [vO 5 3 (qb n hn),khT n 96,kmT n 127,ksZ n 95 (n-95:Nat),kC func56 hd,bO .add 9 (ke [80,85,83,72] dl (by show 4+dl.length≤_;omega)),dO 58 [0,1,2,3,4] (xw n ([80,85,83,72]++dl) 0 1 3)] R (I.exit _) fun β5 a5 w5 I hb5=>?_;exact zp (v:=.agg (rfV (n,[80,85,83,72]++dl,0,1,3)).toArray) I ⟨rfl,I.hJ.1⟩
  rw[if_neg c128];by_cases c144:n<144
  ·rw[if_pos c144];have hd:=zdz (n-127) (by omega);have hdl:=decL_len (n-127);generalize decL (n-127)=dl at hd hdl ⊢;refine goQ [vO 5 3 (qb n hn),khT n 96,kmF n 127,khT n 128,kmT n 143,ksZ n 127 (n-127:Nat),kC func56 hd,bO .add 9 (ke [68,85,80] dl (by show 3+dl.length≤_;omega)),ksZ n 127 (n-127:Nat),ksZ n 126 (n-126:Nat),dO 58 [0,1,2,3,4] (xw n ([68,85,80]++dl) (n-127) (n-126) 3)] R (I.exit _) fun β5 a5 w5 I hb5=>?_;exact zp (v:=.agg (rfV (n,[68,85,80]++dl,n-127,n-126,3)).toArray) I ⟨rfl,I.hJ.1⟩
  rw[if_neg c144];by_cases c160:n<160
  ·rw[if_pos c160];have hd:=zdz (n-143) (by omega);have hdl:=decL_len (n-143);generalize decL (n-143)=dl at hd hdl ⊢;refine goQ [vO 5 3 (qb n hn),khT n 96,kmF n 127,khT n 128,kmF n 143,khT n 144,kmT n 159,ksZ n 143 (n-143:Nat),kC func56 hd,bO .add 9 (ke [83,87,65,80] dl (by show 4+dl.length≤_;omega)),ksZ n 142 (n-142:Nat),ksZ n 142 (n-142:Nat),dO 58 [0,1,2,3,4] (xw n ([83,87,65,80]++dl) (n-142) (n-142) 3)] R (I.exit _) fun β5 a5 w5 I hb5=>?_;exact zp (v:=.agg (rfV (n,[83,87,65,80]++dl,n-142,n-142,3)).toArray) I ⟨rfl,I.hJ.1⟩
  rw[if_neg c160];refine goQ [vO 5 3 (qb n hn),khT n 96,kmF n 127,khT n 128,kmF n 143,khT n 144,kmF n 159,dO 58 [] bd58_] R (I.exit _) fun β5 a5 w5 I hb5=>?_;exact zp (v:=.agg (rfV (0,opD)).toArray) I ⟨rfl,I.hJ.1⟩
theorem fdR(r:RfR)(w:World):(Instr.field 58 (.agg (rfV r).toArray) 1).run prog w=.ok (str r.2.1) w:=by kernel_rfl
theorem fdR4(r:RfR)(w:World):(Instr.field 58 (.agg (rfV r).toArray) 4).run prog w=.ok (Z (r.2.2.2.2:Nat)) w:=by kernel_rfl
theorem alike:∀ n:Fin 256,(rfF n.val).2=(nmN n.val,(opP n.val).2):=by decide +kernel
theorem rname_any(n:Nat)(hn:n<256):RT 17 #[b8 n] (str (nmN n)):=by
 intro w;have hf:=rfind_any n hn;have ha:(rfF n).2.1=nmN n:=congrArg (·.1) (alike ⟨n,hn⟩);rw[← ha];generalize rfF n=r at *;refine inZ func17 fun a I=>?_;refine goZ [kC func32 hf,fO 58 1 (fdR r)] I fun β a w1 I hb=>?_;exact zl (v:=str r.2.1) I
theorem rgas_any(n:Nat)(hn:n<256):RT 27 #[b8 n] (Z ((opP n).2.2.2:Nat)):=by
 intro w;have hf:=rfind_any n hn;have ha:(rfF n).2.2=(opP n).2:=congrArg (·.2) (alike ⟨n,hn⟩);rw[← ha];generalize rfF n=r at *;refine inZ func27 fun a I=>?_;refine goZ [kC func32 hf,fO 58 4 (fdR4 r)] I fun β a w1 I hb=>?_;exact zl (v:=Z (r.2.2.2.2:Nat)) I
theorem qy(n:Nat)(hn:n<256):RT 23 #[b8 n] (.tuple #[Z ((opP n).2.1:Nat),Z ((opP n).2.2.1:Nat)]):=by
 intro w;have hf:=rfind_any n hn;have ha:(rfF n).2.2=(opP n).2:=congrArg (·.2) (alike ⟨n,hn⟩);rw[← ha];generalize rfF n=r at *;obtain⟨k,s,t,l,g⟩:=r;refine inZ func23 fun a I=>?_;refine goZ [kC func32 hf] I fun β a w1 I hb=>?_;refine dwQ 6 [] (zq w) yg.post I fun a2 w2 I=>?_;refine goZ [] I fun β3 a3 w3 I hb=>?_;exact zl (v:=.tuple #[Z (t:Nat),Z (l:Nat)]) I
theorem qi{a b:List UInt8}{q:Bool}(h:decide (a≠b)=q)(x y:Operand)(w:World):(do eqGuard .neq 9 x y (str a) (str b);binOp .neq 9 (str a) (str b):Sem Value).run prog w=.ok (.bool q) w:=by
 simp[go_sem];rw[← h];by_cases hab:a=b<;>simp[hab]
end Go.Proofs.YtceedgdbhlpjlaaGreatDoor
