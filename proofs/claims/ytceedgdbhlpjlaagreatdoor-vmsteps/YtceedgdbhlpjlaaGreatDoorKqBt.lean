/- Laid one behind the other: Bt, Bu. -/
import Derived.Test.YtceedgdbhlpjlaaGreatDoorKqLa
import Derived.BigQuiet
import Derived.Deep.Light
import Derived.Test.YtceedgdbhlpjlaaGreatDoorKqNv
namespace Go.Proofs.YtceedgdbhlpjlaaGreatDoor
open Go.RowKit Go.Sort Tryz
set_option linter.unusedVariables false
set_option maxRecDepth 100000
set_option maxHeartbeats 4000000
theorem bit_0_raw(a0 a1 a2 a3 i:Nat)(hi:i≤255)(hq:(i:Int)/64=0):RT 155 #[U4 a0 a1 a2 a3,.int .i64 i] (.int .u64 (bits .and .u64 ((a0:Int)/2^(i%64)) 1)):=by
 intro w
 go_enter func155,ntmps155
 go_wp2
 go_ret
 exact⟨rfl,(by repeat(first|exact Below.refl _ _|apply Below.drew|refine zg ?_ _))⟩
theorem bit_1_raw(a0 a1 a2 a3 i:Nat)(hi:i≤255)(hq:(i:Int)/64=1):RT 155 #[U4 a0 a1 a2 a3,.int .i64 i] (.int .u64 (bits .and .u64 ((a1:Int)/2^(i%64)) 1)):=by
 intro w
 go_enter func155,ntmps155
 go_wp2
 go_ret
 exact⟨rfl,(by repeat(first|exact Below.refl _ _|apply Below.drew|refine zg ?_ _))⟩
theorem bit_2_raw(a0 a1 a2 a3 i:Nat)(hi:i≤255)(hq:(i:Int)/64=2):RT 155 #[U4 a0 a1 a2 a3,.int .i64 i] (.int .u64 (bits .and .u64 ((a2:Int)/2^(i%64)) 1)):=by
 intro w
 go_enter func155,ntmps155
 go_wp2
 go_ret
 exact⟨rfl,(by repeat(first|exact Below.refl _ _|apply Below.drew|refine zg ?_ _))⟩
theorem bit_3_raw(a0 a1 a2 a3 i:Nat)(hi:i≤255)(hq:(i:Int)/64=3):RT 155 #[U4 a0 a1 a2 a3,.int .i64 i] (.int .u64 (bits .and .u64 ((a3:Int)/2^(i%64)) 1)):=by
 intro w
 go_enter func155,ntmps155
 go_wp2
 go_ret
 exact⟨rfl,(by repeat(first|exact Below.refl _ _|apply Below.drew|refine zg ?_ _))⟩
theorem rshl_raw(a0 a1 a2 a3 k:Nat)(hk:k≤255)(p0 p1 p2 p3 c:Nat→Nat)(hc:∀ j,c j<2)(hB:Hid (∀ j:Nat,k≤j∧j<256→∀ w,Calls prog 155 #[U4 a0 a1 a2 a3,.int .i64 ((j:Int)-(k:Int))] w fun e w'=>e=.returned (B (c j))∧Below w.heap.size w w'))(Z:Hid (p0 k=0∧p1 k=0∧p2 k=0∧p3 k=0))(g0:Hid (∀ j:Nat,k≤j∧j<256→j/64=0→((p0 (j+1):Nat):Int)=(bits .or .u64 (p0 j) (IntKind.u64.wrap ((c j:Int)*2^(j%64))))∧p1 (j+1)=p1 j∧p2 (j+1)=p2 j∧p3 (j+1)=p3 j))(g1:Hid (∀ j:Nat,k≤j∧j<256→j/64=1→p0 (j+1)=p0 j∧((p1 (j+1):Nat):Int)=(bits .or .u64 (p1 j) (IntKind.u64.wrap ((c j:Int)*2^(j%64))))∧p2 (j+1)=p2 j∧p3 (j+1)=p3 j))(g2:Hid (∀ j:Nat,k≤j∧j<256→j/64=2→p0 (j+1)=p0 j∧p1 (j+1)=p1 j∧((p2 (j+1):Nat):Int)=(bits .or .u64 (p2 j) (IntKind.u64.wrap ((c j:Int)*2^(j%64))))∧p3 (j+1)=p3 j))(g3:Hid (∀ j:Nat,k≤j∧j<256→j/64=3→p0 (j+1)=p0 j∧p1 (j+1)=p1 j∧p2 (j+1)=p2 j∧((p3 (j+1):Nat):Int)=(bits .or .u64 (p3 j) (IntKind.u64.wrap ((c j:Int)*2^(j%64)))))):RT 158 #[U4 a0 a1 a2 a3,B k] (U4 (p0 (256)) (p1 (256)) (p2 (256)) (p3 (256))):=by
 intro w
 go_enter func158,ntmps158
 go_wp2
 go_loopw [6] (fun i w'=>∃ j:Nat,(k≤j∧j≤256)∧i=.int .i64 j∧w'.cell? ⟨w.heap.size,0,none⟩=some (B a0)∧w'.cell? ⟨w.heap.size,1,none⟩=some (B a1)∧w'.cell? ⟨w.heap.size,2,none⟩=some (B a2)∧w'.cell? ⟨w.heap.size,3,none⟩=some (B a3)∧w'.cell? ⟨w.heap.size+1,0,none⟩=some (.int .u64 0)∧w'.cell? ⟨w.heap.size+1,1,none⟩=some (.int .u64 0)∧w'.cell? ⟨w.heap.size+1,2,none⟩=some (.int .u64 0)∧w'.cell? ⟨w.heap.size+1,3,none⟩=some (.int .u64 0)∧w'.cell? ⟨w.heap.size+1+1,0,none⟩=some (B (p0 j))∧w'.cell? ⟨w.heap.size+1+1,1,none⟩=some (B (p1 j))∧w'.cell? ⟨w.heap.size+1+1,2,none⟩=some (B (p2 j))∧w'.cell? ⟨w.heap.size+1+1,3,none⟩=some (B (p3 j))∧(∀ o,w'.frozen? ⟨w.heap.size+1,o,none⟩=false)∧(∀ o,w'.frozen? ⟨w.heap.size+1+1,o,none⟩=false)∧w.heap.size+1+1<w'.heap.size∧Below w.heap.size w w') (fun i _=>256-(intOf i).toNat)
 case atStart=>
  obtain⟨z0,z1,z2,z3⟩:=Z.out;refine⟨k,by omega,rfl,by go_simp,by go_simp,by go_simp,by go_simp,by go_simp,by go_simp,by go_simp,by go_simp,by rw[z0];go_simp,by rw[z1];go_simp,by rw[z2];go_simp,by rw[z3];go_simp,by intro o;go_simp,by intro o;go_simp,by simp,(by repeat(first|exact Below.refl _ _|apply Below.drew|refine zg ?_ _))⟩
 case round=>
  obtain⟨j,hj,rfl,x0,x1,x2,x3,r0,r1,r2,r3,o0,o1,o2,o3,fr,fo,hz,hbel⟩:=hrel;rename_i wr _;by_cases hlt:k≤j∧j<256
  ·have hcj:=hc j;have hcase:j/64=0∨j/64=1∨j/64=2∨j/64=3:=by omega
   rcases hcase with hn|hn|hn|hn
   ·have G:=g0.out j hlt hn;have HG:Hid _:=G;clear G;have hq:(j:Int)/64=0:=by omega
    clear hn
    go_wp2
    have y0:=cell_regrown x0;have y1:=cell_regrown x1;have y2:=cell_regrown x2;have y3:=cell_regrown x3;have v0:=cell_regrown o0;have v1:=cell_regrown o1;have v2:=cell_regrown o2;have v3:=cell_regrown o3;refine zh (by kernel_rfl) (by kernel_rfl) (by simp) ?_;simp only[List.dropLast]
    repeat(go_big_quiet_step (fail))
    go_big_quiet_step (exact Calls.regrown_of (hB.out j hlt _))
    repeat(go_big_quiet_step (fail))
    refine wpQuiet_nil ?_;intro w' hw';obtain⟨⟨dq,osq⟩,rfl⟩:=hw';have hbq:=below_regrown wr dq osq;clear y0 y1 y2 y3 v0 v1 v2 v3;have cq:∀ b o,b<wr.heap.size→(grow (redrawn wr dq) osq).cell? ⟨b,o,none⟩=wr.cell? ⟨b,o,none⟩:=fun b o h=>hbq.cell (p:=⟨b,o,none⟩) h
    have fq:∀ b o,b<wr.heap.size→(grow (redrawn wr dq) osq).frozen? ⟨b,o,none⟩=wr.frozen? ⟨b,o,none⟩:=fun b o h=>hbq.frozen (p:=⟨b,o,none⟩) h
    have y0:=(cq _ _ hz).trans o0;have y1:=(cq _ _ hz).trans o1;have y2:=(cq _ _ hz).trans o2;have y3:=(cq _ _ hz).trans o3;have yf:∀ o,(grow (redrawn wr dq) osq).frozen? ⟨w.heap.size+1+1,o,none⟩=false:=fun o=>(fq _ o hz).trans (fo o)
    have CQ:Hid _:=cq;have FQ:Hid _:=fq;clear cq fq;generalize grow (redrawn wr dq) osq=w1 at *;refine yj rfl rfl ?_
    go_simp
    go_wp2
    have X0:=(CQ.out _ _ (show w.heap.size<wr.heap.size by omega)).trans x0;have X1:=(CQ.out _ _ (show w.heap.size<wr.heap.size by omega)).trans x1;have X2:=(CQ.out _ _ (show w.heap.size<wr.heap.size by omega)).trans x2;have X3:=(CQ.out _ _ (show w.heap.size<wr.heap.size by omega)).trans x3;have R0:=(CQ.out _ _ (show w.heap.size+1<wr.heap.size by omega)).trans r0;have R1:=(CQ.out _ _ (show w.heap.size+1<wr.heap.size by omega)).trans r1;have R2:=(CQ.out _ _ (show w.heap.size+1<wr.heap.size by omega)).trans r2;have R3:=(CQ.out _ _ (show w.heap.size+1<wr.heap.size by omega)).trans r3
    have RF:∀ o,w1.frozen? ⟨w.heap.size+1,o,none⟩=false:=fun o=>(FQ.out _ o (show w.heap.size+1<wr.heap.size by omega)).trans (fr o)
    have hsz:=hbq.size
    go_roundw
    case rel=>
     obtain⟨e0,e1,e2,e3⟩:=HG.out
     go_light
     exact⟨j+1,by omega,by go_num,(by go_simp),(by go_simp),(by go_simp),(by go_simp),(by go_simp),(by go_simp),(by go_simp),(by go_simp),(by simp only[B,e0];go_simp),(by rw[e1];go_simp),(by rw[e2];go_simp),(by rw[e3];go_simp),(by intro o;go_simp),(by intro o;go_simp),(by simp;omega),za0 (yr hbel hbq) (by simp;omega) _⟩
    case measure=>simp[intOf];omega
   ·have G:=g1.out j hlt hn;have HG:Hid _:=G;clear G;have hq:(j:Int)/64=1:=by omega
    clear hn
    go_wp2
    have y0:=cell_regrown x0;have y1:=cell_regrown x1;have y2:=cell_regrown x2;have y3:=cell_regrown x3;have v0:=cell_regrown o0;have v1:=cell_regrown o1;have v2:=cell_regrown o2;have v3:=cell_regrown o3;refine zh (by kernel_rfl) (by kernel_rfl) (by simp) ?_;simp only[List.dropLast]
    repeat(go_big_quiet_step (fail))
    go_big_quiet_step (exact Calls.regrown_of (hB.out j hlt _))
    repeat(go_big_quiet_step (fail))
    refine wpQuiet_nil ?_;intro w' hw';obtain⟨⟨dq,osq⟩,rfl⟩:=hw';have hbq:=below_regrown wr dq osq;clear y0 y1 y2 y3 v0 v1 v2 v3;have cq:∀ b o,b<wr.heap.size→(grow (redrawn wr dq) osq).cell? ⟨b,o,none⟩=wr.cell? ⟨b,o,none⟩:=fun b o h=>hbq.cell (p:=⟨b,o,none⟩) h
    have fq:∀ b o,b<wr.heap.size→(grow (redrawn wr dq) osq).frozen? ⟨b,o,none⟩=wr.frozen? ⟨b,o,none⟩:=fun b o h=>hbq.frozen (p:=⟨b,o,none⟩) h
    have y0:=(cq _ _ hz).trans o0;have y1:=(cq _ _ hz).trans o1;have y2:=(cq _ _ hz).trans o2;have y3:=(cq _ _ hz).trans o3;have yf:∀ o,(grow (redrawn wr dq) osq).frozen? ⟨w.heap.size+1+1,o,none⟩=false:=fun o=>(fq _ o hz).trans (fo o)
    have CQ:Hid _:=cq;have FQ:Hid _:=fq;clear cq fq;generalize grow (redrawn wr dq) osq=w1 at *;refine yj rfl rfl ?_
    go_simp
    go_wp2
    have X0:=(CQ.out _ _ (show w.heap.size<wr.heap.size by omega)).trans x0;have X1:=(CQ.out _ _ (show w.heap.size<wr.heap.size by omega)).trans x1;have X2:=(CQ.out _ _ (show w.heap.size<wr.heap.size by omega)).trans x2;have X3:=(CQ.out _ _ (show w.heap.size<wr.heap.size by omega)).trans x3;have R0:=(CQ.out _ _ (show w.heap.size+1<wr.heap.size by omega)).trans r0;have R1:=(CQ.out _ _ (show w.heap.size+1<wr.heap.size by omega)).trans r1;have R2:=(CQ.out _ _ (show w.heap.size+1<wr.heap.size by omega)).trans r2;have R3:=(CQ.out _ _ (show w.heap.size+1<wr.heap.size by omega)).trans r3
    have RF:∀ o,w1.frozen? ⟨w.heap.size+1,o,none⟩=false:=fun o=>(FQ.out _ o (show w.heap.size+1<wr.heap.size by omega)).trans (fr o)
    have hsz:=hbq.size
    go_roundw
    case rel=>
     obtain⟨e0,e1,e2,e3⟩:=HG.out
     go_light
     exact⟨j+1,by omega,by go_num,(by go_simp),(by go_simp),(by go_simp),(by go_simp),(by go_simp),(by go_simp),(by go_simp),(by go_simp),(by rw[e0];go_simp),(by simp only[B,e1];go_simp),(by rw[e2];go_simp),(by rw[e3];go_simp),(by intro o;go_simp),(by intro o;go_simp),(by simp;omega),za0 (yr hbel hbq) (by simp;omega) _⟩
    case measure=>simp[intOf];omega
   ·have G:=g2.out j hlt hn;have HG:Hid _:=G;clear G;have hq:(j:Int)/64=2:=by omega
    clear hn
    go_wp2
    have y0:=cell_regrown x0;have y1:=cell_regrown x1;have y2:=cell_regrown x2;have y3:=cell_regrown x3;have v0:=cell_regrown o0;have v1:=cell_regrown o1;have v2:=cell_regrown o2;have v3:=cell_regrown o3;refine zh (by kernel_rfl) (by kernel_rfl) (by simp) ?_;simp only[List.dropLast]
    repeat(go_big_quiet_step (fail))
    go_big_quiet_step (exact Calls.regrown_of (hB.out j hlt _))
    repeat(go_big_quiet_step (fail))
    refine wpQuiet_nil ?_;intro w' hw';obtain⟨⟨dq,osq⟩,rfl⟩:=hw';have hbq:=below_regrown wr dq osq;clear y0 y1 y2 y3 v0 v1 v2 v3;have cq:∀ b o,b<wr.heap.size→(grow (redrawn wr dq) osq).cell? ⟨b,o,none⟩=wr.cell? ⟨b,o,none⟩:=fun b o h=>hbq.cell (p:=⟨b,o,none⟩) h
    have fq:∀ b o,b<wr.heap.size→(grow (redrawn wr dq) osq).frozen? ⟨b,o,none⟩=wr.frozen? ⟨b,o,none⟩:=fun b o h=>hbq.frozen (p:=⟨b,o,none⟩) h
    have y0:=(cq _ _ hz).trans o0;have y1:=(cq _ _ hz).trans o1;have y2:=(cq _ _ hz).trans o2;have y3:=(cq _ _ hz).trans o3;have yf:∀ o,(grow (redrawn wr dq) osq).frozen? ⟨w.heap.size+1+1,o,none⟩=false:=fun o=>(fq _ o hz).trans (fo o)
    have CQ:Hid _:=cq;have FQ:Hid _:=fq;clear cq fq;generalize grow (redrawn wr dq) osq=w1 at *;refine yj rfl rfl ?_
    go_simp
    go_wp2
    have X0:=(CQ.out _ _ (show w.heap.size<wr.heap.size by omega)).trans x0;have X1:=(CQ.out _ _ (show w.heap.size<wr.heap.size by omega)).trans x1;have X2:=(CQ.out _ _ (show w.heap.size<wr.heap.size by omega)).trans x2;have X3:=(CQ.out _ _ (show w.heap.size<wr.heap.size by omega)).trans x3;have R0:=(CQ.out _ _ (show w.heap.size+1<wr.heap.size by omega)).trans r0;have R1:=(CQ.out _ _ (show w.heap.size+1<wr.heap.size by omega)).trans r1;have R2:=(CQ.out _ _ (show w.heap.size+1<wr.heap.size by omega)).trans r2;have R3:=(CQ.out _ _ (show w.heap.size+1<wr.heap.size by omega)).trans r3
    have RF:∀ o,w1.frozen? ⟨w.heap.size+1,o,none⟩=false:=fun o=>(FQ.out _ o (show w.heap.size+1<wr.heap.size by omega)).trans (fr o)
    have hsz:=hbq.size
    go_roundw
    case rel=>
     obtain⟨e0,e1,e2,e3⟩:=HG.out
     go_light
     exact⟨j+1,by omega,by go_num,(by go_simp),(by go_simp),(by go_simp),(by go_simp),(by go_simp),(by go_simp),(by go_simp),(by go_simp),(by rw[e0];go_simp),(by rw[e1];go_simp),(by simp only[B,e2];go_simp),(by rw[e3];go_simp),(by intro o;go_simp),(by intro o;go_simp),(by simp;omega),za0 (yr hbel hbq) (by simp;omega) _⟩
    case measure=>simp[intOf];omega
   ·have G:=g3.out j hlt hn;have HG:Hid _:=G;clear G;have hq:(j:Int)/64=3:=by omega
    clear hn
    go_wp2
    have y0:=cell_regrown x0;have y1:=cell_regrown x1;have y2:=cell_regrown x2;have y3:=cell_regrown x3;have v0:=cell_regrown o0;have v1:=cell_regrown o1;have v2:=cell_regrown o2;have v3:=cell_regrown o3;refine zh (by kernel_rfl) (by kernel_rfl) (by simp) ?_;simp only[List.dropLast]
    repeat(go_big_quiet_step (fail))
    go_big_quiet_step (exact Calls.regrown_of (hB.out j hlt _))
    repeat(go_big_quiet_step (fail))
    refine wpQuiet_nil ?_;intro w' hw';obtain⟨⟨dq,osq⟩,rfl⟩:=hw';have hbq:=below_regrown wr dq osq;clear y0 y1 y2 y3 v0 v1 v2 v3;have cq:∀ b o,b<wr.heap.size→(grow (redrawn wr dq) osq).cell? ⟨b,o,none⟩=wr.cell? ⟨b,o,none⟩:=fun b o h=>hbq.cell (p:=⟨b,o,none⟩) h
    have fq:∀ b o,b<wr.heap.size→(grow (redrawn wr dq) osq).frozen? ⟨b,o,none⟩=wr.frozen? ⟨b,o,none⟩:=fun b o h=>hbq.frozen (p:=⟨b,o,none⟩) h
    have y0:=(cq _ _ hz).trans o0;have y1:=(cq _ _ hz).trans o1;have y2:=(cq _ _ hz).trans o2;have y3:=(cq _ _ hz).trans o3;have yf:∀ o,(grow (redrawn wr dq) osq).frozen? ⟨w.heap.size+1+1,o,none⟩=false:=fun o=>(fq _ o hz).trans (fo o)
    have CQ:Hid _:=cq;have FQ:Hid _:=fq;clear cq fq;generalize grow (redrawn wr dq) osq=w1 at *;refine yj rfl rfl ?_
    go_simp
    go_wp2
    have X0:=(CQ.out _ _ (show w.heap.size<wr.heap.size by omega)).trans x0;have X1:=(CQ.out _ _ (show w.heap.size<wr.heap.size by omega)).trans x1;have X2:=(CQ.out _ _ (show w.heap.size<wr.heap.size by omega)).trans x2;have X3:=(CQ.out _ _ (show w.heap.size<wr.heap.size by omega)).trans x3;have R0:=(CQ.out _ _ (show w.heap.size+1<wr.heap.size by omega)).trans r0;have R1:=(CQ.out _ _ (show w.heap.size+1<wr.heap.size by omega)).trans r1;have R2:=(CQ.out _ _ (show w.heap.size+1<wr.heap.size by omega)).trans r2;have R3:=(CQ.out _ _ (show w.heap.size+1<wr.heap.size by omega)).trans r3
    have RF:∀ o,w1.frozen? ⟨w.heap.size+1,o,none⟩=false:=fun o=>(FQ.out _ o (show w.heap.size+1<wr.heap.size by omega)).trans (fr o)
    have hsz:=hbq.size
    go_roundw
    case rel=>
     obtain⟨e0,e1,e2,e3⟩:=HG.out
     go_light
     exact⟨j+1,by omega,by go_num,(by go_simp),(by go_simp),(by go_simp),(by go_simp),(by go_simp),(by go_simp),(by go_simp),(by go_simp),(by rw[e0];go_simp),(by rw[e1];go_simp),(by rw[e2];go_simp),(by simp only[B,e3];go_simp),(by intro o;go_simp),(by intro o;go_simp),(by simp;omega),za0 (yr hbel hbq) (by simp;omega) _⟩
    case measure=>simp[intOf];omega
  ·have hjj:j=256:=by omega
   go_wp2
   subst hjj;exact bodyPost_ret (v:=U4 (p0 (256)) (p1 (256)) (p2 (256)) (p3 (256))) (by simp[results,results158,go_sem,r0,r1,r2,r3]) rfl ⟨rfl,by repeat(first|exact hbel|apply Below.drew|refine za0 ?_ (by simp;try omega) _)⟩
theorem rshr_raw(a0 a1 a2 a3 k:Nat)(hk:k≤255)(p0 p1 p2 p3 c:Nat→Nat)(hc:∀ j,c j<2)(hB:Hid (∀ j:Nat,j+k<256→∀ w,Calls prog 155 #[U4 a0 a1 a2 a3,.int .i64 ((j:Int)+(k:Int))] w fun e w'=>e=.returned (B (c j))∧Below w.heap.size w w'))(Z:Hid (p0 0=0∧p1 0=0∧p2 0=0∧p3 0=0))(g0:Hid (∀ j:Nat,j+k<256→j/64=0→((p0 (j+1):Nat):Int)=(bits .or .u64 (p0 j) (IntKind.u64.wrap ((c j:Int)*2^(j%64))))∧p1 (j+1)=p1 j∧p2 (j+1)=p2 j∧p3 (j+1)=p3 j))(g1:Hid (∀ j:Nat,j+k<256→j/64=1→p0 (j+1)=p0 j∧((p1 (j+1):Nat):Int)=(bits .or .u64 (p1 j) (IntKind.u64.wrap ((c j:Int)*2^(j%64))))∧p2 (j+1)=p2 j∧p3 (j+1)=p3 j))(g2:Hid (∀ j:Nat,j+k<256→j/64=2→p0 (j+1)=p0 j∧p1 (j+1)=p1 j∧((p2 (j+1):Nat):Int)=(bits .or .u64 (p2 j) (IntKind.u64.wrap ((c j:Int)*2^(j%64))))∧p3 (j+1)=p3 j))(g3:Hid (∀ j:Nat,j+k<256→j/64=3→p0 (j+1)=p0 j∧p1 (j+1)=p1 j∧p2 (j+1)=p2 j∧((p3 (j+1):Nat):Int)=(bits .or .u64 (p3 j) (IntKind.u64.wrap ((c j:Int)*2^(j%64)))))):RT 167 #[U4 a0 a1 a2 a3,B k] (U4 (p0 (256-k)) (p1 (256-k)) (p2 (256-k)) (p3 (256-k))):=by
 intro w
 go_enter func167,ntmps167
 go_wp2
 go_loopw [6] (fun i w'=>∃ j:Nat,(j+k≤256)∧i=.int .i64 j∧w'.cell? ⟨w.heap.size,0,none⟩=some (B a0)∧w'.cell? ⟨w.heap.size,1,none⟩=some (B a1)∧w'.cell? ⟨w.heap.size,2,none⟩=some (B a2)∧w'.cell? ⟨w.heap.size,3,none⟩=some (B a3)∧w'.cell? ⟨w.heap.size+1,0,none⟩=some (.int .u64 0)∧w'.cell? ⟨w.heap.size+1,1,none⟩=some (.int .u64 0)∧w'.cell? ⟨w.heap.size+1,2,none⟩=some (.int .u64 0)∧w'.cell? ⟨w.heap.size+1,3,none⟩=some (.int .u64 0)∧w'.cell? ⟨w.heap.size+1+1,0,none⟩=some (B (p0 j))∧w'.cell? ⟨w.heap.size+1+1,1,none⟩=some (B (p1 j))∧w'.cell? ⟨w.heap.size+1+1,2,none⟩=some (B (p2 j))∧w'.cell? ⟨w.heap.size+1+1,3,none⟩=some (B (p3 j))∧(∀ o,w'.frozen? ⟨w.heap.size+1,o,none⟩=false)∧(∀ o,w'.frozen? ⟨w.heap.size+1+1,o,none⟩=false)∧w.heap.size+1+1<w'.heap.size∧Below w.heap.size w w') (fun i _=>256-(intOf i).toNat)
 case atStart=>
  obtain⟨z0,z1,z2,z3⟩:=Z.out;refine⟨0,by omega,rfl,by go_simp,by go_simp,by go_simp,by go_simp,by go_simp,by go_simp,by go_simp,by go_simp,by rw[z0];go_simp,by rw[z1];go_simp,by rw[z2];go_simp,by rw[z3];go_simp,by intro o;go_simp,by intro o;go_simp,by simp,(by repeat(first|exact Below.refl _ _|apply Below.drew|refine zg ?_ _))⟩
 case round=>
  obtain⟨j,hj,rfl,x0,x1,x2,x3,r0,r1,r2,r3,o0,o1,o2,o3,fr,fo,hz,hbel⟩:=hrel;rename_i wr _;by_cases hlt:j+k<256
  ·have hcj:=hc j;have hcase:j/64=0∨j/64=1∨j/64=2∨j/64=3:=by omega
   rcases hcase with hn|hn|hn|hn
   ·have G:=g0.out j hlt hn;have HG:Hid _:=G;clear G;have hq:(j:Int)/64=0:=by omega
    clear hn
    go_wp2
    have y0:=cell_regrown x0;have y1:=cell_regrown x1;have y2:=cell_regrown x2;have y3:=cell_regrown x3;have v0:=cell_regrown o0;have v1:=cell_regrown o1;have v2:=cell_regrown o2;have v3:=cell_regrown o3;refine zh (by kernel_rfl) (by kernel_rfl) (by simp) ?_;simp only[List.dropLast]
    repeat(go_big_quiet_step (fail))
    go_big_quiet_step (exact Calls.regrown_of (hB.out j hlt _))
    repeat(go_big_quiet_step (fail))
    refine wpQuiet_nil ?_;intro w' hw';obtain⟨⟨dq,osq⟩,rfl⟩:=hw';have hbq:=below_regrown wr dq osq;clear y0 y1 y2 y3 v0 v1 v2 v3;have cq:∀ b o,b<wr.heap.size→(grow (redrawn wr dq) osq).cell? ⟨b,o,none⟩=wr.cell? ⟨b,o,none⟩:=fun b o h=>hbq.cell (p:=⟨b,o,none⟩) h
    have fq:∀ b o,b<wr.heap.size→(grow (redrawn wr dq) osq).frozen? ⟨b,o,none⟩=wr.frozen? ⟨b,o,none⟩:=fun b o h=>hbq.frozen (p:=⟨b,o,none⟩) h
    have y0:=(cq _ _ hz).trans o0;have y1:=(cq _ _ hz).trans o1;have y2:=(cq _ _ hz).trans o2;have y3:=(cq _ _ hz).trans o3;have yf:∀ o,(grow (redrawn wr dq) osq).frozen? ⟨w.heap.size+1+1,o,none⟩=false:=fun o=>(fq _ o hz).trans (fo o)
    have CQ:Hid _:=cq;have FQ:Hid _:=fq;clear cq fq;generalize grow (redrawn wr dq) osq=w1 at *;refine yj rfl rfl ?_
    go_simp
    go_wp2
    have X0:=(CQ.out _ _ (show w.heap.size<wr.heap.size by omega)).trans x0;have X1:=(CQ.out _ _ (show w.heap.size<wr.heap.size by omega)).trans x1;have X2:=(CQ.out _ _ (show w.heap.size<wr.heap.size by omega)).trans x2;have X3:=(CQ.out _ _ (show w.heap.size<wr.heap.size by omega)).trans x3;have R0:=(CQ.out _ _ (show w.heap.size+1<wr.heap.size by omega)).trans r0;have R1:=(CQ.out _ _ (show w.heap.size+1<wr.heap.size by omega)).trans r1;have R2:=(CQ.out _ _ (show w.heap.size+1<wr.heap.size by omega)).trans r2;have R3:=(CQ.out _ _ (show w.heap.size+1<wr.heap.size by omega)).trans r3
    have RF:∀ o,w1.frozen? ⟨w.heap.size+1,o,none⟩=false:=fun o=>(FQ.out _ o (show w.heap.size+1<wr.heap.size by omega)).trans (fr o)
    have hsz:=hbq.size
    go_roundw
    case rel=>
     obtain⟨e0,e1,e2,e3⟩:=HG.out
     go_light
     exact⟨j+1,by omega,by go_num,(by go_simp),(by go_simp),(by go_simp),(by go_simp),(by go_simp),(by go_simp),(by go_simp),(by go_simp),(by simp only[B,e0];go_simp),(by rw[e1];go_simp),(by rw[e2];go_simp),(by rw[e3];go_simp),(by intro o;go_simp),(by intro o;go_simp),(by simp;omega),za0 (yr hbel hbq) (by simp;omega) _⟩
    case measure=>simp[intOf];omega
   ·have G:=g1.out j hlt hn;have HG:Hid _:=G;clear G;have hq:(j:Int)/64=1:=by omega
    clear hn
    go_wp2
    have y0:=cell_regrown x0;have y1:=cell_regrown x1;have y2:=cell_regrown x2;have y3:=cell_regrown x3;have v0:=cell_regrown o0;have v1:=cell_regrown o1;have v2:=cell_regrown o2;have v3:=cell_regrown o3;refine zh (by kernel_rfl) (by kernel_rfl) (by simp) ?_;simp only[List.dropLast]
    repeat(go_big_quiet_step (fail))
    go_big_quiet_step (exact Calls.regrown_of (hB.out j hlt _))
    repeat(go_big_quiet_step (fail))
    refine wpQuiet_nil ?_;intro w' hw';obtain⟨⟨dq,osq⟩,rfl⟩:=hw';have hbq:=below_regrown wr dq osq;clear y0 y1 y2 y3 v0 v1 v2 v3;have cq:∀ b o,b<wr.heap.size→(grow (redrawn wr dq) osq).cell? ⟨b,o,none⟩=wr.cell? ⟨b,o,none⟩:=fun b o h=>hbq.cell (p:=⟨b,o,none⟩) h
    have fq:∀ b o,b<wr.heap.size→(grow (redrawn wr dq) osq).frozen? ⟨b,o,none⟩=wr.frozen? ⟨b,o,none⟩:=fun b o h=>hbq.frozen (p:=⟨b,o,none⟩) h
    have y0:=(cq _ _ hz).trans o0;have y1:=(cq _ _ hz).trans o1;have y2:=(cq _ _ hz).trans o2;have y3:=(cq _ _ hz).trans o3;have yf:∀ o,(grow (redrawn wr dq) osq).frozen? ⟨w.heap.size+1+1,o,none⟩=false:=fun o=>(fq _ o hz).trans (fo o)
    have CQ:Hid _:=cq;have FQ:Hid _:=fq;clear cq fq;generalize grow (redrawn wr dq) osq=w1 at *;refine yj rfl rfl ?_
    go_simp
    go_wp2
    have X0:=(CQ.out _ _ (show w.heap.size<wr.heap.size by omega)).trans x0;have X1:=(CQ.out _ _ (show w.heap.size<wr.heap.size by omega)).trans x1;have X2:=(CQ.out _ _ (show w.heap.size<wr.heap.size by omega)).trans x2;have X3:=(CQ.out _ _ (show w.heap.size<wr.heap.size by omega)).trans x3;have R0:=(CQ.out _ _ (show w.heap.size+1<wr.heap.size by omega)).trans r0;have R1:=(CQ.out _ _ (show w.heap.size+1<wr.heap.size by omega)).trans r1;have R2:=(CQ.out _ _ (show w.heap.size+1<wr.heap.size by omega)).trans r2;have R3:=(CQ.out _ _ (show w.heap.size+1<wr.heap.size by omega)).trans r3
    have RF:∀ o,w1.frozen? ⟨w.heap.size+1,o,none⟩=false:=fun o=>(FQ.out _ o (show w.heap.size+1<wr.heap.size by omega)).trans (fr o)
    have hsz:=hbq.size
    go_roundw
    case rel=>
     obtain⟨e0,e1,e2,e3⟩:=HG.out
     go_light
     exact⟨j+1,by omega,by go_num,(by go_simp),(by go_simp),(by go_simp),(by go_simp),(by go_simp),(by go_simp),(by go_simp),(by go_simp),(by rw[e0];go_simp),(by simp only[B,e1];go_simp),(by rw[e2];go_simp),(by rw[e3];go_simp),(by intro o;go_simp),(by intro o;go_simp),(by simp;omega),za0 (yr hbel hbq) (by simp;omega) _⟩
    case measure=>simp[intOf];omega
   ·have G:=g2.out j hlt hn;have HG:Hid _:=G;clear G;have hq:(j:Int)/64=2:=by omega
    clear hn
    go_wp2
    have y0:=cell_regrown x0;have y1:=cell_regrown x1;have y2:=cell_regrown x2;have y3:=cell_regrown x3;have v0:=cell_regrown o0;have v1:=cell_regrown o1;have v2:=cell_regrown o2;have v3:=cell_regrown o3;refine zh (by kernel_rfl) (by kernel_rfl) (by simp) ?_;simp only[List.dropLast]
    repeat(go_big_quiet_step (fail))
    go_big_quiet_step (exact Calls.regrown_of (hB.out j hlt _))
    repeat(go_big_quiet_step (fail))
    refine wpQuiet_nil ?_;intro w' hw';obtain⟨⟨dq,osq⟩,rfl⟩:=hw';have hbq:=below_regrown wr dq osq;clear y0 y1 y2 y3 v0 v1 v2 v3;have cq:∀ b o,b<wr.heap.size→(grow (redrawn wr dq) osq).cell? ⟨b,o,none⟩=wr.cell? ⟨b,o,none⟩:=fun b o h=>hbq.cell (p:=⟨b,o,none⟩) h
    have fq:∀ b o,b<wr.heap.size→(grow (redrawn wr dq) osq).frozen? ⟨b,o,none⟩=wr.frozen? ⟨b,o,none⟩:=fun b o h=>hbq.frozen (p:=⟨b,o,none⟩) h
    have y0:=(cq _ _ hz).trans o0;have y1:=(cq _ _ hz).trans o1;have y2:=(cq _ _ hz).trans o2;have y3:=(cq _ _ hz).trans o3;have yf:∀ o,(grow (redrawn wr dq) osq).frozen? ⟨w.heap.size+1+1,o,none⟩=false:=fun o=>(fq _ o hz).trans (fo o)
    have CQ:Hid _:=cq;have FQ:Hid _:=fq;clear cq fq;generalize grow (redrawn wr dq) osq=w1 at *;refine yj rfl rfl ?_
    go_simp
    go_wp2
    have X0:=(CQ.out _ _ (show w.heap.size<wr.heap.size by omega)).trans x0;have X1:=(CQ.out _ _ (show w.heap.size<wr.heap.size by omega)).trans x1;have X2:=(CQ.out _ _ (show w.heap.size<wr.heap.size by omega)).trans x2;have X3:=(CQ.out _ _ (show w.heap.size<wr.heap.size by omega)).trans x3;have R0:=(CQ.out _ _ (show w.heap.size+1<wr.heap.size by omega)).trans r0;have R1:=(CQ.out _ _ (show w.heap.size+1<wr.heap.size by omega)).trans r1;have R2:=(CQ.out _ _ (show w.heap.size+1<wr.heap.size by omega)).trans r2;have R3:=(CQ.out _ _ (show w.heap.size+1<wr.heap.size by omega)).trans r3
    have RF:∀ o,w1.frozen? ⟨w.heap.size+1,o,none⟩=false:=fun o=>(FQ.out _ o (show w.heap.size+1<wr.heap.size by omega)).trans (fr o)
    have hsz:=hbq.size
    go_roundw
    case rel=>
     obtain⟨e0,e1,e2,e3⟩:=HG.out
     go_light
     exact⟨j+1,by omega,by go_num,(by go_simp),(by go_simp),(by go_simp),(by go_simp),(by go_simp),(by go_simp),(by go_simp),(by go_simp),(by rw[e0];go_simp),(by rw[e1];go_simp),(by simp only[B,e2];go_simp),(by rw[e3];go_simp),(by intro o;go_simp),(by intro o;go_simp),(by simp;omega),za0 (yr hbel hbq) (by simp;omega) _⟩
    case measure=>simp[intOf];omega
   ·have G:=g3.out j hlt hn;have HG:Hid _:=G;clear G;have hq:(j:Int)/64=3:=by omega
    clear hn
    go_wp2
    have y0:=cell_regrown x0;have y1:=cell_regrown x1;have y2:=cell_regrown x2;have y3:=cell_regrown x3;have v0:=cell_regrown o0;have v1:=cell_regrown o1;have v2:=cell_regrown o2;have v3:=cell_regrown o3;refine zh (by kernel_rfl) (by kernel_rfl) (by simp) ?_;simp only[List.dropLast]
    repeat(go_big_quiet_step (fail))
    go_big_quiet_step (exact Calls.regrown_of (hB.out j hlt _))
    repeat(go_big_quiet_step (fail))
    refine wpQuiet_nil ?_;intro w' hw';obtain⟨⟨dq,osq⟩,rfl⟩:=hw';have hbq:=below_regrown wr dq osq;clear y0 y1 y2 y3 v0 v1 v2 v3;have cq:∀ b o,b<wr.heap.size→(grow (redrawn wr dq) osq).cell? ⟨b,o,none⟩=wr.cell? ⟨b,o,none⟩:=fun b o h=>hbq.cell (p:=⟨b,o,none⟩) h
    have fq:∀ b o,b<wr.heap.size→(grow (redrawn wr dq) osq).frozen? ⟨b,o,none⟩=wr.frozen? ⟨b,o,none⟩:=fun b o h=>hbq.frozen (p:=⟨b,o,none⟩) h
    have y0:=(cq _ _ hz).trans o0;have y1:=(cq _ _ hz).trans o1;have y2:=(cq _ _ hz).trans o2;have y3:=(cq _ _ hz).trans o3;have yf:∀ o,(grow (redrawn wr dq) osq).frozen? ⟨w.heap.size+1+1,o,none⟩=false:=fun o=>(fq _ o hz).trans (fo o)
    have CQ:Hid _:=cq;have FQ:Hid _:=fq;clear cq fq;generalize grow (redrawn wr dq) osq=w1 at *;refine yj rfl rfl ?_
    go_simp
    go_wp2
    have X0:=(CQ.out _ _ (show w.heap.size<wr.heap.size by omega)).trans x0;have X1:=(CQ.out _ _ (show w.heap.size<wr.heap.size by omega)).trans x1;have X2:=(CQ.out _ _ (show w.heap.size<wr.heap.size by omega)).trans x2;have X3:=(CQ.out _ _ (show w.heap.size<wr.heap.size by omega)).trans x3;have R0:=(CQ.out _ _ (show w.heap.size+1<wr.heap.size by omega)).trans r0;have R1:=(CQ.out _ _ (show w.heap.size+1<wr.heap.size by omega)).trans r1;have R2:=(CQ.out _ _ (show w.heap.size+1<wr.heap.size by omega)).trans r2;have R3:=(CQ.out _ _ (show w.heap.size+1<wr.heap.size by omega)).trans r3
    have RF:∀ o,w1.frozen? ⟨w.heap.size+1,o,none⟩=false:=fun o=>(FQ.out _ o (show w.heap.size+1<wr.heap.size by omega)).trans (fr o)
    have hsz:=hbq.size
    go_roundw
    case rel=>
     obtain⟨e0,e1,e2,e3⟩:=HG.out
     go_light
     exact⟨j+1,by omega,by go_num,(by go_simp),(by go_simp),(by go_simp),(by go_simp),(by go_simp),(by go_simp),(by go_simp),(by go_simp),(by rw[e0];go_simp),(by rw[e1];go_simp),(by rw[e2];go_simp),(by simp only[B,e3];go_simp),(by intro o;go_simp),(by intro o;go_simp),(by simp;omega),za0 (yr hbel hbq) (by simp;omega) _⟩
    case measure=>simp[intOf];omega
  ·have hjj:j=256-k:=by omega
   go_wp2
   subst hjj;exact bodyPost_ret (v:=U4 (p0 (256-k)) (p1 (256-k)) (p2 (256-k)) (p3 (256-k))) (by simp[results,results167,go_sem,r0,r1,r2,r3]) rfl ⟨rfl,by repeat(first|exact hbel|apply Below.drew|refine za0 ?_ (by simp;try omega) _)⟩
theorem part_bit(x r:Nat)(hr:r<64):x%M/2^r%2=x/2^r%2:=by
 rw[zaj,show(64:Nat)=r+(64-r) by omega,Nat.pow_add,Nat.mod_mul_right_div_self];refine Nat.mod_mod_of_dvd _ ?_;exact Nat.pow_dvd_pow 2 (m:=1) (by omega)
theorem zcp(n q i x:Nat)(hq:i/64=q)(hxM:x<M)(hx:x=n/2^(64*q)%M):bits .and .u64 ((x:Int)/2^(i%64)) 1=((n/2^i%2:Nat):Int):=by
 have h:x/2^(i%64)%2=n/2^i%2:=by
  rw[hx,part_bit _ _ (Nat.mod_lt _ (by decide)),Nat.div_div_eq_div_mul,← Nat.pow_add,show 64*q+i%64=i by omega]
 rw[← h,zdk,show(1:Int)=((1:Nat):Int)from rfl,vt _ _ (Nat.lt_of_le_of_lt (Nat.div_le_self _ _) hxM) (by decide),Nat.and_one_is_mod]
theorem c_l0(n:Nat):l0 n=n/2^(64*0)%M:=by unfold l0;simp
theorem c_l1(n:Nat):l1 n=n/2^(64*1)%M:=by unfold l1;rw[zaj]
theorem c_l2(n:Nat):l2 n=n/2^(64*2)%M:=by unfold l2;rw[MM_pow]
theorem c_l3(n:Nat):l3 n=n/2^(64*3)%M:=by unfold l3;rw[MMM_pow]
theorem bit_any(n i:Nat)(hi:i≤255):RT 155 #[U n,.int .i64 i] (B (n/2^i%2)):=by
 intro w;have hq:i/64=0∨i/64=1∨i/64=2∨i/64=3:=by omega
 rcases hq with hq|hq|hq|hq
 ·have h:=bit_0_raw (l0 n) (l1 n) (l2 n) (l3 n) i hi (by omega) w;rw[zcp n 0 i (l0 n) hq (yt n) (c_l0 n)]at h;exact h
 ·have h:=bit_1_raw (l0 n) (l1 n) (l2 n) (l3 n) i hi (by omega) w;rw[zcp n 1 i (l1 n) hq (zz n) (c_l1 n)]at h;exact h
 ·have h:=bit_2_raw (l0 n) (l1 n) (l2 n) (l3 n) i hi (by omega) w;rw[zcp n 2 i (l2 n) hq (z7 n) (c_l2 n)]at h;exact h
 ·have h:=bit_3_raw (l0 n) (l1 n) (l2 n) (l3 n) i hi (by omega) w;rw[zcp n 3 i (l3 n) hq (yq n) (c_l3 n)]at h;exact h
theorem or_bit(x c r:Nat)(hx:x<2^r)(hc:c<2)(hr:r<64) :
  bits .or .u64 (x:Int) (IntKind.u64.wrap ((c:Int)*2^r))=((x+c*2^r:Nat):Int)∧x+c*2^r<M:=by
 have hM:=zaw r hr;have h2:2≤2^(64-r):=Nat.pow_le_pow_right (n:=2) (i:=1) (by decide) (by omega);have h1:x+c*2^r<M:=by
  rw[← hM];have:c*2^r≤1*2^r:=Nat.mul_le_mul_right _ (by omega);have:2^r*2≤2^r*2^(64-r):=Nat.mul_le_mul_left _ h2;omega
 refine⟨?_,h1⟩;have e:x+c*2^r=x ||| c*2^r:=by
  rw[Nat.add_comm,Nat.mul_comm,Nat.two_pow_add_eq_or_of_lt hx,Nat.or_comm]
 rw[za3,Nat.mod_eq_of_lt (by omega:c*2^r<M),ym _ _ (by omega) (by omega),e]
theorem low_part(Z j q:Nat)(hq:j/64=q):Z%2^j/M^q<2^(j%64):=by
 refine Nat.div_lt_of_lt_mul ?_;rw[zaj,← Nat.pow_mul,← Nat.pow_add,show 64*q+j%64=j by omega];exact Nat.mod_lt _ (Nat.two_pow_pos _)
theorem low_step(Z j q:Nat)(hq:j/64=q):Z%2^(j+1)=Z%2^j+Z/2^j%2*2^(j%64)*M^q:=by
 rw[Nat.pow_succ,Nat.mod_mul,zaj,← Nat.pow_mul,Nat.mul_assoc,← Nat.pow_add,show j%64+64*q=j by omega,Nat.mul_comm (2^j)]
theorem low_ltW(Z j:Nat)(hj:j≤256):Z%2^j<W:=by
 rw[W_pow];exact Nat.lt_of_lt_of_le (Nat.mod_lt _ (Nat.two_pow_pos _)) (Nat.pow_le_pow_right (by decide) hj)
theorem low_q0(Z j:Nat)(hj:j<256)(hq:j/64=0):((l0 (Z%2^(j+1)):Nat):Int)=bits .or .u64 (l0 (Z%2^j):Nat) (IntKind.u64.wrap (((Z/2^j%2:Nat):Int)*2^(j%64)))∧l1 (Z%2^(j+1))=l1 (Z%2^j)∧l2 (Z%2^(j+1))=l2 (Z%2^j)∧l3 (Z%2^(j+1))=l3 (Z%2^j):=by
 have hp:=low_part Z j 0 hq;have hx:l0 (Z%2^j)<2^(j%64):=by
  unfold l0;rw[Nat.pow_zero,Nat.div_one]at hp;exact Nat.lt_of_le_of_lt (Nat.mod_le _ _) hp
 obtain⟨eo,hlt⟩:=or_bit (l0 (Z%2^j)) (Z/2^j%2) (j%64) hx (Nat.mod_lt _ (by decide)) (Nat.mod_lt _ (by decide));have em:=xe (Z%2^j) (low_ltW Z j (by omega));have e:Z%2^(j+1)=mk (l0 (Z%2^j)+Z/2^j%2*2^(j%64)) (l1 (Z%2^j)) (l2 (Z%2^j)) (l3 (Z%2^j)):=by
  rw[low_step Z j 0 hq]
  conv=>lhs;rw[← em]
  rw[Nat.pow_zero];generalize Z/2^j%2*2^(j%64)=c;unfold mk;grind
 obtain⟨e0,e1,e2,e3⟩:=zam _ _ _ _ _ e hlt (zz _) (z7 _) (yq _);exact⟨by rw[e0,eo],e1,e2,e3⟩
theorem low_q1(Z j:Nat)(hj:j<256)(hq:j/64=1):l0 (Z%2^(j+1))=l0 (Z%2^j)∧((l1 (Z%2^(j+1)):Nat):Int)=bits .or .u64 (l1 (Z%2^j):Nat) (IntKind.u64.wrap (((Z/2^j%2:Nat):Int)*2^(j%64)))∧l2 (Z%2^(j+1))=l2 (Z%2^j)∧l3 (Z%2^(j+1))=l3 (Z%2^j):=by
 have hp:=low_part Z j 1 hq;have hx:l1 (Z%2^j)<2^(j%64):=by
  unfold l1;rw[Nat.pow_one]at hp;exact Nat.lt_of_le_of_lt (Nat.mod_le _ _) hp
 obtain⟨eo,hlt⟩:=or_bit (l1 (Z%2^j)) (Z/2^j%2) (j%64) hx (Nat.mod_lt _ (by decide)) (Nat.mod_lt _ (by decide));have em:=xe (Z%2^j) (low_ltW Z j (by omega));have e:Z%2^(j+1)=mk (l0 (Z%2^j)) (l1 (Z%2^j)+Z/2^j%2*2^(j%64)) (l2 (Z%2^j)) (l3 (Z%2^j)):=by
  rw[low_step Z j 1 hq]
  conv=>lhs;rw[← em]
  rw[Nat.pow_one];generalize Z/2^j%2*2^(j%64)=c;unfold mk;grind
 obtain⟨e0,e1,e2,e3⟩:=zam _ _ _ _ _ e (yt _) hlt (z7 _) (yq _);exact⟨e0,by rw[e1,eo],e2,e3⟩
theorem low_q2(Z j:Nat)(hj:j<256)(hq:j/64=2):l0 (Z%2^(j+1))=l0 (Z%2^j)∧l1 (Z%2^(j+1))=l1 (Z%2^j)∧((l2 (Z%2^(j+1)):Nat):Int)=bits .or .u64 (l2 (Z%2^j):Nat) (IntKind.u64.wrap (((Z/2^j%2:Nat):Int)*2^(j%64)))∧l3 (Z%2^(j+1))=l3 (Z%2^j):=by
 have hp:=low_part Z j 2 hq;have hx:l2 (Z%2^j)<2^(j%64):=by
  unfold l2;rw[show M^2=M*M from by decide]at hp;exact Nat.lt_of_le_of_lt (Nat.mod_le _ _) hp
 obtain⟨eo,hlt⟩:=or_bit (l2 (Z%2^j)) (Z/2^j%2) (j%64) hx (Nat.mod_lt _ (by decide)) (Nat.mod_lt _ (by decide));have em:=xe (Z%2^j) (low_ltW Z j (by omega));have e:Z%2^(j+1)=mk (l0 (Z%2^j)) (l1 (Z%2^j)) (l2 (Z%2^j)+Z/2^j%2*2^(j%64)) (l3 (Z%2^j)):=by
  rw[low_step Z j 2 hq]
  conv=>lhs;rw[← em]
  rw[show M^2=M*M from by decide];generalize Z/2^j%2*2^(j%64)=c;unfold mk;grind
 obtain⟨e0,e1,e2,e3⟩:=zam _ _ _ _ _ e (yt _) (zz _) hlt (yq _);exact⟨e0,e1,by rw[e2,eo],e3⟩
theorem low_q3(Z j:Nat)(hj:j<256)(hq:j/64=3):l0 (Z%2^(j+1))=l0 (Z%2^j)∧l1 (Z%2^(j+1))=l1 (Z%2^j)∧l2 (Z%2^(j+1))=l2 (Z%2^j)∧((l3 (Z%2^(j+1)):Nat):Int)=bits .or .u64 (l3 (Z%2^j):Nat) (IntKind.u64.wrap (((Z/2^j%2:Nat):Int)*2^(j%64))):=by
 have hp:=low_part Z j 3 hq;have hx:l3 (Z%2^j)<2^(j%64):=by
  unfold l3;rw[show M^3=M*M*M from by decide +kernel]at hp;exact Nat.lt_of_le_of_lt (Nat.mod_le _ _) hp
 obtain⟨eo,hlt⟩:=or_bit (l3 (Z%2^j)) (Z/2^j%2) (j%64) hx (Nat.mod_lt _ (by decide)) (Nat.mod_lt _ (by decide));have em:=xe (Z%2^j) (low_ltW Z j (by omega));have e:Z%2^(j+1)=mk (l0 (Z%2^j)) (l1 (Z%2^j)) (l2 (Z%2^j)) (l3 (Z%2^j)+Z/2^j%2*2^(j%64)):=by
  rw[low_step Z j 3 hq]
  conv=>lhs;rw[← em]
  rw[show M^3=M*M*M from by decide +kernel];generalize Z/2^j%2*2^(j%64)=c;unfold mk;grind
 obtain⟨e0,e1,e2,e3⟩:=zam _ _ _ _ _ e (yt _) (zz _) (z7 _) hlt;exact⟨e0,e1,e2,by rw[e3,eo]⟩
theorem zero_parts:l0 0=0∧l1 0=0∧l2 0=0∧l3 0=0:=by decide +kernel
theorem rshl_any(n k:Nat)(hn:n<W):RT 158 #[U n,B k] (U (shlW n k)):=by
 intro w;by_cases h:256≤k
 ·refine(rshl_big_raw (l0 n) (l1 n) (l2 n) (l3 n) k h w).mono ?_;rintro e w' ⟨rfl,hb⟩;exact⟨by rw[shlW,shl_big_zero n k h,zcu],hb⟩
 ·have e0:n*2^k%2^k=0:=Nat.mul_mod_left _ _;have hh:=rshl_raw (l0 n) (l1 n) (l2 n) (l3 n) k (by omega) (fun j=>l0 ((n*2^k)%2^j)) (fun j=>l1 ((n*2^k)%2^j)) (fun j=>l2 ((n*2^k)%2^j)) (fun j=>l3 ((n*2^k)%2^j)) (fun j=>n*2^k/2^j%2) (fun j=>Nat.mod_lt _ (by decide))
   (fun j hj w=>by
    have hb:=bit_any n (j-k) (by omega) w;rw[show((j-k:Nat):Int)=(j:Int)-(k:Int) by omega]at hb;rw[show n/2^(j-k)=n*2^k/2^j by rw[show j=k+(j-k) by omega,Nat.pow_add,Nat.mul_comm n,Nat.mul_div_mul_left _ _ (Nat.two_pow_pos k),show k+(j-k)-k=j-k by omega]]at hb;exact hb)
   (by show l0 (n*2^k%2^k)=0∧l1 (n*2^k%2^k)=0∧l2 (n*2^k%2^k)=0∧l3 (n*2^k%2^k)=0;rw[e0];exact zero_parts)
   (fun j hj hq=>low_q0 _ j hj.2 hq) (fun j hj hq=>low_q1 _ j hj.2 hq) (fun j hj hq=>low_q2 _ j hj.2 hq) (fun j hj hq=>low_q3 _ j hj.2 hq) w
  refine hh.mono ?_;rintro e w' ⟨rfl,hb⟩;exact⟨by unfold shlW;rw[W_pow],hb⟩
theorem rshr_any(n k:Nat)(hn:n<W):RT 167 #[U n,B k] (U (vu n k)):=by
 intro w;by_cases h:256≤k
 ·refine(rshr_big_raw (l0 n) (l1 n) (l2 n) (l3 n) k h w).mono ?_;rintro e w' ⟨rfl,hb⟩;exact⟨by rw[vu,shr_big_zero n k hn h,zcu],hb⟩
 ·have e0:n/2^k%2^0=0:=by simp[Nat.mod_one]
  have hh:=rshr_raw (l0 n) (l1 n) (l2 n) (l3 n) k (by omega) (fun j=>l0 ((n/2^k)%2^j)) (fun j=>l1 ((n/2^k)%2^j)) (fun j=>l2 ((n/2^k)%2^j)) (fun j=>l3 ((n/2^k)%2^j)) (fun j=>n/2^k/2^j%2) (fun j=>Nat.mod_lt _ (by decide))
   (fun j hj w=>by
    have hb:=bit_any n (j+k) (by omega) w;rw[show((j+k:Nat):Int)=(j:Int)+(k:Int) by omega]at hb;rw[show n/2^(j+k)=n/2^k/2^j by rw[Nat.div_div_eq_div_mul,← Nat.pow_add,Nat.add_comm k]]at hb;exact hb)
   (by show l0 (n/2^k%2^0)=0∧l1 (n/2^k%2^0)=0∧l2 (n/2^k%2^0)=0∧l3 (n/2^k%2^0)=0;rw[e0];exact zero_parts)
   (fun j hj hq=>low_q0 _ j (by omega) hq) (fun j hj hq=>low_q1 _ j (by omega) hq) (fun j hj hq=>low_q2 _ j (by omega) hq) (fun j hj hq=>low_q3 _ j (by omega) hq) w
  refine hh.mono ?_;rintro e w' ⟨rfl,hb⟩;have hlt:n/2^k<2^(256-k):=by
   refine Nat.div_lt_of_lt_mul ?_;rw[← Nat.pow_add,show k+(256-k)=256 by omega,← W_pow];exact hn
  exact⟨by unfold vu;rw[Nat.mod_eq_of_lt hlt],hb⟩
end Go.Proofs.YtceedgdbhlpjlaaGreatDoor
