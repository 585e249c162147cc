/- Laid one behind the other: Ya, Yb, Yc, Ye, Yd. -/
import Derived.Test.YtdeompgdhaomgaaGreatDoorKtTw
namespace Go.Proofs.YtdeompgdhaomgaaGreatDoor
open Go.RowKit Go.Sort Go.Proofs.Tryz
set_option linter.unusedVariables false
set_option maxRecDepth 100000
set_option maxHeartbeats 4000000
theorem zeU:zeV prog 57=some (rU 0):=by kernel_rfl
section
variable {J:World→Prop} {F:Nat→Prop} {ds:List Deferred} {β:Nat→Nat} {c:Cf} {a:Act} {w:World} {Q:Exit→Act→World→Prop}
theorem dwA{T:World→Prop}(ia is d x n:Nat)(fs:List (Fa prog T))(R:yw J F)(hT:∀ w,J w→T w)(I:SI J F ds β c a w)(k:∀(b:Nat) (vs:Nat→Value) β' a' w',Agree c.nx β β'→SI J F ds β' (adC (dsC prog [(ia,none),(is,none)] fs c (fun j=>if j=ia then .pointer (some ⟨b,0,none⟩)else vs j)) d (rU n)) a' w'→At prog Q (adC (dsC prog [(ia,none),(is,none)] fs c (fun j=>if j=ia then .pointer (some ⟨b,0,none⟩)else vs j)) d (rU n)) a' w')(hne:decide (is≠ia)=true:=by kernel_rfl)(h1:((z9 c)[ia]?).map (fun o=>(o.op,o.dst,o.guard))=some (.alloc 57,some d,none):=by kernel_rfl)(h2:((z9 c)[is]?).map (fun o=>(o.op,o.dst,o.guard))=some (.store 57 (.tmp d) (.tmp x),none,none):=by kernel_rfl)(h3:ya (z9 c) is ia=true:=by kernel_rfl)(h4:wr (z9 c) d=some ia:=by kernel_rfl)(h5:evS (z9 c) c.tm ((valsD prog [(ia,none),(is,none)] fs c).take is) is (.tmp x)=some (Sum.inl (U n)):=by kernel_rfl)(h6:decide (d<c.tm.length)=true:=by kernel_rfl)(h7:decide (ia<(z9 c).size∧is<(z9 c).size)=true:=by kernel_rfl)(h8:∀(b:Nat) (vs:Nat→Value),((dsC prog [(ia,none),(is,none)] fs c (fun j=>if j=ia then .pointer (some ⟨b,0,none⟩)else vs j)).tm[d]?).join=some (Sum.inl (.pointer (some ⟨b,0,none⟩))):=by intro b vs;kernel_rfl)(hs:(dsX prog [(ia,none),(is,none)] fs c).isSome=true:=by kernel_rfl)(he:(dsX prog [(ia,none),(is,none)] fs c).map (fun r=>r.2.map (·.1))=(dsX prog [(ia,none),(is,none)] fs c).map (fun r=>r.2.map (·.2)):=by kernel_rfl):At prog Q c a w:=by
 have hne:=of_decide_eq_true hne;have h6:=of_decide_eq_true h6;obtain⟨h7a,h7s⟩:=of_decide_eq_true h7;have hsz:a.tmps.size=c.tm.length:=by rw[I.fr];simp
 have hbit:∀{i:Nat} {za:Array Bool},i∈Region.ready .any (z9 c) za→i<za.size∧¬ za.getD i false=true:=by
  intro i za hrd;obtain⟨hun,o',ho',_⟩:=mem_ready.1 hrd;have hlt:i<za.size:=by
   rcases Nat.lt_or_ge i za.size with h|h
   ·exact h
   ·rw[Array.getD_eq_getD_getElem?,Array.getElem?_eq_none h]at hun;cases hun
  refine⟨hlt,fun h=>?_⟩;simp[Array.getD,hlt]at hun h;rw[hun]at h;cases h
 have hset:∀{i:Nat} {za:Array Bool},i<za.size→(za.setIfInBounds i true).getD i false=true:=by
  intro i za hlt;rw[Array.getD_eq_getD_getElem?,Array.getElem?_setIfInBounds,if_pos rfl,if_pos hlt];rfl
 refine dwC (T:=T) [(ia,none),(is,none)] fs
  (fun za vs w'=>(za.getD is false=true→za.getD ia false=true)∧(za.getD ia false=true→∃ b5,vs ia=.pointer (some ⟨b5,0,none⟩)∧w.heap.size≤b5∧zb w' b5 (if za.getD is false=true then rU n else rU 0))) (fun w1 hb=>by
   have hf:∀ n j,¬ (Array.replicate n false).getD j false=true:=fun n j h=>by
    rw[Array.getD_eq_getD_getElem?,Array.getElem?_replicate]at h;split at h<;>simp at h
   exact⟨fun h=>absurd h (hf _ _),fun h=>absurd h (hf _ _)⟩) (fun za vs w' w'' i v hsp h hb=>by
   have hi1:i≠ia:=fun e=>by subst e;simp[yi]at hsp
   have hi2:i≠is:=fun e=>by
    subst e;unfold yi at hsp;rw[Option.map_eq_none_iff,List.find?_eq_none]at hsp;exact hsp (i,none) (by simp) (by simp)
   refine⟨fun h12=>z6 (h.1 ((zm h12).resolve_left fun e=>hi2 e.symm)),fun h11=>?_⟩;have h:=h.2;have e12:(za.setIfInBounds i true).getD is false=za.getD is false:=by
    rw[Array.getD_eq_getD_getElem?,Array.getElem?_setIfInBounds,if_neg hi2,← Array.getD_eq_getD_getElem?]
   obtain⟨b5,q1,q2,q3⟩:=h ((zm h11).resolve_left fun e=>hi1 e.symm);rw[e12];exact⟨b5,by simp only[if_neg (show ¬ ia=i from fun e=>hi1 e.symm)];exact q1,q2,q3.below hb⟩) R hT I ?_ ?_ (by kernel_rfl) hs he
 ·intro p hp2 o ho za vs a' w' hF hrd hbw hC hev;simp only[List.mem_cons,List.not_mem_nil,or_false]at hp2;rcases hp2 with rfl|rfl
  ·obtain⟨o1,o2,o3⟩:=ym ho h1;obtain⟨hlt,hn11⟩:=hbit hrd;have h12:¬ (za.setIfInBounds ia true).getD is false=true:=fun h=>hn11 (hC.1 ((zm h).resolve_left hne))
   refine allocG o1 o3 zeU (by kernel_rfl) fun w2 hb2 hr=>⟨_,rfl,fun u hu=>(by cases hu),⟨fun _=>hset hlt,fun _=>⟨w'.heap.size,by simp,hbw.size,?_⟩⟩,hb2.mono hbw.size⟩
   rw[if_neg h12];exact hr
  ·obtain⟨o1,o2,o3⟩:=ym ho h2;have hl11:=zk (ops:=z9 c) (i:=is) (j:=ia) h3 hrd;have q1:a'.eval (.tmp d)=vs ia:=hF.new (i:=ia) h4 (by omega) hl11;have q2:a'.eval (.tmp x)=U n:=hev (.tmp x) (Sum.inl (U n)) h5;obtain⟨b5,e11,g5,hR5⟩:=hC.2 hl11;obtain⟨hlt,_⟩:=hbit hrd;have hset:=hset hlt;obtain⟨r5,hr5,hsz5⟩:∃ r5,zb w' b5 r5∧r5.size=4:=by
    cases hq:za.getD is false with
    | true=>rw[hq]at hR5;exact⟨rU n,hR5,rfl⟩
    | false=>rw[hq]at hR5;exact⟨rU 0,hR5,rfl⟩
   refine yg o3 (Oper.wp_mono ?_ (v5 57 (.tmp d) (.tmp x) o1 (g:=b5) (off:=0) (by rw[q1,e11]) q2 (cs:=rU n) rfl hr5 (by kernel_rfl) (by rw[hsz5];exact Nat.le_refl 4) (by kernel_rfl) (e:=over r5 0 (rU n)) rfl));rintro a2 w2 ⟨rfl,rfl⟩;refine⟨undef,rfl,fun u hu=>(by cases hu),⟨fun _=>z6 hl11,fun _=>⟨b5,by simp only[if_neg (show ¬ ia=is from fun e=>hne e.symm)];exact e11,g5,?_⟩⟩,kg (Below.refl _ _) g5 _⟩;rw[if_pos hset];have hov:over r5 0 (rU n)=rU n:=by
    obtain⟨l⟩:=r5
    match l,hsz5 with
    | [x0,x1,x2,x3],_=>rfl
   rw[hov];exact hr5.set_same _
 intro za vs a9 w9 hall hC I9;obtain⟨b5,e11,g5,hR5⟩:=hC.2 (hall ia h7a);rw[if_pos (hall is h7s)]at hR5;obtain⟨vs',rfl⟩:∃ vs',vs=fun j=>if j=ia then .pointer (some ⟨b5,0,none⟩)else vs' j:=⟨vs,funext fun j=>by split<;>rename_i hj<;>simp[hj,e11]⟩
 refine adopt d (g:=b5) (r:=rU n) I9 (h8 b5 vs') hR5 (fun h=>by
  have:=R.lt w b5 I.hJ h;omega) (fun p hp e=>by
  have:=(I.row p hp).lt;omega) fun β10 hag hb10 I=>?_
 exact k b5 vs' β10 a9 w9 hag I
end
abbrev rfK:List Nat:=[0,1,2,3,4]
abbrev rfV (fv:Value) (n i:Nat):Vs:=frm 59 [(0,Sum.inl fv),(1,Sum.inr (0,0)),(2,Sum.inl (.bool false)),(3,Sum.inl (Z n)),(4,Sum.inl (Z i))]
abbrev rgK:List Nat:=[0,1,2,3,4,5]
abbrev rgV (fv:Value) (n i k:Nat):Vs:=frm 59 [(0,Sum.inl fv),(1,Sum.inr (0,0)),(2,Sum.inl (.bool false)),(3,Sum.inl (Z n)),(4,Sum.inl (Z i)),(5,Sum.inl (Z k))]
theorem zbe{w:World}{pv:Value}{f:Fi}(h:PaI w pv f.1):Calls prog 24 #[qm f pv] w fun e w'=>e=.returned (.bool (kw f))∧Below w.heap.size w w':=by
 obtain⟨ps,no,ap,ti⟩:=f;simp only[]at h;obtain⟨ad,cap,rfl,hm⟩:=h.1;have hfit:kw (ps,no,ap,ti)=(decide (2≤ps.length)&&decide (ps.length≤4)&&ps.all (fun s=>decide (s.size=20))&&uniS ps&&decide (ap.size≤512)&&decide (1≤ti)&&decide (ti≤1048576)):=rfl;refine inZ func24 fun a I=>?_;by_cases q1:ps.length<2
 ·refine goZ [lS underlying22 (ad:=ad) (n:=ps.length) (cap:=cap) rfl,klT ps.length 2] I fun β a w1 I hb=>?_;exact zh (v:=.bool false) I ⟨by rw[hfit,decide_eq_false (show ¬ 2≤ps.length by omega)];simp,I.hJ⟩
 by_cases q2:4<ps.length
 ·refine goZ [lS underlying22 (ad:=ad) (n:=ps.length) (cap:=cap) rfl,klF ps.length 2,kgT ps.length 4] I fun β a w1 I hb=>?_;exact zh (v:=.bool false) I ⟨by rw[hfit,decide_eq_false (show ¬ ps.length≤4 by omega)];simp,I.hJ⟩
 by_cases q3:512<ap.size
 ·refine goZ [lS underlying22 (ad:=ad) (n:=ps.length) (cap:=cap) rfl,klF ps.length 2,kgF ps.length 4,lO underlying9 (b:=ap) (n:=ap.size) rfl,kgT ap.size 512] I fun β a w1 I hb=>?_;exact zh (v:=.bool false) I ⟨by rw[hfit,decide_eq_false (show ¬ ap.size≤512 by omega)];simp,I.hJ⟩
 by_cases q4:ti<1
 ·refine goZ [lS underlying22 (ad:=ad) (n:=ps.length) (cap:=cap) rfl,klF ps.length 2,kgF ps.length 4,lO underlying9 (b:=ap) (n:=ap.size) rfl,kgF ap.size 512,klT ti 1] I fun β a w1 I hb=>?_;exact zh (v:=.bool false) I ⟨by rw[hfit,decide_eq_false (show ¬ 1≤ti by omega)];simp,I.hJ⟩
 by_cases q5:1048576<ti
 ·refine goZ [lS underlying22 (ad:=ad) (n:=ps.length) (cap:=cap) rfl,klF ps.length 2,kgF ps.length 4,lO underlying9 (b:=ap) (n:=ap.size) rfl,kgF ap.size 512,klF ti 1,kgT ti 1048576] I fun β a w1 I hb=>?_;exact zh (v:=.bool false) I ⟨by rw[hfit,decide_eq_false (show ¬ ti≤1048576 by omega)];simp,I.hJ⟩
 rw[decide_eq_true (show 2≤ps.length by omega),decide_eq_true (show ps.length≤4 by omega),decide_eq_true (show ap.size≤512 by omega),decide_eq_true (show 1≤ti by omega),decide_eq_true (show ti≤1048576 by omega)]at hfit;simp only[Bool.and_true,Bool.true_and]at hfit;refine goZ [lS underlying22 (ad:=ad) (n:=ps.length) (cap:=cap) rfl,klF ps.length 2,kgF ps.length 4,lO underlying9 (b:=ap) (n:=ap.size) rfl,kgF ap.size 512,klF ti 1,kgF ti 1048576] I fun β a w1 I hb=>?_
 let St:Nat→Act→World→Prop:=fun k a w'=>∃(i:Nat) (β:Nat→Nat) (u:Nat→Value),k=ps.length-i∧i≤ps.length∧(∀ j x,j<i→ps[j]? = some x→x.size=20∧¬ x∈ps.take j) ∧
  SI (Below w.heap.size w) (· < w.heap.size) [] β (cfC (zc Tryz.f24) (zl (zg 59 rfK) u 0 (rfV (.agg #[.slice ad ps.length cap,B no,.string ap,Z ti]) ps.length i)) [(0,#[.slice ad ps.length cap,B no,.string ap,Z ti])] 1) a w'
 refine lpM (zc Tryz.f24) St ps.length ?_ ?_
 ·obtain⟨u,Iu⟩:=I.scr (zc Tryz.f24) (zg 59 rfK) (rfV (.agg #[.slice ad ps.length cap,B no,.string ap,Z ti]) ps.length 0) [(0,#[.slice ad ps.length cap,B no,.string ap,Z ti])] 1;exact⟨0,β,u,by omega,Nat.zero_le _,fun j x h=>absurd h (Nat.not_lt_zero j),Iu⟩
 rintro k a3 w3 ⟨i,β3,u,rfl,hi,hok,I⟩;refine zv (tm:=zl (zg 59 rfK) u 0 (rfV (.agg #[.slice ad ps.length cap,B no,.string ap,Z ti]) ps.length i)) (rows:=[(0,#[.slice ad ps.length cap,B no,.string ap,Z ti])]) (nx:=1) ?_;rcases Nat.lt_or_ge i ps.length with hil|hil
 ·obtain⟨x,h1⟩:∃ t,ps[i]? = some t:=⟨_,List.getElem?_eq_getElem hil⟩
  obtain⟨ga,offa,cs,rfl,hlt,hca,rfl⟩:=hm i _ h1;have hld:∀ w',Below w.heap.size w w'→(loadVar 9 ⟨ga,offa+i*1,none⟩).run prog w'=.ok (.string x) w':=fun w' hb=>zbh (hca.keep (hb.block ga hlt))
  by_cases hx:¬ x.size=20
  ·refine goT (T:=Below w.heap.size w) [klT i ps.length,iA 22 underlying22 (sz:=1) (by kernel_rfl) (g:=ga) (off:=offa) (n:=ps.length) (cap:=cap) hil,ldA 9 hld,lO underlying9 (b:=x) (n:=x.size) rfl,knT x.size 20] (zj w) (fun _ h=>h) I fun β4 a4 w4 I hb4=>?_;refine qc (qb (v:=.bool false) I ⟨?_,I.hJ⟩);have:ps.all (fun s=>decide (s.size=20))=false:=by
    rw[List.all_eq_false];exact⟨x,List.mem_of_getElem? h1,by simp[hx]⟩
   rw[hfit,this];rfl
  have hx:=Classical.not_not.1 hx;refine goT (T:=Below w.heap.size w) [klT i ps.length,iA 22 underlying22 (sz:=1) (by kernel_rfl) (g:=ga) (off:=offa) (n:=ps.length) (cap:=cap) hil,ldA 9 hld,lO underlying9 (b:=x) (n:=x.size) rfl,knF x.size 20] (zj w) (fun _ h=>h) I fun β4 a4 w4 I hb4=>?_
  let St2:Nat→Act→World→Prop:=fun k a w'=>∃(j:Nat) (β:Nat→Nat) (u:Nat→Value),k=i-j∧j≤i∧(∀ m y,m<j→ps[m]? = some y→¬ y=x) ∧
   SI (Below w.heap.size w) (· < w.heap.size) [] β (cfC (yn Tryz.f24) (zl (zg 59 rgK) u 0 (rgV (.agg #[.slice (some ⟨ga,offa,none⟩) ps.length cap,B no,.string ap,Z ti]) ps.length i j)) [(0,#[.slice (some ⟨ga,offa,none⟩) ps.length cap,B no,.string ap,Z ti])] 1) a w'
  refine lpM (yn Tryz.f24) St2 i ?_ ?_
  ·obtain⟨u',Iu⟩:=I.scr (yn Tryz.f24) (zg 59 rgK) (rgV (.agg #[.slice (some ⟨ga,offa,none⟩) ps.length cap,B no,.string ap,Z ti]) ps.length i 0) [(0,#[.slice (some ⟨ga,offa,none⟩) ps.length cap,B no,.string ap,Z ti])] 1;exact⟨0,β4,u',by omega,Nat.zero_le _,fun m y h=>absurd h (Nat.not_lt_zero m),Iu⟩
  rintro k2 a5 w5 ⟨j,β5,u5,rfl,hj,hne,I⟩;refine zv (tm:=zl (zg 59 rgK) u5 0 (rgV (.agg #[.slice (some ⟨ga,offa,none⟩) ps.length cap,B no,.string ap,Z ti]) ps.length i j)) (rows:=[(0,#[.slice (some ⟨ga,offa,none⟩) ps.length cap,B no,.string ap,Z ti])]) (nx:=1) ?_;rcases Nat.lt_or_ge j i with hjl|hjl
  ·obtain⟨y,h2⟩:∃ t,ps[j]? = some t:=⟨_,List.getElem?_eq_getElem (by omega)⟩
   obtain⟨gb,offb,cs2,he2,hlt2,hcb,rfl⟩:=hm j _ h2;cases he2;have hjp:j<ps.length:=by omega
   have hld2:∀ w',Below w.heap.size w w'→(loadVar 9 ⟨ga,offa+j*1,none⟩).run prog w'=.ok (.string y) w':=fun w' hb=>zbh (hcb.keep (hb.block ga hlt))
   refine goZ [klT j i] I fun β6 a6 w6 I hb6=>?_;by_cases hyx:y=x
   ·refine dwT (T:=Below w.heap.size w) 11 [iA 22 underlying22 (sz:=1) (by kernel_rfl) (g:=ga) (off:=offa) (n:=ps.length) (cap:=cap) (i:=j) hjp,ldA 9 hld2,iA 22 underlying22 (sz:=1) (by kernel_rfl) (g:=ga) (off:=offa) (n:=ps.length) (cap:=cap) (i:=i) hil,ldA 9 hld,bO .eql 9 (xp (a:=y) (b:=x) (q:=true) (decide_eq_true hyx))] (zj w) (fun _ h=>h) (zd.then (zd.qk (zd.then (zd.qk zd.post)))) I fun a7 w7 I=>?_;refine goZ [] I fun β8 a8 w8 I hb8=>?_;refine qc ?_;refine @thenR prog (bodyPost prog Tryz.f24 _) _ _ a8 w8 ?_;refine qb (v:=.bool false) I ⟨?_,I.hJ⟩
    have hin:x∈ps.take i:=by
     rw[← hyx];refine List.mem_of_getElem? (i:=j) ?_;rw[List.getElem?_take,if_pos hjl];exact h2
    rw[hfit,uniS_false h1 hin,Bool.and_false]
   ·refine dwT (T:=Below w.heap.size w) 11 [iA 22 underlying22 (sz:=1) (by kernel_rfl) (g:=ga) (off:=offa) (n:=ps.length) (cap:=cap) (i:=j) hjp,ldA 9 hld2,iA 22 underlying22 (sz:=1) (by kernel_rfl) (g:=ga) (off:=offa) (n:=ps.length) (cap:=cap) (i:=i) hil,ldA 9 hld,bO .eql 9 (xp (a:=y) (b:=x) (q:=false) (decide_eq_false hyx))] (zj w) (fun _ h=>h) (zd.then (zd.qk (zd.then (zd.qk zd.post)))) I fun a7 w7 I=>?_;refine goZ [kaZ j 1 (j+1:Nat)] I fun β8 a8 w8 I hb8=>?_
    obtain⟨u',Iu⟩:=I.scr (yn Tryz.f24) (zg 59 rgK) (rgV (.agg #[.slice (some ⟨ga,offa,none⟩) ps.length cap,B no,.string ap,Z ti]) ps.length i (j+1)) [(0,#[.slice (some ⟨ga,offa,none⟩) ps.length cap,B no,.string ap,Z ti])] 1;refine xc ⟨i-(j+1),by omega,j+1,β8,u',rfl,hjl,fun m z hmz hz=>?_,Iu⟩;rcases Nat.lt_or_ge m j with hmj | hmj
    ·exact hne m z hmj hz
    ·obtain rfl:m=j:=by omega
     rw[h2]at hz;cases hz;exact hyx
  ·obtain rfl:j=i:=by omega
   refine goZ [bO .lss 3 (zf (x:=j) (y:=j) (b:=false) (by simp))] I fun β6 a6 w6 I hb6=>?_;refine xg 2 ?_;refine goZ [kaZ j 1 (j+1:Nat)] (I.exit _) fun β7 a7 w7 I hb7=>?_;obtain⟨u',Iu⟩:=I.scr (zc Tryz.f24) (zg 59 rfK) (rfV (.agg #[.slice (some ⟨ga,offa,none⟩) ps.length cap,B no,.string ap,Z ti]) ps.length (j+1)) [(0,#[.slice (some ⟨ga,offa,none⟩) ps.length cap,B no,.string ap,Z ti])] 1;refine xc ⟨ps.length-(j+1),by omega,j+1,β7,u',rfl,hil,fun m z hmz hz=>?_,Iu⟩;rcases Nat.lt_or_ge m j with hmj | hmj
   ·exact hok m z hmj hz
   ·obtain rfl:m=j:=by omega
    rw[h1]at hz;cases hz;refine⟨hx,fun hin=>?_⟩;obtain⟨q,hq⟩:=List.mem_iff_getElem?.1 hin;rw[List.getElem?_take]at hq;split at hq
    ·next hqm=>exact hne q x hqm hq rfl
    ·cases hq
 ·obtain rfl:i=ps.length:=by omega
  refine goZ [bO .lss 3 (zf (x:=ps.length) (y:=ps.length) (b:=false) (by simp))] I fun β4 a4 w4 I hb4=>?_;refine xg 0 ?_;refine goZ [] (I.exit _) fun β5 a5 w5 I hb5=>?_;refine zh (v:=.bool true) I ⟨?_,I.hJ⟩;have e1:ps.all (fun s=>decide (s.size=20))=true:=by
   rw[List.all_eq_true];intro y hy;obtain⟨j,hj⟩:=List.mem_iff_getElem?.1 hy;exact decide_eq_true (hok j y (List.getElem?_eq_some_iff.1 hj).1 hj).1
  rw[hfit,e1,uniS_true fun j y hj=>(hok j y (List.getElem?_eq_some_iff.1 hj).1 hj).2];rfl
theorem sz_zero{b:ByteArray}:b=⟨#[]⟩↔b.size=0:=by
 obtain⟨⟨l⟩⟩:=b;constructor
 ·intro h;rw[h];rfl
 ·intro h;have:l.length=0:=h;rw[List.length_eq_zero_iff]at this;rw[this]
theorem rfitAlloc_any(a:Al){w:World}:Calls prog 81 #[.agg (al8 a).toArray] w fun e w'=>e=.returned (.bool (fitA a))∧Below w.heap.size w w':=by
 obtain⟨de,am,kd,le,ri⟩:=a;have hfit:fitA (de,am,kd,le,ri)=(sideK kd&&decide ((de.size:Int)=32)&&decide ((le.size:Int)=v9 kd)&&decide ((ri.size:Int)=v9 kd)):=rfl;refine inZ func81 fun a I=>?_;by_cases q1:¬ de.size=32
 ·refine goZ [lO underlying9 (b:=de) (n:=de.size) rfl,knT de.size 32] I fun β a w1 I hb=>?_;exact zh (v:=.bool false) I ⟨by rw[hfit,decide_eq_false (show ¬ (de.size:Int)=32 by omega)];simp,I.hJ⟩
 have q1:=Classical.not_not.1 q1;rw[decide_eq_true (show(de.size:Int)=32 by omega)]at hfit;by_cases k0:kd=0
 ·subst k0;have hs:v9 0=0:=rfl;rw[hs]at hfit;by_cases l0:le=⟨#[]⟩
  ·by_cases r0:ri=⟨#[]⟩
   ·refine goZ [lO underlying9 (b:=de) (n:=de.size) rfl,knF de.size 32,bO .eql 3 (z8 (x:=0) (y:=0) (b:=true) rfl),bO .eql 9 (xp (a:=le) (b:=⟨#[]⟩) (q:=true) (decide_eq_true l0)),bO .eql 9 (xp (a:=ri) (b:=⟨#[]⟩) (q:=true) (decide_eq_true r0))] I fun β a w1 I hb=>?_;exact zh (v:=.bool true) I ⟨by rw[hfit,decide_eq_true (show(le.size:Int)=0 by have:=sz_zero.1 l0;omega),decide_eq_true (show(ri.size:Int)=0 by have:=sz_zero.1 r0;omega)];rfl,I.hJ⟩
   ·refine goZ [lO underlying9 (b:=de) (n:=de.size) rfl,knF de.size 32,bO .eql 3 (z8 (x:=0) (y:=0) (b:=true) rfl),bO .eql 9 (xp (a:=le) (b:=⟨#[]⟩) (q:=true) (decide_eq_true l0)),bO .eql 9 (xp (a:=ri) (b:=⟨#[]⟩) (q:=false) (decide_eq_false r0))] I fun β a w1 I hb=>?_;exact zh (v:=.bool false) I ⟨by rw[hfit,decide_eq_false (show ¬ (ri.size:Int)=0 from fun h=>r0 (sz_zero.2 (by omega)))];simp,I.hJ⟩
  ·refine goZ [lO underlying9 (b:=de) (n:=de.size) rfl,knF de.size 32,bO .eql 3 (z8 (x:=0) (y:=0) (b:=true) rfl),bO .eql 9 (xp (a:=le) (b:=⟨#[]⟩) (q:=false) (decide_eq_false l0))] I fun β a w1 I hb=>?_;exact zh (v:=.bool false) I ⟨by rw[hfit,decide_eq_false (show ¬ (le.size:Int)=0 from fun h=>l0 (sz_zero.2 (by omega)))];simp,I.hJ⟩
 by_cases k1:kd=1
 ·subst k1;have hs:v9 1=32:=rfl;rw[hs]at hfit;by_cases l0:le.size=32
  ·by_cases r0:ri.size=32
   ·refine goZ [lO underlying9 (b:=de) (n:=de.size) rfl,knF de.size 32,bO .eql 3 (z8 (x:=1) (y:=0) (b:=false) rfl),bO .eql 3 (z8 (x:=1) (y:=1) (b:=true) rfl),lO underlying9 (b:=le) (n:=le.size) rfl,keT le.size 32,lO underlying9 (b:=ri) (n:=ri.size) rfl,keT ri.size 32] I fun β a w1 I hb=>?_;exact zh (v:=.bool true) I ⟨by rw[hfit,decide_eq_true (show(le.size:Int)=32 by omega),decide_eq_true (show(ri.size:Int)=32 by omega)];rfl,I.hJ⟩
   ·refine goZ [lO underlying9 (b:=de) (n:=de.size) rfl,knF de.size 32,bO .eql 3 (z8 (x:=1) (y:=0) (b:=false) rfl),bO .eql 3 (z8 (x:=1) (y:=1) (b:=true) rfl),lO underlying9 (b:=le) (n:=le.size) rfl,keT le.size 32,lO underlying9 (b:=ri) (n:=ri.size) rfl,keF ri.size 32] I fun β a w1 I hb=>?_;exact zh (v:=.bool false) I ⟨by rw[hfit,decide_eq_false (show ¬ (ri.size:Int)=32 by omega)];simp,I.hJ⟩
  ·refine goZ [lO underlying9 (b:=de) (n:=de.size) rfl,knF de.size 32,bO .eql 3 (z8 (x:=1) (y:=0) (b:=false) rfl),bO .eql 3 (z8 (x:=1) (y:=1) (b:=true) rfl),lO underlying9 (b:=le) (n:=le.size) rfl,keF le.size 32] I fun β a w1 I hb=>?_;exact zh (v:=.bool false) I ⟨by rw[hfit,decide_eq_false (show ¬ (le.size:Int)=32 by omega)];simp,I.hJ⟩
 have hk:sideK kd=false:=decide_eq_false fun h=>h.elim k0 k1
 refine goZ [lO underlying9 (b:=de) (n:=de.size) rfl,knF de.size 32,bO .eql 3 (z8 (x:=kd) (y:=0) (b:=false) (decide_eq_false k0)),bO .eql 3 (z8 (x:=kd) (y:=1) (b:=false) (decide_eq_false k1))] I fun β a w1 I hb=>?_;exact zh (v:=.bool false) I ⟨by rw[hfit,hk];rfl,I.hJ⟩
section
variable {P:Program} {J:World→Prop} {F:Nat→Prop} {ds:List Deferred} {β:Nat→Nat} {c:Cf} {a:Act} {w:World} {Q:Exit→Act→World→Prop}
abbrev cfK (c:Cf) (tm:Vs) (rows:Rows) (nx:Nat):Cf:={ ops:=z9 c,rest:=[],ks:=ksD c,tm:=tm,rows:=rows,nx:=nx,dn:=none }
theorem meet(I:SI J F ds β c a w)(H:Prop)(X:Cf→(Nat→Value)→Cf)(D:H→∀ u a' w',SI J F ds β (X c u) a' w'→At P Q (X c u) a' w')(k:(H→∀ u a' w',SI J F ds β (X c u) a' w'→At P Q (X c u) a' w')→At P Q c a w):At P Q c a w:=k D
theorem at_code{c1 c2:Cf}(h:At P Q c2 a w)(he:(c1.ops,c1.rest,c1.ks,c1.dn)=(c2.ops,c2.rest,c2.ks,c2.dn):=by kernel_rfl):At P Q c1 a w:=by
 simp only[Prod.mk.injEq]at he;refine⟨?_⟩;have:=h.out;unfold AtD at this ⊢;rw[he.1,he.2.1,he.2.2.1,he.2.2.2];exact this
theorem SI.code{x:Code}{tm:Vs}{rows:Rows}{nx:Nat}(I:SI J F ds β (cfC x tm rows nx) a w)(c:Cf):SI J F ds β (cfK c tm rows nx) a w:=⟨I.fr,I.df,I.hJ,I.row,I.dis,I.lt,I.inj,I.ids⟩
end
theorem loadAm{w:World}{g o:Nat}{a:Al}(h:zo w g o (al8 a)):(loadVar 57 ⟨g,o+1,none⟩).run prog w=.ok (U a.2.1) w:=by
 have h4:zo w g (o+1) [B (l0 a.2.1),B (l1 a.2.1),B (l2 a.2.1),B (l3 a.2.1)]:=fun j c hj=>by
  have:=h (1+j) c (by
   match j,hj with
   | 0,hj=>exact hj
   | 1,hj=>exact hj
   | 2,hj=>exact hj
   | 3,hj=>exact hj)
  rw[show o+1+j=o+(1+j) by omega];exact this
 exact loadN underlying57 rfl (n:=4) (by kernel_rfl) rfl h4
abbrev rxK:List Nat:=[0,2,3]
abbrev rxV (ev:Value) (i:Nat):Vs:=frm 90 [(0,Sum.inl ev),(2,Sum.inl (.bool false)),(3,Sum.inl (Z i))]
abbrev rjK:List Nat:=[0,2,3,50]
abbrev rjV (ev:Value) (i:Nat):Vs:=frm 90 [(0,Sum.inl ev),(2,Sum.inl (.bool false)),(3,Sum.inl (Z i)),(50,Sum.inl (.bool false))]
abbrev rhK:List Nat:=[0,2,3,4,5]
abbrev rhV (ev:Value) (i j:Nat):Vs:=frm 90 [(0,Sum.inl ev),(2,Sum.inl (.bool false)),(3,Sum.inl (Z i)),(4,Sum.inr (0,0)),(5,Sum.inl (Z j))]
theorem rfitExits_any{w:World}{ev:Value}{l:List Ex}(h:ExI w ev l)(hla:∀ x∈l,x.2.length<1000000000)(hl:l.length<1000000000):Calls prog 54 #[ev] w fun e w'=>e=.returned (.bool (ql l))∧Below w.heap.size w w':=by
 obtain⟨ad,cap,rfl,hm⟩:=h;refine inZ func54 fun a I=>?_;by_cases q1:3<l.length
 ·refine goZ [lS underlying26 (ad:=ad) (n:=l.length) (cap:=cap) rfl,kgT l.length 3] I fun β a w1 I hb=>?_;exact zh (v:=.bool false) I ⟨by unfold ql;rw[decide_eq_false (by omega)];rfl,I.hJ⟩
 refine goZ [lS underlying26 (ad:=ad) (n:=l.length) (cap:=cap) rfl,kgF l.length 3] I fun β a w1 I hb=>?_
 let St:Nat→Act→World→Prop:=fun k a w'=>∃(i:Nat) (β:Nat→Nat) (u:Nat→Value),k=l.length-i∧i≤l.length∧(∀ j x,j<i→l[j]? = some x→fitE x=true)∧(∀ j x y,j+1<i→l[j]? = some x→l[j+1]? = some y→ltB x.1 y.1=true) ∧
  SI (Below w.heap.size w) (· < w.heap.size) [] β (cfC (zc Tryz.f54) (zl (zg 90 rxK) u 0 (rxV (.slice ad l.length cap) i)) [] 0) a w'
 refine lpM (zc Tryz.f54) St l.length ?_ ?_
 ·obtain⟨u,Iu⟩:=I.scr (zc Tryz.f54) (zg 90 rxK) (rxV (.slice ad l.length cap) 0) [] 0;exact⟨0,β,u,by omega,Nat.zero_le _,fun j x h=>absurd h (Nat.not_lt_zero j),fun j x y h=>absurd h (Nat.not_lt_zero _),Iu⟩
 rintro k a3 w3 ⟨i,β3,u,rfl,hi,hok,hri,I⟩;refine zv (tm:=zl (zg 90 rxK) u 0 (rxV (.slice ad l.length cap) i)) (rows:=[]) (nx:=0) ?_;rcases Nat.lt_or_ge i l.length with hil|hil
 ·obtain⟨⟨sa,al⟩,h1⟩:∃ t,l[i]? = some t:=⟨_,List.getElem?_eq_getElem hil⟩
  obtain⟨ga,offa,cs,rfl,hlt,hca,av,rfl,hAl⟩:=hm i _ h1;have hal:al.length<1000000000:=hla _ (List.mem_of_getElem? h1);obtain⟨ada,capa,rfl,hma⟩:=hAl;simp only[]at hca hma;have hldA:∀ w',Below w.heap.size w w'→(loadVar 9 ⟨ga,offa+i*2+0,none⟩).run prog w'=.ok (.string sa) w':=fun w' hb=>xk (hca.keep (hb.block ga hlt)) 0 rfl 9 underlying9 rfl
  have hldL:∀ w',Below w.heap.size w w'→(loadVar 45 ⟨ga,offa+i*2+1,none⟩).run prog w'=.ok (.slice ada al.length capa) w':=fun w' hb=>xk (hca.keep (hb.block ga hlt)) 1 rfl 45 underlying45 rfl
  have bad:fitE (sa,al)=false→ql l=false:=fun hq=>by
   have:l.all fitE=false:=by rw[List.all_eq_false];exact⟨_,List.mem_of_getElem? h1,by simp[hq]⟩
   unfold ql;rw[this,Bool.and_false]
  have hfe:fitE (sa,al)=(decide (sa.size=20)&&decide (al.length≤8)&&al.all fitA&&decide (sumA al<W)):=rfl;refine goT (T:=Below w.heap.size w) [lS underlying26 (ad:=some ⟨ga,offa,none⟩) (n:=l.length) (cap:=cap) rfl,klT i l.length] (zj w) (fun _ h=>h) I fun β4 a4 w4 I hb4=>?_;by_cases s20:¬ sa.size=20
  ·refine dwT (T:=Below w.heap.size w) 34 [iA 26 underlying26 (sz:=2) (by kernel_rfl) (g:=ga) (off:=offa) (n:=l.length) (cap:=cap) (i:=i) hil,ldA 9 hldA,lO underlying9 (b:=sa) (n:=sa.size) rfl,knT sa.size 20] (zj w) (fun _ h=>h) (zd.then (zd.qk zd.post)) I fun a5 w5 I=>?_;refine goZ [] I fun β6 a6 w6 I hb6=>?_;exact qc (qb (v:=.bool false) I ⟨by rw[bad (by rw[hfe,decide_eq_false s20];rfl)],I.hJ⟩)
  have s20:=Classical.not_not.1 s20;rw[decide_eq_true s20,Bool.true_and]at hfe;refine meet I (al.length≤8∧∀ x,0<i→l[i-1]? = some x→ltB x.1 sa=true) (fun c u=>cfK c (zl (zg 90 rjK) u 0 (rjV (.slice (some ⟨ga,offa,none⟩) l.length cap) i)) [] 0) ?_ fun D=>?_
  rotate_left
  ·rcases Nat.eq_zero_or_pos i with hi0|hi0
   ·subst hi0;by_cases a8:8<al.length
    ·refine dwT (T:=Below w.heap.size w) 34 [iA 26 underlying26 (sz:=2) (by kernel_rfl) (g:=ga) (off:=offa) (n:=l.length) (cap:=cap) (i:=0) hil,ldA 9 hldA,lO underlying9 (b:=sa) (n:=sa.size) rfl,knF sa.size 20,bO .gtr 3 (zu (x:=(0:Nat)) (y:=0) (b:=false) (by simp)),iA 26 underlying26 (sz:=2) (by kernel_rfl) (g:=ga) (off:=offa) (n:=l.length) (cap:=cap) (i:=0) hil,ldA 45 hldL,lS underlying45 (ad:=ada) (n:=al.length) (cap:=capa) rfl,kgT al.length 8] (zj w) (fun _ h=>h) (zd.then (zd.qk zd.post)) I fun a5 w5 I=>?_;refine goZ [] I fun β6 a6 w6 I hb6=>?_
     exact qc (qb (v:=.bool false) I ⟨by rw[bad (by rw[hfe,decide_eq_false (show ¬ al.length≤8 by omega)];rfl)],I.hJ⟩)
    ·refine dwT (T:=Below w.heap.size w) 34 [iA 26 underlying26 (sz:=2) (by kernel_rfl) (g:=ga) (off:=offa) (n:=l.length) (cap:=cap) (i:=0) hil,ldA 9 hldA,lO underlying9 (b:=sa) (n:=sa.size) rfl,knF sa.size 20,bO .gtr 3 (zu (x:=(0:Nat)) (y:=0) (b:=false) (by simp)),iA 26 underlying26 (sz:=2) (by kernel_rfl) (g:=ga) (off:=offa) (n:=l.length) (cap:=cap) (i:=0) hil,ldA 45 hldL,lS underlying45 (ad:=ada) (n:=al.length) (cap:=capa) rfl,kgF al.length 8] (zj w) (fun _ h=>h) (zd.then (zd.qk zd.post)) I fun a5 w5 I=>?_
     obtain⟨u',Iu⟩:=I.scr (zc Tryz.f54) (zg 90 rjK) (rjV (.slice (some ⟨ga,offa,none⟩) l.length cap) 0) [] 0;exact at_code (D ⟨by omega,fun x h=>absurd h (Nat.lt_irrefl 0)⟩ u' a5 w5 (Iu.code _))
   ·obtain⟨⟨sb,bl⟩,h2⟩:∃ t,l[i-1]? = some t:=⟨_,List.getElem?_eq_getElem (by omega)⟩
    obtain⟨gb,offb,cs2,he2,hlt2,hcb,bv,rfl,hBl⟩:=hm (i-1) _ h2;cases he2;simp only[]at hcb;have hld2:∀ w',Below w.heap.size w w'→(loadVar 9 ⟨ga,offa+(i-1)*2+0,none⟩).run prog w'=.ok (.string sb) w':=fun w' hb=>xk (hcb.keep (hb.block ga hlt)) 0 rfl 9 underlying9 rfl
    have hii:i-1<l.length:=by omega
    cases hq:ltB sb sa with
    | false=>
     refine dwT (T:=Below w.heap.size w) 34 [iA 26 underlying26 (sz:=2) (by kernel_rfl) (g:=ga) (off:=offa) (n:=l.length) (cap:=cap) (i:=i) hil,ldA 9 hldA,lO underlying9 (b:=sa) (n:=sa.size) rfl,knF sa.size 20,kgT i 0,ksZ i 1 (i-1:Nat),iA 26 underlying26 (sz:=2) (by kernel_rfl) (g:=ga) (off:=offa) (n:=l.length) (cap:=cap) (i:=i-1) hii,ldA 9 hld2,iA 26 underlying26 (sz:=2) (by kernel_rfl) (g:=ga) (off:=offa) (n:=l.length) (cap:=cap) (i:=i) hil,ldA 9 hldA,bO .geq 9 (zc2 (a:=sb) (b:=sa) (q:=true) (by rw[hq];rfl))] (zj w) (fun _ h=>h) (zd.then (zd.qk zd.post)) I fun a5 w5 I=>?_
     refine goZ [] I fun β6 a6 w6 I hb6=>?_;refine qc (qb (v:=.bool false) I ⟨?_,I.hJ⟩);have:risB l=false:=by
      cases hr:risB l with
      | false=>rfl
      | true=>
       have:=zc7.1 hr (i-1) _ _ h2 (by rw[show i-1+1=i by omega];exact h1);rw[hq]at this;cases this
     unfold ql;rw[this,Bool.and_false,Bool.false_and]
    | true=>
     by_cases a8:8<al.length
     ·refine dwT (T:=Below w.heap.size w) 34 [iA 26 underlying26 (sz:=2) (by kernel_rfl) (g:=ga) (off:=offa) (n:=l.length) (cap:=cap) (i:=i) hil,ldA 9 hldA,lO underlying9 (b:=sa) (n:=sa.size) rfl,knF sa.size 20,kgT i 0,ksZ i 1 (i-1:Nat),iA 26 underlying26 (sz:=2) (by kernel_rfl) (g:=ga) (off:=offa) (n:=l.length) (cap:=cap) (i:=i-1) hii,ldA 9 hld2,iA 26 underlying26 (sz:=2) (by kernel_rfl) (g:=ga) (off:=offa) (n:=l.length) (cap:=cap) (i:=i) hil,ldA 9 hldA,bO .geq 9 (zc2 (a:=sb) (b:=sa) (q:=false) (by rw[hq];rfl)),iA 26 underlying26 (sz:=2) (by kernel_rfl) (g:=ga) (off:=offa) (n:=l.length) (cap:=cap) (i:=i) hil,ldA 45 hldL,lS underlying45 (ad:=ada) (n:=al.length) (cap:=capa) rfl,kgT al.length 8] (zj w) (fun _ h=>h) (zd.then (zd.qk zd.post)) I fun a5 w5 I=>?_
      refine goZ [] I fun β6 a6 w6 I hb6=>?_;exact qc (qb (v:=.bool false) I ⟨by rw[bad (by rw[hfe,decide_eq_false (show ¬ al.length≤8 by omega)];rfl)],I.hJ⟩)
     ·refine dwT (T:=Below w.heap.size w) 34 [iA 26 underlying26 (sz:=2) (by kernel_rfl) (g:=ga) (off:=offa) (n:=l.length) (cap:=cap) (i:=i) hil,ldA 9 hldA,lO underlying9 (b:=sa) (n:=sa.size) rfl,knF sa.size 20,kgT i 0,ksZ i 1 (i-1:Nat),iA 26 underlying26 (sz:=2) (by kernel_rfl) (g:=ga) (off:=offa) (n:=l.length) (cap:=cap) (i:=i-1) hii,ldA 9 hld2,iA 26 underlying26 (sz:=2) (by kernel_rfl) (g:=ga) (off:=offa) (n:=l.length) (cap:=cap) (i:=i) hil,ldA 9 hldA,bO .geq 9 (zc2 (a:=sb) (b:=sa) (q:=false) (by rw[hq];rfl)),iA 26 underlying26 (sz:=2) (by kernel_rfl) (g:=ga) (off:=offa) (n:=l.length) (cap:=cap) (i:=i) hil,ldA 45 hldL,lS underlying45 (ad:=ada) (n:=al.length) (cap:=capa) rfl,kgF al.length 8] (zj w) (fun _ h=>h) (zd.then (zd.qk zd.post)) I fun a5 w5 I=>?_
      obtain⟨u',Iu⟩:=I.scr (zc Tryz.f54) (zg 90 rjK) (rjV (.slice (some ⟨ga,offa,none⟩) l.length cap) i) [] 0;exact at_code (D ⟨by omega,fun x _ hx=>by rw[h2]at hx;cases hx;exact hq⟩ u' a5 w5 (Iu.code _))
  ·rintro⟨a8,hlb⟩ u5 a5 w5 I;rw[decide_eq_true a8,Bool.true_and]at hfe;refine goZ [dO 57 [] bd_Uz] I fun β6 a6 w6 I hb6=>?_
   let St2:Nat→Act→World→Prop:=fun k a w'=>∃(j V:Nat) (β:Nat→Nat) (u:Nat→Value),k=al.length-j∧j≤al.length∧V=sumA (al.take j)∧V<W∧(∀ m y,m<j→al[m]? = some y→fitA y=true) ∧
    SI (Below w.heap.size w) (· < w.heap.size) [] β (cfC (yn Tryz.f54) (zl (zg 90 rhK) u 0 (rhV (.slice (some ⟨ga,offa,none⟩) l.length cap) i j)) [(0,rU V)] 1) a w'
   refine lpM (yn Tryz.f54) St2 al.length ?_ ?_
   ·obtain⟨u',Iu⟩:=I.scr (yn Tryz.f54) (zg 90 rhK) (rhV (.slice (some ⟨ga,offa,none⟩) l.length cap) i 0) [(0,rU 0)] 1;exact⟨0,0,β6,u',by omega,Nat.zero_le _,rfl,by decide,fun m y h=>absurd h (Nat.not_lt_zero m),Iu⟩
   rintro k2 a7 w7 ⟨j,V,β7,u7,rfl,hj,hV,hVW,hAok,I⟩;refine zv (tm:=zl (zg 90 rhK) u7 0 (rhV (.slice (some ⟨ga,offa,none⟩) l.length cap) i j)) (rows:=[(0,rU V)]) (nx:=1) ?_;rcases Nat.lt_or_ge j al.length with hjl|hjl
   ·obtain⟨⟨de,am,kd,le,ri⟩,h3⟩:∃ t,al[j]? = some t:=⟨_,List.getElem?_eq_getElem hjl⟩
    obtain⟨gb,offb,cs2,rfl,hlt2,hcb,rfl,ham⟩:=hma j _ h3;have hst:sumA (al.take (j+1))=V+am:=by rw[sumA_take h3,← hV]
    have hsl:=sumA_le (l:=al) (j+1);rw[hst]at hsl;have hld59:∀ w',Below w.heap.size w w'→(loadVar 133 ⟨gb,offb+j*8,none⟩).run prog w'=.ok (.agg (al8 (de,am,kd,le,ri)).toArray) w':=fun w' hb=>zb5 (hcb.keep (hb.block gb hlt2))
    have hld33:∀ w',Below w.heap.size w w'→(loadVar 57 ⟨gb,offb+j*8+1,none⟩).run prog w'=.ok (U am) w':=fun w' hb=>loadAm (a:=(de,am,kd,le,ri)) (hcb.keep (hb.block gb hlt2))
    refine goT (T:=Below w.heap.size w) [iA 26 underlying26 (sz:=2) (by kernel_rfl) (g:=ga) (off:=offa) (n:=l.length) (cap:=cap) (i:=i) hil,ldA 45 hldL,lS underlying45 (ad:=some ⟨gb,offb,none⟩) (n:=al.length) (cap:=capa) rfl,klT j al.length] (zj w) (fun _ h=>h) I fun β8 a8 w8 I hb8=>?_;by_cases hov:V+am<W
    ·have hA:∀ w',Below w.heap.size w w'→Calls prog 80 #[U V,U am] w' fun e w''=>e=.returned (.tuple #[U (V+am),.bool false])∧Below w'.heap.size w' w'':=fun w' _=>by
      have:=radd_any V am hVW ham w'
      rwa [show addW V am=V+am from Nat.mod_eq_of_lt hov,show ovW V am=false from decide_eq_false (by omega)]at this
     have hF:∀ w',Below w.heap.size w w'→Calls prog 81 #[.agg (al8 (de,am,kd,le,ri)).toArray] w' fun e w''=>e=.returned (.bool (fitA (de,am,kd,le,ri)))∧Below w'.heap.size w' w'':=fun w' _=>rfitAlloc_any _
     obtain⟨V2,hV2⟩:∃ x,V+am=x:=⟨_,rfl⟩
     rw[hV2]at hA hst hov;refine dwA (T:=Below w.heap.size w) 14 15 6 74 V2 [iA 26 underlying26 (sz:=2) (by kernel_rfl) (g:=ga) (off:=offa) (n:=l.length) (cap:=cap) (i:=i) hil,ldA 45 hldL,iA 45 underlying45 (sz:=8) (by kernel_rfl) (g:=gb) (off:=offb) (n:=al.length) (cap:=capa) (i:=j) hjl,ldA 57 hld33,cA func80 hA] (zj w) (fun _ h=>h) I fun b vs β9 a9 w9 hag I=>?_;cases hq:fitA (de,am,kd,le,ri)with
     | false=>
      rw[hq]at hF;refine goT (T:=Below w.heap.size w) [iA 26 underlying26 (sz:=2) (by kernel_rfl) (g:=ga) (off:=offa) (n:=l.length) (cap:=cap) (i:=i) hil,ldA 45 hldL,iA 45 underlying45 (sz:=8) (by kernel_rfl) (g:=gb) (off:=offb) (n:=al.length) (cap:=capa) (i:=j) hjl,ldA 133 hld59,cA func81 hF,uO .not (p:=.bool false) (v:=.bool true) (by intros;rfl)] (zj w) (fun _ h=>h) I fun β10 a10 w10 I hb10=>?_;refine qc ?_;refine @thenR prog (bodyPost prog Tryz.f54 _) _ _ a10 w10 ?_;refine qb (v:=.bool false) I ⟨?_,I.hJ⟩;rw[bad]
      have:al.all fitA=false:=by rw[List.all_eq_false];exact⟨_,List.mem_of_getElem? h3,by simp[hq]⟩
      rw[hfe,this];rfl
     | true=>
      rw[hq]at hF;refine goT (T:=Below w.heap.size w) [iA 26 underlying26 (sz:=2) (by kernel_rfl) (g:=ga) (off:=offa) (n:=l.length) (cap:=cap) (i:=i) hil,ldA 45 hldL,iA 45 underlying45 (sz:=8) (by kernel_rfl) (g:=gb) (off:=offb) (n:=al.length) (cap:=capa) (i:=j) hjl,ldA 133 hld59,cA func81 hF,uO .not (p:=.bool true) (v:=.bool false) (by intros;rfl),kaZ j 1 (j+1:Nat)] (zj w) (fun _ h=>h) I fun β10 a10 w10 I hb10=>?_;obtain⟨u',Iu⟩:=I.scr (yn Tryz.f54) (zg 90 rhK) (rhV (.slice (some ⟨ga,offa,none⟩) l.length cap) i (j+1)) [(0,rU V2)] 1
      refine xc ⟨al.length-(j+1),by omega,j+1,V2,β10,u',rfl,hjl,hst.symm,hov,fun m z hmz hz=>?_,Iu⟩;rcases Nat.lt_or_ge m j with hmj | hmj
      ·exact hAok m z hmj hz
      ·obtain rfl:m=j:=by omega
       rw[h3]at hz;cases hz;exact hq
    ·have hA:∀ w',Below w.heap.size w w'→Calls prog 80 #[U V,U am] w' fun e w''=>e=.returned (.tuple #[U (addW V am),.bool true])∧Below w'.heap.size w' w'':=fun w' _=>by
      have:=radd_any V am hVW ham w'
      rwa [show ovW V am=true from decide_eq_true (by omega)]at this
     obtain⟨V2,hV2⟩:∃ x,addW V am=x:=⟨_,rfl⟩
     rw[hV2]at hA;refine dwA (T:=Below w.heap.size w) 14 15 6 74 V2 [iA 26 underlying26 (sz:=2) (by kernel_rfl) (g:=ga) (off:=offa) (n:=l.length) (cap:=cap) (i:=i) hil,ldA 45 hldL,iA 45 underlying45 (sz:=8) (by kernel_rfl) (g:=gb) (off:=offb) (n:=al.length) (cap:=capa) (i:=j) hjl,ldA 57 hld33,cA func80 hA] (zj w) (fun _ h=>h) I fun b vs β9 a9 w9 hag I=>?_;refine goZ [] I fun β10 a10 w10 I hb10=>?_;refine qc ?_;refine @thenR prog (bodyPost prog Tryz.f54 _) _ _ a10 w10 ?_;refine qb (v:=.bool false) I ⟨?_,I.hJ⟩;rw[bad]
     rw[hfe,decide_eq_false (show ¬ sumA al<W by omega),Bool.and_false]
   ·obtain rfl:j=al.length:=by omega
    refine goT (T:=Below w.heap.size w) [iA 26 underlying26 (sz:=2) (by kernel_rfl) (g:=ga) (off:=offa) (n:=l.length) (cap:=cap) (i:=i) hil,ldA 45 hldL,lS underlying45 (ad:=ada) (n:=al.length) (cap:=capa) rfl,bO .lss 3 (zf (x:=al.length) (y:=al.length) (b:=false) (by simp))] (zj w) (fun _ h=>h) I fun β8 a8 w8 I hb8=>?_;refine xg 2 ?_;refine goZ [kaZ i 1 (i+1:Nat)] (I.exit _) fun β9 a9 w9 I hb9=>?_;obtain⟨u',Iu⟩:=I.scr (zc Tryz.f54) (zg 90 rxK) (rxV (.slice (some ⟨ga,offa,none⟩) l.length cap) (i+1)) [] 0;have hfe1:fitE (sa,al)=true:=by
     rw[List.take_length]at hV;rw[hfe,decide_eq_true (show sumA al<W by omega),Bool.and_true,List.all_eq_true];intro y hy;obtain⟨m,hm'⟩:=List.mem_iff_getElem?.1 hy;exact hAok m y (List.getElem?_eq_some_iff.1 hm').1 hm'
    refine xc ⟨l.length-(i+1),by omega,i+1,β9,u',rfl,hil,fun m z hmz hz=>?_,fun m x y hmz hx hy=>?_,Iu⟩
    ·rcases Nat.lt_or_ge m i with hmj|hmj
     ·exact hok m z hmj hz
     ·obtain rfl:m=i:=by omega
      rw[h1]at hz;cases hz;exact hfe1
    ·rcases Nat.lt_or_ge (m+1) i with hmj|hmj
     ·exact hri m x y hmj hx hy
     ·obtain rfl:i=m+1:=by omega
      rw[h1]at hy;cases hy;exact hlb x (Nat.succ_pos _) hx
 ·obtain rfl:i=l.length:=by omega
  refine goZ [lS underlying26 (ad:=ad) (n:=l.length) (cap:=cap) rfl,bO .lss 3 (zf (x:=l.length) (y:=l.length) (b:=false) (by simp))] I fun β4 a4 w4 I hb4=>?_;refine xg 0 ?_;refine goZ [] (I.exit _) fun β5 a5 w5 I hb5=>?_;refine zh (v:=.bool true) I ⟨?_,I.hJ⟩;have e1:l.all fitE=true:=by
   rw[List.all_eq_true];intro y hy;obtain⟨j,hj⟩:=List.mem_iff_getElem?.1 hy;exact hok j y (List.getElem?_eq_some_iff.1 hj).1 hj
  have e2:risB l=true:=zc7.2 fun j x y hx hy=>hri j x y (List.getElem?_eq_some_iff.1 hy).1 hx hy
  unfold ql;rw[e1,e2,decide_eq_true (show l.length≤3 by omega)];rfl
def eqP (l m:List ByteArray):Bool:=decide (l=m)
def eqF (f g:Fi):Bool:=decide (f.2.1=g.2.1)&&decide (f.2.2.1=g.2.2.1)&&decide (f.2.2.2=g.2.2.2)&&eqP f.1 g.1
theorem eqF_iff{f g:Fi}:eqF f g=true↔f=g:=by
 obtain⟨p1,n1,a1,t1⟩:=f;obtain⟨p2,n2,a2,t2⟩:=g;unfold eqF eqP;simp only[Bool.and_eq_true,decide_eq_true_eq,Prod.mk.injEq];exact⟨fun⟨⟨⟨h1,h2⟩,h3⟩,h4⟩=>⟨h4,h1,h2,h3⟩,fun⟨h1,h2,h3,h4⟩=>⟨⟨⟨h2,h3⟩,h4⟩,h1⟩⟩
abbrev qfK:List Nat:=[0,1,2,3,4,5]
abbrev qfV (f1 f2:Value) (i:Nat):Vs:=frm 52 [(0,Sum.inl f1),(1,Sum.inl f2),(2,Sum.inr (0,0)),(3,Sum.inr (1,0)),(4,Sum.inl (.bool false)),(5,Sum.inl (Z i))]
theorem rsame_fixed{w:World}{f g:Fi}{pf pg:Value}(hf:StI w pf f.1)(hg:StI w pg g.1)(hl:f.1.length<1000000000):Calls prog 35 #[qm f pf,qm g pg] w fun e w'=>e=.returned (.bool (eqF f g))∧Below w.heap.size w w':=by
 obtain⟨p1,n1,a1,t1⟩:=f;obtain⟨p2,n2,a2,t2⟩:=g;obtain⟨ad,cap,rfl,hm⟩:=hf;obtain⟨ad2,cap2,rfl,hm2⟩:=hg;simp only[]at hm hm2 hl;have he:eqF (p1,n1,a1,t1) (p2,n2,a2,t2)=(decide (n1=n2)&&decide (a1=a2)&&decide (t1=t2)&&decide (p1=p2)):=rfl;refine inZ func35 fun a I=>?_;by_cases h1:¬ n1=n2
 ·refine goZ [bO .neq 23 (qw (x:=n1) (y:=n2) (q:=true) (decide_eq_true h1))] I fun β a w1 I hb=>?_;exact zh (v:=.bool false) I ⟨by rw[he,decide_eq_false h1];simp,I.hJ⟩
 have h1:=Classical.not_not.1 h1;by_cases h2:¬ a1=a2
 ·refine goZ [bO .neq 23 (qw (x:=n1) (y:=n2) (q:=false) (decide_eq_false (not_not_intro h1))),bO .neq 9 (xr (a:=a1) (b:=a2) (q:=true) (decide_eq_true h2))] I fun β a w1 I hb=>?_;exact zh (v:=.bool false) I ⟨by rw[he,decide_eq_false h2];simp,I.hJ⟩
 have h2:=Classical.not_not.1 h2;by_cases h3:¬ t1=t2
 ·refine goZ [bO .neq 23 (qw (x:=n1) (y:=n2) (q:=false) (decide_eq_false (not_not_intro h1))),bO .neq 9 (xr (a:=a1) (b:=a2) (q:=false) (decide_eq_false (not_not_intro h2))),bO .neq 3 (yk (x:=t1) (y:=t2) (b:=true) (decide_eq_true h3))] I fun β a w1 I hb=>?_;exact zh (v:=.bool false) I ⟨by rw[he,decide_eq_false h3];simp,I.hJ⟩
 have h3:=Classical.not_not.1 h3;by_cases h4:¬ p1.length=p2.length
 ·refine goZ [bO .neq 23 (qw (x:=n1) (y:=n2) (q:=false) (decide_eq_false (not_not_intro h1))),bO .neq 9 (xr (a:=a1) (b:=a2) (q:=false) (decide_eq_false (not_not_intro h2))),bO .neq 3 (yk (x:=t1) (y:=t2) (b:=false) (decide_eq_false (not_not_intro h3))),lS underlying22 (ad:=ad) (n:=p1.length) (cap:=cap) rfl,lS underlying22 (ad:=ad2) (n:=p2.length) (cap:=cap2) rfl,knT p1.length p2.length] I fun β a w1 I hb=>?_;exact zh (v:=.bool false) I ⟨by rw[he,decide_eq_false (show ¬ p1=p2 from fun h=>h4 (by rw[h])),Bool.and_false],I.hJ⟩
 have h4:=Classical.not_not.1 h4;rw[decide_eq_true h1,decide_eq_true h2,decide_eq_true h3]at he;refine goZ [bO .neq 23 (qw (x:=n1) (y:=n2) (q:=false) (decide_eq_false (not_not_intro h1))),bO .neq 9 (xr (a:=a1) (b:=a2) (q:=false) (decide_eq_false (not_not_intro h2))),bO .neq 3 (yk (x:=t1) (y:=t2) (b:=false) (decide_eq_false (not_not_intro h3))),lS underlying22 (ad:=ad) (n:=p1.length) (cap:=cap) rfl,lS underlying22 (ad:=ad2) (n:=p2.length) (cap:=cap2) rfl,knF p1.length p2.length] I fun β a w1 I hb=>?_
 let St:Nat→Act→World→Prop:=fun k a w'=>∃(i:Nat) (β:Nat→Nat) (u:Nat→Value),k=p1.length-i∧i≤p1.length∧(∀ j x y,j<i→p1[j]? = some x→p2[j]? = some y→x=y) ∧
  SI (Below w.heap.size w) (· < w.heap.size) [] β (cfC (zc Tryz.f35) (zl (zg 52 qfK) u 0 (qfV (.agg #[.slice ad p1.length cap,B n1,.string a1,Z t1]) (.agg #[.slice ad2 p2.length cap2,B n2,.string a2,Z t2]) i)) [(0,#[.slice ad p1.length cap,B n1,.string a1,Z t1]),(1,#[.slice ad2 p2.length cap2,B n2,.string a2,Z t2])] 2) a w'
 refine lpM (zc Tryz.f35) St p1.length ?_ ?_
 ·obtain⟨u,Iu⟩:=I.scr (zc Tryz.f35) (zg 52 qfK) (qfV (.agg #[.slice ad p1.length cap,B n1,.string a1,Z t1]) (.agg #[.slice ad2 p2.length cap2,B n2,.string a2,Z t2]) 0) [(0,#[.slice ad p1.length cap,B n1,.string a1,Z t1]),(1,#[.slice ad2 p2.length cap2,B n2,.string a2,Z t2])] 2;exact⟨0,β,u,by omega,Nat.zero_le _,fun j x y h=>absurd h (Nat.not_lt_zero j),Iu⟩
 rintro k a3 w3 ⟨i,β3,u,rfl,hi,hok,I⟩;refine zv (tm:=zl (zg 52 qfK) u 0 (qfV (.agg #[.slice ad p1.length cap,B n1,.string a1,Z t1]) (.agg #[.slice ad2 p2.length cap2,B n2,.string a2,Z t2]) i)) (rows:=[(0,#[.slice ad p1.length cap,B n1,.string a1,Z t1]),(1,#[.slice ad2 p2.length cap2,B n2,.string a2,Z t2])]) (nx:=2) ?_;rcases Nat.lt_or_ge i p1.length with hil|hil
 ·have hil2:i<p2.length:=by omega
  obtain⟨x,k1⟩:∃ t,p1[i]? = some t:=⟨_,List.getElem?_eq_getElem hil⟩
  obtain⟨y,k2⟩:∃ t,p2[i]? = some t:=⟨_,List.getElem?_eq_getElem hil2⟩
  obtain⟨ga,offa,cs,rfl,hlt,hca,rfl⟩:=hm i _ k1;obtain⟨gb,offb,cs2,rfl,hlt2,hcb,rfl⟩:=hm2 i _ k2;have hld:∀ w',Below w.heap.size w w'→(loadVar 9 ⟨ga,offa+i*1,none⟩).run prog w'=.ok (.string x) w':=fun w' hb=>zbh (hca.keep (hb.block ga hlt))
  have hld2:∀ w',Below w.heap.size w w'→(loadVar 9 ⟨gb,offb+i*1,none⟩).run prog w'=.ok (.string y) w':=fun w' hb=>zbh (hcb.keep (hb.block gb hlt2))
  refine goZ [lS underlying22 (ad:=some ⟨ga,offa,none⟩) (n:=p1.length) (cap:=cap) rfl,klT i p1.length] I fun β4 a4 w4 I hb4=>?_;by_cases hxy:¬ x=y
  ·refine dwT (T:=Below w.heap.size w) 11 [iA 22 underlying22 (sz:=1) (by kernel_rfl) (g:=ga) (off:=offa) (n:=p1.length) (cap:=cap) hil,ldA 9 hld,iA 22 underlying22 (sz:=1) (by kernel_rfl) (g:=gb) (off:=offb) (n:=p2.length) (cap:=cap2) hil2,ldA 9 hld2,bO .neq 9 (xr (a:=x) (b:=y) (q:=true) (decide_eq_true hxy))] (zj w) (fun _ h=>h) (zd.then (zd.qk zd.post)) I fun a5 w5 I=>?_;refine goZ [] I fun β6 a6 w6 I hb6=>?_;refine qc (qb (v:=.bool false) I ⟨?_,I.hJ⟩);rw[he,decide_eq_false (show ¬ p1=p2 from fun h=>hxy (by rw[h]at k1;rw[k1]at k2;cases k2;rfl)),Bool.and_false]
  have hxy:=Classical.not_not.1 hxy;refine dwT (T:=Below w.heap.size w) 11 [iA 22 underlying22 (sz:=1) (by kernel_rfl) (g:=ga) (off:=offa) (n:=p1.length) (cap:=cap) hil,ldA 9 hld,iA 22 underlying22 (sz:=1) (by kernel_rfl) (g:=gb) (off:=offb) (n:=p2.length) (cap:=cap2) hil2,ldA 9 hld2,bO .neq 9 (xr (a:=x) (b:=y) (q:=false) (decide_eq_false (not_not_intro hxy)))] (zj w) (fun _ h=>h) (zd.then (zd.qk zd.post)) I fun a5 w5 I=>?_;refine goZ [kaZ i 1 (i+1:Nat)] I fun β6 a6 w6 I hb6=>?_
  obtain⟨u',Iu⟩:=I.scr (zc Tryz.f35) (zg 52 qfK) (qfV (.agg #[.slice (some ⟨ga,offa,none⟩) p1.length cap,B n1,.string a1,Z t1]) (.agg #[.slice (some ⟨gb,offb,none⟩) p2.length cap2,B n2,.string a2,Z t2]) (i+1)) [(0,#[.slice (some ⟨ga,offa,none⟩) p1.length cap,B n1,.string a1,Z t1]),(1,#[.slice (some ⟨gb,offb,none⟩) p2.length cap2,B n2,.string a2,Z t2])] 2;refine xc ⟨p1.length-(i+1),by omega,i+1,β6,u',rfl,hil,fun j x' y' hj hx hy=>?_,Iu⟩;rcases Nat.lt_or_ge j i with hji | hji
  ·exact hok j x' y' hji hx hy
  ·obtain rfl:j=i:=by omega
   rw[k1]at hx;rw[k2]at hy;cases hx;cases hy;exact hxy
 ·obtain rfl:i=p1.length:=by omega
  refine goZ [lS underlying22 (ad:=ad) (n:=p1.length) (cap:=cap) rfl,bO .lss 3 (zf (x:=p1.length) (y:=p1.length) (b:=false) (by simp))] I fun β4 a4 w4 I hb4=>?_;refine xg 0 ?_;refine goZ [] (I.exit _) fun β5 a5 w5 I hb5=>?_;refine zh (v:=.bool true) I ⟨?_,I.hJ⟩;rw[he,decide_eq_true (qt h4 fun j x y hx hy=>hok j x y (List.getElem?_eq_some_iff.1 hx).1 hx hy)];rfl
abbrev qeK:List Nat:=[0,1,4,5]
abbrev qeV (a b:Value) (i:Nat):Vs:=frm 71 [(0,Sum.inl a),(1,Sum.inl b),(4,Sum.inl (.bool false)),(5,Sum.inl (Z i))]
abbrev qhK:List Nat:=[0,1,4,5,6]
abbrev qhV (a b:Value) (i j:Nat):Vs:=frm 71 [(0,Sum.inl a),(1,Sum.inl b),(4,Sum.inl (.bool false)),(5,Sum.inl (Z i)),(6,Sum.inl (Z j))]
theorem rsame_exits{w:World}{va vb:Value}{l m:List Ex}(ha:ExI w va l)(hb:ExI w vb m)(hl:okX l):Calls prog 99 #[va,vb] w fun e w'=>e=.returned (.bool (eqX l m))∧Below w.heap.size w w':=by
 obtain⟨ad,cap,rfl,hm⟩:=ha;obtain⟨ad2,cap2,rfl,hm2⟩:=hb;have hll:=hl.1;refine inZ func99 fun a I=>?_;by_cases h4:¬ l.length=m.length
 ·refine goZ [lS underlying26 (ad:=ad) (n:=l.length) (cap:=cap) rfl,lS underlying26 (ad:=ad2) (n:=m.length) (cap:=cap2) rfl,knT l.length m.length] I fun β a w1 I hb=>?_;exact zh (v:=.bool false) I ⟨by rw[zbu fun h=>h4 (by rw[h])],I.hJ⟩
 have h4:=Classical.not_not.1 h4;refine goZ [lS underlying26 (ad:=ad) (n:=l.length) (cap:=cap) rfl,lS underlying26 (ad:=ad2) (n:=m.length) (cap:=cap2) rfl,knF l.length m.length] I fun β a w1 I hb=>?_
 let St:Nat→Act→World→Prop:=fun k a w'=>∃(i:Nat) (β:Nat→Nat) (u:Nat→Value),k=l.length-i∧i≤l.length∧(∀ j x y,j<i→l[j]? = some x→m[j]? = some y→x=y) ∧
  SI (Below w.heap.size w) (· < w.heap.size) [] β (cfC (zc Tryz.f99) (zl (zg 71 qeK) u 0 (qeV (.slice ad l.length cap) (.slice ad2 m.length cap2) i)) [] 0) a w'
 refine lpM (zc Tryz.f99) St l.length ?_ ?_
 ·obtain⟨u,Iu⟩:=I.scr (zc Tryz.f99) (zg 71 qeK) (qeV (.slice ad l.length cap) (.slice ad2 m.length cap2) 0) [] 0;exact⟨0,β,u,by omega,Nat.zero_le _,fun j x y h=>absurd h (Nat.not_lt_zero j),Iu⟩
 rintro k a3 w3 ⟨i,β3,u,rfl,hi,hok,I⟩;refine zv (tm:=zl (zg 71 qeK) u 0 (qeV (.slice ad l.length cap) (.slice ad2 m.length cap2) i)) (rows:=[]) (nx:=0) ?_;rcases Nat.lt_or_ge i l.length with hil|hil
 ·have hil2:i<m.length:=by omega
  obtain⟨⟨sa,al⟩,k1⟩:∃ t,l[i]? = some t:=⟨_,List.getElem?_eq_getElem hil⟩
  obtain⟨⟨sb,bl⟩,k2⟩:∃ t,m[i]? = some t:=⟨_,List.getElem?_eq_getElem hil2⟩
  obtain⟨ga,offa,cs,rfl,hlt,hca,av,rfl,ada,capa,rfl,hma⟩:=hm i _ k1;obtain⟨gb,offb,cs2,rfl,hlt2,hcb,bv,rfl,adb,capb,rfl,hmb⟩:=hm2 i _ k2;have hal:al.length<1000000000:=hl.2 _ (List.mem_of_getElem? k1);simp only[]at hca hcb hma hmb;have differ:¬ (sa,al)=(sb,bl)→eqX l m=false:=fun hd=>zbu fun h=>hd (by rw[h]at k1;rw[k1]at k2;cases k2;rfl)
  have hA9:∀ w',Below w.heap.size w w'→(loadVar 9 ⟨ga,offa+i*2+0,none⟩).run prog w'=.ok (.string sa) w':=fun w' hb=>xk (hca.keep (hb.block ga hlt)) 0 rfl 9 underlying9 rfl
  have hB9:∀ w',Below w.heap.size w w'→(loadVar 9 ⟨gb,offb+i*2+0,none⟩).run prog w'=.ok (.string sb) w':=fun w' hb=>xk (hcb.keep (hb.block gb hlt2)) 0 rfl 9 underlying9 rfl
  have hA36:∀ w',Below w.heap.size w w'→(loadVar 45 ⟨ga,offa+i*2+1,none⟩).run prog w'=.ok (.slice ada al.length capa) w':=fun w' hb=>xk (hca.keep (hb.block ga hlt)) 1 rfl 45 underlying45 rfl
  have hB36:∀ w',Below w.heap.size w w'→(loadVar 45 ⟨gb,offb+i*2+1,none⟩).run prog w'=.ok (.slice adb bl.length capb) w':=fun w' hb=>xk (hcb.keep (hb.block gb hlt2)) 1 rfl 45 underlying45 rfl
  refine goZ [lS underlying26 (ad:=some ⟨ga,offa,none⟩) (n:=l.length) (cap:=cap) rfl,klT i l.length] I fun β4 a4 w4 I hb4=>?_;by_cases hs:¬ sa=sb
  ·refine dwT (T:=Below w.heap.size w) 26 [iA 26 underlying26 (sz:=2) (by kernel_rfl) (g:=ga) (off:=offa) (n:=l.length) (cap:=cap) hil,ldA 9 hA9,iA 26 underlying26 (sz:=2) (by kernel_rfl) (g:=gb) (off:=offb) (n:=m.length) (cap:=cap2) hil2,ldA 9 hB9,bO .neq 9 (xr (a:=sa) (b:=sb) (q:=true) (decide_eq_true hs))] (zj w) (fun _ h=>h) (zd.then (zd.qk zd.post)) I fun a5 w5 I=>?_;refine goZ [] I fun β6 a6 w6 I hb6=>?_;exact qc (qb (v:=.bool false) I ⟨by rw[differ fun h=>hs (by cases h;rfl)],I.hJ⟩)
  have hs:=Classical.not_not.1 hs;by_cases hn:¬ al.length=bl.length
  ·refine dwT (T:=Below w.heap.size w) 26 [iA 26 underlying26 (sz:=2) (by kernel_rfl) (g:=ga) (off:=offa) (n:=l.length) (cap:=cap) hil,ldA 9 hA9,iA 26 underlying26 (sz:=2) (by kernel_rfl) (g:=gb) (off:=offb) (n:=m.length) (cap:=cap2) hil2,ldA 9 hB9,bO .neq 9 (xr (a:=sa) (b:=sb) (q:=false) (decide_eq_false (not_not_intro hs))),iA 26 underlying26 (sz:=2) (by kernel_rfl) (g:=ga) (off:=offa) (n:=l.length) (cap:=cap) hil,ldA 45 hA36,lS underlying45 (ad:=ada) (n:=al.length) (cap:=capa) rfl,iA 26 underlying26 (sz:=2) (by kernel_rfl) (g:=gb) (off:=offb) (n:=m.length) (cap:=cap2) hil2,ldA 45 hB36,lS underlying45 (ad:=adb) (n:=bl.length) (cap:=capb) rfl,knT al.length bl.length] (zj w) (fun _ h=>h) (zd.then (zd.qk zd.post)) I fun a5 w5 I=>?_
   refine goZ [] I fun β6 a6 w6 I hb6=>?_;exact qc (qb (v:=.bool false) I ⟨by rw[differ fun h=>hn (by cases h;rfl)],I.hJ⟩)
  have hn:=Classical.not_not.1 hn
  refine dwT (T:=Below w.heap.size w) 26 [iA 26 underlying26 (sz:=2) (by kernel_rfl) (g:=ga) (off:=offa) (n:=l.length) (cap:=cap) hil,ldA 9 hA9,iA 26 underlying26 (sz:=2) (by kernel_rfl) (g:=gb) (off:=offb) (n:=m.length) (cap:=cap2) hil2,ldA 9 hB9,bO .neq 9 (xr (a:=sa) (b:=sb) (q:=false) (decide_eq_false (not_not_intro hs))),iA 26 underlying26 (sz:=2) (by kernel_rfl) (g:=ga) (off:=offa) (n:=l.length) (cap:=cap) hil,ldA 45 hA36,lS underlying45 (ad:=ada) (n:=al.length) (cap:=capa) rfl,iA 26 underlying26 (sz:=2) (by kernel_rfl) (g:=gb) (off:=offb) (n:=m.length) (cap:=cap2) hil2,ldA 45 hB36,lS underlying45 (ad:=adb) (n:=bl.length) (cap:=capb) rfl,knF al.length bl.length] (zj w) (fun _ h=>h) (zd.then (zd.qk zd.post)) I fun a5 w5 I=>?_
  refine goZ [] I fun β6 a6 w6 I hb6=>?_
  let St2:Nat→Act→World→Prop:=fun k a w'=>∃(j:Nat) (β:Nat→Nat) (u:Nat→Value),k=al.length-j∧j≤al.length∧(∀ q x y,q<j→al[q]? = some x→bl[q]? = some y→x=y) ∧
   SI (Below w.heap.size w) (· < w.heap.size) [] β (cfC (yn Tryz.f99) (zl (zg 71 qhK) u 0 (qhV (.slice (some ⟨ga,offa,none⟩) l.length cap) (.slice (some ⟨gb,offb,none⟩) m.length cap2) i j)) [] 0) a w'
  refine lpM (yn Tryz.f99) St2 al.length ?_ ?_
  ·obtain⟨u',Iu⟩:=I.scr (yn Tryz.f99) (zg 71 qhK) (qhV (.slice (some ⟨ga,offa,none⟩) l.length cap) (.slice (some ⟨gb,offb,none⟩) m.length cap2) i 0) [] 0;exact⟨0,β6,u',by omega,Nat.zero_le _,fun q x y h=>absurd h (Nat.not_lt_zero q),Iu⟩
  rintro k7 a7 w7 ⟨j,β7,u7,rfl,hj,hok2,I7⟩;refine zv (tm:=zl (zg 71 qhK) u7 0 (qhV (.slice (some ⟨ga,offa,none⟩) l.length cap) (.slice (some ⟨gb,offb,none⟩) m.length cap2) i j)) (rows:=[]) (nx:=0) ?_;rcases Nat.lt_or_ge j al.length with hjl|hjl
  ·have hjl2:j<bl.length:=by omega
   obtain⟨x,r1⟩:∃ t,al[j]? = some t:=⟨_,List.getElem?_eq_getElem hjl⟩
   obtain⟨y,r2⟩:∃ t,bl[j]? = some t:=⟨_,List.getElem?_eq_getElem hjl2⟩
   obtain⟨gc,offc,cs3,rfl,hlt3,hcc,rfl,hamx⟩:=hma j _ r1;obtain⟨gd,offd,cs4,rfl,hlt4,hcd,rfl,hamy⟩:=hmb j _ r2;have hC59:∀ w',Below w.heap.size w w'→(loadVar 133 ⟨gc,offc+j*8,none⟩).run prog w'=.ok (.agg (al8 x).toArray) w':=fun w' hb=>zb5 (hcc.keep (hb.block gc hlt3))
   have hD59:∀ w',Below w.heap.size w w'→(loadVar 133 ⟨gd,offd+j*8,none⟩).run prog w'=.ok (.agg (al8 y).toArray) w':=fun w' hb=>zb5 (hcd.keep (hb.block gd hlt4))
   refine goT (T:=Below w.heap.size w) [iA 26 underlying26 (sz:=2) (by kernel_rfl) (g:=ga) (off:=offa) (n:=l.length) (cap:=cap) hil,ldA 45 hA36,lS underlying45 (ad:=some ⟨gc,offc,none⟩) (n:=al.length) (cap:=capa) rfl,klT j al.length] (zj w) (fun _ h=>h) I7 fun β8 a8 w8 I hb8=>?_;by_cases hxy:¬ x=y
   ·refine dwT (T:=Below w.heap.size w) 17 [iA 26 underlying26 (sz:=2) (by kernel_rfl) (g:=ga) (off:=offa) (n:=l.length) (cap:=cap) hil,ldA 45 hA36,iA 45 underlying45 (sz:=8) (by kernel_rfl) (g:=gc) (off:=offc) (n:=al.length) (cap:=capa) hjl,ldA 133 hC59,iA 26 underlying26 (sz:=2) (by kernel_rfl) (g:=gb) (off:=offb) (n:=m.length) (cap:=cap2) hil2,ldA 45 hB36,iA 45 underlying45 (sz:=8) (by kernel_rfl) (g:=gd) (off:=offd) (n:=bl.length) (cap:=capb) hjl2,ldA 133 hD59,bO .neq 133 (neqA_run hamx hamy (q:=true) (decide_eq_true hxy))] (zj w) (fun _ h=>h) (zd.then (zd.qk (zd.then (zd.qk zd.post)))) I fun a9 w9 I=>?_
    refine goZ [] I fun β10 a10 w10 I hb10=>?_;refine qc ?_;refine @thenR prog (bodyPost prog Tryz.f99 _) _ _ a10 w10 ?_;refine qb (v:=.bool false) I ⟨?_,I.hJ⟩;rw[differ fun h=>hxy (by cases h;rw[r1]at r2;cases r2;rfl)]
   have hxy:=Classical.not_not.1 hxy
   refine dwT (T:=Below w.heap.size w) 17 [iA 26 underlying26 (sz:=2) (by kernel_rfl) (g:=ga) (off:=offa) (n:=l.length) (cap:=cap) hil,ldA 45 hA36,iA 45 underlying45 (sz:=8) (by kernel_rfl) (g:=gc) (off:=offc) (n:=al.length) (cap:=capa) hjl,ldA 133 hC59,iA 26 underlying26 (sz:=2) (by kernel_rfl) (g:=gb) (off:=offb) (n:=m.length) (cap:=cap2) hil2,ldA 45 hB36,iA 45 underlying45 (sz:=8) (by kernel_rfl) (g:=gd) (off:=offd) (n:=bl.length) (cap:=capb) hjl2,ldA 133 hD59,bO .neq 133 (neqA_run hamx hamy (q:=false) (decide_eq_false (not_not_intro hxy)))] (zj w) (fun _ h=>h) (zd.then (zd.qk (zd.then (zd.qk zd.post)))) I fun a9 w9 I=>?_
   refine goZ [kaZ j 1 (j+1:Nat)] I fun β10 a10 w10 I hb10=>?_;obtain⟨u',Iu⟩:=I.scr (yn Tryz.f99) (zg 71 qhK) (qhV (.slice (some ⟨ga,offa,none⟩) l.length cap) (.slice (some ⟨gb,offb,none⟩) m.length cap2) i (j+1)) [] 0;refine xc ⟨al.length-(j+1),by omega,j+1,β10,u',rfl,hjl,fun q x' y' hq hx hy=>?_,Iu⟩;rcases Nat.lt_or_ge q j with hqj | hqj
   ·exact hok2 q x' y' hqj hx hy
   ·obtain rfl:q=j:=by omega
    rw[r1]at hx;rw[r2]at hy;cases hx;cases hy;exact hxy
  ·obtain rfl:j=al.length:=by omega
   refine goT (T:=Below w.heap.size w) [iA 26 underlying26 (sz:=2) (by kernel_rfl) (g:=ga) (off:=offa) (n:=l.length) (cap:=cap) hil,ldA 45 hA36,lS underlying45 (ad:=ada) (n:=al.length) (cap:=capa) rfl,bO .lss 3 (zf (x:=al.length) (y:=al.length) (b:=false) (by simp))] (zj w) (fun _ h=>h) I7 fun β8 a8 w8 I hb8=>?_;refine xg 2 ?_;refine goZ [kaZ i 1 (i+1:Nat)] (I.exit _) fun β9 a9 w9 I hb9=>?_;obtain⟨u',Iu⟩:=I.scr (zc Tryz.f99) (zg 71 qeK) (qeV (.slice (some ⟨ga,offa,none⟩) l.length cap) (.slice (some ⟨gb,offb,none⟩) m.length cap2) (i+1)) [] 0
   refine xc ⟨l.length-(i+1),by omega,i+1,β9,u',rfl,hil,fun q x' y' hq hx hy=>?_,Iu⟩;rcases Nat.lt_or_ge q i with hqj | hqj
   ·exact hok q x' y' hqj hx hy
   ·obtain rfl:q=i:=by omega
    rw[k1]at hx;rw[k2]at hy;cases hx;cases hy;have:=qt hn fun q x y hx hy=>hok2 q x y (List.getElem?_eq_some_iff.1 hx).1 hx hy
    rw[hs,this]
 ·obtain rfl:i=l.length:=by omega
  refine goZ [lS underlying26 (ad:=ad) (n:=l.length) (cap:=cap) rfl,bO .lss 3 (zf (x:=l.length) (y:=l.length) (b:=false) (by simp))] I fun β4 a4 w4 I hb4=>?_;refine xg 0 ?_;refine goZ [] (I.exit _) fun β5 a5 w5 I hb5=>?_;refine zh (v:=.bool true) I ⟨?_,I.hJ⟩;rw[eqX_true (qt h4 fun j x y hx hy=>hok j x y (List.getElem?_eq_some_iff.1 hx).1 hx hy)]
theorem rsame_state{w:World}{v u:Va}{ev eu:Value}(hv:ExI w ev v.2.2.2)(hu:ExI w eu u.2.2.2)(hok:okX v.2.2.2):Calls prog 68 #[vaV v ev,vaV u eu] w fun e w'=>e=.returned (.bool (eqV v u))∧Below w.heap.size w w':=by
 obtain⟨t1,f1,d1,x1⟩:=v;obtain⟨t2,f2,d2,x2⟩:=u;obtain⟨ada,capa,rfl⟩:=hv.slice;obtain⟨adb,capb,rfl⟩:=hu.slice;simp only[]at hv hu hok;refine inZ func68 fun a I=>?_;by_cases h1:¬ t1=t2
 ·refine goZ [bO .eql 23 (yr (x:=t1) (y:=t2) (b:=false) (decide_eq_false h1))] I fun β a w1 I hb=>?_;exact zh (v:=.bool false) I ⟨by unfold eqV;rw[decide_eq_false h1];rfl,I.hJ⟩
 have h1:=Classical.not_not.1 h1;by_cases h2:¬ f1=f2
 ·refine goZ [bO .eql 23 (yr (x:=t1) (y:=t2) (b:=true) (decide_eq_true h1)),bO .eql 4 (vj (x:=f1) (y:=f2) (b:=false) (decide_eq_false h2))] I fun β a w1 I hb=>?_;exact zh (v:=.bool false) I ⟨by unfold eqV;rw[decide_eq_false h2,Bool.and_false];rfl,I.hJ⟩
 have h2:=Classical.not_not.1 h2;by_cases h3:¬ d1=d2
 ·refine goZ [bO .eql 23 (yr (x:=t1) (y:=t2) (b:=true) (decide_eq_true h1)),bO .eql 4 (vj (x:=f1) (y:=f2) (b:=true) (decide_eq_true h2)),bO .eql 9 (xp (a:=d1) (b:=d2) (q:=false) (decide_eq_false h3))] I fun β a w1 I hb=>?_;exact zh (v:=.bool false) I ⟨by unfold eqV;rw[decide_eq_false h3,Bool.and_false];rfl,I.hJ⟩
 have h3:=Classical.not_not.1 h3;refine goZ [bO .eql 23 (yr (x:=t1) (y:=t2) (b:=true) (decide_eq_true h1)),bO .eql 4 (vj (x:=f1) (y:=f2) (b:=true) (decide_eq_true h2)),bO .eql 9 (xp (a:=d1) (b:=d2) (q:=true) (decide_eq_true h3))] I fun β a w1 I hb=>?_;have hX:∀ w',Below w.heap.size w w'→Calls prog 99 #[.slice ada x1.length capa,.slice adb x2.length capb] w' fun e w''=>e=.returned (.bool (eqX x1 x2))∧Below w'.heap.size w' w'':=fun w' hb=>rsame_exits (hv.below CE.loc hb) (hu.below CE.loc hb) hok
 refine goT (T:=Below w.heap.size w) [cA func99 hX] (zj w) (fun _ h=>h) I fun β3 a3 w3 I hb3=>?_;exact zh (v:=.bool (eqX x1 x2)) I ⟨by unfold eqV;rw[decide_eq_true h1,decide_eq_true h2,decide_eq_true h3];rfl,I.hJ⟩
def wgt:(n:Nat)→TL n→Nat
 | 0,_=>0
 | n+1,l=>(List.map (fun t:TT n=>127+t.2.2.1.size+wgt n t.2.2.2) l).sum
theorem foldE_w{α:Type}{E:α→List UInt8}{cnt:α→Nat}{H:Nat}{tt:α→Nat}:∀(l:List (Int×Nat×ByteArray×α)) (acc:List UInt8×List UInt8),(∀ t∈l,(E t.2.2.2).length≤tt t.2.2.2)→(l.foldl (xm E cnt H) acc).2.length+32*l.length≤acc.2.length+(l.map fun t=>127+t.2.2.1.size+tt t.2.2.2).sum
 | [],acc,h=>by simp
 | t::l,acc,h=>by
  have ih:=foldE_w (cnt:=cnt) (H:=H) l (xm E cnt H acc t) fun u hu=>h u (List.mem_cons_of_mem _ hu)
  have h2:=h t List.mem_cons_self;have hs:(xm E cnt H acc t).2.length≤acc.2.length+(95+t.2.2.1.size+tt t.2.2.2):=by
   unfold xm;split
   ·simp
   ·split
    ·have:=za6 t.2.2.1;unfold pad at this;simp only[List.length_append];omega
    ·split
     ·have h3:=zx (cnt t.2.2.2);simp only[List.length_append,h3];omega
     ·simp
  simp only[List.foldl_cons,List.length_cons,List.map_cons,List.sum_cons];omega
theorem enc_wgt:∀(n:Nat) (l:TL n),(enc n l).length≤wgt n l
 | 0,_=>Nat.zero_le _
 | n+1,l=>by
  have h1:=foldE_w (E:=enc n) (cnt:=cntL n) (H:=32*List.length (α:=TT n) l) (tt:=wgt n) l ([],[]) fun t ht=>enc_wgt n t.2.2.2
  have h2:=hd_len (E:=enc n) (cnt:=cntL n) (l:=l) (i:=List.length (α:=TT n) l) (Nat.le_refl _);have e:List.take (List.length (α:=TT n) l) l=l:=List.take_length;rw[e]at h2;simp only[enc,List.length_append,wgt];have h3:(yd (enc n) (cntL n) (32*List.length (α:=TT n) l) l).2.length+32*List.length (α:=TT n) l≤0+(List.map (fun t:TT n=>127+t.2.2.1.size+wgt n t.2.2.2) l).sum:=h1;omega
theorem zb8:∀ n,wgt n (yf n)=0
 | 0=>rfl
 | n+1=>rfl
theorem zbc:eB.size=0:=rfl
theorem alTs_w(n:Nat)(a:Al):wgt (n+1) (qo n a)=635:=by
 show(127+eB.size+wgt n (yf n))+((127+eB.size+wgt n (yf n))+((127+eB.size+wgt n (yf n))+((127+eB.size+wgt n (yf n))+((127+eB.size+wgt n (yf n))+0))))=635;rw[zb8,zbc]
theorem exTs_w(n:Nat){x:Ex}(hl:x.2.length≤8):wgt (n+3) (xt n x)≤6350:=by
 have key:wgt (n+2) (x.2.map fun a=>zt (n+1) (qo n a))≤6096:=by
  have hsum:((x.2.map fun a=>zt (n+1) (qo n a)).map fun t:TT (n+1)=>127+t.2.2.1.size+wgt (n+1) t.2.2.2).sum≤(x.2.map fun a=>zt (n+1) (qo n a)).length*762:=qx fun t ht=>by
   obtain⟨a,ha,rfl⟩:=List.mem_map.1 ht;show 127+eB.size+wgt (n+1) (qo n a)≤762;rw[alTs_w,zbc];decide
  rw[List.length_map]at hsum;exact Nat.le_trans hsum (by omega)
 show(127+eB.size+wgt (n+2) (yf (n+2)))+((127+eB.size+wgt (n+2) (x.2.map fun a=>zt (n+1) (qo n a)))+0)≤6350;rw[zb8,zbc];omega
theorem vaT_w{v:Va}(hf:vn v=true):(enc 9 (vaT 4 v)).length≤21000:=by
 obtain⟨h1,h2,h3⟩:=zav hf;obtain⟨q1,_,q3⟩:=zaq h3;have key:wgt 8 (v.2.2.2.map fun x=>zt 7 (xt 4 x))≤19431:=by
  have hsum:((v.2.2.2.map fun x=>zt 7 (xt 4 x)).map fun t:TT 7=>127+t.2.2.1.size+wgt 7 t.2.2.2).sum≤(v.2.2.2.map fun x=>zt 7 (xt 4 x)).length*6477:=qx fun t ht=>by
   obtain⟨x,hx,rfl⟩:=List.mem_map.1 ht;show 127+eB.size+wgt 7 (xt 4 x)≤6477;have:wgt 7 (xt 4 x)≤6350:=exTs_w 4 (zbl (q3 x hx)).2.1;rw[zbc];omega
  rw[List.length_map]at hsum;exact Nat.le_trans hsum (by omega)
 refine Nat.le_trans (enc_wgt 9 (vaT 4 v)) ?_;show(127+eB.size+wgt 8 (yf 8))+((127+eB.size+wgt 8 (yf 8))+((127+v.2.2.1.size+wgt 8 (yf 8))+((127+eB.size+wgt 8 (v.2.2.2.map fun x=>zt 7 (xt 4 x)))+0)))≤21000;rw[zb8,zbc];omega
theorem fiT_w{f:Fi}(hf:kw f=true):(enc 9 (fiT 7 f)).length≤2000:=by
 obtain⟨h1,_,h3,h4,m,h5,_,h6⟩:=zbw hf;have key:wgt 8 (f.1.map fun s=>yc 7 (rdB s))≤508:=by
  have hsum:((f.1.map fun s=>yc 7 (rdB s)).map fun t:TT 7=>127+t.2.2.1.size+wgt 7 t.2.2.2).sum≤(f.1.map fun s=>yc 7 (rdB s)).length*127:=qx fun t ht=>by
   obtain⟨x,hx,rfl⟩:=List.mem_map.1 ht;show 127+eB.size+wgt 7 (yf 7)≤127;rw[zb8,zbc];decide
  rw[List.length_map]at hsum;exact Nat.le_trans hsum (by omega)
 refine Nat.le_trans (enc_wgt 9 (fiT 7 f)) ?_;show(127+eB.size+wgt 8 (f.1.map fun s=>yc 7 (rdB s)))+((127+eB.size+wgt 8 (yf 8))+((127+f.2.2.1.size+wgt 8 (yf 8))+((127+eB.size+wgt 8 (yf 8))+0)))≤2000;rw[zb8,zbc];omega
theorem wrV_w(v:Va):(wrV v).length≤21000:=by
 unfold wrV;split
 ·next h=>exact vaT_w h
 ·simp
theorem wrF_w(f:Fi):(wrF f).length≤2000:=by
 unfold wrF;split
 ·next h=>exact fiT_w h
 ·simp
end Go.Proofs.YtdeompgdhaomgaaGreatDoor
