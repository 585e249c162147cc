/- Laid one behind the other: Yl, Yn, Yo, Yp. -/
import Derived.Test.YtdeompgdhaomgaaGreatDoorKtYh
namespace Go.Proofs.YtdeompgdhaomgaaGreatDoor
open Go.RowKit Go.Sort Go.Proofs.Tryz
set_option linter.unusedVariables false
set_option maxRecDepth 100000
set_option maxHeartbeats 4000000
theorem run_lssU{x y:Nat}{b:Bool}(h:decide (x<y)=b)(o1 o2:Operand)(w:World):(do eqGuard .lss 23 o1 o2 (B x) (B y);binOp .lss 23 (B x) (B y):Sem Value).run prog w=.ok (.bool b) w:=by
 subst h;simp[go_sem]
def smB (u:Nat):Bool:=decide (l1 u=0)&&decide (l2 u=0)&&decide (l3 u=0)&&decide (l0 u<4611686018427387904)
theorem rcut(k:Int)(u:Nat)(s:ByteArray)(ad:Option Addr)(m cap n:Nat)(hn:n≤32):RT 49 #[.agg (tx (k,u,s,.slice ad m cap)).toArray,Z n] (str (lastL u n)):=by
 refine fun w=>inZ func49 fun a I=>?_;have hz:=zx u;refine goZ [kC func60 (vr u),ksZ 32 n (32-n:Nat),sO 9 (p:=str (wb u)) (l:=Z (32-n:Nat)) (v:=str (lastL u n)) (v8 (by omega))] I fun β a w1 I hb=>?_;exact xj (v:=str (lastL u n)) I
theorem rsmall(k:Int)(u:Nat)(s:ByteArray)(ad:Option Addr)(m cap:Nat):RT 48 #[.agg (tx (k,u,s,.slice ad m cap)).toArray] (.tuple #[B (l0 u),.bool (smB u)]):=by
 refine fun w=>inZ func48 fun a I=>?_;refine goZ [] I fun β a w1 I hb=>?_;unfold smB;by_cases c1:¬ l1 u=0
 ·refine dwC (T:=Below w.heap.size w) [] [bO .eql 23 (yr (x:=l1 u) (y:=0) (b:=false) (decide_eq_false c1))] (fun _ _ _=>True) (fun _ _=>trivial) (fun _ _ _ _ _ _ _ _ _=>trivial) (zj w) (fun _ h=>h) I (fun p hp=>by cases hp) fun za vs a2 w2 _ _ I=>?_;refine goZ [] I fun β3 a3 w3 I hb3=>?_;exact zh (v:=.tuple #[B (l0 u),.bool false]) I ⟨by rw[decide_eq_false c1];simp,I.hJ⟩
 have c1:=Classical.not_not.1 c1;by_cases c2:¬ l2 u=0
 ·refine dwC (T:=Below w.heap.size w) [] [bO .eql 23 (yr (x:=l1 u) (y:=0) (b:=true) (decide_eq_true c1)),bO .eql 23 (yr (x:=l2 u) (y:=0) (b:=false) (decide_eq_false c2))] (fun _ _ _=>True) (fun _ _=>trivial) (fun _ _ _ _ _ _ _ _ _=>trivial) (zj w) (fun _ h=>h) I (fun p hp=>by cases hp) fun za vs a2 w2 _ _ I=>?_;refine goZ [] I fun β3 a3 w3 I hb3=>?_;exact zh (v:=.tuple #[B (l0 u),.bool false]) I ⟨by rw[decide_eq_false c2];simp,I.hJ⟩
 have c2:=Classical.not_not.1 c2;by_cases c3:¬ l3 u=0
 ·refine dwC (T:=Below w.heap.size w) [] [bO .eql 23 (yr (x:=l1 u) (y:=0) (b:=true) (decide_eq_true c1)),bO .eql 23 (yr (x:=l2 u) (y:=0) (b:=true) (decide_eq_true c2)),bO .eql 23 (yr (x:=l3 u) (y:=0) (b:=false) (decide_eq_false c3))] (fun _ _ _=>True) (fun _ _=>trivial) (fun _ _ _ _ _ _ _ _ _=>trivial) (zj w) (fun _ h=>h) I (fun p hp=>by cases hp) fun za vs a2 w2 _ _ I=>?_;refine goZ [] I fun β3 a3 w3 I hb3=>?_;exact zh (v:=.tuple #[B (l0 u),.bool false]) I ⟨by rw[decide_eq_false c3];simp,I.hJ⟩
 have c3:=Classical.not_not.1 c3;refine dwC (T:=Below w.heap.size w) [] [bO .eql 23 (yr (x:=l1 u) (y:=0) (b:=true) (decide_eq_true c1)),bO .eql 23 (yr (x:=l2 u) (y:=0) (b:=true) (decide_eq_true c2)),bO .eql 23 (yr (x:=l3 u) (y:=0) (b:=true) (decide_eq_true c3)),bO .lss 23 (run_lssU (x:=l0 u) (y:=4611686018427387904) (b:=decide (l0 u<4611686018427387904)) rfl)] (fun _ _ _=>True) (fun _ _=>trivial) (fun _ _ _ _ _ _ _ _ _=>trivial) (zj w) (fun _ h=>h) I (fun p hp=>by cases hp) fun za vs a2 w2 _ _ I=>?_;refine goZ [] I fun β3 a3 w3 I hb3=>?_
 exact zh (v:=.tuple #[B (l0 u),.bool (decide (l0 u<4611686018427387904))]) I ⟨by rw[decide_eq_true c1,decide_eq_true c2,decide_eq_true c3];rfl,I.hJ⟩
section
variable {J:World→Prop} {F:Nat→Prop} {ds:List Deferred} {β:Nat→Nat} {c:Cf} {a:Act} {w:World} {Q:Exit→Act→World→Prop}
theorem dwB{T:World→Prop}(t ia is d x:Nat)(z r:Array Value)(v:Value)(hvr:v.cells=r)(hzt:zeV prog t=some z)(hzr:z.size=r.size)(hin:(prog.info? t).map (·.size)=some r.size)(h1c:r.all (·.oneCell')=true)(hov:∀ c:Array Value,c.size=r.size→over c 0 r=r)(fs:List (Fa prog T))(R:yw J F)(hT:∀ w,J w→T w)(I:SI J F ds β c a w)(k:∀(b:Nat) (vs:Nat→Value) β' a' w',Agree c.nx β β'→SI J F ds β' (adC (dsC prog [(ia,none),(is,none)] fs c (fun j=>if j=ia then .pointer (some ⟨b,0,none⟩)else vs j)) d (r)) a' w'→At prog Q (adC (dsC prog [(ia,none),(is,none)] fs c (fun j=>if j=ia then .pointer (some ⟨b,0,none⟩)else vs j)) d (r)) a' w')(hne:decide (is≠ia)=true:=by kernel_rfl)(h1:((z9 c)[ia]?).map (fun o=>(o.op,o.dst,o.guard))=some (.alloc t,some d,none):=by kernel_rfl)(h2:((z9 c)[is]?).map (fun o=>(o.op,o.dst,o.guard))=some (.store t (.tmp d) (.tmp x),none,none):=by kernel_rfl)(h3:ya (z9 c) is ia=true:=by kernel_rfl)(h4:wr (z9 c) d=some ia:=by kernel_rfl)(h5:evS (z9 c) c.tm ((valsD prog [(ia,none),(is,none)] fs c).take is) is (.tmp x)=some (Sum.inl v):=by kernel_rfl)(h6:decide (d<c.tm.length)=true:=by kernel_rfl)(h7:decide (ia<(z9 c).size∧is<(z9 c).size)=true:=by kernel_rfl)(h8:∀(b:Nat) (vs:Nat→Value),((dsC prog [(ia,none),(is,none)] fs c (fun j=>if j=ia then .pointer (some ⟨b,0,none⟩)else vs j)).tm[d]?).join=some (Sum.inl (.pointer (some ⟨b,0,none⟩))):=by intro b vs;kernel_rfl)(hs:(dsX prog [(ia,none),(is,none)] fs c).isSome=true:=by kernel_rfl)(he:(dsX prog [(ia,none),(is,none)] fs c).map (fun r=>r.2.map (·.1))=(dsX prog [(ia,none),(is,none)] fs c).map (fun r=>r.2.map (·.2)):=by kernel_rfl):At prog Q c a w:=by
 have hne:=of_decide_eq_true hne;have h6:=of_decide_eq_true h6;obtain⟨h7a,h7s⟩:=of_decide_eq_true h7;have hsz:a.tmps.size=c.tm.length:=by rw[I.fr];simp
 have hbit:∀{i:Nat} {za:Array Bool},i∈Region.ready .any (z9 c) za→i<za.size∧¬ za.getD i false=true:=by
  intro i za hrd;obtain⟨hun,o',ho',_⟩:=mem_ready.1 hrd;have hlt:i<za.size:=by
   rcases Nat.lt_or_ge i za.size with h|h
   ·exact h
   ·rw[Array.getD_eq_getD_getElem?,Array.getElem?_eq_none h]at hun;cases hun
  refine⟨hlt,fun h=>?_⟩;simp[Array.getD,hlt]at hun h;rw[hun]at h;cases h
 have hset:∀{i:Nat} {za:Array Bool},i<za.size→(za.setIfInBounds i true).getD i false=true:=by
  intro i za hlt;rw[Array.getD_eq_getD_getElem?,Array.getElem?_setIfInBounds,if_pos rfl,if_pos hlt];rfl
 refine dwC (T:=T) [(ia,none),(is,none)] fs
  (fun za vs w'=>(za.getD is false=true→za.getD ia false=true)∧(za.getD ia false=true→∃ b5,vs ia=.pointer (some ⟨b5,0,none⟩)∧w.heap.size≤b5∧zb w' b5 (if za.getD is false=true then r else z))) (fun w1 hb=>by
   have hf:∀ n j,¬ (Array.replicate n false).getD j false=true:=fun n j h=>by
    rw[Array.getD_eq_getD_getElem?,Array.getElem?_replicate]at h;split at h<;>simp at h
   exact⟨fun h=>absurd h (hf _ _),fun h=>absurd h (hf _ _)⟩) (fun za vs w' w'' i v hsp h hb=>by
   have hi1:i≠ia:=fun e=>by subst e;simp[yi]at hsp
   have hi2:i≠is:=fun e=>by
    subst e;unfold yi at hsp;rw[Option.map_eq_none_iff,List.find?_eq_none]at hsp;exact hsp (i,none) (by simp) (by simp)
   refine⟨fun h12=>z6 (h.1 ((zm h12).resolve_left fun e=>hi2 e.symm)),fun h11=>?_⟩;have h:=h.2;have e12:(za.setIfInBounds i true).getD is false=za.getD is false:=by
    rw[Array.getD_eq_getD_getElem?,Array.getElem?_setIfInBounds,if_neg hi2,← Array.getD_eq_getD_getElem?]
   obtain⟨b5,q1,q2,q3⟩:=h ((zm h11).resolve_left fun e=>hi1 e.symm);rw[e12];exact⟨b5,by simp only[if_neg (show ¬ ia=i from fun e=>hi1 e.symm)];exact q1,q2,q3.below hb⟩) R hT I ?_ ?_ (by kernel_rfl) hs he
 ·intro p hp2 o ho za vs a' w' hF hrd hbw hC hev;simp only[List.mem_cons,List.not_mem_nil,or_false]at hp2;rcases hp2 with rfl|rfl
  ·obtain⟨o1,o2,o3⟩:=ym ho h1;obtain⟨hlt,hn11⟩:=hbit hrd;have h12:¬ (za.setIfInBounds ia true).getD is false=true:=fun h=>hn11 (hC.1 ((zm h).resolve_left hne))
   refine allocG o1 o3 hzt (by kernel_rfl) fun w2 hb2 hr=>⟨_,rfl,fun u hu=>(by cases hu),⟨fun _=>hset hlt,fun _=>⟨w'.heap.size,by simp,hbw.size,?_⟩⟩,hb2.mono hbw.size⟩
   rw[if_neg h12];exact hr
  ·obtain⟨o1,o2,o3⟩:=ym ho h2;have hl11:=zk (ops:=z9 c) (i:=is) (j:=ia) h3 hrd;have q1:a'.eval (.tmp d)=vs ia:=hF.new (i:=ia) h4 (by omega) hl11;have q2:a'.eval (.tmp x)=v:=hev (.tmp x) (Sum.inl v) h5;obtain⟨b5,e11,g5,hR5⟩:=hC.2 hl11;obtain⟨hlt,_⟩:=hbit hrd;have hset:=hset hlt;obtain⟨r5,hr5,hsz5⟩:∃ r5,zb w' b5 r5∧r5.size=r.size:=by
    cases hq:za.getD is false with
    | true=>rw[hq]at hR5;exact⟨r,hR5,rfl⟩
    | false=>rw[hq]at hR5;exact⟨z,hR5,hzr⟩
   refine yg o3 (Oper.wp_mono ?_ (v5 t (.tmp d) (.tmp x) o1 (g:=b5) (off:=0) (by rw[q1,e11]) q2 (cs:=r) hvr hr5 hin (by rw[hsz5];omega) h1c (e:=over r5 0 r) rfl));rintro a2 w2 ⟨rfl,rfl⟩;refine⟨undef,rfl,fun u hu=>(by cases hu),⟨fun _=>z6 hl11,fun _=>⟨b5,by simp only[if_neg (show ¬ ia=is from fun e=>hne e.symm)];exact e11,g5,?_⟩⟩,kg (Below.refl _ _) g5 _⟩;rw[if_pos hset];rw[hov r5 hsz5];exact hr5.set_same _
 intro za vs a9 w9 hall hC I9;obtain⟨b5,e11,g5,hR5⟩:=hC.2 (hall ia h7a);rw[if_pos (hall is h7s)]at hR5;obtain⟨vs',rfl⟩:∃ vs',vs=fun j=>if j=ia then .pointer (some ⟨b5,0,none⟩)else vs' j:=⟨vs,funext fun j=>by split<;>rename_i hj<;>simp[hj,e11]⟩
 refine adopt d (g:=b5) (r:=r) I9 (h8 b5 vs') hR5 (fun h=>by
  have:=R.lt w b5 I.hJ h;omega) (fun p hp e=>by
  have:=(I.row p hp).lt;omega) fun β10 hag hb10 I=>?_
 exact k b5 vs' β10 a9 w9 hag I
end
def iP {T : World → Prop} (t : Nat) {g off d : Nat} {i : Int} (hv : ioV prog t i = some d) : Fa prog T := Sum.inr (Sum.inr
  { ok := fun | .indexAddr t' _ _ => t' == t | _ => false
    xs := #[.pointer (some ⟨g, off, none⟩), Z i]
    v := .pointer (some ⟨g, off + d, none⟩)
    fr := true
    h := by
      intro a w oo _ hok hx
      cases hop : oo.op with
      | indexAddr t' x y =>
        rw [hop] at hok hx
        simp only [beq_iff_eq] at hok
        subst hok
        simp only [vm, List.map_cons, List.map_nil] at hx
        have hx' : a.eval x = .pointer (some ⟨g, off, none⟩) ∧ a.eval y = Z i := by simpa using hx
        unfold execOp
        simp only [hop, hx'.1, hx'.2]
        have := (ty_ok (P := prog) (by kernel_rfl)).hio t' i d hv g off w
        simp only [Sem.run_bind, this, Result.andThen_ok, Sem.run_pure]
      | _ => rw [hop] at hok; simp at hok })
theorem app_gen3{α:Type}{C:Cl α}(hC:Loc C){t e sz by_:Nat}{z:Value}(ht:prog.underlying t=some (.slice e))(hinf:∃ i,prog.info? e=some i∧i.zero=some z∧i.size=sz∧i.bytes=by_)(hzs:z.cells.size=sz)(hsz:0<sz)(hby:by_≤1000){w:World}{i cap:Nat}{ad:Option Addr}{X:List (List Value)}{l:List α}{K K1:Nat→Prop}{x:α}{cs:List Value}{J2:World→Prop}{F2:Nat→Prop}(R2:yw J2 F2){ds:List Deferred}{β:Nat→Nat}{c:Cf}{a:Act}{w6:World}{Q:Exit→Act→World→Prop}(hcs:cs.length=sz)(hone:∀ u∈cs,u.oneCell'=true){b:Nat}(hcl:∀ j c,cs[j]? = some c→w6.cell? ((⟨b,0,none⟩:Addr).add j)=some c)(I6:SI (fun w'=>(QJ C w e sz (.slice ad i cap) X l K w'∧MK C K1 x cs w')∧J2 w') (fun k=>(QF w (.slice ad i cap) K k∨K1 k)∨F2 k) ds β c a w6)(hF2:∀ k,F2 k→(Value.slice ad i cap).ownBlock≠some k)(hXi:X.length=i)(hi:i<100000000)(hK1:∀ k,K1 k→w.heap.size≤k∧(Value.slice ad i cap).ownBlock≠some k)(k:∀ ad8 cap8 a8 w8,(∀ k,F2 k→(Value.slice ad8 (i+1) cap8).ownBlock≠some k)→SI (fun w'=>QJ C w e sz (.slice ad8 (i+1) cap8) (X++[cs]) (l++[x]) (fun k=>K k∨K1 k) w'∧J2 w') (fun k=>QF w (.slice ad8 (i+1) cap8) (fun k=>K k∨K1 k) k∨F2 k) ds β (xa c (.slice ad8 (i+1) cap8)) a8 w8→At prog Q (xa c (.slice ad8 (i+1) cap8)) a8 w8)(hc2:bltQ c=some (.append,#[t,t],t,[Sum.inl (.slice ad i cap),Sum.inl (.slice (some ⟨b,0,none⟩) 1 1)]):=by kernel_rfl):At prog Q c a w6:=by
 have hRs:=((QJ.rs hC w e sz (.slice ad i cap) X l K).both (MK.rs hC K1 x cs)).both R2;obtain⟨inf,hi1,hi2,hi3,hi4⟩:=hinf;have hown7:=I6.hJ.1.1.ro.own;rw[hXi]at hown7;obtain⟨v',w8,hr8,ho8,hg8⟩:=km ht hi1 hi2 hi3 hi4 hzs hsz hby hown7 I6.hJ.1.1.ro.gr.size ⟨b,0,none⟩ cs (by rw[hcs,Nat.one_mul]) hcl hone (by omega);obtain⟨ad8,cap8,rfl⟩:=z4 ho8;refine appQ (ss:=[Sum.inl (.slice ad i cap),Sum.inl (.slice (some ⟨b,0,none⟩) 1 1)]) I6 hr8 ?_ hc2;have hXl1:(X++[cs]).length=i+1:=by simp[hXi]
 have hXf:X.flatten++cs=(X++[cs]).flatten:=by simp
 rw[hXf]at ho8;have hk7:∀ k,(K k∨K1 k)→w.heap.size≤k∧k<w6.heap.size∧(Value.slice ad i cap).ownBlock≠some k:=fun k hk=>by
  rcases hk with hk|hk
  ·exact⟨(I6.hJ.1.1.kb k hk).1,(I6.hJ.1.1.kb k hk).2.1,(I6.hJ.1.1.kb k hk).2.2⟩
  ·exact⟨(hK1 k hk).1,I6.hJ.1.2.kb k hk,(hK1 k hk).2⟩
 have hblk:∀ k,(K k∨K1 k)→w8.heap[k]? = w6.heap[k]? :=fun k hk=>by
  obtain⟨h1,h2,h3⟩:=hk7 k hk;exact hg8.gr.block k (by omega) fun e=>h3 e.symm
 have hro8:RO w w.heap.size e sz (.slice ad8 (i+1) cap8) (X++[cs]).length (X++[cs]).flatten w8:=by
  have h7:=I6.hJ.1.1.ro;rw[hXi]at h7;rw[hXl1];exact h7.grown ho8 hg8
 have hinn8:∀(j:Nat) (y:List Value) (t:α),(X++[cs])[j]? = some y→(l++[x])[j]? = some t→y.length=sz∧C (fun k=>K k∨K1 k) w8 t y:=by
  intro j y t' h1 h2;have hl:=I6.hJ.1.1.len;rcases Nat.lt_or_ge j X.length with hj|hj
  ·rw[List.getElem?_append_left hj]at h1;rw[List.getElem?_append_left (by omega)]at h2;obtain⟨q1,q2⟩:=I6.hJ.1.1.inn j y t' h1 h2;exact⟨q1,hC.keep _ _ _ _ _ _ (fun k hk=>⟨.inl hk,hblk k (.inl hk)⟩) q2⟩
  ·rw[List.getElem?_append_right hj]at h1;rw[List.getElem?_append_right (by omega)]at h2;have hj0:j-X.length=0:=by
    have:=(List.getElem?_eq_some_iff.1 h1).1;simpa using this
   rw[hj0]at h1;rw[show j-l.length=0 by omega]at h2;simp only[List.getElem?_cons_zero,Option.some.injEq]at h1 h2;subst h1 h2;exact⟨hcs,hC.keep _ _ _ _ _ _ (fun k hk=>⟨.inr hk,hblk k (.inr hk)⟩) I6.hJ.1.2.c⟩
 have hF8:∀ k,F2 k→(Value.slice ad8 (i+1) cap8).ownBlock≠some k:=fun k hk e=>by
  rcases hg8.nb k e with h4|h4
  ·exact hF2 k hk h4
  ·have:=R2.lt w6 k I6.hJ.2 hk;omega
 exact k ad8 cap8 _ w8 hF8 (I6.moved ⟨hg8.gr.os,hg8.gr.tape,hg8.gr.output,hg8.gr.size,fun k hk hn=>hg8.gr.block k hk fun e=>hn (.inl (.inl (.inr (.inl e.symm))))⟩ ⟨⟨hro8,fun k hk=>by
   obtain⟨h1,h2,h3⟩:=hk7 k hk;have:=hg8.gr.size;refine⟨h1,by omega,fun e=>?_⟩;rcases hg8.nb k e with h4 | h4
   ·exact h3 h4
   ·omega,by simp[I6.hJ.1.1.len],hinn8⟩,R2.loc _ w8 I6.hJ.2 ⟨hg8.gr.os,hg8.gr.tape,hg8.gr.output,hg8.gr.size,fun k hk hF=>hg8.gr.block k hk fun e=>hF2 k hF e.symm⟩⟩ (fun k hk h=>by
   rcases h with(h|h|h|h)|h
   ·exact .inl (.inl (.inl h))
   ·rcases hg8.nb k h with h4|h4
    ·exact .inl (.inl (.inr (.inl h4)))
    ·omega
   ·exact .inl (.inl (.inr (.inr h)))
   ·exact .inl (.inr h)
   ·exact .inr h) (.slice ad8 (i+1) cap8))
section
variable {P:Program} {T:World→Prop} {fo:Nat→Nat→Option Nat} {io:Nat→Int→Option Nat} {ze:Nat→Option (Array Value)} {ops:Array Oper} {tm:Vs} {rows:Rows} {sp:Spt}
theorem put_any{o:Oper}{a:Act}{w:World}(hnd:∀ d w',(execOp a.eval o).run P w≠.ok (.defer d) w'){K:Act→World→Prop}{Q:Exit→Act→World→Prop}(hh:o.wp P a w K Q):o.wp P a w (fun a'' w''=>(∃ v,a''=a.put o.dst v)∧K a'' w'') Q:=by
 unfold Oper.wp at *;generalize (execOp a.eval o).run P w=r at *;cases r with
 | ok n w'=>
  cases n<;>simp only[Oper.upon]at hh ⊢ <;>
   first
    | exact⟨⟨_,rfl⟩,hh⟩
    | exact Calls.mono hh (fun e w'' he=>by cases e<;>first | exact⟨⟨_,rfl⟩,he⟩ | exact he)
    | exact Rows.mono hh (fun _ _ he=>⟨⟨_,rfl⟩,he⟩)
    | exact absurd rfl (hnd _ _)
 | halt x w'=>cases x<;>simp only[Oper.upon]at hh ⊢ <;> exact hh
structure NoD (P:Program) (o:Oper):Prop where
 nd:∀(a:Act) (w:World) d w',(execOp a.eval o).run P w≠.ok (.defer d) w'
def tailX (ops:Array Oper) (m:Nat):Bool:=decide (m<ops.size)&&((List.range m).all fun j=>ancB ops ops.size m j)&&(List.range ops.size).all fun n=>decide (n<m)||(match ops[n]? with
 | some o=>o.guard.isNone&&(n == m||ya ops n (n-1))
 | none=>false)
theorem drawN(m:Nat){J:World→Prop}{F:Nat→Prop}{ds:List Deferred}{β:Nat→Nat}{c:Cf}{a:Act}{w:World}{Q:Exit→Act→World→Prop}(Y:Ty P fo io ze)(R:yw J F)(hT:∀ w,J w→T w){ks:List Ki}{fs us:List (Fa P T)}{vals:Vs}{e:List (Value×Value)}(V:Nat→Value→World→Prop)(hV:∀ i v w w',V i v w→Below w.heap.size w w'→V i v w')(hc:drQ c=some (ops,ks))(hg:goS P T fo io (spM ops m sp) ops c.tm c.rows ops.toList 0 [] fs=some (vals,us,e))(he:∀ p∈e,p.1=p.2)(hb:qi ops=true)(hB:kn ops=true)(hgs:gsB ops (spM ops m sp)=true)(hds:dstB ops c.tm.length=true)(hids:xo (tmM ops m sp c.tm vals fun _=>undef) c.nx=true)(hla:tailX ops m=true)(hnd:∀(n:Nat) (o:Oper),m≤n→ops[n]? = some o→NoD P o)(hsn:(sp.all fun p=>decide (p.1<m))=true)(I:SI J F ds β c a w)(hsp:∀ i x o,yi sp i=some x→ops[i]? = some o→∀ za vs a' w',Frm ops vs a za a'→i∈Region.ready .any ops za→Below w.heap.size w w'→(∀ q∈sp,za.getD q.1 false=true→V q.1 (vs q.1) w')→(∀ x s,evS ops c.tm (vals.take i) i x=some s→a'.eval x=up β s) →
   wpG ops o P a' w' (fun a'' w''=>∃ v,a''=a'.put o.dst v∧(∀ u,x=some u→v=u)∧V i v w''∧Below w'.heap.size w' w'') (QK P Q ks))(k:∀ vs a' w',(∀ q∈sp,q.1<ops.size→V q.1 (vs q.1) w')→SI J F ds β { ops:=ops,rest:=ops.toList.drop m,ks:=ks,tm:=tmM ops m sp c.tm vals vs,rows:=c.rows,nx:=c.nx,dn:=none } a' w'→At P Q { ops:=ops,rest:=ops.toList.drop m,ks:=ks,tm:=tmM ops m sp c.tm vals vs,rows:=c.rows,nx:=c.nx,dn:=none } a' w'):At P Q c a w:=by
 obtain⟨hvl,_,hspec⟩:=zbz (k:=0) (v0:=[]) rfl hg he;have htm:a.tmps.size=c.tm.length:=by rw[I.fr];simp
 have dl:∀ t j,wr ops t=some j→t<a.tmps.size:=fun t j h=>by rw[htm];exact dstB_ok hds h
 have hsv:∀ j x,yi (spM ops m sp) j=some x→j<ops.size→vals[j]? = some (x.map Sum.inl):=fun j x hx hj=>by
  have:=(hspec j ops[j] (by simp[hj])).1 x (by rw[Nat.zero_add];exact hx)
  rwa [Nat.zero_add]at this
 unfold tailX at hla;simp only[Bool.and_eq_true,List.all_eq_true,List.mem_range,decide_eq_true_eq]at hla;obtain⟨⟨hmo,hanc⟩,hla2⟩:=hla;have htl:∀ n o,m≤n→ops[n]? = some o→o.guard=none∧(n=m∨ya ops n (n-1)=true):=fun n o hn ho=>by
  have h1:=hla2 n (Array.getElem?_eq_some_iff.1 ho).1;rw[ho,decide_eq_false (by omega)]at h1;simp only[Bool.false_or,Bool.and_eq_true,Option.isNone_iff_eq_none,Bool.or_eq_true,beq_iff_eq]at h1;exact⟨h1.1,h1.2⟩
 have spn:∀ i x,yi sp i=some x→yi (spM ops m sp) i=some x:=fun i x h=>by
  unfold yi at h ⊢;rw[List.find?_append];rw[Option.map_eq_some_iff]at h;obtain⟨p,h1,h2⟩:=h;rw[h1];exact congrArg some h2
 have spi:∀ i x,i<m→yi (spM ops m sp) i=some x→yi sp i=some x:=fun i x hi h=>by
  unfold yi at h ⊢;rw[List.find?_append]at h;cases hq:sp.find? fun p=>p.1 == i with
  | some p=>rw[hq]at h;exact h
  | none=>
   rw[hq]at h;simp only[Option.none_or,Option.map_eq_some_iff]at h;obtain⟨p,h1,h2⟩:=h;have h3:=List.find?_some h1;have h4:=List.mem_of_find?_eq_some h1;obtain⟨q,hq1,rfl⟩:=List.mem_map.1 h4;simp only[beq_iff_eq]at h3;omega
 have spl:∀ i x,yi sp i=some x→i<m:=fun i x h=>by
  have:=List.all_eq_true.1 hsn _ (za1 h);simpa using this
 let V':Nat→Value→World→Prop:=fun i v w=>m≤i∨V i v w
 have hV':∀ i v w w',V' i v w→Below w.heap.size w w'→V' i v w':=fun i v w w' h hb=>h.imp id fun h=>hV i v w w' h hb
 have hfr:∀ za vs a' w',(∀ j,j<m→za.getD j false=true)→(∀ j,m≤j→za.getD j false=false)→Frm ops vs a za a'→DS ops (spM ops m sp) β vals V' w za vs w'→a'.tmps=((tmM ops m sp c.tm vals vs).map (upO β)).toArray:=by
  intro za vs a' w' hd hno hF D;apply Array.ext_getElem?;intro t;by_cases ht:t<a.tmps.size
  ·have ht':t<c.tm.length:=by omega
   rw[hF.2.2 t ht];have e0:a.tmps[t]? = some (upO β (c.tm[t]?).join):=by
    rw[I.fr];simp[List.getElem?_eq_getElem ht']
   simp only[List.getElem?_toArray,tmM,List.getElem?_map,List.getElem?_range ht',Option.map_some];cases hw:wr ops t with
   | none=>exact e0
   | some j=>
    simp only[];by_cases hj:m≤j
    ·rw[if_neg (by rw[hno j hj];decide),if_pos hj];exact e0
    ·have hj2:j<m:=by omega
     rw[if_pos (hd j hj2),if_neg hj];cases hs:yi sp j with
     | none=>
      have hs2:yi (spM ops m sp) j=none:=by
       cases hq:yi (spM ops m sp) j with
       | none=>rfl
       | some x=>rw[spi j x hj2 hq]at hs;cases hs
      simp only[];rw[D.rk j (hd j hj2) hs2]
     | some x=>rfl
  ·rw[Array.getElem?_eq_none (by have:=hF.2.1;omega),Array.getElem?_eq_none (by simp[tmM];omega)]
 have tstep:∀(n:Nat) (za:Array Bool) (vs:Nat→Value) (a':Act) (w':World) (o:Oper),m≤n→za.size=ops.size→ops[n]? = some o→¬ za.getD n false=true→(∀ j,j<n→za.getD j false=true)→(∀ j,n≤j→za.getD j false=false)→Frm ops vs a za a'→wpL P ops (QK P Q ks) (ops.toList.drop n) a' w' →
   wpG ops o P a' w' (fun a'' w''=>∃ v,a''=a'.put o.dst v∧((∀ j,m≤j→(za.setIfInBounds n true).getD j false=false)∧DS ops (spM ops m sp) β vals V' w (za.setIfInBounds n true) (fun j=>if j=n then v else vs j) w''∨∃ n',m<n'∧n'≤ops.size∧(∀ j,j<n'→(za.setIfInBounds n true).getD j false=true)∧(∀ j,n'≤j→(za.setIfInBounds n true).getD j false=false)∧∀ a3,Frm ops (fun j=>if j=n then v else vs j) a (za.setIfInBounds n true) a3→wpL P ops (QK P Q ks) (ops.toList.drop n') a3 w'')) (QK P Q ks):=by
  intro n za vs a' w' o hmn hs ho hun hall hno hF hwp;obtain⟨h1,h3⟩:=htl n o hmn ho;have hnl:n<ops.size:=(Array.getElem?_eq_some_iff.1 ho).1;have hdrop:ops.toList.drop n=o::ops.toList.drop (n+1):=nat_drop (by simpa using ho);rw[hdrop]at hwp;have hwn:Region.wanted o (yielded ops a'.tmps)=true:=by unfold Region.wanted;rw[h1]
  unfold wpG;rw[if_pos hwn];unfold wpL at hwp;rw[if_pos hwn]at hwp;refine Oper.wp_mono ?_ (put_any ((hnd n o hmn ho).nd a' w') hwp);rintro a2 w2 ⟨⟨v,rfl⟩,h4⟩;have hset:∀ j,(za.setIfInBounds n true).getD j false=true↔(j=n∨za.getD j false=true):=fun j=>by
   constructor
   ·intro h;exact zm h
   ·rintro(rfl|h)
    ·rw[Array.getD_eq_getD_getElem?,Array.getElem?_setIfInBounds,if_pos rfl,if_pos (by omega)];rfl
    ·exact z6 h
  refine⟨v,rfl,.inr ⟨n+1,by omega,by omega,fun j hj=>(hset j).2 ?_,fun j hj=>?_,fun a3 hF3=>?_⟩⟩
  ·rcases Nat.lt_or_ge j n with h|h
   ·exact .inr (hall j h)
   ·exact .inl (by omega)
  ·have:¬ (za.setIfInBounds n true).getD j false=true:=fun h=>by
    rcases(hset j).1 h with h|h
    ·omega
    ·rw[hno j (by omega)]at h;cases h
   simpa using this
  ·have hst:=hF.step hs ho (qp hB ho) hun v;have e:a3=a'.put o.dst v:=by
    have q:∀(x y:Act),Frm ops (fun j=>if j=n then v else vs j) a (za.setIfInBounds n true) x→Frm ops (fun j=>if j=n then v else vs j) a (za.setIfInBounds n true) y→x=y:=by
     intro x y hx hy;have ht:x.tmps=y.tmps:=by
      apply Array.ext_getElem?;intro t;by_cases htl:t<a.tmps.size
      ·rw[hx.2.2 t htl,hy.2.2 t htl]
      ·rw[Array.getElem?_eq_none (by have:=hx.2.1;omega),Array.getElem?_eq_none (by have:=hy.2.1;omega)]
     have hd:x.defers=y.defers:=hx.1.trans hy.1.symm;cases x;cases y;simp only at ht hd;rw[ht,hd]
    exact q _ _ hF3 hst
   rw[e];exact h4
 refine at_reg Y.hm hc ?_;refine vu hb hB (fun za vs w'=>((∀ j,m≤j→za.getD j false=false)∧DS ops (spM ops m sp) β vals V' w za vs w')∨∃ n',m<n'∧n'≤ops.size∧(∀ j,j<n'→za.getD j false=true)∧(∀ j,n'≤j→za.getD j false=false)∧∀ a',Frm ops vs a za a'→wpL P ops (QK P Q ks) (ops.toList.drop n') a' w') ?_ ?_ ?_
 ·intro w1 h1;have hf:∀ j,¬ (Array.replicate ops.size false).getD j false=true:=fun j h=>by
   rw[Array.getD_eq_getD_getElem?,Array.getElem?_replicate]at h;split at h<;>simp at h
  refine .inl ⟨fun j _=>by simpa using hf j,?_,fun j k _ h=>absurd h (hf k),fun j h=>absurd h (hf j),fun j x h=>absurd h (hf j)⟩;rcases h1 with rfl | rfl
  ·exact Below.refl _ _
  ·exact⟨rfl,rfl,rfl,Nat.le_refl _,fun _ _=>rfl⟩
 ·intro za vs a' w' i o hs ho hi hF D;have hun:=zai hi hs;have hio:i<ops.size:=(Array.getElem?_eq_some_iff.1 ho).1;rcases D with⟨hLn,D⟩|⟨n',h1,h2,h3,h4,h5⟩
  case inr=>
   have hin:i=n':=by
    have hge:n'≤i:=Nat.le_of_not_lt fun h=>hun (h3 i h)
    rcases Nat.eq_or_lt_of_le hge with h|h
    ·exact h.symm
    ·rcases(htl i o (by omega) ho).2 with h6|h6
     ·omega
     ·have:=zk h6 hi;rw[h4 (i-1) (by omega)]at this;cases this
   subst hin;exact tstep i za vs a' w' o (by omega) hs ho hun h3 h4 hF (h5 a' hF)
  have hev:∀ x s,evS ops c.tm (vals.take i) i x=some s→a'.eval x=up β s:=fun x s h=>evF_ok D hsv hF I.fr hs hi h
  by_cases hiL:m≤i
  ·have him:i=m:=by
    rcases Nat.eq_or_lt_of_le hiL with h|h
    ·exact h.symm
    ·rcases(htl i o hiL ho).2 with h6|h6
     ·omega
     ·have:=zk h6 hi;rw[hLn (i-1) (by omega)]at this;cases this
   subst him;have hall:∀ j,j<i→za.getD j false=true:=fun j hj=>ancB_ready D.wt (hanc j hj) hi
   have:=(k vs a' w' (fun q hq hl=>by
    obtain⟨y,hy⟩:=zbt hq;rcases(D.sv q.1 y (hall q.1 (spl _ _ hy)) (spn _ _ hy)).1 with h|h
    ·have:=spl _ _ hy;omega
    ·exact h) ⟨hfr za vs a' w' hall hLn hF D,hF.1.trans I.df,R.loc w w' I.hJ (zi.of_below D.bw),fun p hp=>(I.row p hp).below D.bw,I.dis,I.lt,I.inj,ids_tmM hids⟩).out
   unfold AtD at this;exact tstep i za vs a' w' o (Nat.le_refl _) hs ho hun hall hLn hF this
  have hLs:∀(v:Value) w2,DS ops (spM ops m sp) β vals V' w (za.setIfInBounds i true) (fun j=>if j=i then v else vs j) w2→((∀ j,m≤j→(za.setIfInBounds i true).getD j false=false)∧DS ops (spM ops m sp) β vals V' w (za.setIfInBounds i true) (fun j=>if j=i then v else vs j) w2)∨∃ n',m<n'∧n'≤ops.size∧(∀ j,j<n'→(za.setIfInBounds i true).getD j false=true)∧(∀ j,n'≤j→(za.setIfInBounds i true).getD j false=false)∧∀ a',Frm ops (fun j=>if j=i then v else vs j) a (za.setIfInBounds i true) a'→wpL P ops (QK P Q ks) (ops.toList.drop n') a' w2:=by
   intro v w2 D2;refine .inl ⟨fun j hj=>?_,D2⟩;have:¬ (za.setIfInBounds i true).getD j false=true:=fun h=>by
    rcases zm h with h|h
    ·omega
    ·rw[hLn j hj]at h;cases h
   simpa using this
  have wt':∀ j k,ya ops k j=true→(za.setIfInBounds i true).getD k false=true→(za.setIfInBounds i true).getD j false=true:=fun j k hw hk=>by
   rcases zm hk with rfl|hk
   ·exact z6 (zk hw hi)
   ·exact z6 (D.wt j k hw hk)
  cases hsi:yi (spM ops m sp) i with
  | some x=>
   have hsi':yi sp i=some x:=spi i x (by omega) hsi;refine yq (fun a'' w'' h=>?_) (hsp i x o hsi' ho za vs a' w' hF hi D.bw (fun q hq hl=>by
    obtain⟨y,hy⟩:=zbt hq;rcases(D.sv q.1 y hl (spn _ _ hy)).1 with h|h
    ·rw[hLn _ h]at hl;cases hl
    ·exact h) hev)
   obtain⟨v,rfl,h1,h2,h3⟩:=h;refine⟨v,rfl,hLs v w'' ⟨D.bw.trans (h3.mono D.bw.size),wt',fun j hj hn=>?_,fun j y hj hy=>?_⟩⟩
   ·have hji:j≠i:=fun e=>by rw[e,hsi]at hn;cases hn
    simp only[if_neg hji];exact D.rk j ((zm hj).resolve_left hji) hn
   ·by_cases hji:j=i
    ·subst hji;rw[hsi]at hy;cases hy;simp only[if_true];exact⟨.inr h2,h1⟩
    ·simp only[if_neg hji];obtain⟨a1,a2⟩:=D.sv j y ((zm hj).resolve_left hji) hy;exact⟨hV' j _ _ _ a1 h3,a2⟩
  | none=>
   obtain⟨f,s,e',hq,he',hvi⟩:=(hspec i o (by simpa using ho)).2 (by rw[Nat.zero_add];exact hsi);rw[Nat.zero_add]at hq hvi
   have next:∀ v w2,v=upO β s→Below w'.heap.size w' w2→∃ v',a'.put o.dst v=a'.put o.dst v'∧(((∀ j,m≤j→(za.setIfInBounds i true).getD j false=false)∧DS ops (spM ops m sp) β vals V' w (za.setIfInBounds i true) (fun j=>if j=i then v' else vs j) w2)∨∃ n',m<n'∧n'≤ops.size∧(∀ j,j<n'→(za.setIfInBounds i true).getD j false=true)∧(∀ j,n'≤j→(za.setIfInBounds i true).getD j false=false)∧∀ a',Frm ops (fun j=>if j=i then v' else vs j) a (za.setIfInBounds i true) a'→wpL P ops (QK P Q ks) (ops.toList.drop n') a' w2):=by
    intro v w2 hv hb2;refine⟨v,rfl,hLs v w2 ⟨D.bw.trans (hb2.mono D.bw.size),wt',fun j hj hn=>?_,fun j y hj hy=>?_⟩⟩
    ·by_cases hji:j=i
     ·subst hji;simp only[if_true];rw[hvi,hv];rfl
     ·simp only[if_neg hji];exact D.rk j ((zm hj).resolve_left hji) hn
    ·have hji:j≠i:=fun e=>by rw[e,hsi]at hy;cases hy
     simp only[if_neg hji];obtain⟨a1,a2⟩:=D.sv j y ((zm hj).resolve_left hji) hy;exact⟨hV' j _ _ _ a1 hb2,a2⟩
   have hgo:∀ j b,o.guard=some (j,b)→yi (spM ops m sp) j=none:=fun j b hg=>by
    unfold gsB at hgs;have:=Array.all_eq_true.1 hgs i hio;rw[Array.getElem?_eq_some_iff]at ho;obtain⟨_,ho⟩:=ho;rw[ho,hg]at this;simpa using this
   unfold qop at hq;split at hq
   ·next hw=>
    cases hq;have hnw:=vh D hsv hF hB dl hi hgo hw;unfold wpG;rw[hnw];simp only[Bool.false_eq_true,if_false];exact next undef w' rfl (Below.refl _ _)
   ·cases hq
   ·next hw=>
    have hnw:=vh D hsv hF hB dl hi hgo hw;unfold wpG;rw[hnw];simp only[if_true];have hJ':J w':=R.loc w w' I.hJ (zi.of_below D.bw);have hevL:∀{xs:List Operand} {us:List Value},(xs.mapM fun x=>plain (evS ops c.tm (vals.take i) i x))=some us→xs.map a'.eval=us:=by
     intro xs
     induction xs with
     | nil=>intro us h;simp at h;subst h;rfl
     | cons x xs ih=>
      intro us h;rw[List.mapM_cons]at h;cases h1:plain (evS ops c.tm (vals.take i) i x)with
      | none=>rw[h1]at h;simp at h
      | some v=>
       cases h2:(xs.mapM fun x=>plain (evS ops c.tm (vals.take i) i x))with
       | none=>rw[h1,h2]at h;simp at h
       | some us'=>
        rw[h1,h2]at h;simp at h;subst h;rw[List.map_cons,ih h2,hev _ _ (zp h1)];rfl
    split at hq
    ·simp only[Option.map_eq_some_iff,Prod.mk.injEq]at hq;obtain⟨sv,hn,rfl,rfl⟩:=hq;exact zb3 Y hev (fun id r h=>(I.row _ (zy h)).below D.bw) hn fun w2 hb2=>next _ w2 rfl hb2
    ·next f=>
     split at hq
     ·next g xs ts hop=>
      split at hq
      ·next hfg=>
       subst hfg;simp only[Option.map_eq_some_iff,Prod.mk.injEq]at hq;obtain⟨us',hm2,rfl,rfl⟩:=hq;have h1:=hevL hm2;have h2:=he' _ (List.mem_singleton.2 rfl);simp only[Value.tuple.injEq]at h2;refine Oper.wp_mono ?_ (zae f.f xs ts hop (vs:=f.args) ?_ (f.hr xs ts) (f.hc w' (hT w' hJ')))
       ·rintro a2 w2 ⟨rfl,hb2⟩;exact next _ w2 rfl hb2
       ·rw[← h2,← h1];apply Array.ext';simp
      ·cases hq
     ·cases hq
    ·next f=>
     split at hq
     ·next hok=>
      simp only[Option.map_eq_some_iff,Prod.mk.injEq]at hq;obtain⟨us',hm2,rfl,rfl⟩:=hq;have h1:=hevL hm2;have h2:=he' _ (List.mem_singleton.2 rfl);simp only[Value.tuple.injEq]at h2;exact xb (f.h a' w' o (.inr (hT w' hJ')) hok (by rw[h1,h2])) (next _ w' rfl (Below.refl _ _))
     ·cases hq
 ·intro za vs a' w' hd hF D;rcases D with⟨h1,_⟩|⟨n',h1,h2,h3,h4,h5⟩
  ·have:=hd m hmo;rw[h1 m (Nat.le_refl _)]at this;cases this
  ·have hn:n'=ops.size:=by
    rcases Nat.eq_or_lt_of_le h2 with h|h
    ·exact h
    ·have:=hd n' h;rw[h4 n' (Nat.le_refl _)]at this;cases this
   have:=h5 a' hF;rw[hn,List.drop_eq_nil_of_le (by simp)]at this;exact this
end
section
variable {P:Program} {J:World→Prop} {F:Nat→Prop} {ds:List Deferred} {β:Nat→Nat} {c:Cf} {a:Act} {w:World} {Q:Exit→Act→World→Prop}
def dnX (P:Program) {T:World→Prop} (m:Nat) (sp:Spt) (fs:List (Fa P T)) (c:Cf):Option (Vs×List (Value×Value)):=
 match drQ c with
 | some (ops,ks)=>match goS P T (foV P) (ioV P) (spM ops m sp) ops c.tm c.rows ops.toList 0 [] fs with
  | some (vals,us,e)=>if(qi ops&&kn ops&&gsB ops (spM ops m sp)&&dstB ops c.tm.length&&xo (tmM ops m sp c.tm vals fun _=>undef) c.nx&&tailX ops m&&(sp.all fun p=>decide (p.1<m)))=true then some (vals,e)else none
  | none=>none
 | none=>none
abbrev valsN (P:Program) {T:World→Prop} (m:Nat) (sp:Spt) (fs:List (Fa P T)) (c:Cf):Vs:=((dnX P m sp fs c).map (·.1)).getD []
abbrev dnC (P:Program) {T:World→Prop} (m:Nat) (sp:Spt) (fs:List (Fa P T)) (c:Cf) (vs:Nat→Value):Cf:={ ops:=z9 c,rest:=(z9 c).toList.drop m,ks:=ksD c,tm:=tmM (z9 c) m sp c.tm (valsN P m sp fs c) vs,rows:=c.rows,nx:=c.nx,dn:=none }
theorem dwN{T:World→Prop}(m:Nat)(sp:Spt)(hnd:∀(n:Nat) (o:Oper),m≤n→(z9 c)[n]? = some o→NoD P o)(fs:List (Fa P T))(V:Nat→Value→World→Prop)(hV:∀ i v w w',V i v w→Below w.heap.size w w'→V i v w')(R:yw J F)(hT:∀ w,J w→T w)(I:SI J F ds β c a w)(hsp:∀ p∈sp,∀ o,(z9 c)[p.1]? = some o→∀ za vs a' w',Frm (z9 c) vs a za a'→p.1∈Region.ready .any (z9 c) za→Below w.heap.size w w'→(∀ q∈sp,za.getD q.1 false=true→V q.1 (vs q.1) w')→(∀ x s,evS (z9 c) c.tm ((valsN P m sp fs c).take p.1) p.1 x=some s→a'.eval x=up β s) →
   wpG (z9 c) o P a' w' (fun a'' w''=>∃ v,a''=a'.put o.dst v∧(∀ u,p.2=some u→v=u)∧V p.1 v w''∧Below w'.heap.size w' w'') (QK P Q (ksD c)))(k:∀ vs a' w',(∀ q∈sp,q.1<(z9 c).size→V q.1 (vs q.1) w')→SI J F ds β (dnC P m sp fs c vs) a' w'→At P Q (dnC P m sp fs c vs) a' w')(hm:P.follows .mixedOrders=true:=by kernel_rfl)(hs:(dnX P m sp fs c).isSome=true:=by kernel_rfl)(he:(dnX P m sp fs c).map (fun r=>r.2.map (·.1))=(dnX P m sp fs c).map (fun r=>r.2.map (·.2)):=by kernel_rfl):At P Q c a w:=by
 cases hx:dnX P m sp fs c with
 | none=>rw[hx]at hs;cases hs
 | some r=>
  unfold valsN at hsp;unfold dnC valsN at k;rw[hx]at he k hsp;unfold dnX at hx;unfold z9 ksD at hsp k;unfold z9 at hnd;split at hx
  ·next ops ks hc=>
   rw[hc]at hsp k hnd;split at hx
   ·next vals us e hg=>
    split at hx
    ·next hb=>
     cases hx;simp only[Option.map_some,Option.some.injEq,Option.getD_some]at he k hsp hnd;simp only[Bool.and_eq_true]at hb;exact drawN m (ty_ok hm) R hT V hV hc hg (zb2 he) hb.1.1.1.1.1.1 hb.1.1.1.1.1.2 hb.1.1.1.1.2 hb.1.1.1.2 hb.1.1.2 hb.1.2 hnd hb.2 I (fun i x o hx ho=>hsp (i,x) (za1 hx) o ho) k
    ·cases hx
   ·cases hx
  ·cases hx
end
theorem noD_store{P:Program}{o:Oper}{t:TypeId}{x y:Operand}(hop:o.op=.store t x y):NoD P o:=⟨fun a w d w' h=>by
 unfold execOp at h;simp only[hop,Sem.run_bind]at h;cases hq:(Instr.storeAt t (a.eval x) (a.eval y)).run P w with
 | ok u w2=>rw[hq]at h;simp[Result.andThen]at h
 | halt s w2=>rw[hq]at h;simp[Result.andThen]at h⟩
theorem noD_field{P:Program}{o:Oper}{t:TypeId}{x:Operand}{f:Nat}(hop:o.op=.fieldAddr t x f):NoD P o:=⟨fun a w d w' h=>by
 unfold execOp at h;simp only[hop,Sem.run_bind]at h;cases hq:(Instr.fieldAt t (a.eval x) f).run P w with
 | ok u w2=>rw[hq]at h;simp[Result.andThen]at h
 | halt s w2=>rw[hq]at h;simp[Result.andThen]at h⟩
theorem noD_app{P:Program}{o:Oper}{xs:Array Operand}{ts:Array TypeId}(hop:o.op=.call ⟨.builtin .append,xs,ts⟩):NoD P o:=⟨fun a w d w' h=>by
 have he:∃ ty,(execOp a.eval o).run P w=((Builtin.append_ ts ty (xs.map a.eval)).run P w).andThen fun v w2=>.ok (.value v) w2:=by
  refine⟨o.type,?_⟩;unfold execOp;simp only[hop,resolve,invoke,Sem.run_bind,Sem.run_pure,Result.andThen_ok,builtin]
 obtain⟨ty,he⟩:=he;rw[he]at h;cases hq:(Builtin.append_ ts ty (xs.map a.eval)).run P w with
 | ok u w2=>rw[hq]at h;simp[Result.andThen]at h
 | halt s w2=>rw[hq]at h;simp[Result.andThen]at h⟩
end Go.Proofs.YtdeompgdhaomgaaGreatDoor
