import Derived.Test.YtfhppenjbmmadaaGreatDoorXmM40
namespace Go.Proofs.YtfhppenjbmmadaaGreatDoor
set_option linter.unusedVariables false
set_option maxHeartbeats 8000000
section
open Go.RowKit Go.Sort Go.Shelf
attribute [local go_sem] Oper.semAt_some bd27_
abbrev PT' (b:Nat):Value:=.pointer (some ⟨b,0,none⟩)
abbrev V (v:Value):Option SV:=some (Sum.inl v)
abbrev R (i:Nat):Option SV:=some (Sum.inr (i,0))
structure TF (w W:World) (e d:Nat) (O E:Array Value) (g:Nat):Prop where
 r3:HRw W w.heap.size (Ar e)
 r4:HRw W (w.heap.size+1) (Ar d)
 r6:HRw W (w.heap.size+1+1) (P9 0 0 false)
 r8:HRw W g O
 r9:HRw W (g+1) E
 b:RowKit.Below w.heap.size w W
 h:w.heap.size+1+1<g
theorem TF.below{w W W':World}{e d g:Nat}{O E:Array Value}(h:TF w W e d O E g){n:Nat}(hb:RowKit.Below n W W')(hn:g+1<n):TF w W' e d O E g:=
 ⟨h.r3.below' hb (by have:=h.h;omega),h.r4.below' hb (by have:=h.h;omega),h.r6.below' hb (by have:=h.h;omega),h.r8.below' hb (by omega),h.r9.below' hb hn,h.b.trans (hb.mono (by have:=h.h;omega)),h.h⟩
theorem TF.alloc{w W:World}{e d g:Nat}{O E:Array Value}(h:TF w W e d O E g)(o:Obj):TF w (W.alloc o) e d O E g:=⟨h.r3.old,h.r4.old,h.r6.old,h.r8.old,h.r9.old,bAl h.b _,h.h⟩
set_option maxRecDepth 100000 in
theorem first_raw(en d b1 b2:Nat)(kN px py sN rr ss:Nat→Nat)(pn zk fi zs od oo:Nat→Bool)(w:World)(hseq:∀ w',RowKit.Below w.heap.size w w'→SeqN 5 Tryz.prog 73 #[PT' b1,PT' b2] (fun i=>#[U (kN i),A9 (px i) (py i) (pn i)]) (KpN w.heap.size) 256 w')(hsh:∀ i,i<256→Ds 69 #[U en,U d,U (kN i),U (px i)] (U (sN i)))(hzk:∀ i,i<256→∀ w,(Op.equalIn 10000 24 (U (kN i)) (U 0)).run Tryz.prog w=.ok (zk i) w)(hin:∀ i,i<256→Ds 70 #[U (px i)] (.bool (fi i)))(hzs:∀ i,i<256→∀ w,(Op.equalIn 10000 24 (U (sN i)) (U 0)).run Tryz.prog w=.ok (zs i) w)(hod:∀ i,i<256→Ds 72 #[U (py i)] (.bool (od i)))(hlo:∀ i,i<256→Ds 71 #[A9 (px i) (sN i) (od i)] (A9 (rr i) (ss i) (oo i))) :
  Calls Tryz.prog 32 #[U en,U d,.func (.func 73) #[] #[PT' b1,PT' b2]] w fun e w'=>((∃ i,i<256∧(!zk i&&fi i && !zs i)=true∧(∀ j,j<i→(!zk j&&fi j && !zs j)=false)∧e=.returned (.tuple #[A9 (rr i) (ss i) (oo i),.int .i64 0])) ∨
   ((∀ j,j<256→(!zk j&&fi j && !zs j)=false)∧e=.returned (.tuple #[A9 0 0 false,.int .i64 4])))∧RowKit.Below w.heap.size w w':=by
 have HQ:Hid _:=hseq
 have HSH:Hid _:=hsh
 have HZK:Hid _:=hzk
 have HFI:Hid _:=hin
 have HZS:Hid _:=hzs
 have HOD:Hid _:=hod
 have HLO:Hid _:=hlo
 clear hseq hsh hzk hin hzs hod hlo
 refine (callsIn_wide (n:=6)).1 ?_
 refine callsIn_of_wp_marks Tryz.func32 rfl trivial ?_ rfl
 simp only[Tryz.ntmps32,List.size_toArray,List.length_cons,List.length_nil,Nat.reduceAdd,Nat.reduceSub,Array.replicate_succ,Array.replicate_zero,List.push_toArray,List.append_toArray,List.nil_append,List.cons_append]
 gi_wp2_with fail
 refine wpIn_scope ?_
 gi_wp2_with fail
 refine wpIn_label ?_
 gi_wp2_with fail
 refine name_worldIn _ ?_
 intro w5 hw5
 have M5:Hid (TF w w5 en d (P9 0 0 false) #[.int .i64 4] (w.heap.size+1+1+1)):=by
  rw[hw5]
  exact ⟨HRw.old (HRw.old (HRw.old (HRw.old (HRw.last rfl)))),HRw.old (HRw.old (HRw.old (HRw.last (by simp)))),HRw.old (HRw.old (HRw.last (by simp))),HRw.old (HRw.last (by simp)),HRw.last (by simp),bAl (bAl (bAl (bAl (bAl (RowKit.Below.refl _ _) _) _) _) _) _,by omega⟩
 clear hw5
 have hl5:=M5.out.r9.lt
 have hI:∀ (i:Nat) (A B:World),(TF w A en d (P9 0 0 false) #[.int .i64 4] (w.heap.size+1+1+1)∧∀ j,j<i→(!zk j&&fi j && !zs j)=false)→RowKit.Below w5.heap.size A B→(TF w B en d (P9 0 0 false) #[.int .i64 4] (w.heap.size+1+1+1)∧∀ j,j<i→(!zk j&&fi j && !zs j)=false):=fun i A B h hb=>⟨h.1.below hb hl5,h.2⟩
 have hX:∀ (c:Code) (A B:World),(c=.exit 0∧∃ i,i<256∧(!zk i&&fi i && !zs i)=true∧(∀ j,j<i→(!zk j&&fi j && !zs j)=false)∧TF w A en d (P9 (rr i) (ss i) (oo i)) #[.int .i64 0] (w.heap.size+1+1+1))→RowKit.Below w5.heap.size A B→(c=.exit 0∧∃ i,i<256∧(!zk i&&fi i && !zs i)=true∧(∀ j,j<i→(!zk j&&fi j && !zs j)=false)∧TF w B en d (P9 (rr i) (ss i) (oo i)) #[.int .i64 0] (w.heap.size+1+1+1)):=fun c A B h hb=>by
  obtain ⟨h1,i,h2,h3,h4,h5⟩:=h
  exact ⟨h1,i,h2,h3,h4,h5.below hb hl5⟩
 have HI:Hid _:=hI
 have HX:Hid _:=hX
 clear hI hX
 refine range_seq (by decide) (gf:=73) (lb:=#[PT' b1,PT' b2]) rfl (enters_of Tryz.func73 (by kernel_rfl) rfl) (HQ.out w5 M5.out.b) KpN.trans (fun W l o h=>KpN.put W o (by omega)) (fun _=>rfl)
  (fun i W=>TF w W en d (P9 0 0 false) #[.int .i64 4] (w.heap.size+1+1+1)∧∀ j,j<i→(!zk j&&fi j && !zs j)=false)
  (fun c W=>c=.exit 0∧∃ i,i<256∧(!zk i&&fi i && !zs i)=true∧(∀ j,j<i→(!zk j&&fi j && !zs j)=false)∧TF w W en d (P9 (rr i) (ss i) (oo i)) #[.int .i64 0] (w.heap.size+1+1+1))
  HI.out HX.out ⟨M5.out,fun j hj=>absurd hj (Nat.not_lt_zero j)⟩
  (fun i a' W=>∃ Bk Bp,w.heap.size+1+1+1+1<Bk∧Bk<Bp∧HRw W Bk (Ar (kN i))∧HRw W Bp (P9 (px i) (py i) (pn i))∧a'={ tmps:=#[U en,U d,.func (.func 73) #[] #[PT' b1,PT' b2],.pointer (some ⟨w.heap.size,0,none⟩),.pointer (some ⟨w.heap.size+1,0,none⟩),undef,.pointer (some ⟨w.heap.size+1+1,0,none⟩),.int .i64 0,.pointer (some ⟨w.heap.size+1+1+1,0,none⟩),.pointer (some ⟨w.heap.size+1+1+1+1,0,none⟩),.pointer (some ⟨Bk,0,none⟩),.pointer (some ⟨Bp,0,none⟩),undef,.agg #[.int .u64 0,.int .u64 0,.int .u64 0,.int .u64 0,.int .u64 0,.int .u64 0,.int .u64 0,.int .u64 0,.bool false],.func (.func 73) #[] #[PT' b1,PT' b2],U (kN i),A9 (px i) (py i) (pn i),undef,undef,undef,undef,undef,undef,undef,undef,undef,undef,undef,undef,undef,undef,undef,undef,undef,undef,undef,undef,undef,undef,undef,undef,undef,undef,undef,undef,undef],defers:=[] })
  (fun i a' W l o o' hl ho h=>by
   obtain ⟨Bk,Bp,h1,h2,h3,h4,h5⟩:=h
   exact ⟨Bk,Bp,h1,h2,h3.putObj hl ho,h4.putObj hl ho,h5⟩)
  ?assign ?body ?done ?stop
 case assign=>
  rintro l i W K hi ⟨hm,hg⟩ hK
  have HM:Hid _:=hm
  have hlm:=hm.r9.lt
  clear hm
  gi_wp2
  exact hK _ _ (((KeepsOthers.alloc _ _).trans (KeepsOthers.alloc _ _)).from _) (KpN.below (bAl (bAl (RowKit.Below.refl _ _) _) _) (by omega)) ⟨(HM.out.alloc _).alloc _,hg⟩ ⟨W.heap.size,W.heap.size+1,hlm,by omega,HRw.old (HRw.last rfl),HRw.last (by simp),rfl⟩
 case body=>
  rintro l i a' W hi ⟨hm,hg⟩ ⟨Bk,Bp,k1,k2,k3,k4,rfl⟩
  have HM:Hid (TF w W en d (P9 0 0 false) #[.int .i64 4] (w.heap.size+1+1+1)):=hm
  have HG:Hid (∀ j,j<i→(!zk j&&fi j && !zs j)=false):=hg
  clear hm hg
  have IV:=inv_of (w0:=w) (w:=W) (tm:=[V (U en),V (U d),V (.func (.func 73) #[] #[PT' b1,PT' b2]),R 0,R 1,none,V (.pointer (some ⟨w.heap.size+1+1,0,none⟩)),V (.int .i64 0),R 2,R 3,R 4,R 5,none,V (.agg #[.int .u64 0,.int .u64 0,.int .u64 0,.int .u64 0,.int .u64 0,.int .u64 0,.int .u64 0,.int .u64 0,.bool false]),V (.func (.func 73) #[] #[PT' b1,PT' b2]),V (U (kN i)),V (A9 (px i) (py i) (pn i)),none,none,none,none,none,none,none,none,none,none,none,none,none,none,none,none,none,none,none,none,none,none,none,none,none,none,none,none,none]) (a:={ tmps:=#[U en,U d,.func (.func 73) #[] #[PT' b1,PT' b2],.pointer (some ⟨w.heap.size,0,none⟩),.pointer (some ⟨w.heap.size+1,0,none⟩),undef,.pointer (some ⟨w.heap.size+1+1,0,none⟩),.int .i64 0,.pointer (some ⟨w.heap.size+1+1+1,0,none⟩),.pointer (some ⟨w.heap.size+1+1+1+1,0,none⟩),.pointer (some ⟨Bk,0,none⟩),.pointer (some ⟨Bp,0,none⟩),undef,.agg #[.int .u64 0,.int .u64 0,.int .u64 0,.int .u64 0,.int .u64 0,.int .u64 0,.int .u64 0,.int .u64 0,.bool false],.func (.func 73) #[] #[PT' b1,PT' b2],U (kN i),A9 (px i) (py i) (pn i),undef,undef,undef,undef,undef,undef,undef,undef,undef,undef,undef,undef,undef,undef,undef,undef,undef,undef,undef,undef,undef,undef,undef,undef,undef,undef,undef,undef,undef],defers:=[] }) [(w.heap.size,Ar en),(w.heap.size+1,Ar d),(w.heap.size+1+1+1,P9 0 0 false),(w.heap.size+1+1+1+1,#[.int .i64 4]),(Bk,Ar (kN i)),(Bp,P9 (px i) (py i) (pn i)),(w.heap.size+1+1,P9 0 0 false)] (by kernel_rfl) HM.out.b ⟨HM.out.r3,HM.out.r4,HM.out.r8,HM.out.r9,k3,k4,HM.out.r6,trivial⟩ (by simp;omega) (by simp;omega)
  have HK:=HZK.out i hi
  have HIN:=HFI.out i hi
  have HS:=HZS.out i hi
  cases e1:zk i with
  | true=>
   rw[e1] at HK
   exact roB (Lg.round (by kernel_rfl) l 4) [(5,[nO,nO,nO,nO,nO,kC Tryz.func69 (HSH.out i hi).out]),(7,[nO,dO 24 [] (xs:=[]) bd24_,bO .eql 24 (p:=U (kN i)) (q:=U 0) (v:=.bool true) (by intros;simp[go_sem,HK])])] IV (fun _ _=>trivial) .normal [(0,Ar en),(1,Ar d),(2,P9 0 0 false),(3,#[.int .i64 4]),(6,P9 0 0 false)] [] (by simp) (fun a1 w1 _ _ hb hk hr=>⟨hk.from _,KpN.of HM.out.b hb hk.1,⟨hr.1,hr.2.1,hr.2.2.2.2.1,hr.2.2.1,hr.2.2.2.1,hb,HM.out.h⟩,fun j hj=>by
      rcases Nat.lt_or_ge j i with h | h
      ·exact HG.out j h
      ·obtain rfl:j=i:=by omega
       simp[e1]⟩)
  | false=>
   rw[e1] at HK
   cases e2:fi i with
   | false=>
    rw[e2] at HIN
    exact roB (Lg.round (by kernel_rfl) l 4) [(5,[nO,nO,nO,nO,nO,kC Tryz.func69 (HSH.out i hi).out]),(7,[nO,dO 24 [] (xs:=[]) bd24_,bO .eql 24 (p:=U (kN i)) (q:=U 0) (v:=.bool false) (by intros;simp[go_sem,HK])]),(8,[nO,nO,kC Tryz.func70 (HIN).out,uO .not (p:=.bool false) (v:=.bool true) (by intros;simp[go_sem])])] IV (fun _ _=>trivial) .normal [(0,Ar en),(1,Ar d),(2,P9 0 0 false),(3,#[.int .i64 4]),(6,P9 0 0 false)] [] (by simp) (fun a1 w1 _ _ hb hk hr=>⟨hk.from _,KpN.of HM.out.b hb hk.1,⟨hr.1,hr.2.1,hr.2.2.2.2.1,hr.2.2.1,hr.2.2.2.1,hb,HM.out.h⟩,fun j hj=>by
      rcases Nat.lt_or_ge j i with h | h
      ·exact HG.out j h
      ·obtain rfl:j=i:=by omega
       simp[e1,e2]⟩)
   | true=>
    rw[e2] at HIN
    cases e3:zs i with
    | true=>
     rw[e3] at HS
     exact roB (Lg.round (by kernel_rfl) l 4) [(5,[nO,nO,nO,nO,nO,kC Tryz.func69 (HSH.out i hi).out]),(7,[nO,dO 24 [] (xs:=[]) bd24_,bO .eql 24 (p:=U (kN i)) (q:=U 0) (v:=.bool false) (by intros;simp[go_sem,HK])]),(8,[nO,nO,kC Tryz.func70 (HIN).out,uO .not (p:=.bool true) (v:=.bool false) (by intros;simp[go_sem])]),(9,[nO,dO 24 [] (xs:=[]) bd24_,bO .eql 24 (p:=U (sN i)) (q:=U 0) (v:=.bool true) (by intros;simp[go_sem,HS])])] IV (fun _ _=>trivial) .normal [(0,Ar en),(1,Ar d),(2,P9 0 0 false),(3,#[.int .i64 4]),(6,P9 0 0 false)] [] (by simp) (fun a1 w1 _ _ hb hk hr=>⟨hk.from _,KpN.of HM.out.b hb hk.1,⟨hr.1,hr.2.1,hr.2.2.2.2.1,hr.2.2.1,hr.2.2.2.1,hb,HM.out.h⟩,fun j hj=>by
      rcases Nat.lt_or_ge j i with h | h
      ·exact HG.out j h
      ·obtain rfl:j=i:=by omega
       simp[e1,e2,e3]⟩)
    | false=>
     rw[e3] at HS
     exact roB (Lg.round (by kernel_rfl) l 4) [(5,[nO,nO,nO,nO,nO,kC Tryz.func69 (HSH.out i hi).out]),(7,[nO,dO 24 [] (xs:=[]) bd24_,bO .eql 24 (p:=U (kN i)) (q:=U 0) (v:=.bool false) (by intros;simp[go_sem,HK])]),(8,[nO,nO,kC Tryz.func70 (HIN).out,uO .not (p:=.bool true) (v:=.bool false) (by intros;simp[go_sem])]),(9,[nO,dO 24 [] (xs:=[]) bd24_,bO .eql 24 (p:=U (sN i)) (q:=U 0) (v:=.bool false) (by intros;simp[go_sem,HS])]),(6,[nO,nO,nO,nO,nO,kC Tryz.func72 (HOD.out i hi).out,dO 27 [0,1,2] (xs:=[U (px i),U (sN i),.bool (od i)]) (bd27_0U_1U_2b _ _ _),kC Tryz.func71 (HLO.out i hi).out])] IV (fun _ _=>trivial) (.exit 0) [(0,Ar en),(1,Ar d),(2,P9 (rr i) (ss i) (oo i)),(3,#[.int .i64 0]),(6,P9 0 0 false)] [] (by simp) (fun a1 w1 _ _ hb hk hr=>⟨hk.from _,rfl,i,hi,by simp[e1,e2,e3],HG.out,⟨hr.1,hr.2.1,hr.2.2.2.2.1,hr.2.2.1,hr.2.2.2.1,hb,HM.out.h⟩⟩)
 case done=>
  rintro D W hD ⟨hm,hg⟩ hK
  have HM:Hid _:=hm
  have HK2:Hid (W.heap[D]? = some (.deferred (some []))):=hK
  clear hm hK
  gi_upto_region 10 with fail
  rename_i Kc hKc
  refine wpIn_wide.2 ?_
  refine roB (Lg.plain (by kernel_rfl)) [] (inv_of (w0:=w) (w:=W) (tm:=[V (U en),V (U d),V (.func (.func 73) #[] #[PT' b1,PT' b2]),V (.pointer (some ⟨w.heap.size,0,none⟩)),V (.pointer (some ⟨w.heap.size+1,0,none⟩)),none,R 2,V (.int .i64 0),R 0,R 1,none,none,none,V (.agg #[.int .u64 0,.int .u64 0,.int .u64 0,.int .u64 0,.int .u64 0,.int .u64 0,.int .u64 0,.int .u64 0,.bool false]),V (.func (.func 73) #[] #[PT' b1,PT' b2]),none,none,none,none,none,none,none,none,none,none,none,none,none,none,none,none,none,none,none,none,none,none,none,none,none,none,none,none,none,none,none]) [(w.heap.size+1+1+1,P9 0 0 false),(w.heap.size+1+1+1+1,#[.int .i64 4]),(w.heap.size+1+1,P9 0 0 false)] (by kernel_rfl) HM.out.b ⟨HM.out.r8,HM.out.r9,HM.out.r6,trivial⟩ (by simp;omega) (by simp;omega)) (fun _ _=>trivial) .normal [(2,P9 0 0 false)] [(7,Sum.inl (.int .i64 4)),(6,Sum.inr (2,0))] (by simp) ?_
  rintro ⟨tmps,defers⟩ w1 hdf hts hb hk hr
  refine hKc _ _ (wpIn_ret ?_)
  have t7:=hts (7,Sum.inl (.int .i64 4)) (by simp)
  have t6:=hts (6,Sum.inr (2,0)) (by simp)
  have h1:HRw w1 (w.heap.size+1+1) (P9 0 0 false):=hr.1
  have hK1:w1.heap[D]? = some (.deferred (some [])):=hk.2 D _ HK2.out (fun c t e=>by cases e)
  have hlo6:w.heap.size+1+1<w5.heap.size:=by omega
  simp only at hdf
  subst hdf
  refine ⟨by simp,.inl ⟨_,_,rfl,run_takeDeferred hK1,?_⟩⟩
  have hr2:HRw (w1.putObj D (.deferred none)) (w.heap.size+1+1) (P9 0 0 false):=h1.putObj hK1 rfl
  exact ⟨_,resAT (p:=6) (q:=7) (ty:=27) rfl (g:=w.heap.size+1+1) t6 t7 hr2 Tryz.underlying27 rfl (by kernel_rfl),.inr ⟨hg,rfl⟩,hb.trans (belowPut _ _ (by omega))⟩
 case stop=>
  rintro D c W hD ⟨rfl,i,hi,hgd,hg,hm⟩ hK
  have HM:Hid _:=hm
  have HK2:Hid (W.heap[D]? = some (.deferred (some []))):=hK
  clear hm hK
  gi_upto_region 10 with fail
  rename_i Kc hKc
  refine wpIn_wide.2 ?_
  refine roB (Lg.plain (by kernel_rfl)) [] (inv_of (w0:=w) (w:=W) (tm:=[V (U en),V (U d),V (.func (.func 73) #[] #[PT' b1,PT' b2]),V (.pointer (some ⟨w.heap.size,0,none⟩)),V (.pointer (some ⟨w.heap.size+1,0,none⟩)),none,R 2,V (.int .i64 0),R 0,R 1,none,none,none,V (.agg #[.int .u64 0,.int .u64 0,.int .u64 0,.int .u64 0,.int .u64 0,.int .u64 0,.int .u64 0,.int .u64 0,.bool false]),V (.func (.func 73) #[] #[PT' b1,PT' b2]),none,none,none,none,none,none,none,none,none,none,none,none,none,none,none,none,none,none,none,none,none,none,none,none,none,none,none,none,none,none,none]) [(w.heap.size+1+1+1,P9 (rr i) (ss i) (oo i)),(w.heap.size+1+1+1+1,#[.int .i64 0]),(w.heap.size+1+1,P9 0 0 false)] (by kernel_rfl) HM.out.b ⟨HM.out.r8,HM.out.r9,HM.out.r6,trivial⟩ (by simp;omega) (by simp;omega)) (fun _ _=>trivial) .normal [(2,P9 (rr i) (ss i) (oo i))] [(7,Sum.inl (.int .i64 0)),(6,Sum.inr (2,0))] (by simp) ?_
  rintro ⟨tmps,defers⟩ w1 hdf hts hb hk hr
  refine hKc _ _ (wpIn_ret ?_)
  have t7:=hts (7,Sum.inl (.int .i64 0)) (by simp)
  have t6:=hts (6,Sum.inr (2,0)) (by simp)
  have h1:HRw w1 (w.heap.size+1+1) (P9 (rr i) (ss i) (oo i)):=hr.1
  have hK1:w1.heap[D]? = some (.deferred (some [])):=hk.2 D _ HK2.out (fun c t e=>by cases e)
  have hlo6:w.heap.size+1+1<w5.heap.size:=by omega
  simp only at hdf
  subst hdf
  refine ⟨by simp,.inl ⟨_,_,rfl,run_takeDeferred hK1,?_⟩⟩
  have hr2:HRw (w1.putObj D (.deferred none)) (w.heap.size+1+1) (P9 (rr i) (ss i) (oo i)):=h1.putObj hK1 rfl
  exact ⟨_,resAT (p:=6) (q:=7) (ty:=27) rfl (g:=w.heap.size+1+1) t6 t7 hr2 Tryz.underlying27 rfl (by kernel_rfl),.inl ⟨i,hi,hgd,hg,rfl⟩,hb.trans (belowPut _ _ (by omega))⟩
end
section
open Go.RowKit Go.Sort
set_option maxRecDepth 100000
theorem make_form(s:ByteArray)(d:Nat)(hN:Ds 30 #[(.string s)] (.tuple #[(U 0),(.int .i64 2)]))(w:World)(ht:Tabs w ki):Calls Tryz.prog 9 #[(.string s),(U d)] w fun e w'=>e=.returned (.tuple #[(A9 0 0 false),(.int .i64 2)])∧Below w.heap.size w w':=
 roT (T:=fun w=>Tabs w ki) [(1,[nO,kC Tryz.func30 hN.out]),(2,[nO,bO .neq 28 (p:=(.int .i64 2)) (q:=(.int .i64 0)) (v:=(.bool true)) (by intros;simp[go_sem])]),(3,[dO 27 [] (xs:=[]) (bd27_)])] Tryz.func9 (fun _ hb=>ht.below hb)
theorem make_key(s:ByteArray)(d en:Nat)(hN:Ds 30 #[(.string s)] (.tuple #[(U en),(.int .i64 0)]))(hF:Ds 31 #[(U d)] (.bool false))(w:World)(ht:Tabs w ki):Calls Tryz.prog 9 #[(.string s),(U d)] w fun e w'=>e=.returned (.tuple #[(A9 0 0 false),(.int .i64 5)])∧Below w.heap.size w w':=
 roT (T:=fun w=>Tabs w ki) [(1,[nO,kC Tryz.func30 hN.out]),(2,[nO,bO .neq 28 (p:=(.int .i64 0)) (q:=(.int .i64 0)) (v:=(.bool false)) (by intros;simp[go_sem])]),(4,[nO,kC Tryz.func31 hF.out,uO .not (p:=(.bool false)) (v:=(.bool true)) (by intros;simp[go_sem])]),(5,[dO 27 [] (xs:=[]) (bd27_)])] Tryz.func9 (fun _ hb=>ht.below hb)
theorem fc30(xs:Array Operand)(ts:Array TypeId)(a:Act)(ty:TypeId)(w:World):(do let d ← resolve a.eval { callee:=.value (.func 30),args:=xs,argTypes:=ts } ty;invoke d.target d.args:Sem Next).run Tryz.prog w=.ok (.enter 30 (xs.map a.eval)) w:=by
 simp[go_sem]
structure CMk (w:World) (g3 g4 g6:Nat) (s:ByteArray) (d en x y:Nat) (n:Bool) (ev:Int) (lz:Array Bool) (vs:Nat→Value) (w':World):Prop where
 b:RowKit.Below w.heap.size w w'
 r3:HRw w' g3 (Ar d)
 r6:HRw w' g6 (Ar en)
 r4:¬ lz.getD 8 false=true→HRw w' g4 (P9 0 0 false)
 r4':lz.getD 8 false=true→HRw w' g4 (P9 x y n)
 c0:lz.getD 0 false=true→vs 0=U en
 c1:lz.getD 1 false=true→vs 1=U d
 c2:lz.getD 2 false=true→vs 2=.string s
 c3:lz.getD 3 false=true→vs 3=U d
 c4:lz.getD 4 false=true→∃ b,vs 4=FT b∧(¬ lz.getD 5 false=true→HRw w' b #[.string s]∧HRw w' (b+1) (Ar d))
 c5:lz.getD 5 false=true→vs 5=.tuple #[A9 x y n,.int .i64 ev]
 c6:lz.getD 6 false=true→vs 6=A9 x y n
 c7:lz.getD 7 false=true→vs 7=.int .i64 ev
 c9:lz.getD 9 false=true→vs 9=.int .i64 ev
theorem CMk.below{w w' w'':World}{g3 g4 g6:Nat}{s:ByteArray}{d en x y:Nat}{n:Bool}{ev:Int}{l:Array Bool}{vs:Nat→Value}(h:CMk w g3 g4 g6 s d en x y n ev l vs w')(hb:RowKit.Below w'.heap.size w' w''):CMk w g3 g4 g6 s d en x y n ev l vs w'':=
 ⟨h.b.trans (hb.mono h.b.size),h.r3.below hb,h.r6.below hb,fun q=>(h.r4 q).below hb,fun q=>(h.r4' q).below hb,h.c0,h.c1,h.c2,h.c3,fun q=>by obtain ⟨b,h1,h2⟩:=h.c4 q;exact ⟨b,h1,fun k=>⟨(h2 k).1.below hb,(h2 k).2.below hb⟩⟩,h.c5,h.c6,h.c7,h.c9⟩
theorem make_raw(s:ByteArray)(d en x y:Nat)(n:Bool)(ev0:Int)(hN:Ds 30 #[(.string s)] (.tuple #[(U en),(.int .i64 0)]))(hF:Ds 31 #[(U d)] (.bool true))(hFI:∀ b w,Tabs w ki→HRw w b #[.string s]→HRw w (b+1) (Ar d)→Calls Tryz.prog 32 #[U en,U d,FT b] w fun e w'=>e=.returned (.tuple #[A9 x y n,.int .i64 ev0])∧RowKit.Below w.heap.size w w')(w:World)(ht:Tabs w ki):Calls Tryz.prog 9 #[.string s,U d] w fun e w'=>e=.returned (.tuple #[A9 x y n,.int .i64 ev0])∧RowKit.Below w.heap.size w w':=by
 have HT:Hid (Tabs w ki):=ht
 have HFI:Hid _:=hFI
 have HKF:Hid _:=hF
 clear ht hFI hF
 go_enter Tryz.func9,Tryz.ntmps9
 go_upto_region 1 with fail
 refine name_world _ ?_
 intro wF hF0
 have RR:Hid (RB w wF [(w.heap.size+1,Z9),(w.heap.size,(Ar d))]):=by rw[hF0];exact (rbN (rbN (rb0 w) (by simp)) (by simp))
 clear hF0
 obtain ⟨q1,q0,qT⟩:=RR.out.r.lts
 refine wp_told [(w.heap.size,(Ar d)),(w.heap.size+1,Z9)]
  [sV (.string s),
   sV (.tuple #[(U en),(.int .i64 0)]),
   sV (.tuple #[(U en),(.int .i64 0)]),
   sV (U en),
   sV (.int .i64 0),
   sA (fun g=>.pointer (some ⟨g,0,none⟩)) 6 Zr (Ar en),
   sS 5,
   sV (.int .i64 0)]
  RR.out.b (Rc (RR.out.at 1 rfl) (Rc (RR.out.at 0 rfl) RA.nil)) (StOk.of [] rfl StM.nil)
  (Obs.val (fun a' w' E=>ob_move (.tmp 0) rfl (E.od 0))
  (Obs.val (fun a' w' E=>ob_fcall 30 _ _ rfl (am1 (E.n (.string s) 9 0)) (fc30 _ _) (hN.out w'))
  (Obs.val (fun a' w' E=>ob_move (.tmp 10) rfl (E.n (.tuple #[(U en),(.int .i64 0)]) 10 1))
  (Obs.val (fun a' w' E=>ob_extract (.tmp 8) 0 rfl (E.n (.tuple #[(U en),(.int .i64 0)]) 8 2) rfl)
  (Obs.val (fun a' w' E=>ob_extract (.tmp 8) 1 rfl (E.n (.tuple #[(U en),(.int .i64 0)]) 8 2) rfl)
  (Obs.alloc (fun a' w' E=>ob_alloc (t:=24) (by simp[opAt,execOp,go_sem]))
  (Obs.sta rfl (fun a' w' g E ha hr=>ob_sa 24 (.tmp 6) (.tmp 11) (ha 6 (by kernel_rfl)) (E.n (U en) 11 3) hr)
  (Obs.val (fun a' w' E=>ob_assign (.tmp 12) rfl (E.n (.int .i64 0) 12 4))
  Obs.nil)))))))) ?_
 intro bs w1 aZ haZ F
 have eZ:aZ=(⟨#[(.string s),(U d),ud,(PT w.heap.size),(PT (w.heap.size+1)),(.int .i64 0),(PT ((bs 5))),(.int .i64 0),(.tuple #[(U en),(.int .i64 0)]),(.string s),(.tuple #[(U en),(.int .i64 0)]),(U en),(.int .i64 0),ud,ud,ud,ud,ud,ud,ud,ud,ud,ud,ud,ud,ud,ud,ud,ud],[]⟩:Act):=haZ.trans (by kernel_rfl)
 subst eZ
 clear haZ
 obtain ⟨h5,X5⟩:=F.al 5 rfl rfl
 replace RR:Hid (RB w w1 [((bs 5),(Ar en)),(w.heap.size+1,Z9),(w.heap.size,(Ar d))]):=⟨F.bw,(Rc X5 (Rc (F.row 1 rfl) (Rc (F.row 0 rfl) RA.nil)))⟩
 generalize bs 5=g1_5 at *
 have k1_5_0:=Nat.lt_of_lt_of_le q0 h5
 have k1_5_1:=Nat.lt_of_lt_of_le q1 h5
 clear F qT q0 q1 h5 X5
 clear wF
 go_upto_region 2 with fail
 obtain ⟨q2,q1,q0,qT⟩:=RR.out.r.lts
 refine wp_told [(w.heap.size,(Ar d)),(w.heap.size+1,Z9),(g1_5,(Ar en))]
  [sV (.int .i64 0),
   sV (.bool false)]
  RR.out.b (Rc (RR.out.at 2 rfl) (Rc (RR.out.at 1 rfl) (Rc (RR.out.at 0 rfl) RA.nil))) (StOk.of [] rfl StM.nil)
  (Obs.val (fun a' w' E=>ob_move (.tmp 7) rfl (E.od 7))
  (Obs.val (fun a' w' E=>ob_binOp .neq 28 (.tmp 13) (.const (.int .i64 0)) 28 rfl (E.n (.int .i64 0) 13 0) (evc a' (.int .i64 0)) (by simp[go_sem]))
  Obs.nil)) ?_
 intro bs w2 aZ haZ F
 have eZ:aZ=(⟨#[(.string s),(U d),ud,(PT w.heap.size),(PT (w.heap.size+1)),(.int .i64 0),(PT g1_5),(.int .i64 0),(.tuple #[(U en),(.int .i64 0)]),(.string s),(.tuple #[(U en),(.int .i64 0)]),(U en),(.int .i64 0),(.int .i64 0),(.bool false),ud,ud,ud,ud,ud,ud,ud,ud,ud,ud,ud,ud,ud,ud],[]⟩:Act):=haZ.trans (by kernel_rfl)
 subst eZ
 clear haZ
 replace RR:Hid (RB w w2 [(g1_5,(Ar en)),(w.heap.size+1,Z9),(w.heap.size,(Ar d))]):=⟨F.bw,(Rc (F.row 2 rfl) (Rc (F.row 1 rfl) (Rc (F.row 0 rfl) RA.nil)))⟩
 clear F qT q0 q1 q2
 go_upto_region 4 with fail
 obtain ⟨q2,q1,q0,qT⟩:=RR.out.r.lts
 refine wp_told [(w.heap.size,(Ar d)),(w.heap.size+1,Z9),(g1_5,(Ar en))]
  [sV (U d),
   sV (.bool true),
   sV (.bool false)]
  RR.out.b (Rc (RR.out.at 2 rfl) (Rc (RR.out.at 1 rfl) (Rc (RR.out.at 0 rfl) RA.nil))) (StOk.of [] rfl StM.nil)
  (Obs.val (fun a' w' E=>ob_la 24 (.tmp 3) (E.od 3) (E.row (g:=w.heap.size) (c:=(Ar d)) 0 rfl) Tryz.underlying24)
  (Obs.val (fun a' w' E=>ob_fcall 31 _ _ rfl (am1 (E.n (U d) 17 0)) (fc31 _ _) (HKF.out w'))
  (Obs.val (fun a' w' E=>ob_unOp .not 4 (.tmp 18) rfl (E.n (.bool true) 18 1) (by simp[go_sem]))
  Obs.nil))) ?_
 intro bs w3 aZ haZ F
 have eZ:aZ=(⟨#[(.string s),(U d),ud,(PT w.heap.size),(PT (w.heap.size+1)),(.int .i64 0),(PT g1_5),(.int .i64 0),(.tuple #[(U en),(.int .i64 0)]),(.string s),(.tuple #[(U en),(.int .i64 0)]),(U en),(.int .i64 0),(.int .i64 0),(.bool false),ud,ud,(U d),(.bool true),(.bool false),ud,ud,ud,ud,ud,ud,ud,ud,ud],[]⟩:Act):=haZ.trans (by kernel_rfl)
 subst eZ
 clear haZ
 replace RR:Hid (RB w w3 [(g1_5,(Ar en)),(w.heap.size+1,Z9),(w.heap.size,(Ar d))]):=⟨F.bw,(Rc (F.row 2 rfl) (Rc (F.row 1 rfl) (Rc (F.row 0 rfl) RA.nil)))⟩
 clear F qT q0 q1 q2
 go_upto_region 6 with fail
 refine wRv2 (by kernel_rfl) (by kernel_rfl) (by kernel_rfl) (CMk w w.heap.size (w.heap.size+1) g1_5 s d en x y n ev0) ?_ ?_ ?_
 ·refine ⟨RR.out.b.drew,(RR.out.at 2 rfl),(RR.out.at 0 rfl),fun _=>(RR.out.at 1 rfl),?_,?_,?_,?_,?_,?_,?_,?_,?_,?_⟩<;>(intro h;simp[Array.getD] at h)
 ·intro lz vs a' w' i o' hs ho hi hF cc
  have hi6:i<10:=by have:=(Array.getElem?_eq_some_iff.1 ho).1;simpa using this
  have hcase:i=0∨i=1∨i=2∨i=3∨i=4∨i=5∨i=6∨i=7∨i=8∨i=9:=by omega
  rcases hcase with rfl | rfl | rfl | rfl | rfl | rfl | rfl | rfl | rfl | rfl
  ·simp at ho
   subst ho
   have T:=dT lz 0
   exact wp_rowA 24 (.tmp 6) rfl g1_5 ((hF.old (by kernel_rfl)).trans rfl) cc.r6 Tryz.underlying24 rfl (by kernel_rfl) ⟨_,rfl,⟨cc.b,cc.r3,cc.r6,fun h=>cc.r4 (fun q=>h (done_keep q)),fun h=>cc.r4' (T 8 (by decide) h),fun _=>rfl,fun h=>cc.c1 (T 1 (by decide) h),fun h=>cc.c2 (T 2 (by decide) h),fun h=>cc.c3 (T 3 (by decide) h),fun h=>(by obtain ⟨b,q1,q2⟩:=cc.c4 (T 4 (by decide) h);exact ⟨b,q1,fun k=>q2 (fun z=>k (done_keep z))⟩),fun h=>cc.c5 (T 5 (by decide) h),fun h=>cc.c6 (T 6 (by decide) h),fun h=>cc.c7 (T 7 (by decide) h),fun h=>cc.c9 (T 9 (by decide) h)⟩⟩
  ·simp at ho
   subst ho
   have T:=dT lz 1
   exact wp_rowA 24 (.tmp 3) rfl w.heap.size ((hF.old (by kernel_rfl)).trans rfl) cc.r3 Tryz.underlying24 rfl (by kernel_rfl) ⟨_,rfl,⟨cc.b,cc.r3,cc.r6,fun h=>cc.r4 (fun q=>h (done_keep q)),fun h=>cc.r4' (T 8 (by decide) h),fun h=>cc.c0 (T 0 (by decide) h),fun _=>rfl,fun h=>cc.c2 (T 2 (by decide) h),fun h=>cc.c3 (T 3 (by decide) h),fun h=>(by obtain ⟨b,q1,q2⟩:=cc.c4 (T 4 (by decide) h);exact ⟨b,q1,fun k=>q2 (fun z=>k (done_keep z))⟩),fun h=>cc.c5 (T 5 (by decide) h),fun h=>cc.c6 (T 6 (by decide) h),fun h=>cc.c7 (T 7 (by decide) h),fun h=>cc.c9 (T 9 (by decide) h)⟩⟩
  ·simp at ho
   subst ho
   have T:=dT lz 2
   exact wVF (v:=.string s) (w1:=w') (by simp[execOp,ev ((hF.old (t:=0) (by kernel_rfl)).trans rfl),go_sem]) ⟨_,rfl,⟨cc.b,cc.r3,cc.r6,fun h=>cc.r4 (fun q=>h (done_keep q)),fun h=>cc.r4' (T 8 (by decide) h),fun h=>cc.c0 (T 0 (by decide) h),fun h=>cc.c1 (T 1 (by decide) h),fun _=>rfl,fun h=>cc.c3 (T 3 (by decide) h),fun h=>(by obtain ⟨b,q1,q2⟩:=cc.c4 (T 4 (by decide) h);exact ⟨b,q1,fun k=>q2 (fun z=>k (done_keep z))⟩),fun h=>cc.c5 (T 5 (by decide) h),fun h=>cc.c6 (T 6 (by decide) h),fun h=>cc.c7 (T 7 (by decide) h),fun h=>cc.c9 (T 9 (by decide) h)⟩⟩
  ·simp at ho
   subst ho
   have T:=dT lz 3
   exact wp_rowA 24 (.tmp 3) rfl w.heap.size ((hF.old (by kernel_rfl)).trans rfl) cc.r3 Tryz.underlying24 rfl (by kernel_rfl) ⟨_,rfl,⟨cc.b,cc.r3,cc.r6,fun h=>cc.r4 (fun q=>h (done_keep q)),fun h=>cc.r4' (T 8 (by decide) h),fun h=>cc.c0 (T 0 (by decide) h),fun h=>cc.c1 (T 1 (by decide) h),fun h=>cc.c2 (T 2 (by decide) h),fun _=>rfl,fun h=>(by obtain ⟨b,q1,q2⟩:=cc.c4 (T 4 (by decide) h);exact ⟨b,q1,fun k=>q2 (fun z=>k (done_keep z))⟩),fun h=>cc.c5 (T 5 (by decide) h),fun h=>cc.c6 (T 6 (by decide) h),fun h=>cc.c7 (T 7 (by decide) h),fun h=>cc.c9 (T 9 (by decide) h)⟩⟩
  ·simp at ho
   subst ho
   have T:=dT lz 4
   have d2:=(wDn (i:=4) (j:=2) (by kernel_rfl) hi)
   have d3:=(wDn (i:=4) (j:=3) (by kernel_rfl) hi)
   have v2:=(hF.new (t:=23) (i:=2) (by kernel_rfl) (by simp) d2).trans (cc.c2 d2)
   have v3:=(hF.new (t:=24) (i:=3) (by kernel_rfl) (by simp) d3).trans (cc.c3 d3)
   unfold Oper.wp
   rw[show (execOp a'.eval _).run Tryz.prog w'=.ok (.enter 33 #[.string s,U d]) w' from by simp[execOp_call_go,ev v2,ev v3,go_sem],Oper.upon_enter]
   refine (tries_ex s d w').mono ?_
   rintro e7 w'' ⟨⟨b,rfl,g1,g2⟩,hb''⟩
   have c2:=cc.below hb''
   exact ⟨FT b,rfl,⟨c2.b,c2.r3,c2.r6,fun h=>c2.r4 (fun q=>h (done_keep q)),fun h=>c2.r4' (T 8 (by decide) h),fun h=>c2.c0 (T 0 (by decide) h),fun h=>c2.c1 (T 1 (by decide) h),fun h=>c2.c2 (T 2 (by decide) h),fun h=>c2.c3 (T 3 (by decide) h),fun _=>⟨b,rfl,fun _=>⟨g1,g2⟩⟩,fun h=>c2.c5 (T 5 (by decide) h),fun h=>c2.c6 (T 6 (by decide) h),fun h=>c2.c7 (T 7 (by decide) h),fun h=>c2.c9 (T 9 (by decide) h)⟩⟩
  ·simp at ho
   subst ho
   have T:=dT lz 5
   have d0:=(wDn (i:=5) (j:=0) (by kernel_rfl) hi)
   have d1:=(wDn (i:=5) (j:=1) (by kernel_rfl) hi)
   have d4:=(wDn (i:=5) (j:=4) (by kernel_rfl) hi)
   obtain ⟨b,e4,g12⟩:=cc.c4 d4
   obtain ⟨g1,g2⟩:=g12 (fun h=>undone hi hs h)
   have v0:=(hF.new (t:=21) (i:=0) (by kernel_rfl) (by simp) d0).trans (cc.c0 d0)
   have v1:=(hF.new (t:=22) (i:=1) (by kernel_rfl) (by simp) d1).trans (cc.c1 d1)
   have v4:=(hF.new (t:=25) (i:=4) (by kernel_rfl) (by simp) d4).trans e4
   refine wp_callF (f:=32) (args:=#[U en,U d,FT b]) (v:=.tuple #[A9 x y n,.int .i64 ev0]) (by simp[execOp_call_go,ev v0,ev v1,ev v4,go_sem]) (HFI.out b w' (HT.out.below cc.b) g1 g2) ?_
   intro w'' hb''
   have c2:=cc.below hb''
   exact ⟨_,rfl,⟨c2.b,c2.r3,c2.r6,fun h=>c2.r4 (fun q=>h (done_keep q)),fun h=>c2.r4' (T 8 (by decide) h),fun h=>c2.c0 (T 0 (by decide) h),fun h=>c2.c1 (T 1 (by decide) h),fun h=>c2.c2 (T 2 (by decide) h),fun h=>c2.c3 (T 3 (by decide) h),fun h=>(by obtain ⟨b,q1,q2⟩:=c2.c4 (T 4 (by decide) h);exact ⟨b,q1,fun k=>q2 (fun z=>k (done_keep z))⟩),fun _=>rfl,fun h=>c2.c6 (T 6 (by decide) h),fun h=>c2.c7 (T 7 (by decide) h),fun h=>c2.c9 (T 9 (by decide) h)⟩⟩
  ·simp at ho
   subst ho
   have T:=dT lz 6
   have d5:=(wDn (i:=6) (j:=5) (by kernel_rfl) hi)
   have v5:=(hF.new (t:=26) (i:=5) (by kernel_rfl) (by simp) d5).trans (cc.c5 d5)
   exact wVF (v:=A9 x y n) (w1:=w') (by simp[execOp,ev v5,go_sem]) ⟨_,rfl,⟨cc.b,cc.r3,cc.r6,fun h=>cc.r4 (fun q=>h (done_keep q)),fun h=>cc.r4' (T 8 (by decide) h),fun h=>cc.c0 (T 0 (by decide) h),fun h=>cc.c1 (T 1 (by decide) h),fun h=>cc.c2 (T 2 (by decide) h),fun h=>cc.c3 (T 3 (by decide) h),fun h=>(by obtain ⟨b,q1,q2⟩:=cc.c4 (T 4 (by decide) h);exact ⟨b,q1,fun k=>q2 (fun z=>k (done_keep z))⟩),fun h=>cc.c5 (T 5 (by decide) h),fun _=>rfl,fun h=>cc.c7 (T 7 (by decide) h),fun h=>cc.c9 (T 9 (by decide) h)⟩⟩
  ·simp at ho
   subst ho
   have T:=dT lz 7
   have d5:=(wDn (i:=7) (j:=5) (by kernel_rfl) hi)
   have v5:=(hF.new (t:=26) (i:=5) (by kernel_rfl) (by simp) d5).trans (cc.c5 d5)
   exact wVF (v:=.int .i64 ev0) (w1:=w') (by simp[execOp,ev v5,go_sem]) ⟨_,rfl,⟨cc.b,cc.r3,cc.r6,fun h=>cc.r4 (fun q=>h (done_keep q)),fun h=>cc.r4' (T 8 (by decide) h),fun h=>cc.c0 (T 0 (by decide) h),fun h=>cc.c1 (T 1 (by decide) h),fun h=>cc.c2 (T 2 (by decide) h),fun h=>cc.c3 (T 3 (by decide) h),fun h=>(by obtain ⟨b,q1,q2⟩:=cc.c4 (T 4 (by decide) h);exact ⟨b,q1,fun k=>q2 (fun z=>k (done_keep z))⟩),fun h=>cc.c5 (T 5 (by decide) h),fun h=>cc.c6 (T 6 (by decide) h),fun _=>rfl,fun h=>cc.c9 (T 9 (by decide) h)⟩⟩
  ·simp at ho
   subst ho
   have T:=dT lz 8
   have hun:¬ lz.getD 8 false=true:=fun h=>undone hi hs h
   have d6:=(wDn (i:=8) (j:=6) (by kernel_rfl) hi)
   have v6:=(hF.new (t:=27) (i:=6) (by kernel_rfl) (by simp) d6).trans (cc.c6 d6)
   have l8:(lz.setIfInBounds 8 true).getD 8 false=true:=done_me hs (by decide)
   have r:=cc.r4 hun
   exact wp_rowS 27 (.tmp 4) (.tmp 27) rfl (w.heap.size+1) ((hF.old (by kernel_rfl)).trans rfl) v6 r rfl rfl (by simp[Value.oneCell']) (by kernel_rfl) ⟨_,rfl,⟨bSR cc.b (by omega) _,cc.r3.set_other _ (by omega),cc.r6.set_other _ (by omega),fun h=>absurd l8 h,fun _=>r.set_same _,fun h=>cc.c0 (T 0 (by decide) h),fun h=>cc.c1 (T 1 (by decide) h),fun h=>cc.c2 (T 2 (by decide) h),fun h=>cc.c3 (T 3 (by decide) h),fun h=>(by obtain ⟨b,q1,_⟩:=cc.c4 (T 4 (by decide) h);exact ⟨b,q1,fun k=>absurd (done_keep (wDn (i:=8) (j:=5) (by kernel_rfl) hi)) k⟩),fun h=>cc.c5 (T 5 (by decide) h),fun h=>cc.c6 (T 6 (by decide) h),fun h=>cc.c7 (T 7 (by decide) h),fun h=>cc.c9 (T 9 (by decide) h)⟩⟩
  ·simp at ho
   subst ho
   have T:=dT lz 9
   have d7:=(wDn (i:=9) (j:=7) (by kernel_rfl) hi)
   have v7:=(hF.new (t:=28) (i:=7) (by kernel_rfl) (by simp) d7).trans (cc.c7 d7)
   exact wVF (v:=.int .i64 ev0) (w1:=w') (by simp[execOp,ev v7,go_sem]) ⟨_,rfl,⟨cc.b,cc.r3,cc.r6,fun h=>cc.r4 (fun q=>h (done_keep q)),fun h=>cc.r4' (T 8 (by decide) h),fun h=>cc.c0 (T 0 (by decide) h),fun h=>cc.c1 (T 1 (by decide) h),fun h=>cc.c2 (T 2 (by decide) h),fun h=>cc.c3 (T 3 (by decide) h),fun h=>(by obtain ⟨b,q1,q2⟩:=cc.c4 (T 4 (by decide) h);exact ⟨b,q1,fun k=>q2 (fun z=>k (done_keep z))⟩),fun h=>cc.c5 (T 5 (by decide) h),fun h=>cc.c6 (T 6 (by decide) h),fun h=>cc.c7 (T 7 (by decide) h),fun _=>rfl⟩⟩
 intro lz vs a' w5 hd hF cc
 have e0:=cc.c0 (hd 0 (by decide))
 have e1:=cc.c1 (hd 1 (by decide))
 have e2:=cc.c2 (hd 2 (by decide))
 have e3:=cc.c3 (hd 3 (by decide))
 obtain ⟨b,e4,_⟩:=cc.c4 (hd 4 (by decide))
 have e5:=cc.c5 (hd 5 (by decide))
 have e6:=cc.c6 (hd 6 (by decide))
 have e7:=cc.c7 (hd 7 (by decide))
 have e9:=cc.c9 (hd 9 (by decide))
 have R5:=cc.r4' (hd 8 (by decide))
 have B5:=cc.b
 have eZ:a'={ tmps:=#[(.string s),(U d),undef,(PT w.heap.size),(PT (w.heap.size+1)),vs 9,(PT g1_5),(.int .i64 0),(.tuple #[(U en),(.int .i64 0)]),(.string s),(.tuple #[(U en),(.int .i64 0)]),(U en),(.int .i64 0),(.int .i64 0),(.bool false),undef,undef,(U d),(.bool true),(.bool false),undef,vs 0,vs 1,vs 2,vs 3,vs 4,vs 5,vs 6,vs 7],defers:=[] }:=(hF.all hd).trans (by kernel_rfl)
 rw[e0,e1,e2,e3,e4,e5,e6,e7,e9] at eZ
 subst eZ
 clear hF cc hd e0 e1 e2 e3 e4 e5 e6 e7 e9
 go_wp2
 exact bodyPost_ret (v:=.tuple #[A9 x y n,.int .i64 ev0]) (resAT (p:=4) (q:=5) (ty:=27) rfl (g:=w.heap.size+1) rfl rfl R5 Tryz.underlying27 rfl (by kernel_rfl)) rfl ⟨rfl,B5⟩
end
end Go.Proofs.YtfhppenjbmmadaaGreatDoor
