/- Out of Vy. -/
import Derived.Test.YtceedgdbhlpjlaaGreatDoorKqYl
namespace Go.Proofs.YtceedgdbhlpjlaaGreatDoor
open Go.RowKit Go.Sort Tryz
set_option linter.unusedVariables false
set_option maxRecDepth 100000
set_option maxHeartbeats 4000000
theorem eqB4(q:Bool)(o1 o2:Operand)(w:World):(do eqGuard .eql 4 o1 o2 (.bool q) (.bool q);binOp .eql 4 (.bool q) (.bool q):Sem Value).run prog w=.ok (.bool true) w:=by
 cases q<;>simp[go_sem]
theorem FrW.skr{w w':World}{ad:Option Addr}{cap:Nat}{s:List Nat}{f:Fr}{x:Value}(h:FrW w ad s.length cap s f x w')(hs:SkR w (.slice ad s.length cap) s):∃ ad' cap',x=frV f (.slice ad' f.st.length cap')∧SkR w' (.slice ad' f.st.length cap') f.st∧Below w.heap.size w w':=by
 rcases h with⟨ad',cap',rfl,ho,hb⟩|⟨h1,rfl,hb⟩
 ·exact⟨ad',cap',rfl,own_skr ho,hb⟩
 ·rw[h1];exact⟨ad,cap,rfl,hs.below hb,hb⟩
theorem step_num{f:Fr}(hO:OkR f)(hz:f.sd=0):(∀ u∈(x9 f).st,u<W)∧(x9 f).st.length≤256:=by
 by_cases he:qg f=0
 ·rw[zeg hz he];have hok:=(nxt_of hO hz (fine_of he)).ok hz;exact⟨hok.num,hok.st⟩
 ·rw[zbn hz he];exact⟨hO.num,hO.st⟩
theorem steps_walk(f g:Fr)(ad ad':Option Addr)(cap cap':Nat)(hcp:f.st.length≤cap)(hnf:∀ u∈f.st,u<W)(hng:∀ u∈g.st,u<W)(w:World)(h:TT w)(hs:SkR w (.slice ad f.st.length cap) f.st)(hg:SkR w (.slice ad' g.st.length cap') g.st):Calls prog 3 #[frV f (.slice ad f.st.length cap),frV g (.slice ad' g.st.length cap')] w fun e w'=>e=.returned (.bool true)∧Below w.heap.size w w':=by
 have haw:=fun w' (hb:Below w.heap.size w w')=>awake_any w' (h.below hb)
 have hli:=light_any f ad cap;refine inZ func3 fun A I=>?_;by_cases hl:f.code.length≤2000∧f.inp.length≤2000∧FitP f
 case neg=>
  rw[decide_eq_false hl]at hli;refine goT (T:=Below w.heap.size w) [kC func8 hli,uO .not (p:=.bool false) (v:=.bool true) (by intros;simp[go_sem]),cA func9 haw] (zq w) (fun _ h=>h) I fun β1 A1 w1 I1 hb1=>?_;exact zl (v:=.bool true) I1
 rw[decide_eq_true hl]at hli;by_cases hk:1000<g.st.length
 ·refine goT (T:=Below w.heap.size w) [kC func8 hli,uO .not (p:=.bool true) (v:=.bool false) (by intros;simp[go_sem]),lSk ad' g.st.length cap',kgT g.st.length 1000,cA func9 haw] (zq w) (fun _ h=>h) I fun β1 A1 w1 I1 hb1=>?_;exact zl (v:=.bool true) I1
 obtain⟨hc,hi,p0,p1,p2,p3,p4,p5,p6,p7,p8,p9,p10⟩:=hl;have hO:f.sd=0→OkR f:=fun hz=>⟨⟨p0,p1,p2,hnf,p3,p4,p5,by omega,p7,p8⟩,fun _=>by omega⟩
 have hnS:(∀ u∈(x9 f).st,u<W)∧(x9 f).st.length≤256:=by
  by_cases hz:f.sd=0
  ·exact step_num (hO hz) hz
  ·rw[step_sd hz];exact⟨hnf,p2⟩
 refine goZ [kC func8 hli,uO .not (p:=.bool true) (v:=.bool false) (by intros;simp[go_sem]),lSk ad' g.st.length cap',kgF g.st.length 1000] I fun β1 A1 w1 I1 hb1=>?_;have r1:=fun w' (hb:Below w.heap.size w w')=>stp_any f (.slice ad f.st.length cap) hO p2 w' (h.below hb) (hs.below hb)
 have r2:=fun w' (hb:Below w.heap.size w w')=>rstep_any f hO ad cap hcp w' (hs.below hb)
 have r3:=fun w' (hb:Below w.heap.size w w')=>psame_any f g (.slice ad f.st.length cap) (.slice ad' g.st.length cap') hnf hng (by omega) w' (hs.below hb) (hg.below hb)
 have r4:=fun w' (hb:Below w.heap.size w w')=>rsame_any f g (.slice ad f.st.length cap) (.slice ad' g.st.length cap') hnf hng (by omega) w' (hs.below hb) (hg.below hb)
 have r5:=fun w' (hb:Below w.heap.size w w')=>psame_any f f (.slice ad f.st.length cap) (.slice ad f.st.length cap) hnf hnf (by omega) w' (hs.below hb) (hs.below hb)
 have r6:=fun w' v v' (h1:SkR w' v (x9 f).st) (h2:SkR w' v' (x9 f).st)=>rsame_any (x9 f) (x9 f) v v' hnS.1 hnS.1 (by omega) w' h1 h2
 rw[samB_eq rfl]at r6 r5;generalize samB f g=q,x9 f=s at *;have hsz:A1.tmps.size=37:=by rw[I1.fr];kernel_rfl
 have hbw:=I1.hJ;refine dwS (T:=Below w.heap.size w) [(1,none),(3,none),(4,some (.bool true))] [cA func13 r3,cA func10 r4,bO .eql 4 (eqB4 q),cA func13 r5,cA func9 haw]
  (fun i v w'=>i=1∨i=3→∃ ad' cap',v=frV s (.slice ad' s.st.length cap')∧SkR w' (.slice ad' s.st.length cap') s.st) (fun i v w' w'' hv hb hq=>by
   obtain⟨ad',cap',e,hs⟩:=hv hq;exact⟨ad',cap',e,hs.below hb⟩) (zq w) (fun _ h=>h) I1 ?_ ?_
 ·intro p hp o ho zb vs a' w' hF hrd hb hV hev;simp only[List.mem_cons,List.not_mem_nil,or_false]at hp;rcases hp with rfl|rfl|rfl
  ·obtain⟨g1,g2,g3⟩:=zao (x:=.call ⟨.value (.func 11),#[.tmp 15],#[25]⟩) (d:=some 16) ho (by kernel_rfl);have e15:a'.eval (.tmp 15)=frV f (.slice ad f.st.length cap):=hev (.tmp 15) (Sum.inl (frV f (.slice ad f.st.length cap))) (by kernel_rfl);refine zi g3 (zb2 (f:=11) (args:=#[frV f (.slice ad f.st.length cap)]) (by rw[call_run g1 func11];simp only[List.map_toArray,List.map_cons,List.map_nil,e15]) ((r1 w' (hbw.trans (hb.mono hbw.size))).mono fun e w6 he=>?_));obtain⟨x,rfl,ad6,cap6,rfl,ho6,hb6⟩:=he
   exact⟨_,rfl,_,rfl,fun u hu=>(by cases hu),fun _=>⟨ad6,cap6,rfl,own_skr ho6⟩,hb6⟩
  ·obtain⟨g1,g2,g3⟩:=zao (x:=.call ⟨.value (.func 12),#[.tmp 17],#[25]⟩) (d:=some 18) ho (by kernel_rfl);have e17:a'.eval (.tmp 17)=frV f (.slice ad f.st.length cap):=hev (.tmp 17) (Sum.inl (frV f (.slice ad f.st.length cap))) (by kernel_rfl);refine zi g3 (zb2 (f:=12) (args:=#[frV f (.slice ad f.st.length cap)]) (by rw[call_run g1 func12];simp only[List.map_toArray,List.map_cons,List.map_nil,e17]) ((r2 w' (hbw.trans (hb.mono hbw.size))).mono fun e w6 he=>?_));obtain⟨x,rfl,hx⟩:=he;obtain⟨ad6,cap6,rfl,hs6,hb6⟩:=hx.skr (hs.below (hbw.trans (hb.mono hbw.size)))
   exact⟨_,rfl,_,rfl,fun u hu=>(by cases hu),fun _=>⟨ad6,cap6,rfl,hs6⟩,hb6⟩
  ·obtain⟨g1,g2,g3⟩:=zao (x:=.call ⟨.value (.func 10),#[.tmp 16,.tmp 18],#[25,25]⟩) (d:=some 19) ho (by kernel_rfl);have hl1:=zf (ops:=vj _) (i:=4) (j:=1) (by kernel_rfl) hrd;have hl3:=zf (ops:=vj _) (i:=4) (j:=3) (by kernel_rfl) hrd;have e16:a'.eval (.tmp 16)=vs 1:=hF.new (i:=1) (by kernel_rfl) (by omega) hl1;have e18:a'.eval (.tmp 18)=vs 3:=hF.new (i:=3) (by kernel_rfl) (by omega) hl3;obtain⟨ad6,cap6,e6,hs6⟩:=hV (1,none) (by simp) hl1 (.inl rfl);obtain⟨ad7,cap7,e7,hs7⟩:=hV (3,none) (by simp) hl3 (.inr rfl);rw[e6]at e16;rw[e7]at e18
   refine zi g3 (zb2 (f:=10) (args:=#[frV s (.slice ad6 s.st.length cap6),frV s (.slice ad7 s.st.length cap7)]) (by rw[call_run g1 func10];simp only[List.map_toArray,List.map_cons,List.map_nil,e16,e18]) ((r6 w' _ _ hs6 hs7).mono fun e w6 he=>?_));obtain⟨rfl,hb6⟩:=he;exact⟨_,rfl,_,rfl,fun u hu=>(by cases hu;rfl),fun h=>(by rcases h with h | h<;>cases h),hb6⟩
 ·intro vs a6 w6 hV I6;refine goZ [] I6 fun β7 A7 w7 I7 hb7=>?_;exact zl (v:=.bool true) I7
end Go.Proofs.YtceedgdbhlpjlaaGreatDoor
