/- Laid one behind the other: Wg, Rd, Re, Rk, Wh, Eq, Wi, Wj. -/
import Derived.Test.YtdeompgdhaomgaaGreatDoorKtWc
import Derived.ChangeKeysEq
namespace Go.Proofs.YtdeompgdhaomgaaGreatDoor
open Go.RowKit Go.Sort Tryz
set_option linter.unusedVariables false
set_option maxRecDepth 100000
set_option maxHeartbeats 4000000
section
variable {P:Program} {J:World→Prop} {F:Nat→Prop} {ds:List Deferred} {β:Nat→Nat} {c:Cf} {a:Act} {w:World} {Q:Exit→Act→World→Prop}
def pnQ (c:Cf):Option SV:=match kq c with
 | some o=>match o.op with
  | .panic x=>evQ c.tm x
  | _=>none
 | none=>none
theorem panQ{t:TypeId}{v:Value}(I:SI J F ds β c a w)(k:Q (.panic [{ v:=.iface t v,recovered:=false }]) a w)(hc:pnQ c=some (Sum.inl (.iface t v)):=by kernel_rfl):At P Q c a w:=by
 unfold pnQ at hc;split at hc
 ·next o ho=>
  split at hc
  ·next x hop=>
   obtain⟨hd,⟨rest,hr⟩,hw⟩:=vq ho;refine zbb hd hr (v7 I hw) ?_;have hrun:(execOp a.eval o).run P w=.halt (.panic (.iface t v)) w:=by
    unfold execOp;simp only[hop,xn I.fr hc,up,Instr.panic];rfl
   unfold Oper.wp;rw[hrun];exact k8 k
  ·cases hc
 ·cases hc
def bsQ (c:Cf):Option (TypeId×Nat×List (Nat×SV)):=match kq c with
 | some o=>match o.op with
  | .buildSlice t n ps=>(ps.toList.mapM fun p=>(evQ c.tm p.2).map fun s=>(p.1,s)).map fun ss=>(t,n,ss)
  | _=>none
 | none=>none
theorem mapP_ok{tm:Vs}(ha:a.tmps=(tm.map (upO β)).toArray):∀{xs:List (Nat×Operand)} {ss:List (Nat×SV)},(xs.mapM fun p=>(evQ tm p.2).map fun s=>(p.1,s))=some ss→xs.map (fun p=>(p.1,a.eval p.2))=ss.map fun p=>(p.1,up β p.2)
 | [],vs,h=>by simp at h;subst h;rfl
 | x::xs,vs,h=>by
  rw[List.mapM_cons]at h;cases h1:evQ tm x.2 with
  | none=>rw[h1]at h;simp at h
  | some v=>
   cases h2:(xs.mapM fun p=>(evQ tm p.2).map fun s=>(p.1,s))with
   | none=>rw[h1,h2]at h;simp at h
   | some us=>
    rw[h1,h2]at h;simp at h;subst h;rw[List.map_cons,mapP_ok ha h2,xn ha h1];rfl
theorem bslQ{t:TypeId}{n:Nat}{ss:List (Nat×SV)}{v:Value}{w':World}(I:SI J F ds β c a w)(hr:(Instr.buildSlice t n (ss.map fun p=>(p.1,up β p.2)).toArray).run P w=.ok v w')(k:At P Q (xa c v) (a.put (yu c) v) w')(hc:bsQ c=some (t,n,ss):=by kernel_rfl):At P Q c a w:=by
 unfold bsQ at hc;split at hc
 ·next o ho=>
  split at hc
  ·next t' n' ps hop=>
   simp only[Option.map_eq_some_iff,Prod.mk.injEq]at hc;obtain⟨ss',hm,rfl,rfl,rfl⟩:=hc;refine vstep ho I (v:=v) (w':=w') ?_ k;have h1:=mapP_ok I.fr hm;have h2:(ps.map fun(i,x)=>(i,a.eval x))=(ss'.map fun p=>(p.1,up β p.2)).toArray:=by
    rw[← h1];apply Array.ext';simp
   unfold execOp;simp only[hop,h2,Sem.run_bind,hr,Result.andThen_ok,Sem.run_pure]
  ·cases hc
 ·cases hc
end
theorem SI.exit{J:World→Prop}{F:Nat→Prop}{ds:List Deferred}{β:Nat→Nat}{c:Cf}{a:Act}{w:World}(I:SI J F ds β c a w)(r:Er):SI J F ds β (cfE r c.tm c.rows c.nx) a w:=I.cf rfl rfl rfl
def mI {T : World → Prop} (t : Nat) {d : TypeDesc} (hu : prog.underlying t = some d) (hd : (match d with | .interface _ => false | _ => true) = true) {x : Value} : Fa prog T := Sum.inr (Sum.inr
  { ok := fun | .makeInterface t' _ => t' == t | _ => false
    xs := #[x]
    v := .iface t x
    fr := true
    h := by
      intro a w oo _ hok hx
      cases hop : oo.op with
      | makeInterface t' y =>
        rw [hop] at hok hx
        simp only [beq_iff_eq] at hok
        subst hok
        simp only [vm, List.map_cons, List.map_nil] at hx
        have hx1 : a.eval y = x := by simpa using hx
        unfold execOp
        simp only [hop, hx1, Instr.makeInterface, Sem.run_bind, run_underlying hu, Result.andThen_ok]
        cases d <;> first | (simp at hd; done) | rfl
      | _ => rw [hop] at hok; simp at hok })
abbrev PErr:List PanicEntry:=[{ v:=.iface 117 (Z 2),recovered:=false }]
theorem za8:RT 41 #[.bool true] T0:=by
 refine fun w=>inZ func41 fun a I=>?_;refine goZ [uO .not (p:=.bool true) (v:=.bool false) (by intros;rfl)] I fun β a w1 I hb=>?_;exact out0 I ⟨rfl,I.hJ⟩
theorem ask_f(w:World):Calls prog 41 #[.bool false] w fun e w'=>e=.panicked PErr∧Below w.heap.size w w':=by
 refine inZ func41 fun a I=>?_;refine goZ [uO .not (p:=.bool false) (v:=.bool true) (by intros;rfl),mI 117 underlying117 rfl (x:=Z 2)] I fun β a w1 I hb=>?_;exact panQ I ⟨I.df,rfl,I.hJ⟩
structure RO (wE:World) (g e sz:Nat) (v:Value) (n:Nat) (xs:List Value) (w:World):Prop where
 gr:zi (fun k=>k≠g) wE w
 own:w.ownsRow wE.heap.size e sz v n xs
def ROF (wE:World) (g:Nat) (v:Value) (k:Nat):Prop:=(k<wE.heap.size∧k≠g)∨v.ownBlock=some k
theorem RO.rs(wE:World)(g e sz:Nat)(v:Value)(n:Nat)(xs:List Value):yw (RO wE g e sz v n xs) (ROF wE g v):=by
 refine⟨fun w w' h gr=>⟨⟨gr.os.trans h.gr.os,gr.tape.trans h.gr.tape,gr.output.trans h.gr.output,Nat.le_trans h.gr.size gr.size,fun k hk hn=>(gr.block k (Nat.lt_of_lt_of_le hk h.gr.size) (.inl ⟨hk,hn⟩)).trans (h.gr.block k hk hn)⟩,x9 h.own gr fun k hk=>.inr hk⟩,fun w k h hk=>?_⟩;rcases hk with hk | hk
 ·exact Nat.lt_of_lt_of_le hk.1 h.gr.size
 ·exact(h.own.lt k hk).2
theorem RO.start(w:World)(g e sz:Nat):RO w g e sz (.slice none 0 0) 0 [] w:=⟨zi.refl _ _,World.ownsRow_nil _ _ _ _⟩
theorem RO.not{w:World}{g:Nat}:¬ ROF w g (.slice none 0 0) g:=by
 rintro(h|h)
 ·exact h.2 rfl
 ·cases h
theorem zi.trans{F:Nat→Prop}{a b c:World}(h:zi F a b)(k:zi F b c):zi F a c:=⟨k.os.trans h.os,k.tape.trans h.tape,k.output.trans h.output,Nat.le_trans h.size k.size,fun i hi hF=>(k.block i (Nat.lt_of_lt_of_le hi h.size) hF).trans (h.block i hi hF)⟩
theorem SI.rcall{wE:World}{g e sz:Nat}{v:Value}{n:Nat}{xs:List Value}{w w':World}{ds:List Deferred}{β:Nat→Nat}{c:Cf}{a:Act}{r0 r:Array Value}(I:SI (RO wE g e sz v n xs) (ROF wE g v) ds β c a w)(hb:β 0=g)(hlt:g<wE.heap.size)(hg:zi (fun k=>k≠g) w w')(hr:zb w' g r)(x:Value)(hid:y9 c.rows 0=some r0) :
  SI (RO wE g e sz v n xs) (ROF wE g v) ds β (rowQ (xa c x) 0 r) (a.put (yu c) x) w':=by
 refine I.rowed hid ⟨hg.os,hg.tape,hg.output,hg.size,fun k hk hn=>hg.block k hk (by rw[← hb];exact hn.2)⟩ (by rw[hb];exact hr) ⟨I.hJ.gr.trans hg,x9 I.hJ.own hg fun k hk e=>?_⟩ (fun _ _ h=>h) x;have:=(I.hJ.own.lt k hk).1;omega
theorem zb1{wE : World}{g e sz : Nat}{v : Value}{n : Nat}{xs : List Value}{w : World}{ds : List Deferred}{β : Nat → Nat}{c : Cf}{a : Act}{Q : Exit → Act → World → Prop}{f : Nat}{fn : Func}(args : List Value)(hf : prog.funcs[f]? = some fn)(r0 r : Array Value)(I : SI (RO wE g e sz v n xs) (ROF wE g v) ds β c a w)(hb : β 0 = g)(hlt : g < wE.heap.size){x : Value}(hcall : Calls prog f (ye g :: args).toArray w fun e w' => e = .returned x ∧ zb w' g r ∧ zi (fun k => k ≠ g) w w')(k : ∀ w', SI (RO wE g e sz v n xs) (ROF wE g v) ds β (rowQ (xa c x) 0 r) (a.put (yu c) x) w' → At prog Q (rowQ (xa c x) 0 r) (a.put (yu c) x) w')(hc : callQ c = some (f, Sum.inr (0, 0) :: args.map Sum.inl) := by kernel_rfl)(hid : y9 c.rows 0 = some r0 := by kernel_rfl)(hbd : fn.body.isNone = false := by kernel_rfl)(hn : (fn.name == "runtime.NumGoroutine") = false := by kernel_rfl) : At prog Q c a w := by
 refine yp hf I ?_ hc hbd hn;have e:((Sum.inr (0,0)::args.map Sum.inl).map (up β))=ye g::args:=by
  simp only[List.map_cons,List.map_map,up,List.cons.injEq,hb];exact⟨trivial,List.map_id _⟩
 rw[e];refine hcall.mono fun e w1 he=>?_;obtain⟨rfl,hr,hg⟩:=he;exact(vp (id:=0) (r:=r)).1 (k w1 (I.rcall hb hlt hg hr x hid))
theorem qj{J : World → Prop}{F : Nat → Prop}{w : World}{ds : List Deferred}{β : Nat → Nat}{c : Cf}{a : Act}{Q : Exit → Act → World → Prop}{f : Nat}{fn : Func}(ss : List SV)(hf : prog.funcs[f]? = some fn)(I : SI J F ds β c a w){ch : List PanicEntry}(post : World → Prop)(hcall : Calls prog f (ss.map (up β)).toArray w fun e w' => e = .panicked ch ∧ post w')(k : ∀ w', post w' → Q (.panic ch) a w')(hc : callQ c = some (f, ss) := by kernel_rfl)(hbd : fn.body.isNone = false := by kernel_rfl)(hn : (fn.name == "runtime.NumGoroutine") = false := by kernel_rfl) : At prog Q c a w := by
 refine yp hf I (hcall.mono fun e w1 he=>?_) hc hbd hn;obtain⟨rfl,hp⟩:=he;exact k w1 hp
section
theorem run_idx(s:ByteArray)(i:Int)(j:Nat)(h:i=j)(hj:j<s.size)(w:World):(Instr.index 9 (.string s) (.int .i64 i)).run prog w=.ok (.int .u8 (s[j].toNat:Nat)) w:=by
 subst h;simp[Instr.index,asIntOf,run_underlying underlying9,hj]
attribute [local go_sem] setCell_drewN
theorem read_raw(s:ByteArray)(p0 p1 p2 p3 b:Nat→Nat)(hb:∀ k,b k<256)(hs:s.size≤32)(hi:∀ k:Nat,k<s.size→∀ w,(Instr.index 9 (.string s) (.int .i64 ((s.size:Int)-1-(k:Int)))).run prog w=.ok (.int .u8 (b k:Nat)) w)(z0:p0 0=0)(z1:p1 0=0)(z2:p2 0=0)(z3:p3 0=0)(g0:Hid (∀ k:Nat,k<s.size→k/8=0→((p0 (k+1):Nat):Int)=(bits .or .u64 (p0 k) (IntKind.u64.wrap ((b k:Int)*2^(k%8*8))))∧p1 (k+1)=p1 k∧p2 (k+1)=p2 k∧p3 (k+1)=p3 k))(g1:Hid (∀ k:Nat,k<s.size→k/8=1→p0 (k+1)=p0 k∧((p1 (k+1):Nat):Int)=(bits .or .u64 (p1 k) (IntKind.u64.wrap ((b k:Int)*2^(k%8*8))))∧p2 (k+1)=p2 k∧p3 (k+1)=p3 k))(g2:Hid (∀ k:Nat,k<s.size→k/8=2→p0 (k+1)=p0 k∧p1 (k+1)=p1 k∧((p2 (k+1):Nat):Int)=(bits .or .u64 (p2 k) (IntKind.u64.wrap ((b k:Int)*2^(k%8*8))))∧p3 (k+1)=p3 k))(g3:Hid (∀ k:Nat,k<s.size→k/8=3→p0 (k+1)=p0 k∧p1 (k+1)=p1 k∧p2 (k+1)=p2 k∧((p3 (k+1):Nat):Int)=(bits .or .u64 (p3 k) (IntKind.u64.wrap ((b k:Int)*2^(k%8*8)))))):RT 75 #[.string s] (.tuple #[U4 (p0 s.size) (p1 s.size) (p2 s.size) (p3 s.size),.int .i64 0]):=by
 intro w;have Z:Hid (p0 0=0∧p1 0=0∧p2 0=0∧p3 0=0):=⟨z0,z1,z2,z3⟩
 clear z0 z1 z2 z3
 go_enter func75,ntmps75
 go_wp2
 go_loopw [12] (fun i w'=>∃ k:Nat,k≤s.size∧i=.int .i64 k∧∃ nq,w'=((w.alloc (.cells #[.int .u64 0,.int .u64 0,.int .u64 0,.int .u64 0] 57)).alloc (.cells #[B (p0 k),B (p1 k),B (p2 k),B (p3 k)] 57)).drewN nq) (fun i _=>s.size-(intOf i).toNat)
 case atStart=>
  obtain⟨z0,z1,z2,z3⟩:=Z.out;exact⟨0,Nat.zero_le _,rfl,0,by simp only[B,z0,z1,z2,z3];rfl⟩
 case round=>
  obtain⟨k,hk,rfl,nq,rfl⟩:=hrel;by_cases hlt:k<s.size
  ·have hik:=hi k hlt;have hbk:=hb k;have hcase:k/8=0∨k/8=1∨k/8=2∨k/8=3:=by omega
   rcases hcase with hn|hn|hn|hn
   ·have G:=g0.out k hlt hn;have HG:Hid _:=G;clear G;have hq:(k:Int)/8=0:=by omega
    clear hn
    go_wp2
    go_region
    go_wp2
    go_roundw
    case rel=>
     obtain⟨e0,e1,e2,e3⟩:=HG.out;exact⟨k+1,by omega,by go_num,nq+1,by simp only[B,e0,e1,e2,e3]⟩
    case measure=>simp[intOf];omega
   ·have G:=g1.out k hlt hn;have HG:Hid _:=G;clear G;have hq:(k:Int)/8=1:=by omega
    clear hn
    go_wp2
    go_region
    go_wp2
    go_roundw
    case rel=>
     obtain⟨e0,e1,e2,e3⟩:=HG.out;exact⟨k+1,by omega,by go_num,nq+1,by simp only[B,e0,e1,e2,e3]⟩
    case measure=>simp[intOf];omega
   ·have G:=g2.out k hlt hn;have HG:Hid _:=G;clear G;have hq:(k:Int)/8=2:=by omega
    clear hn
    go_wp2
    go_region
    go_wp2
    go_roundw
    case rel=>
     obtain⟨e0,e1,e2,e3⟩:=HG.out;exact⟨k+1,by omega,by go_num,nq+1,by simp only[B,e0,e1,e2,e3]⟩
    case measure=>simp[intOf];omega
   ·have G:=g3.out k hlt hn;have HG:Hid _:=G;clear G;have hq:(k:Int)/8=3:=by omega
    clear hn
    go_wp2
    go_region
    go_wp2
    go_roundw
    case rel=>
     obtain⟨e0,e1,e2,e3⟩:=HG.out;exact⟨k+1,by omega,by go_num,nq+1,by simp only[B,e0,e1,e2,e3]⟩
    case measure=>simp[intOf];omega
  ·have hkk:k=s.size:=by omega
   go_wp2
   subst hkk;exact bodyPost_ret (v:=.tuple #[U4 (p0 s.size) (p1 s.size) (p2 s.size) (p3 s.size),.int .i64 0]) (by simp[results,results75,go_sem]) rfl ⟨rfl,(by repeat(first|exact Below.refl _ _|apply Below.drew|apply below_drewN|refine zdb ?_ _))⟩
theorem rread_raw(s:ByteArray)(p0 p1 p2 p3 b:Nat→Nat)(hb:∀ k,b k<256)(hs:s.size≤32)(hi:∀ k:Nat,k<s.size→∀ w,(Instr.index 9 (.string s) (.int .i64 ((s.size:Int)-1-(k:Int)))).run prog w=.ok (.int .u8 (b k:Nat)) w)(z0:p0 0=0)(z1:p1 0=0)(z2:p2 0=0)(z3:p3 0=0)(g0:Hid (∀ k:Nat,k<s.size→k/8=0→((p0 (k+1):Nat):Int)=(bits .or .u64 (p0 k) (IntKind.u64.wrap ((b k:Int)*2^(k%8*8))))∧p1 (k+1)=p1 k∧p2 (k+1)=p2 k∧p3 (k+1)=p3 k))(g1:Hid (∀ k:Nat,k<s.size→k/8=1→p0 (k+1)=p0 k∧((p1 (k+1):Nat):Int)=(bits .or .u64 (p1 k) (IntKind.u64.wrap ((b k:Int)*2^(k%8*8))))∧p2 (k+1)=p2 k∧p3 (k+1)=p3 k))(g2:Hid (∀ k:Nat,k<s.size→k/8=2→p0 (k+1)=p0 k∧p1 (k+1)=p1 k∧((p2 (k+1):Nat):Int)=(bits .or .u64 (p2 k) (IntKind.u64.wrap ((b k:Int)*2^(k%8*8))))∧p3 (k+1)=p3 k))(g3:Hid (∀ k:Nat,k<s.size→k/8=3→p0 (k+1)=p0 k∧p1 (k+1)=p1 k∧p2 (k+1)=p2 k∧((p3 (k+1):Nat):Int)=(bits .or .u64 (p3 k) (IntKind.u64.wrap ((b k:Int)*2^(k%8*8)))))):RT 51 #[.string s] (.tuple #[U4 (p0 s.size) (p1 s.size) (p2 s.size) (p3 s.size),.int .i64 0]):=by
 intro w;have Z:Hid (p0 0=0∧p1 0=0∧p2 0=0∧p3 0=0):=⟨z0,z1,z2,z3⟩
 clear z0 z1 z2 z3
 go_enter func51,ntmps51
 go_wp2
 go_loopw [6] (fun i w'=>∃ k:Nat,k≤s.size∧i=.int .i64 k∧∃ nq,w'=((w.alloc (.cells #[.int .u64 0,.int .u64 0,.int .u64 0,.int .u64 0] 57)).alloc (.cells #[B (p0 k),B (p1 k),B (p2 k),B (p3 k)] 57)).drewN nq) (fun i _=>s.size-(intOf i).toNat)
 case atStart=>
  obtain⟨z0,z1,z2,z3⟩:=Z.out;exact⟨0,Nat.zero_le _,rfl,0,by simp only[B,z0,z1,z2,z3];rfl⟩
 case round=>
  obtain⟨k,hk,rfl,nq,rfl⟩:=hrel;by_cases hlt:k<s.size
  ·have hik:=hi k hlt;have hbk:=hb k;have hcase:k/8=0∨k/8=1∨k/8=2∨k/8=3:=by omega
   rcases hcase with hn|hn|hn|hn
   ·have G:=g0.out k hlt hn;have HG:Hid _:=G;clear G;have hq:(k:Int)/8=0:=by omega
    clear hn
    go_wp2
    go_region
    go_wp2
    go_roundw
    case rel=>
     obtain⟨e0,e1,e2,e3⟩:=HG.out;exact⟨k+1,by omega,by go_num,nq+1,by simp only[B,e0,e1,e2,e3,Nat.mul_comm 8 (k%8)]⟩
    case measure=>simp[intOf];omega
   ·have G:=g1.out k hlt hn;have HG:Hid _:=G;clear G;have hq:(k:Int)/8=1:=by omega
    clear hn
    go_wp2
    go_region
    go_wp2
    go_roundw
    case rel=>
     obtain⟨e0,e1,e2,e3⟩:=HG.out;exact⟨k+1,by omega,by go_num,nq+1,by simp only[B,e0,e1,e2,e3,Nat.mul_comm 8 (k%8)]⟩
    case measure=>simp[intOf];omega
   ·have G:=g2.out k hlt hn;have HG:Hid _:=G;clear G;have hq:(k:Int)/8=2:=by omega
    clear hn
    go_wp2
    go_region
    go_wp2
    go_roundw
    case rel=>
     obtain⟨e0,e1,e2,e3⟩:=HG.out;exact⟨k+1,by omega,by go_num,nq+1,by simp only[B,e0,e1,e2,e3,Nat.mul_comm 8 (k%8)]⟩
    case measure=>simp[intOf];omega
   ·have G:=g3.out k hlt hn;have HG:Hid _:=G;clear G;have hq:(k:Int)/8=3:=by omega
    clear hn
    go_wp2
    go_region
    go_wp2
    go_roundw
    case rel=>
     obtain⟨e0,e1,e2,e3⟩:=HG.out;exact⟨k+1,by omega,by go_num,nq+1,by simp only[B,e0,e1,e2,e3,Nat.mul_comm 8 (k%8)]⟩
    case measure=>simp[intOf];omega
  ·have hkk:k=s.size:=by omega
   go_wp2
   subst hkk;exact bodyPost_ret (v:=.tuple #[U4 (p0 s.size) (p1 s.size) (p2 s.size) (p3 s.size),.int .i64 0]) (by simp[results,results51,go_sem]) rfl ⟨rfl,(by repeat(first|exact Below.refl _ _|apply Below.drew|apply below_drewN|refine zdb ?_ _))⟩
end
def btN (s:ByteArray) (k:Nat):Nat:=(s.data.getD (s.size-1-k) 0).toNat
theorem btN_lt(s:ByteArray)(k:Nat):btN s k<256:=UInt8.toNat_lt _
def rdN (s:ByteArray):Nat→Nat
 | 0=>0
 | k+1=>rdN s k+btN s k*2^(8*k)
theorem rdN_lt(s:ByteArray):∀ k,rdN s k<2^(8*k)
 | 0=>by simp[rdN]
 | k+1=>by
  have h:=rdN_lt s k;have hb:=btN_lt s k;rw[rdN,show 8*(k+1)=8*k+8 by omega,Nat.pow_add];have:btN s k*2^(8*k)≤255*2^(8*k):=Nat.mul_le_mul_right _ (by omega);omega
theorem rd_ltW(s:ByteArray)(k:Nat)(hk:k≤32):rdN s k<W:=by
 rw[W_pow];exact Nat.lt_of_lt_of_le (rdN_lt s k) (Nat.pow_le_pow_right (by decide) (by omega))
theorem run_bt(s:ByteArray)(k:Nat)(hk:k<s.size)(w:World):(Instr.index 9 (.string s) (.int .i64 ((s.size:Int)-1-(k:Int)))).run prog w=.ok (.int .u8 (btN s k:Nat)) w:=by
 have hj:s.size-1-k<s.size:=by omega
 have e:btN s k=s[s.size-1-k].toNat:=by
  unfold btN;have hd:s.size-1-k<s.data.size:=hj;rw[Array.getD_eq_getD_getElem?,Array.getElem?_eq_getElem hd];rfl
 rw[run_idx s _ (s.size-1-k) (by omega) hj,e]
theorem or_byte(x b r:Nat)(hx:x<2^(8*r))(hb:b<256)(hr:r<8) :
  bits .or .u64 (x:Int) (IntKind.u64.wrap ((b:Int)*2^(r*8)))=((x+b*2^(8*r):Nat):Int)∧x+b*2^(8*r)<M:=by
 have hM:M=2^(8*r)*2^(64-8*r):=by rw[← Nat.pow_add,show 8*r+(64-8*r)=64 by omega];decide
 have h8:2^8≤2^(64-8*r):=Nat.pow_le_pow_right (by decide) (by omega);have hp:0<2^(8*r):=Nat.two_pow_pos _;have h1:x+b*2^(8*r)<M:=by
  rw[hM];have:b*2^(8*r)≤255*2^(8*r):=Nat.mul_le_mul_right _ (by omega);have:2^(8*r)*256≤2^(8*r)*2^(64-8*r):=Nat.mul_le_mul_left _ h8;omega
 refine⟨?_,h1⟩;have e:x+b*2^(8*r)=x ||| b*2^(8*r):=by
  rw[Nat.add_comm,Nat.mul_comm,Nat.two_pow_add_eq_or_of_lt hx,Nat.or_comm]
 rw[Nat.mul_comm r 8,wrap_mul,Nat.mod_eq_of_lt (by omega:b*2^(8*r)<M),bits_or _ _ (by omega) (by omega),e]
theorem rd_part(s:ByteArray)(k q:Nat)(hk:k/8=q):rdN s k/M^q<2^(8*(k%8)):=by
 refine Nat.div_lt_of_lt_mul ?_;rw[M_pow,← Nat.pow_mul,← Nat.pow_add,show 64*q+8*(k%8)=8*k by omega];exact rdN_lt s k
theorem rd_step(s:ByteArray)(k q:Nat)(hk:k/8=q):rdN s (k+1)=rdN s k+btN s k*2^(8*(k%8))*M^q:=by
 rw[rdN,M_pow,← Nat.pow_mul,Nat.mul_assoc,← Nat.pow_add,show 8*(k%8)+64*q=8*k by omega]
theorem rd_q0(s:ByteArray)(hs:s.size≤32):∀ k:Nat,k<s.size→k/8=0→((l0 (rdN s (k+1)):Nat):Int)=bits .or .u64 (l0 (rdN s k):Nat) (IntKind.u64.wrap ((btN s k:Int)*2^(k%8*8)))∧l1 (rdN s (k+1))=l1 (rdN s k)∧l2 (rdN s (k+1))=l2 (rdN s k)∧l3 (rdN s (k+1))=l3 (rdN s k):=by
 intro k hk hq;have hp:=rd_part s k 0 hq;have hx:l0 (rdN s k)<2^(8*(k%8)):=by
  unfold l0;rw[Nat.pow_zero,Nat.div_one]at hp;exact Nat.lt_of_le_of_lt (Nat.mod_le _ _) hp
 obtain⟨eo,hlt⟩:=or_byte (l0 (rdN s k)) (btN s k) (k%8) hx (btN_lt s k) (by omega);have em:=qq (rdN s k) (rd_ltW s k (by omega));have e:rdN s (k+1)=mk (l0 (rdN s k)+btN s k*2^(8*(k%8))) (l1 (rdN s k)) (l2 (rdN s k)) (l3 (rdN s k)):=by
  rw[rd_step s k 0 hq]
  conv=>lhs;rw[← em]
  rw[Nat.pow_zero];generalize btN s k*2^(8*(k%8))=c;unfold mk;grind
 obtain⟨e0,e1,e2,e3⟩:=of_mk _ _ _ _ _ e hlt (l1_lt _) (l2_lt _) (l3_lt _);exact⟨by rw[e0,eo],e1,e2,e3⟩
theorem rd_q1(s:ByteArray)(hs:s.size≤32):∀ k:Nat,k<s.size→k/8=1→l0 (rdN s (k+1))=l0 (rdN s k)∧((l1 (rdN s (k+1)):Nat):Int)=bits .or .u64 (l1 (rdN s k):Nat) (IntKind.u64.wrap ((btN s k:Int)*2^(k%8*8)))∧l2 (rdN s (k+1))=l2 (rdN s k)∧l3 (rdN s (k+1))=l3 (rdN s k):=by
 intro k hk hq;have hp:=rd_part s k 1 hq;have hx:l1 (rdN s k)<2^(8*(k%8)):=by
  unfold l1;rw[Nat.pow_one]at hp;exact Nat.lt_of_le_of_lt (Nat.mod_le _ _) hp
 obtain⟨eo,hlt⟩:=or_byte (l1 (rdN s k)) (btN s k) (k%8) hx (btN_lt s k) (by omega);have em:=qq (rdN s k) (rd_ltW s k (by omega));have e:rdN s (k+1)=mk (l0 (rdN s k)) (l1 (rdN s k)+btN s k*2^(8*(k%8))) (l2 (rdN s k)) (l3 (rdN s k)):=by
  rw[rd_step s k 1 hq]
  conv=>lhs;rw[← em]
  rw[Nat.pow_one];generalize btN s k*2^(8*(k%8))=c;unfold mk;grind
 obtain⟨e0,e1,e2,e3⟩:=of_mk _ _ _ _ _ e (kr _) hlt (l2_lt _) (l3_lt _);exact⟨e0,by rw[e1,eo],e2,e3⟩
theorem rd_q2(s:ByteArray)(hs:s.size≤32):∀ k:Nat,k<s.size→k/8=2→l0 (rdN s (k+1))=l0 (rdN s k)∧l1 (rdN s (k+1))=l1 (rdN s k)∧((l2 (rdN s (k+1)):Nat):Int)=bits .or .u64 (l2 (rdN s k):Nat) (IntKind.u64.wrap ((btN s k:Int)*2^(k%8*8)))∧l3 (rdN s (k+1))=l3 (rdN s k):=by
 intro k hk hq;have hp:=rd_part s k 2 hq;have hx:l2 (rdN s k)<2^(8*(k%8)):=by
  unfold l2;rw[show M^2=M*M from by decide]at hp;exact Nat.lt_of_le_of_lt (Nat.mod_le _ _) hp
 obtain⟨eo,hlt⟩:=or_byte (l2 (rdN s k)) (btN s k) (k%8) hx (btN_lt s k) (by omega);have em:=qq (rdN s k) (rd_ltW s k (by omega));have e:rdN s (k+1)=mk (l0 (rdN s k)) (l1 (rdN s k)) (l2 (rdN s k)+btN s k*2^(8*(k%8))) (l3 (rdN s k)):=by
  rw[rd_step s k 2 hq]
  conv=>lhs;rw[← em]
  rw[show M^2=M*M from by decide];generalize btN s k*2^(8*(k%8))=c;unfold mk;grind
 obtain⟨e0,e1,e2,e3⟩:=of_mk _ _ _ _ _ e (kr _) (l1_lt _) hlt (l3_lt _);exact⟨e0,e1,by rw[e2,eo],e3⟩
theorem rd_q3(s:ByteArray)(hs:s.size≤32):∀ k:Nat,k<s.size→k/8=3→l0 (rdN s (k+1))=l0 (rdN s k)∧l1 (rdN s (k+1))=l1 (rdN s k)∧l2 (rdN s (k+1))=l2 (rdN s k)∧((l3 (rdN s (k+1)):Nat):Int)=bits .or .u64 (l3 (rdN s k):Nat) (IntKind.u64.wrap ((btN s k:Int)*2^(k%8*8))):=by
 intro k hk hq;have hp:=rd_part s k 3 hq;have hx:l3 (rdN s k)<2^(8*(k%8)):=by
  unfold l3;rw[show M^3=M*M*M from by decide +kernel]at hp;exact Nat.lt_of_le_of_lt (Nat.mod_le _ _) hp
 obtain⟨eo,hlt⟩:=or_byte (l3 (rdN s k)) (btN s k) (k%8) hx (btN_lt s k) (by omega);have em:=qq (rdN s k) (rd_ltW s k (by omega));have e:rdN s (k+1)=mk (l0 (rdN s k)) (l1 (rdN s k)) (l2 (rdN s k)) (l3 (rdN s k)+btN s k*2^(8*(k%8))):=by
  rw[rd_step s k 3 hq]
  conv=>lhs;rw[← em]
  rw[show M^3=M*M*M from by decide +kernel];generalize btN s k*2^(8*(k%8))=c;unfold mk;grind
 obtain⟨e0,e1,e2,e3⟩:=of_mk _ _ _ _ _ e (kr _) (l1_lt _) (l2_lt _) hlt;exact⟨e0,e1,e2,by rw[e3,eo]⟩
theorem read_any(s:ByteArray)(hs:s.size≤32)(w:World):Calls prog 75 #[.string s] w fun e w'=>e=.returned (.tuple #[U (rdN s s.size),.int .i64 0])∧Below w.heap.size w w':=
 read_raw s (fun k=>l0 (rdN s k)) (fun k=>l1 (rdN s k)) (fun k=>l2 (rdN s k)) (fun k=>l3 (rdN s k)) (btN s) (btN_lt s) hs (fun k hk w=>run_bt s k hk w) (show l0 0=0 by decide +kernel) (show l1 0=0 by decide +kernel) (show l2 0=0 by decide +kernel) (show l3 0=0 by decide +kernel) (rd_q0 s hs) (rd_q1 s hs) (rd_q2 s hs) (rd_q3 s hs) w
theorem rread_any(s:ByteArray)(hs:s.size≤32)(w:World):Calls prog 51 #[.string s] w fun e w'=>e=.returned (.tuple #[U (rdN s s.size),.int .i64 0])∧Below w.heap.size w w':=
 rread_raw s (fun k=>l0 (rdN s k)) (fun k=>l1 (rdN s k)) (fun k=>l2 (rdN s k)) (fun k=>l3 (rdN s k)) (btN s) (btN_lt s) hs (fun k hk w=>run_bt s k hk w) (show l0 0=0 by decide +kernel) (show l1 0=0 by decide +kernel) (show l2 0=0 by decide +kernel) (show l3 0=0 by decide +kernel) (rd_q0 s hs) (rd_q1 s hs) (rd_q2 s hs) (rd_q3 s hs) w
theorem bt_strN(n k:Nat)(hk:k<32):btN (vd n) k=n/2^(8*k)%256:=by
 unfold btN;rw[vy];have hd:(vd n).data=((List.range 32).map fun j=>UInt8.ofNat (yb n j)).toArray:=by
  unfold vd strOfNums;simp
 rw[hd,Array.getD_eq_getD_getElem?,List.getElem?_toArray,List.getElem?_map,List.getElem?_range (by omega)];have h31:31-(32-1-k)=k:=by omega
 have hlt:n/2^(8*k)%256<256:=Nat.mod_lt _ (by decide);simp only[Option.map_some,Option.getD_some,yb,h31];simp
theorem rd_strN(n:Nat):∀ k,k≤32→rdN (vd n) k=n%2^(8*k)
 | 0,_=>by simp[rdN,Nat.mod_one]
 | k+1,h=>by
  rw[rdN,rd_strN n k (by omega),bt_strN n k (by omega),show 8*(k+1)=8*k+8 by omega,Nat.pow_add,Nat.mod_mul,Nat.mul_comm (2^(8*k))]
theorem rd_back(n:Nat)(h:n<W):rdN (vd n) (vd n).size=n:=by
 rw[vy,rd_strN n 32 (Nat.le_refl _)];rw[W_pow]at h;exact Nat.mod_eq_of_lt h
theorem zn(l:List UInt8):(⟨l.toArray⟩:ByteArray).size=l.length:=by
 show l.toArray.size=l.length;simp
theorem zco(l:List UInt8)(i j:Nat):(⟨l.toArray⟩:ByteArray).extract i j=⟨((l.take j).drop i).toArray⟩:=by
 apply ByteArray.ext;rw[ByteArray.data_extract];simp[List.drop_take]
theorem zr{l:List UInt8}{k:Nat}{b:UInt8}(h:l[k]? = some b)(w:World):(Instr.index 9 (str l) (Z k)).run prog w=.ok (.int .u8 b.toNat) w:=by
 have hk:k<l.length:=(List.getElem?_eq_some_iff.1 h).1;have hb:(⟨l.toArray⟩:ByteArray)[k]? = some b:=by
  have h2:k<(⟨l.toArray⟩:ByteArray).size:=by rw[zn];exact hk
  rw[ByteArray.getElem?_lt' _ _ h2]
  congr 1
  have:l[k]=b:=(List.getElem?_eq_some_iff.1 h).2;rw[← this];rfl
 rw[run_index_string (P:=prog) w 9 ⟨l.toArray⟩ .i64 (k:Int) underlying9];have h2:k<(⟨l.toArray⟩:ByteArray).size:=by rw[zn];exact hk
 rw[ByteArray.getElem?_lt' _ _ h2]at hb;have hb2:=Option.some.inj hb;simp[h2,hb2]
theorem v8{l:List UInt8}{k:Nat}(hk:k≤l.length)(w:World):(Instr.sliceAt 9 (str l) (some (Z k)) none none).run prog w=.ok (str (l.drop k)) w:=by
 rw[run_sliceAt_string (P:=prog) w 9 (str l) _ _ _ underlying9];rw[run_slice_string_from_if (P:=prog) w 9 ⟨l.toArray⟩ .i64 (k:Int) underlying9];have:(0:Int)≤k∧(k:Int)≤(⟨l.toArray⟩:ByteArray).size:=⟨by omega,by rw[zn];omega⟩
 rw[if_pos this,zco,zn,List.take_length];rfl
theorem to_run{l:List UInt8}{k:Nat}(hk:k≤l.length)(w:World):(Instr.sliceAt 9 (str l) none (some (Z k)) none).run prog w=.ok (str (l.take k)) w:=by
 rw[run_sliceAt_string (P:=prog) w 9 (str l) _ _ _ underlying9];rw[run_slice_string_to_if (P:=prog) w 9 ⟨l.toArray⟩ .i64 (k:Int) underlying9];have:(0:Int)≤k∧(k:Int)≤(⟨l.toArray⟩:ByteArray).size:=⟨by omega,by rw[zn];omega⟩
 rw[if_pos this,zco];rfl
theorem yt{a b:List UInt8}{q:Bool}(h:decide (a=b)=q)(x y:Operand)(w:World):(do eqGuard .eql 9 x y (str a) (str b);binOp .eql 9 (str a) (str b):Sem Value).run prog w=.ok (.bool q) w:=by
 simp[go_sem];rw[← h];by_cases hab:a=b<;>simp[hab]
def sT {T:World→Prop} (t:Nat) {p l v:Value} (h:∀ w,(Instr.sliceAt t p none (some l) none).run prog w=.ok v w):Fa prog T:=
 Sum.inr (Sum.inr ⟨fun o=>match o with | .slice t' _ none (some _) none=>t' == t | _=>false,#[p,l],v,true,by
  intro a w oo _ hok hx;cases hop:oo.op with
  | slice t' x lo hi mx=>
   rw[hop]at hok hx;cases lo with
   | some y=>simp at hok
   | none=>
    cases hi with
    | none=>simp at hok
    | some z=>
     cases mx with
     | some z=>simp at hok
     | none=>
      simp at hok;subst hok;simp[vm]at hx;unfold execOp;simp only[hop,Option.map_some,Option.map_none,hx];rw[Sem.run_bind,h,Result.andThen_ok,Sem.run_pure]
  | _=>rw[hop]at hok;simp at hok⟩)
theorem zaw{g:Nat}{S:List UInt8}{at_ n:Nat}{w:World}(hr:zb w g #[str S,Z at_])(hS:S.length<1000000000000)(ha:at_≤S.length)(hn:at_+n≤S.length) :
  Calls prog 70 #[ye g,Z n] w fun e w'=>e=.returned (str ((S.drop at_).take n))∧zb w' g #[str S,Z (at_+n:Nat)]∧zi (fun k=>k≠g) w w':=by
 have hlt:=hr.lt;refine inG (J:=RO w g 5 1 (.slice none 0 0) 0 []) (F:=ROF w g (.slice none 0 0)) [Z n] func70 (RO.start _ _ _ _) hr RO.not fun a I=>?_;refine goQ [] (RO.rs _ _ _ _ _ _ _) I fun β a w0 I hb=>?_;have hb0:β 0=g:=agr hb 0 rfl;have hsz:=zn S;refine dwQ 13 [lO underlying9 (b:=⟨S.toArray⟩) (n:=S.length) (by rw[hsz]),ksZ S.length at_ (S.length-at_:Nat),kmT n (S.length-at_:Nat),kC func41 za8] (RO.rs _ _ _ _ _ _ _) zd.post I fun a w1 I=>?_;refine goQ [] (RO.rs _ _ _ _ _ _ _) I fun β2 a w2 I hb2=>?_;have hb20:β2 0=g:=agr hb2 0 hb0
 refine dwQ 12 [sO 9 (p:=str S) (l:=Z at_) (v:=str (S.drop at_)) (v8 ha),sT 9 (p:=str (S.drop at_)) (l:=Z n) (v:=str ((S.drop at_).take n)) (to_run (by rw[List.length_drop];omega))] (RO.rs _ _ _ _ _ _ _) zd.post I fun a w3 I=>?_;refine goQ [kaZ at_ n (at_+n:Nat)] (RO.rs _ _ _ _ _ _ _) I fun β4 a w4 I hb4=>?_;have hb40:β4 0=g:=agr hb4 0 hb20;exact zh I ⟨rfl,I.rowG 0 hb40 (r:=#[str S,Z (at_+n:Nat)]),I.hJ.gr⟩
theorem take_bad{g:Nat}{S:List UInt8}{at_ n:Nat}{w:World}(hr:zb w g #[str S,Z at_])(hS:S.length<1000000000000)(ha:at_≤S.length)(hn:S.length<at_+n)(hn2:n<1000000000000) :
  Calls prog 70 #[ye g,Z n] w fun e w'=>e=.panicked PErr∧zi (fun k=>k≠g) w w':=by
 have hlt:=hr.lt;refine inG (J:=RO w g 5 1 (.slice none 0 0) 0 []) (F:=ROF w g (.slice none 0 0)) [Z n] func70 (RO.start _ _ _ _) hr RO.not fun a I=>?_;refine goQ [] (RO.rs _ _ _ _ _ _ _) I fun β a w0 I hb=>?_;have hsz:=zn S;refine dwQ 12 [lO underlying9 (b:=⟨S.toArray⟩) (n:=S.length) (by rw[hsz]),ksZ S.length at_ (S.length-at_:Nat),kmF n (S.length-at_:Nat)] (RO.rs _ _ _ _ _ _ _) zd.post I fun a w1 I=>?_;exact qj [Sum.inl (.bool false)] func41 I (fun w'=>Below w1.heap.size w1 w') (ask_f w1) fun w' hb=>⟨I.df,rfl,I.hJ.gr.trans (zi.of_below hb)⟩
def nm (l:List UInt8):Nat:=rdN ⟨l.toArray⟩ l.length
theorem vv(l:List UInt8)(hl:l.length≤32):RT 100 #[str l] (U (nm l)):=by
 intro w;have hr:=read_any ⟨l.toArray⟩ (by rw[zn];exact hl);rw[zn]at hr;refine inZ func100 fun a I=>?_;refine goZ [kC func75 hr] I fun β a w1 I hb=>?_;exact zh I ⟨rfl,I.hJ⟩
theorem zq{x y:UInt8}{q:Bool}(h:decide (x=y)=q)(o1 o2:Operand)(w:World):(do eqGuard .eql 5 o1 o2 (.int .u8 x.toNat) (.int .u8 y.toNat);binOp .eql 5 (.int .u8 x.toNat) (.int .u8 y.toNat):Sem Value).run prog w=.ok (.bool q) w:=by
 rw[← h];by_cases hx:x=y
 ·simp[go_sem,hx]
 ·have:¬ (x.toNat=y.toNat):=fun e=>hx (UInt8.toNat_inj.1 e)
  have h2:¬ ((x.toNat:Int)=(y.toNat:Int)):=by omega
  simp[go_sem,hx,h2]
theorem trimL_any(c:UInt8):∀(l:List UInt8) (w:World),l.length<1000000000000→Calls prog 142 #[str l,.int .u8 c.toNat] w fun e w'=>e=.returned (str (l.dropWhile (· == c)))∧Below w.heap.size w w':=by
 intro l w hl;refine inZ func142 fun a I=>?_;refine goZ [] I fun β a w1 I hb=>?_
 let St:Nat→Act→World→Prop:=fun k a w'=>∃(m:List UInt8) (β:Nat→Nat) (u:Nat→Value),k=m.length∧m.length≤l.length∧m.dropWhile (· == c)=l.dropWhile (· == c)∧SI (Below w.heap.size w) (· < w.heap.size) [] β (cfC (zc Tryz.f142) (zl (zg 17 [0,1]) u 0 (frm 17 [(0,Sum.inl (str m)),(1,Sum.inl (.int .u8 c.toNat))])) [] 0) a w'
 refine lpM (zc Tryz.f142) St l.length ?_ ?_
 ·obtain⟨u,Iu⟩:=I.scr (zc Tryz.f142) (zg 17 [0,1]) (frm 17 [(0,Sum.inl (str l)),(1,Sum.inl (.int .u8 c.toNat))]) [] 0;exact⟨l,β,u,rfl,Nat.le_refl _,rfl,Iu⟩
 rintro k a3 w3 ⟨m,β3,u,rfl,hm,hd,I⟩;refine zv (tm:=zl (zg 17 [0,1]) u 0 (frm 17 [(0,Sum.inl (str m)),(1,Sum.inl (.int .u8 c.toNat))])) (rows:=[]) (nx:=0) ?_;have hsz:=zn m;cases m with
 | nil=>
  refine goZ [lO underlying9 (b:=⟨[].toArray⟩) (n:=(0:Nat)) (by rw[hsz];rfl),bO .gtr 3 (zu (x:=(0:Nat)) (y:=0) (b:=false) (by decide))] I fun β4 a4 w4 I hb4=>?_;refine xg 0 ?_;refine goZ [] (I.exit _) fun β5 a5 w5 I hb5=>?_;exact zh (v:=str []) I ⟨by rw[← hd];rfl,I.hJ⟩
 | cons b m=>
  by_cases hbc:b=c
  ·refine goZ [lO underlying9 (b:=⟨(b::m).toArray⟩) (n:=((b::m).length:Nat)) (by rw[hsz]),bO .gtr 3 (zu (x:=((b::m).length:Nat)) (y:=0) (b:=true) (by simp only[List.length_cons,decide_eq_true_eq];omega)),iO 9 (p:=str (b::m)) (i:=Z (0:Nat)) (v:=.int .u8 b.toNat) (zr rfl),bO .eql 5 (zq (x:=b) (y:=c) (q:=true) (by simp[hbc])),sO 9 (p:=str (b::m)) (l:=Z (1:Nat)) (v:=str m) (fun w=>v8 (l:=b::m) (k:=1) (by simp) w)] I fun β4 a4 w4 I hb4=>?_;obtain⟨u',Iu⟩:=I.scr (zc Tryz.f142) (zg 17 [0,1]) (frm 17 [(0,Sum.inl (str m)),(1,Sum.inl (.int .u8 c.toNat))]) [] 0
   exact xc ⟨m.length,by simp,m,β4,u',rfl,by simp only[List.length_cons]at hm;omega,by rw[← hd];simp[hbc],Iu⟩
  ·refine goZ [lO underlying9 (b:=⟨(b::m).toArray⟩) (n:=((b::m).length:Nat)) (by rw[hsz]),bO .gtr 3 (zu (x:=((b::m).length:Nat)) (y:=0) (b:=true) (by simp only[List.length_cons,decide_eq_true_eq];omega)),iO 9 (p:=str (b::m)) (i:=Z (0:Nat)) (v:=.int .u8 b.toNat) (zr rfl),bO .eql 5 (zq (x:=b) (y:=c) (q:=false) (by simp[hbc]))] I fun β4 a4 w4 I hb4=>?_;refine xg 0 ?_;refine goZ [] (I.exit _) fun β5 a5 w5 I hb5=>?_;exact zh (v:=str (b::m)) I ⟨by rw[← hd];simp[hbc],I.hJ⟩
def trR (c:UInt8) (l:List UInt8):List UInt8:=(l.reverse.dropWhile (· == c)).reverse
theorem trimR_any(c:UInt8):∀(l:List UInt8) (w:World),l.length<1000000000000→Calls prog 143 #[str l,.int .u8 c.toNat] w fun e w'=>e=.returned (str (trR c l))∧Below w.heap.size w w':=by
 intro l w hl;refine inZ func143 fun a I=>?_;refine goZ [] I fun β a w1 I hb=>?_
 let St:Nat→Act→World→Prop:=fun k a w'=>∃(m:List UInt8) (β:Nat→Nat) (u:Nat→Value),k=m.length∧m.length≤l.length∧trR c m=trR c l∧SI (Below w.heap.size w) (· < w.heap.size) [] β (cfC (zc Tryz.f143) (zl (zg 23 [0,1]) u 0 (frm 23 [(0,Sum.inl (str m)),(1,Sum.inl (.int .u8 c.toNat))])) [] 0) a w'
 refine lpM (zc Tryz.f143) St l.length ?_ ?_
 ·obtain⟨u,Iu⟩:=I.scr (zc Tryz.f143) (zg 23 [0,1]) (frm 23 [(0,Sum.inl (str l)),(1,Sum.inl (.int .u8 c.toNat))]) [] 0;exact⟨l,β,u,rfl,Nat.le_refl _,rfl,Iu⟩
 rintro k a3 w3 ⟨m,β3,u,rfl,hm,hd,I⟩;refine zv (tm:=zl (zg 23 [0,1]) u 0 (frm 23 [(0,Sum.inl (str m)),(1,Sum.inl (.int .u8 c.toNat))])) (rows:=[]) (nx:=0) ?_;have hsz:=zn m;rcases(by simpa only [List.concat_eq_append]using List.eq_nil_or_concat m:m=[]∨∃ m' b,m=m'++[b])with rfl|⟨m',b,rfl⟩
 ·refine goZ [lO underlying9 (b:=⟨[].toArray⟩) (n:=(0:Nat)) (by rw[hsz];rfl),bO .gtr 3 (zu (x:=(0:Nat)) (y:=0) (b:=false) (by decide))] I fun β4 a4 w4 I hb4=>?_;refine xg 0 ?_;refine goZ [] (I.exit _) fun β5 a5 w5 I hb5=>?_;exact zh (v:=str []) I ⟨by rw[← hd];rfl,I.hJ⟩
 ·have hlen:(m'++[b]).length=m'.length+1:=by simp
  have hidx:(m'++[b])[m'.length]? = some b:=by simp
  have htk:(m'++[b]).take m'.length=m':=by simp
  rw[hlen]at hm hsz;by_cases hbc:b=c
  ·refine goQ [lO underlying9 (b:=⟨(m'++[b]).toArray⟩) (n:=(m'.length+1:Nat)) (by rw[hsz]),bO .gtr 3 (zu (x:=(m'.length+1:Nat)) (y:=0) (b:=true) (by simp only[decide_eq_true_eq];omega)),lO underlying9 (b:=⟨(m'++[b]).toArray⟩) (n:=(m'.length+1:Nat)) (by rw[hsz]),ksZ (m'.length+1:Nat) 1 m'.length,iO 9 (p:=str (m'++[b])) (i:=Z m'.length) (v:=.int .u8 b.toNat) (zr hidx),bO .eql 5 (zq (x:=b) (y:=c) (q:=true) (by simp[hbc])),
    lO underlying9 (b:=⟨(m'++[b]).toArray⟩) (n:=(m'.length+1:Nat)) (by rw[hsz]),ksZ (m'.length+1:Nat) 1 m'.length,sT 9 (p:=str (m'++[b])) (l:=Z m'.length) (v:=str m') (fun w=>by have:=to_run (l:=m'++[b]) (k:=m'.length) (by simp) w;rw[htk]at this;exact this)] (zj w) I fun β4 a4 w4 I hb4=>?_
   obtain⟨u',Iu⟩:=I.scr (zc Tryz.f143) (zg 23 [0,1]) (frm 23 [(0,Sum.inl (str m')),(1,Sum.inl (.int .u8 c.toNat))]) [] 0;exact xc ⟨m'.length,by rw[hlen];omega,m',β4,u',rfl,by omega,by rw[← hd];simp[trR,hbc],Iu⟩
  ·refine goZ [lO underlying9 (b:=⟨(m'++[b]).toArray⟩) (n:=(m'.length+1:Nat)) (by rw[hsz]),bO .gtr 3 (zu (x:=(m'.length+1:Nat)) (y:=0) (b:=true) (by simp only[decide_eq_true_eq];omega)),lO underlying9 (b:=⟨(m'++[b]).toArray⟩) (n:=(m'.length+1:Nat)) (by rw[hsz]),ksZ (m'.length+1:Nat) 1 m'.length,iO 9 (p:=str (m'++[b])) (i:=Z m'.length) (v:=.int .u8 b.toNat) (zr hidx),bO .eql 5 (zq (x:=b) (y:=c) (q:=false) (by simp[hbc]))] I fun β4 a4 w4 I hb4=>?_;refine xg 0 ?_;refine goZ [] (I.exit _) fun β5 a5 w5 I hb5=>?_
   exact zh (v:=str (m'++[b])) I ⟨by rw[← hd];simp[trR,hbc],I.hJ⟩
def trm (l:List UInt8):List UInt8:=(trR 0 l).dropWhile (· == 0)
theorem lssB_run{x y:Nat}{q:Bool}(h:decide (x<y)=q)(o1 o2:Operand)(w:World):(do eqGuard .lss 5 o1 o2 (.int .u8 (x:Int)) (.int .u8 (y:Int));binOp .lss 5 (.int .u8 (x:Int)) (.int .u8 (y:Int)):Sem Value).run prog w=.ok (.bool q) w:=by
 rw[← h];by_cases hx:x<y<;>simp[go_sem,hx]
theorem trR_len(c:UInt8)(l:List UInt8):(trR c l).length≤l.length:=by
 unfold trR;rw[List.length_reverse];have:=(List.dropWhile_sublist (p:=fun x=>x == c) (l:=l.reverse)).length_le;simpa using this
theorem trim_any(l:List UInt8)(hl:l.length<1000000000000):RT 135 #[str l,str [0]] (str (trm l)):=by
 refine fun w=>inZ func135 fun a I=>?_;by_cases hn:l=[]
 ·subst hn;refine goZ [bO .eql 9 (yt (a:=[]) (b:=[]) (q:=true) rfl)] I fun β a w1 I hb=>?_;exact xj (v:=str []) I
 ·refine goZ [bO .eql 9 (yt (a:=l) (b:=[]) (q:=false) (by simp[hn])),bO .eql 9 (yt (a:=[0]) (b:=[]) (q:=false) rfl),lO underlying9 (b:=⟨[0].toArray⟩) (n:=1) rfl,bO .eql 3 (z8 (x:=1) (y:=1) (b:=true) rfl),iO 9 (p:=str [0]) (i:=Z (0:Nat)) (v:=.int .u8 (0:UInt8).toNat) (zr rfl),bO .lss 5 (lssB_run (x:=0) (y:=128) (q:=true) rfl)] I fun β a w1 I hb=>?_
  refine dwQ 8 [iO 9 (p:=str [0]) (i:=Z (0:Nat)) (v:=.int .u8 (0:UInt8).toNat) (zr rfl),kC func143 (trimR_any 0 l · hl),iO 9 (p:=str [0]) (i:=Z (0:Nat)) (v:=.int .u8 (0:UInt8).toNat) (zr rfl),kC func142 (trimL_any 0 (trR 0 l) · (by have:=trR_len 0 l;omega))] (zj w) zd.post I fun a w3 I=>?_;refine goZ [] I fun β5 a5 w5 I hb5=>?_;exact xj (v:=str (trm l)) I
theorem dw_nil{p:UInt8→Bool}:∀{l:List UInt8},l.dropWhile p=[]↔∀ x∈l,p x=true
 | []=>by simp
 | b::l=>by
  rw[List.dropWhile_cons];split
  ·next h=>rw[dw_nil (l:=l)];simp[h]
  ·next h=>simp[h]
theorem trm_nil(l:List UInt8):trm l=[]↔∀ b∈l,b=0:=by
 unfold trm trR;constructor
 ·intro h b hb;rw[dw_nil]at h;have h2:(l.reverse.dropWhile (· == 0))=[]:=by
   cases hq:l.reverse.dropWhile (· == 0)with
   | nil=>rfl
   | cons x t=>
    have hx:¬ ((x == 0)=true):=by
     have:=List.head?_dropWhile_not (p:=fun b:UInt8=>b == 0) (l:=l.reverse);rw[hq]at this;simpa using this
    have:=h x (by rw[hq];simp);exact absurd this hx
  rw[dw_nil]at h2;simpa using h2 b (by simpa using hb)
 ·intro h;have h2:(l.reverse.dropWhile (· == 0))=[]:=by
   rw[dw_nil];intro x hx;simpa using h x (by simpa using hx)
  rw[h2];rfl
theorem info22:prog.info? 23=some ((prog.info? 23).getD default):=by kernel_rfl
theorem cells22:prog.cellsOf 23=1:=by kernel_rfl
theorem run_eq4(a0 a1 a2 a3 b0 b1 b2 b3:Int)(w:World) :
  (Op.equalIn 10000 57 (I4 a0 a1 a2 a3) (I4 b0 b1 b2 b3)).run prog w=.ok (a0 == b0&&(a1 == b1&&(a2 == b2&&a3 == b3))) w:=by
 rw[run_equalIn_array w 9999 _ _ underlying57 info22,cells22,show List.range 4=[0,1,2,3]from rfl];simp[Op.eqItems,part,isAgg,run_underlying underlying23,run_equalIn_int w 9998 23 .u64 .u64 _ _ underlying23];by_cases h0:a0=b0<;>by_cases h1:a1=b1<;>by_cases h2:a2=b2<;>by_cases h3:a3=b3<;>simp[*]
theorem parts_inj(n m:Nat)(hn:n<W)(hm:m<W)(h0:l0 n=l0 m)(h1:l1 n=l1 m)(h2:l2 n=l2 m)(h3:l3 n=l3 m):n=m:=by
 rw[← qq n hn,← qq m hm,h0,h1,h2,h3]
theorem run_eqU(n m:Nat)(hn:n<W)(hm:m<W)(w:World) :
  (Op.equalIn 10000 57 (U n) (U m)).run prog w=.ok (decide (n=m)) w:=by
 refine(run_eq4 (l0 n) (l1 n) (l2 n) (l3 n) (l0 m) (l1 m) (l2 m) (l3 m) w).trans ?_
 congr 1
 rw[Bool.eq_iff_iff];simp only[Bool.and_eq_true,beq_iff_eq,decide_eq_true_eq];constructor
 ·rintro⟨h0,h1,h2,h3⟩;exact parts_inj n m hn hm (by omega) (by omega) (by omega) (by omega)
 ·rintro rfl;exact⟨rfl,rfl,rfl,rfl⟩
theorem run_eqU_same(n:Nat)(w:World):(Op.equalIn 10000 57 (U n) (U n)).run prog w=.ok true w:=by
 refine(run_eq4 (l0 n) (l1 n) (l2 n) (l3 n) (l0 n) (l1 n) (l2 n) (l3 n) w).trans ?_;simp
theorem nm_lt(l:List UInt8)(h:l.length≤32):nm l<W:=by
 have:=rdN_lt ⟨l.toArray⟩ l.length;rw[W_pow];exact Nat.lt_of_lt_of_le this (Nat.pow_le_pow_right (by decide) (by omega))
theorem nm_wb(n:Nat)(h:n<W):nm (wb n)=n:=by
 have e:(⟨(wb n).toArray⟩:ByteArray)=vd n:=by simp
 unfold nm;rw[e,zx];have:=rd_back n h;rw[vy]at this;exact this
theorem count_ok{g:Nat}{S:List UInt8}{p most:Nat}{w:World}(hr:zb w g #[str S,Z p])(hS:S.length<1000000000000)(hp:p+32≤S.length)(hm:most<1000000000)(hn:nm ((S.drop p).take 32)≤most) :
  Calls prog 103 #[ye g,Z most] w fun e w'=>e=.returned (Z (nm ((S.drop p).take 32)))∧zb w' g #[str S,Z (p+32:Nat)]∧zi (fun k=>k≠g) w w':=by
 have hlt:=hr.lt;have hl32:((S.drop p).take 32).length≤32:=by rw[List.length_take];omega
 have hW:most<W:=Nat.lt_trans hm (by decide);have hM:nm ((S.drop p).take 32)<M:=Nat.lt_trans (Nat.lt_of_le_of_lt hn hm) (by decide);have hl0:l0 (nm ((S.drop p).take 32))=nm ((S.drop p).take 32):=by unfold l0;exact Nat.mod_eq_of_lt hM
 refine inG (J:=RO w g 5 1 (.slice none 0 0) 0 []) (F:=ROF w g (.slice none 0 0)) [Z most] func103 (RO.start _ _ _ _) hr RO.not fun a I=>?_;refine goQ [] (RO.rs _ _ _ _ _ _ _) I fun β a w0 I hb=>?_;have hb0:β 0=g:=agr hb 0 rfl;refine zb1 [Z (32:Nat)] func70 #[str S,Z p] #[str S,Z (p+32:Nat)] I hb0 hlt (zaw (I.rowG 0 hb0 (r:=#[str S,Z p])) hS (by omega) hp) fun w1 I=>?_;refine goQ [kC func100 (vv _ hl32)] (RO.rs _ _ _ _ _ _ _) I fun β2 a w2 I hb2=>?_;have hb20:β2 0=g:=agr hb2 0 hb0;have hcmp:cmpN (nm ((S.drop p).take 32)) most≤0:=by
  unfold cmpN;split
  ·omega
  ·split
   ·omega
   ·omega
 refine dwQ 6 [kC func84 (zap most (by omega)),kC func137 (cmp_any (nm ((S.drop p).take 32)) most (nm_lt _ hl32) hW),bO .leq 3 (ve (x:=cmpN (nm ((S.drop p).take 32)) most) (y:=0) (b:=true) (by simpa using hcmp)),kC func41 za8] (RO.rs _ _ _ _ _ _ _) zd.post I fun a w3 I=>?_;refine goQ [vO 23 3 (p:=B (l0 (nm ((S.drop p).take 32)))) (v:=Z (nm ((S.drop p).take 32))) (by intro w;rw[hl0];have:=wz (n:=(nm ((S.drop p).take 32):Int)) (by omega) (by omega);simp[go_sem,this])] (RO.rs _ _ _ _ _ _ _) I fun β4 a w4 I hb4=>?_;have hb40:β4 0=g:=agr hb4 0 hb20
 exact zh I ⟨rfl,I.rowG 0 hb40 (r:=#[str S,Z (p+32:Nat)]),I.hJ.gr⟩
abbrev pad (n:Nat):Nat:=(32-n%32)%32
theorem tail_ok{g:Nat}{S:List UInt8}{p n:Nat}{w:World}(hr:zb w g #[str S,Z p])(hS:S.length<1000000000000)(hp:p+32≤S.length)(hn:nm ((S.drop p).take 32)=n)(hn2:n≤16384)(hf:p+32+n+pad n≤S.length)(hz:∀ b∈(S.drop (p+32+n)).take (pad n),b=0) :
  Calls prog 101 #[ye g] w fun e w'=>e=.returned (str ((S.drop (p+32)).take n))∧zb w' g #[str S,Z (p+32+n+pad n:Nat)]∧zi (fun k=>k≠g) w w':=by
 have hlt:=hr.lt;have hpl:pad n≤32:=by unfold pad;omega
 refine inG (J:=RO w g 5 1 (.slice none 0 0) 0 []) (F:=ROF w g (.slice none 0 0)) [] func101 (RO.start _ _ _ _) hr RO.not fun a I=>?_;refine goQ [] (RO.rs _ _ _ _ _ _ _) I fun β a w0 I hb=>?_;have hb0:β 0=g:=agr hb 0 rfl;have h1:=count_ok (most:=16384) (I.rowG 0 hb0 (r:=#[str S,Z p])) hS hp (by decide) (by omega);rw[hn]at h1;refine zb1 [Z (16384:Nat)] func103 #[str S,Z p] #[str S,Z (p+32:Nat)] I hb0 hlt h1 fun w1 I=>?_;refine goQ [] (RO.rs _ _ _ _ _ _ _) I fun β2 a w2 I hb2=>?_;have hb20:β2 0=g:=agr hb2 0 hb0
 refine zb1 [Z n] func70 #[str S,Z (p+32:Nat)] #[str S,Z (p+32+n:Nat)] I hb20 hlt (zaw (I.rowG 0 hb20 (r:=#[str S,Z (p+32:Nat)])) hS (by omega) (by omega)) fun w3 I=>?_;refine goQ [kC func122 (zcv n (by omega))] (RO.rs _ _ _ _ _ _ _) I fun β4 a w4 I hb4=>?_;have hb40:β4 0=g:=agr hb4 0 hb20;refine zb1 [Z (pad n:Nat)] func70 #[str S,Z (p+32+n:Nat)] #[str S,Z (p+32+n+pad n:Nat)] I hb40 hlt (zaw (I.rowG 0 hb40 (r:=#[str S,Z (p+32+n:Nat)])) hS (by omega) (by omega)) fun w5 I=>?_
 refine goQ [kC func135 (trim_any ((S.drop (p+32+n)).take (pad n)) (by rw[List.length_take];omega)),bO .eql 9 (yt (a:=trm ((S.drop (p+32+n)).take (pad n))) (b:=[]) (q:=true) (by simpa using(trm_nil _).2 hz)),kC func41 za8] (RO.rs _ _ _ _ _ _ _) I fun β6 a w6 I hb6=>?_;have hb60:β6 0=g:=agr hb6 0 hb40;exact zh I ⟨rfl,I.rowG 0 hb60 (r:=#[str S,Z (p+32+n+pad n:Nat)]),I.hJ.gr⟩
abbrev term7 (k:Int) (u:Nat) (s:List UInt8) (lv:Value):Value:=.agg #[Z k,B (l0 u),B (l1 u),B (l2 u),B (l3 u),str s,lv]
theorem bd_num(n:Nat)(w:World):(Instr.build 59 (([1]:List Nat).zip [U n]).toArray).run prog w=.ok (term7 0 n [] (.slice none 0 0)) w:=by
 kernel_rfl
theorem bd_txt(s:List UInt8)(w:World):(Instr.build 59 (([0,2]:List Nat).zip [Z 1,str s]).toArray).run prog w=.ok (term7 1 0 s (.slice none 0 0)) w:=by
 kernel_rfl
abbrev shp (k:Int):Value:=.agg #[Z k,.bool false,.slice none 0 0]
theorem km{t e sz by_:Nat}{z:Value}{i:TypeInfo}(ht:prog.underlying t=some (.slice e))(hi:prog.info? e=some i)(hz:i.zero=some z)(hs:i.size=sz)(hby:i.bytes=by_)(hzs:z.cells.size=sz)(hsz:0<sz)(hb1:by_≤1000){w:World}{b:Nat}{v:Value}{n:Nat}{xs:List Value}(h:w.ownsRow b e sz v n xs)(hb:b≤w.heap.size)(a:Addr)(news:List Value)(hl:news.length=1*sz)(hnews:∀ j u,news[j]? = some u→w.cell? (a.add j)=some u)(h1:∀ u∈news,u.oneCell'=true)(hn:n+1≤1000000000) :
  ∃ v' w',(Builtin.append_ #[t,t] t #[v,.slice (some a) 1 1]).run prog w=.ok v' w'∧w'.ownsRow b e sz v' (n+1) (xs++news)∧Grw v v' w w':=by
 have hm:n+1≤maxLen:=by simp only[maxLen];omega
 have hbb:(n+1)*by_≤140737488355328:=Nat.le_trans (Nat.mul_le_mul hn hb1) (by decide);obtain⟨v',w',hr,ho,hg,_⟩:=run_append_own (P:=prog) w b t t e i z sz by_ ht hi hz hs hby hzs hsz v n xs h a 1 1 news hl hnews h1 hm hbb hb;refine⟨v',w',hr,ho,hg,?_⟩;rcases h.2 with⟨rfl,rfl⟩|⟨g,cap,cur,rfl,hbg,hgc,hnc,hcm,hcs,htake⟩
 ·have hr2:=run_append_nil (P:=prog) w t t e i z ht hi hz a 1 1 news (by rw[hs];exact hl) hnews (by omega) (by omega) (by rw[hby];simp only[Nat.zero_add,Nat.one_mul]at hbb ⊢;omega);rw[hr2]at hr;cases hr;intro k hk;simp only[Value.ownBlock,Option.some.injEq]at hk;exact .inr (by omega)
 ·by_cases hroom:n+1≤cap
  ·have hfit:n*i.size+news.length≤cur.size:=by rw[hl,hcs,hs,← Nat.add_mul];exact Nat.mul_le_mul_right _ hroom
   have hr2:=run_append_room (P:=prog) w t t e i ht hi g n cap cur hgc a 1 1 news (by rw[hs];exact hl) hnews h1 hroom hfit;rw[hr2]at hr;cases hr;intro k hk;exact .inl hk
  ·have hr2:=run_append_grow (P:=prog) w t t e i z ht hi hz ⟨g,0,none⟩ n cap xs (by rw[hs];exact h.1) (h.cells (g:=g) rfl) a 1 1 news (by rw[hs];exact hl) hnews (by omega) (by omega) (by rw[hby];exact growslice_fits (by omega) hbb);rw[hr2]at hr;cases hr;intro k hk;simp only[Value.ownBlock,Option.some.injEq]at hk;exact .inr (by omega)
theorem info_of{t:Nat}{z:Value}{s b:Nat}(h:(prog.info? t).map (fun i=>(i.zero,i.size,i.bytes))=some (some z,s,b)):∃ i,prog.info? t=some i∧i.zero=some z∧i.size=s∧i.bytes=b:=by
 cases hq:prog.info? t with
 | none=>rw[hq]at h;simp at h
 | some i=>rw[hq]at h;simp at h;exact⟨i,rfl,h.1,h.2.1,h.2.2⟩
theorem hI41:∃ i,prog.info? 59=some i∧i.zero=some (term7 0 0 [] (.slice none 0 0))∧i.size=7∧i.bytes=80:=info_of (by kernel_rfl)
theorem hI71:∃ i,prog.info? 121=some i∧i.zero=some (shp 0)∧i.size=3∧i.bytes=40:=info_of (by kernel_rfl)
theorem zaa(c0 c1 c2 c3 c4 c5 c6:Value)(w:World):(Instr.buildSlice 48 1 #[(0,.agg #[c0,c1,c2,c3,c4,c5,c6])]).run prog w=.ok (.slice (some ⟨w.heap.size,0,none⟩) 1 1) (w.alloc (.cells #[c0,c1,c2,c3,c4,c5,c6] 59)):=by
 simp[go_sem]
theorem bs_shape(c0 c1 c2:Value)(w:World):(Instr.buildSlice 81 1 #[(0,.agg #[c0,c1,c2])]).run prog w=.ok (.slice (some ⟨w.heap.size,0,none⟩) 1 1) (w.alloc (.cells #[c0,c1,c2] 121)):=by
 simp[go_sem]
theorem xu(w:World)(cs:Array Value)(t:TypeId):∀ j u,cs.toList[j]? = some u→(w.alloc (.cells cs t)).cell? ((⟨w.heap.size,0,none⟩:Addr).add j)=some u:=by
 intro j u h;have hr:zb (w.alloc (.cells cs t)) w.heap.size cs:=zb.last rfl;rw[xz,Nat.zero_add,hr.cell];simpa using h
theorem RO.grown{wE:World}{g e sz:Nat}{v v':Value}{n n':Nat}{xs xs':List Value}{w w':World}(h:RO wE g e sz v n xs w)(ho:w'.ownsRow wE.heap.size e sz v' n' xs')(hg:Grw v v' w w'):RO wE g e sz v' n' xs' w':=
 ⟨⟨hg.gr.os.trans h.gr.os,hg.gr.tape.trans h.gr.tape,hg.gr.output.trans h.gr.output,Nat.le_trans h.gr.size hg.gr.size,fun k hk hn=>(hg.gr.block k (Nat.lt_of_lt_of_le hk h.gr.size) fun e=>by have:=(h.own.lt k e.symm).1;omega).trans (h.gr.block k hk hn)⟩,ho⟩
theorem SI.alloc{J:World→Prop}{F:Nat→Prop}{ds:List Deferred}{β:Nat→Nat}{c:Cf}{a:Act}{w:World}(I:SI J F ds β c a w)(R:yw J F)(o:Obj)(r:Value):SI J F ds β (xa c r) (a.put (yu c) r) (w.alloc o):=
 I.moved (zi.of_below (yh w o)) (R.loc w _ I.hJ (zi.of_below (yh w o))) (fun _ _ h=>h) r
abbrev rrK:List Nat:=[0,1,5,6,7,19,20,21]
abbrev rrV (wv hd out:Value) (p0 len i:Nat):Vs:=frm 45 [(0,Sum.inr (0,0)),(1,Sum.inl wv),(5,Sum.inl (Z p0)),(6,Sum.inl hd),(7,Sum.inl out),(19,Sum.inl wv),(20,Sum.inl (Z len)),(21,Sum.inl (Z i))]
abbrev hdW (S:List UInt8) (p0 n:Nat):List UInt8:=(S.drop p0).take (n*32)
end Go.Proofs.YtdeompgdhaomgaaGreatDoor
