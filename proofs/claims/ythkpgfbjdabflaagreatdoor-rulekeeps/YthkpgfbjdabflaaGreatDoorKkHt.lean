/- Laid one behind the other: Ht, Hd. -/
import Derived.Test.YthkpgfbjdabflaaGreatDoorKkHn
namespace Go.Proofs.YthkpgfbjdabflaaGreatDoor
open Go.RowKit Tryz
set_option linter.unusedVariables false
set_option maxRecDepth 100000
set_option maxHeartbeats 4000000
def lf:Nat→Nat
 | 0=>1
 | n+1=>if 255<lf n*2 then(lf n*2) ^^^ 369 else lf n*2
def mw (i:Nat):Nat→Nat
 | 0=>0
 | j+1=>if lf (7*i+j)%2=1 then mw i j ||| 2^(2^j-1)else mw i j
structure KM (h:Nat→Nat) (i j l:Nat):Prop where
 hv:∀ q,q<24→h q=if q<i then mw q 7 else if q=i then mw i j else 0
 hl:l=lf (7*i+j)
theorem KM.on{h:Nat→Nat}{i j l l':Nat}(s:KM h i j l)(hi:i<24)(h1:l%2=1)(h2:l'=lf (7*i+(j+1))):KM (upd h i (h i ||| 2^(2^j-1))) i (j+1) l' where
 hv q hq:=by
  rw[km];by_cases e:q=i
  ·rw[if_pos e,if_neg (by omega),if_pos e,s.hv i hi,if_neg (by omega),if_pos rfl,mw,← s.hl,if_pos h1]
  ·rw[if_neg e,s.hv q hq,if_neg e,if_neg e]
 hl:=h2
theorem KM.off{h:Nat→Nat}{i j l l':Nat}(s:KM h i j l)(h1:¬ l%2=1)(h2:l'=lf (7*i+(j+1))):KM h i (j+1) l' where
 hv q hq:=by
  have e:mw i (j+1)=mw i j:=by rw[mw,← s.hl,if_neg h1]
  rw[s.hv q hq,e]
 hl:=h2
theorem KM.next{h:Nat→Nat}{i l:Nat}(s:KM h i 7 l):KM h (i+1) 0 l where
 hv q hq:=by
  rw[s.hv q hq];by_cases e:q<i
  ·rw[if_pos e,if_pos (by omega)]
  ·by_cases e2:q=i
   ·rw[if_neg e,if_pos e2,if_pos (by omega),e2]
   ·rw[if_neg e,if_neg e2,if_neg (by omega)];by_cases e3:q=i+1
    ·rw[if_pos e3];rfl
    ·rw[if_neg e3]
 hl:=by rw[s.hl,show 7*i+7=7*(i+1)+0 by omega]
theorem Calls.v0{fn:Nat}{g:Nat→Nat}{k:IntKind}{n:Nat}{w:World}(h:Calls prog fn #[] w fun e w'=>e=.returned (.agg (ag k n g))∧Below w.heap.size w w') :
  Calls prog fn #[] w fun e w'=>(∃ c',e=.returned (.agg c')∧IsRow c' k n g)∧Below w.heap.size w w':=
 h.mono fun e w' ⟨he,hb⟩=>⟨⟨_,he,⟨rfl⟩⟩,hb⟩
structure DP (w w':World) (h:Nat→Nat) (b3 b4:Nat):Prop where
 a:zb w' w.heap.size (ag .u64 25 h)
 o:zb w' (w.heap.size+1) z25
 r:zb w' b3 (ag .i64 25 htn)
 k:zb w' b4 (ag .u64 24 ki)
 b:Below w.heap.size w w'
 l3:w.heap.size+1<b3
 l4:w.heap.size+1<b4
theorem DP.below{w w' w'':World}{h:Nat→Nat}{b3 b4:Nat}(s:DP w w' h b3 b4)(hb:Below w'.heap.size w' w''):DP w w'' h b3 b4:=
 ⟨s.a.below hb,s.o.below hb,s.r.below hb,s.k.below hb,s.b.trans (hb.mono s.b.size),s.l3,s.l4⟩
theorem DP.alloc{w w':World}{h:Nat→Nat}{b3 b4:Nat}(s:DP w w' h b3 b4)(o:Obj):DP w (w'.alloc o) h b3 b4:=
 s.below (zj (Below.refl _ _) _)
theorem DP.other{w w':World}{h:Nat→Nat}{b3 b4 g:Nat}(s:DP w w' h b3 b4){c:Array Value}(h1:w.heap.size+1<g)(h3:g≠b3)(h4:g≠b4):DP w (w'.setRow g c) h b3 b4:=
 ⟨s.a.set_other _ (by omega),s.o.set_other _ (by omega),s.r.set_other _ h3,s.k.set_other _ h4,zf s.b (by omega) _,s.l3,s.l4⟩
theorem DP.put{w w':World}{h:Nat→Nat}{b3 b4:Nat}(s:DP w w' h b3 b4)(g:Nat→Nat):DP w (w'.setRow w.heap.size (ag .u64 25 g)) g b3 b4:=
 ⟨s.a.set_same _,s.o.set_other _ (by omega),s.r.set_other _ (by have:=s.l3;omega),s.k.set_other _ (by have:=s.l4;omega),zf s.b (Nat.le_refl _) _,s.l3,s.l4⟩
theorem pl_xy:∀ x,x<5→∀ y,y<5→y+5*((2*x+3*y)%5)=pl (x+5*y):=by decide
structure RQ (f h:Nat→Nat) (x y:Nat):Prop where
 hv:∀ i,i<25→h i=if src i%5<x∨(src i%5=x∧src i/5<y)then rho (zb0 f) i else 0
theorem RQ.step{f h:Nat→Nat}{x y:Nat}(hx:x<5)(hy:y<5)(s:RQ f h x y):RQ f (upd h (y+5*((2*x+3*y)%5)) (rt (f (x+5*y) ^^^ dd f x) (htn (x+5*y)))) x (y+1) where
 hv i hi:=by
  rw[km,pl_xy x hx y hy];have key:=src_pl (x+5*y) (by omega) i hi;by_cases e:i=pl (x+5*y)
  ·have e2:=key.1 e;rw[if_pos e,if_pos (by omega)];unfold rho zb0;rw[e2,show(x+5*y)%5=x by omega]
  ·have e2:¬ src i=x+5*y:=fun h=>e (key.2 h)
   rw[if_neg e,s.hv i hi];by_cases hl:src i%5<x∨(src i%5=x∧src i/5<y)
   ·rw[if_pos hl,if_pos (by omega)]
   ·rw[if_neg hl,if_neg (by omega)]
theorem RQ.next{f h:Nat→Nat}{x:Nat}(s:RQ f h x 5):RQ f h (x+1) 0 where
 hv i hi:=by
  have:=src_lt i hi;rw[s.hv i hi];by_cases hl:src i%5<x∨(src i%5=x∧src i/5<5)
  ·rw[if_pos hl,if_pos (by omega)]
  ·rw[if_neg hl,if_neg (by omega)]
structure AC (f g h:Nat→Nat) (x y:Nat):Prop where
 hv:∀ i,i<25→h i=if i%5<x∨(i%5=x∧i/5<y)then chi g i else f i
theorem AC.step{f g h:Nat→Nat}{x y:Nat}(hx:x<5)(hy:y<5)(s:AC f g h x y):AC f g (upd h (x+5*y) (g (x+5*y) ^^^ hnt (g ((x+1)%5+5*y)) (g ((x+2)%5+5*y)))) x (y+1) where
 hv i hi:=by
  rw[km];by_cases e:i=x+5*y
  ·rw[if_pos e,if_pos (by omega)];unfold chi;rw[show n1 i=(x+1)%5+5*y by unfold n1;omega,show n2 i=(x+2)%5+5*y by unfold n2;omega,e]
  ·rw[if_neg e,s.hv i hi];by_cases hl:i%5<x∨(i%5=x∧i/5<y)
   ·rw[if_pos hl,if_pos (by omega)]
   ·rw[if_neg hl,if_neg (by omega)]
theorem AC.next{f g h:Nat→Nat}{x:Nat}(s:AC f g h x 5):AC f g h (x+1) 0 where
 hv i hi:=by
  rw[s.hv i hi];by_cases hl:i%5<x∨(i%5=x∧i/5<5)
  ·rw[if_pos hl,if_pos (by omega)]
  ·rw[if_neg hl,if_neg (by omega)]
end Go.Proofs.YthkpgfbjdabflaaGreatDoor
