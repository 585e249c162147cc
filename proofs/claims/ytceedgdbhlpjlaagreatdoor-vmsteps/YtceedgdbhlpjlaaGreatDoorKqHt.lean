/- Laid one behind the other: Ht, Hd. -/
import Derived.Test.YtceedgdbhlpjlaaGreatDoorKqHn
namespace Go.Proofs.YtceedgdbhlpjlaaGreatDoor
open Go.RowKit Tryz
set_option linter.unusedVariables false
set_option maxRecDepth 100000
set_option maxHeartbeats 4000000
def xy:Nat→Nat×Nat
 | 0=>(1,0)
 | t+1=>((xy t).2,(2*(xy t).1+3*(xy t).2)%5)
def tr:Nat→Nat→Nat
 | 0=>fun _=>0
 | t+1=>upd (tr t) ((xy t).1+5*(xy t).2) ((t+1)*(t+2)/2%64)
theorem xy_lt:∀ t,(xy t).1<5∧(xy t).2<5
 | 0=>by decide
 | t+1=>⟨(xy_lt t).2,Nat.mod_lt _ (by decide)⟩
theorem tr_tn:∀ i,i<25→tr 24 i=htn i:=by decide
theorem tri:∀ t:Nat,t<24→wrap64 (((t:Int)+1)*((t:Int)+2))=(((t+1)*(t+2):Nat):Int)∧(t+1)*(t+2)≤600:=by decide +kernel
abbrev zi25:Array Value:=#[.int .i64 0,.int .i64 0,.int .i64 0,.int .i64 0,.int .i64 0,.int .i64 0,.int .i64 0,.int .i64 0,.int .i64 0,.int .i64 0,.int .i64 0,.int .i64 0,.int .i64 0,.int .i64 0,.int .i64 0,.int .i64 0,.int .i64 0,.int .i64 0,.int .i64 0,.int .i64 0,.int .i64 0,.int .i64 0,.int .i64 0,.int .i64 0,.int .i64 0]
theorem turns_any:RT 221 #[] (.agg (ag .i64 25 htn)):=by
 intro w;obtain⟨h',hh⟩:∃ q,q=htn:=⟨_,rfl⟩
 rw[← hh];have HH:Hid _:=hh;clear hh
 go_enter func221,ntmps221
 go_wp2
 go_loopw [2,3,4] (fun x y i w'=>∃(t xn yn:Nat) (h:Nat→Nat),t≤24∧i=.int .i64 (t:Int)∧x=.int .i64 (xn:Int)∧y=.int .i64 (yn:Int)∧za w' w.heap.size zi25∧za w' (w.heap.size+1) (ag .i64 25 h)∧Below w.heap.size w w'∧(h=tr t∧xn=(xy t).1∧yn=(xy t).2)) (fun _ _ i _=>24-(intOf i).toNat)
 case atStart=>
  exact⟨0,1,0,fun _=>0,Nat.zero_le _,rfl,rfl,rfl,za.old (za.last rfl),za.last (by simp),by repeat(first | exact Below.refl _ _ | refine zg ?_ _),rfl,rfl,rfl⟩
 case round=>
  obtain⟨t,xn,yn,h,ht,rfl,rfl,rfl,r1,r2,bel,hT⟩:=hrel;have R1:Hid (za wr w.heap.size zi25):=r1;have R2:Hid (za wr (w.heap.size+1) (ag .i64 25 h)):=r2;have BL:Hid (Below w.heap.size w wr):=bel;have HT:Hid (h=tr t∧xn=(xy t).1∧yn=(xy t).2):=hT;have hx5:xn<5:=by have:=(xy_lt t).1;rw[hT.2.1];exact this
  have hy5:yn<5:=by have:=(xy_lt t).2;rw[hT.2.2];exact this
  clear hT r1 r2 bel;by_cases hlt:t<24
  ·have HJ:Hid (t<24∧xn<5∧yn<5):=⟨hlt,hx5,hy5⟩
   have hd0:(t:Int)<24:=by omega
   obtain⟨E,e600⟩:=tri t hlt;obtain⟨pp,hpp⟩:∃ q,q=(t+1)*(t+2):=⟨_,rfl⟩
   rw[← hpp]at E e600;have HP:Hid _:=hpp;have i4:(pp:Int)≤600:=by omega
   clear hpp e600;have i1:(xn:Int)+5*(yn:Int)<25:=by omega
   have i2:(xn:Int)<5:=by omega
   have i3:(yn:Int)<5:=by omega
   have HI:Hid (xn+5*yn<25):=by show xn+5*yn<25;omega
   have q1:=za.at R2.out HI.out;have q2:=za.frozen R2.out (xn+5*yn);clear hlt ht hx5 hy5
   go_wp2
   go_roundw
   case rel=>
    obtain⟨e1,e2,e3⟩:=HT.out;refine⟨t+1,yn,(2*xn+3*yn)%5,_,HJ.out.1,by go_num,rfl,by go_num,?_,?_,?_,rfl,?_,?_⟩
    ·rw[za.setCell R2.out];exact R1.out.set_other _ (by omega)
    ·rw[za.setCell R2.out,show((pp:Int)/2%64)=((pp/2%64:Nat):Int) by omega,zw,e1,e2,e3,HP.out];exact R2.out.set_same _
    ·rw[za.setCell R2.out];exact zd BL.out (by omega) _
    ·rw[e3];rfl
    ·rw[e2,e3];rfl
   case measure=>simp[intOf];have:=HJ.out.1;omega
  ·have hjn:t=24:=by omega
   subst hjn;have e:ag .i64 25 h=ag .i64 25 htn:=qh _ _ fun i hi=>by rw[HT.out.1];exact tr_tn i hi
   have R4:Hid (za wr (w.heap.size+1) (ag .i64 25 h')):=by have:=R2.out;rw[e,← HH.out]at this;exact this
   clear HT R2 e hlt ht
   go_upto_region 11 with fail
   refine wp_region_lit ?_;refine yu rfl 152 (.tmp 1) rfl (w.heap.size+1) rfl .i64 25 h' R4.out underlying152 (by kernel_rfl) ?_;intro v hv;have hsz:=hv.size;have hsc:=zn (P:=prog) hv (g:=w.heap.size) 152 (by kernel_rfl) (yc.row R1.out (by rfl));clear hv
   go_wp2
   exact bodyPost_ret (v:=.agg (ag .i64 25 h')) (ye (p:=0) (ty:=152) rfl (g:=w.heap.size) rfl (za.set_same R1.out (ag .i64 25 h')) (zo _ _ _) underlying152 (by kernel_rfl)) rfl ⟨rfl,zd BL.out (Nat.le_refl _) _⟩
def lf:Nat→Nat
 | 0=>1
 | n+1=>if 255<lf n*2 then(lf n*2) ^^^ 369 else lf n*2
def mw (i:Nat):Nat→Nat
 | 0=>0
 | j+1=>if lf (7*i+j)%2=1 then mw i j ||| 2^(2^j-1)else mw i j
theorem lf_lt:∀ n,n<169→lf n<256:=by decide +kernel
theorem mw_lt:∀ i,i<24→∀ j,j<8→mw i j<M:=by decide +kernel
theorem mw_ki:∀ i,i<24→mw i 7=ki i:=by decide +kernel
theorem xor369:∀ l:Nat,l<256→bits .xor .i64 ((l:Int)*2) 369=(((l*2) ^^^ 369:Nat):Int):=by decide +kernel
structure KM (h:Nat→Nat) (i j l:Nat):Prop where
 hv:∀ q,q<24→h q=if q<i then mw q 7 else if q=i then mw i j else 0
 hl:l=lf (7*i+j)
theorem KM.on{h:Nat→Nat}{i j l l':Nat}(s:KM h i j l)(hi:i<24)(h1:l%2=1)(h2:l'=lf (7*i+(j+1))):KM (upd h i (h i ||| 2^(2^j-1))) i (j+1) l' where
 hv q hq:=by
  rw[vw];by_cases e:q=i
  ·rw[if_pos e,if_neg (by omega),if_pos e,s.hv i hi,if_neg (by omega),if_pos rfl,mw,← s.hl,if_pos h1]
  ·rw[if_neg e,s.hv q hq,if_neg e,if_neg e]
 hl:=h2
theorem KM.off{h:Nat→Nat}{i j l l':Nat}(s:KM h i j l)(h1:¬ l%2=1)(h2:l'=lf (7*i+(j+1))):KM h i (j+1) l' where
 hv q hq:=by
  have e:mw i (j+1)=mw i j:=by rw[mw,← s.hl,if_neg h1]
  rw[s.hv q hq,e]
 hl:=h2
theorem KM.next{h:Nat→Nat}{i l:Nat}(s:KM h i 7 l):KM h (i+1) 0 l where
 hv q hq:=by
  rw[s.hv q hq];by_cases e:q<i
  ·rw[if_pos e,if_pos (by omega)]
  ·by_cases e2:q=i
   ·rw[if_neg e,if_pos e2,if_pos (by omega),e2]
   ·rw[if_neg e,if_neg e2,if_neg (by omega)];by_cases e3:q=i+1
    ·rw[if_pos e3];rfl
    ·rw[if_neg e3]
 hl:=by rw[s.hl,show 7*i+7=7*(i+1)+0 by omega]
abbrev z24:Array Value:=#[.int .u64 0,.int .u64 0,.int .u64 0,.int .u64 0,.int .u64 0,.int .u64 0,.int .u64 0,.int .u64 0,.int .u64 0,.int .u64 0,.int .u64 0,.int .u64 0,.int .u64 0,.int .u64 0,.int .u64 0,.int .u64 0,.int .u64 0,.int .u64 0,.int .u64 0,.int .u64 0,.int .u64 0,.int .u64 0,.int .u64 0,.int .u64 0]
theorem marks_any:RT 222 #[] (.agg (ag .u64 24 ki)):=by
 intro w;obtain⟨h',hh⟩:∃ q,q=ki:=⟨_,rfl⟩
 rw[← hh];have HH:Hid _:=hh;clear hh;have S:Hid (KM (fun _=>0) 0 0 1):=⟨fun q _=>by simp[mw],rfl⟩
 go_enter func222,ntmps222
 go_wp2
 go_loopw [2,3] (fun x y w'=>∃(i l:Nat) (h:Nat→Nat),i≤24∧x=.int .i64 (l:Int)∧y=.int .i64 (i:Int)∧za w' w.heap.size z24∧za w' (w.heap.size+1) (ag .u64 24 h)∧Below w.heap.size w w'∧KM h i 0 l) (fun _ i _=>24-(intOf i).toNat)
 case atStart=>
  exact⟨0,1,fun _=>0,Nat.zero_le _,rfl,rfl,za.old (za.last rfl),za.last (by simp),by repeat(first | exact Below.refl _ _ | refine zg ?_ _),S.out⟩
 case round=>
  obtain⟨i,l,h,hi,rfl,rfl,r1,r2,bel,hT⟩:=hrel;have R1:Hid (za wr w.heap.size z24):=r1;have R2:Hid (za wr (w.heap.size+1) (ag .u64 24 h)):=r2;have BL:Hid (Below w.heap.size w wr):=bel;have HT:Hid (KM h i 0 l):=hT;clear hT r1 r2 bel S;by_cases hlt:i<24
  ·have HI:Hid (i<24):=hlt;have hd0:(i:Int)<24:=by omega
   clear hlt hi
   go_wp2
   go_loopw [2,4] (fun x y w'=>∃(j l:Nat) (h:Nat→Nat),j≤7∧x=.int .i64 (l:Int)∧y=.int .i64 (j:Int)∧za w' w.heap.size z24∧za w' (w.heap.size+1) (ag .u64 24 h)∧Below w.heap.size w w'∧KM h i j l) (fun _ i _=>7-(intOf i).toNat)
   case atStart=>
    exact⟨0,l,h,Nat.zero_le _,rfl,rfl,R1.out,R2.out,BL.out,HT.out⟩
   case round=>
    clear R1 R2 BL HT;obtain⟨j,l,h,hj,rfl,rfl,r1,r2,bel,hT⟩:=hrel;have R1:Hid (za wr w.heap.size z24):=r1;have R2:Hid (za wr (w.heap.size+1) (ag .u64 24 h)):=r2;have BL:Hid (Below w.heap.size w wr):=bel;have HT:Hid (KM h i j l):=hT;clear hT r1 r2 bel;by_cases hlt:j<7
    ·have l256:l<256:=by have:=HI.out;rw[HT.out.hl];exact lf_lt _ (by omega)
     have q1:=za.at R2.out HI.out;have q2:=za.frozen R2.out i;have E3:Hid _:=xor369 l l256;have lj:(l:Int)<256:=by omega
     have MM:Hid (h i<M):=by
      have:=mw_lt i HI.out j (by omega);rw[show mw i j=h i by rw[HT.out.hv i HI.out,if_neg (by omega),if_pos rfl]]at this;exact this
     have fin:∀ l',l'=(if 255<l*2 then(l*2) ^^^ 369 else l*2)→l'=lf (7*i+(j+1)):=by
      intro l' e;rw[e,HT.out.hl];rfl
     have FIN:Hid _:=fin;clear fin l256 hj;have hcase:j=0∨j=1∨j=2∨j=3∨j=4∨j=5∨j=6:=by omega
     clear hlt;by_cases hb:l%2=1
     ·have hb1:(l:Int)%2=1:=by omega
      have HB:Hid (l%2=1):=hb;clear hb;by_cases ho:255<l*2
      ·have ho1:(255:Int)<(l:Int)*2:=by omega
       have HO:Hid (255<l*2):=ho;clear ho;rcases hcase with rfl|rfl|rfl|rfl|rfl|rfl|rfl
       ·go_wp2
        rw[E3.out]
        go_roundw
        case rel=>
         refine⟨1,_,_,by decide,rfl,rfl,?_,?_,?_,HT.out.on HI.out HB.out (FIN.out _ (by rw[if_pos HO.out]))⟩
         ·rw[za.setCell R2.out];exact R1.out.set_other _ (by omega)
         ·rw[za.setCell R2.out];have eo:=ym (h i) (2^(2^0-1)) MM.out (by decide);have ez:=zw .u64 24 h i (h i ||| 2^(2^0-1));rw[← eo]at ez;rw[← ez];exact R2.out.set_same _
         ·rw[za.setCell R2.out];exact zd BL.out (by omega) _
        case measure=>simp[intOf]
       ·go_wp2
        rw[E3.out]
        go_roundw
        case rel=>
         refine⟨2,_,_,by decide,rfl,rfl,?_,?_,?_,HT.out.on HI.out HB.out (FIN.out _ (by rw[if_pos HO.out]))⟩
         ·rw[za.setCell R2.out];exact R1.out.set_other _ (by omega)
         ·rw[za.setCell R2.out];have eo:=ym (h i) (2^(2^1-1)) MM.out (by decide);have ez:=zw .u64 24 h i (h i ||| 2^(2^1-1));rw[← eo]at ez;rw[← ez];exact R2.out.set_same _
         ·rw[za.setCell R2.out];exact zd BL.out (by omega) _
        case measure=>simp[intOf]
       ·go_wp2
        rw[E3.out]
        go_roundw
        case rel=>
         refine⟨3,_,_,by decide,rfl,rfl,?_,?_,?_,HT.out.on HI.out HB.out (FIN.out _ (by rw[if_pos HO.out]))⟩
         ·rw[za.setCell R2.out];exact R1.out.set_other _ (by omega)
         ·rw[za.setCell R2.out];have eo:=ym (h i) (2^(2^2-1)) MM.out (by decide);have ez:=zw .u64 24 h i (h i ||| 2^(2^2-1));rw[← eo]at ez;rw[← ez];exact R2.out.set_same _
         ·rw[za.setCell R2.out];exact zd BL.out (by omega) _
        case measure=>simp[intOf]
       ·go_wp2
        rw[E3.out]
        go_roundw
        case rel=>
         refine⟨4,_,_,by decide,rfl,rfl,?_,?_,?_,HT.out.on HI.out HB.out (FIN.out _ (by rw[if_pos HO.out]))⟩
         ·rw[za.setCell R2.out];exact R1.out.set_other _ (by omega)
         ·rw[za.setCell R2.out];have eo:=ym (h i) (2^(2^3-1)) MM.out (by decide);have ez:=zw .u64 24 h i (h i ||| 2^(2^3-1));rw[← eo]at ez;rw[← ez];exact R2.out.set_same _
         ·rw[za.setCell R2.out];exact zd BL.out (by omega) _
        case measure=>simp[intOf]
       ·go_wp2
        rw[E3.out]
        go_roundw
        case rel=>
         refine⟨5,_,_,by decide,rfl,rfl,?_,?_,?_,HT.out.on HI.out HB.out (FIN.out _ (by rw[if_pos HO.out]))⟩
         ·rw[za.setCell R2.out];exact R1.out.set_other _ (by omega)
         ·rw[za.setCell R2.out];have eo:=ym (h i) (2^(2^4-1)) MM.out (by decide);have ez:=zw .u64 24 h i (h i ||| 2^(2^4-1));rw[← eo]at ez;rw[← ez];exact R2.out.set_same _
         ·rw[za.setCell R2.out];exact zd BL.out (by omega) _
        case measure=>simp[intOf]
       ·go_wp2
        rw[E3.out]
        go_roundw
        case rel=>
         refine⟨6,_,_,by decide,rfl,rfl,?_,?_,?_,HT.out.on HI.out HB.out (FIN.out _ (by rw[if_pos HO.out]))⟩
         ·rw[za.setCell R2.out];exact R1.out.set_other _ (by omega)
         ·rw[za.setCell R2.out];have eo:=ym (h i) (2^(2^5-1)) MM.out (by decide);have ez:=zw .u64 24 h i (h i ||| 2^(2^5-1));rw[← eo]at ez;rw[← ez];exact R2.out.set_same _
         ·rw[za.setCell R2.out];exact zd BL.out (by omega) _
        case measure=>simp[intOf]
       ·go_wp2
        rw[E3.out]
        go_roundw
        case rel=>
         refine⟨7,_,_,by decide,rfl,rfl,?_,?_,?_,HT.out.on HI.out HB.out (FIN.out _ (by rw[if_pos HO.out]))⟩
         ·rw[za.setCell R2.out];exact R1.out.set_other _ (by omega)
         ·rw[za.setCell R2.out];have eo:=ym (h i) (2^(2^6-1)) MM.out (by decide);have ez:=zw .u64 24 h i (h i ||| 2^(2^6-1));rw[← eo]at ez;rw[← ez];exact R2.out.set_same _
         ·rw[za.setCell R2.out];exact zd BL.out (by omega) _
        case measure=>simp[intOf]
      ·have ho1:¬ (255:Int)<(l:Int)*2:=by omega
       have HO:Hid (¬ 255<l*2):=ho;clear ho;rcases hcase with rfl|rfl|rfl|rfl|rfl|rfl|rfl
       ·go_wp2
        go_roundw
        case rel=>
         refine⟨1,_,_,by decide,(by go_num:_=Value.int .i64 ((l*2:Nat):Int)),rfl,?_,?_,?_,HT.out.on HI.out HB.out (FIN.out _ (by rw[if_neg HO.out]))⟩
         ·rw[za.setCell R2.out];exact R1.out.set_other _ (by omega)
         ·rw[za.setCell R2.out];have eo:=ym (h i) (2^(2^0-1)) MM.out (by decide);have ez:=zw .u64 24 h i (h i ||| 2^(2^0-1));rw[← eo]at ez;rw[← ez];exact R2.out.set_same _
         ·rw[za.setCell R2.out];exact zd BL.out (by omega) _
        case measure=>simp[intOf]
       ·go_wp2
        go_roundw
        case rel=>
         refine⟨2,_,_,by decide,(by go_num:_=Value.int .i64 ((l*2:Nat):Int)),rfl,?_,?_,?_,HT.out.on HI.out HB.out (FIN.out _ (by rw[if_neg HO.out]))⟩
         ·rw[za.setCell R2.out];exact R1.out.set_other _ (by omega)
         ·rw[za.setCell R2.out];have eo:=ym (h i) (2^(2^1-1)) MM.out (by decide);have ez:=zw .u64 24 h i (h i ||| 2^(2^1-1));rw[← eo]at ez;rw[← ez];exact R2.out.set_same _
         ·rw[za.setCell R2.out];exact zd BL.out (by omega) _
        case measure=>simp[intOf]
       ·go_wp2
        go_roundw
        case rel=>
         refine⟨3,_,_,by decide,(by go_num:_=Value.int .i64 ((l*2:Nat):Int)),rfl,?_,?_,?_,HT.out.on HI.out HB.out (FIN.out _ (by rw[if_neg HO.out]))⟩
         ·rw[za.setCell R2.out];exact R1.out.set_other _ (by omega)
         ·rw[za.setCell R2.out];have eo:=ym (h i) (2^(2^2-1)) MM.out (by decide);have ez:=zw .u64 24 h i (h i ||| 2^(2^2-1));rw[← eo]at ez;rw[← ez];exact R2.out.set_same _
         ·rw[za.setCell R2.out];exact zd BL.out (by omega) _
        case measure=>simp[intOf]
       ·go_wp2
        go_roundw
        case rel=>
         refine⟨4,_,_,by decide,(by go_num:_=Value.int .i64 ((l*2:Nat):Int)),rfl,?_,?_,?_,HT.out.on HI.out HB.out (FIN.out _ (by rw[if_neg HO.out]))⟩
         ·rw[za.setCell R2.out];exact R1.out.set_other _ (by omega)
         ·rw[za.setCell R2.out];have eo:=ym (h i) (2^(2^3-1)) MM.out (by decide);have ez:=zw .u64 24 h i (h i ||| 2^(2^3-1));rw[← eo]at ez;rw[← ez];exact R2.out.set_same _
         ·rw[za.setCell R2.out];exact zd BL.out (by omega) _
        case measure=>simp[intOf]
       ·go_wp2
        go_roundw
        case rel=>
         refine⟨5,_,_,by decide,(by go_num:_=Value.int .i64 ((l*2:Nat):Int)),rfl,?_,?_,?_,HT.out.on HI.out HB.out (FIN.out _ (by rw[if_neg HO.out]))⟩
         ·rw[za.setCell R2.out];exact R1.out.set_other _ (by omega)
         ·rw[za.setCell R2.out];have eo:=ym (h i) (2^(2^4-1)) MM.out (by decide);have ez:=zw .u64 24 h i (h i ||| 2^(2^4-1));rw[← eo]at ez;rw[← ez];exact R2.out.set_same _
         ·rw[za.setCell R2.out];exact zd BL.out (by omega) _
        case measure=>simp[intOf]
       ·go_wp2
        go_roundw
        case rel=>
         refine⟨6,_,_,by decide,(by go_num:_=Value.int .i64 ((l*2:Nat):Int)),rfl,?_,?_,?_,HT.out.on HI.out HB.out (FIN.out _ (by rw[if_neg HO.out]))⟩
         ·rw[za.setCell R2.out];exact R1.out.set_other _ (by omega)
         ·rw[za.setCell R2.out];have eo:=ym (h i) (2^(2^5-1)) MM.out (by decide);have ez:=zw .u64 24 h i (h i ||| 2^(2^5-1));rw[← eo]at ez;rw[← ez];exact R2.out.set_same _
         ·rw[za.setCell R2.out];exact zd BL.out (by omega) _
        case measure=>simp[intOf]
       ·go_wp2
        go_roundw
        case rel=>
         refine⟨7,_,_,by decide,(by go_num:_=Value.int .i64 ((l*2:Nat):Int)),rfl,?_,?_,?_,HT.out.on HI.out HB.out (FIN.out _ (by rw[if_neg HO.out]))⟩
         ·rw[za.setCell R2.out];exact R1.out.set_other _ (by omega)
         ·rw[za.setCell R2.out];have eo:=ym (h i) (2^(2^6-1)) MM.out (by decide);have ez:=zw .u64 24 h i (h i ||| 2^(2^6-1));rw[← eo]at ez;rw[← ez];exact R2.out.set_same _
         ·rw[za.setCell R2.out];exact zd BL.out (by omega) _
        case measure=>simp[intOf]
     ·have hb1:(l:Int)%2=0:=by omega
      have HB:Hid (¬ l%2=1):=hb;clear hb;by_cases ho:255<l*2
      ·have ho1:(255:Int)<(l:Int)*2:=by omega
       have HO:Hid (255<l*2):=ho;clear ho;rcases hcase with rfl|rfl|rfl|rfl|rfl|rfl|rfl
       ·go_wp2
        rw[E3.out]
        go_roundw
        case rel=>
         refine⟨1,_,_,by decide,rfl,rfl,?_,?_,?_,HT.out.off HB.out (FIN.out _ (by rw[if_pos HO.out]))⟩
         ·exact R1.out
         ·exact R2.out
         ·exact BL.out
        case measure=>simp[intOf]
       ·go_wp2
        rw[E3.out]
        go_roundw
        case rel=>
         refine⟨2,_,_,by decide,rfl,rfl,?_,?_,?_,HT.out.off HB.out (FIN.out _ (by rw[if_pos HO.out]))⟩
         ·exact R1.out
         ·exact R2.out
         ·exact BL.out
        case measure=>simp[intOf]
       ·go_wp2
        rw[E3.out]
        go_roundw
        case rel=>
         refine⟨3,_,_,by decide,rfl,rfl,?_,?_,?_,HT.out.off HB.out (FIN.out _ (by rw[if_pos HO.out]))⟩
         ·exact R1.out
         ·exact R2.out
         ·exact BL.out
        case measure=>simp[intOf]
       ·go_wp2
        rw[E3.out]
        go_roundw
        case rel=>
         refine⟨4,_,_,by decide,rfl,rfl,?_,?_,?_,HT.out.off HB.out (FIN.out _ (by rw[if_pos HO.out]))⟩
         ·exact R1.out
         ·exact R2.out
         ·exact BL.out
        case measure=>simp[intOf]
       ·go_wp2
        rw[E3.out]
        go_roundw
        case rel=>
         refine⟨5,_,_,by decide,rfl,rfl,?_,?_,?_,HT.out.off HB.out (FIN.out _ (by rw[if_pos HO.out]))⟩
         ·exact R1.out
         ·exact R2.out
         ·exact BL.out
        case measure=>simp[intOf]
       ·go_wp2
        rw[E3.out]
        go_roundw
        case rel=>
         refine⟨6,_,_,by decide,rfl,rfl,?_,?_,?_,HT.out.off HB.out (FIN.out _ (by rw[if_pos HO.out]))⟩
         ·exact R1.out
         ·exact R2.out
         ·exact BL.out
        case measure=>simp[intOf]
       ·go_wp2
        rw[E3.out]
        go_roundw
        case rel=>
         refine⟨7,_,_,by decide,rfl,rfl,?_,?_,?_,HT.out.off HB.out (FIN.out _ (by rw[if_pos HO.out]))⟩
         ·exact R1.out
         ·exact R2.out
         ·exact BL.out
        case measure=>simp[intOf]
      ·have ho1:¬ (255:Int)<(l:Int)*2:=by omega
       have HO:Hid (¬ 255<l*2):=ho;clear ho;rcases hcase with rfl|rfl|rfl|rfl|rfl|rfl|rfl
       ·go_wp2
        go_roundw
        case rel=>
         refine⟨1,_,_,by decide,(by go_num:_=Value.int .i64 ((l*2:Nat):Int)),rfl,?_,?_,?_,HT.out.off HB.out (FIN.out _ (by rw[if_neg HO.out]))⟩
         ·exact R1.out
         ·exact R2.out
         ·exact BL.out
        case measure=>simp[intOf]
       ·go_wp2
        go_roundw
        case rel=>
         refine⟨2,_,_,by decide,(by go_num:_=Value.int .i64 ((l*2:Nat):Int)),rfl,?_,?_,?_,HT.out.off HB.out (FIN.out _ (by rw[if_neg HO.out]))⟩
         ·exact R1.out
         ·exact R2.out
         ·exact BL.out
        case measure=>simp[intOf]
       ·go_wp2
        go_roundw
        case rel=>
         refine⟨3,_,_,by decide,(by go_num:_=Value.int .i64 ((l*2:Nat):Int)),rfl,?_,?_,?_,HT.out.off HB.out (FIN.out _ (by rw[if_neg HO.out]))⟩
         ·exact R1.out
         ·exact R2.out
         ·exact BL.out
        case measure=>simp[intOf]
       ·go_wp2
        go_roundw
        case rel=>
         refine⟨4,_,_,by decide,(by go_num:_=Value.int .i64 ((l*2:Nat):Int)),rfl,?_,?_,?_,HT.out.off HB.out (FIN.out _ (by rw[if_neg HO.out]))⟩
         ·exact R1.out
         ·exact R2.out
         ·exact BL.out
        case measure=>simp[intOf]
       ·go_wp2
        go_roundw
        case rel=>
         refine⟨5,_,_,by decide,(by go_num:_=Value.int .i64 ((l*2:Nat):Int)),rfl,?_,?_,?_,HT.out.off HB.out (FIN.out _ (by rw[if_neg HO.out]))⟩
         ·exact R1.out
         ·exact R2.out
         ·exact BL.out
        case measure=>simp[intOf]
       ·go_wp2
        go_roundw
        case rel=>
         refine⟨6,_,_,by decide,(by go_num:_=Value.int .i64 ((l*2:Nat):Int)),rfl,?_,?_,?_,HT.out.off HB.out (FIN.out _ (by rw[if_neg HO.out]))⟩
         ·exact R1.out
         ·exact R2.out
         ·exact BL.out
        case measure=>simp[intOf]
       ·go_wp2
        go_roundw
        case rel=>
         refine⟨7,_,_,by decide,(by go_num:_=Value.int .i64 ((l*2:Nat):Int)),rfl,?_,?_,?_,HT.out.off HB.out (FIN.out _ (by rw[if_neg HO.out]))⟩
         ·exact R1.out
         ·exact R2.out
         ·exact BL.out
        case measure=>simp[intOf]
    ·have hj7:j=7:=by omega
     subst hj7;clear hj hlt
     go_wp2
     go_roundw
     case rel=>
      exact⟨i+1,l,h,HI.out,rfl,by go_num,R1.out,R2.out,BL.out,HT.out.next⟩
     case measure=>simp[intOf];have:=HI.out;omega
  ·have hi24:i=24:=by omega
   subst hi24;have e:ag .u64 24 h=ag .u64 24 ki:=qh _ _ fun q hq=>by rw[HT.out.hv q hq,if_pos hq];exact mw_ki q hq
   have R4:Hid (za wr (w.heap.size+1) (ag .u64 24 h')):=by have:=R2.out;rw[e,← HH.out]at this;exact this
   clear HT R2 e hlt hi
   go_upto_region 14 with fail
   refine wp_region_lit ?_;refine yu rfl 154 (.tmp 1) rfl (w.heap.size+1) rfl .u64 24 h' R4.out underlying154 (by kernel_rfl) ?_;intro v hv;have hsz:=hv.size;have hsc:=zn (P:=prog) hv (g:=w.heap.size) 154 (by kernel_rfl) (yc.row R1.out (by rfl));clear hv
   go_wp2
   exact bodyPost_ret (v:=.agg (ag .u64 24 h')) (ye (p:=0) (ty:=154) rfl (g:=w.heap.size) rfl (za.set_same R1.out (ag .u64 24 h')) (zo _ _ _) underlying154 (by kernel_rfl)) rfl ⟨rfl,zd BL.out (Nat.le_refl _) _⟩
theorem turn_bel(x k:Nat)(hx:x<M)(hk:k<64)(w:World):Calls prog 223 #[B x,.int .i64 (k:Int)] w fun e w'=>e=.returned (B (rt x k))∧Below w.heap.size w w':=
 (turn_any x k hx hk w).mono fun e w' ⟨he,hw⟩=>⟨he,hw ▸ Below.refl _ _⟩
theorem turn_one(x:Nat)(hx:x<M)(w:World):Calls prog 223 #[B x,.int .i64 1] w fun e w'=>e=.returned (B (rt x 1))∧Below w.heap.size w w':=turn_bel x 1 hx (by decide) w
theorem Calls.v0{fn:Nat}{g:Nat→Nat}{k:IntKind}{n:Nat}{w:World}(h:Calls prog fn #[] w fun e w'=>e=.returned (.agg (ag k n g))∧Below w.heap.size w w') :
  Calls prog fn #[] w fun e w'=>(∃ c',e=.returned (.agg c')∧IsRow c' k n g)∧Below w.heap.size w w':=
 h.mono fun e w' ⟨he,hb⟩=>⟨⟨_,he,⟨rfl⟩⟩,hb⟩
structure DP (w w':World) (h:Nat→Nat) (b3 b4:Nat):Prop where
 a:za w' w.heap.size (ag .u64 25 h)
 o:za w' (w.heap.size+1) z25
 r:za w' b3 (ag .i64 25 htn)
 k:za w' b4 (ag .u64 24 ki)
 b:Below w.heap.size w w'
 l3:w.heap.size+1<b3
 l4:w.heap.size+1<b4
theorem DP.below{w w' w'':World}{h:Nat→Nat}{b3 b4:Nat}(s:DP w w' h b3 b4)(hb:Below w'.heap.size w' w''):DP w w'' h b3 b4:=
 ⟨s.a.below hb,s.o.below hb,s.r.below hb,s.k.below hb,s.b.trans (hb.mono s.b.size),s.l3,s.l4⟩
theorem DP.alloc{w w':World}{h:Nat→Nat}{b3 b4:Nat}(s:DP w w' h b3 b4)(o:Obj):DP w (w'.alloc o) h b3 b4:=
 s.below (zg (Below.refl _ _) _)
theorem DP.other{w w':World}{h:Nat→Nat}{b3 b4 g:Nat}(s:DP w w' h b3 b4){c:Array Value}(h1:w.heap.size+1<g)(h3:g≠b3)(h4:g≠b4):DP w (w'.setRow g c) h b3 b4:=
 ⟨s.a.set_other _ (by omega),s.o.set_other _ (by omega),s.r.set_other _ h3,s.k.set_other _ h4,zd s.b (by omega) _,s.l3,s.l4⟩
theorem DP.put{w w':World}{h:Nat→Nat}{b3 b4:Nat}(s:DP w w' h b3 b4)(g:Nat→Nat):DP w (w'.setRow w.heap.size (ag .u64 25 g)) g b3 b4:=
 ⟨s.a.set_same _,s.o.set_other _ (by omega),s.r.set_other _ (by have:=s.l3;omega),s.k.set_other _ (by have:=s.l4;omega),zd s.b (Nat.le_refl _) _,s.l3,s.l4⟩
theorem pl_xy:∀ x,x<5→∀ y,y<5→y+5*((2*x+3*y)%5)=pl (x+5*y):=by decide
structure RQ (f h:Nat→Nat) (x y:Nat):Prop where
 hv:∀ i,i<25→h i=if src i%5<x∨(src i%5=x∧src i/5<y)then rho (zb6 f) i else 0
theorem RQ.step{f h:Nat→Nat}{x y:Nat}(hx:x<5)(hy:y<5)(s:RQ f h x y):RQ f (upd h (y+5*((2*x+3*y)%5)) (rt (f (x+5*y) ^^^ dd f x) (htn (x+5*y)))) x (y+1) where
 hv i hi:=by
  rw[vw,pl_xy x hx y hy];have key:=src_pl (x+5*y) (by omega) i hi;by_cases e:i=pl (x+5*y)
  ·have e2:=key.1 e;rw[if_pos e,if_pos (by omega)];unfold rho zb6;rw[e2,show(x+5*y)%5=x by omega]
  ·have e2:¬ src i=x+5*y:=fun h=>e (key.2 h)
   rw[if_neg e,s.hv i hi];by_cases hl:src i%5<x∨(src i%5=x∧src i/5<y)
   ·rw[if_pos hl,if_pos (by omega)]
   ·rw[if_neg hl,if_neg (by omega)]
theorem RQ.next{f h:Nat→Nat}{x:Nat}(s:RQ f h x 5):RQ f h (x+1) 0 where
 hv i hi:=by
  have:=src_lt i hi;rw[s.hv i hi];by_cases hl:src i%5<x∨(src i%5=x∧src i/5<5)
  ·rw[if_pos hl,if_pos (by omega)]
  ·rw[if_neg hl,if_neg (by omega)]
structure AC (f g h:Nat→Nat) (x y:Nat):Prop where
 hv:∀ i,i<25→h i=if i%5<x∨(i%5=x∧i/5<y)then chi g i else f i
theorem AC.step{f g h:Nat→Nat}{x y:Nat}(hx:x<5)(hy:y<5)(s:AC f g h x y):AC f g (upd h (x+5*y) (g (x+5*y) ^^^ hnt (g ((x+1)%5+5*y)) (g ((x+2)%5+5*y)))) x (y+1) where
 hv i hi:=by
  rw[vw];by_cases e:i=x+5*y
  ·rw[if_pos e,if_pos (by omega)];unfold chi;rw[show n1 i=(x+1)%5+5*y by unfold n1;omega,show n2 i=(x+2)%5+5*y by unfold n2;omega,e]
  ·rw[if_neg e,s.hv i hi];by_cases hl:i%5<x∨(i%5=x∧i/5<y)
   ·rw[if_pos hl,if_pos (by omega)]
   ·rw[if_neg hl,if_neg (by omega)]
theorem AC.next{f g h:Nat→Nat}{x:Nat}(s:AC f g h x 5):AC f g h (x+1) 0 where
 hv i hi:=by
  rw[s.hv i hi];by_cases hl:i%5<x∨(i%5=x∧i/5<5)
  ·rw[if_pos hl,if_pos (by omega)]
  ·rw[if_neg hl,if_neg (by omega)]
theorem not_int(a n c:Nat)(ha:a<M)(hn:n<M)(hc:c<M):bits .xor .u64 (a:Int) (bits .and .u64 (18446744073709551615-(n:Int)) (c:Int))=((a ^^^ hnt n c:Nat):Int):=by
 have e:(18446744073709551615-(n:Int))=((M-1-n:Nat):Int):=by unfold M at *;omega
 rw[e,vt _ _ (by unfold M at *;omega) hc,Nat.and_comm];exact xd a (hnt n c) ha (nt_lt hc)
theorem rpermute_any(f:Nat→Nat)(hf:P25 f):RT 168 #[A25 f] (A25 (prm f 24)):=by
 intro w;obtain⟨h',hh⟩:∃ q,q=prm f 24:=⟨_,rfl⟩
 rw[← hh];have HH:Hid _:=hh;clear hh;have G:Hid (P25 f):=hf;clear hf
 go_enter func168,ntmps168
 go_upto_region 1 with fail
 refine yw _ ?_;intro w0 hw0;have K1:Hid (za w0 w.heap.size (ag .u64 25 f)∧za w0 (w.heap.size+1) z25∧Below w.heap.size w w0∧w0.heap.size=w.heap.size+1+1):=by
  show _∧_;rw[hw0];exact⟨za.old (za.last rfl),za.last (by simp),by repeat(first|exact Below.refl _ _|refine zg ?_ _),by simp⟩
 clear hw0
 go_wp2_with fail
 refine(Calls.v0 (turns_any _)).mono ?_;rintro e w1 ⟨⟨c1,rfl,hc1⟩,hb1⟩;have C1:Hid _:=hc1;have B1:Hid (Below w0.heap.size w0 w1):=hb1;have hsz1:=hc1.size;clear hc1 hb1;have hs1:=zn (P:=prog) C1.out (g:=w1.heap.size) 152 (by kernel_rfl) (yc.last (w:=w1) (c:=zi25) (t:=152) rfl (by rfl))
 go_wp2_with fail
 refine(Calls.v0 (marks_any _)).mono ?_;rintro e w2 ⟨⟨c2,rfl,hc2⟩,hb2⟩;have hsz2:=hc2.size;have hs2:=zn (P:=prog) hc2 (g:=w2.heap.size) 154 (by kernel_rfl) (yc.last (w:=w2) (c:=z24) (t:=154) rfl (by rfl));have D2:Hid (DP w (w2.alloc (Obj.cells (ag .u64 24 ki) 154)) f w1.heap.size w2.heap.size):=by
  obtain⟨k1,k2,k3,k4⟩:=K1.out;have b1:=B1.out;have z1:=b1.size;have z2:=hb2.size;simp only[World.size_alloc]at z2;have t1:Below w0.heap.size w0 (w1.alloc (Obj.cells (ag .i64 25 htn) 152)):=zg b1 _;have t2:Below w0.heap.size w0 (w2.alloc (Obj.cells (ag .u64 24 ki) 154)):=zg (t1.trans (hb2.mono t1.size)) _;exact⟨k1.below t2,k2.below t2,za.old ((za.last rfl).below hb2),za.last rfl,k3.trans (t2.mono k3.size),by omega,by omega⟩
 have LB:Hid (w1.heap.size<w2.heap.size):=by
  have z2:=hb2.size;simp only[World.size_alloc]at z2;show w1.heap.size<w2.heap.size;omega
 clear hc2 hb2 K1 B1 C1
 go_upto_region 3 with fail
 clear hs1 hs2 hsz1 hsz2;generalize (w2.alloc (Obj.cells (ag .u64 24 ki) 154))=w3,w1.heap.size=b3,w2.heap.size=b4 at *
 go_wp2
 go_loopw [5] (fun i w'=>∃(j:Nat) (h:Nat→Nat),j≤24∧i=.int .i64 (j:Int)∧DP w w' h b3 b4∧h=prm f j) (fun i _=>24-(intOf i).toNat)
 case atStart=>
  exact⟨0,f,Nat.zero_le _,rfl,D2.out,rfl⟩
 case round=>
  clear D2;obtain⟨j,h,hj,rfl,dp,hT⟩:=hrel;have D:Hid (DP w wr h b3 b4):=dp;have HT:Hid (h=prm f j):=hT;clear hT dp;by_cases hlt:j<24
  ·have HJ:Hid (j<24):=hlt;have hd0:(j:Int)<24:=by omega
   have L:Hid (P25 h):=by have:=prm_lt G.out j (by omega);rw[← HT.out]at this;exact this
   clear hlt hj
   go_upto_region 7 with fail
   have DA:Hid (DP w (wr.alloc (Obj.cells z5 156)) h b3 b4∧za (wr.alloc (Obj.cells z5 156)) wr.heap.size (ag .u64 5 (fun _=>0))∧w.heap.size+1<wr.heap.size∧wr.heap.size≠b3∧wr.heap.size≠b4):=
    ⟨D.out.alloc _,za.last rfl,by have:=D.out.r.lt;have:=D.out.l3;omega,by have:=D.out.r.lt;omega,by have:=D.out.k.lt;omega⟩
   generalize (wr.alloc (Obj.cells z5 156))=w4,wr.heap.size=b6 at *;clear D
   go_wp2
   have S2:Hid (hCL h (fun _=>0) 0):=⟨fun i _=>by simp⟩
   go_loopw [7] (fun i w'=>∃(x:Nat) (hc:Nat→Nat),x≤5∧i=.int .i64 (x:Int)∧DP w w' h b3 b4∧za w' b6 (ag .u64 5 hc)∧hCL h hc x) (fun i _=>5-(intOf i).toNat)
   case atStart=>
    exact⟨0,_,Nat.zero_le _,rfl,DA.out.1,DA.out.2.1,S2.out⟩
   case round=>
    obtain⟨x,hc,hx,rfl,dp,r6,hT⟩:=hrel;have D:Hid (DP w wr h b3 b4):=dp;have R6:Hid (za wr b6 (ag .u64 5 hc)):=r6;have HC:Hid (hCL h hc x):=hT;have NB:Hid (w.heap.size+1<b6∧b6≠b3∧b6≠b4):=DA.out.2.2;clear hT dp r6 S2 DA;by_cases hlt:x<5
    ·have HX:Hid (x<5):=hlt;have i0:(x:Int)<5:=by omega
     have i1:(x:Int)+20<25:=by omega
     have d1:=cell_regrown (za.at D.out.a (show x<25 by omega));have d2:=cell_regrown (za.at D.out.a (show x+5<25 by omega));have d3:=cell_regrown (za.at D.out.a (show x+10<25 by omega));have d4:=cell_regrown (za.at D.out.a (show x+15<25 by omega));have d5:=cell_regrown (za.at D.out.a (show x+20<25 by omega));have E:Hid _:=col_int h L.out x hlt;clear hlt hx
     go_upto_region 10 with fail
     refine zh (by kernel_rfl) (by kernel_rfl) (by simp) ?_;simp only[List.dropLast]
     repeat(go_big_quiet_step (fail))
     refine wpQuiet_nil ?_;intro w5 hw';have hb:Below wr.heap.size wr w5:=by obtain⟨p,rfl⟩:=hw';exact below_regrown _ _ _
     clear hw' d1 d2 d3 d4 d5;have q1:=za.at (R6.out.below hb) HX.out;have q2:=za.frozen (R6.out.below hb) x;have HB:Hid _:=hb;clear hb;refine yj rfl rfl ?_
     go_simp
     rw[E.out]
     go_wp2
     go_roundw
     case rel=>
      have hb:=HB.out;refine⟨x+1,_,HX.out,by go_num,?_,?_,HC.out.step⟩
      ·rw[za.setCell (R6.out.below hb)];exact(D.out.below hb).other NB.out.1 NB.out.2.1 NB.out.2.2
      ·rw[za.setCell (R6.out.below hb),zw];exact(R6.out.below hb).set_same _
     case measure=>simp[intOf];have:=HX.out;omega
    ·have hx5:x=5:=by omega
     subst hx5;rw[show((5:Nat):Int)=5 from rfl];have e:ag .u64 5 hc=ag .u64 5 (col h):=qh _ _ fun i hi=>by rw[HC.out.hv i hi,if_pos hi]
     have Q6:Hid (za wr b6 (ag .u64 5 (col h))):=by have:=R6.out;rw[e]at this;exact this
     clear e R6 HC hlt hx
     go_upto_region 12 with fail
     have DB:Hid (DP w (wr.alloc (Obj.cells z25 135)) h b3 b4∧za (wr.alloc (Obj.cells z25 135)) b6 (ag .u64 5 (col h))∧za (wr.alloc (Obj.cells z25 135)) wr.heap.size (ag .u64 25 (fun _=>0))):=
      ⟨D.out.alloc _,za.old Q6.out,za.last rfl⟩
     have N8:Hid (w.heap.size+1<wr.heap.size∧wr.heap.size≠b3∧wr.heap.size≠b4∧wr.heap.size≠b6):=
      ⟨by have:=D.out.r.lt;have:=D.out.l3;omega,by have:=D.out.r.lt;omega,by have:=D.out.k.lt;omega,by have:=Q6.out.lt;omega⟩
     generalize (wr.alloc (Obj.cells z25 135))=w5,wr.heap.size=b8 at *;clear D Q6
     go_wp2
     have S3:Hid (RQ h (fun _=>0) 0 0):=⟨fun i _=>by simp⟩
     go_loopw [9] (fun i w'=>∃(x:Nat) (hb:Nat→Nat),x≤5∧i=.int .i64 (x:Int)∧DP w w' h b3 b4∧za w' b6 (ag .u64 5 (col h))∧za w' b8 (ag .u64 25 hb)∧RQ h hb x 0) (fun i _=>5-(intOf i).toNat)
     case atStart=>
      exact⟨0,_,Nat.zero_le _,rfl,DB.out.1,DB.out.2.1,DB.out.2.2,S3.out⟩
     case round=>
      clear DB S3;obtain⟨x,hb,hx,rfl,dp,r6,r8,hT⟩:=hrel;have D:Hid (DP w wr h b3 b4):=dp;have R6:Hid (za wr b6 (ag .u64 5 (col h))):=r6;have R8:Hid (za wr b8 (ag .u64 25 hb)):=r8;have HR:Hid (RQ h hb x 0):=hT;clear hT dp r6 r8;by_cases hlt:x<5
      ·have HX:Hid (x<5):=hlt;have i0:(x:Int)<5:=by omega
       have d1:=cell_regrown (za.at R6.out (show(x+4)%5<5 by omega));have d2:=cell_regrown (za.at R6.out (show(x+1)%5<5 by omega));have E:Hid _:=dd_int h L.out x;clear hlt hx
       go_upto_region 15 with fail
       refine wp_region_quiet_below (by kernel_rfl) (by kernel_rfl) ?_
       repeat(go_big_quiet_step (fail))
       go_big_quiet_step ((exact Calls.regrown_of (turn_one (col h ((x+1)%5)) (col_lt L.out (by omega)) _)))
       repeat(go_big_quiet_step (fail))
       rw[E.out];refine wpQuiet_nil ?_;intro w6 hw';have hbb:Below wr.heap.size wr w6:=by obtain⟨p,rfl⟩:=hw';exact below_regrown _ _ _
       clear hw' d1 d2;have D6:Hid (DP w w6 h b3 b4):=D.out.below hbb;have Q6:Hid (za w6 b6 (ag .u64 5 (col h))):=R6.out.below hbb;have Q8:Hid (za w6 b8 (ag .u64 25 hb)):=R8.out.below hbb;clear hbb R6 R8 D;obtain⟨dx,hdx⟩:∃ q,q=dd h x:=⟨_,rfl⟩
       rw[← hdx];have HD:Hid _:=hdx;clear hdx E
       go_wp2
       go_loopw [11] (fun i w'=>∃(y:Nat) (hb:Nat→Nat),y≤5∧i=.int .i64 (y:Int)∧DP w w' h b3 b4∧za w' b6 (ag .u64 5 (col h))∧za w' b8 (ag .u64 25 hb)∧RQ h hb x y) (fun i _=>5-(intOf i).toNat)
       case atStart=>
        exact⟨0,hb,Nat.zero_le _,rfl,D6.out,Q6.out,Q8.out,HR.out⟩
       case round=>
        clear D6 Q6 Q8 HR;obtain⟨y,hb2,hy,rfl,dp,r6,r8,hT⟩:=hrel;have D:Hid (DP w wr h b3 b4):=dp;have R6:Hid (za wr b6 (ag .u64 5 (col h))):=r6;have R8:Hid (za wr b8 (ag .u64 25 hb2)):=r8;have HR:Hid (RQ h hb2 x y):=hT;clear hT dp r6 r8;by_cases hlt:y<5
        ·have HY:Hid (y<5):=hlt;have hxx:=HX.out;have i1:(y:Int)<5:=by omega
         have i2:(x:Int)+5*(y:Int)<25:=by omega
         have i3:(y:Int)+5*((2*(x:Int)+3*(y:Int))%5)<25:=by omega
         have d1:=cell_regrown (za.at D.out.a (show x+5*y<25 by omega));have d2:=cell_regrown (za.at D.out.r (show x+5*y<25 by omega));have HP:Hid (y+5*((2*x+3*y)%5)<25):=by show y+5*((2*x+3*y)%5)<25;omega
         have cc:Hid (∀ w,Calls prog 223 #[.int .u64 (bits .xor .u64 ((h (x+5*y):Nat):Int) (dx:Int)),.int .i64 ((htn (x+5*y):Nat):Int)] w fun e w'=>e=.returned (B (rt (h (x+5*y) ^^^ dx) (htn (x+5*y))))∧Below w.heap.size w w'):=by
          show ∀ w,_;intro w;have l1:=L.out (x+5*y) (by omega);have l2:dx<M:=by rw[HD.out];exact dd_lt L.out x
          rw[xd _ _ l1 l2];exact turn_bel _ _ (kj l1 l2) (htn_lt _ (by omega)) w
         clear hlt hy hxx
         go_upto_region 19 with fail
         refine zh (by kernel_rfl) (by kernel_rfl) (by simp) ?_;simp only[List.dropLast]
         repeat(go_big_quiet_step (fail))
         go_big_quiet_step ((exact Calls.regrown_of (cc.out _)))
         repeat(go_big_quiet_step (fail))
         refine wpQuiet_nil ?_;intro w7 hw';have hbb:Below wr.heap.size wr w7:=by obtain⟨p,rfl⟩:=hw';exact below_regrown _ _ _
         clear hw' d1 d2;have q1:=za.at (R8.out.below hbb) HP.out;have q2:=za.frozen (R8.out.below hbb) (y+5*((2*x+3*y)%5));have HB:Hid _:=hbb;clear hbb;refine yj rfl rfl ?_
         go_simp
         go_wp2
         go_roundw
         case rel=>
          have hbb:=HB.out;refine⟨y+1,_,HY.out,by go_num,?_,?_,?_,HR.out.step HX.out HY.out⟩
          ·rw[za.setCell (R8.out.below hbb)];exact(D.out.below hbb).other N8.out.1 N8.out.2.1 N8.out.2.2.1
          ·rw[za.setCell (R8.out.below hbb)];exact(R6.out.below hbb).set_other _ N8.out.2.2.2
          ·rw[za.setCell (R8.out.below hbb),zw,HD.out];exact(R8.out.below hbb).set_same _
         case measure=>simp[intOf];have:=HY.out;omega
        ·have hy5:y=5:=by omega
         subst hy5;clear hy hlt
         go_wp2
         go_roundw
         case rel=>
          exact⟨x+1,hb2,HX.out,by go_num,D.out,R6.out,R8.out,HR.out.next⟩
         case measure=>simp[intOf];have:=HX.out;omega
      ·have hx5:x=5:=by omega
       subst hx5;rw[show((5:Nat):Int)=5 from rfl];obtain⟨g,hg⟩:∃ q,q=rho (zb6 h):=⟨_,rfl⟩
       have e:ag .u64 25 hb=ag .u64 25 g:=qh _ _ fun i hi=>by have:=src_lt i hi;rw[HR.out.hv i hi,if_pos (by omega),hg]
       have Q8:Hid (za wr b8 (ag .u64 25 g)):=by have:=R8.out;rw[e]at this;exact this
       have LG:Hid (P25 g):=by show P25 g;rw[hg];exact rho_lt (zdc L.out)
       have HG:Hid _:=hg;clear e R8 HR hlt hx hg R6;have S5:Hid (AC h g h 0 0):=⟨fun i _=>by rw[if_neg (by omega)]⟩
       go_wp2
       go_loopw [12] (fun i w'=>∃(x:Nat) (q:Nat→Nat),x≤5∧i=.int .i64 (x:Int)∧DP w w' q b3 b4∧za w' b8 (ag .u64 25 g)∧AC h g q x 0) (fun i _=>5-(intOf i).toNat)
       case atStart=>
        exact⟨0,h,Nat.zero_le _,rfl,D.out,Q8.out,S5.out⟩
       case round=>
        clear D Q8 S5;obtain⟨x,q,hx,rfl,dp,r8,hT⟩:=hrel;have D:Hid (DP w wr q b3 b4):=dp;have R8:Hid (za wr b8 (ag .u64 25 g)):=r8;have HA:Hid (AC h g q x 0):=hT;clear hT dp r8;by_cases hlt:x<5
        ·have HX:Hid (x<5):=hlt;have i0:(x:Int)<5:=by omega
         clear hlt hx
         go_wp2
         go_loopw [13] (fun i w'=>∃(y:Nat) (q:Nat→Nat),y≤5∧i=.int .i64 (y:Int)∧DP w w' q b3 b4∧za w' b8 (ag .u64 25 g)∧AC h g q x y) (fun i _=>5-(intOf i).toNat)
         case atStart=>
          exact⟨0,q,Nat.zero_le _,rfl,D.out,R8.out,HA.out⟩
         case round=>
          clear D R8 HA;obtain⟨y,q,hy,rfl,dp,r8,hT⟩:=hrel;have D:Hid (DP w wr q b3 b4):=dp;have R8:Hid (za wr b8 (ag .u64 25 g)):=r8;have HA:Hid (AC h g q x y):=hT;clear hT dp r8;by_cases hlt:y<5
          ·have HY:Hid (y<5):=hlt;have hxx:=HX.out;have i1:(y:Int)<5:=by omega
           have i2:(x:Int)+5*(y:Int)<25:=by omega
           have i3:((x:Int)+1)%5+5*(y:Int)<25:=by omega
           have i4:((x:Int)+2)%5+5*(y:Int)<25:=by omega
           have d1:=za.at R8.out (show(x+1)%5+5*y<25 by omega);have HI:Hid (x+5*y<25):=by show x+5*y<25;omega
           have d2:=cell_regrown (za.at R8.out HI.out);have d3:=cell_regrown (za.at R8.out (show(x+2)%5+5*y<25 by omega));have E:Hid _:=not_int (g (x+5*y)) (g ((x+1)%5+5*y)) (g ((x+2)%5+5*y)) (LG.out _ (by omega)) (LG.out _ (by omega)) (LG.out _ (by omega));have i5:((g ((x+1)%5+5*y):Nat):Int)<18446744073709551616:=by have:=LG.out ((x+1)%5+5*y) (by omega);unfold M at this;omega
           clear hlt hy hxx
           go_upto_region 27 with fail
           refine zh (by kernel_rfl) (by kernel_rfl) (by simp) ?_;simp only[List.dropLast]
           repeat(go_big_quiet_step (fail))
           refine wpQuiet_nil ?_;intro w7 hw';have hbb:Below wr.heap.size wr w7:=by obtain⟨p,rfl⟩:=hw';exact below_regrown _ _ _
           clear hw' d1 d2 d3;have q1:=za.at (D.out.a.below hbb) HI.out;have q2:=za.frozen (D.out.a.below hbb) (x+5*y);have HB:Hid _:=hbb;clear hbb;refine yj rfl rfl ?_
           go_simp
           rw[E.out]
           go_wp2
           go_roundw
           case rel=>
            have hbb:=HB.out;refine⟨y+1,_,HY.out,by go_num,?_,?_,HA.out.step HX.out HY.out⟩
            ·rw[za.setCell (D.out.a.below hbb),zw];exact(D.out.below hbb).put _
            ·rw[za.setCell (D.out.a.below hbb)];exact(R8.out.below hbb).set_other _ (by have:=N8.out.1;omega)
           case measure=>simp[intOf];have:=HY.out;omega
          ·have hy5:y=5:=by omega
           subst hy5;clear hy hlt
           go_wp2
           go_roundw
           case rel=>
            exact⟨x+1,q,HX.out,by go_num,D.out,R8.out,HA.out.next⟩
           case measure=>simp[intOf];have:=HX.out;omega
        ·have hx5:x=5:=by omega
         subst hx5;obtain⟨h3,hh3⟩:∃ q,q=chi g:=⟨_,rfl⟩
         have e:ag .u64 25 q=ag .u64 25 h3:=qh _ _ fun i hi=>by rw[HA.out.hv i hi,if_pos (by omega),hh3]
         have D3:Hid (DP w wr h3 b3 b4):=by have:=D.out;exact⟨by have:=this.a;rw[e]at this;exact this,this.o,this.r,this.k,this.b,this.l3,this.l4⟩
         have L3:Hid (P25 h3):=by show P25 h3;rw[hh3];exact chi_lt LG.out
         have H3:Hid _:=hh3;clear e D HA R8 hlt hx hh3;have d1:=cell_regrown (za.at D3.out.a (show 0<25 by omega));have d2:=cell_regrown (za.at D3.out.k HJ.out);have E:Hid _:=xd (h3 0) (ki j) (L3.out 0 (by decide)) (ki_lt j HJ.out)
         go_upto_region 28 with fail
         refine zh (by kernel_rfl) (by kernel_rfl) (by simp) ?_;simp only[List.dropLast]
         repeat(go_big_quiet_step (fail))
         refine wpQuiet_nil ?_;intro w7 hw';have hbb:Below wr.heap.size wr w7:=by obtain⟨p,rfl⟩:=hw';exact below_regrown _ _ _
         clear hw' d1 d2;have q1:=za.at (D3.out.a.below hbb) (show 0<25 by omega);have q2:=za.frozen (D3.out.a.below hbb) 0;have HB:Hid _:=hbb;clear hbb;refine yj rfl rfl ?_
         go_simp
         rw[E.out]
         go_wp2
         go_roundw
         case rel=>
          have hbb:=HB.out;refine⟨j+1,_,HJ.out,by go_num,?_,rfl⟩;rw[za.setCell (D3.out.a.below hbb),zw,H3.out,HG.out,HT.out];exact(D3.out.below hbb).put _
         case measure=>simp[intOf];have:=HJ.out;omega
  ·have hjn:j=24:=by omega
   subst hjn;have R1:Hid (za wr w.heap.size (ag .u64 25 h')):=by have:=D.out.a;rw[HT.out,← HH.out]at this;exact this
   have R2:Hid (za wr (w.heap.size+1) z25):=D.out.o;have BL:Hid (Below w.heap.size w wr):=D.out.b;clear HT D hlt hj
   go_upto_region 29 with fail
   refine wp_region_lit ?_;refine yu rfl 135 (.tmp 1) rfl w.heap.size rfl .u64 25 h' R1.out underlying135 (by kernel_rfl) ?_;intro v hv;have hsz:=hv.size;have hsc:=zn (P:=prog) hv (g:=w.heap.size+1) 135 (by kernel_rfl) (yc.row R2.out (by rfl));clear hv
   go_wp2
   exact bodyPost_ret (v:=A25 h') (ye (p:=2) (ty:=135) rfl (g:=w.heap.size+1) rfl (za.set_same R2.out (ag .u64 25 h')) (zo _ _ _) underlying135 (by kernel_rfl)) rfl ⟨rfl,zd BL.out (by omega) _⟩
end Go.Proofs.YtceedgdbhlpjlaaGreatDoor
