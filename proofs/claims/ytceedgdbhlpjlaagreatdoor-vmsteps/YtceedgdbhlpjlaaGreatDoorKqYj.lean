/- Out of Yj. -/
import Derived.Test.YtceedgdbhlpjlaaGreatDoorKqYh
namespace Go.Proofs.YtceedgdbhlpjlaaGreatDoor
open Go.RowKit Go.Sort Tryz
set_option linter.unusedVariables false
set_option maxRecDepth 100000
set_option maxHeartbeats 4000000
abbrev FitP (f:Fr):Prop:=f.code.length≤65536∧f.inp.length≤65536∧f.st.length≤256∧f.mem.length≤4096∧f.mem.length%32=0∧0≤f.pc∧(f.pc≤(f.code.length+32:Nat)∨f.pc=(f.code.length+33:Nat)∧f.sd≠0)∧0≤f.gas∧f.gas≤100000∧0≤f.sd∧f.sd≤3
theorem kl{f:Fr}(h:¬ FitP f):decide (FitP f)=false:=decide_eq_false h
theorem rfit_any(f:Fr)(ad:Option Addr)(cap:Nat)(hc:f.code.length≤1000000):RT 16 #[frV f (.slice ad f.st.length cap)] (.bool (decide (FitP f))):=by
 refine fun w=>inZ func16 fun A I=>?_;by_cases k0:f.code.length≤65536
 case neg=>
  refine goZ [lnO f.code,kmF f.code.length 65536] I fun β1 A1 w1 I1 hb1=>?_;exact zp (v:=.bool false) I1 ⟨by rw[kl (f:=f) (fun h=>by have:=h;omega)],I1.hJ⟩
 refine goZ [lnO f.code,kmT f.code.length 65536] I fun _ _ _ J1 _=>?_;by_cases k1:f.inp.length≤65536
 case neg=>
  refine goZ [lnO f.inp,kmF f.inp.length 65536] J1 fun β1 A1 w1 I1 hb1=>?_;exact zp (v:=.bool false) I1 ⟨by rw[kl (f:=f) (fun h=>by have:=h;omega)],I1.hJ⟩
 refine goZ [lnO f.inp,kmT f.inp.length 65536] J1 fun _ _ _ J2 _=>?_;by_cases k2:f.st.length≤256
 case neg=>
  refine goZ [lSk ad f.st.length cap,kmF f.st.length 256] J2 fun β1 A1 w1 I1 hb1=>?_;exact zp (v:=.bool false) I1 ⟨by rw[kl (f:=f) (fun h=>by have:=h;omega)],I1.hJ⟩
 refine goZ [lSk ad f.st.length cap,kmT f.st.length 256] J2 fun _ _ _ J3 _=>?_;by_cases k3:f.mem.length≤4096
 case neg=>
  refine goZ [lnO f.mem,kmF f.mem.length 4096] J3 fun β1 A1 w1 I1 hb1=>?_;exact zp (v:=.bool false) I1 ⟨by rw[kl (f:=f) (fun h=>by have:=h;omega)],I1.hJ⟩
 refine goZ [lnO f.mem,kmT f.mem.length 4096] J3 fun _ _ _ J4 _=>?_;by_cases k4:f.mem.length%32=0
 case neg=>
  refine goZ [lnO f.mem,bO .rem 3 (zea (x:=f.mem.length) (y:=32) (z:=(f.mem.length%32:Nat)) (by decide) (rem_nat (m:=32) (by decide))),keF (f.mem.length%32:Nat) 0] J4 fun β1 A1 w1 I1 hb1=>?_;exact zp (v:=.bool false) I1 ⟨by rw[kl (f:=f) (fun h=>by have:=h;omega)],I1.hJ⟩
 refine goZ [lnO f.mem,bO .rem 3 (zea (x:=f.mem.length) (y:=32) (z:=(f.mem.length%32:Nat)) (by decide) (rem_nat (m:=32) (by decide))),keT (f.mem.length%32:Nat) 0] J4 fun _ _ _ J5 _=>?_;by_cases k5:0≤f.pc
 case neg=>
  refine goZ [khF f.pc 0] J5 fun β1 A1 w1 I1 hb1=>?_;exact zp (v:=.bool false) I1 ⟨by rw[kl (f:=f) (fun h=>by have:=h;omega)],I1.hJ⟩
 refine goZ [khT f.pc 0] J5 fun _ _ _ J6 _=>?_;by_cases q1:f.pc≤(f.code.length+32:Nat)
 ·have k6:(f.pc≤(f.code.length+32:Nat)∨f.pc=(f.code.length+33:Nat)∧f.sd≠0):=.inl q1;refine goZ [lnO f.code,kaZ f.code.length 32 (f.code.length+32:Nat),kmT f.pc (f.code.length+32:Nat)] J6 fun _ _ _ J7 _=>?_;by_cases k7:0≤f.gas
  case neg=>
   refine goZ [khF f.gas 0] J7 fun β1 A1 w1 I1 hb1=>?_;exact zp (v:=.bool false) I1 ⟨by rw[kl (f:=f) (fun h=>by have:=h;omega)],I1.hJ⟩
  refine goZ [khT f.gas 0] J7 fun _ _ _ J8 _=>?_;by_cases k8:f.gas≤100000
  case neg=>
   refine goZ [kmF f.gas 100000] J8 fun β1 A1 w1 I1 hb1=>?_;exact zp (v:=.bool false) I1 ⟨by rw[kl (f:=f) (fun h=>by have:=h;omega)],I1.hJ⟩
  refine goZ [kmT f.gas 100000] J8 fun _ _ _ J9 _=>?_;by_cases k9:0≤f.sd
  case neg=>
   refine goZ [khF f.sd 0] J9 fun β1 A1 w1 I1 hb1=>?_;exact zp (v:=.bool false) I1 ⟨by rw[kl (f:=f) (fun h=>by have:=h;omega)],I1.hJ⟩
  refine goZ [khT f.sd 0] J9 fun _ _ _ J10 _=>?_;by_cases k10:f.sd≤3
  case neg=>
   refine goZ [kmF f.sd 3] J10 fun β1 A1 w1 I1 hb1=>?_;exact zp (v:=.bool false) I1 ⟨by rw[kl (f:=f) (fun h=>by have:=h;omega)],I1.hJ⟩
  refine goZ [kmT f.sd 3] J10 fun _ _ _ J11 _=>?_;refine goZ [] J11 fun β1 A1 w1 I1 hb1=>?_;exact zp (v:=.bool true) I1 ⟨by rw[decide_eq_true (show FitP f from⟨k0,k1,k2,k3,k4,k5,k6,k7,k8,k9,k10⟩)],I1.hJ⟩
 refine goZ [lnO f.code,kaZ f.code.length 32 (f.code.length+32:Nat),kmF f.pc (f.code.length+32:Nat),lnO f.code,kaZ f.code.length 33 (f.code.length+33:Nat)] J6 fun _ _ _ J12 _=>?_;by_cases q2:f.pc=(f.code.length+33:Nat)
 case neg=>
  refine goZ [keF f.pc (f.code.length+33:Nat)] J12 fun β1 A1 w1 I1 hb1=>?_;exact zp (v:=.bool false) I1 ⟨by rw[kl (f:=f) (fun h=>by have:=h;omega)],I1.hJ⟩
 refine goZ [keT f.pc (f.code.length+33:Nat)] J12 fun _ _ _ J13 _=>?_;by_cases q3:f.sd=0
 ·skip
  refine goZ [knF f.sd 0] J13 fun β1 A1 w1 I1 hb1=>?_;exact zp (v:=.bool false) I1 ⟨by rw[kl (f:=f) (fun h=>by have:=h;omega)],I1.hJ⟩
 have k6:(f.pc≤(f.code.length+32:Nat)∨f.pc=(f.code.length+33:Nat)∧f.sd≠0):=.inr ⟨q2,q3⟩;refine goZ [knT f.sd 0] J13 fun _ _ _ J14 _=>?_;by_cases k7:0≤f.gas
 case neg=>
  refine goZ [khF f.gas 0] J14 fun β1 A1 w1 I1 hb1=>?_;exact zp (v:=.bool false) I1 ⟨by rw[kl (f:=f) (fun h=>by have:=h;omega)],I1.hJ⟩
 refine goZ [khT f.gas 0] J14 fun _ _ _ J15 _=>?_;by_cases k8:f.gas≤100000
 case neg=>
  refine goZ [kmF f.gas 100000] J15 fun β1 A1 w1 I1 hb1=>?_;exact zp (v:=.bool false) I1 ⟨by rw[kl (f:=f) (fun h=>by have:=h;omega)],I1.hJ⟩
 refine goZ [kmT f.gas 100000] J15 fun _ _ _ J16 _=>?_;by_cases k9:0≤f.sd
 case neg=>
  refine goZ [khF f.sd 0] J16 fun β1 A1 w1 I1 hb1=>?_;exact zp (v:=.bool false) I1 ⟨by rw[kl (f:=f) (fun h=>by have:=h;omega)],I1.hJ⟩
 refine goZ [khT f.sd 0] J16 fun _ _ _ J17 _=>?_;by_cases k10:f.sd≤3
 case neg=>
  refine goZ [kmF f.sd 3] J17 fun β1 A1 w1 I1 hb1=>?_;exact zp (v:=.bool false) I1 ⟨by rw[kl (f:=f) (fun h=>by have:=h;omega)],I1.hJ⟩
 refine goZ [kmT f.sd 3] J17 fun _ _ _ J18 _=>?_;refine goZ [] J18 fun β1 A1 w1 I1 hb1=>?_;exact zp (v:=.bool true) I1 ⟨by rw[decide_eq_true (show FitP f from⟨k0,k1,k2,k3,k4,k5,k6,k7,k8,k9,k10⟩)],I1.hJ⟩
theorem light_any(f:Fr)(ad:Option Addr)(cap:Nat)(w:World):Calls prog 8 #[frV f (.slice ad f.st.length cap)] w fun e w'=>e=.returned (.bool (decide (f.code.length≤2000∧f.inp.length≤2000∧FitP f)))∧Below w.heap.size w w':=by
 refine inZ func8 fun A I=>?_;by_cases k0:f.code.length≤2000
 case neg=>
  refine goZ [lnO f.code,kmF f.code.length 2000] I fun β1 A1 w1 I1 hb1=>?_;exact zp (v:=.bool false) I1 ⟨by rw[decide_eq_false (fun h=>k0 h.1)],I1.hJ⟩
 by_cases k1:f.inp.length≤2000
 case neg=>
  refine goZ [lnO f.code,kmT f.code.length 2000,lnO f.inp,kmF f.inp.length 2000] I fun β1 A1 w1 I1 hb1=>?_;exact zp (v:=.bool false) I1 ⟨by rw[decide_eq_false (fun h=>k1 h.2.1)],I1.hJ⟩
 have hf:=rfit_any f ad cap (by omega);have e:decide (f.code.length≤2000∧f.inp.length≤2000∧FitP f)=decide (FitP f):=by simp[k0,k1]
 rw[e];generalize decide (FitP f)=q at *;refine goZ [lnO f.code,kmT f.code.length 2000,lnO f.inp,kmT f.inp.length 2000,kC func16 hf] I fun β1 A1 w1 I1 hb1=>?_;exact zl (v:=.bool q) I1
end Go.Proofs.YtceedgdbhlpjlaaGreatDoor
