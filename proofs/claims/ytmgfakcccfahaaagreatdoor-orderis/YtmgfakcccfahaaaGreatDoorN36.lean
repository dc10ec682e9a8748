/-
  lustrumref1.Result BY CONTRACT, of any operator that a flat term may have.
-/
import Derived.Test.YtmgfakcccfahaaaGreatDoorN32
import Derived.Test.YtmgfakcccfahaaaGreatDoorN35
set_option maxRecDepth 100000
set_option maxHeartbeats 4000000
namespace Go.Proofs.YtmgfakcccfahaaaGreatDoor
open Go.RowKit

theorem I6(op:ByteArray)(w:World)(ht:op.toList=[112,114,101])(v:Value)(a:Int)(hv:fO w v [a])(ha:a=1∨a=2) :
  Calls Tryz.prog 70 #[.string op,v] w fun e w'=>e=.returned (.int .i64 (aV 0 a a a))∧w'=w:=by
 obtain⟨hl,o,c,rfl,hc⟩:=hv
 obtain⟨b0,off,rfl,x0⟩:=hc 0 a rfl
 clear hc hl
 simp only[Nat.add_zero] at x0
 rcases ha with rfl | rfl
 ·go_enter Tryz.func70,Tryz.ntmps70
  go_wp2
  go_ret
  exact⟨by first | rfl | decide,rfl⟩
 ·go_enter Tryz.func70,Tryz.ntmps70
  go_wp2
  go_ret
  exact⟨by first | rfl | decide,rfl⟩
theorem Jm(op:ByteArray)(w:World)(ht:op.toList=[45,62])(v:Value)(a b:Int)(hv:fO w v [a,b])(ha:a=1∨a=2)(hb:b=1∨b=2) :
  Calls Tryz.prog 70 #[.string op,v] w fun e w'=>e=.returned (.int .i64 (aV 0 b a b))∧w'=w:=by
 obtain⟨hl,o,c,rfl,hc⟩:=hv
 obtain⟨b0,off,rfl,x0⟩:=hc 0 a rfl
 obtain⟨b1,bW,e1,x1⟩:=hc 1 b rfl
 obtain⟨rfl,rfl⟩:b0=b1∧off=bW:=by simpa using e1
 clear hc hl e1
 simp only[Nat.add_zero] at x0
 rcases ha with rfl | rfl<;>rcases hb with rfl | rfl
 ·go_enter Tryz.func70,Tryz.ntmps70
  go_wp2
  go_ret
  exact⟨by first | rfl | decide,rfl⟩
 ·go_enter Tryz.func70,Tryz.ntmps70
  go_wp2
  go_ret
  exact⟨by first | rfl | decide,rfl⟩
 ·go_enter Tryz.func70,Tryz.ntmps70
  go_wp2
  go_ret
  exact⟨by first | rfl | decide,rfl⟩
 ·go_enter Tryz.func70,Tryz.ntmps70
  go_wp2
  go_ret
  exact⟨by first | rfl | decide,rfl⟩
theorem Jj(op:ByteArray)(w:World)(ht:op.toList=[102,98,121])(v:Value)(a b:Int)(hv:fO w v [a,b])(ha:a=1∨a=2)(hb:b=1∨b=2) :
  Calls Tryz.prog 70 #[.string op,v] w fun e w'=>e=.returned (.int .i64 (aV 0 b a b))∧w'=w:=by
 obtain⟨hl,o,c,rfl,hc⟩:=hv
 obtain⟨b0,off,rfl,x0⟩:=hc 0 a rfl
 obtain⟨b1,bW,e1,x1⟩:=hc 1 b rfl
 obtain⟨rfl,rfl⟩:b0=b1∧off=bW:=by simpa using e1
 clear hc hl e1
 simp only[Nat.add_zero] at x0
 rcases ha with rfl | rfl<;>rcases hb with rfl | rfl
 ·go_enter Tryz.func70,Tryz.ntmps70
  go_wp2
  go_ret
  exact⟨by first | rfl | decide,rfl⟩
 ·go_enter Tryz.func70,Tryz.ntmps70
  go_wp2
  go_ret
  exact⟨by first | rfl | decide,rfl⟩
 ·go_enter Tryz.func70,Tryz.ntmps70
  go_wp2
  go_ret
  exact⟨by first | rfl | decide,rfl⟩
 ·go_enter Tryz.func70,Tryz.ntmps70
  go_wp2
  go_ret
  exact⟨by first | rfl | decide,rfl⟩
abbrev fV(op:ByteArray)(ks:List Int):Prop:=∀(v:Value) (w:World),fO w v ks→Calls Tryz.prog 70 #[.string op,v] w fun e w'=>e=.returned (.int .i64 ((aZ op.data.toList ks).getD 0))∧Bw w w'
theorem yO{l:List Int}(h:l.length=1):∃a,l=[a]:=by
 match l,h with
 | [a],_=>exact⟨a,rfl⟩
theorem iX{l:List Int}(h:l.length=2):∃a b,l=[a,b]:=by
 match l,h with
 | [a,b],_=>exact⟨a,b,rfl⟩
theorem LK{l:List Int}(h:l.length=3):∃a b d,l=[a,b,d]:=by
 match l,h with
 | [a,b,d],_=>exact⟨a,b,d,rfl⟩
theorem Ju(op:ByteArray)(ht:op.data.toList=[110,111,116])(ks:List Int)(hl:ks.length=1)(hk:∀k∈ks,k=1∨k=2):fV op ks:=by
 obtain⟨a,rfl⟩:=yO hl
 intro v w hv
 have h:=I8 op w (by rw[ByteArray.toList_eq];exact ht) v a hv (hk a (by simp))
 have e:aV 1 1 a a=(aZ [110,111,116] [a]).getD 0:=(by decide:∀a∈k12,aV 1 1 a a=(aZ [110,111,116] [a]).getD 0) a (bN (hk a (by simp)))
 rw[ht,←e]
 exact h.mono fun e w1 q=>⟨q.1,by rw[q.2];exact Below.refl _ _⟩
theorem Jv(op:ByteArray)(ht:op.data.toList=[110,101,103])(ks:List Int)(hl:ks.length=1)(hk:∀k∈ks,k=1∨k=2):fV op ks:=by
 obtain⟨a,rfl⟩:=yO hl
 intro v w hv
 have h:=I9 op w (by rw[ByteArray.toList_eq];exact ht) v a hv (hk a (by simp))
 have e:aV 2 2 a a=(aZ [110,101,103] [a]).getD 0:=(by decide:∀a∈k12,aV 2 2 a a=(aZ [110,101,103] [a]).getD 0) a (bN (hk a (by simp)))
 rw[ht,←e]
 exact h.mono fun e w1 q=>⟨q.1,by rw[q.2];exact Below.refl _ _⟩
theorem Js(op:ByteArray)(ht:op.data.toList=[112,114,101])(ks:List Int)(hl:ks.length=1)(hk:∀k∈ks,k=1∨k=2):fV op ks:=by
 obtain⟨a,rfl⟩:=yO hl
 intro v w hv
 have h:=I6 op w (by rw[ByteArray.toList_eq];exact ht) v a hv (hk a (by simp))
 have e:aV 0 a a a=(aZ [112,114,101] [a]).getD 0:=(by decide:∀a∈k12,aV 0 a a a=(aZ [112,114,101] [a]).getD 0) a (bN (hk a (by simp)))
 rw[ht,←e]
 exact h.mono fun e w1 q=>⟨q.1,by rw[q.2];exact Below.refl _ _⟩
theorem JD(op:ByteArray)(ht:op.data.toList=[105,102])(ks:List Int)(hl:ks.length=3)(hk:∀k∈ks,k=1∨k=2):fV op ks:=by
 obtain⟨a,b,d,rfl⟩:=LK hl
 intro v w hv
 have h:=Jg op w (by rw[ByteArray.toList_eq];exact ht) v a b d hv (hk a (by simp)) (hk b (by simp)) (hk d (by simp))
 have e:y8 a b d=(aZ [105,102] [a,b,d]).getD 0:=(by decide:∀a∈k12,∀b∈k12,∀d∈k12,y8 a b d=(aZ [105,102] [a,b,d]).getD 0) a (bN (hk a (by simp))) b (bN (hk b (by simp))) d (bN (hk d (by simp)))
 rw[ht,←e]
 exact h
theorem JK(op:ByteArray)(ht:op.data.toList=[97,110,100])(ks:List Int)(hl:ks.length=2)(hk:∀k∈ks,k=1∨k=2):fV op ks:=by
 obtain⟨a,b,rfl⟩:=iX hl
 intro v w hv
 have h:=Jo op w (by rw[ByteArray.toList_eq];exact ht) v a b hv (hk a (by simp)) (hk b (by simp))
 have e:aV 1 1 a b=(aZ [97,110,100] [a,b]).getD 0:=(by decide:∀a∈k12,∀b∈k12,aV 1 1 a b=(aZ [97,110,100] [a,b]).getD 0) a (bN (hk a (by simp))) b (bN (hk b (by simp)))
 rw[ht,←e]
 exact h.mono fun e w1 q=>⟨q.1,by rw[q.2];exact Below.refl _ _⟩
theorem Jt(op:ByteArray)(ht:op.data.toList=[111,114])(ks:List Int)(hl:ks.length=2)(hk:∀k∈ks,k=1∨k=2):fV op ks:=by
 obtain⟨a,b,rfl⟩:=iX hl
 intro v w hv
 have h:=I7 op w (by rw[ByteArray.toList_eq];exact ht) v a b hv (hk a (by simp)) (hk b (by simp))
 have e:aV 1 1 a b=(aZ [111,114] [a,b]).getD 0:=(by decide:∀a∈k12,∀b∈k12,aV 1 1 a b=(aZ [111,114] [a,b]).getD 0) a (bN (hk a (by simp))) b (bN (hk b (by simp)))
 rw[ht,←e]
 exact h.mono fun e w1 q=>⟨q.1,by rw[q.2];exact Below.refl _ _⟩
theorem Jq(op:ByteArray)(ht:op.data.toList=[120,111,114])(ks:List Int)(hl:ks.length=2)(hk:∀k∈ks,k=1∨k=2):fV op ks:=by
 obtain⟨a,b,rfl⟩:=iX hl
 intro v w hv
 have h:=IZ op w (by rw[ByteArray.toList_eq];exact ht) v a b hv (hk a (by simp)) (hk b (by simp))
 have e:aV 1 1 a b=(aZ [120,111,114] [a,b]).getD 0:=(by decide:∀a∈k12,∀b∈k12,aV 1 1 a b=(aZ [120,111,114] [a,b]).getD 0) a (bN (hk a (by simp))) b (bN (hk b (by simp)))
 rw[ht,←e]
 exact h.mono fun e w1 q=>⟨q.1,by rw[q.2];exact Below.refl _ _⟩
theorem JC(op:ByteArray)(ht:op.data.toList=[61,62])(ks:List Int)(hl:ks.length=2)(hk:∀k∈ks,k=1∨k=2):fV op ks:=by
 obtain⟨a,b,rfl⟩:=iX hl
 intro v w hv
 have h:=Jf op w (by rw[ByteArray.toList_eq];exact ht) v a b hv (hk a (by simp)) (hk b (by simp))
 have e:aV 1 1 a b=(aZ [61,62] [a,b]).getD 0:=(by decide:∀a∈k12,∀b∈k12,aV 1 1 a b=(aZ [61,62] [a,b]).getD 0) a (bN (hk a (by simp))) b (bN (hk b (by simp)))
 rw[ht,←e]
 exact h.mono fun e w1 q=>⟨q.1,by rw[q.2];exact Below.refl _ _⟩
theorem JH(op:ByteArray)(ht:op.data.toList=[61])(ks:List Int)(hl:ks.length=2)(hk:∀k∈ks,k=1∨k=2):fV op ks:=by
 obtain⟨a,b,rfl⟩:=iX hl
 intro v w hv
 have h:=Jk op w (by rw[ByteArray.toList_eq];exact ht) v a b hv (hk a (by simp)) (hk b (by simp))
 have e:aV 0 1 a b=(aZ [61] [a,b]).getD 0:=(by decide:∀a∈k12,∀b∈k12,aV 0 1 a b=(aZ [61] [a,b]).getD 0) a (bN (hk a (by simp))) b (bN (hk b (by simp)))
 rw[ht,←e]
 exact h.mono fun e w1 q=>⟨q.1,by rw[q.2];exact Below.refl _ _⟩
theorem Jw(op:ByteArray)(ht:op.data.toList=[60,62])(ks:List Int)(hl:ks.length=2)(hk:∀k∈ks,k=1∨k=2):fV op ks:=by
 obtain⟨a,b,rfl⟩:=iX hl
 intro v w hv
 have h:=Ja op w (by rw[ByteArray.toList_eq];exact ht) v a b hv (hk a (by simp)) (hk b (by simp))
 have e:aV 0 1 a b=(aZ [60,62] [a,b]).getD 0:=(by decide:∀a∈k12,∀b∈k12,aV 0 1 a b=(aZ [60,62] [a,b]).getD 0) a (bN (hk a (by simp))) b (bN (hk b (by simp)))
 rw[ht,←e]
 exact h.mono fun e w1 q=>⟨q.1,by rw[q.2];exact Below.refl _ _⟩
theorem JA(op:ByteArray)(ht:op.data.toList=[60])(ks:List Int)(hl:ks.length=2)(hk:∀k∈ks,k=1∨k=2):fV op ks:=by
 obtain⟨a,b,rfl⟩:=iX hl
 intro v w hv
 have h:=Jd op w (by rw[ByteArray.toList_eq];exact ht) v a b hv (hk a (by simp)) (hk b (by simp))
 have e:aV 2 1 a b=(aZ [60] [a,b]).getD 0:=(by decide:∀a∈k12,∀b∈k12,aV 2 1 a b=(aZ [60] [a,b]).getD 0) a (bN (hk a (by simp))) b (bN (hk b (by simp)))
 rw[ht,←e]
 exact h.mono fun e w1 q=>⟨q.1,by rw[q.2];exact Below.refl _ _⟩
theorem JB(op:ByteArray)(ht:op.data.toList=[60,61])(ks:List Int)(hl:ks.length=2)(hk:∀k∈ks,k=1∨k=2):fV op ks:=by
 obtain⟨a,b,rfl⟩:=iX hl
 intro v w hv
 have h:=Je op w (by rw[ByteArray.toList_eq];exact ht) v a b hv (hk a (by simp)) (hk b (by simp))
 have e:aV 2 1 a b=(aZ [60,61] [a,b]).getD 0:=(by decide:∀a∈k12,∀b∈k12,aV 2 1 a b=(aZ [60,61] [a,b]).getD 0) a (bN (hk a (by simp))) b (bN (hk b (by simp)))
 rw[ht,←e]
 exact h.mono fun e w1 q=>⟨q.1,by rw[q.2];exact Below.refl _ _⟩
theorem JE(op:ByteArray)(ht:op.data.toList=[62])(ks:List Int)(hl:ks.length=2)(hk:∀k∈ks,k=1∨k=2):fV op ks:=by
 obtain⟨a,b,rfl⟩:=iX hl
 intro v w hv
 have h:=Jh op w (by rw[ByteArray.toList_eq];exact ht) v a b hv (hk a (by simp)) (hk b (by simp))
 have e:aV 2 1 a b=(aZ [62] [a,b]).getD 0:=(by decide:∀a∈k12,∀b∈k12,aV 2 1 a b=(aZ [62] [a,b]).getD 0) a (bN (hk a (by simp))) b (bN (hk b (by simp)))
 rw[ht,←e]
 exact h.mono fun e w1 q=>⟨q.1,by rw[q.2];exact Below.refl _ _⟩
theorem JF(op:ByteArray)(ht:op.data.toList=[62,61])(ks:List Int)(hl:ks.length=2)(hk:∀k∈ks,k=1∨k=2):fV op ks:=by
 obtain⟨a,b,rfl⟩:=iX hl
 intro v w hv
 have h:=Ji op w (by rw[ByteArray.toList_eq];exact ht) v a b hv (hk a (by simp)) (hk b (by simp))
 have e:aV 2 1 a b=(aZ [62,61] [a,b]).getD 0:=(by decide:∀a∈k12,∀b∈k12,aV 2 1 a b=(aZ [62,61] [a,b]).getD 0) a (bN (hk a (by simp))) b (bN (hk b (by simp)))
 rw[ht,←e]
 exact h.mono fun e w1 q=>⟨q.1,by rw[q.2];exact Below.refl _ _⟩
theorem JL(op:ByteArray)(ht:op.data.toList=[43])(ks:List Int)(hl:ks.length=2)(hk:∀k∈ks,k=1∨k=2):fV op ks:=by
 obtain⟨a,b,rfl⟩:=iX hl
 intro v w hv
 have h:=Jp op w (by rw[ByteArray.toList_eq];exact ht) v a b hv (hk a (by simp)) (hk b (by simp))
 have e:aV 2 2 a b=(aZ [43] [a,b]).getD 0:=(by decide:∀a∈k12,∀b∈k12,aV 2 2 a b=(aZ [43] [a,b]).getD 0) a (bN (hk a (by simp))) b (bN (hk b (by simp)))
 rw[ht,←e]
 exact h.mono fun e w1 q=>⟨q.1,by rw[q.2];exact Below.refl _ _⟩
theorem Jr(op:ByteArray)(ht:op.data.toList=[45])(ks:List Int)(hl:ks.length=2)(hk:∀k∈ks,k=1∨k=2):fV op ks:=by
 obtain⟨a,b,rfl⟩:=iX hl
 intro v w hv
 have h:=I4 op w (by rw[ByteArray.toList_eq];exact ht) v a b hv (hk a (by simp)) (hk b (by simp))
 have e:aV 2 2 a b=(aZ [45] [a,b]).getD 0:=(by decide:∀a∈k12,∀b∈k12,aV 2 2 a b=(aZ [45] [a,b]).getD 0) a (bN (hk a (by simp))) b (bN (hk b (by simp)))
 rw[ht,←e]
 exact h.mono fun e w1 q=>⟨q.1,by rw[q.2];exact Below.refl _ _⟩
theorem Jy(op:ByteArray)(ht:op.data.toList=[42])(ks:List Int)(hl:ks.length=2)(hk:∀k∈ks,k=1∨k=2):fV op ks:=by
 obtain⟨a,b,rfl⟩:=iX hl
 intro v w hv
 have h:=Jb op w (by rw[ByteArray.toList_eq];exact ht) v a b hv (hk a (by simp)) (hk b (by simp))
 have e:aV 2 2 a b=(aZ [42] [a,b]).getD 0:=(by decide:∀a∈k12,∀b∈k12,aV 2 2 a b=(aZ [42] [a,b]).getD 0) a (bN (hk a (by simp))) b (bN (hk b (by simp)))
 rw[ht,←e]
 exact h.mono fun e w1 q=>⟨q.1,by rw[q.2];exact Below.refl _ _⟩
theorem JI(op:ByteArray)(ht:op.data.toList=[47])(ks:List Int)(hl:ks.length=2)(hk:∀k∈ks,k=1∨k=2):fV op ks:=by
 obtain⟨a,b,rfl⟩:=iX hl
 intro v w hv
 have h:=Jl op w (by rw[ByteArray.toList_eq];exact ht) v a b hv (hk a (by simp)) (hk b (by simp))
 have e:aV 2 2 a b=(aZ [47] [a,b]).getD 0:=(by decide:∀a∈k12,∀b∈k12,aV 2 2 a b=(aZ [47] [a,b]).getD 0) a (bN (hk a (by simp))) b (bN (hk b (by simp)))
 rw[ht,←e]
 exact h.mono fun e w1 q=>⟨q.1,by rw[q.2];exact Below.refl _ _⟩
theorem Jz(op:ByteArray)(ht:op.data.toList=[109,111,100])(ks:List Int)(hl:ks.length=2)(hk:∀k∈ks,k=1∨k=2):fV op ks:=by
 obtain⟨a,b,rfl⟩:=iX hl
 intro v w hv
 have h:=Jc op w (by rw[ByteArray.toList_eq];exact ht) v a b hv (hk a (by simp)) (hk b (by simp))
 have e:aV 2 2 a b=(aZ [109,111,100] [a,b]).getD 0:=(by decide:∀a∈k12,∀b∈k12,aV 2 2 a b=(aZ [109,111,100] [a,b]).getD 0) a (bN (hk a (by simp))) b (bN (hk b (by simp)))
 rw[ht,←e]
 exact h.mono fun e w1 q=>⟨q.1,by rw[q.2];exact Below.refl _ _⟩
theorem JJ(op:ByteArray)(ht:op.data.toList=[45,62])(ks:List Int)(hl:ks.length=2)(hk:∀k∈ks,k=1∨k=2):fV op ks:=by
 obtain⟨a,b,rfl⟩:=iX hl
 intro v w hv
 have h:=Jm op w (by rw[ByteArray.toList_eq];exact ht) v a b hv (hk a (by simp)) (hk b (by simp))
 have e:aV 0 b a b=(aZ [45,62] [a,b]).getD 0:=(by decide:∀a∈k12,∀b∈k12,aV 0 b a b=(aZ [45,62] [a,b]).getD 0) a (bN (hk a (by simp))) b (bN (hk b (by simp)))
 rw[ht,←e]
 exact h.mono fun e w1 q=>⟨q.1,by rw[q.2];exact Below.refl _ _⟩
theorem JG(op:ByteArray)(ht:op.data.toList=[102,98,121])(ks:List Int)(hl:ks.length=2)(hk:∀k∈ks,k=1∨k=2):fV op ks:=by
 obtain⟨a,b,rfl⟩:=iX hl
 intro v w hv
 have h:=Jj op w (by rw[ByteArray.toList_eq];exact ht) v a b hv (hk a (by simp)) (hk b (by simp))
 have e:aV 0 b a b=(aZ [102,98,121] [a,b]).getD 0:=(by decide:∀a∈k12,∀b∈k12,aV 0 b a b=(aZ [102,98,121] [a,b]).getD 0) a (bN (hk a (by simp))) b (bN (hk b (by simp)))
 rw[ht,←e]
 exact h.mono fun e w1 q=>⟨q.1,by rw[q.2];exact Below.refl _ _⟩
theorem I5(op:ByteArray)(ks tk gv:List Int)(hr:eX op.data.toList=some (tk,gv))(hl:ks.length=tk.length)(h0:0<ks.length)(hk:∀k∈ks,k=1∨k=2):fV op ks:=by
 unfold eX at hr
 by_cases e:op.data.toList=[105,102]
 ·rw[if_pos e] at hr
  obtain⟨rfl,rfl⟩:=Prod.mk.inj (Option.some.inj hr)
  exact JD op e ks hl hk
 rw[if_neg e] at hr;clear e
 by_cases e:op.data.toList=[102,98,121]
 ·rw[if_pos e] at hr
  obtain⟨rfl,rfl⟩:=Prod.mk.inj (Option.some.inj hr)
  exact JG op e ks hl hk
 rw[if_neg e] at hr;clear e
 by_cases e:op.data.toList=[45,62]
 ·rw[if_pos e] at hr
  obtain⟨rfl,rfl⟩:=Prod.mk.inj (Option.some.inj hr)
  exact JJ op e ks hl hk
 rw[if_neg e] at hr;clear e
 by_cases e:op.data.toList=[112,114,101]
 ·rw[if_pos e] at hr
  obtain⟨rfl,rfl⟩:=Prod.mk.inj (Option.some.inj hr)
  exact Js op e ks hl hk
 rw[if_neg e] at hr;clear e
 by_cases e:op.data.toList=[60,62]
 ·rw[if_pos e] at hr
  obtain⟨rfl,rfl⟩:=Prod.mk.inj (Option.some.inj hr)
  exact Jw op e ks hl hk
 rw[if_neg e] at hr;clear e
 by_cases e:op.data.toList=[61]
 ·rw[if_pos e] at hr
  obtain⟨rfl,rfl⟩:=Prod.mk.inj (Option.some.inj hr)
  exact JH op e ks hl hk
 rw[if_neg e] at hr;clear e
 by_cases e:op.data.toList=[62,61]
 ·rw[if_pos e] at hr
  obtain⟨rfl,rfl⟩:=Prod.mk.inj (Option.some.inj hr)
  exact JF op e ks hl hk
 rw[if_neg e] at hr;clear e
 by_cases e:op.data.toList=[62]
 ·rw[if_pos e] at hr
  obtain⟨rfl,rfl⟩:=Prod.mk.inj (Option.some.inj hr)
  exact JE op e ks hl hk
 rw[if_neg e] at hr;clear e
 by_cases e:op.data.toList=[60,61]
 ·rw[if_pos e] at hr
  obtain⟨rfl,rfl⟩:=Prod.mk.inj (Option.some.inj hr)
  exact JB op e ks hl hk
 rw[if_neg e] at hr;clear e
 by_cases e:op.data.toList=[60]
 ·rw[if_pos e] at hr
  obtain⟨rfl,rfl⟩:=Prod.mk.inj (Option.some.inj hr)
  exact JA op e ks hl hk
 rw[if_neg e] at hr;clear e
 by_cases e:op.data.toList=[109,111,100]
 ·rw[if_pos e] at hr
  obtain⟨rfl,rfl⟩:=Prod.mk.inj (Option.some.inj hr)
  exact Jz op e ks hl hk
 rw[if_neg e] at hr;clear e
 by_cases e:op.data.toList=[47]
 ·rw[if_pos e] at hr
  obtain⟨rfl,rfl⟩:=Prod.mk.inj (Option.some.inj hr)
  exact JI op e ks hl hk
 rw[if_neg e] at hr;clear e
 by_cases e:op.data.toList=[42]
 ·rw[if_pos e] at hr
  obtain⟨rfl,rfl⟩:=Prod.mk.inj (Option.some.inj hr)
  exact Jy op e ks hl hk
 rw[if_neg e] at hr;clear e
 by_cases e:op.data.toList=[45]
 ·rw[if_pos e] at hr
  obtain⟨rfl,rfl⟩:=Prod.mk.inj (Option.some.inj hr)
  exact Jr op e ks hl hk
 rw[if_neg e] at hr;clear e
 by_cases e:op.data.toList=[43]
 ·rw[if_pos e] at hr
  obtain⟨rfl,rfl⟩:=Prod.mk.inj (Option.some.inj hr)
  exact JL op e ks hl hk
 rw[if_neg e] at hr;clear e
 by_cases e:op.data.toList=[110,101,103]
 ·rw[if_pos e] at hr
  obtain⟨rfl,rfl⟩:=Prod.mk.inj (Option.some.inj hr)
  exact Jv op e ks hl hk
 rw[if_neg e] at hr;clear e
 by_cases e:op.data.toList=[61,62]
 ·rw[if_pos e] at hr
  obtain⟨rfl,rfl⟩:=Prod.mk.inj (Option.some.inj hr)
  exact JC op e ks hl hk
 rw[if_neg e] at hr;clear e
 by_cases e:op.data.toList=[120,111,114]
 ·rw[if_pos e] at hr
  obtain⟨rfl,rfl⟩:=Prod.mk.inj (Option.some.inj hr)
  exact Jq op e ks hl hk
 rw[if_neg e] at hr;clear e
 by_cases e:op.data.toList=[111,114]
 ·rw[if_pos e] at hr
  obtain⟨rfl,rfl⟩:=Prod.mk.inj (Option.some.inj hr)
  exact Jt op e ks hl hk
 rw[if_neg e] at hr;clear e
 by_cases e:op.data.toList=[97,110,100]
 ·rw[if_pos e] at hr
  obtain⟨rfl,rfl⟩:=Prod.mk.inj (Option.some.inj hr)
  exact JK op e ks hl hk
 rw[if_neg e] at hr;clear e
 by_cases e:op.data.toList=[110,111,116]
 ·rw[if_pos e] at hr
  obtain⟨rfl,rfl⟩:=Prod.mk.inj (Option.some.inj hr)
  exact Ju op e ks hl hk
 rw[if_neg e] at hr;clear e
 by_cases e:op.data.toList=[102,97,108,115,101]
 ·rw[if_pos e] at hr
  obtain⟨rfl,rfl⟩:=Prod.mk.inj (Option.some.inj hr)
  rw[hl] at h0
  exact absurd h0 (Nat.lt_irrefl 0)
 rw[if_neg e] at hr;clear e
 by_cases e:op.data.toList=[116,114,117,101]
 ·rw[if_pos e] at hr
  obtain⟨rfl,rfl⟩:=Prod.mk.inj (Option.some.inj hr)
  rw[hl] at h0
  exact absurd h0 (Nat.lt_irrefl 0)
 rw[if_neg e] at hr;clear e
 by_cases e:op.data.toList=[105,110,116]
 ·rw[if_pos e] at hr
  obtain⟨rfl,rfl⟩:=Prod.mk.inj (Option.some.inj hr)
  rw[hl] at h0
  exact absurd h0 (Nat.lt_irrefl 0)
 rw[if_neg e] at hr;clear e
 cases hr

mutual
def fU(kd:List UInt8→Int):Ex→Bool
 | .mk op n s l=>(cO op.toList n s.toList l.length&&!(op.data.toList==kD)&&!(op.data.toList==bI&&kd s.data.toList==0))&&gK kd l
def gK(kd:List UInt8→Int):List Ex→Bool
 | []=>true
 | e::es=>fU kd e&&gK kd es
end
mutual
theorem ND{kd:List UInt8→Int}{kd':List UInt8→Option Int}(h:∀s,kd s=(kd' s).getD 0):∀e,fU kd e=dG kd' e
 | .mk op n s l=>by
  unfold fU dG jA
  rw[zN h l,h]
  cases cO op.toList n s.toList l.length<;>cases op.data.toList==bI<;>cases (kd' s.data.toList).getD 0==0<;>cases hc:op.data.toList==kD<;>simp_all
theorem zN{kd:List UInt8→Int}{kd':List UInt8→Option Int}(h:∀s,kd s=(kd' s).getD 0):∀l,gK kd l=bG kd' l
 | []=>by unfold gK bG;rfl
 | e::l=>by unfold gK bG;rw[ND h e,zN h l]
end
theorem vW{kd:List UInt8→Int}:∀{l:List Ex} {i:Nat} {e:Ex},l[i]?=some e→gK kd (l.take i)=true→fU kd e=true→gK kd (l.take (i+1))=true
 | [],i,e,h,_,_=>by simp at h
 | x::l,0,e,h,_,he=>by
  obtain rfl:x=e:=by simpa using h
  simp [gK,he]
 | x::l,i+1,e,h,hl,he=>by
  simp only[List.take_succ_cons,gK,Bool.and_eq_true] at hl ⊢
  exact⟨hl.1,vW (by simpa using h) hl.2 he⟩
theorem vX{kd:List UInt8→Int}:∀{l:List Ex} {i:Nat} {e:Ex},l[i]?=some e→fU kd e=false→gK kd l=false
 | [],i,e,h,_=>by simp at h
 | x::l,0,e,h,he=>by
  obtain rfl:x=e:=by simpa using h
  simp [gK,he]
 | x::l,i+1,e,h,he=>by
  unfold gK
  rw[vX (l:=l) (by simpa using h) he,Bool.and_false]
abbrev Fu(vs:List (ByteArray×Int))(op:ByteArray)(n:Int)(s:ByteArray)(l:List Ex):Prop:=∀(w:World) (S S':Nat→Prop) (o vo:Option Addr) (c vn vc:Nat) (ys:List Value),aB w S 4 (.slice o l.length c) l.length ys→aI w S l ys→vn=vs.length→vn≤2097152→aB w S' 2 (.slice vo vn vc) vn (bB vs) →
  Calls Tryz.prog 86 #[.agg #[.string op,.int .i64 n,.string s,.slice o l.length c],.slice vo vn vc] w fun e w'=>e=.returned (.bool (fU (bL vs) (.mk op n s l)))∧Bw w w'
theorem DN(vs:List (ByteArray×Int)):∀(m:Nat) (op:ByteArray) (n:Int) (s:ByteArray) (l:List Ex),SizeOf.sizeOf l<m→Fu vs op n s l
 | 0=>fun _ _ _ _ h=>absurd h (Nat.not_lt_zero _)
 | m+1=>by
  intro op n s l hm w S S' o vo c vn vc ys h1 h2 hvn hvl hvs
  have HV:Hid (∀i (hi:i<l.length) (op:ByteArray) (n:Int) (s:ByteArray) (es:List Ex),l[i]=.mk op n s es→Fu vs op n s es):=fun i hi op n s es e=>by
   have hsp:=kC hi e
   exact DN vs m op n s es (by omega)
  have hl:=h1.len
  have H1:=aA h1
  have H2:=aA h2
  have HL:Hid (vn=vs.length∧vn≤2097152∧aB w S' 2 (.slice vo vn vc) vn (bB vs)):=⟨hvn,hvl,hvs⟩
  obtain⟨w1,hw1⟩:∃w1,w1=w.alloc (.cells #[.string op,.int .i64 n,.string s,.slice o l.length c] 79):=⟨_,rfl⟩
  obtain⟨B,hB⟩:∃B,B=w.heap.size:=⟨_,rfl⟩
  have hb1:Bw w w1:=by rw[hw1];exact aH
  have hr1:w1.heap[B]?=some (.cells #[.string op,.int .i64 n,.string s,.slice o l.length c] 79 (0,0)):=by rw[hw1,hB];exact heap_alloc_new _ _
  have HB:Hid (Bw w w1∧B=w.heap.size):=⟨hb1,hB⟩
  have HC:Hid (∀W,Bw w1 W→W.cell? ⟨B,0,none⟩=some (.string op)∧W.cell? ⟨B,0+1,none⟩=some (.int .i64 n)∧W.cell? ⟨B,0+2,none⟩=some (.string s)∧W.cell? ⟨B,0+3,none⟩=some (.slice o l.length c)):=fun W hW=>by
   have hr:=aG hW hr1
   refine⟨?_,?_,?_,?_⟩<;>(rw[cell_of_row W _ _ _ _ (0,0) hr];rfl)
  have HW1:Hid (w.alloc (.cells #[.string op,.int .i64 n,.string s,.slice o l.length c] 79)=w1∧w.heap.size=B):=⟨hw1.symm,hB.symm⟩
  obtain⟨kk,hkk⟩:∃kk,kk=bL vs s.data.toList:=⟨_,rfl⟩
  have HKI:Hid (∀W,Bw w1 W→Calls Tryz.prog 85 #[.slice vo vn vc,.string s] W fun e w'=>e=.returned (.int .i64 kk)∧w'=W):=fun W hW=>by
   rw[hkk]
   exact sN W S' vs vo vn vc s hvn (hvs.keep (aP.below (hb1.trans (hW.mono hb1.size)) (fun k hk=>hk))) hvl
  obtain⟨fb,hfb⟩:∃fb,fb=cO op.toList n s.toList l.length:=⟨_,rfl⟩
  have HFO:Hid (Calls Tryz.prog 133 #[.agg #[.string op,.int .i64 n,.string s,.slice o l.length c]] w1 fun e w'=>e=.returned (.bool fb)∧Bw w1 w'):=by
   rw[hfb]
   exact JO op n s o l.length c w1
  obtain⟨a0,a1,a2,a3⟩:=HC.out w1 (Below.refl _ _)
  clear h1 h2 hvn hvl hvs hl hw1 hB hb1 hr1
  cases fb with
  | false=>
   have HF:Hid (fU (bL vs) (.mk op n s l)=false):=by unfold Hid;unfold fU;rw[←hfb];rfl
   clear hfb hkk
   go_enter Tryz.func86,Tryz.ntmps86
   go_upto_region 1 with fail
   rw[HW1.out.1,HW1.out.2]
   go_wp2_with (first | (go_at_call 133;refine(HFO.out).mono ?_;rintro e w2 ⟨rfl,hb2⟩;have HB2:=aA hb2;clear hb2;obtain⟨a0,a1,a2,a3⟩:=HC.out w2 HB2.out) | (go_at_call 85;refine(HKI.out w2 HB2.out).mono ?_;rintro e w3 ⟨rfl,rfl⟩) | fail)
   go_ret
   exact⟨by rw[HF.out];rfl,HB.out.1.trans (HB2.out.mono HB.out.1.size)⟩
  | true=>
   by_cases hc:op.data.toList=kD
   ·have HF:Hid (fU (bL vs) (.mk op n s l)=false):=by unfold Hid;unfold fU;rw[←hfb,hc];rfl
    have dc:(op.toList==[99,97,108,108])=true:=by rw[ByteArray.toList_eq,hc];rfl
    clear hfb hkk hc
    go_enter Tryz.func86,Tryz.ntmps86
    go_upto_region 1 with fail
    rw[HW1.out.1,HW1.out.2]
    go_wp2_with (first | (go_at_call 133;refine(HFO.out).mono ?_;rintro e w2 ⟨rfl,hb2⟩;have HB2:=aA hb2;clear hb2;obtain⟨a0,a1,a2,a3⟩:=HC.out w2 HB2.out) | (go_at_call 85;refine(HKI.out w2 HB2.out).mono ?_;rintro e w3 ⟨rfl,rfl⟩) | fail)
    go_ret
    exact⟨by rw[HF.out];rfl,HB.out.1.trans (HB2.out.mono HB.out.1.size)⟩
   ·have dc:(op.toList==[99,97,108,108])=false:=by rw[ByteArray.toList_eq];exact beq_eq_false_iff_ne.2 hc
    have ec:(op.data.toList==kD)=false:=beq_eq_false_iff_ne.2 hc
    by_cases hn:op.data.toList=bI
    ·have dn:(op.toList==[110,97,109,101])=true:=by rw[ByteArray.toList_eq,hn];rfl
     by_cases h0:kk=0
     ·subst h0
      have HF:Hid (fU (bL vs) (.mk op n s l)=false):=by unfold Hid;unfold fU;rw[←hfb,ec,hn,←hkk];rfl
      clear hfb hkk hc hn ec
      go_enter Tryz.func86,Tryz.ntmps86
      go_upto_region 1 with fail
      rw[HW1.out.1,HW1.out.2]
      go_wp2_with (first | (go_at_call 133;refine(HFO.out).mono ?_;rintro e w2 ⟨rfl,hb2⟩;have HB2:=aA hb2;clear hb2;obtain⟨a0,a1,a2,a3⟩:=HC.out w2 HB2.out) | (go_at_call 85;refine(HKI.out w2 HB2.out).mono ?_;rintro e w3 ⟨rfl,rfl⟩) | fail)
      go_ret
      exact⟨by rw[HF.out];rfl,HB.out.1.trans (HB2.out.mono HB.out.1.size)⟩
     ·have HT:Hid ((cO op.toList n s.toList l.length&&!(op.data.toList==kD)&&!(op.data.toList==bI&&bL vs s.data.toList==0))=true):=by unfold Hid;rw[←hfb,ec,hn,←hkk];simpa using h0
      have d0:(kk==0)=false:=beq_eq_false_iff_ne.2 h0
      clear hfb hkk hc hn ec
      go_enter Tryz.func86,Tryz.ntmps86
      go_upto_region 1 with fail
      rw[HW1.out.1,HW1.out.2]
      go_wp2_with (first | (go_at_call 133;refine(HFO.out).mono ?_;rintro e w2 ⟨rfl,hb2⟩;have HB2:=aA hb2;clear hb2;obtain⟨a0,a1,a2,a3⟩:=HC.out w2 HB2.out) | (go_at_call 85;refine(HKI.out w2 HB2.out).mono ?_;rintro e w3 ⟨rfl,rfl⟩) | fail)
      go_loopw [5] (fun t wr=>∃(i:Nat),i≤l.length∧t=.int .i64 i∧Hid (gK (bL vs) (l.take i)=true)∧Hid (Bw w1 wr)) (fun t _=>l.length-(intOf t).toNat)
      case atStart=>exact⟨0,Nat.zero_le _,rfl,by simp [Hid,gK],HB2.out⟩
      case round=>
       obtain⟨i,hi,rfl,HI,HR⟩:=hrel
       obtain⟨a0,a1,a2,a3⟩:=HC.out wr HR.out
       by_cases hlt:i<l.length
       ·obtain⟨op',n',s',es,oo,cc,zs,e,x0,x1,x2,x3,r1,r2⟩:=H2.out.at hlt
        obtain⟨p,f,rfl,_,g⟩:=kZ H1.out (by have:=H1.out.1;omega)
        have hb:Bw w wr:=HB.out.1.trans (HR.out.mono HB.out.1.size)
        have x0:=aF hb (g _ _ x0)
        have x1:=aF hb (g _ _ x1)
        have x2:=aF hb (g _ _ x2)
        have x3:=aF hb (g _ _ x3)
        rw[←Nat.add_assoc] at x1 x2 x3
        have i0':(0:Int)≤(i:Int):=by omega
        have i1:(i:Int)<(l.length:Int):=by omega
        obtain⟨v,hv⟩:∃v,v=fU (bL vs) (.mk op' n' s' es):=⟨_,rfl⟩
        have Hr:Hid (Calls Tryz.prog 86 #[.agg #[.string op',.int .i64 n',.string s',.slice oo es.length cc],.slice vo vn vc] wr fun e w'=>e=.returned (.bool v)∧Bw wr w'):=by
         rw[hv]
         exact HV.out i hlt op' n' s' es e wr S S' oo vo cc vn vc zs (r1.keep (aP.below hb (fun k hk=>hk))) (r2.keep (aP.below hb (fun k hk=>hk))) HL.out.1 HL.out.2.1 (HL.out.2.2.keep (aP.below hb (fun k hk=>hk)))
        have hi1:l[i]?=some (.mk op' n' s' es):=by rw[List.getElem?_eq_getElem hlt,e]
        have HBR:=aA hb
        have N4:Hid (wrap64 ((i:Int)+1)=(i:Int)+1):=by have:=H1.out.len;unfold maxLen at this;unfold Hid wrap64;omega
        have HJ:=aA hlt
        cases v with
        | true=>
         have HN:Hid (gK (bL vs) (l.take (i+1))=true):=vW hi1 HI.out hv.symm
         clear g e r1 r2 hv hi1 hb hlt hi
         go_wp2_with (first | (go_at_call 86;refine Hr.out.mono ?_;rintro e w4 ⟨rfl,hb4⟩) | fail)
         exact⟨⟨i+1,HJ.out,by rw[N4.out];rfl,HN.out,HR.out.trans (hb4.mono HR.out.size)⟩,by rw[N4.out];have:=HJ.out;simp [intOf];omega⟩
        | false=>
         have HN:Hid (fU (bL vs) (.mk op n s l)=false):=by unfold Hid;unfold fU;rw[vX hi1 hv.symm,Bool.and_false]
         clear g e r1 r2 hv hi1 hb hlt hi
         go_wp2_with (first | (go_at_call 86;refine Hr.out.mono ?_;rintro e w4 ⟨rfl,hb4⟩) | fail)
         go_ret
         exact⟨by rw[HN.out];rfl,HBR.out.trans (hb4.mono HBR.out.size)⟩
       ·obtain rfl:i=l.length:=by omega
        rw[List.take_length] at HI
        have HN:Hid (fU (bL vs) (.mk op n s l)=true):=by
         unfold Hid;unfold fU
         rw[HI.out,Bool.and_true]
         exact HT.out
        have HBR:Hid (Bw w wr):=HB.out.1.trans (HR.out.mono HB.out.1.size)
        clear hi hlt
        go_wp2
        go_ret
        exact⟨by rw[HN.out];rfl,HBR.out⟩
    ·have dn:(op.toList==[110,97,109,101])=false:=by rw[ByteArray.toList_eq];exact beq_eq_false_iff_ne.2 hn
     have en:(op.data.toList==bI)=false:=beq_eq_false_iff_ne.2 hn
     have HT:Hid ((cO op.toList n s.toList l.length&&!(op.data.toList==kD)&&!(op.data.toList==bI&&bL vs s.data.toList==0))=true):=by unfold Hid;rw[←hfb,ec,en];rfl
     clear hfb hkk hc hn ec en
     go_enter Tryz.func86,Tryz.ntmps86
     go_upto_region 1 with fail
     rw[HW1.out.1,HW1.out.2]
     go_wp2_with (first | (go_at_call 133;refine(HFO.out).mono ?_;rintro e w2 ⟨rfl,hb2⟩;have HB2:=aA hb2;clear hb2;obtain⟨a0,a1,a2,a3⟩:=HC.out w2 HB2.out) | (go_at_call 85;refine(HKI.out w2 HB2.out).mono ?_;rintro e w3 ⟨rfl,rfl⟩) | fail)
     go_loopw [5] (fun t wr=>∃(i:Nat),i≤l.length∧t=.int .i64 i∧Hid (gK (bL vs) (l.take i)=true)∧Hid (Bw w1 wr)) (fun t _=>l.length-(intOf t).toNat)
     case atStart=>exact⟨0,Nat.zero_le _,rfl,by simp [Hid,gK],HB2.out⟩
     case round=>
      obtain⟨i,hi,rfl,HI,HR⟩:=hrel
      obtain⟨a0,a1,a2,a3⟩:=HC.out wr HR.out
      by_cases hlt:i<l.length
      ·obtain⟨op',n',s',es,oo,cc,zs,e,x0,x1,x2,x3,r1,r2⟩:=H2.out.at hlt
       obtain⟨p,f,rfl,_,g⟩:=kZ H1.out (by have:=H1.out.1;omega)
       have hb:Bw w wr:=HB.out.1.trans (HR.out.mono HB.out.1.size)
       have x0:=aF hb (g _ _ x0)
       have x1:=aF hb (g _ _ x1)
       have x2:=aF hb (g _ _ x2)
       have x3:=aF hb (g _ _ x3)
       rw[←Nat.add_assoc] at x1 x2 x3
       have i0':(0:Int)≤(i:Int):=by omega
       have i1:(i:Int)<(l.length:Int):=by omega
       obtain⟨v,hv⟩:∃v,v=fU (bL vs) (.mk op' n' s' es):=⟨_,rfl⟩
       have Hr:Hid (Calls Tryz.prog 86 #[.agg #[.string op',.int .i64 n',.string s',.slice oo es.length cc],.slice vo vn vc] wr fun e w'=>e=.returned (.bool v)∧Bw wr w'):=by
        rw[hv]
        exact HV.out i hlt op' n' s' es e wr S S' oo vo cc vn vc zs (r1.keep (aP.below hb (fun k hk=>hk))) (r2.keep (aP.below hb (fun k hk=>hk))) HL.out.1 HL.out.2.1 (HL.out.2.2.keep (aP.below hb (fun k hk=>hk)))
       have hi1:l[i]?=some (.mk op' n' s' es):=by rw[List.getElem?_eq_getElem hlt,e]
       have HBR:=aA hb
       have N4:Hid (wrap64 ((i:Int)+1)=(i:Int)+1):=by have:=H1.out.len;unfold maxLen at this;unfold Hid wrap64;omega
       have HJ:=aA hlt
       cases v with
       | true=>
        have HN:Hid (gK (bL vs) (l.take (i+1))=true):=vW hi1 HI.out hv.symm
        clear g e r1 r2 hv hi1 hb hlt hi
        go_wp2_with (first | (go_at_call 86;refine Hr.out.mono ?_;rintro e w4 ⟨rfl,hb4⟩) | fail)
        exact⟨⟨i+1,HJ.out,by rw[N4.out];rfl,HN.out,HR.out.trans (hb4.mono HR.out.size)⟩,by rw[N4.out];have:=HJ.out;simp [intOf];omega⟩
       | false=>
        have HN:Hid (fU (bL vs) (.mk op n s l)=false):=by unfold Hid;unfold fU;rw[vX hi1 hv.symm,Bool.and_false]
        clear g e r1 r2 hv hi1 hb hlt hi
        go_wp2_with (first | (go_at_call 86;refine Hr.out.mono ?_;rintro e w4 ⟨rfl,hb4⟩) | fail)
        go_ret
        exact⟨by rw[HN.out];rfl,HBR.out.trans (hb4.mono HBR.out.size)⟩
      ·obtain rfl:i=l.length:=by omega
       rw[List.take_length] at HI
       have HN:Hid (fU (bL vs) (.mk op n s l)=true):=by
        unfold Hid;unfold fU
        rw[HI.out,Bool.and_true]
        exact HT.out
       have HBR:Hid (Bw w wr):=HB.out.1.trans (HR.out.mono HB.out.1.size)
       clear hi hlt
       go_wp2
       go_ret
       exact⟨by rw[HN.out];rfl,HBR.out⟩
end Go.Proofs.YtmgfakcccfahaaaGreatDoor
