/-
  THE DOCUMENT's OPERATORS: lustrumref1.Result BY CONTRACT, of the operators that are applied, of right kinds.
-/
import Derived.Test.YtmgfakcccfahaaaGreatDoorN01
namespace Go.Proofs.YtmgfakcccfahaaaGreatDoor
open Go.RowKit
set_option maxRecDepth 100000

def fO(w:World)(v:Value)(l:List Int):Prop:=l.length≤maxLen∧∃o c,v=.slice o l.length c∧∀k x,l[k]?=some x→∃b off,o=some ⟨b,off,none⟩∧w.cell? ⟨b,off+k,none⟩=some (.int .i64 x)
theorem iA{B:Nat}{a w:World}(h:Below B a w)(n:Nat):Below B a (w.drewN n):=⟨h.os,h.tape,h.output,h.size,h.block⟩
def aV(x y a b:Int):Int:=if a=b∧(x=0∨b=x) then y else 0
def y8(a b c:Int):Int:=if a=1∧b=c then c else 0
theorem I8(op:ByteArray)(w:World)(ht:op.toList=[110,111,116])(v:Value)(a:Int)(hv:fO w v [a])(ha:a=1∨a=2) :
  Calls Tryz.prog 70 #[.string op,v] w fun e w'=>e=.returned (.int .i64 (aV 1 1 a a))∧w'=w:=by
 obtain⟨hl,o,c,rfl,hc⟩:=hv
 obtain⟨b0,off,rfl,x0⟩:=hc 0 a rfl
 clear hc hl
 simp only[Nat.add_zero] at x0
 rcases ha with rfl | rfl
 ·go_enter Tryz.func70,Tryz.ntmps70
  go_wp2
  go_ret
  exact⟨by first | rfl | decide,rfl⟩
 ·go_enter Tryz.func70,Tryz.ntmps70
  go_wp2
  go_ret
  exact⟨by first | rfl | decide,rfl⟩
theorem I9(op:ByteArray)(w:World)(ht:op.toList=[110,101,103])(v:Value)(a:Int)(hv:fO w v [a])(ha:a=1∨a=2) :
  Calls Tryz.prog 70 #[.string op,v] w fun e w'=>e=.returned (.int .i64 (aV 2 2 a a))∧w'=w:=by
 obtain⟨hl,o,c,rfl,hc⟩:=hv
 obtain⟨b0,off,rfl,x0⟩:=hc 0 a rfl
 clear hc hl
 simp only[Nat.add_zero] at x0
 rcases ha with rfl | rfl
 ·go_enter Tryz.func70,Tryz.ntmps70
  go_wp2
  go_ret
  exact⟨by first | rfl | decide,rfl⟩
 ·go_enter Tryz.func70,Tryz.ntmps70
  go_wp2
  go_ret
  exact⟨by first | rfl | decide,rfl⟩
theorem Jg(op:ByteArray)(w:World)(ht:op.toList=[105,102])(v:Value)(a b d:Int)(hv:fO w v [a,b,d])(ha:a=1∨a=2)(hb:b=1∨b=2)(hd:d=1∨d=2) :
  Calls Tryz.prog 70 #[.string op,v] w fun e w'=>e=.returned (.int .i64 (y8 a b d))∧Bw w w':=by
 obtain⟨hl,o,c,rfl,hc⟩:=hv
 obtain⟨b0,off,rfl,x0⟩:=hc 0 a rfl
 obtain⟨b1,bW,e1,x1⟩:=hc 1 b rfl
 obtain⟨rfl,rfl⟩:b0=b1∧off=bW:=by simpa using e1
 obtain⟨b1,bW,e2,x2⟩:=hc 2 d rfl
 obtain⟨rfl,rfl⟩:b0=b1∧off=bW:=by simpa using e2
 clear hc hl e1 e2
 simp only[Nat.add_zero] at x0
 rcases ha with rfl | rfl<;>rcases hb with rfl | rfl<;>rcases hd with rfl | rfl
 ·go_enter Tryz.func70,Tryz.ntmps70
  go_wp2
  go_quiet (fail)
  go_wp2
  go_ret
  refine⟨by first | rfl | decide,?_⟩
  exact iA (Below.refl _ _) _
 ·go_enter Tryz.func70,Tryz.ntmps70
  go_wp2
  go_quiet (fail)
  go_wp2
  go_ret
  refine⟨by first | rfl | decide,?_⟩
  exact iA (Below.refl _ _) _
 ·go_enter Tryz.func70,Tryz.ntmps70
  go_wp2
  go_quiet (fail)
  go_wp2
  go_ret
  refine⟨by first | rfl | decide,?_⟩
  exact iA (Below.refl _ _) _
 ·go_enter Tryz.func70,Tryz.ntmps70
  go_wp2
  go_quiet (fail)
  go_wp2
  go_ret
  refine⟨by first | rfl | decide,?_⟩
  exact iA (Below.refl _ _) _
 ·go_enter Tryz.func70,Tryz.ntmps70
  go_wp2
  go_quiet (fail)
  go_wp2
  go_ret
  refine⟨by first | rfl | decide,?_⟩
  exact iA (Below.refl _ _) _
 ·go_enter Tryz.func70,Tryz.ntmps70
  go_wp2
  go_quiet (fail)
  go_wp2
  go_ret
  refine⟨by first | rfl | decide,?_⟩
  exact iA (Below.refl _ _) _
 ·go_enter Tryz.func70,Tryz.ntmps70
  go_wp2
  go_quiet (fail)
  go_wp2
  go_ret
  refine⟨by first | rfl | decide,?_⟩
  exact iA (Below.refl _ _) _
 ·go_enter Tryz.func70,Tryz.ntmps70
  go_wp2
  go_quiet (fail)
  go_wp2
  go_ret
  refine⟨by first | rfl | decide,?_⟩
  exact iA (Below.refl _ _) _
theorem Jo(op:ByteArray)(w:World)(ht:op.toList=[97,110,100])(v:Value)(a b:Int)(hv:fO w v [a,b])(ha:a=1∨a=2)(hb:b=1∨b=2) :
  Calls Tryz.prog 70 #[.string op,v] w fun e w'=>e=.returned (.int .i64 (aV 1 1 a b))∧w'=w:=by
 obtain⟨hl,o,c,rfl,hc⟩:=hv
 obtain⟨b0,off,rfl,x0⟩:=hc 0 a rfl
 obtain⟨b1,bW,e1,x1⟩:=hc 1 b rfl
 obtain⟨rfl,rfl⟩:b0=b1∧off=bW:=by simpa using e1
 clear hc hl e1
 simp only[Nat.add_zero] at x0
 rcases ha with rfl | rfl<;>rcases hb with rfl | rfl
 ·go_enter Tryz.func70,Tryz.ntmps70
  go_wp2
  go_ret
  exact⟨by first | rfl | decide,rfl⟩
 ·go_enter Tryz.func70,Tryz.ntmps70
  go_wp2
  go_ret
  exact⟨by first | rfl | decide,rfl⟩
 ·go_enter Tryz.func70,Tryz.ntmps70
  go_wp2
  go_ret
  exact⟨by first | rfl | decide,rfl⟩
 ·go_enter Tryz.func70,Tryz.ntmps70
  go_wp2
  go_ret
  exact⟨by first | rfl | decide,rfl⟩
theorem I7(op:ByteArray)(w:World)(ht:op.toList=[111,114])(v:Value)(a b:Int)(hv:fO w v [a,b])(ha:a=1∨a=2)(hb:b=1∨b=2) :
  Calls Tryz.prog 70 #[.string op,v] w fun e w'=>e=.returned (.int .i64 (aV 1 1 a b))∧w'=w:=by
 obtain⟨hl,o,c,rfl,hc⟩:=hv
 obtain⟨b0,off,rfl,x0⟩:=hc 0 a rfl
 obtain⟨b1,bW,e1,x1⟩:=hc 1 b rfl
 obtain⟨rfl,rfl⟩:b0=b1∧off=bW:=by simpa using e1
 clear hc hl e1
 simp only[Nat.add_zero] at x0
 rcases ha with rfl | rfl<;>rcases hb with rfl | rfl
 ·go_enter Tryz.func70,Tryz.ntmps70
  go_wp2
  go_ret
  exact⟨by first | rfl | decide,rfl⟩
 ·go_enter Tryz.func70,Tryz.ntmps70
  go_wp2
  go_ret
  exact⟨by first | rfl | decide,rfl⟩
 ·go_enter Tryz.func70,Tryz.ntmps70
  go_wp2
  go_ret
  exact⟨by first | rfl | decide,rfl⟩
 ·go_enter Tryz.func70,Tryz.ntmps70
  go_wp2
  go_ret
  exact⟨by first | rfl | decide,rfl⟩
theorem IZ(op:ByteArray)(w:World)(ht:op.toList=[120,111,114])(v:Value)(a b:Int)(hv:fO w v [a,b])(ha:a=1∨a=2)(hb:b=1∨b=2) :
  Calls Tryz.prog 70 #[.string op,v] w fun e w'=>e=.returned (.int .i64 (aV 1 1 a b))∧w'=w:=by
 obtain⟨hl,o,c,rfl,hc⟩:=hv
 obtain⟨b0,off,rfl,x0⟩:=hc 0 a rfl
 obtain⟨b1,bW,e1,x1⟩:=hc 1 b rfl
 obtain⟨rfl,rfl⟩:b0=b1∧off=bW:=by simpa using e1
 clear hc hl e1
 simp only[Nat.add_zero] at x0
 rcases ha with rfl | rfl<;>rcases hb with rfl | rfl
 ·go_enter Tryz.func70,Tryz.ntmps70
  go_wp2
  go_ret
  exact⟨by first | rfl | decide,rfl⟩
 ·go_enter Tryz.func70,Tryz.ntmps70
  go_wp2
  go_ret
  exact⟨by first | rfl | decide,rfl⟩
 ·go_enter Tryz.func70,Tryz.ntmps70
  go_wp2
  go_ret
  exact⟨by first | rfl | decide,rfl⟩
 ·go_enter Tryz.func70,Tryz.ntmps70
  go_wp2
  go_ret
  exact⟨by first | rfl | decide,rfl⟩
theorem Jf(op:ByteArray)(w:World)(ht:op.toList=[61,62])(v:Value)(a b:Int)(hv:fO w v [a,b])(ha:a=1∨a=2)(hb:b=1∨b=2) :
  Calls Tryz.prog 70 #[.string op,v] w fun e w'=>e=.returned (.int .i64 (aV 1 1 a b))∧w'=w:=by
 obtain⟨hl,o,c,rfl,hc⟩:=hv
 obtain⟨b0,off,rfl,x0⟩:=hc 0 a rfl
 obtain⟨b1,bW,e1,x1⟩:=hc 1 b rfl
 obtain⟨rfl,rfl⟩:b0=b1∧off=bW:=by simpa using e1
 clear hc hl e1
 simp only[Nat.add_zero] at x0
 rcases ha with rfl | rfl<;>rcases hb with rfl | rfl
 ·go_enter Tryz.func70,Tryz.ntmps70
  go_wp2
  go_ret
  exact⟨by first | rfl | decide,rfl⟩
 ·go_enter Tryz.func70,Tryz.ntmps70
  go_wp2
  go_ret
  exact⟨by first | rfl | decide,rfl⟩
 ·go_enter Tryz.func70,Tryz.ntmps70
  go_wp2
  go_ret
  exact⟨by first | rfl | decide,rfl⟩
 ·go_enter Tryz.func70,Tryz.ntmps70
  go_wp2
  go_ret
  exact⟨by first | rfl | decide,rfl⟩
theorem Jk(op:ByteArray)(w:World)(ht:op.toList=[61])(v:Value)(a b:Int)(hv:fO w v [a,b])(ha:a=1∨a=2)(hb:b=1∨b=2) :
  Calls Tryz.prog 70 #[.string op,v] w fun e w'=>e=.returned (.int .i64 (aV 0 1 a b))∧w'=w:=by
 obtain⟨hl,o,c,rfl,hc⟩:=hv
 obtain⟨b0,off,rfl,x0⟩:=hc 0 a rfl
 obtain⟨b1,bW,e1,x1⟩:=hc 1 b rfl
 obtain⟨rfl,rfl⟩:b0=b1∧off=bW:=by simpa using e1
 clear hc hl e1
 simp only[Nat.add_zero] at x0
 rcases ha with rfl | rfl<;>rcases hb with rfl | rfl
 ·go_enter Tryz.func70,Tryz.ntmps70
  go_wp2
  go_ret
  exact⟨by first | rfl | decide,rfl⟩
 ·go_enter Tryz.func70,Tryz.ntmps70
  go_wp2
  go_ret
  exact⟨by first | rfl | decide,rfl⟩
 ·go_enter Tryz.func70,Tryz.ntmps70
  go_wp2
  go_ret
  exact⟨by first | rfl | decide,rfl⟩
 ·go_enter Tryz.func70,Tryz.ntmps70
  go_wp2
  go_ret
  exact⟨by first | rfl | decide,rfl⟩
theorem Ja(op:ByteArray)(w:World)(ht:op.toList=[60,62])(v:Value)(a b:Int)(hv:fO w v [a,b])(ha:a=1∨a=2)(hb:b=1∨b=2) :
  Calls Tryz.prog 70 #[.string op,v] w fun e w'=>e=.returned (.int .i64 (aV 0 1 a b))∧w'=w:=by
 obtain⟨hl,o,c,rfl,hc⟩:=hv
 obtain⟨b0,off,rfl,x0⟩:=hc 0 a rfl
 obtain⟨b1,bW,e1,x1⟩:=hc 1 b rfl
 obtain⟨rfl,rfl⟩:b0=b1∧off=bW:=by simpa using e1
 clear hc hl e1
 simp only[Nat.add_zero] at x0
 rcases ha with rfl | rfl<;>rcases hb with rfl | rfl
 ·go_enter Tryz.func70,Tryz.ntmps70
  go_wp2
  go_ret
  exact⟨by first | rfl | decide,rfl⟩
 ·go_enter Tryz.func70,Tryz.ntmps70
  go_wp2
  go_ret
  exact⟨by first | rfl | decide,rfl⟩
 ·go_enter Tryz.func70,Tryz.ntmps70
  go_wp2
  go_ret
  exact⟨by first | rfl | decide,rfl⟩
 ·go_enter Tryz.func70,Tryz.ntmps70
  go_wp2
  go_ret
  exact⟨by first | rfl | decide,rfl⟩
theorem Jd(op:ByteArray)(w:World)(ht:op.toList=[60])(v:Value)(a b:Int)(hv:fO w v [a,b])(ha:a=1∨a=2)(hb:b=1∨b=2) :
  Calls Tryz.prog 70 #[.string op,v] w fun e w'=>e=.returned (.int .i64 (aV 2 1 a b))∧w'=w:=by
 obtain⟨hl,o,c,rfl,hc⟩:=hv
 obtain⟨b0,off,rfl,x0⟩:=hc 0 a rfl
 obtain⟨b1,bW,e1,x1⟩:=hc 1 b rfl
 obtain⟨rfl,rfl⟩:b0=b1∧off=bW:=by simpa using e1
 clear hc hl e1
 simp only[Nat.add_zero] at x0
 rcases ha with rfl | rfl<;>rcases hb with rfl | rfl
 ·go_enter Tryz.func70,Tryz.ntmps70
  go_wp2
  go_ret
  exact⟨by first | rfl | decide,rfl⟩
 ·go_enter Tryz.func70,Tryz.ntmps70
  go_wp2
  go_ret
  exact⟨by first | rfl | decide,rfl⟩
 ·go_enter Tryz.func70,Tryz.ntmps70
  go_wp2
  go_ret
  exact⟨by first | rfl | decide,rfl⟩
 ·go_enter Tryz.func70,Tryz.ntmps70
  go_wp2
  go_ret
  exact⟨by first | rfl | decide,rfl⟩
theorem Je(op:ByteArray)(w:World)(ht:op.toList=[60,61])(v:Value)(a b:Int)(hv:fO w v [a,b])(ha:a=1∨a=2)(hb:b=1∨b=2) :
  Calls Tryz.prog 70 #[.string op,v] w fun e w'=>e=.returned (.int .i64 (aV 2 1 a b))∧w'=w:=by
 obtain⟨hl,o,c,rfl,hc⟩:=hv
 obtain⟨b0,off,rfl,x0⟩:=hc 0 a rfl
 obtain⟨b1,bW,e1,x1⟩:=hc 1 b rfl
 obtain⟨rfl,rfl⟩:b0=b1∧off=bW:=by simpa using e1
 clear hc hl e1
 simp only[Nat.add_zero] at x0
 rcases ha with rfl | rfl<;>rcases hb with rfl | rfl
 ·go_enter Tryz.func70,Tryz.ntmps70
  go_wp2
  go_ret
  exact⟨by first | rfl | decide,rfl⟩
 ·go_enter Tryz.func70,Tryz.ntmps70
  go_wp2
  go_ret
  exact⟨by first | rfl | decide,rfl⟩
 ·go_enter Tryz.func70,Tryz.ntmps70
  go_wp2
  go_ret
  exact⟨by first | rfl | decide,rfl⟩
 ·go_enter Tryz.func70,Tryz.ntmps70
  go_wp2
  go_ret
  exact⟨by first | rfl | decide,rfl⟩
theorem Jh(op:ByteArray)(w:World)(ht:op.toList=[62])(v:Value)(a b:Int)(hv:fO w v [a,b])(ha:a=1∨a=2)(hb:b=1∨b=2) :
  Calls Tryz.prog 70 #[.string op,v] w fun e w'=>e=.returned (.int .i64 (aV 2 1 a b))∧w'=w:=by
 obtain⟨hl,o,c,rfl,hc⟩:=hv
 obtain⟨b0,off,rfl,x0⟩:=hc 0 a rfl
 obtain⟨b1,bW,e1,x1⟩:=hc 1 b rfl
 obtain⟨rfl,rfl⟩:b0=b1∧off=bW:=by simpa using e1
 clear hc hl e1
 simp only[Nat.add_zero] at x0
 rcases ha with rfl | rfl<;>rcases hb with rfl | rfl
 ·go_enter Tryz.func70,Tryz.ntmps70
  go_wp2
  go_ret
  exact⟨by first | rfl | decide,rfl⟩
 ·go_enter Tryz.func70,Tryz.ntmps70
  go_wp2
  go_ret
  exact⟨by first | rfl | decide,rfl⟩
 ·go_enter Tryz.func70,Tryz.ntmps70
  go_wp2
  go_ret
  exact⟨by first | rfl | decide,rfl⟩
 ·go_enter Tryz.func70,Tryz.ntmps70
  go_wp2
  go_ret
  exact⟨by first | rfl | decide,rfl⟩
theorem Ji(op:ByteArray)(w:World)(ht:op.toList=[62,61])(v:Value)(a b:Int)(hv:fO w v [a,b])(ha:a=1∨a=2)(hb:b=1∨b=2) :
  Calls Tryz.prog 70 #[.string op,v] w fun e w'=>e=.returned (.int .i64 (aV 2 1 a b))∧w'=w:=by
 obtain⟨hl,o,c,rfl,hc⟩:=hv
 obtain⟨b0,off,rfl,x0⟩:=hc 0 a rfl
 obtain⟨b1,bW,e1,x1⟩:=hc 1 b rfl
 obtain⟨rfl,rfl⟩:b0=b1∧off=bW:=by simpa using e1
 clear hc hl e1
 simp only[Nat.add_zero] at x0
 rcases ha with rfl | rfl<;>rcases hb with rfl | rfl
 ·go_enter Tryz.func70,Tryz.ntmps70
  go_wp2
  go_ret
  exact⟨by first | rfl | decide,rfl⟩
 ·go_enter Tryz.func70,Tryz.ntmps70
  go_wp2
  go_ret
  exact⟨by first | rfl | decide,rfl⟩
 ·go_enter Tryz.func70,Tryz.ntmps70
  go_wp2
  go_ret
  exact⟨by first | rfl | decide,rfl⟩
 ·go_enter Tryz.func70,Tryz.ntmps70
  go_wp2
  go_ret
  exact⟨by first | rfl | decide,rfl⟩
theorem Jp(op:ByteArray)(w:World)(ht:op.toList=[43])(v:Value)(a b:Int)(hv:fO w v [a,b])(ha:a=1∨a=2)(hb:b=1∨b=2) :
  Calls Tryz.prog 70 #[.string op,v] w fun e w'=>e=.returned (.int .i64 (aV 2 2 a b))∧w'=w:=by
 obtain⟨hl,o,c,rfl,hc⟩:=hv
 obtain⟨b0,off,rfl,x0⟩:=hc 0 a rfl
 obtain⟨b1,bW,e1,x1⟩:=hc 1 b rfl
 obtain⟨rfl,rfl⟩:b0=b1∧off=bW:=by simpa using e1
 clear hc hl e1
 simp only[Nat.add_zero] at x0
 rcases ha with rfl | rfl<;>rcases hb with rfl | rfl
 ·go_enter Tryz.func70,Tryz.ntmps70
  go_wp2
  go_ret
  exact⟨by first | rfl | decide,rfl⟩
 ·go_enter Tryz.func70,Tryz.ntmps70
  go_wp2
  go_ret
  exact⟨by first | rfl | decide,rfl⟩
 ·go_enter Tryz.func70,Tryz.ntmps70
  go_wp2
  go_ret
  exact⟨by first | rfl | decide,rfl⟩
 ·go_enter Tryz.func70,Tryz.ntmps70
  go_wp2
  go_ret
  exact⟨by first | rfl | decide,rfl⟩
theorem I4(op:ByteArray)(w:World)(ht:op.toList=[45])(v:Value)(a b:Int)(hv:fO w v [a,b])(ha:a=1∨a=2)(hb:b=1∨b=2) :
  Calls Tryz.prog 70 #[.string op,v] w fun e w'=>e=.returned (.int .i64 (aV 2 2 a b))∧w'=w:=by
 obtain⟨hl,o,c,rfl,hc⟩:=hv
 obtain⟨b0,off,rfl,x0⟩:=hc 0 a rfl
 obtain⟨b1,bW,e1,x1⟩:=hc 1 b rfl
 obtain⟨rfl,rfl⟩:b0=b1∧off=bW:=by simpa using e1
 clear hc hl e1
 simp only[Nat.add_zero] at x0
 rcases ha with rfl | rfl<;>rcases hb with rfl | rfl
 ·go_enter Tryz.func70,Tryz.ntmps70
  go_wp2
  go_ret
  exact⟨by first | rfl | decide,rfl⟩
 ·go_enter Tryz.func70,Tryz.ntmps70
  go_wp2
  go_ret
  exact⟨by first | rfl | decide,rfl⟩
 ·go_enter Tryz.func70,Tryz.ntmps70
  go_wp2
  go_ret
  exact⟨by first | rfl | decide,rfl⟩
 ·go_enter Tryz.func70,Tryz.ntmps70
  go_wp2
  go_ret
  exact⟨by first | rfl | decide,rfl⟩
theorem Jb(op:ByteArray)(w:World)(ht:op.toList=[42])(v:Value)(a b:Int)(hv:fO w v [a,b])(ha:a=1∨a=2)(hb:b=1∨b=2) :
  Calls Tryz.prog 70 #[.string op,v] w fun e w'=>e=.returned (.int .i64 (aV 2 2 a b))∧w'=w:=by
 obtain⟨hl,o,c,rfl,hc⟩:=hv
 obtain⟨b0,off,rfl,x0⟩:=hc 0 a rfl
 obtain⟨b1,bW,e1,x1⟩:=hc 1 b rfl
 obtain⟨rfl,rfl⟩:b0=b1∧off=bW:=by simpa using e1
 clear hc hl e1
 simp only[Nat.add_zero] at x0
 rcases ha with rfl | rfl<;>rcases hb with rfl | rfl
 ·go_enter Tryz.func70,Tryz.ntmps70
  go_wp2
  go_ret
  exact⟨by first | rfl | decide,rfl⟩
 ·go_enter Tryz.func70,Tryz.ntmps70
  go_wp2
  go_ret
  exact⟨by first | rfl | decide,rfl⟩
 ·go_enter Tryz.func70,Tryz.ntmps70
  go_wp2
  go_ret
  exact⟨by first | rfl | decide,rfl⟩
 ·go_enter Tryz.func70,Tryz.ntmps70
  go_wp2
  go_ret
  exact⟨by first | rfl | decide,rfl⟩
theorem Jl(op:ByteArray)(w:World)(ht:op.toList=[47])(v:Value)(a b:Int)(hv:fO w v [a,b])(ha:a=1∨a=2)(hb:b=1∨b=2) :
  Calls Tryz.prog 70 #[.string op,v] w fun e w'=>e=.returned (.int .i64 (aV 2 2 a b))∧w'=w:=by
 obtain⟨hl,o,c,rfl,hc⟩:=hv
 obtain⟨b0,off,rfl,x0⟩:=hc 0 a rfl
 obtain⟨b1,bW,e1,x1⟩:=hc 1 b rfl
 obtain⟨rfl,rfl⟩:b0=b1∧off=bW:=by simpa using e1
 clear hc hl e1
 simp only[Nat.add_zero] at x0
 rcases ha with rfl | rfl<;>rcases hb with rfl | rfl
 ·go_enter Tryz.func70,Tryz.ntmps70
  go_wp2
  go_ret
  exact⟨by first | rfl | decide,rfl⟩
 ·go_enter Tryz.func70,Tryz.ntmps70
  go_wp2
  go_ret
  exact⟨by first | rfl | decide,rfl⟩
 ·go_enter Tryz.func70,Tryz.ntmps70
  go_wp2
  go_ret
  exact⟨by first | rfl | decide,rfl⟩
 ·go_enter Tryz.func70,Tryz.ntmps70
  go_wp2
  go_ret
  exact⟨by first | rfl | decide,rfl⟩
theorem Jc(op:ByteArray)(w:World)(ht:op.toList=[109,111,100])(v:Value)(a b:Int)(hv:fO w v [a,b])(ha:a=1∨a=2)(hb:b=1∨b=2) :
  Calls Tryz.prog 70 #[.string op,v] w fun e w'=>e=.returned (.int .i64 (aV 2 2 a b))∧w'=w:=by
 obtain⟨hl,o,c,rfl,hc⟩:=hv
 obtain⟨b0,off,rfl,x0⟩:=hc 0 a rfl
 obtain⟨b1,bW,e1,x1⟩:=hc 1 b rfl
 obtain⟨rfl,rfl⟩:b0=b1∧off=bW:=by simpa using e1
 clear hc hl e1
 simp only[Nat.add_zero] at x0
 rcases ha with rfl | rfl<;>rcases hb with rfl | rfl
 ·go_enter Tryz.func70,Tryz.ntmps70
  go_wp2
  go_ret
  exact⟨by first | rfl | decide,rfl⟩
 ·go_enter Tryz.func70,Tryz.ntmps70
  go_wp2
  go_ret
  exact⟨by first | rfl | decide,rfl⟩
 ·go_enter Tryz.func70,Tryz.ntmps70
  go_wp2
  go_ret
  exact⟨by first | rfl | decide,rfl⟩
 ·go_enter Tryz.func70,Tryz.ntmps70
  go_wp2
  go_ret
  exact⟨by first | rfl | decide,rfl⟩
end Go.Proofs.YtmgfakcccfahaaaGreatDoor
