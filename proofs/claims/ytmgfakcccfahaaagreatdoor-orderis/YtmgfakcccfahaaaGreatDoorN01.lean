/-
  WHAT IS READ OF OLD MEMORY IS READ OF IT LATER.
-/
import Derived.Test.YtmgfakcccfahaaaGreatDoorChecked
import Derived.LoopTactic
import Derived.Below
import Derived.WalkKit
import Derived.Deep.RegionLaw
import Derived.Handy
import Derived.Deep.QuietTactic
import Derived.BigQuiet
import Derived.WalkSmall
import Derived.Test.YtmgfakcccfahaaaGreatDoorProg
import Derived.Deep.RegionHeld3
namespace Go.Proofs.YtmgfakcccfahaaaGreatDoor
open Go.RowKit
theorem aF{w w':World}(hb:Below w.heap.size w w'){p:Addr}{v:Value}(hc:w.cell? p=some v):w'.cell? p=some v:=by
 have hp:p.block<w.heap.size:=by
  rcases Nat.lt_or_ge p.block w.heap.size with h | h
  ·exact h
  ·simp [World.cell?,Array.getElem?_eq_none h] at hc
 rw[hb.cell hp];exact hc
theorem aG{w w':World}(hb:Below w.heap.size w w'){k:Nat}{o:Obj}(hc:w.heap[k]?=some o):w'.heap[k]?=some o:=by
 have hp:k<w.heap.size:=by
  rcases Nat.lt_or_ge k w.heap.size with h | h
  ·exact h
  ·simp [Array.getElem?_eq_none h] at hc
 rw[hb.block k hp];exact hc
theorem aA{p:Prop}(h:p):Hid p:=h
theorem aH{w:World}{o:Obj}:Below w.heap.size w (w.alloc o):=(Below.refl _ _).alloc (Nat.le_refl _) _
theorem cr{w:World}{b k:Nat}{cs:Array Value}{t:TypeId}{v:Value}(h:w.heap[b]?=some (.cells cs t (0,0)))(e:cs[k]?=some v):w.cell? ⟨b,k,none⟩=some v:=by
 rw[cell_of_row w _ _ _ _ (0,0) h];exact e
abbrev Bw(w w':World):Prop:=Below w.heap.size w w'
theorem mP{α:Type}{l:List α}{i:Nat}(h:i<l.length):l[i]?=some l[i]:=List.getElem?_eq_getElem h
theorem aX{α:Type}{l:List α}{i:Nat}{a:α}(h:l[i]?=some a):∃h:i<l.length,l[i]=a:=List.getElem?_eq_some_iff.1 h
theorem bE{α:Type}{l:Array α}{i:Nat}{a:α}(h:l[i]?=some a):∃h:i<l.size,l[i]=a:=Array.getElem?_eq_some_iff.1 h
theorem lX{P:Program}{ops:Array Oper}{o:Oper}{a:Act}{w:World}{K:Act→World→Prop}{Q:Exit→Act→World→Prop}{E:Prop}(hgd:o.guard=none)(f:FuncId)(vs:Array Value)(hrun:(execOp a.eval o).run P w=.ok (.enter f vs) w)
  (h:Calls P f vs w fun
   | .returned v,w'=>K (a.put o.dst v) w'
   | .panicked c,w'=>Q (.panic c) a w'
   | .outgrown,_=>LetsOut Q):if Region.wanted o (yielded ops a.tmps)=true then Oper.wp P o a w K Q else E:=by
 have hw:Region.wanted o (yielded ops a.tmps)=true:=by simp [Region.wanted,hgd]
 rw[if_pos hw]
 unfold Oper.wp
 rw[hrun]
 exact h
def uP(k n kind:Int):Bool:=if k=kind then (if kind=1 then (decide (n=0)||decide (n=1)) else (decide (kind=2)&&(decide (-129<n)&&decide (n<128)))) else false
def wM(w:World)(v:Value)(l:List (Int×Int)):Prop:=l.length≤maxLen∧∃o c,v=.slice o l.length c∧∀k x,l[k]?=some x→∃b off,o=some ⟨b,off,none⟩∧w.cell? ⟨b,off+k*2,none⟩=some (.int .i64 x.1)∧w.cell? ⟨b,off+k*2+1,none⟩=some (.int .i64 x.2)
set_option maxRecDepth 100000

def iW:List (List UInt8×Int):=[([105,110,116],0),([116,114,117,101],0),([102,97,108,115,101],0),([110,97,109,101],0),([105,102],3),([45,62],2),([102,98,121],2),([111,114],2),([120,111,114],2),([97,110,100],2),([110,111,116],1),([61],2),([60,62],2),([60],2),([60,61],2),([62],2),([62,61],2),([61,62],2),([43],2),([45],2),([42],2),([47],2),([109,111,100],2),([110,101,103],1),([112,114,101],1),([99,97,108,108],-1)]
theorem KX(op:ByteArray)(w:World)(ht:op.toList=[105,110,116]):Calls Tryz.prog 68 #[.string op] w fun e w'=>e=.returned (.tuple #[.int .i64 (0),.bool true])∧w'=w:=by
 go_enter Tryz.func68,Tryz.ntmps68
 go_wp2
 go_ret2
 exact⟨rfl,rfl⟩
theorem KL(op:ByteArray)(w:World)(ht:op.toList=[116,114,117,101]):Calls Tryz.prog 68 #[.string op] w fun e w'=>e=.returned (.tuple #[.int .i64 (0),.bool true])∧w'=w:=by
 go_enter Tryz.func68,Tryz.ntmps68
 go_wp2
 go_ret2
 exact⟨rfl,rfl⟩
theorem KC(op:ByteArray)(w:World)(ht:op.toList=[102,97,108,115,101]):Calls Tryz.prog 68 #[.string op] w fun e w'=>e=.returned (.tuple #[.int .i64 (0),.bool true])∧w'=w:=by
 go_enter Tryz.func68,Tryz.ntmps68
 go_wp2
 go_ret2
 exact⟨rfl,rfl⟩
theorem KA(op:ByteArray)(w:World)(ht:op.toList=[110,97,109,101]):Calls Tryz.prog 68 #[.string op] w fun e w'=>e=.returned (.tuple #[.int .i64 (0),.bool true])∧w'=w:=by
 go_enter Tryz.func68,Tryz.ntmps68
 go_wp2
 go_ret2
 exact⟨rfl,rfl⟩
theorem Kz(op:ByteArray)(w:World)(ht:op.toList=[105,102]):Calls Tryz.prog 68 #[.string op] w fun e w'=>e=.returned (.tuple #[.int .i64 (3),.bool true])∧w'=w:=by
 go_enter Tryz.func68,Tryz.ntmps68
 go_wp2
 go_ret2
 exact⟨rfl,rfl⟩
theorem Ky(op:ByteArray)(w:World)(ht:op.toList=[45,62]):Calls Tryz.prog 68 #[.string op] w fun e w'=>e=.returned (.tuple #[.int .i64 (2),.bool true])∧w'=w:=by
 go_enter Tryz.func68,Tryz.ntmps68
 go_wp2
 go_ret2
 exact⟨rfl,rfl⟩
theorem Kw(op:ByteArray)(w:World)(ht:op.toList=[102,98,121]):Calls Tryz.prog 68 #[.string op] w fun e w'=>e=.returned (.tuple #[.int .i64 (2),.bool true])∧w'=w:=by
 go_enter Tryz.func68,Tryz.ntmps68
 go_wp2
 go_ret2
 exact⟨rfl,rfl⟩
theorem Kv(op:ByteArray)(w:World)(ht:op.toList=[111,114]):Calls Tryz.prog 68 #[.string op] w fun e w'=>e=.returned (.tuple #[.int .i64 (2),.bool true])∧w'=w:=by
 go_enter Tryz.func68,Tryz.ntmps68
 go_wp2
 go_ret2
 exact⟨rfl,rfl⟩
theorem Ku(op:ByteArray)(w:World)(ht:op.toList=[120,111,114]):Calls Tryz.prog 68 #[.string op] w fun e w'=>e=.returned (.tuple #[.int .i64 (2),.bool true])∧w'=w:=by
 go_enter Tryz.func68,Tryz.ntmps68
 go_wp2
 go_ret2
 exact⟨rfl,rfl⟩
theorem KW(op:ByteArray)(w:World)(ht:op.toList=[97,110,100]):Calls Tryz.prog 68 #[.string op] w fun e w'=>e=.returned (.tuple #[.int .i64 (2),.bool true])∧w'=w:=by
 go_enter Tryz.func68,Tryz.ntmps68
 go_wp2
 go_ret2
 exact⟨rfl,rfl⟩
theorem KV(op:ByteArray)(w:World)(ht:op.toList=[110,111,116]):Calls Tryz.prog 68 #[.string op] w fun e w'=>e=.returned (.tuple #[.int .i64 (1),.bool true])∧w'=w:=by
 go_enter Tryz.func68,Tryz.ntmps68
 go_wp2
 go_ret2
 exact⟨rfl,rfl⟩
theorem KU(op:ByteArray)(w:World)(ht:op.toList=[61]):Calls Tryz.prog 68 #[.string op] w fun e w'=>e=.returned (.tuple #[.int .i64 (2),.bool true])∧w'=w:=by
 go_enter Tryz.func68,Tryz.ntmps68
 go_wp2
 go_ret2
 exact⟨rfl,rfl⟩
theorem KT(op:ByteArray)(w:World)(ht:op.toList=[60,62]):Calls Tryz.prog 68 #[.string op] w fun e w'=>e=.returned (.tuple #[.int .i64 (2),.bool true])∧w'=w:=by
 go_enter Tryz.func68,Tryz.ntmps68
 go_wp2
 go_ret2
 exact⟨rfl,rfl⟩
theorem KS(op:ByteArray)(w:World)(ht:op.toList=[60]):Calls Tryz.prog 68 #[.string op] w fun e w'=>e=.returned (.tuple #[.int .i64 (2),.bool true])∧w'=w:=by
 go_enter Tryz.func68,Tryz.ntmps68
 go_wp2
 go_ret2
 exact⟨rfl,rfl⟩
theorem KR(op:ByteArray)(w:World)(ht:op.toList=[60,61]):Calls Tryz.prog 68 #[.string op] w fun e w'=>e=.returned (.tuple #[.int .i64 (2),.bool true])∧w'=w:=by
 go_enter Tryz.func68,Tryz.ntmps68
 go_wp2
 go_ret2
 exact⟨rfl,rfl⟩
theorem KQ(op:ByteArray)(w:World)(ht:op.toList=[62]):Calls Tryz.prog 68 #[.string op] w fun e w'=>e=.returned (.tuple #[.int .i64 (2),.bool true])∧w'=w:=by
 go_enter Tryz.func68,Tryz.ntmps68
 go_wp2
 go_ret2
 exact⟨rfl,rfl⟩
theorem KO(op:ByteArray)(w:World)(ht:op.toList=[62,61]):Calls Tryz.prog 68 #[.string op] w fun e w'=>e=.returned (.tuple #[.int .i64 (2),.bool true])∧w'=w:=by
 go_enter Tryz.func68,Tryz.ntmps68
 go_wp2
 go_ret2
 exact⟨rfl,rfl⟩
theorem KN(op:ByteArray)(w:World)(ht:op.toList=[61,62]):Calls Tryz.prog 68 #[.string op] w fun e w'=>e=.returned (.tuple #[.int .i64 (2),.bool true])∧w'=w:=by
 go_enter Tryz.func68,Tryz.ntmps68
 go_wp2
 go_ret2
 exact⟨rfl,rfl⟩
theorem KM(op:ByteArray)(w:World)(ht:op.toList=[43]):Calls Tryz.prog 68 #[.string op] w fun e w'=>e=.returned (.tuple #[.int .i64 (2),.bool true])∧w'=w:=by
 go_enter Tryz.func68,Tryz.ntmps68
 go_wp2
 go_ret2
 exact⟨rfl,rfl⟩
theorem KJ(op:ByteArray)(w:World)(ht:op.toList=[45]):Calls Tryz.prog 68 #[.string op] w fun e w'=>e=.returned (.tuple #[.int .i64 (2),.bool true])∧w'=w:=by
 go_enter Tryz.func68,Tryz.ntmps68
 go_wp2
 go_ret2
 exact⟨rfl,rfl⟩
theorem KI(op:ByteArray)(w:World)(ht:op.toList=[42]):Calls Tryz.prog 68 #[.string op] w fun e w'=>e=.returned (.tuple #[.int .i64 (2),.bool true])∧w'=w:=by
 go_enter Tryz.func68,Tryz.ntmps68
 go_wp2
 go_ret2
 exact⟨rfl,rfl⟩
theorem KH(op:ByteArray)(w:World)(ht:op.toList=[47]):Calls Tryz.prog 68 #[.string op] w fun e w'=>e=.returned (.tuple #[.int .i64 (2),.bool true])∧w'=w:=by
 go_enter Tryz.func68,Tryz.ntmps68
 go_wp2
 go_ret2
 exact⟨rfl,rfl⟩
theorem KG(op:ByteArray)(w:World)(ht:op.toList=[109,111,100]):Calls Tryz.prog 68 #[.string op] w fun e w'=>e=.returned (.tuple #[.int .i64 (2),.bool true])∧w'=w:=by
 go_enter Tryz.func68,Tryz.ntmps68
 go_wp2
 go_ret2
 exact⟨rfl,rfl⟩
theorem KF(op:ByteArray)(w:World)(ht:op.toList=[110,101,103]):Calls Tryz.prog 68 #[.string op] w fun e w'=>e=.returned (.tuple #[.int .i64 (1),.bool true])∧w'=w:=by
 go_enter Tryz.func68,Tryz.ntmps68
 go_wp2
 go_ret2
 exact⟨rfl,rfl⟩
theorem KE(op:ByteArray)(w:World)(ht:op.toList=[112,114,101]):Calls Tryz.prog 68 #[.string op] w fun e w'=>e=.returned (.tuple #[.int .i64 (1),.bool true])∧w'=w:=by
 go_enter Tryz.func68,Tryz.ntmps68
 go_wp2
 go_ret2
 exact⟨rfl,rfl⟩
theorem KD(op:ByteArray)(w:World)(ht:op.toList=[99,97,108,108]):Calls Tryz.prog 68 #[.string op] w fun e w'=>e=.returned (.tuple #[.int .i64 (-1),.bool true])∧w'=w:=by
 go_enter Tryz.func68,Tryz.ntmps68
 go_wp2
 go_ret2
 exact⟨rfl,rfl⟩
theorem Kr(op:ByteArray)(w:World)(h1:(op.toList==[105,110,116])=false)(h2:(op.toList==[116,114,117,101])=false)(h3:(op.toList==[102,97,108,115,101])=false)(h4:(op.toList==[110,97,109,101])=false)(h5:(op.toList==[105,102])=false)(h6:(op.toList==[45,62])=false)(h7:(op.toList==[102,98,121])=false)(h8:(op.toList==[111,114])=false)(h9:(op.toList==[120,111,114])=false)(h10:(op.toList==[97,110,100])=false)(h11:(op.toList==[110,111,116])=false)(h12:(op.toList==[61])=false)(h13:(op.toList==[60,62])=false)(h14:(op.toList==[60])=false)(h15:(op.toList==[60,61])=false)(h16:(op.toList==[62])=false)(h17:(op.toList==[62,61])=false)(h18:(op.toList==[61,62])=false)(h19:(op.toList==[43])=false)(h20:(op.toList==[45])=false)(h21:(op.toList==[42])=false)(h22:(op.toList==[47])=false)(h23:(op.toList==[109,111,100])=false)(h24:(op.toList==[110,101,103])=false)(h25:(op.toList==[112,114,101])=false)(h26:(op.toList==[99,97,108,108])=false):Calls Tryz.prog 68 #[.string op] w fun e w'=>e=.returned (.tuple #[.int .i64 0,.bool false])∧w'=w:=by
 go_enter Tryz.func68,Tryz.ntmps68
 go_wp2
 go_ret2
 exact⟨rfl,rfl⟩
theorem Kt(op:ByteArray)(w:World)(t:List UInt8×Int)(h:t∈iW)(ht:op.toList=t.1):Calls Tryz.prog 68 #[.string op] w fun e w'=>e=.returned (.tuple #[.int .i64 t.2,.bool true])∧w'=w:=by
 simp only[iW,List.mem_cons,List.not_mem_nil,or_false] at h
 rcases h with rfl | rfl | rfl | rfl | rfl | rfl | rfl | rfl | rfl | rfl | rfl | rfl | rfl | rfl | rfl | rfl | rfl | rfl | rfl | rfl | rfl | rfl | rfl | rfl | rfl | rfl
 ·exact KX op w ht
 ·exact KL op w ht
 ·exact KC op w ht
 ·exact KA op w ht
 ·exact Kz op w ht
 ·exact Ky op w ht
 ·exact Kw op w ht
 ·exact Kv op w ht
 ·exact Ku op w ht
 ·exact KW op w ht
 ·exact KV op w ht
 ·exact KU op w ht
 ·exact KT op w ht
 ·exact KS op w ht
 ·exact KR op w ht
 ·exact KQ op w ht
 ·exact KO op w ht
 ·exact KN op w ht
 ·exact KM op w ht
 ·exact KJ op w ht
 ·exact KI op w ht
 ·exact KH op w ht
 ·exact KG op w ht
 ·exact KF op w ht
 ·exact KE op w ht
 ·exact KD op w ht
theorem Kq(op:ByteArray)(w:World)(h:∀t∈iW,op.toList≠t.1):Calls Tryz.prog 68 #[.string op] w fun e w'=>e=.returned (.tuple #[.int .i64 0,.bool false])∧w'=w:=
 have g:∀y c,(y,c)∈iW→(op.toList==y)=false:=fun y c hm=>beq_eq_false_iff_ne.2 (h _ hm)
 Kr op w (g _ 0 (by decide)) (g _ 0 (by decide)) (g _ 0 (by decide)) (g _ 0 (by decide)) (g _ 3 (by decide)) (g _ 2 (by decide)) (g _ 2 (by decide)) (g _ 2 (by decide)) (g _ 2 (by decide)) (g _ 2 (by decide)) (g _ 1 (by decide)) (g _ 2 (by decide)) (g _ 2 (by decide)) (g _ 2 (by decide)) (g _ 2 (by decide)) (g _ 2 (by decide)) (g _ 2 (by decide)) (g _ 2 (by decide)) (g _ 2 (by decide)) (g _ 2 (by decide)) (g _ 2 (by decide)) (g _ 2 (by decide)) (g _ 2 (by decide)) (g _ 1 (by decide)) (g _ 1 (by decide)) (g _ (-1) (by decide))
end Go.Proofs.YtmgfakcccfahaaaGreatDoor
namespace Go.Proofs.YtmgfakcccfahaaaGreatDoor
def kI(a:Int):Int:=if a % 2=0 then a+1 else a-1
def oI(a b:Int):Bool:=decide (min a b=0)||(decide (max a b=min a b+1)&&decide (min a b % 2=0))
def qL(a b:Int):Bool:=decide (min a b=1)||decide (min a b=max a b)
def mW(gs:List (Int×Int))(a b:Int):Int:=
 if oI a b=true then 0 else if qL a b=true then max a b else 2*(gs.idxOf (min a b,max a b):Int)+2
def iI(gs:List (Int×Int))(a b:Int):List (Int×Int):=
 if oI a b=true then gs else if qL a b=true then gs else if (min a b,max a b)∈gs then gs else gs++[(min a b,max a b)]
def dU(gs:List (Int×Int))(a:Int):Prop:=0≤a∧a<2*((gs.length:Int)+1)
structure Gs(gs:List (Int×Int)):Prop where
 each:∀(i:Nat) (p:Int×Int),gs[i]?=some p→p=(0,0)∨(2≤p.1∧p.1<p.2∧p.2<2*((i:Int)+1))
 once:∀(i j:Nat) (p:Int×Int),gs[i]?=some p→gs[j]?=some p→p≠(0,0)→i=j

theorem Gs.nil:Gs []:=⟨fun i p h=>by simp at h,fun i j p h=>by simp at h⟩
theorem Gj(a:Int):kI a / 2=a / 2∧kI (kI a)=a∧(kI a=a+1∧a % 2=0∨kI a=a-1∧a % 2=1):=by
 unfold kI
 split
 ·rename_i h
  refine⟨by omega,?_,.inl ⟨rfl,h⟩⟩
  rw[if_neg (by omega)];omega
 ·rename_i h
  refine⟨by omega,?_,.inr ⟨rfl,by omega⟩⟩
  rw[if_pos (by omega)];omega
theorem OY(gs:List (Int×Int))(a b:Int):gs.length≤(iI gs a b).length∧(iI gs a b).length≤gs.length+1:=by
 unfold iI
 split
 ·omega
 ·split
  ·omega
  ·split
   ·omega
   ·simp
theorem dU.mono{gs gs':List (Int×Int)}(hl:gs.length≤gs'.length){a:Int}(h:dU gs a):dU gs' a:=by
 unfold dU at *
 omega
theorem MS{gs:List (Int×Int)}{p:Int×Int}(h:p∈gs):gs.idxOf p<gs.length:=List.idxOf_lt_length_of_mem h
theorem Dt{gs:List (Int×Int)}{p:Int×Int}(h:p ∉ gs):gs.idxOf p=gs.length:=List.idxOf_eq_length h
theorem MR{gs:List (Int×Int)}{p:Int×Int}(h:p ∉ gs):(gs++[p]).idxOf p=gs.length:=by simp [List.idxOf_append,h]
theorem OW{gs:List (Int×Int)}{a b:Int}(ha:dU gs a)(hb:dU gs b):dU (iI gs a b) (mW gs a b):=by
 unfold iI mW
 split
 ·unfold dU at *;omega
 ·split
  ·unfold dU at *;omega
  ·split
   ·rename_i h
    have:=MS h
    unfold dU;omega
   ·rename_i h
    have:=Dt h
    unfold dU;simp;omega
theorem Gs.and{gs:List (Int×Int)}(h:Gs gs){a b:Int}(ha:dU gs a)(hb:dU gs b):Gs (iI gs a b):=by
 unfold iI
 split
 ·exact h
 ·rename_i h1
  split
  ·exact h
  ·rename_i h2
   split
   ·exact h
   ·rename_i h3
    simp only[oI,qL,Bool.or_eq_true,Bool.and_eq_true,decide_eq_true_eq,not_or,not_and] at h1 h2
    unfold dU at ha hb
    refine⟨fun i p hi=>?_,fun i j p hi hj hp=>?_⟩
    ·rcases Nat.lt_or_ge i gs.length with hl | hl
     ·rw[List.getElem?_append_left hl] at hi
      exact h.each i p hi
     ·rw[List.getElem?_append_right hl] at hi
      have h0:i-gs.length=0:=by
       rcases Nat.eq_zero_or_pos (i-gs.length) with h | h
       ·exact h
       ·rw[List.getElem?_eq_none (by simp;omega)] at hi;cases hi
      rw[h0] at hi
      simp at hi
      subst hi
      right
      simp only
      omega
    ·have key:∀k,(gs++[(min a b,max a b)])[k]?=some p→(k<gs.length∧gs[k]?=some p)∨(k=gs.length∧p=(min a b,max a b)):=fun k hk=>by
      rcases Nat.lt_or_ge k gs.length with hl | hl
      ·rw[List.getElem?_append_left hl] at hk
       exact .inl ⟨hl,hk⟩
      ·rw[List.getElem?_append_right hl] at hk
       have h0:k-gs.length=0:=by
        rcases Nat.eq_zero_or_pos (k-gs.length) with h | h
        ·exact h
        ·rw[List.getElem?_eq_none (by simp;omega)] at hk;cases hk
       rw[h0] at hk
       simp at hk
       exact .inr ⟨by omega,hk.symm⟩
     rcases key i hi with⟨_,k1⟩ | ⟨k1,k2⟩<;>rcases key j hj with⟨_,l1⟩ | ⟨l1,l2⟩
     ·exact h.once i j p k1 l1 hp
     ·subst l2;exact absurd (List.mem_of_getElem? k1) h3
     ·subst k2;exact absurd (List.mem_of_getElem? l1) h3
     ·omega
end Go.Proofs.YtmgfakcccfahaaaGreatDoor
namespace Go.Proofs.YtmgfakcccfahaaaGreatDoor
open Go
section
variable {P:Program} {ops:Array Oper} {Q:Exit→Act→World→Prop} {md:Region.Mode} {S T:World→Prop} {c:Nat}

def Till(S T:World→Prop)(c:Nat)(listed:Array Bool)(w:World):Prop:=S w∧(listed.getD c true=false→T w)
def iD(P:Program)(md:Region.Mode)(ops:Array Oper)(Q:Exit→Act→World→Prop)(S T:World→Prop)(c:Nat):Nat→Array Bool→Act→World→Prop
 | 0,listed,a,w=>Region.ready md ops listed=[]∧Q .normal a w
 | fuel+1,listed,a,w=>
  (Region.ready md ops listed=[]→Q .normal a w) ∧
  ∀i∈Region.ready md ops listed,wpOp P ops Q i (fun a' w'=>Till S T c (listed.setIfInBounds i true) w'∧iD P md ops Q S T c fuel (listed.setIfInBounds i true) a' w') a w
theorem Ar:∀(fuel:Nat) (listed:Array Bool) (a:Act) (w:World),iD P md ops Q S T c fuel listed a w→wpAny P md ops Q fuel listed a w
 | 0,_,_,_,h=>h
 | fuel+1,_,_,_,h=>⟨h.1,fun i hi=>wpOp_mono (fun a' w' h'=>Ar fuel _ a' w' h'.2) (h.2 i hi)⟩
theorem AQ{listed:Array Bool}{i c:Nat}(h:(listed.setIfInBounds i true).getD c true=false):listed.getD c true=false:=by
 by_cases e:i=c
 ·subst e
  rcases Nat.lt_or_ge i listed.size with h' | h'
  ·simp [h'] at h
  ·simp at h
 ·rwa [getD_set_ne true e] at h
theorem Till.back{listed:Array Bool}{i:Nat}{w:World}(h:Till S T c listed w):Till S T c (listed.setIfInBounds i true) w:=⟨h.1,fun hc=>h.2 (AQ hc)⟩
theorem Till.last{listed:Array Bool}{w:World}(h:S w):Till S T c (listed.setIfInBounds c true) w:=⟨h,fun hc=>by
 rcases Nat.lt_or_ge c listed.size with h' | h'
 ·simp [h'] at hc
 ·simp at hc⟩
theorem Aq{R:World→Prop}{G:Array Bool→Prop}{i:Nat}{oi:Oper}{v:Value}(hi:ops[i]?=some oi)(hci:i≠c)(hsel:∀(j:Nat) (o:Oper) cs b,ops[j]?=some o→o.op≠.select cs b)
  (hQ:∀c a w,Q (.panic c) (a.put oi.dst v) w→Q (.panic c) a w) (hR:∀l w,G l→Till S T c l w→R w)
  (hG:∀l j,G l→i∈Region.ready md ops l→j∈Region.ready md ops l→j≠i→G (l.setIfInBounds j true)) :
  ∀(fuel:Nat) (listed:Array Bool) (a:Act) (w:World),
   (∀j oj,ops[j]?=some oj→j≠i→listed.getD j true=false→(∀e∈oj.after,Region.binds md e=true→e.on≠i)→oi.apart ops oj=true) →
   i∈Region.ready md ops listed→G listed→YieldsIf P ops R oi v a→Till S T c listed w →
   iD P md ops Q S T c fuel (listed.setIfInBounds i true) (a.put oi.dst v) w→iD P md ops Q S T c (fuel+1) listed a w:=by
 intro fuel
 induction fuel with
 | zero=>
  intro listed a w _ hr hg hy hS H
  refine⟨fun h=>(by rw[h] at hr;cases hr),fun j hj=>?_⟩
  by_cases hji:j=i
  ·subst hji;exact hy.wpOp hi (hR _ _ hg hS) ⟨hS.back,H⟩
  ·have:=ready_mono hj hji
   rw[H.1] at this
   cases this
 | succ fuel ih=>
  intro listed a w hfree hr hg hy hS H
  refine⟨fun h=>(by rw[h] at hr;cases hr),fun j hj=>?_⟩
  by_cases hji:j=i
  ·subst hji;exact hy.wpOp hi (hR _ _ hg hS) ⟨hS.back,H⟩
  ·obtain⟨hjun,oj,hoj,hall⟩:=mem_ready.1 hj
   have hun:=(mem_ready.1 hr).1
   have hnot:∀e∈oj.after,Region.binds md e=true→e.on≠i:=fun e he hb heq=>by
    have h1:=hall e he hb
    rw[heq] at h1
    rcases Nat.lt_or_ge i listed.size with h' | h'
    ·simp [h'] at hun h1;rw[hun] at h1;cases h1
    ·simp [Array.getElem?_eq_none h'] at h1
   have h2:=wpOp_putIf hoj (hfree j oj hoj hji hjun hnot) (fun cs b=>hsel i oi cs b hi) (fun cs b=>hsel j oj cs b hoj) hQ hy (H.2 j (ready_mono hj hji))
   have hcomm:(listed.setIfInBounds i true).setIfInBounds j true=(listed.setIfInBounds j true).setIfInBounds i true:=Array.setIfInBounds_comm _ _ (Ne.symm hji)
   refine wpOp_mono (fun a' w' h3=>?_) h2
   rw[hcomm] at h3
   have hT:Till S T c (listed.setIfInBounds j true) w':=⟨h3.2.1.1,fun hc=>h3.2.1.2 (by rw[getD_set_ne true hci];exact hc)⟩
   refine⟨hT,ih (listed.setIfInBounds j true) a' w' (fun k ok hk hki hunk hno=>hfree k ok hk hki (AQ hunk) hno) (ready_mono hr (Ne.symm hji)) (hG _ _ hg hr hj hji) h3.1 hT h3.2.2⟩
theorem Ap{i:Nat}{oi:Oper}{v:Value}{fuel:Nat}{listed:Array Bool}{a:Act}{w:World}(hi:ops[i]?=some oi)(hci:(i==c)=false)
  (hs:Region.noSelect ops=true) (hf:Region.free md ops listed i=true) (hr:(Region.ready md ops listed).contains i=true)
  (hQ:∀c a w,Q (.panic c) (a.put oi.dst v) w→Q (.panic c) a w) (hy:YieldsIf P ops S oi v a) (hS:Till S T c listed w)
  (h:iD P md ops Q S T c fuel (listed.setIfInBounds i true) (a.put oi.dst v) w):iD P md ops Q S T c (fuel+1) listed a w:=
 Aq (R:=S) (G:=fun _=>True) hi (by simpa using hci) (Region.noSelect_spec hs) hQ (fun _ _ _ h=>h.1) (fun _ _ _ _ _ _=>trivial) fuel listed a w (Region.free_spec hi hf) (by simpa using hr) trivial hy hS h
theorem tk(i d:Nat)(v:Value){x1 x2 x3 x4 x5}{fuel:Nat}{listed:Array Bool}{a:Act}{w:World}(hi:ops[i]?=some ⟨some d,x1,x2,x3,x4,x5⟩)(hy:YieldsIf P ops S ⟨some d,x1,x2,x3,x4,x5⟩ v a)(hS:Till S T c listed w)
  (h:iD P md ops Q S T c fuel (listed.setIfInBounds i true) (a.put (some d) v) w) (hci:(i==c)=false:=by rfl) (hs:Region.noSelect ops=true:=by kernel_rfl) (hf:Region.free md ops listed i=true:=by kernel_rfl) (hr:(Region.ready md ops listed).contains i=true:=by kernel_rfl)
  (hQ:∀c a w,Q (.panic c) (a.put (some d) v) w→Q (.panic c) a w:=by exact fun _ _ _ h=>h):iD P md ops Q S T c (fuel+1) listed a w:=Ap hi hci hs hf hr hQ hy hS h
theorem tp:(∀(a:Act) (i:Nat) (v:Value),a.put (some i) v={ a with tmps:=a.tmps.setIfInBounds i v })∧(∀(a:Act) (v:Value),a.put none v=a)∧(∀(l:List Value) (i:Nat) (x:Value),l.toArray.setIfInBounds i x=(l.set i x).toArray)∧(∀(l:List Bool) (i:Nat) (x:Bool),l.toArray.setIfInBounds i x=(l.set i x).toArray)∧(∀(l:List Value) (y x:Value),(y::l).set 0 x=x::l)∧(∀(l:List Bool) (y x:Bool),(y::l).set 0 x=x::l)∧(∀(l:List Value) (i:Nat) (y x:Value),(y::l).set (i+1) x=y::l.set i x)∧∀(l:List Bool) (i:Nat) (y x:Bool),(y::l).set (i+1) x=y::l.set i x:=
 ⟨fun _ _ _=>rfl,fun _ _=>rfl,fun _ _ _=>List.setIfInBounds_toArray ..,fun _ _ _=>List.setIfInBounds_toArray ..,fun _ _ _=>rfl,fun _ _ _=>rfl,fun _ _ _ _=>rfl,fun _ _ _ _=>rfl⟩
theorem tj(i d:Nat)(v:Value){x1 x2 x3 x4 x5}{fuel:Nat}{listed:Array Bool}{a a':Act}{w:World}(hi:ops[i]?=some ⟨some d,x1,x2,x3,x4,x5⟩)(hy:∀w,S w→(execOp a.eval ⟨some d,x1,x2,x3,x4,x5⟩).run P w=.ok (.value v) w)(hS:Till S T c listed w)
  (h:iD P md ops Q S T c fuel (listed.setIfInBounds i true) a' w) (ha:a.put (some d) v=a':=by simp only[tp];rfl) (hw:Region.wanted ⟨some d,x1,x2,x3,x4,x5⟩ (yielded ops a.tmps)=true:=by rfl) (hci:(i==c)=false:=by rfl) (hs:Region.noSelect ops=true:=by kernel_rfl) (hf:Region.free md ops listed i=true:=by kernel_rfl) (hr:(Region.ready md ops listed).contains i=true:=by kernel_rfl)
  (hQ:∀c a w,Q (.panic c) (a.put (some d) v) w→Q (.panic c) a w:=by exact fun _ _ _ h=>h):iD P md ops Q S T c (fuel+1) listed a w:=Ap hi hci hs hf hr hQ (.inl ⟨hw,hy⟩) hS (ha ▸ h)
def waits(md:Region.Mode)(ops:Array Oper)(j i:Nat):Bool:=((ops[j]?).map fun o=>o.after.any fun e=>Region.binds md e&&e.on==i).getD false
theorem Aw{i j:Nat}{listed:Array Bool}(h:waits md ops j i=true)(hi:listed.getD i true=false):j ∉ Region.ready md ops listed:=fun hj=>by
 obtain⟨_,o,ho,hall⟩:=mem_ready.1 hj
 simp only[waits,ho,Option.map_some,Option.getD_some] at h
 obtain⟨e,he,hb⟩:=Array.any_eq_true'.1 h
 simp only[Bool.and_eq_true,beq_iff_eq] at hb
 have h1:=hall e he hb.1
 rw[hb.2] at h1
 rcases Nat.lt_or_ge i listed.size with h' | h'
 ·simp [h'] at hi h1;rw[hi] at h1;cases h1
 ·simp [Array.getElem?_eq_none h'] at h1
theorem wZ{i:Nat}(d:Nat){oi:Oper}{v:Value}{fuel:Nat}{listed:Array Bool}{a:Act}{w:World}(hi:ops[i]?=some oi)(hci:(i==c)=false)
  (hs:Region.noSelect ops=true) (hf:Region.free md ops listed i=true) (hr:(Region.ready md ops listed).contains i=true)
  (hd:waits md ops d i=true) (hc:waits md ops c d=true) (hdl:listed.getD d true=false) (hcl:listed.getD c true=false)
  (hQ:∀c a w,Q (.panic c) (a.put oi.dst v) w→Q (.panic c) a w) (hy:YieldsIf P ops T oi v a) (hS:Till S T c listed w)
  (h:iD P md ops Q S T c fuel (listed.setIfInBounds i true) (a.put oi.dst v) w):iD P md ops Q S T c (fuel+1) listed a w:=
 Aq (R:=T) (G:=fun l=>l.getD d true=false∧l.getD c true=false) hi (by simpa using hci) (Region.noSelect_spec hs) hQ (fun _ _ hg h=>h.2 hg.2)
  (fun l j hg hri hrj _=>by
   have hui:=(mem_ready.1 hri).1
   have n1:j≠d:=fun e=>Aw hd hui (by rw[←e];exact hrj)
   have n2:j≠c:=fun e=>Aw hc hg.1 (by rw[←e];exact hrj)
   exact⟨by rw[getD_set_ne true n1];exact hg.1,by rw[getD_set_ne true n2];exact hg.2⟩)
  fuel listed a w (Region.free_spec hi hf) (by simpa using hr) ⟨hdl,hcl⟩ hy hS h
def dB(P:Program)(md:Region.Mode)(ops:Array Oper)(Q:Exit→Act→World→Prop)(S T:World→Prop)(c fuel:Nat)(listed:Array Bool)(a:Act)(w:World)(rs:List Nat):Prop:=
 ∀i∈rs,wpOp P ops Q i (fun a' w'=>Till S T c (listed.setIfInBounds i true) w'∧iD P md ops Q S T c fuel (listed.setIfInBounds i true) a' w') a w
theorem dB.nil{fuel:Nat}{listed:Array Bool}{a:Act}{w:World}:dB P md ops Q S T c fuel listed a w []:=fun _ h=>by cases h
theorem dB.cons{fuel:Nat}{listed:Array Bool}{a:Act}{w:World}{i:Nat}{o:Oper}{rs:List Nat}(ho:ops[i]?=some o)
  (h:∀K':Act→World→Prop,Shut (∀a w,Till S T c (listed.setIfInBounds i true) w→(Till S T c (listed.setIfInBounds i true) w→iD P md ops Q S T c fuel (listed.setIfInBounds i true) a w)→K' a w)→if Region.wanted o (yielded ops a.tmps)=true then Oper.wp P o a w K' Q else K' (a.put o.dst undef) w)
  (hs:dB P md ops Q S T c fuel listed a w rs):dB P md ops Q S T c fuel listed a w (i::rs):=fun j hj=>by
 rcases List.mem_cons.1 hj with rfl | hj
 ·exact wpOp_step ho (fun K' hK=>h K' (fun a w hS hW=>hK a w ⟨hS,hW hS⟩))
 ·exact hs j hj
theorem j6{rs:List Nat}{fuel:Nat}{listed:Array Bool}{a:Act}{w:World}(hr:Region.ready md ops listed=rs)(hne:rs≠[])
  (h:dB P md ops Q S T c fuel listed a w rs):iD P md ops Q S T c (fuel+1) listed a w:=⟨fun h0=>absurd (hr ▸ h0) hne,fun i hi=>h i (hr ▸ hi)⟩
theorem dY(i:Nat)(d:Option Nat){x1 x2 x3 x4 x5}{fuel:Nat}{listed:Array Bool}{a:Act}{w:World}(ho:ops[i]?=some ⟨d,x1,x2,x3,x4,x5⟩)
  (h:∀K':Act→World→Prop,Shut (∀a w,Till S T c (listed.setIfInBounds i true) w→(Till S T c (listed.setIfInBounds i true) w→iD P md ops Q S T c fuel (listed.setIfInBounds i true) a w)→K' a w)→if Region.wanted ⟨d,x1,x2,x3,x4,x5⟩ (yielded ops a.tmps)=true then Oper.wp P ⟨d,x1,x2,x3,x4,x5⟩ a w K' Q else K' (a.put d undef) w)
  (hr:Region.ready md ops listed=[i]:=by kernel_rfl):iD P md ops Q S T c (fuel+1) listed a w:=j6 hr (by simp) (dB.cons ho h dB.nil)
theorem kH{listed:Array Bool}{a:Act}{w:World}(hr:Region.ready md ops listed=[])(h:Q .normal a w):∀fuel,iD P md ops Q S T c fuel listed a w
 | 0=>⟨hr,h⟩
 | _+1=>⟨fun _=>h,by rw[hr];simp⟩
theorem nG{id:Nat}{a:Act}{w:World}(c:Nat)(S T:World→Prop)(hm:P.follows .mixedOrders=true)(hS:S w.drew)(hT:T w.drew)
  (h:Till S T c (Array.replicate ops.size false) w.drew→iD P .any ops Q S T c ops.size (Array.replicate ops.size false) a w.drew):(Code.region id ops true).wp P Q a w:=
 wp_region_any hm (Ar _ _ _ _ (h ⟨hS,fun _=>hT⟩))
end
end Go.Proofs.YtmgfakcccfahaaaGreatDoor
