/-
  WHAT IS READ OF OLD MEMORY IS READ OF IT LATER.
-/
import Derived.Test.YtmgfakcccfahaaaGreatDoorChecked
import Derived.LoopTactic
import Derived.Below
import Derived.WalkKit
import Derived.Deep.RegionLaw
import Derived.Handy
import Derived.Deep.QuietTactic
import Derived.BigQuiet
import Derived.WalkSmall
import Derived.Maps.OwnSet
import Derived.Maps.RangeWalk
import Derived.StringKeys
import Derived.DeepKeys4
import Derived.Deep.AppendLies
namespace Go.Proofs.YtmgfakcccfahaaaGreatDoor
open Go.RowKit
theorem aD{w w':World}(hb:Below w.heap.size w w'){p:Addr}{v:Value}(hc:w.cell? p=some v):w'.cell? p=some v:=by
 have hp:p.block<w.heap.size:=by
  rcases Nat.lt_or_ge p.block w.heap.size with h | h
  ·exact h
  ·simp [World.cell?,Array.getElem?_eq_none h] at hc
 rw[hb.cell hp];exact hc
theorem aN{w w':World}(hb:Below w.heap.size w w'){k:Nat}{o:Obj}(hc:w.heap[k]?=some o):w'.heap[k]?=some o:=by
 have hp:k<w.heap.size:=by
  rcases Nat.lt_or_ge k w.heap.size with h | h
  ·exact h
  ·simp [Array.getElem?_eq_none h] at hc
 rw[hb.block k hp];exact hc
theorem aA{p:Prop}(h:p):Hid p:=h
theorem aH{w:World}{o:Obj}:Below w.heap.size w (w.alloc o):=(Below.refl _ _).alloc (Nat.le_refl _) _
theorem cr{w:World}{b k:Nat}{cs:Array Value}{t:TypeId}{v:Value}(h:w.heap[b]?=some (.cells cs t (0,0)))(e:cs[k]?=some v):w.cell? ⟨b,k,none⟩=some v:=by
 rw[cell_of_row w _ _ _ _ (0,0) h];exact e
abbrev Bw(w w':World):Prop:=Below w.heap.size w w'
theorem qK{α:Type}{l:List α}{i:Nat}(h:i<l.length):l[i]?=some l[i]:=List.getElem?_eq_getElem h
theorem bA{α:Type}{l:List α}{i:Nat}{a:α}(h:l[i]?=some a):∃h:i<l.length,l[i]=a:=List.getElem?_eq_some_iff.1 h
theorem bN{α:Type}{l:Array α}{i:Nat}{a:α}(h:l[i]?=some a):∃h:i<l.size,l[i]=a:=Array.getElem?_eq_some_iff.1 h
theorem J2{P:Program}{ops:Array Oper}{o:Oper}{a:Act}{w:World}{K:Act→World→Prop}{Q:Exit→Act→World→Prop}{E:Prop}(hgd:o.guard=none)(f:FuncId)(vs:Array Value)(hrun:(execOp a.eval o).run P w=.ok (.enter f vs) w)
  (h:Calls P f vs w fun
   | .returned v,w'=>K (a.put o.dst v) w'
   | .panicked c,w'=>Q (.panic c) a w'
   | .outgrown,_=>LetsOut Q):if Region.wanted o (yielded ops a.tmps)=true then Oper.wp P o a w K Q else E:=by
 have hw:Region.wanted o (yielded ops a.tmps)=true:=by simp [Region.wanted,hgd]
 rw[if_pos hw]
 unfold Oper.wp
 rw[hrun]
 exact h
def cB(n:Int):Int:=(n+128) % 256-128
def bB(b:Bool):Int:=if b=true then 1 else 0
def gN(k n kind:Int):Bool:=if k=kind then (if kind=1 then (decide (n=0)||decide (n=1)) else (decide (kind=2)&&(decide (-129<n)&&decide (n<128)))) else false
def kF(w:World)(v:Value)(l:List (Int×Int)):Prop:=l.length≤maxLen∧∃o c,v=.slice o l.length c∧∀k x,l[k]?=some x→∃b off,o=some ⟨b,off,none⟩∧w.cell? ⟨b,off+k*2,none⟩=some (.int .i64 x.1)∧w.cell? ⟨b,off+k*2+1,none⟩=some (.int .i64 x.2)
theorem kF.below{w w':World}{v:Value}{l:List (Int×Int)}(h:kF w v l)(hb:Bw w w'):kF w' v l:=by
 obtain⟨hl,o,c,rfl,h⟩:=h
 refine⟨hl,o,c,rfl,fun k x hk=>?_⟩
 obtain⟨b,off,e,c0,c1⟩:=h k x hk
 exact⟨b,off,e,aD hb c0,aD hb c1⟩
open Go.Maps
def jI:Value→Option (DataW Value×List MemPlace):=fun v=>some (.held v,[])
def bL(f:List UInt8→Option Value)(k:List UInt8)(v:Value):List UInt8→Option Value:=fun x=>if x=k then some v else f x
def jJ:List UInt8→Option Value:=fun _=>none
def aO(w:World)(b n:Nat)(f:List UInt8→Option Value):Prop:=∃D:DataW Value,w.ownsMap Tryz.prog 9 jI b n D∧∀k,Maps.has D (.string k)=(f k).isSome∧∀v z,f k=some v→D.atKey (.string k) z=.held v
theorem uD:Keyed Tryz.prog 9:=string_keyed Tryz.underlying9
theorem aO.lt{w:World}{b n:Nat}{f:List UInt8→Option Value}(h:aO w b n f):b<w.heap.size:=by
 obtain⟨D,h,_⟩:=h
 exact h.lt
theorem aO.kept{w w':World}{b n:Nat}{f:List UInt8→Option Value}(h:aO w b n f)(e:w'.heap[b]?=w.heap[b]?):aO w' b n f:=by
 obtain⟨D,⟨es,clock,hb,r⟩,k⟩:=h
 exact⟨D,⟨es,clock,by rw[e];exact hb,r⟩,k⟩
theorem aO.made(w:World):aO (w.alloc (.map #[] 0)) w.heap.size 0 jJ:=
 ⟨.map [],World.ownsMap_made w _ _ _,fun k=>⟨rfl,fun v z h=>by simp [jJ] at h⟩⟩
theorem Pf{D:DataW Value}{f:List UInt8→Option Value}(hD:IsMap D)(h:∀k,Maps.has D (.string k)=(f k).isSome∧∀v z,f k=some v→D.atKey (.string k) z=.held v)(s:List UInt8)(val:Value) :
  ∀k,Maps.has (D.put (.string s) (.held val)) (.string k)=(bL f s val k).isSome∧∀v z,bL f s val k=some v→(D.put (.string s) (.held val)).atKey (.string k) z=.held v:=by
 intro k
 unfold bL
 by_cases e:k=s
 ·subst e
  rw[if_pos rfl]
  exact⟨has_put_same hD (show WideAt.IsKeyLit (.string k) from trivial) _,fun v z hv=>by rw[atKey_put_same hD (show WideAt.IsKeyLit (.string k) from trivial)];simpa using hv⟩
 ·have hne:Lit.string k≠Lit.string s:=fun q=>e (by simpa using q)
  rw[if_neg e,has_put_other hne]
  exact⟨(h k).1,fun v z hv=>by rw[atKey_put_other hne];exact(h k).2 v z hv⟩
theorem aO.put{w:World}{b n:Nat}{f:List UInt8→Option Value}(h:aO w b n f){t e:TypeId}(ht:Tryz.prog.underlying t=some (.map 9 e))(hn:n<maxLen)(s:ByteArray)(hs:s.size≤maxLen)(val:Value) :
  ∃w',(Instr.mapUpdate t (.map (some b)) (.string s) val).run Tryz.prog w=.ok () w'∧aO w' b (n+1) (bL f s.data.toList val)∧w.grownBy w' (some b):=by
 obtain⟨D,h,k⟩:=h
 obtain⟨w',r1,r2,r3⟩:=h.update uD ht hn (WideMaps.keyOf_string_mk Tryz.underlying9 hs) (show jI val=some (.held val,[]) from rfl)
 exact⟨w',r1,⟨_,r2,Pf h.isMap k _ _⟩,r3⟩
theorem kI{ops:Array Oper}{rest:List Oper}{o:Oper}{a:Act}{Q:Exit→Act→World→Prop}(w:World)(hg:o.guard=none)(m x v:Operand)(t e:TypeId)(hop:o.op=Op.insert t m x v)(ht:Tryz.prog.underlying t=some (.map 9 e))(b n:Nat)(f:List UInt8→Option Value)
  (hm:a.eval m=.map (some b)) (h:aO w b n f) (hn:n<maxLen) (s:ByteArray) (hs:s.size≤maxLen) (hx:a.eval x=.string s) (val:Value) (hv:a.eval v=val)
  (hK:∀w',aO w' b (n+1) (bL f s.data.toList val)→w.grownBy w' (some b)→wpList Tryz.prog ops Q rest (a.put o.dst undef) w'):wpList Tryz.prog ops Q (o::rest) a w:=by
 refine wpList_plain hg fun K' hK'=>?_
 obtain⟨w',hrun,r1,r2⟩:=h.put ht hn s hs val
 unfold Oper.wp
 simp [execOp,hop,hm,hx,hv,hrun,Result.andThen]
 exact hK' _ _ (hK w' r1 r2)
def dL(f:FuncId):Value:=.func (.func f) #[] #[]
theorem dK{a b c:World}{row:Option Nat}(h:a.grownBy b row)(k:b.grownBy c row):a.grownBy c row:=
 ⟨k.os.trans h.os,k.tape.trans h.tape,k.output.trans h.output,Nat.le_trans h.size k.size,fun i hi hr=>by rw[k.block i (Nat.lt_of_lt_of_le hi h.size) hr,h.block i hi hr]⟩
theorem gT{w w':World}{row:Option Nat}(hg:w.grownBy w' row){b:Nat}{o:Obj}(hne:row≠some b)(h:w.heap[b]?=some o):w'.heap[b]?=some o:=by
 rw[hg.block b (bN h).1 (fun e=>hne e.symm)];exact h
theorem kV{w:World}(o:Obj){k:Nat}{x:Obj}(h:w.heap[k]?=some x):(w.alloc o).heap[k]?=some x:=by
 rw[Below.heap_alloc w o k (bN h).1];exact h
end Go.Proofs.YtmgfakcccfahaaaGreatDoor
namespace Go.Proofs.YtmgfakcccfahaaaGreatDoor
def kK(a:Int):Int:=if a % 2=0 then a+1 else a-1
def sG(a b:Int):Bool:=decide (min a b=0)||(decide (max a b=min a b+1)&&decide (min a b % 2=0))
def vM(a b:Int):Bool:=decide (min a b=1)||decide (min a b=max a b)
def pK(gs:List (Int×Int))(a b:Int):Int:=
 if sG a b=true then 0 else if vM a b=true then max a b else 2*(gs.idxOf (min a b,max a b):Int)+2
def jU(gs:List (Int×Int))(a b:Int):List (Int×Int):=
 if sG a b=true then gs else if vM a b=true then gs else if (min a b,max a b)∈gs then gs else gs++[(min a b,max a b)]
def dJ(gs:List (Int×Int))(a:Int):Prop:=0≤a∧a<2*((gs.length:Int)+1)
structure Gs(gs:List (Int×Int)):Prop where
 each:∀(i:Nat) (p:Int×Int),gs[i]?=some p→p=(0,0)∨(2≤p.1∧p.1<p.2∧p.2<2*((i:Int)+1))
 once:∀(i j:Nat) (p:Int×Int),gs[i]?=some p→gs[j]?=some p→p≠(0,0)→i=j

theorem Gs.nil:Gs []:=⟨fun i p h=>by simp at h,fun i j p h=>by simp at h⟩
theorem Dr(a:Int):kK a / 2=a / 2∧kK (kK a)=a∧(kK a=a+1∧a % 2=0∨kK a=a-1∧a % 2=1):=by
 unfold kK
 split
 ·rename_i h
  refine⟨by omega,?_,.inl ⟨rfl,h⟩⟩
  rw[if_neg (by omega)];omega
 ·rename_i h
  refine⟨by omega,?_,.inr ⟨rfl,by omega⟩⟩
  rw[if_pos (by omega)];omega
theorem dJ.turn{gs:List (Int×Int)}{a:Int}(h:dJ gs a):dJ gs (kK a):=by
 have:=(Dr a).2.2
 unfold dJ at *
 omega
theorem Hw(gs:List (Int×Int))(a b:Int):gs.length≤(jU gs a b).length∧(jU gs a b).length≤gs.length+1:=by
 unfold jU
 split
 ·omega
 ·split
  ·omega
  ·split
   ·omega
   ·simp
theorem dJ.mono{gs gs':List (Int×Int)}(hl:gs.length≤gs'.length){a:Int}(h:dJ gs a):dJ gs' a:=by
 unfold dJ at *
 omega
theorem O1{gs:List (Int×Int)}{p:Int×Int}(h:p∈gs):gs.idxOf p<gs.length:=List.idxOf_lt_length_of_mem h
theorem Gf{gs:List (Int×Int)}{p:Int×Int}(h:p ∉ gs):gs.idxOf p=gs.length:=List.idxOf_eq_length h
theorem O0{gs:List (Int×Int)}{p:Int×Int}(h:p ∉ gs):(gs++[p]).idxOf p=gs.length:=by simp [List.idxOf_append,h]
theorem Hu{gs:List (Int×Int)}{a b:Int}(ha:dJ gs a)(hb:dJ gs b):dJ (jU gs a b) (pK gs a b):=by
 unfold jU pK
 split
 ·unfold dJ at *;omega
 ·split
  ·unfold dJ at *;omega
  ·split
   ·rename_i h
    have:=O1 h
    unfold dJ;omega
   ·rename_i h
    have:=Gf h
    unfold dJ;simp;omega
theorem Gs.and{gs:List (Int×Int)}(h:Gs gs){a b:Int}(ha:dJ gs a)(hb:dJ gs b):Gs (jU gs a b):=by
 unfold jU
 split
 ·exact h
 ·rename_i h1
  split
  ·exact h
  ·rename_i h2
   split
   ·exact h
   ·rename_i h3
    simp only[sG,vM,Bool.or_eq_true,Bool.and_eq_true,decide_eq_true_eq,not_or,not_and] at h1 h2
    unfold dJ at ha hb
    refine⟨fun i p hi=>?_,fun i j p hi hj hp=>?_⟩
    ·rcases Nat.lt_or_ge i gs.length with hl | hl
     ·rw[List.getElem?_append_left hl] at hi
      exact h.each i p hi
     ·rw[List.getElem?_append_right hl] at hi
      have h0:i-gs.length=0:=by
       rcases Nat.eq_zero_or_pos (i-gs.length) with h | h
       ·exact h
       ·rw[List.getElem?_eq_none (by simp;omega)] at hi;cases hi
      rw[h0] at hi
      simp at hi
      subst hi
      right
      simp only
      omega
    ·have key:∀k,(gs++[(min a b,max a b)])[k]?=some p→(k<gs.length∧gs[k]?=some p)∨(k=gs.length∧p=(min a b,max a b)):=fun k hk=>by
      rcases Nat.lt_or_ge k gs.length with hl | hl
      ·rw[List.getElem?_append_left hl] at hk
       exact .inl ⟨hl,hk⟩
      ·rw[List.getElem?_append_right hl] at hk
       have h0:k-gs.length=0:=by
        rcases Nat.eq_zero_or_pos (k-gs.length) with h | h
        ·exact h
        ·rw[List.getElem?_eq_none (by simp;omega)] at hk;cases hk
       rw[h0] at hk
       simp at hk
       exact .inr ⟨by omega,hk.symm⟩
     rcases key i hi with⟨_,k1⟩ | ⟨k1,k2⟩<;>rcases key j hj with⟨_,l1⟩ | ⟨l1,l2⟩
     ·exact h.once i j p k1 l1 hp
     ·subst l2;exact absurd (List.mem_of_getElem? k1) h3
     ·subst k2;exact absurd (List.mem_of_getElem? l1) h3
     ·omega
def zO(gs:List (Int×Int))(a b:Int):Int:=kK (pK gs (kK a) (kK b))
def r9(gs:List (Int×Int))(a b:Int):List (Int×Int):=jU gs (kK a) (kK b)
theorem Mf(gs:List (Int×Int))(a b:Int):gs.length≤(r9 gs a b).length∧(r9 gs a b).length≤gs.length+1:=Hw _ _ _
theorem Me{gs:List (Int×Int)}{a b:Int}(ha:dJ gs a)(hb:dJ gs b):dJ (r9 gs a b) (zO gs a b):=(Hu ha.turn hb.turn).turn
theorem Gs.or{gs:List (Int×Int)}(h:Gs gs){a b:Int}(ha:dJ gs a)(hb:dJ gs b):Gs (r9 gs a b):=h.and ha.turn hb.turn
end Go.Proofs.YtmgfakcccfahaaaGreatDoor
namespace Go.Proofs.YtmgfakcccfahaaaGreatDoor
open Go.RowKit Go.Maps
def wQ(a:Int):Prop:=-9223372036854775808≤a∧a≤9223372036854775807
structure bT(F F':Nat→Prop)(w w':World):Prop where
 os:w'.os=w.os
 tape:w'.tape=w.tape
 output:w'.output=w.output
 size:w.heap.size≤w'.heap.size
 block:∀k,k<w.heap.size→¬F k→w'.heap[k]?=w.heap[k]?
 more:∀k,F' k→F k∨(w.heap.size≤k∧k<w'.heap.size)
theorem bT.trans{F F' F'':Nat→Prop}{a b c:World}(h:bT F F' a b)(k:bT F' F'' b c):bT F F'' a c:=by
 refine⟨k.os.trans h.os,k.tape.trans h.tape,k.output.trans h.output,Nat.le_trans h.size k.size,fun i hi hn=>?_,fun i hi=>?_⟩
 ·refine(k.block i (Nat.lt_of_lt_of_le hi h.size) (fun hf=>?_)).trans (h.block i hi hn)
  rcases h.more i hf with h1 | h1
  ·exact hn h1
  ·omega
 ·rcases k.more i hi with h1 | h1
  ·rcases h.more i h1 with h2 | h2
   ·exact .inl h2
   ·exact .inr ⟨h2.1,Nat.lt_of_lt_of_le h2.2 k.size⟩
  ·exact .inr ⟨Nat.le_trans h.size h1.1,h1.2⟩
theorem bT.of_below{F:Nat→Prop}{w w':World}(h:Bw w w'):bT F F w w':=⟨h.os,h.tape,h.output,h.size,fun k hk _=>h.block k hk,fun _ h=>.inl h⟩
theorem bT.below{F F':Nat→Prop}{W w w':World}(h:bT F F' w w'){B:Nat}(hb:Below B W w)(hB:B≤w.heap.size)(hF:∀k,F k→B≤k):Below B W w':=
 hb.trans ⟨h.os,h.tape,h.output,h.size,fun k hk=>h.block k (by omega) (fun hf=>by have:=hF k hf;omega)⟩
theorem iM{w w':World}{base size n:Nat}{e:TypeId}{v:Value}{xs:List Value}(h:w.ownsRow base e size v n xs)(hk:∀k,v.ownBlock=some k→w'.heap[k]?=w.heap[k]?):w'.ownsRow base e size v n xs:=by
 obtain⟨h1,h2⟩:=h
 refine⟨h1,?_⟩
 rcases h2 with h2 | ⟨g,cap,cur,rfl,hb,hg,r⟩
 ·exact .inl h2
 ·exact .inr ⟨g,cap,cur,rfl,hb,by rw[hk g rfl];exact hg,r⟩
theorem bT.apart{E F F':Nat→Prop}{w w':World}(hm:bT F F' w w')(hE:∀k,E k→k<w.heap.size)(hd:∀k,E k→¬F k):∀k,E k→¬F' k:=fun k hk hf=>by
 rcases hm.more k hf with h | h
 ·exact hd k hk h
 ·have:=hE k hk;omega
theorem bR{w:World}{G i:Nat}{cs:Array Value}{t:TypeId}(h:w.heap[G]?=some (.cells cs t (0,0))):w.frozen? ⟨G,i,none⟩=false:=by simp [World.frozen?,h]
theorem rJ{w:World}{G i:Nat}{cs:Array Value}{t:TypeId}{fr:Nat×Nat}(h:w.heap[G]?=some (.cells cs t fr))(u:Value):(w.setCell ⟨G,i,none⟩ u).heap[G]?=some (.cells (cs.setIfInBounds i u) t fr):=by
 simp only[World.setCell,Array.getElem?_modify,if_true,h,Option.map_some]
 rfl
theorem bT.nC{F F':Nat→Prop}{w w':World}(h:bT F F' w w'){k:Nat}{o:Obj}(hk:w.heap[k]?=some o)(hn:¬F k):w'.heap[k]?=some o∧¬F' k:=by
 have hl:=(bN hk).1
 refine⟨by rw[h.block k hl hn];exact hk,fun hf=>?_⟩
 rcases h.more k hf with h1 | h1
 ·exact hn h1
 ·omega
theorem bT.cell{F F':Nat→Prop}{w w':World}(h:bT F F' w w'){p:Addr}{v:Value}(hc:w.cell? p=some v)(hn:¬F p.block):w'.cell? p=some v∧¬F' p.block:=by
 have hl:p.block<w.heap.size:=by
  rcases Nat.lt_or_ge p.block w.heap.size with h | h
  ·exact h
  ·simp [World.cell?,Array.getElem?_eq_none h] at hc
 have e:w'.cell? p=w.cell? p:=by simp only[World.cell?,h.block _ hl hn]
 refine⟨by rw[e];exact hc,fun hf=>?_⟩
 rcases h.more _ hf with h1 | h1
 ·exact hn h1
 ·omega
theorem size_setCell(w:World)(a:Addr)(u:Value):(w.setCell a u).heap.size=w.heap.size:=by simp [World.setCell]
theorem bT.set{F F':Nat→Prop}{w w':World}(h:bT F F' w w'){V i:Nat}(hV:w.heap.size≤V)(u:Value):bT F F' w (w'.setCell ⟨V,i,none⟩ u):=
 ⟨h.os,h.tape,h.output,by rw[size_setCell];exact h.size,fun k hk hn=>by rw[Below.heap_setCell _ _ _ _ (fun e=>by have:k=V:=e;omega)];exact h.block k hk hn,fun k hk=>by rw[size_setCell];exact h.more k hk⟩
theorem Er{w w':World}{F F':Nat→Prop}{base size n:Nat}{e:TypeId}{v:Value}{xs:List Value}(h:w.ownsRow base e size v n xs)(hm:bT F F' w w')(hn:∀k,v.ownBlock=some k→¬F k):w'.ownsRow base e size v n xs∧∀k,v.ownBlock=some k→¬F' k:=by
 have hlt:∀k,v.ownBlock=some k→k<w.heap.size:=fun k hk=>by
  obtain⟨_,h2⟩:=h
  rcases h2 with⟨rfl,_⟩ | ⟨g,cap,cur,rfl,_,hg,_⟩
  ·simp [Value.ownBlock] at hk
  ·simp [Value.ownBlock] at hk;subst hk;exact(bN hg).1
 refine⟨iM h (fun k hk=>hm.block k (hlt k hk) (hn k hk)),fun k hk hf=>?_⟩
 rcases hm.more k hf with h1 | h1
 ·exact hn k hk h1
 ·have:=hlt k hk;omega
end Go.Proofs.YtmgfakcccfahaaaGreatDoor
namespace Go.Proofs.YtmgfakcccfahaaaGreatDoor
open Go.RowKit
def jA(w:World)(v:Value)(l:List Int):Prop:=l.length≤maxLen∧∃o c,v=.slice o l.length c∧∀k x,l[k]?=some x→∃b off,o=some ⟨b,off,none⟩∧w.cell? ⟨b,off+k,none⟩=some (.int .i64 x)
theorem iR{B:Nat}{a w:World}(h:Below B a w)(n:Nat):Below B a (w.drewN n):=⟨h.os,h.tape,h.output,h.size,h.block⟩
def DW(x y a b:Int):Int:=if a=b∧(x=0∨b=x) then y else 0
def OZ(a b c:Int):Int:=if a=1∧b=c then c else 0
end Go.Proofs.YtmgfakcccfahaaaGreatDoor
