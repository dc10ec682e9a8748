/-
  TERMS, IN PLAIN MATHEMATICS.
-/
import Derived.Laws.AppendOwn
import Derived.Laws.Rows
import Derived.OwnWalk
import Derived.Deep.AppendLies
import Derived.Test.YtmgfakcccfahaaaGreatDoorN01
import Derived.Maps.OwnSet
import Derived.Maps.RangeWalk
import Derived.StringKeys
import Derived.DeepKeys4
import Derived.Laws.EntriesVeiled
namespace Go.Proofs.YtmgfakcccfahaaaGreatDoor
inductive Ex where
 | mk (op:ByteArray) (n:Int) (s:ByteArray) (l:List Ex)
def Ex.op:Ex→ByteArray | .mk op _ _ _=>op
def Ex.n:Ex→Int | .mk _ n _ _=>n
def Ex.s:Ex→ByteArray | .mk _ _ s _=>s
def Ex.l:Ex→List Ex | .mk _ _ _ l=>l
end Go.Proofs.YtmgfakcccfahaaaGreatDoor
namespace Go.Proofs.YtmgfakcccfahaaaGreatDoor
open Go.RowKit
def aB(w:World)(S:Nat→Prop)(size:Nat)(v:Value)(n:Nat)(xs:List Value):Prop:=
 xs.length=n*size∧n≤maxLen∧∃o c,v=.slice o n c∧(∀k x,xs[k]?=some x→∃b off,o=some ⟨b,off,none⟩∧S b∧w.cell? ⟨b,off+k,none⟩=some x)∧n≤c
def From(base:Nat):Nat→Prop:=fun b=>base≤b
def aP(S S':Nat→Prop)(w w':World):Prop:=∀b,S b→b<w.heap.size→S' b∧w'.heap[b]?=w.heap[b]?
theorem jP{w:World}{p:Addr}{v:Value}(hc:w.cell? p=some v):p.block<w.heap.size:=by
 rcases Nat.lt_or_ge p.block w.heap.size with h | h
 ·exact h
 ·simp [World.cell?,Array.getElem?_eq_none h] at hc
theorem aB.keep{w w':World}{S S':Nat→Prop}{size n:Nat}{v:Value}{xs:List Value}(h:aB w S size v n xs)(hs:aP S S' w w'):aB w' S' size v n xs:=by
 obtain⟨h1,h2,o,c,rfl,h3,h4⟩:=h
 refine⟨h1,h2,o,c,rfl,fun k x hx=>?_,h4⟩
 obtain⟨b,off,rfl,hb,hc⟩:=h3 k x hx
 have hs':=hs b hb (jP hc)
 exact⟨b,off,rfl,hs'.1,by rw[World.cell?_of_block (w:=w) hs'.2];exact hc⟩
theorem aB.qM{w:World}{base size n:Nat}{e:TypeId}{v:Value}{xs:List Value}(h:w.ownsRow base e size v n xs):aB w (From base) size v n xs:=by
 obtain⟨h1,h2⟩:=h
 rcases h2 with⟨rfl,rfl⟩ | ⟨g,cap,cur,rfl,hg,hh,hc1,hc2,hc3,hc4⟩
 ·have:xs=[]:=List.eq_nil_of_length_eq_zero (by omega)
  subst this
  exact⟨by simp,by unfold maxLen;omega,none,0,rfl,fun k x hx=>by simp at hx,Nat.le_refl _⟩
 ·refine⟨h1,by omega,_,cap,rfl,fun k x hx=>⟨g,0,rfl,hg,?_⟩,hc1⟩
  rw[Nat.zero_add,cell_of_row w g k cur e (0,0) hh]
  rw[←hc4,List.getElem?_take] at hx
  split at hx
  ·simpa using hx
  ·cases hx
theorem aB.at{w:World}{S:Nat→Prop}{size n:Nat}{v:Value}{xs:List Value}(h:aB w S size v n xs)(hp:0<xs.length):∃b off c,v=.slice (some ⟨b,off,none⟩) n c∧S b∧b<w.heap.size∧∀k x,xs[k]?=some x→w.cell? ⟨b,off+k,none⟩=some x:=by
 obtain⟨h1,h2,o,c,rfl,h3,_⟩:=h
 obtain⟨b,off,rfl,hb,hc⟩:=h3 0 xs[0] (List.getElem?_eq_getElem hp)
 refine⟨b,off,c,rfl,hb,jP hc,fun k x hx=>?_⟩
 obtain⟨b',off',e,_,hc'⟩:=h3 k x hx
 injection e with e;injection e with e1 e2;subst e1 e2
 exact hc'

inductive aI(w:World)(S:Nat→Prop):List Ex→List Value→Prop
 | nil:aI w S [] []
 | cons (op:ByteArray) (n:Int) (s:ByteArray) (l es:List Ex) (lv:Value) (xs ys:List Value):aB w S 4 lv l.length xs→aI w S l xs→aI w S es ys→aI w S (.mk op n s l::es) (.string op::.int .i64 n::.string s::lv::ys)
theorem aI.keep{w w':World}{S S':Nat→Prop}{es:List Ex}{xs:List Value}(h:aI w S es xs)(hs:aP S S' w w'):aI w' S' es xs:=by
 induction h with
 | nil=>exact .nil
 | cons op n s l es lv xs ys h1 _ _ ih1 ih2=>exact .cons op n s l es lv xs ys (h1.keep hs) ih1 ih2
theorem aI.length{w:World}{S:Nat→Prop}{es:List Ex}{xs:List Value}(h:aI w S es xs):xs.length=es.length*4:=by
 induction h with
 | nil=>rfl
 | cons op n s l es lv xs ys h1 _ _ _ ih2=>simp only[List.length_cons,ih2];omega
theorem aI.append{w:World}{S:Nat→Prop}{es fs:List Ex}{xs ys:List Value}(h:aI w S es xs)(g:aI w S fs ys):aI w S (es++fs) (xs++ys):=by
 induction h with
 | nil=>exact g
 | cons op n s l es lv xs ys h1 h2 _ _ ih2=>exact .cons op n s l _ lv xs _ h1 h2 ih2
theorem aI.one{w:World}{S:Nat→Prop}{e:Ex}{xs:List Value}(h:aI w S [e] xs):∃op n s l lv ys,e=.mk op n s l∧xs=[.string op,.int .i64 n,.string s,lv]∧aB w S 4 lv l.length ys∧aI w S l ys:=by
 cases h with
 | cons op n s l es lv xs ys h1 h2 h3=>
  cases h3
  exact⟨op,n,s,l,lv,xs,rfl,rfl,h1,h2⟩
theorem aI.one'{w:World}{S:Nat→Prop}{e:Ex}{xs:List Value}(h:aI w S [e] xs):∃op n s l o c ys,e=.mk op n s l∧xs=[.string op,.int .i64 n,.string s,.slice o l.length c]∧aB w S 4 (.slice o l.length c) l.length ys∧aI w S l ys:=by
 obtain⟨op,n,s,l,lv,ys,rfl,rfl,h1,h2⟩:=h.one
 obtain⟨a1,a2,o,c,rfl,a3⟩:=h1
 exact⟨op,n,s,l,o,c,ys,rfl,rfl,⟨a1,a2,o,c,rfl,a3⟩,h2⟩
def Fv(w:World)(S:Nat→Prop)(e:Ex)(v:Value):Prop:=∃xs,v=.agg xs∧aI w S [e] xs.toList
theorem Fv.one{w:World}{S:Nat→Prop}{e:Ex}{v:Value}(h:Fv w S e v):∃op n s l o c ys,e=.mk op n s l∧v=.agg #[.string op,.int .i64 n,.string s,.slice o l.length c]∧aB w S 4 (.slice o l.length c) l.length ys∧aI w S l ys:=by
 obtain⟨xs,rfl,h⟩:=h
 obtain⟨op,n,s,l,o,c,ys,rfl,hx,h1,h2⟩:=h.one'
 refine⟨op,n,s,l,o,c,ys,rfl,?_,h1,h2⟩
 congr 1
 apply Array.ext'
 rw[hx]
def bR(l:List Ex):List Value:=l.flatMap fun e=>[.string e.op,.int .i64 e.n]
def gU(l:List Ex):List Value:=l.map fun e=>.string e.op
theorem aB.form{w:World}{S:Nat→Prop}{size n:Nat}{v:Value}{xs:List Value}(h:aB w S size v n xs):∃o c,v=.slice o n c:=by
 obtain⟨_,_,o,c,h,_⟩:=h;exact⟨o,c,h⟩

theorem kZ{w:World}{S:Nat→Prop}{size n m:Nat}{o:Option Addr}{c:Nat}{xs:List Value}(h:aB w S size (.slice o m c) n xs)(hn:0<xs.length):∃b off,o=some ⟨b,off,none⟩∧b<w.heap.size∧∀k x,xs[k]?=some x→w.cell? ⟨b,off+k,none⟩=some x:=by
 obtain⟨b,off,c',e,hb,hl,hc⟩:=h.at hn
 injection e with e
 exact⟨b,off,e,hl,hc⟩
theorem aB.cap{w:World}{S:Nat→Prop}{size n c:Nat}{o:Option Addr}{xs:List Value}(h:aB w S size (.slice o n c) n xs):n≤c:=by
 obtain⟨_,_,o',c',e,_,h4⟩:=h
 injection e with e1 e2 e3
 omega
theorem aB.len{w:World}{S:Nat→Prop}{size n:Nat}{v:Value}{xs:List Value}(h:aB w S size v n xs):n≤maxLen:=h.2.1
theorem vD{ns:List Ex}{i:Nat}(hi:i<ns.length):(gU ns)[i]?=some (.string ns[i].op):=by
 simp [gU,hi]
theorem xA:∀{vs:List Ex} {i:Nat} (hi:i<vs.length),(bR vs)[i*2]?=some (.string vs[i].op)∧(bR vs)[i*2+1]?=some (.int .i64 vs[i].n)
 | [],i,hi=>by simp at hi
 | v::vs,0,_=>⟨rfl,rfl⟩
 | v::vs,i+1,hi=>by
  have:=xA (vs:=vs) (i:=i) (by simpa using hi)
  have e:bR (v::vs)=.string v.op::.int .i64 v.n::bR vs:=rfl
  rw[e,show (i+1)*2=i*2+1+1 from by omega,List.getElem?_cons_succ,List.getElem?_cons_succ,List.getElem?_cons_succ,List.getElem?_cons_succ]
  exact this
theorem Az:∀(vs:List Ex),(bR vs).length=vs.length*2
 | []=>rfl
 | v::vs=>by have:=Az vs;simp only[bR,List.flatMap_cons,List.length_append,List.length_cons,List.length_nil] at this ⊢;omega
theorem vC(ns:List Ex):(gU ns).length=ns.length:=by simp [gU]
theorem aI.at{w:World}{S:Nat→Prop}{l:List Ex}{xs:List Value}(h:aI w S l xs):∀{i:Nat} (hi:i<l.length),∃op n s es o c ys,l[i]=.mk op n s es∧xs[i*4]?=some (.string op)∧xs[i*4+1]?=some (.int .i64 n)∧xs[i*4+2]?=some (.string s)∧xs[i*4+3]?=some (.slice o es.length c)∧aB w S 4 (.slice o es.length c) es.length ys∧aI w S es ys:=by
 induction h with
 | nil=>intro i hi;simp at hi
 | cons op n s l es lv xs ys h1 h2 h3 _ ih=>
  intro i hi
  cases i with
  | zero=>
   obtain⟨o,c,rfl⟩:=h1.form
   exact⟨op,n,s,l,o,c,xs,rfl,rfl,rfl,rfl,rfl,h1,h2⟩
  | succ i=>
   obtain⟨op',n',s',l',o,c,zs,e,a0,a1,a2,a3,a4,a5⟩:=ih (i:=i) (by simpa using hi)
   refine⟨op',n',s',l',o,c,zs,by simpa using e,?_,?_,?_,?_,a4,a5⟩
   ·rw[show (i+1)*4=i*4+1+1+1+1 from by omega];simpa using a0
   ·rw[show (i+1)*4+1=i*4+1+1+1+1+1 from by omega];simpa using a1
   ·rw[show (i+1)*4+2=i*4+2+1+1+1+1 from by omega];simpa using a2
   ·rw[show (i+1)*4+3=i*4+3+1+1+1+1 from by omega];simpa using a3
theorem kC{l:List Ex}{i:Nat}(hi:i<l.length){op:ByteArray}{n:Int}{s:ByteArray}{es:List Ex}(e:l[i]=.mk op n s es):SizeOf.sizeOf es<SizeOf.sizeOf l:=by
 have h:=List.sizeOf_lt_of_mem (List.getElem_mem hi)
 rw[e] at h
 simp only[Ex.mk.sizeOf_spec] at h
 omega
theorem gL{w:World}{b:Nat}{x y z u:Value}{t:TypeId}(h:w.heap[b]?=some (.cells #[x,y,z,u] t (0,0))):w.cell? ⟨b,0,none⟩=some x∧w.cell? ⟨b,1,none⟩=some y∧w.cell? ⟨b,2,none⟩=some z∧w.cell? ⟨b,3,none⟩=some u∧∀k,w.frozen? ⟨b,k,none⟩=false:=
 ⟨by simp [World.cell?,h],by simp [World.cell?,h],by simp [World.cell?,h],by simp [World.cell?,h],fun k=>by simp [World.frozen?,h]⟩
abbrev oH(op:ByteArray)(n:Int)(s:ByteArray)(v:Value):Obj:=.cells #[.string op,.int .i64 n,.string s,v] 92
theorem dX(w:World)(o1 o2:Obj):((w.alloc o1).alloc o2).heap[w.heap.size+1]?=some o2:=by
 have:=heap_alloc_new (w.alloc o1) o2
 rw[World.size_alloc] at this;exact this

theorem Tryz.yY:(Tryz.prog.info? 157).map (fun i=>(i.zero,i.size,i.bytes))=some (some (.agg #[.string ⟨#[]⟩,.int .i64 0]),2,24):=by kernel_rfl
open Go.Maps
def sU:Value→Option (DataW Value×List MemPlace):=fun v=>some (.held v,[])
def bC(f:List UInt8→Option Value)(k:List UInt8)(v:Value):List UInt8→Option Value:=fun x=>if x=k then some v else f x
def mV:List UInt8→Option Value:=fun _=>none
def aR(w:World)(b n:Nat)(f:List UInt8→Option Value):Prop:=∃D:DataW Value,w.ownsMap Tryz.prog 9 sU b n D∧∀k,Maps.has D (.string k)=(f k).isSome∧∀v z,f k=some v→D.atKey (.string k) z=.held v
theorem xK:Keyed Tryz.prog 9:=string_keyed Tryz.underlying9
theorem aR.lt{w:World}{b n:Nat}{f:List UInt8→Option Value}(h:aR w b n f):b<w.heap.size:=by
 obtain⟨D,h,_⟩:=h
 exact h.lt
theorem aR.kept{w w':World}{b n:Nat}{f:List UInt8→Option Value}(h:aR w b n f)(e:w'.heap[b]?=w.heap[b]?):aR w' b n f:=by
 obtain⟨D,⟨es,clock,hb,r⟩,k⟩:=h
 exact⟨D,⟨es,clock,by rw[e];exact hb,r⟩,k⟩
theorem aR.made(w:World):aR (w.alloc (.map #[] 0)) w.heap.size 0 mV:=
 ⟨.map [],World.ownsMap_made w _ _ _,fun k=>⟨rfl,fun v z h=>by simp [mV] at h⟩⟩
theorem Nk{D:DataW Value}{f:List UInt8→Option Value}(hD:IsMap D)(h:∀k,Maps.has D (.string k)=(f k).isSome∧∀v z,f k=some v→D.atKey (.string k) z=.held v)(s:List UInt8)(val:Value) :
  ∀k,Maps.has (D.put (.string s) (.held val)) (.string k)=(bC f s val k).isSome∧∀v z,bC f s val k=some v→(D.put (.string s) (.held val)).atKey (.string k) z=.held v:=by
 intro k
 unfold bC
 by_cases e:k=s
 ·subst e
  rw[if_pos rfl]
  exact⟨has_put_same hD (show WideAt.IsKeyLit (.string k) from trivial) _,fun v z hv=>by rw[atKey_put_same hD (show WideAt.IsKeyLit (.string k) from trivial)];simpa using hv⟩
 ·have hne:Lit.string k≠Lit.string s:=fun q=>e (by simpa using q)
  rw[if_neg e,has_put_other hne]
  exact⟨(h k).1,fun v z hv=>by rw[atKey_put_other hne];exact(h k).2 v z hv⟩
theorem aR.put{w:World}{b n:Nat}{f:List UInt8→Option Value}(h:aR w b n f){t e:TypeId}(ht:Tryz.prog.underlying t=some (.map 9 e))(hn:n<maxLen)(s:ByteArray)(hs:s.size≤maxLen)(val:Value) :
  ∃w',(Instr.mapUpdate t (.map (some b)) (.string s) val).run Tryz.prog w=.ok () w'∧aR w' b (n+1) (bC f s.data.toList val)∧w.grownBy w' (some b):=by
 obtain⟨D,h,k⟩:=h
 obtain⟨w',r1,r2,r3⟩:=h.update xK ht hn (WideMaps.keyOf_string_mk Tryz.underlying9 hs) (show sU val=some (.held val,[]) from rfl)
 exact⟨w',r1,⟨_,r2,Nk h.isMap k _ _⟩,r3⟩
def iP(f:FuncId):Value:=.func (.func f) #[] #[]
theorem dQ{a b c:World}{row:Option Nat}(h:a.grownBy b row)(k:b.grownBy c row):a.grownBy c row:=
 ⟨k.os.trans h.os,k.tape.trans h.tape,k.output.trans h.output,Nat.le_trans h.size k.size,fun i hi hr=>by rw[k.block i (Nat.lt_of_lt_of_le hi h.size) hr,h.block i hi hr]⟩
theorem mO{w w':World}{row:Option Nat}(hg:w.grownBy w' row){b:Nat}{o:Obj}(hne:row≠some b)(h:w.heap[b]?=some o):w'.heap[b]?=some o:=by
 rw[hg.block b (bE h).1 (fun e=>hne e.symm)];exact h
theorem jH{w:World}(o:Obj){k:Nat}{x:Obj}(h:w.heap[k]?=some x):(w.alloc o).heap[k]?=some x:=by
 rw[Below.heap_alloc w o k (bE h).1];exact h
structure aY(F F':Nat→Prop)(w w':World):Prop where
 os:w'.os=w.os
 tape:w'.tape=w.tape
 output:w'.output=w.output
 size:w.heap.size≤w'.heap.size
 block:∀k,k<w.heap.size→¬F k→w'.heap[k]?=w.heap[k]?
 more:∀k,F' k→F k∨(w.heap.size≤k∧k<w'.heap.size)
theorem aY.trans{F F' F'':Nat→Prop}{a b c:World}(h:aY F F' a b)(k:aY F' F'' b c):aY F F'' a c:=by
 refine⟨k.os.trans h.os,k.tape.trans h.tape,k.output.trans h.output,Nat.le_trans h.size k.size,fun i hi hn=>?_,fun i hi=>?_⟩
 ·refine(k.block i (Nat.lt_of_lt_of_le hi h.size) (fun hf=>?_)).trans (h.block i hi hn)
  rcases h.more i hf with h1 | h1
  ·exact hn h1
  ·omega
 ·rcases k.more i hi with h1 | h1
  ·rcases h.more i h1 with h2 | h2
   ·exact .inl h2
   ·exact .inr ⟨h2.1,Nat.lt_of_lt_of_le h2.2 k.size⟩
  ·exact .inr ⟨Nat.le_trans h.size h1.1,h1.2⟩
theorem aY.of_below{F:Nat→Prop}{w w':World}(h:Bw w w'):aY F F w w':=⟨h.os,h.tape,h.output,h.size,fun k hk _=>h.block k hk,fun _ h=>.inl h⟩
theorem aY.below{F F':Nat→Prop}{W w w':World}(h:aY F F' w w'){B:Nat}(hb:Below B W w)(hB:B≤w.heap.size)(hF:∀k,F k→B≤k):Below B W w':=
 hb.trans ⟨h.os,h.tape,h.output,h.size,fun k hk=>h.block k (by omega) (fun hf=>by have:=hF k hf;omega)⟩
theorem gP{w w':World}{base size n:Nat}{e:TypeId}{v:Value}{xs:List Value}(h:w.ownsRow base e size v n xs)(hk:∀k,v.ownBlock=some k→w'.heap[k]?=w.heap[k]?):w'.ownsRow base e size v n xs:=by
 obtain⟨h1,h2⟩:=h
 refine⟨h1,?_⟩
 rcases h2 with h2 | ⟨g,cap,cur,rfl,hb,hg,r⟩
 ·exact .inl h2
 ·exact .inr ⟨g,cap,cur,rfl,hb,by rw[hk g rfl];exact hg,r⟩
theorem aY.apart{E F F':Nat→Prop}{w w':World}(hm:aY F F' w w')(hE:∀k,E k→k<w.heap.size)(hd:∀k,E k→¬F k):∀k,E k→¬F' k:=fun k hk hf=>by
 rcases hm.more k hf with h | h
 ·exact hd k hk h
 ·have:=hE k hk;omega
theorem dW{w:World}{G i:Nat}{cs:Array Value}{t:TypeId}(h:w.heap[G]?=some (.cells cs t (0,0))):w.frozen? ⟨G,i,none⟩=false:=by simp [World.frozen?,h]
theorem nX{w:World}{G i:Nat}{cs:Array Value}{t:TypeId}{fr:Nat×Nat}(h:w.heap[G]?=some (.cells cs t fr))(u:Value):(w.setCell ⟨G,i,none⟩ u).heap[G]?=some (.cells (cs.setIfInBounds i u) t fr):=by
 simp only[World.setCell,Array.getElem?_modify,if_true,h,Option.map_some]
 rfl
theorem aY.jU{F F':Nat→Prop}{w w':World}(h:aY F F' w w'){k:Nat}{o:Obj}(hk:w.heap[k]?=some o)(hn:¬F k):w'.heap[k]?=some o∧¬F' k:=by
 have hl:=(bE hk).1
 refine⟨by rw[h.block k hl hn];exact hk,fun hf=>?_⟩
 rcases h.more k hf with h1 | h1
 ·exact hn h1
 ·omega
theorem aY.cell{F F':Nat→Prop}{w w':World}(h:aY F F' w w'){p:Addr}{v:Value}(hc:w.cell? p=some v)(hn:¬F p.block):w'.cell? p=some v∧¬F' p.block:=by
 have hl:p.block<w.heap.size:=by
  rcases Nat.lt_or_ge p.block w.heap.size with h | h
  ·exact h
  ·simp [World.cell?,Array.getElem?_eq_none h] at hc
 have e:w'.cell? p=w.cell? p:=by simp only[World.cell?,h.block _ hl hn]
 refine⟨by rw[e];exact hc,fun hf=>?_⟩
 rcases h.more _ hf with h1 | h1
 ·exact hn h1
 ·omega
theorem size_setCell(w:World)(a:Addr)(u:Value):(w.setCell a u).heap.size=w.heap.size:=by simp [World.setCell]
theorem aY.set{F F':Nat→Prop}{w w':World}(h:aY F F' w w'){V i:Nat}(hV:w.heap.size≤V)(u:Value):aY F F' w (w'.setCell ⟨V,i,none⟩ u):=
 ⟨h.os,h.tape,h.output,by rw[size_setCell];exact h.size,fun k hk hn=>by rw[Below.heap_setCell _ _ _ _ (fun e=>by have:k=V:=e;omega)];exact h.block k hk hn,fun k hk=>by rw[size_setCell];exact h.more k hk⟩
theorem BM{w w':World}{F F':Nat→Prop}{base size n:Nat}{e:TypeId}{v:Value}{xs:List Value}(h:w.ownsRow base e size v n xs)(hm:aY F F' w w')(hn:∀k,v.ownBlock=some k→¬F k):w'.ownsRow base e size v n xs∧∀k,v.ownBlock=some k→¬F' k:=by
 have hlt:∀k,v.ownBlock=some k→k<w.heap.size:=fun k hk=>by
  obtain⟨_,h2⟩:=h
  rcases h2 with⟨rfl,_⟩ | ⟨g,cap,cur,rfl,_,hg,_⟩
  ·simp [Value.ownBlock] at hk
  ·simp [Value.ownBlock] at hk;subst hk;exact(bE hg).1
 refine⟨gP h (fun k hk=>hm.block k (hlt k hk) (hn k hk)),fun k hk hf=>?_⟩
 rcases hm.more k hf with h1 | h1
 ·exact hn k hk h1
 ·have:=hlt k hk;omega
def dI(w:World)(v:Value)(l:List Int):Prop:=l.length≤maxLen∧∃o c,v=.slice o l.length c∧∀k x,l[k]?=some x→∃b off,o=some ⟨b,off,none⟩∧w.cell? ⟨b,off+k,none⟩=some (.int .i64 x)
theorem y9{w w':World}{row:Option Nat}(hg:w.grownBy w' row){b:Nat}{o:Obj}(hne:row≠some b)(h:w.heap[b]?=some o):w'.heap[b]?=some o:=by
 rw[hg.block b (bE h).1 (fun e=>hne e.symm)];exact h
theorem qD{w:World}(o:Obj){k:Nat}{x:Obj}(h:w.heap[k]?=some x):(w.alloc o).heap[k]?=some x:=by
 rw[Below.heap_alloc w o k (bE h).1];exact h
def xS:List UInt8→Option Value:=bC (bC (bC (mV) [43] (iP 153)) [45] (iP 154)) [42] (iP 155)
def zS:List UInt8→Option Value:=bC (bC (mV) [47] (iP 156)) [109,111,100] (iP 157)
def xE:List UInt8→Option Value:=bC (bC (bC (bC (bC (bC (bC (bC (bC (bC (mV) [97,110,100] (iP 158)) [111,114] (iP 159)) [120,111,114] (iP 160)) [61,62] (iP 161)) [61] (iP 162)) [60,62] (iP 163)) [60] (iP 164)) [60,61] (iP 165)) [62] (iP 166)) [62,61] (iP 167)
def wC(c:FuncId)(p:Nat):Value:=.func (.func c) #[] #[.pointer (some ⟨p,0,none⟩)]
def Goes(c:FuncId)(g base f:List UInt8→Option Value)(left:Lit→Bool)(lo:Nat)(wr:World):Prop:=
 (∀k v,g k=some v→left (.string k)=false→∃p,lo≤p∧p<wr.heap.size∧f k=some (wC c p)∧wr.cell? ⟨p,0,none⟩=some v)∧(∀k,(g k=none∨left (.string k)=true)→f k=base k)
theorem Goes.start(c:FuncId)(g base:List UInt8→Option Value)(D:DataW Value)(hD:∀k,Maps.has D (.string k)=(g k).isSome)(lo:Nat)(w:World):Goes c g base base (Maps.has D) lo w:=by
 refine⟨fun k v hk hl=>?_,fun k _=>rfl⟩
 rw[hD,hk] at hl
 cases hl
def CB:List UInt8→Option Value:=bC (bC (bC mV [110,111,116] (iP 111)) [110,101,103] (iP 112)) [105,102] (iP 114)
end Go.Proofs.YtmgfakcccfahaaaGreatDoor
