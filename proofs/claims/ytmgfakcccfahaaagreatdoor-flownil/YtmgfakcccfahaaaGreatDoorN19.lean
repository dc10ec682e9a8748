/-
  PARTS OF MEMORY THAT ARE OWNED, APART FROM EACH OTHER: each lies in a block of its own; one of them may change, the others stay.
-/
import Derived.Test.YtmgfakcccfahaaaGreatDoorN18
namespace Go.Proofs.YtmgfakcccfahaaaGreatDoor
open Go.RowKit Go.Maps
structure Own where
 blk:Option Nat
 is:World→Prop
 loc:∀w w',(∀q,blk=some q→w'.heap[q]?=w.heap[q]?)→is w→is w'
def EJ:Own:=⟨none,fun _=>True,fun _ _ _ h=>h⟩
def aP(b:Nat)(o:Obj):Own:=⟨some b,fun w=>w.heap[b]?=some o,fun _ _ h1 h2=>(h1 b rfl).trans h2⟩
def dH(base:Nat)(e:TypeId)(size:Nat)(v:Value)(n:Nat)(xs:List Value):Own:=⟨v.ownBlock,fun w=>w.ownsRow base e size v n xs,fun _ _ h1 h2=>iM h2 h1⟩
def lF(b n:Nat)(f:List UInt8→Option Value):Own:=⟨some b,fun w=>aO w b n f,fun _ _ h1 h2=>h2.kept (h1 b rfl)⟩
structure Sep(w:World)(base:Nat)(F:Nat→Prop)(cs:List Own):Prop where
 is:∀(i:Nat) (c:Own),cs[i]?=some c→c.is w
 lt:∀(i:Nat) (c:Own) (q:Nat),cs[i]?=some c→c.blk=some q→base≤q∧q<w.heap.size∧¬F q
 ne:∀(i j:Nat) (c d:Own) (q:Nat),i≠j→cs[i]?=some c→cs[j]?=some d→c.blk=some q→d.blk≠some q
 sW:∀b,F b→b<w.heap.size
 base:base≤w.heap.size
theorem Sep.keep{w w':World}{base:Nat}{F:Nat→Prop}{cs:List Own}(h:Sep w base F cs)(hb:Bw w w'):Sep w' base F cs:=
 ⟨fun i c hi=>c.loc w w' (fun q hq=>hb.block q (h.lt i c q hi hq).2.1) (h.is i c hi),fun i c q hi hq=>⟨(h.lt i c q hi hq).1,Nat.lt_of_lt_of_le (h.lt i c q hi hq).2.1 hb.size,(h.lt i c q hi hq).2.2⟩,h.ne,fun b hb'=>Nat.lt_of_lt_of_le (h.sW b hb') hb.size,Nat.le_trans h.base hb.size⟩
theorem qX{α:Type}{l:List α}{i j:Nat}{x y:α}(h:(l.set i x)[j]?=some y):(j=i∧y=x)∨(j≠i∧l[j]?=some y):=by
 by_cases e:i=j
 ·subst e
  rw[List.getElem?_set_self (by have:=(bA h).1;simpa using this)] at h
  exact .inl ⟨rfl,(Option.some.inj h).symm⟩
 ·rw[List.getElem?_set_ne e] at h
  exact .inr ⟨fun h'=>e h'.symm,h⟩
theorem Sep.step{w w':World}{base:Nat}{F:Nat→Prop}{cs:List Own}(h:Sep w base F cs){i:Nat}{c c':Own}(hi:cs[i]?=some c)(hg:w.grownBy w' c.blk)(his:c'.is w')(hb:∀q,c'.blk=some q→c.blk=some q∨(w.heap.size≤q∧q<w'.heap.size)):Sep w' base F (cs.set i c'):=by
 have hot:∀(j:Nat) (d:Own) (q:Nat),j≠i→cs[j]?=some d→d.blk=some q→w'.heap[q]?=w.heap[q]?:=fun j d q hj hd hq=>hg.block q (h.lt j d q hd hq).2.1 (fun e=>h.ne j i d c q hj hd hi hq e.symm)
 refine⟨fun j d hd=>?_,fun j d q hd hq=>?_,fun j k d e q hjk hd he hq=>?_,fun b hb'=>Nat.lt_of_lt_of_le (h.sW b hb') hg.size,Nat.le_trans h.base hg.size⟩
 ·rcases qX hd with⟨rfl,rfl⟩ | ⟨hj,hd⟩
  ·exact his
  ·exact d.loc w w' (fun q hq=>hot j d q hj hd hq) (h.is j d hd)
 ·rcases qX hd with⟨rfl,rfl⟩ | ⟨hj,hd⟩
  ·rcases hb q hq with h1 | h1
   ·obtain⟨a,b,c⟩:=h.lt _ _ q hi h1
    exact⟨a,Nat.lt_of_lt_of_le b hg.size,c⟩
   ·exact⟨Nat.le_trans h.base h1.1,h1.2,fun hF=>by have:=h.sW q hF;omega⟩
  ·obtain⟨a,b,c⟩:=h.lt _ _ q hd hq
   exact⟨a,Nat.lt_of_lt_of_le b hg.size,c⟩
 ·rcases qX hd with⟨rfl,rfl⟩ | ⟨hj,hd⟩
  ·rcases qX he with⟨rfl,rfl⟩ | ⟨hk,he⟩
   ·exact absurd rfl hjk
   ·intro hq2
    rcases hb q hq with h1 | h1
    ·exact h.ne _ _ _ _ q hjk hi he h1 hq2
    ·have:=(h.lt _ _ q he hq2).2.1;omega
  ·have hd1:=hd
   rcases qX he with⟨rfl,rfl⟩ | ⟨hk,he⟩
   ·intro hq2
    rcases hb q hq2 with h1 | h1
    ·exact h.ne _ _ _ _ q hjk hd1 hi hq h1
    ·have:=(h.lt _ _ q hd1 hq).2.1;omega
   ·exact h.ne _ _ _ _ q hjk hd1 he hq
theorem Sep.stays{w w':World}{base:Nat}{F:Nat→Prop}{cs:List Own}(h:Sep w base F cs){i:Nat}{c:Own}(hi:cs[i]?=some c)(hg:w.grownBy w' c.blk):aJ F F w w':=fun b hF hl=>⟨hF,hg.block b hl (fun e=>(h.lt i c b hi e.symm).2.2 hF)⟩
theorem Sep.below{w w' w0:World}{F:Nat→Prop}{cs:List Own}(h:Sep w w0.heap.size F cs){i:Nat}{c:Own}(hi:cs[i]?=some c)(hg:w.grownBy w' c.blk)(hb:Bw w0 w):Bw w0 w':=hb.grown hg hb.size (fun q hq=>(h.lt i c q hi hq).1)
theorem Sep.froze{w w':World}{base:Nat}{F:Nat→Prop}{cs:List Own}(h:Sep w base F cs)(hb:Bw w w'){b:Nat}(h1:w.heap.size≤b)(h2:b<w'.heap.size):Sep w' base (fun x=>F x∨x=b) cs:=by
 have hk:=h.keep hb
 refine⟨hk.is,fun i c q hi hq=>⟨(hk.lt i c q hi hq).1,(hk.lt i c q hi hq).2.1,fun hF=>?_⟩,hk.ne,fun x hx=>?_,hk.base⟩
 ·rcases hF with hF | rfl
  ·exact(h.lt i c q hi hq).2.2 hF
  ·have:=(h.lt i c q hi hq).2.1;omega
 ·rcases hx with hx | rfl
  ·exact hk.sW x hx
  ·exact h2
theorem Sep.done{w:World}{base:Nat}{F:Nat→Prop}{cs:List Own}(h:Sep w base F cs){i:Nat}{c:Own}(hi:cs[i]?=some c):Sep w base (fun x=>F x∨c.blk=some x) (cs.set i EJ):=by
 refine⟨fun j d hd=>?_,fun j d q hd hq=>?_,fun j k d e q hjk hd he hq=>?_,fun x hx=>?_,h.base⟩
 ·rcases qX hd with⟨rfl,rfl⟩ | ⟨_,hd⟩
  ·exact trivial
  ·exact h.is j d hd
 ·rcases qX hd with⟨rfl,rfl⟩ | ⟨hj,hd⟩
  ·cases hq
  ·refine⟨(h.lt j d q hd hq).1,(h.lt j d q hd hq).2.1,fun hF=>?_⟩
   rcases hF with hF | hF
   ·exact(h.lt j d q hd hq).2.2 hF
   ·exact h.ne j i d c q hj hd hi hq hF
 ·rcases qX hd with⟨rfl,rfl⟩ | ⟨_,hd⟩
  ·cases hq
  ·rcases qX he with⟨rfl,rfl⟩ | ⟨_,he⟩
   ·intro h0;cases h0
   ·exact h.ne j k d e q hjk hd he hq
 ·rcases hx with hx | hx
  ·exact h.sW x hx
  ·exact(h.lt i c x hi hx).2.1
theorem bW(w:World)(b k:Nat)(v:Value):w.grownBy (w.setCell ⟨b,k,none⟩ v) (some b):=
 ⟨rfl,rfl,rfl,by rw[size_setCell];exact Nat.le_refl _,fun q _ hq=>Below.heap_setCell w ⟨b,k,none⟩ v q (fun e=>hq (by rw[e]))⟩
theorem Sep.set{w:World}{base:Nat}{F:Nat→Prop}{cs:List Own}(h:Sep w base F cs){i b:Nat}{a:Array Value}{t:TypeId}(hi:cs[i]?=some (aP b (.cells a t (0,0))))(k:Nat)(v:Value):Sep (w.setCell ⟨b,k,none⟩ v) base F (cs.set i (aP b (.cells (a.setIfInBounds k v) t (0,0)))):=by
 refine h.step hi (bW w b k v) ?_ (fun q hq=>.inl hq)
 exact heap_setCell_same w b k _ _ _ (h.is i _ hi)
theorem Sep.grow{w w':World}{base:Nat}{F:Nat→Prop}{cs:List Own}(h:Sep w base F cs){i:Nat}{e:TypeId}{size:Nat}{v:Value}{n:Nat}{xs:List Value}(hi:cs[i]?=some (dH base e size v n xs)){g cap m:Nat}{ys:List Value}(ho:w'.ownsRow base e size (.slice (some ⟨g,0,none⟩) m cap) m ys)(hg:w.grownBy w' v.ownBlock)(ha:v.ownBlock=some g∨g=w.heap.size):Sep w' base F (cs.set i (dH base e size (.slice (some ⟨g,0,none⟩) m cap) m ys)):=by
 refine h.step hi hg ho (fun q hq=>?_)
 have hl:=(ho.lt g rfl).2
 obtain rfl:g=q:=Option.some.inj hq
 rcases ha with ha | ha
 ·exact .inl ha
 ·exact .inr ⟨by omega,hl⟩
theorem xS{α:Type}{l1 l2:List α}{c d:α}{i:Nat}(h:(l1++c::l2)[i]?=some d):(i=l1.length∧d=c)∨(i≠l1.length∧(l1++l2)[if i<l1.length then i else i-1]?=some d):=by
 by_cases h1:i<l1.length
 ·rw[List.getElem?_append_left h1] at h
  exact .inr ⟨by omega,by rw[if_pos h1,List.getElem?_append_left h1];exact h⟩
 ·rw[List.getElem?_append_right (by omega)] at h
  by_cases h2:i=l1.length
  ·subst h2
   rw[Nat.sub_self] at h
   exact .inl ⟨rfl,(by simpa using h.symm)⟩
  ·refine .inr ⟨h2,?_⟩
   rw[if_neg h1,List.getElem?_append_right (by omega)]
   rw[show i-l1.length=(i-1-l1.length)+1 from by omega] at h
   simpa using h
theorem Ak{α:Type}{l1 l2:List α}{c d:α}{i:Nat}(h:(l1++l2)[i]?=some d):(l1++c::l2)[if i<l1.length then i else i+1]?=some d:=by
 by_cases h1:i<l1.length
 ·rw[if_pos h1,List.getElem?_append_left h1]
  rwa [List.getElem?_append_left h1] at h
 ·rw[if_neg h1,List.getElem?_append_right (by omega),show i+1-l1.length=(i-l1.length)+1 from by omega]
  rw[List.getElem?_append_right (by omega)] at h
  simpa using h
theorem Sep.put{w:World}{base:Nat}{F:Nat→Prop}{l1 l2:List Own}(h:Sep w base F (l1++l2))(c:Own)(his:c.is w)(hb:∀q,c.blk=some q→base≤q∧q<w.heap.size∧¬F q∧∀(i:Nat) (d:Own),(l1++l2)[i]?=some d→d.blk≠some q):Sep w base F (l1++c::l2):=by
 refine⟨fun i d hi=>?_,fun i d q hi hq=>?_,fun i j d e q hij hd he hq=>?_,h.sW,h.base⟩
 ·rcases xS hi with⟨_,rfl⟩ | ⟨_,hi⟩
  ·exact his
  ·exact h.is _ d hi
 ·rcases xS hi with⟨_,rfl⟩ | ⟨_,hi⟩
  ·exact⟨(hb q hq).1,(hb q hq).2.1,(hb q hq).2.2.1⟩
  ·exact h.lt _ d q hi hq
 ·rcases xS hd with⟨h1,rfl⟩ | ⟨h1,hd⟩
  ·rcases xS he with⟨h2,rfl⟩ | ⟨h2,he⟩
   ·omega
   ·exact(hb q hq).2.2.2 _ e he
  ·have hd1:=hd
   rcases xS he with⟨h2,rfl⟩ | ⟨h2,he⟩
   ·exact fun hq2=>(hb q hq2).2.2.2 _ d hd1 hq
   ·refine h.ne _ _ d e q ?_ hd1 he hq
    split<;>split<;>omega
theorem Sep.drop{w:World}{base:Nat}{F:Nat→Prop}{l1 l2:List Own}{c:Own}(h:Sep w base F (l1++c::l2)):Sep w base F (l1++l2):=
 ⟨fun _ d hi=>h.is _ d (Ak hi),fun _ d q hi hq=>h.lt _ d q (Ak hi) hq,fun i j d e q hij hd he hq=>h.ne _ _ d e q (by split<;>split<;>omega) (Ak hd) (Ak he) hq,h.sW,h.base⟩
theorem Sep.alloc{w:World}{base:Nat}{F:Nat→Prop}{l1 l2:List Own}(h:Sep w base F (l1++l2))(a:Array Value)(t:TypeId):Sep (w.alloc (.cells a t)) base F (l1++aP w.heap.size (.cells a t (0,0))::l2):=by
 have hk:=h.keep ((Below.refl w.heap.size w).alloc (Nat.le_refl _) (.cells a t))
 refine hk.put _ (heap_alloc_new w (.cells a t)) (fun q hq=>?_)
 obtain rfl:w.heap.size=q:=Option.some.inj hq
 refine⟨h.base,by simp,fun hF=>by have:=h.sW _ hF;omega,fun i d hi hd=>by have:=(h.lt i d _ hi hd).2.1;omega⟩
set_option maxRecDepth 100000
set_option maxHeartbeats 1000000

def j3(n:Nat)(g:Nat→Int):List Int:=(List.range n).map g
theorem oW(n:Nat)(g:Nat→Int):(j3 n g).length=n:=by simp [j3]
theorem uF{n k:Nat}(g:Nat→Int)(h:k<n):(j3 n g)[k]?=some (g k):=by simp [j3,h]
theorem K7{n k:Nat}(g:Nat→Int)(v:Int):(j3 n g).set k v=j3 n (fun j=>if j=k then v else g j):=by
 apply List.ext_getElem?
 intro j
 by_cases hj:j<n
 ·rw[uF _ hj]
  by_cases e:k=j
  ·subst e
   rw[List.getElem?_set_self (by rw[oW];exact hj),if_pos rfl]
  ·rw[List.getElem?_set_ne e,uF _ hj,if_neg (fun h=>e h.symm)]
 ·rw[List.getElem?_eq_none (by rw[List.length_set,oW];omega),List.getElem?_eq_none (by rw[oW];omega)]
theorem K8{n:Nat}{g h:Nat→Int}(e:∀k,k<n→g k=h k):j3 n g=j3 n h:=List.map_congr_left fun k hk=>e k (List.mem_range.1 hk)
def dV(w:World)(W n:Nat)(g:Nat→Int):Prop:=w.heap[W]?=some (.cells ((j3 n g).map (Value.int .i64)).toArray 3 (0,0))
theorem dV.cell{w:World}{W n:Nat}{g:Nat→Int}(h:dV w W n g){k:Nat}(hk:k<n):w.cell? ⟨W,k,none⟩=some (.int .i64 (g k)):=by
 rw[cell_of_row w W k _ _ (0,0) h]
 simp [j3,hk]
theorem dV.free{w:World}{W n:Nat}{g:Nat→Int}(h:dV w W n g)(k:Nat):w.frozen? ⟨W,k,none⟩=false:=by
 unfold dV at h
 simp [World.frozen?,h]
theorem dV.set{w:World}{W n:Nat}{g:Nat→Int}(h:dV w W n g)(k:Nat)(v:Int):dV (w.setCell ⟨W,k,none⟩ (.int .i64 v)) W n (fun j=>if j=k then v else g j):=by
 unfold dV
 rw[heap_setCell_same w W k _ _ _ h,←K7]
 simp [List.map_set]
theorem dV.lt{w:World}{W n:Nat}{g:Nat→Int}(h:dV w W n g):W<w.heap.size:=(bN h).1
theorem dV.made(w:World)(n:Nat):dV (w.alloc (.cells (Array.replicate n (.int .i64 0)) 3)) w.heap.size n (fun _=>0):=by
 unfold dV
 rw[heap_alloc_new]
 congr 2
 apply Array.toList_inj.1
 apply List.ext_getElem?
 intro j
 simp only[Array.toList_replicate,List.getElem?_replicate,j3,List.getElem?_map]
 by_cases hj:j<n
 ·simp [hj]
 ·simp [hj]
theorem dV.ints{w:World}{W n:Nat}{g:Nat→Int}(h:dV w W n g)(hn:n≤maxLen):dP w (.slice (some ⟨W,0,none⟩) n n) (j3 n g):=by
 refine⟨by rw[oW];exact hn,_,n,by rw[oW],fun k x hk=>⟨W,0,rfl,?_⟩⟩
 have hkn:k<n:=by have:=(bA hk).1;rw[oW] at this;exact this
 rw[uF _ hkn] at hk
 rw[Nat.zero_add,h.cell hkn,Option.some.inj hk]
def rH(l:List Int)(x:Int):Int:=match l.findIdx? (·==x) with
 | some k=>k
 | none=>-1
theorem Gg{l:List Int}{x:Int}{j:Nat}(h:l[j]?=some x)(hb:∀i,i<j→l[i]?≠some x):rH l x=j:=by
 have hj:=(bA h).1
 have hf:l.findIdx? (·==x)=some j:=by
  rw[List.findIdx?_eq_some_iff_getElem]
  refine⟨hj,by have:=(bA h).2;simpa using this,fun i hi=>?_⟩
  have:=hb i hi
  rw[List.getElem?_eq_getElem (by omega)] at this
  simpa using this
 unfold rH
 rw[hf]
theorem Gh{l:List Int}{x:Int}(hb:∀i,i<l.length→l[i]?≠some x):rH l x=-1:=by
 have hf:l.findIdx? (·==x)=none:=by
  rw[List.findIdx?_eq_none_iff]
  intro y hy
  obtain⟨i,hi⟩:=List.mem_iff_getElem?.1 hy
  have:=hb i (bA hi).1
  rw[hi] at this
  simpa using this
 unfold rH
 rw[hf]
theorem OV(w:World)(l:List Int)(o:Option Addr)(c:Nat)(x:Int)(h:dP w (.slice o l.length c) l)(hl:l.length≤100000) :
  Calls Tryz.prog 82 #[.slice o l.length c,.int .i64 x] w fun e w'=>e=.returned (.int .i64 (rH l x))∧Bw w w':=by
 have HI:=aA h
 have HL:=aA hl
 clear h hl
 go_enter Tryz.func82,Tryz.ntmps82
 go_wp2
 go_loopw [8] (fun t wr=>∃(j:Nat),j≤l.length∧t=.int .i64 j∧Hid (Bw w wr∧∀i,i<j→l[i]?≠some x)) (fun t _=>l.length-(intOf t).toNat)
 case atStart=>exact⟨0,Nat.zero_le _,rfl,⟨Below.refl _ _,fun i hi=>absurd hi (by omega)⟩⟩
 case round=>
  obtain⟨j,hj,rfl,HJ⟩:=hrel
  by_cases hjl:j<l.length
  ·obtain⟨y,hy⟩:∃y,l[j]?=some y:=⟨_,List.getElem?_eq_getElem hjl⟩
   obtain⟨b,off,rfl,hc⟩:=HI.out.get hy
   have y0:=aD HJ.out.1 hc
   have i0':(0:Int)≤(j:Int):=by omega
   have i1':(j:Int)<(l.length:Int):=by omega
   have HJL:=aA hjl
   have N4:Hid (wrap64 ((j:Int)+1)=(j:Int)+1):=by have:=HL.out;unfold Hid wrap64;omega
   by_cases hxy:x=y
   ·have HE:Hid (rH l x=(j:Int)∧Bw w wr):=⟨Gg (by rw[hy,hxy]) HJ.out.2,HJ.out.1⟩
    have d0:(x==y)=true:=by rw[hxy];exact beq_self_eq_true y
    clear hy hc hj hjl hxy HJ
    go_wp2
    go_ret
    exact⟨by rw[HE.out.1];rfl,HE.out.2⟩
   ·have d0:(x==y)=false:=beq_eq_false_iff_ne.2 hxy
    have HN:Hid (Bw w wr∧∀i,i<j+1→l[i]?≠some x):=⟨HJ.out.1,fun i hi=>by
     by_cases e:i=j
     ·rw[e,hy]
      intro h
      exact hxy (Option.some.inj h).symm
     ·exact HJ.out.2 i (by omega)⟩
    clear hy hc hj hjl hxy HJ
    go_wp2
    exact⟨⟨j+1,HJL.out,by rw[N4.out];rfl,HN.out⟩,by rw[N4.out];have:=HJL.out;simp [intOf];omega⟩
  ·obtain rfl:j=l.length:=by omega
   have HE:Hid (rH l x=-1∧Bw w wr):=⟨Gh HJ.out.2,HJ.out.1⟩
   clear hj hjl HJ
   go_wp2
   go_ret
   exact⟨by rw[HE.out.1];rfl,HE.out.2⟩
def pW(nd:List (List Nat))(i j k u:Nat):Nat:=if u<i then (bV nd u).count k else if u=i then ((bV nd i).take j).count k else 0
theorem Jh(nd:List (List Nat))(k u:Nat):pW nd 0 0 k u=0:=by
 unfold pW
 rw[if_neg (Nat.not_lt_zero _)]
 split
 ·simp
 ·rfl
theorem Jj(nd:List (List Nat))(i k u:Nat):pW nd i (bV nd i).length k u=pW nd (i+1) 0 k u:=by
 unfold pW
 by_cases h:u<i
 ·rw[if_pos h,if_pos (by omega)]
 ·rw[if_neg h]
  by_cases e:u=i
  ·subst e
   rw[if_pos rfl,if_pos (by omega),List.take_length]
  ·rw[if_neg e,if_neg (by omega)]
   split<;>simp
theorem Ji{nd:List (List Nat)}{i j x:Nat}(h:(bV nd i)[j]?=some x)(k u:Nat):pW nd i (j+1) k u=pW nd i j k u+(if u=i∧k=x then 1 else 0):=by
 unfold pW
 by_cases hu:u<i
 ·rw[if_pos hu,if_pos hu,if_neg (by omega)]
  rfl
 ·rw[if_neg hu,if_neg hu]
  by_cases e:u=i
  ·rw[if_pos e,if_pos e,List.take_add_one,h,List.count_append]
   by_cases ek:k=x
   ·subst ek
    rw[if_pos ⟨e,rfl⟩]
    simp
   ·rw[if_neg (fun hh=>ek hh.2)]
    simp [Ne.symm ek]
  ·rw[if_neg e,if_neg e,if_neg (fun hh=>e hh.1)]
structure mV(nd us:List (List Nat))(i j:Nat):Prop where
 len:us.length=nd.length
 cnt:∀(k:Nat) (l:List Nat),us[k]?=some l→∀u,l.count u=pW nd i j k u
 lt:∀(k:Nat) (l:List Nat),us[k]?=some l→∀u∈l,u<nd.length
theorem mV.start(nd:List (List Nat)):mV nd (List.replicate nd.length []) 0 0:=
 ⟨by simp,fun k l h u=>by rw[vH h,Jh];rfl,fun k l h u hu=>by rw[vH h] at hu;simp at hu⟩
theorem mV.next{nd us:List (List Nat)}{i:Nat}(h:mV nd us i (bV nd i).length):mV nd us (i+1) 0:=
 ⟨h.len,fun k l hl u=>by rw[h.cnt k l hl u,Jj],h.lt⟩
theorem mV.step{nd us:List (List Nat)}{i j x:Nat}{l:List Nat}(h:mV nd us i j)(hi:i<nd.length)(hx:(bV nd i)[j]?=some x)(hl:us[x]?=some l):mV nd (us.set x (l++[i])) i (j+1):=by
 have hxl:=(bA hl).1
 refine⟨by rw[List.length_set];exact h.len,fun k m hm u=>?_,fun k m hm u hu=>?_⟩
 ·rw[Ji hx]
  by_cases e:x=k
  ·subst e
   rw[List.getElem?_set_self hxl] at hm
   obtain rfl:=Option.some.inj hm
   rw[List.count_append,h.cnt x l hl u]
   by_cases eu:u=i
   ·subst eu
    rw[if_pos ⟨rfl,rfl⟩]
    simp
   ·rw[if_neg (fun hh=>eu hh.1)]
    simp [Ne.symm eu]
  ·rw[List.getElem?_set_ne e] at hm
   rw[h.cnt k m hm u,if_neg (fun hh=>e hh.2.symm)]
   rfl
 ·by_cases e:x=k
  ·subst e
   rw[List.getElem?_set_self hxl] at hm
   obtain rfl:=Option.some.inj hm
   rcases List.mem_append.1 hu with hu | hu
   ·exact h.lt x l hl u hu
   ·rw[List.mem_singleton.1 hu];exact hi
  ·rw[List.getElem?_set_ne e] at hm
   exact h.lt k m hm u hu
def cI(l:List Nat):List Int:=l.map fun k=>((k:Nat):Int)
theorem lG(l:List Nat):(cI l).length=l.length:=by simp [cI]
theorem lH{l:List Nat}{j x:Nat}(h:l[j]?=some x):(cI l)[j]?=some (x:Int):=by simp [cI,h]
theorem yC(l:List Nat)(x:Nat):cI (l++[x])=cI l++[(x:Int)]:=by simp [cI]
theorem dM.read{w:World}{base nb:Nat}{F:Nat→Prop}{nd:List (List Nat)}(h:dM w base nb F (nd.map cI)){i:Nat}{l:List Nat}(hl:nd[i]?=some l):∃o c,w.cell? ⟨nb,i,none⟩=some (.slice o l.length c)∧∀(j x:Nat),l[j]?=some x→∃b,o=some ⟨b,0,none⟩∧w.cell? ⟨b,j,none⟩=some (.int .i64 (x:Int)):=by
 have hl':(nd.map cI)[i]?=some (cI l):=by rw[List.getElem?_map,hl];rfl
 obtain⟨o,c,h1,_,h3,_⟩:=h.at hl'
 rw[lG] at h1 h3
 refine⟨o,c,h1,fun j x hj=>?_⟩
 have hjl:=(bA hj).1
 obtain⟨g,cap,e,_,_⟩:=h3.form (by omega)
 obtain⟨rfl,rfl⟩:o=some ⟨g,0,none⟩∧c=cap:=by simpa using e
 refine⟨g,rfl,?_⟩
 have:=h3.cells (g:=g) rfl j (.int .i64 (x:Int)) (by rw[List.getElem?_map,lH hj];rfl)
 rwa [Addr.add_lit,Nat.zero_add] at this
theorem EY{nd:List (List Nat)}{i:Nat}{l:List Nat}(h:nd[i]?=some l):bV nd i=l:=by unfold bV;rw[h];rfl
def tot(nd:List (List Nat)):Nat→Nat
 | 0=>0
 | i+1=>tot nd i+(bV nd i).length
theorem yZ(nd:List (List Nat)){i j:Nat}(h:i≤j):tot nd i≤tot nd j:=by
 induction j with
 | zero=>
  obtain rfl:i=0:=by omega
  exact Nat.le_refl _
 | succ j ih=>
  by_cases e:i=j+1
  ·rw[e];exact Nat.le_refl _
  ·have:=ih (by omega)
   simp only[tot]
   omega
structure mX(w:World)(W U n:Nat)(g:Nat→Int)(us:List (List Nat))(wr:World):Prop where
 iU:dV wr W n g
 usr:dM wr w.heap.size U (fun k=>k=W) (us.map cI)
 ne:W≠U
 wb:w.heap.size≤W
 below:Bw w wr
theorem mX.keep{w wr w':World}{W U n:Nat}{g:Nat→Int}{us:List (List Nat)}(h:mX w W U n g us wr)(hb:Bw wr w'):mX w W U n g us w':=
 ⟨(hb.block _ h.iU.lt).trans h.iU,h.usr.below hb,h.ne,h.wb,h.below.trans (hb.mono h.below.size)⟩
theorem mX.store{w wr:World}{W U n:Nat}{g:Nat→Int}{us:List (List Nat)}(h:mX w W U n g us wr)(k:Nat)(v:Int):mX w W U n (fun j=>if j=k then v else g j) us (wr.setCell ⟨W,k,none⟩ (.int .i64 v)):=by
 have hset:∀q,q≠W→(wr.setCell ⟨W,k,none⟩ (.int .i64 v)).heap[q]?=wr.heap[q]?:=fun q hq=>Below.heap_setCell wr ⟨W,k,none⟩ _ q hq
 refine⟨h.iU.set k v,h.usr.move (by rw[size_setCell];exact Nat.le_refl _) (fun q _ hF _=>hset q hF) (hset U (fun e=>h.ne e.symm)),h.ne,h.wb,?_⟩
 have h1:=h.below
 exact⟨h1.os,h1.tape,h1.output,by rw[size_setCell];exact h1.size,fun q hq=>(hset q (by have:=h.wb;omega)).trans (h1.block q hq)⟩
theorem mX.grown{w wr w':World}{W U n:Nat}{g:Nat→Int}{us:List (List Nat)}(h:mX w W U n g us wr){x i:Nat}{l:List Nat}(hl:us[x]?=some l){o:Option Addr}{c gg cap:Nat}(hc:wr.cell? ⟨U,x,none⟩=some (.slice o l.length c))(hg:wr.grownBy w' (Value.slice o l.length c).ownBlock)(ha:(Value.slice o l.length c).ownBlock=some gg∨gg=wr.heap.size)(ho:w'.ownsRow w.heap.size 3 1 (.slice (some ⟨gg,0,none⟩) (l.length+1) cap) (l.length+1) ((cI l).map (Value.int .i64)++[.int .i64 (i:Int)])):mX w W U n g (us.set x (l++[i])) (w'.setCell ⟨U,x,none⟩ (.slice (some ⟨gg,0,none⟩) (l.length+1) cap)):=by
 have hl':(us.map cI)[x]?=some (cI l):=by rw[List.getElem?_map,hl];rfl
 obtain⟨o',c',h1,_,h3,h4⟩:=h.usr.at hl'
 rw[lG] at h1 h3 h4
 obtain⟨rfl,rfl⟩:o=o'∧c=c':=by rw[hc] at h1;simpa using h1
 have hlen:(cI (l++[i])).length=l.length+1:=by rw[lG];simp
 have hu:=h.usr.grown (i:=x) (l:=cI l) (l':=cI (l++[i])) (g:=gg) (cap:=cap) (w':=w') hl' (by rw[lG];exact hc) (by rw[lG];exact hg) (by rw[lG];exact ha) (by rw[hlen,yC];simpa using ho)
 rw[hlen,←List.map_set] at hu
 have hset:∀q,q≠U→(w'.setCell ⟨U,x,none⟩ (.slice (some ⟨gg,0,none⟩) (l.length+1) cap)).heap[q]?=w'.heap[q]?:=fun q hq=>Below.heap_setCell w' ⟨U,x,none⟩ _ q hq
 refine⟨(hset W h.ne).trans ((hg.block W h.iU.lt (fun e=>(h4 W e.symm).2 rfl)).trans h.iU),hu,h.ne,h.wb,?_⟩
 have h5:Bw w w':=h.below.grown hg h.below.size (fun k hk=>(h3.lt k hk).1)
 obtain⟨vs,_,_,h6,_⟩:=h.usr
 exact⟨h5.os,h5.tape,h5.output,by rw[size_setCell];exact h5.size,fun q hq=>(hset q (by omega)).trans (h5.block q hq)⟩
end Go.Proofs.YtmgfakcccfahaaaGreatDoor
