/-
  PARTS OF MEMORY THAT ARE OWNED, APART FROM EACH OTHER: each lies in a block of its own; one of them may change, the others stay.
-/
import Derived.Test.YtmgfakcccfahaaaGreatDoorN21
namespace Go.Proofs.YtmgfakcccfahaaaGreatDoor
open Go.RowKit Go.Maps
structure Own where
 blk:Option Nat
 is:World→Prop
 loc:∀w w',(∀q,blk=some q→w'.heap[q]?=w.heap[q]?)→is w→is w'
def uY(b:Nat)(o:Obj):Own:=⟨some b,fun w=>w.heap[b]?=some o,fun _ _ h1 h2=>(h1 b rfl).trans h2⟩
def jO(base:Nat)(e:TypeId)(size:Nat)(v:Value)(n:Nat)(xs:List Value):Own:=⟨v.ownBlock,fun w=>w.ownsRow base e size v n xs,fun _ _ h1 h2=>gP h2 h1⟩
def oJ(b n:Nat)(f:List UInt8→Option Value):Own:=⟨some b,fun w=>aR w b n f,fun _ _ h1 h2=>h2.kept (h1 b rfl)⟩
structure Sep(w:World)(base:Nat)(F:Nat→Prop)(cs:List Own):Prop where
 is:∀(i:Nat) (c:Own),cs[i]?=some c→c.is w
 lt:∀(i:Nat) (c:Own) (q:Nat),cs[i]?=some c→c.blk=some q→base≤q∧q<w.heap.size∧¬F q
 ne:∀(i j:Nat) (c d:Own) (q:Nat),i≠j→cs[i]?=some c→cs[j]?=some d→c.blk=some q→d.blk≠some q
 zJ:∀b,F b→b<w.heap.size
 base:base≤w.heap.size
theorem rV{α:Type}{l:List α}{i j:Nat}{x y:α}(h:(l.set i x)[j]?=some y):(j=i∧y=x)∨(j≠i∧l[j]?=some y):=by
 by_cases e:i=j
 ·subst e
  rw[List.getElem?_set_self (by have:=(aX h).1;simpa using this)] at h
  exact .inl ⟨rfl,(Option.some.inj h).symm⟩
 ·rw[List.getElem?_set_ne e] at h
  exact .inr ⟨fun h'=>e h'.symm,h⟩
theorem Sep.step{w w':World}{base:Nat}{F:Nat→Prop}{cs:List Own}(h:Sep w base F cs){i:Nat}{c c':Own}(hi:cs[i]?=some c)(hg:w.grownBy w' c.blk)(his:c'.is w')(hb:∀q,c'.blk=some q→c.blk=some q∨(w.heap.size≤q∧q<w'.heap.size)):Sep w' base F (cs.set i c'):=by
 have hot:∀(j:Nat) (d:Own) (q:Nat),j≠i→cs[j]?=some d→d.blk=some q→w'.heap[q]?=w.heap[q]?:=fun j d q hj hd hq=>hg.block q (h.lt j d q hd hq).2.1 (fun e=>h.ne j i d c q hj hd hi hq e.symm)
 refine⟨fun j d hd=>?_,fun j d q hd hq=>?_,fun j k d e q hjk hd he hq=>?_,fun b hb'=>Nat.lt_of_lt_of_le (h.zJ b hb') hg.size,Nat.le_trans h.base hg.size⟩
 ·rcases rV hd with⟨rfl,rfl⟩ | ⟨hj,hd⟩
  ·exact his
  ·exact d.loc w w' (fun q hq=>hot j d q hj hd hq) (h.is j d hd)
 ·rcases rV hd with⟨rfl,rfl⟩ | ⟨hj,hd⟩
  ·rcases hb q hq with h1 | h1
   ·obtain⟨a,b,c⟩:=h.lt _ _ q hi h1
    exact⟨a,Nat.lt_of_lt_of_le b hg.size,c⟩
   ·exact⟨Nat.le_trans h.base h1.1,h1.2,fun hF=>by have:=h.zJ q hF;omega⟩
  ·obtain⟨a,b,c⟩:=h.lt _ _ q hd hq
   exact⟨a,Nat.lt_of_lt_of_le b hg.size,c⟩
 ·rcases rV hd with⟨rfl,rfl⟩ | ⟨hj,hd⟩
  ·rcases rV he with⟨rfl,rfl⟩ | ⟨hk,he⟩
   ·exact absurd rfl hjk
   ·intro hq2
    rcases hb q hq with h1 | h1
    ·exact h.ne _ _ _ _ q hjk hi he h1 hq2
    ·have:=(h.lt _ _ q he hq2).2.1;omega
  ·have hd1:=hd
   rcases rV he with⟨rfl,rfl⟩ | ⟨hk,he⟩
   ·intro hq2
    rcases hb q hq2 with h1 | h1
    ·exact h.ne _ _ _ _ q hjk hd1 hi hq h1
    ·have:=(h.lt _ _ q hd1 hq).2.1;omega
   ·exact h.ne _ _ _ _ q hjk hd1 he hq
theorem Sep.stays{w w':World}{base:Nat}{F:Nat→Prop}{cs:List Own}(h:Sep w base F cs){i:Nat}{c:Own}(hi:cs[i]?=some c)(hg:w.grownBy w' c.blk):aP F F w w':=fun b hF hl=>⟨hF,hg.block b hl (fun e=>(h.lt i c b hi e.symm).2.2 hF)⟩
theorem Sep.below{w w' w0:World}{F:Nat→Prop}{cs:List Own}(h:Sep w w0.heap.size F cs){i:Nat}{c:Own}(hi:cs[i]?=some c)(hg:w.grownBy w' c.blk)(hb:Bw w0 w):Bw w0 w':=hb.grown hg hb.size (fun q hq=>(h.lt i c q hi hq).1)
theorem kQ(w:World)(b k:Nat)(v:Value):w.grownBy (w.setCell ⟨b,k,none⟩ v) (some b):=
 ⟨rfl,rfl,rfl,by rw[size_setCell];exact Nat.le_refl _,fun q _ hq=>Below.heap_setCell w ⟨b,k,none⟩ v q (fun e=>hq (by rw[e]))⟩
theorem Sep.grow{w w':World}{base:Nat}{F:Nat→Prop}{cs:List Own}(h:Sep w base F cs){i:Nat}{e:TypeId}{size:Nat}{v:Value}{n:Nat}{xs:List Value}(hi:cs[i]?=some (jO base e size v n xs)){g cap m:Nat}{ys:List Value}(ho:w'.ownsRow base e size (.slice (some ⟨g,0,none⟩) m cap) m ys)(hg:w.grownBy w' v.ownBlock)(ha:v.ownBlock=some g∨g=w.heap.size):Sep w' base F (cs.set i (jO base e size (.slice (some ⟨g,0,none⟩) m cap) m ys)):=by
 refine h.step hi hg ho (fun q hq=>?_)
 have hl:=(ho.lt g rfl).2
 obtain rfl:g=q:=Option.some.inj hq
 rcases ha with ha | ha
 ·exact .inl ha
 ·exact .inr ⟨by omega,hl⟩
theorem sS{α:Type}{l1 l2:List α}{c d:α}{i:Nat}(h:(l1++c::l2)[i]?=some d):(i=l1.length∧d=c)∨(i≠l1.length∧(l1++l2)[if i<l1.length then i else i-1]?=some d):=by
 by_cases h1:i<l1.length
 ·rw[List.getElem?_append_left h1] at h
  exact .inr ⟨by omega,by rw[if_pos h1,List.getElem?_append_left h1];exact h⟩
 ·rw[List.getElem?_append_right (by omega)] at h
  by_cases h2:i=l1.length
  ·subst h2
   rw[Nat.sub_self] at h
   exact .inl ⟨rfl,(by simpa using h.symm)⟩
  ·refine .inr ⟨h2,?_⟩
   rw[if_neg h1,List.getElem?_append_right (by omega)]
   rw[show i-l1.length=(i-1-l1.length)+1 from by omega] at h
   simpa using h
theorem Sep.put{w:World}{base:Nat}{F:Nat→Prop}{l1 l2:List Own}(h:Sep w base F (l1++l2))(c:Own)(his:c.is w)(hb:∀q,c.blk=some q→base≤q∧q<w.heap.size∧¬F q∧∀(i:Nat) (d:Own),(l1++l2)[i]?=some d→d.blk≠some q):Sep w base F (l1++c::l2):=by
 refine⟨fun i d hi=>?_,fun i d q hi hq=>?_,fun i j d e q hij hd he hq=>?_,h.zJ,h.base⟩
 ·rcases sS hi with⟨_,rfl⟩ | ⟨_,hi⟩
  ·exact his
  ·exact h.is _ d hi
 ·rcases sS hi with⟨_,rfl⟩ | ⟨_,hi⟩
  ·exact⟨(hb q hq).1,(hb q hq).2.1,(hb q hq).2.2.1⟩
  ·exact h.lt _ d q hi hq
 ·rcases sS hd with⟨h1,rfl⟩ | ⟨h1,hd⟩
  ·rcases sS he with⟨h2,rfl⟩ | ⟨h2,he⟩
   ·omega
   ·exact(hb q hq).2.2.2 _ e he
  ·have hd1:=hd
   rcases sS he with⟨h2,rfl⟩ | ⟨h2,he⟩
   ·exact fun hq2=>(hb q hq2).2.2.2 _ d hd1 hq
   ·refine h.ne _ _ d e q ?_ hd1 he hq
    split<;>split<;>omega
end Go.Proofs.YtmgfakcccfahaaaGreatDoor
namespace Go.Proofs.YtmgfakcccfahaaaGreatDoor
def aU(nd:List (List Nat))(i:Nat):List Nat:=nd[i]?.getD []
def iU(nd:List (List Nat))(d:List Nat)(i:Nat):Prop:=i<nd.length∧i ∉ d∧∀k∈aU nd i,k∈d
inductive bV(nd:List (List Nat)):List Nat→Prop
 | nil:bV nd []
 | snoc (d:List Nat) (i:Nat):bV nd d→iU nd d i→(∀j,j<i→¬iU nd d j)→bV nd (d++[i])
inductive bP(nd:List (List Nat)):Nat→Nat→Prop
 | one (i k:Nat):k∈aU nd i→bP nd i k
 | more (i k j:Nat):k∈aU nd i→bP nd k j→bP nd i j
theorem bP.snoc{nd:List (List Nat)}{i k j:Nat}(h:bP nd i k)(hj:j∈aU nd k):bP nd i j:=by
 induction h with
 | one i k hk=>exact .more i k j hk (.one k j hj)
 | more i k m hk _ ih=>exact .more i k j hk (ih hj)
theorem bP.trans{nd:List (List Nat)}{i k j:Nat}(h:bP nd i k)(hj:bP nd k j):bP nd i j:=by
 induction h with
 | one i k hk=>exact .more i k j hk hj
 | more i k m hk _ ih=>exact .more i k j hk (ih hj)
theorem sG:∀(l m:List Nat),l.Nodup→(∀x∈l,x∈m)→l.length≤m.length
 | [],m,_,_=>Nat.zero_le _
 | x::l,m,hn,hs=>by
  have hx:=hs x (List.mem_cons_self ..)
  have hn':=List.nodup_cons.1 hn
  have:=sG l (m.erase x) hn'.2 (fun y hy=>(List.mem_erase_of_ne (fun e:y=x=>hn'.1 (e ▸ hy))).2 (hs y (List.mem_cons_of_mem _ hy)))
  rw[List.length_erase_of_mem hx] at this
  have:0<m.length:=List.length_pos_of_mem hx
  simp only[List.length_cons]
  omega
theorem bV.lt{nd:List (List Nat)}{d:List Nat}(h:bV nd d):∀i∈d,i<nd.length:=by
 induction h with
 | nil=>intro i hi;simp at hi
 | snoc d i _ hf _ ih=>
  intro j hj
  rcases List.mem_append.1 hj with hj | hj
  ·exact ih j hj
  ·rw[List.mem_singleton.1 hj];exact hf.1
theorem bV.nodup{nd:List (List Nat)}{d:List Nat}(h:bV nd d):d.Nodup:=by
 induction h with
 | nil=>exact List.nodup_nil
 | snoc d i _ hf _ ih=>
  refine List.nodup_append.2 ⟨ih,by simp,fun a ha b hb=>?_⟩
  rw[List.mem_singleton.1 hb]
  intro e
  exact hf.2.1 (e ▸ ha)
theorem bV.len{nd:List (List Nat)}{d:List Nat}(h:bV nd d):d.length≤nd.length:=by
 have:=sG d (List.range nd.length) h.nodup (fun x hx=>List.mem_range.2 (h.lt x hx))
 rwa [List.length_range] at this
theorem bV.all{nd:List (List Nat)}{d:List Nat}(h:bV nd d)(hl:d.length=nd.length){i:Nat}(hi:i<nd.length):i∈d:=by
 refine Decidable.byContradiction fun hn=>?_
 have:=sG (i::d) (List.range nd.length) (List.nodup_cons.2 ⟨hn,h.nodup⟩) (fun x hx=>by
  rcases List.mem_cons.1 hx with rfl | hx
  ·exact List.mem_range.2 hi
  ·exact List.mem_range.2 (h.lt x hx))
 rw[List.length_range,List.length_cons] at this
 omega
theorem bV.closed{nd:List (List Nat)}{d:List Nat}(h:bV nd d):∀i∈d,(∀k∈aU nd i,k∈d)∧¬bP nd i i∧∀j,bP nd i j→j∈d:=by
 induction h with
 | nil=>intro i hi;simp at hi
 | snoc d i _ hf _ ih=>
  have hi:∀j,bP nd i j→j∈d:=fun j hj=>by
   cases hj with
   | one _ _ hk=>exact hf.2.2 j hk
   | more _ k _ hk hr=>exact(ih k (hf.2.2 k hk)).2.2 j hr
  intro j hj
  rcases List.mem_append.1 hj with hj | hj
  ·obtain⟨h1,h2,h3⟩:=ih j hj
   exact⟨fun k hk=>List.mem_append_left _ (h1 k hk),h2,fun k hk=>List.mem_append_left _ (h3 k hk)⟩
  ·obtain rfl:=List.mem_singleton.1 hj
   exact⟨fun k hk=>List.mem_append_left _ (hf.2.2 k hk),fun hr=>hf.2.1 (hi j hr),fun k hk=>List.mem_append_left _ (hi k hk)⟩
theorem bV.acyclic{nd:List (List Nat)}{d:List Nat}(h:bV nd d)(hl:d.length=nd.length)(i:Nat):¬bP nd i i:=by
 intro hr
 by_cases hi:i<nd.length
 ·exact(h.closed i (h.all hl hi)).2.1 hr
 ·have hn:aU nd i=[]:=by unfold aU;rw[List.getElem?_eq_none (by omega)];rfl
  cases hr with
  | one _ _ hk=>rw[hn] at hk;simp at hk
  | more _ k _ hk _=>rw[hn] at hk;simp at hk
theorem JV(n:Nat)(f:Nat→Nat)(hf:∀i,i≤n→f i<n):∃i j,i<j∧j≤n∧f i=f j:=by
 refine Classical.byContradiction fun hc=>?_
 have hne:∀i j,i<j→j≤n→f i≠f j:=fun i j hij hj e=>hc ⟨i,j,hij,hj,e⟩
 have hnd:((List.range (n+1)).map f).Nodup:=by
  rw[List.nodup_iff_pairwise_ne,List.pairwise_map,List.pairwise_iff_getElem]
  intro i j hi hj hij
  simp only[List.length_range] at hi hj
  simp only[List.getElem_range]
  exact hne i j hij (by omega)
 have:=sG _ (List.range n) hnd (fun x hx=>by
  obtain⟨i,hi,rfl⟩:=List.mem_map.1 hx
  exact List.mem_range.2 (hf i (by have:=List.mem_range.1 hi;omega)))
 simp at this
 omega
def iter(g:Nat→Nat):Nat→Nat→Nat
 | 0,x=>x
 | k+1,x=>g (iter g k x)
theorem Dk{nd:List (List Nat)}{g:Nat→Nat}{x:Nat}(h:∀k,g (iter g k x)∈aU nd (iter g k x)):∀(a b:Nat),a<b→bP nd (iter g a x) (iter g b x)
 | a,0,hb=>by omega
 | a,b+1,hb=>by
  by_cases e:a=b
  ·subst e
   exact .one _ _ (h a)
  ·exact(Dk h a b (by omega)).snoc (h b)
theorem bV.cycle{nd:List (List Nat)}{d:List Nat}(hs:∀i,¬iU nd d i)(hl:d.length<nd.length)(hk:∀i,∀k∈aU nd i,k<nd.length):∃i,i<nd.length∧bP nd i i:=by
 obtain⟨x,hx,hxd⟩:∃x,x<nd.length∧x ∉ d:=by
  refine Classical.byContradiction fun hc=>?_
  have hall:∀x∈List.range nd.length,x∈d:=fun x hx=>Decidable.byContradiction fun hn=>hc ⟨x,List.mem_range.1 hx,hn⟩
  have:=sG (List.range nd.length) d List.nodup_range hall
  rw[List.length_range] at this
  omega
 have hex:∀i,∃k,i<nd.length→i ∉ d→k∈aU nd i∧k ∉ d:=fun i=>by
  by_cases hi:i<nd.length∧i ∉ d
  ·refine Classical.byContradiction fun hc=>hs i ⟨hi.1,hi.2,fun k hk=>Decidable.byContradiction fun hn=>hc ⟨k,fun _ _=>⟨hk,hn⟩⟩⟩
  ·exact⟨0,fun h1 h2=>absurd ⟨h1,h2⟩ hi⟩
 obtain⟨g,hg⟩:=Classical.axiomOfChoice hex
 have hin:∀k,iter g k x<nd.length∧iter g k x ∉ d:=fun k=>by
  induction k with
  | zero=>exact⟨hx,hxd⟩
  | succ k ih=>
   have:=hg _ ih.1 ih.2
   exact⟨hk _ _ this.1,this.2⟩
 obtain⟨a,b,hab,_,e⟩:=JV nd.length (fun k=>iter g k x) (fun k _=>(hin k).1)
 have:=Dk (nd:=nd) (fun k=>(hg _ (hin k).1 (hin k).2).1) a b hab
 rw[←e] at this
 exact⟨_,(hin a).1,this⟩
def wt(nd:List (List Nat))(d:List Nat)(i:Nat):Int:=if i∈d then -1 else (((aU nd i).countP fun k=>!d.contains k:Nat):Int)
theorem FC{nd:List (List Nat)}{d:List Nat}{i:Nat}(hi:i<nd.length):wt nd d i=0 ↔ iU nd d i:=by
 unfold wt iU
 by_cases h:i∈d
 ·rw[if_pos h]
  exact⟨fun h=>by omega,fun hf=>absurd h hf.2.1⟩
 ·rw[if_neg h]
  constructor
  ·intro h0
   have h1:(aU nd i).countP (fun k=>!d.contains k)=0:=by omega
   rw[List.countP_eq_zero] at h1
   exact⟨hi,h,fun k hk=>by have:=h1 k hk;simpa using this⟩
  ·intro hf
   have h1:(aU nd i).countP (fun k=>!d.contains k)=0:=by
    rw[List.countP_eq_zero]
    intro k hk
    have:=hf.2.2 k hk
    simpa using this
   omega
theorem Eg(d:List Nat)(x:Nat)(hx:x ∉ d):∀l:List Nat,l.countP (fun k=>!(d++[x]).contains k)+l.count x=l.countP (fun k=>!d.contains k)
 | []=>rfl
 | y::l=>by
  have ih:=Eg d x hx l
  rw[List.countP_cons,List.countP_cons,List.count_cons]
  by_cases e:y=x
  ·subst e
   have h1:(d++[y]).contains y=true:=by simp
   have h2:d.contains y=false:=by simpa using hx
   rw[h1,h2]
   simp only[BEq.rfl,Bool.not_true,Bool.not_false,if_true,Bool.false_eq_true,if_false]
   omega
  ·have h1:(d++[x]).contains y=d.contains y:=by
    simp [e]
   rw[h1]
   have h3:(y==x)=false:=beq_eq_false_iff_ne.2 e
   simp only[h3,Bool.false_eq_true,if_false]
   omega
theorem FB{nd:List (List Nat)}{d:List Nat}{x:Nat}(hg:bV nd d)(hx:iU nd d x)(u:Nat):(if u=x then -1 else wt nd d u)-((aU nd u).count x:Nat)=wt nd (d++[x]) u:=by
 have hz:∀u,(∀k∈aU nd u,k∈d)→(aU nd u).count x=0:=fun u hu=>List.count_eq_zero.2 fun hm=>hx.2.1 (hu x hm)
 unfold wt
 by_cases e:u=x
 ·subst e
  rw[if_pos rfl,if_pos (by simp),hz u hx.2.2]
  rfl
 ·rw[if_neg e]
  by_cases hd:u∈d
  ·rw[if_pos hd,if_pos (List.mem_append_left _ hd),hz u (hg.closed u hd).1]
   rfl
  ·rw[if_neg hd,if_neg (by simp [hd,e])]
   have:=Eg d x hx.2.1 (aU nd u)
   omega
end Go.Proofs.YtmgfakcccfahaaaGreatDoor
