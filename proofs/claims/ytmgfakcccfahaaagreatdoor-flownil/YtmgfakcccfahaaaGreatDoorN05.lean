/-
  package types: Result BY CONTRACT: the type of what an operator makes of parts of such types, or an error.
-/
import Derived.Deep.DeepCutAuto
import Derived.Test.YtmgfakcccfahaaaGreatDoorN04
namespace Go.Proofs.YtmgfakcccfahaaaGreatDoor
open Go.RowKit Go.Maps

def noKind(k:Int):Bool:=k != 1&&k != 2
end Go.Proofs.YtmgfakcccfahaaaGreatDoor

/-
 package types: caught,Result BY CONTRACT.
-/
namespace Go.Proofs.YtmgfakcccfahaaaGreatDoor
open Go.RowKit Go.Maps

theorem Cq{w:World}{p:Addr}{v:Value}(hc:w.cell? p=some v):p.block<w.heap.size:=by
 rcases Nat.lt_or_ge p.block w.heap.size with h | h
 ·exact h
 ·simp [World.cell?,Array.getElem?_eq_none h] at hc
end Go.Proofs.YtmgfakcccfahaaaGreatDoor
namespace Go.Proofs.YtmgfakcccfahaaaGreatDoor
def bV(nd:List (List Nat))(i:Nat):List Nat:=nd[i]?.getD []
def nR(nd:List (List Nat))(d:List Nat)(i:Nat):Prop:=i<nd.length∧i ∉ d∧∀k∈bV nd i,k∈d
inductive gB(nd:List (List Nat)):List Nat→Prop
 | nil:gB nd []
 | snoc (d:List Nat) (i:Nat):gB nd d→nR nd d i→(∀j,j<i→¬nR nd d j)→gB nd (d++[i])
inductive fU(nd:List (List Nat)):Nat→Nat→Prop
 | one (i k:Nat):k∈bV nd i→fU nd i k
 | more (i k j:Nat):k∈bV nd i→fU nd k j→fU nd i j
theorem fU.snoc{nd:List (List Nat)}{i k j:Nat}(h:fU nd i k)(hj:j∈bV nd k):fU nd i j:=by
 induction h with
 | one i k hk=>exact .more i k j hk (.one k j hj)
 | more i k m hk _ ih=>exact .more i k j hk (ih hj)
theorem fU.trans{nd:List (List Nat)}{i k j:Nat}(h:fU nd i k)(hj:fU nd k j):fU nd i j:=by
 induction h with
 | one i k hk=>exact .more i k j hk hj
 | more i k m hk _ ih=>exact .more i k j hk (ih hj)
theorem vO:∀(l m:List Nat),l.Nodup→(∀x∈l,x∈m)→l.length≤m.length
 | [],m,_,_=>Nat.zero_le _
 | x::l,m,hn,hs=>by
  have hx:=hs x (List.mem_cons_self ..)
  have hn':=List.nodup_cons.1 hn
  have:=vO l (m.erase x) hn'.2 (fun y hy=>(List.mem_erase_of_ne (fun e:y=x=>hn'.1 (e ▸ hy))).2 (hs y (List.mem_cons_of_mem _ hy)))
  rw[List.length_erase_of_mem hx] at this
  have:0<m.length:=List.length_pos_of_mem hx
  simp only[List.length_cons]
  omega
theorem gB.lt{nd:List (List Nat)}{d:List Nat}(h:gB nd d):∀i∈d,i<nd.length:=by
 induction h with
 | nil=>intro i hi;simp at hi
 | snoc d i _ hf _ ih=>
  intro j hj
  rcases List.mem_append.1 hj with hj | hj
  ·exact ih j hj
  ·rw[List.mem_singleton.1 hj];exact hf.1
theorem gB.nodup{nd:List (List Nat)}{d:List Nat}(h:gB nd d):d.Nodup:=by
 induction h with
 | nil=>exact List.nodup_nil
 | snoc d i _ hf _ ih=>
  refine List.nodup_append.2 ⟨ih,by simp,fun a ha b hb=>?_⟩
  rw[List.mem_singleton.1 hb]
  intro e
  exact hf.2.1 (e ▸ ha)
theorem gB.len{nd:List (List Nat)}{d:List Nat}(h:gB nd d):d.length≤nd.length:=by
 have:=vO d (List.range nd.length) h.nodup (fun x hx=>List.mem_range.2 (h.lt x hx))
 rwa [List.length_range] at this
theorem gB.all{nd:List (List Nat)}{d:List Nat}(h:gB nd d)(hl:d.length=nd.length){i:Nat}(hi:i<nd.length):i∈d:=by
 refine Decidable.byContradiction fun hn=>?_
 have:=vO (i::d) (List.range nd.length) (List.nodup_cons.2 ⟨hn,h.nodup⟩) (fun x hx=>by
  rcases List.mem_cons.1 hx with rfl | hx
  ·exact List.mem_range.2 hi
  ·exact List.mem_range.2 (h.lt x hx))
 rw[List.length_range,List.length_cons] at this
 omega
theorem gB.closed{nd:List (List Nat)}{d:List Nat}(h:gB nd d):∀i∈d,(∀k∈bV nd i,k∈d)∧¬fU nd i i∧∀j,fU nd i j→j∈d:=by
 induction h with
 | nil=>intro i hi;simp at hi
 | snoc d i _ hf _ ih=>
  have hi:∀j,fU nd i j→j∈d:=fun j hj=>by
   cases hj with
   | one _ _ hk=>exact hf.2.2 j hk
   | more _ k _ hk hr=>exact(ih k (hf.2.2 k hk)).2.2 j hr
  intro j hj
  rcases List.mem_append.1 hj with hj | hj
  ·obtain⟨h1,h2,h3⟩:=ih j hj
   exact⟨fun k hk=>List.mem_append_left _ (h1 k hk),h2,fun k hk=>List.mem_append_left _ (h3 k hk)⟩
  ·obtain rfl:=List.mem_singleton.1 hj
   exact⟨fun k hk=>List.mem_append_left _ (hf.2.2 k hk),fun hr=>hf.2.1 (hi j hr),fun k hk=>List.mem_append_left _ (hi k hk)⟩
theorem gB.acyclic{nd:List (List Nat)}{d:List Nat}(h:gB nd d)(hl:d.length=nd.length)(i:Nat):¬fU nd i i:=by
 intro hr
 by_cases hi:i<nd.length
 ·exact(h.closed i (h.all hl hi)).2.1 hr
 ·have hn:bV nd i=[]:=by unfold bV;rw[List.getElem?_eq_none (by omega)];rfl
  cases hr with
  | one _ _ hk=>rw[hn] at hk;simp at hk
  | more _ k _ hk _=>rw[hn] at hk;simp at hk
theorem LP(n:Nat)(f:Nat→Nat)(hf:∀i,i≤n→f i<n):∃i j,i<j∧j≤n∧f i=f j:=by
 refine Classical.byContradiction fun hc=>?_
 have hne:∀i j,i<j→j≤n→f i≠f j:=fun i j hij hj e=>hc ⟨i,j,hij,hj,e⟩
 have hnd:((List.range (n+1)).map f).Nodup:=by
  rw[List.nodup_iff_pairwise_ne,List.pairwise_map,List.pairwise_iff_getElem]
  intro i j hi hj hij
  simp only[List.length_range] at hi hj
  simp only[List.getElem_range]
  exact hne i j hij (by omega)
 have:=vO _ (List.range n) hnd (fun x hx=>by
  obtain⟨i,hi,rfl⟩:=List.mem_map.1 hx
  exact List.mem_range.2 (hf i (by have:=List.mem_range.1 hi;omega)))
 simp at this
 omega
def iter(g:Nat→Nat):Nat→Nat→Nat
 | 0,x=>x
 | k+1,x=>g (iter g k x)
theorem FW{nd:List (List Nat)}{g:Nat→Nat}{x:Nat}(h:∀k,g (iter g k x)∈bV nd (iter g k x)):∀(a b:Nat),a<b→fU nd (iter g a x) (iter g b x)
 | a,0,hb=>by omega
 | a,b+1,hb=>by
  by_cases e:a=b
  ·subst e
   exact .one _ _ (h a)
  ·exact(FW h a b (by omega)).snoc (h b)
theorem gB.cycle{nd:List (List Nat)}{d:List Nat}(hs:∀i,¬nR nd d i)(hl:d.length<nd.length)(hk:∀i,∀k∈bV nd i,k<nd.length):∃i,i<nd.length∧fU nd i i:=by
 obtain⟨x,hx,hxd⟩:∃x,x<nd.length∧x ∉ d:=by
  refine Classical.byContradiction fun hc=>?_
  have hall:∀x∈List.range nd.length,x∈d:=fun x hx=>Decidable.byContradiction fun hn=>hc ⟨x,List.mem_range.1 hx,hn⟩
  have:=vO (List.range nd.length) d List.nodup_range hall
  rw[List.length_range] at this
  omega
 have hex:∀i,∃k,i<nd.length→i ∉ d→k∈bV nd i∧k ∉ d:=fun i=>by
  by_cases hi:i<nd.length∧i ∉ d
  ·refine Classical.byContradiction fun hc=>hs i ⟨hi.1,hi.2,fun k hk=>Decidable.byContradiction fun hn=>hc ⟨k,fun _ _=>⟨hk,hn⟩⟩⟩
  ·exact⟨0,fun h1 h2=>absurd ⟨h1,h2⟩ hi⟩
 obtain⟨g,hg⟩:=Classical.axiomOfChoice hex
 have hin:∀k,iter g k x<nd.length∧iter g k x ∉ d:=fun k=>by
  induction k with
  | zero=>exact⟨hx,hxd⟩
  | succ k ih=>
   have:=hg _ ih.1 ih.2
   exact⟨hk _ _ this.1,this.2⟩
 obtain⟨a,b,hab,_,e⟩:=LP nd.length (fun k=>iter g k x) (fun k _=>(hin k).1)
 have:=FW (nd:=nd) (fun k=>(hg _ (hin k).1 (hin k).2).1) a b hab
 rw[←e] at this
 exact⟨_,(hin a).1,this⟩
def wt(nd:List (List Nat))(d:List Nat)(i:Nat):Int:=if i∈d then -1 else (((bV nd i).countP fun k=>!d.contains k:Nat):Int)
theorem II{nd:List (List Nat)}{d:List Nat}{i:Nat}(hi:i<nd.length):wt nd d i=0 ↔ nR nd d i:=by
 unfold wt nR
 by_cases h:i∈d
 ·rw[if_pos h]
  exact⟨fun h=>by omega,fun hf=>absurd h hf.2.1⟩
 ·rw[if_neg h]
  constructor
  ·intro h0
   have h1:(bV nd i).countP (fun k=>!d.contains k)=0:=by omega
   rw[List.countP_eq_zero] at h1
   exact⟨hi,h,fun k hk=>by have:=h1 k hk;simpa using this⟩
  ·intro hf
   have h1:(bV nd i).countP (fun k=>!d.contains k)=0:=by
    rw[List.countP_eq_zero]
    intro k hk
    have:=hf.2.2 k hk
    simpa using this
   omega
theorem GQ(d:List Nat)(x:Nat)(hx:x ∉ d):∀l:List Nat,l.countP (fun k=>!(d++[x]).contains k)+l.count x=l.countP (fun k=>!d.contains k)
 | []=>rfl
 | y::l=>by
  have ih:=GQ d x hx l
  rw[List.countP_cons,List.countP_cons,List.count_cons]
  by_cases e:y=x
  ·subst e
   have h1:(d++[y]).contains y=true:=by simp
   have h2:d.contains y=false:=by simpa using hx
   rw[h1,h2]
   simp only[BEq.rfl,Bool.not_true,Bool.not_false,if_true,Bool.false_eq_true,if_false]
   omega
  ·have h1:(d++[x]).contains y=d.contains y:=by
    simp [e]
   rw[h1]
   have h3:(y==x)=false:=beq_eq_false_iff_ne.2 e
   simp only[h3,Bool.false_eq_true,if_false]
   omega
theorem IG{nd:List (List Nat)}{d:List Nat}{x:Nat}(hg:gB nd d)(hx:nR nd d x)(u:Nat):(if u=x then -1 else wt nd d u)-((bV nd u).count x:Nat)=wt nd (d++[x]) u:=by
 have hz:∀u,(∀k∈bV nd u,k∈d)→(bV nd u).count x=0:=fun u hu=>List.count_eq_zero.2 fun hm=>hx.2.1 (hu x hm)
 unfold wt
 by_cases e:u=x
 ·subst e
  rw[if_pos rfl,if_pos (by simp),hz u hx.2.2]
  rfl
 ·rw[if_neg e]
  by_cases hd:u∈d
  ·rw[if_pos hd,if_pos (List.mem_append_left _ hd),hz u (hg.closed u hd).1]
   rfl
  ·rw[if_neg hd,if_neg (by simp [hd,e])]
   have:=GQ d x hx.2.1 (bV nd u)
   omega
end Go.Proofs.YtmgfakcccfahaaaGreatDoor
namespace Go.Proofs.YtmgfakcccfahaaaGreatDoor
open Go.RowKit Go.Maps
set_option maxRecDepth 100000
set_option maxHeartbeats 1000000

theorem mQ{f:List UInt8→Option Value}(h:∀k v,f k=some v→∃i,v=.func (.func i) #[] #[])(k0:List UInt8)(i0:FuncId):∀k v,bL f k0 (dL i0) k=some v→∃i,v=.func (.func i) #[] #[]:=by
 intro k v hk
 unfold bL at hk
 split at hk
 ·exact⟨i0,(Option.some.inj hk).symm⟩
 ·exact h k v hk
theorem Cc:∀k v,jJ k=some v→∃i,v=.func (.func i) #[] #[]:=fun _ _ h=>by cases h
theorem Eb:∀{k v},nU k=some v→∃i,v=.func (.func i) #[] #[]:=fun {k v}=>mQ (mQ (mQ Cc _ _) _ _) _ _ k v
theorem GL:∀{k v},l7 k=some v→∃i,v=.func (.func i) #[] #[]:=fun {k v}=>mQ (mQ Cc _ _) _ _ k v
theorem Dt:∀{k v},kL k=some v→∃i,v=.func (.func i) #[] #[]:=fun {k v}=>mQ (mQ (mQ (mQ (mQ (mQ (mQ (mQ (mQ (mQ Cc _ _) _ _) _ _) _ _) _ _) _ _) _ _) _ _) _ _) _ _ k v
def pG:List UInt8→Option Value:=bL (bL (bL jJ [110,111,116] (dL 111)) [110,101,103] (dL 112)) [105,102] (dL 114)
theorem xV{f:List UInt8→Option Value}{l:List (List UInt8)}(h:∀k v,f k=some v→k∈l)(k0:List UInt8)(v0:Value):∀k v,bL f k0 v0 k=some v→k∈k0::l:=by
 intro k v hk
 unfold bL at hk
 split at hk
 ·rename_i e
  rw[e]
  exact List.mem_cons_self
 ·exact List.mem_cons_of_mem _ (h k v hk)
theorem Gt:∀k v,jJ k=some v→k∈([]:List (List UInt8)):=fun _ _ h=>by cases h
theorem Li{k:List UInt8}{v:Value}(h:nU k=some v):l7 k=none∧kL k=none:=by
 have hm:k∈[[42],[45],[43]]:=xV (xV (xV Gt _ _) _ _) _ _ k v h
 have h1:(l7 k).isNone=true:=(by decide:∀k∈([[42],[45],[43]]:List (List UInt8)),(l7 k).isNone=true) k hm
 have h2:(kL k).isNone=true:=(by decide:∀k∈([[42],[45],[43]]:List (List UInt8)),(kL k).isNone=true) k hm
 exact⟨Option.isNone_iff_eq_none.1 h1,Option.isNone_iff_eq_none.1 h2⟩
theorem PU{k:List UInt8}{v:Value}(h:l7 k=some v):kL k=none:=by
 have hm:k∈[[109,111,100],[47]]:=xV (xV Gt _ _) _ _ k v h
 have h2:(kL k).isNone=true:=(by decide:∀k∈([[109,111,100],[47]]:List (List UInt8)),(kL k).isNone=true) k hm
 exact Option.isNone_iff_eq_none.1 h2
def Aw(w:World)(B:Nat):Prop:=∃f n,aO w B n f∧(∀k v,nU k=some v→∃p,f k=some (l8 116 p)∧w.cell? ⟨p,0,none⟩=some v) ∧
 (∀k v,l7 k=some v→∃p,f k=some (l8 118 p)∧w.cell? ⟨p,0,none⟩=some v)∧(∀k v,kL k=some v→∃p,f k=some (l8 120 p)∧w.cell? ⟨p,0,none⟩=some v) ∧
 ∀k,nU k=none→l7 k=none→kL k=none→f k=pG k
theorem Mh{B:Nat}{f1 f2 f3:List UInt8→Option Value}{W1 W2 W3:World}{n:Nat}(d1:Done B 116 nU pG f1 W1)(d2:Done B 118 l7 f1 f2 W2)(d3:Done B 120 kL f2 f3 W3)(g2:W1.grownBy W2 (some B))(g3:W2.grownBy W3 (some B))(hF:aO W3 B n f3):Aw W3 B:=by
 have e1:=Ck (Ck d1 g2) g3
 have e2:=Ck d2 g3
 refine⟨f3,n,hF,fun k v hk=>?_,fun k v hk=>?_,fun k v hk=>?_,fun k h1 h2 h3=>?_⟩
 ·obtain⟨a1,a2⟩:=Li hk
  obtain⟨p,_,_,q,r⟩:=e1.1 k v hk
  exact⟨p,by rw[d3.2 k a2,d2.2 k a1];exact q,r⟩
 ·obtain⟨p,_,_,q,r⟩:=e2.1 k v hk
  exact⟨p,by rw[d3.2 k (PU hk)];exact q,r⟩
 ·obtain⟨p,_,_,q,r⟩:=d3.1 k v hk
  exact⟨p,q,r⟩
 ·rw[d3.2 k h3,d2.2 k h2,d1.2 k h1]
theorem Mi(w:World):Calls Tryz.prog 62 #[] w fun e w'=>e=.returned (.map (some w.heap.size))∧Aw w' w.heap.size∧Bw w w':=by
 have hmm:=@run_makeMap Tryz.prog
 have H0:Hid (aO (w.alloc (.map #[] 0)) w.heap.size 0 jJ):=aO.made w
 have hb0:Bw w (w.alloc (.map #[] 0)):=aH
 have HZ:=aA hb0
 clear hb0
 go_enter Tryz.func62,Tryz.ntmps62
 go_wp2_with (first
  | (refine kI _ rfl _ _ _ _ _ rfl Tryz.underlying130 w.heap.size 2 _ rfl H2.out (by decide) _ (by decide) rfl _ rfl ?_;intro w3 h3 g3;have H3:=aA h3;clear h3)
  | (refine kI _ rfl _ _ _ _ _ rfl Tryz.underlying130 w.heap.size 1 _ rfl H1.out (by decide) _ (by decide) rfl _ rfl ?_;intro w2 h2 g2;have H2:=aA h2;clear h2)
  | (refine kI _ rfl _ _ _ _ _ rfl Tryz.underlying130 w.heap.size 0 _ rfl H0.out (by decide) _ (by decide) rfl _ rfl ?_;intro w1 h1 g1;have H1:=aA h1;clear h1)
  | (go_at_call 115;refine(Le _).mono ?_;rintro e v0 ⟨rfl,h4,g4⟩;have HM0:=aA h4;have HV0:Hid (Bw w3 v0):=g4;clear h4 g4)
  | (at_range;obtain⟨D0,o0,k0⟩:=HM0.out;refine wpList_range_own _ rfl _ _ rfl 9 _ uD Tryz.underlying200 jI w3.heap.size 3 D0 rfl o0 ?_;intro x0 r0 g0 s0)
  | fail)
 have hb1:=HZ.out.grown g1 HZ.out.size (fun k hk=>by obtain rfl:=Option.some.inj hk;exact Nat.le_refl _)
 have hb2:=hb1.grown g2 hb1.size (fun k hk=>by obtain rfl:=Option.some.inj hk;exact Nat.le_refl _)
 have hb3:=hb2.grown g3 hb2.size (fun k hk=>by obtain rfl:=Option.some.inj hk;exact Nat.le_refl _)
 have HB0:=aA hb3
 have HU0:Hid (aO w3 w.heap.size 3 pG):=H3.out
 have HN0:Hid (3≤3):=Nat.le_refl 3
 clear hmm H0 H1 H2 HZ g1 g2 g3 H3 hb1 hb2 hb3
 go_frame
 have hB0:w.heap.size<w3.heap.size:=HU0.out.lt
 have hs0:w3.heap.size≤v0.heap.size:=HV0.out.size
 have hc0:Maps.size D0≤3:=o0.size_le
 have hf0:aO v0 w.heap.size 3 pG:=HU0.out.kept (HV0.out.block _ hB0)
 have hn0:=HN0.out
 go_loopw [] (fun wr=>∃f left cnt n,aO wr w.heap.size n f∧n+cnt≤6∧wr.ranges Tryz.prog 9 jI w3.heap.size v0.heap.size 3 D0 left cnt∧Goes 116 nU pG f left (v0.heap.size+1) wr∧v0.grownBy wr (some w.heap.size)∧v0.heap.size+1≤wr.heap.size) (fun wr=>wr.rangeLeft w3.heap.size v0.heap.size)
 case atStart=>exact⟨pG,_,_,3,hf0.kept (g0.block _ (by omega) (by simp)),by omega,r0,Goes.start _ _ _ D0 (fun k=>(k0 k).1) _ _,g0.but _,by omega⟩
 case round=>
  obtain⟨f,left,cnt,n,hF,hn,hr,hG,hgw,hlo⟩:=hrel
  rcases Ce hr k0 0 with⟨h0,hl,hrun⟩ | ⟨s,v,w',cnt',hsz,hgs,hrun,hrg,hlt,hgr,hsw,hen⟩
  ·have HD0:Hid (Done w.heap.size 116 nU pG f wr):=hG.done hl (by omega)
   have HU1:=aA hF
   have HN1:Hid (n≤6):=by unfold Hid;omega
   have HG0:Hid (w3.grownBy wr (some w.heap.size)):=dK ⟨HV0.out.os,HV0.out.tape,HV0.out.output,HV0.out.size,fun k hk _=>HV0.out.block k hk⟩ hgw
   have HB1:Hid (Bw w wr):=HB0.out.grown HG0.out HB0.out.size (fun k hk=>by obtain rfl:=Option.some.inj hk;exact Nat.le_refl _)
   clear hF hn hr hG hgw hlo hl h0 k0 o0 hc0 hf0 hn0 g0 s0 r0 HM0 HV0 hs0 hB0 HU0
   rename World=>W1
   rename (List UInt8→Option Value)=>f1
   rename Nat=>n1
   go_wp2_with (first
     | (go_at_call 117;refine(PN _).mono ?_;rintro e v1 ⟨rfl,h4,g4⟩;have HM1:=aA h4;have HV1:Hid (Bw W1 v1):=g4;clear h4 g4)
     | (at_range;obtain⟨D1,o1,k1⟩:=HM1.out;refine wpList_range_own _ rfl _ _ rfl 9 _ uD Tryz.underlying200 jI W1.heap.size 2 D1 rfl o1 ?_;intro x1 r1 g1 s1)
     | fail)
   go_frame
   have hB1:w.heap.size<W1.heap.size:=HU1.out.lt
   have hs1:W1.heap.size≤v1.heap.size:=HV1.out.size
   have hc1:Maps.size D1≤2:=o1.size_le
   have hf1:aO v1 w.heap.size n1 f1:=HU1.out.kept (HV1.out.block _ hB1)
   have hn1:=HN1.out
   go_loopw [] (fun wr=>∃f left cnt n,aO wr w.heap.size n f∧n+cnt≤8∧wr.ranges Tryz.prog 9 jI W1.heap.size v1.heap.size 2 D1 left cnt∧Goes 118 l7 f1 f left (v1.heap.size+1) wr∧v1.grownBy wr (some w.heap.size)∧v1.heap.size+1≤wr.heap.size) (fun wr=>wr.rangeLeft W1.heap.size v1.heap.size)
   case atStart=>exact⟨f1,_,_,n1,hf1.kept (g1.block _ (by omega) (by simp)),by omega,r1,Goes.start _ _ _ D1 (fun k=>(k1 k).1) _ _,g1.but _,by omega⟩
   case round=>
    obtain⟨f,left,cnt,n,hF,hn,hr,hG,hgw,hlo⟩:=hrel
    rcases Ce hr k1 0 with⟨h0,hl,hrun⟩ | ⟨s,v,w',cnt',hsz,hgs,hrun,hrg,hlt,hgr,hsw,hen⟩
    ·have HD1:Hid (Done w.heap.size 118 l7 f1 f wr):=hG.done hl (by omega)
     have HU2:=aA hF
     have HN2:Hid (n≤8):=by unfold Hid;omega
     have HG1:Hid (W1.grownBy wr (some w.heap.size)):=dK ⟨HV1.out.os,HV1.out.tape,HV1.out.output,HV1.out.size,fun k hk _=>HV1.out.block k hk⟩ hgw
     have HB2:Hid (Bw w wr):=HB1.out.grown HG1.out HB1.out.size (fun k hk=>by obtain rfl:=Option.some.inj hk;exact Nat.le_refl _)
     clear hF hn hr hG hgw hlo hl h0 k1 o1 hc1 hf1 hn1 g1 s1 r1 HM1 HV1 hs1 hB1 HU1
     rename World=>W2
     rename (List UInt8→Option Value)=>f2
     rename Nat=>n2
     go_wp2_with (first
       | (go_at_call 119;refine(Js _).mono ?_;rintro e v2 ⟨rfl,h4,g4⟩;have HM2:=aA h4;have HV2:Hid (Bw W2 v2):=g4;clear h4 g4)
       | (at_range;obtain⟨D2,o2,k2⟩:=HM2.out;refine wpList_range_own _ rfl _ _ rfl 9 _ uD Tryz.underlying202 jI W2.heap.size 10 D2 rfl o2 ?_;intro x2 r2 g2 s2)
       | fail)
     go_frame
     have hB2:w.heap.size<W2.heap.size:=HU2.out.lt
     have hs2:W2.heap.size≤v2.heap.size:=HV2.out.size
     have hc2:Maps.size D2≤10:=o2.size_le
     have hf2:aO v2 w.heap.size n2 f2:=HU2.out.kept (HV2.out.block _ hB2)
     have hn2:=HN2.out
     go_loopw [] (fun wr=>∃f left cnt n,aO wr w.heap.size n f∧n+cnt≤18∧wr.ranges Tryz.prog 9 jI W2.heap.size v2.heap.size 10 D2 left cnt∧Goes 120 kL f2 f left (v2.heap.size+1) wr∧v2.grownBy wr (some w.heap.size)∧v2.heap.size+1≤wr.heap.size) (fun wr=>wr.rangeLeft W2.heap.size v2.heap.size)
     case atStart=>exact⟨f2,_,_,n2,hf2.kept (g2.block _ (by omega) (by simp)),by omega,r2,Goes.start _ _ _ D2 (fun k=>(k2 k).1) _ _,g2.but _,by omega⟩
     case round=>
      obtain⟨f,left,cnt,n,hF,hn,hr,hG,hgw,hlo⟩:=hrel
      rcases Ce hr k2 0 with⟨h0,hl,hrun⟩ | ⟨s,v,w',cnt',hsz,hgs,hrun,hrg,hlt,hgr,hsw,hen⟩
      ·have HD2:Hid (Done w.heap.size 120 kL f2 f wr):=hG.done hl (by omega)
       have HU3:=aA hF
       have HN3:Hid (n≤18):=by unfold Hid;omega
       have HG2:Hid (W2.grownBy wr (some w.heap.size)):=dK ⟨HV2.out.os,HV2.out.tape,HV2.out.output,HV2.out.size,fun k hk _=>HV2.out.block k hk⟩ hgw
       have HB3:Hid (Bw w wr):=HB2.out.grown HG2.out HB2.out.size (fun k hk=>by obtain rfl:=Option.some.inj hk;exact Nat.le_refl _)
       clear hF hn hr hG hgw hlo hl h0 k2 o2 hc2 hf2 hn2 g2 s2 r2 HM2 HV2 hs2 hB2 HU2
       rename World=>W3
       rename (List UInt8→Option Value)=>f3
       rename Nat=>n3
       go_wp2
       go_ret
       exact⟨rfl,Mh HD0.out HD1.out HD2.out HG1.out HG2.out HU3.out,HB3.out⟩
      ·obtain⟨fid,rfl⟩:=Dt hgs
       obtain⟨w6,hup,h6⟩:=Bl hF hr hG hgw hlo (by omega) (by omega) rfl hgs hrg hlt hgr hsw hsz (by unfold maxLen;omega) Tryz.underlying130 204
       simp only[l8] at hup
       have H6:Hid (∃f left cnt n,aO w6 w.heap.size n f∧n+cnt≤18∧w6.ranges Tryz.prog 9 jI W2.heap.size v2.heap.size 10 D2 left cnt∧Goes 120 kL f2 f left (v2.heap.size+1) w6∧v2.grownBy w6 (some w.heap.size)∧v2.heap.size+1≤w6.heap.size):=⟨_,_,cnt',n+1,h6.1,by omega,h6.2.1,h6.2.2.1,h6.2.2.2.1,h6.2.2.2.2.1⟩
       have H7:Hid (w6.rangeLeft W2.heap.size v2.heap.size<wr.rangeLeft W2.heap.size v2.heap.size):=h6.2.2.2.2.2
       clear h6 hF hr hG hgw hlo hn hrg hlt hgr hsw hsz hgs
       go_wp2
       exact⟨H6.out,H7.out⟩
    ·obtain⟨fid,rfl⟩:=GL hgs
     obtain⟨w6,hup,h6⟩:=Bl hF hr hG hgw hlo (by omega) (by omega) rfl hgs hrg hlt hgr hsw hsz (by unfold maxLen;omega) Tryz.underlying130 170
     simp only[l8] at hup
     have H6:Hid (∃f left cnt n,aO w6 w.heap.size n f∧n+cnt≤8∧w6.ranges Tryz.prog 9 jI W1.heap.size v1.heap.size 2 D1 left cnt∧Goes 118 l7 f1 f left (v1.heap.size+1) w6∧v1.grownBy w6 (some w.heap.size)∧v1.heap.size+1≤w6.heap.size):=⟨_,_,cnt',n+1,h6.1,by omega,h6.2.1,h6.2.2.1,h6.2.2.2.1,h6.2.2.2.2.1⟩
     have H7:Hid (w6.rangeLeft W1.heap.size v1.heap.size<wr.rangeLeft W1.heap.size v1.heap.size):=h6.2.2.2.2.2
     clear h6 hF hr hG hgw hlo hn hrg hlt hgr hsw hsz hgs
     go_wp2
     exact⟨H6.out,H7.out⟩
  ·obtain⟨fid,rfl⟩:=Eb hgs
   obtain⟨w6,hup,h6⟩:=Bl hF hr hG hgw hlo (by omega) (by omega) rfl hgs hrg hlt hgr hsw hsz (by unfold maxLen;omega) Tryz.underlying130 170
   simp only[l8] at hup
   have H6:Hid (∃f left cnt n,aO w6 w.heap.size n f∧n+cnt≤6∧w6.ranges Tryz.prog 9 jI w3.heap.size v0.heap.size 3 D0 left cnt∧Goes 116 nU pG f left (v0.heap.size+1) w6∧v0.grownBy w6 (some w.heap.size)∧v0.heap.size+1≤w6.heap.size):=⟨_,_,cnt',n+1,h6.1,by omega,h6.2.1,h6.2.2.1,h6.2.2.2.1,h6.2.2.2.2.1⟩
   have H7:Hid (w6.rangeLeft w3.heap.size v0.heap.size<wr.rangeLeft w3.heap.size v0.heap.size):=h6.2.2.2.2.2
   clear h6 hF hr hG hgw hlo hn hrg hlt hgr hsw hsz hgs
   go_wp2
   exact⟨H6.out,H7.out⟩
end Go.Proofs.YtmgfakcccfahaaaGreatDoor
namespace Go.Proofs.YtmgfakcccfahaaaGreatDoor
open Go.RowKit
def Sm(n:Int):Prop:=-129<n∧n<129
theorem BF{x y:Int}(hx:-129<x∧x<129)(hy:-129<y∧y<129):-16641<x*y∧x*y<16641:=by
 have h1:x.natAbs*y.natAbs≤128*128:=Nat.mul_le_mul (by omega) (by omega)
 have h2:(x*y).natAbs=x.natAbs*y.natAbs:=Int.natAbs_mul x y
 omega
def oH:List (List UInt8×Nat×Int×Int):=[([110,111,116],1,1,1),([110,101,103],1,2,2),([105,102],3,0,0),([97,110,100],2,1,1),([111,114],2,1,1),([120,111,114],2,1,1),([61,62],2,1,1),([61],2,0,1),([60,62],2,0,1),([60],2,2,1),([60,61],2,2,1),([62],2,2,1),([62,61],2,2,1),([43],2,2,2),([45],2,2,2),([42],2,2,2),([47],2,2,2),([109,111,100],2,2,2)]
def Ld(t:List UInt8×Nat×Int×Int)(l:List Int):Int:=
 match l with
 | [a]=>DW t.2.2.1 t.2.2.2 a a
 | [a,b]=>DW t.2.2.1 t.2.2.2 a b
 | [a,b,d]=>OZ a b d
 | _=>0
def FY(op:List UInt8)(l:List (Int×Int)):Int:=
 match oH.find? (fun t=>t.1==op) with
 | none=>3
 | some t=>if t.2.1=l.length then bD (aU l) (Ld t (l.map (·.1))) else 3
def fM(op:List UInt8)(l:List (Int×Int)):(Int×Int)×Bool:=
 match l with
 | [a]=>if op=[110,111,116] then ((1,bB (a.2==0)),false) else ((2,cB (256-a.2)),false)
 | [a,b]=>if op=[97,110,100] then ((1,bB (a.2+b.2==2)),false) else if op=[111,114] then ((1,bB (decide (0<a.2+b.2))),false) else if op=[120,111,114] then ((1,bB (a.2+b.2==1)),false) else if op=[61,62] then ((1,bB (decide (a.2≤b.2))),false) else if op=[61] then ((1,bB (a.2==b.2)),false) else if op=[60,62] then ((1,bB (a.2 != b.2)),false) else if op=[60] then ((1,bB (decide (a.2<b.2))),false) else if op=[60,61] then ((1,bB (decide (a.2≤b.2))),false) else if op=[62] then ((1,bB (decide (b.2<a.2))),false) else if op=[62,61] then ((1,bB (decide (b.2≤a.2))),false) else if op=[43] then ((2,cB (a.2+b.2)),false) else if op=[45] then ((2,cB (a.2-b.2)),false) else if op=[42] then ((2,cB (a.2*b.2)),false) else if b.2=0 then ((0,0),true) else if op=[47] then ((2,cB (a.2.tdiv b.2)),false) else ((2,cB (a.2-a.2.tdiv b.2*b.2)),false)
 | [a,b,d]=>(if a.2=1 then b else d,false)
 | _=>((0,0),true)
theorem eH{k n:Int}(h:gN k n k=true):(k=1∨k=2)∧Sm n:=by
 unfold gN at h
 rw[if_pos rfl] at h
 by_cases h1:k=1
 ·rw[if_pos h1] at h
  simp at h
  exact⟨.inl h1,by unfold Sm;omega⟩
 ·rw[if_neg h1] at h
  simp at h
  exact⟨.inr h.1,by unfold Sm;omega⟩
theorem NZ{l:List (Int×Int)}(h:1=l.length):∃a,l=[a]:=by
 match l,h with
 | [a],_=>exact⟨a,rfl⟩
theorem NV{l:List (Int×Int)}(h:2=l.length):∃a b,l=[a,b]:=by
 match l,h with
 | [a,b],_=>exact⟨a,b,rfl⟩
theorem NY{l:List (Int×Int)}(h:3=l.length):∃a b d,l=[a,b,d]:=by
 match l,h with
 | [a,b,d],_=>exact⟨a,b,d,rfl⟩
end Go.Proofs.YtmgfakcccfahaaaGreatDoor
