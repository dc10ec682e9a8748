/-
  lustrumref2.needsOf BY CONTRACT.
-/
import Derived.Test.YtmgfakcccfahaaaGreatDoorN40
import Derived.Test.YtmgfakcccfahaaaGreatDoorN44
import Derived.Laws.CopyOwn
import Derived.BigRegion
namespace Go.Proofs.YtmgfakcccfahaaaGreatDoor
open Go.RowKit
set_option maxRecDepth 100000
set_option maxHeartbeats 8000000

theorem Tryz.MG:(Tryz.prog.info? 103).map (fun i=>(i.zero,i.size,i.bytes))=some (some (.slice none 0 0),1,24):=by kernel_rfl
def l6(n j:Nat)(r:Nat→Nat):List Value:=(List.range n).map fun i=>if i<j then Value.slice (some ⟨r i,0,none⟩) n n else .slice none 0 0
theorem Br{n j k:Nat}(r:Nat→Nat)(h:k<n):(l6 n j r)[k]?=some (if k<j then Value.slice (some ⟨r k,0,none⟩) n n else .slice none 0 0):=by simp [l6,h]
theorem IL{n j:Nat}(r:Nat→Nat)(R:Nat)(hj:j<n):(l6 n j r).set j (.slice (some ⟨R,0,none⟩) n n)=l6 n (j+1) (fun i=>if i=j then R else r i):=by
 apply List.ext_getElem?
 intro k
 by_cases hk:k<n
 ·rw[Br _ hk]
  by_cases e:j=k
  ·subst e
   rw[List.getElem?_set_self (by simpa [l6] using hj),if_pos (by omega),if_pos rfl]
  ·rw[List.getElem?_set_ne e,Br _ hk]
   by_cases h1:k<j
   ·rw[if_pos h1,if_pos (by omega),if_neg (by omega)]
   ·rw[if_neg h1,if_neg (by omega)]
 ·rw[List.getElem?_eq_none (by simp [l6];omega),List.getElem?_eq_none (by simp [l6];omega)]
def bU(w:World)(M n j:Nat)(r:Nat→Nat):Prop:=w.heap[M]?=some (.cells (l6 n j r).toArray 103 (0,0))
theorem bU.cell{w:World}{M n j:Nat}{r:Nat→Nat}(h:bU w M n j r){k:Nat}(hk:k<n):w.cell? ⟨M,k,none⟩=some (if k<j then Value.slice (some ⟨r k,0,none⟩) n n else .slice none 0 0):=by
 rw[cell_of_row w M k _ _ (0,0) h]
 simp [l6,hk]
theorem bU.free{w:World}{M n j:Nat}{r:Nat→Nat}(h:bU w M n j r)(k:Nat):w.frozen? ⟨M,k,none⟩=false:=by
 unfold bU at h
 simp [World.frozen?,h]
theorem bU.set{w:World}{M n j:Nat}{r:Nat→Nat}(h:bU w M n j r)(R:Nat)(hj:j<n):bU (w.setCell ⟨M,j,none⟩ (.slice (some ⟨R,0,none⟩) n n)) M n (j+1) (fun i=>if i=j then R else r i):=by
 unfold bU
 rw[heap_setCell_same w M j _ _ _ h,←IL r R hj]
 simp
theorem bU.made(w:World)(n:Nat)(r:Nat→Nat):bU (w.alloc (.cells (Array.replicate n (.slice none 0 0)) 103)) w.heap.size n 0 r:=by
 unfold bU
 rw[heap_alloc_new]
 congr 2
 apply Array.toList_inj.1
 apply List.ext_getElem?
 intro j
 simp only[Array.toList_replicate,List.getElem?_replicate,l6,List.getElem?_map]
 by_cases hj:j<n
 ·simp [hj]
 ·simp [hj]
structure dH(w1 wr:World)(M n j:Nat)(r1 r2:Nat→Nat)(g1 g2:Nat→Nat→Bool):Prop where
 b:Bw w1 wr
 m:w1.heap.size≤M
 m1:bU wr M n j r1
 m2:bU wr (M+1) n j r2
 qI:∀i,i<j→aT wr (r1 i) n (g1 i)
 lC:∀i,i<j→aT wr (r2 i) n (g2 i)
 hi:∀i,i<j→M+1<r1 i∧r1 i<r2 i∧r2 i<wr.heap.size
 inc:∀i k,i<k→k<j→r2 i<r1 k
theorem dH.ne{w1 wr:World}{M n j:Nat}{r1 r2:Nat→Nat}{g1 g2:Nat→Nat→Bool}(h:dH w1 wr M n j r1 r2 g1 g2){i k:Nat}(hi:i<j)(hk:k<j):r1 k≠r2 i∧(k≠i→r2 k≠r2 i∧r1 k≠r1 i):=by
 have a1:=h.hi i hi
 have a2:=h.hi k hk
 rcases Nat.lt_trichotomy i k with hl | rfl | hl
 ·have:=h.inc i k hl hk
  exact⟨by omega,fun _=>⟨by omega,by omega⟩⟩
 ·exact⟨by omega,fun e=>absurd rfl e⟩
 ·have:=h.inc k i hl hi
  exact⟨by omega,fun _=>⟨by omega,by omega⟩⟩
theorem dH.drew{w1 wr:World}{M n j:Nat}{r1 r2:Nat→Nat}{g1 g2:Nat→Nat→Bool}(h:dH w1 wr M n j r1 r2 g1 g2):dH w1 wr.drew M n j r1 r2 g1 g2:=⟨h.b.drew,h.m,h.m1,h.m2,h.qI,h.lC,h.hi,h.inc⟩
theorem dH.set{w1 wr:World}{M n j:Nat}{r1 r2:Nat→Nat}{g1 g2:Nat→Nat→Bool}(h:dH w1 wr M n j r1 r2 g1 g2){i:Nat}(hi:i<j)(k:Nat)(v:Bool):dH w1 (wr.setCell ⟨r2 i,k,none⟩ (.bool v)) M n j r1 r2 g1 (fun a b=>if a=i then (if b=k then v else g2 a b) else g2 a b):=by
 have a:=h.hi i hi
 have hm:=h.m
 have hk:∀b:Nat,b≠r2 i→(wr.setCell ⟨r2 i,k,none⟩ (.bool v)).heap[b]?=wr.heap[b]?:=fun b hb=>Below.heap_setCell _ _ _ _ hb
 refine⟨?_,hm,?_,?_,fun x hx=>?_,fun x hx=>?_,fun x hx=>?_,h.inc⟩
 ·exact h.b.setCell (p:=⟨r2 i,k,none⟩) (by show w1.heap.size≤r2 i;omega) _
 ·unfold bU;rw[hk _ (by omega)];exact h.m1
 ·unfold bU;rw[hk _ (by omega)];exact h.m2
 ·unfold aT;rw[hk _ (h.ne hi hx).1];exact h.qI x hx
 ·by_cases e:x=i
  ·subst e
   have:=(h.lC x hx).set k v
   simpa using this
  ·have:=h.lC x hx
   unfold aT at this ⊢
   rw[hk _ ((h.ne hi hx).2 e).1]
   simp only[if_neg e]
   exact this
 ·have:=h.hi x hx
  have hs:(wr.setCell ⟨r2 i,k,none⟩ (.bool v)).heap.size=wr.heap.size:=by simp [World.setCell]
  rw[hs]
  exact this
theorem dH.next{w1 wr w7:World}{M n j:Nat}{r1 r2:Nat→Nat}{g1 g2:Nat→Nat→Bool}(h:dH w1 wr M n j r1 r2 g1 g2){R:Nat}(hR:R=wr.heap.size)(hk:∀b,b<wr.heap.size→b≠M→b≠M+1→w7.heap[b]?=wr.heap[b]?)(hb:Bw w1 w7)(hM:M+1<wr.heap.size)(m1:bU w7 M n (j+1) (fun i=>if i=j then R else r1 i))(m2:bU w7 (M+1) n (j+1) (fun i=>if i=j then R+1 else r2 i))(q1:aT w7 R n (g1 j))(q2:aT w7 (R+1) n (g2 j)):dH w1 w7 M n (j+1) (fun i=>if i=j then R else r1 i) (fun i=>if i=j then R+1 else r2 i) g1 g2:=by
 have hq:=q2.lt
 refine⟨hb,h.m,m1,m2,fun i hi=>?_,fun i hi=>?_,fun i hi=>?_,fun i k h1 h2=>?_⟩
 ·by_cases e:i=j
  ·subst e;simp only[if_true];exact q1
  ·simp only[if_neg e]
   have a:=h.hi i (by omega)
   have:=h.qI i (by omega)
   unfold aT at this ⊢
   rw[hk _ (by omega) (by omega) (by omega)]
   exact this
 ·by_cases e:i=j
  ·subst e;simp only[if_true];exact q2
  ·simp only[if_neg e]
   have a:=h.hi i (by omega)
   have:=h.lC i (by omega)
   unfold aT at this ⊢
   rw[hk _ (by omega) (by omega) (by omega)]
   exact this
 ·by_cases e:i=j
  ·simp only[if_pos e];omega
  ·simp only[if_neg e]
   have a:=h.hi i (by omega)
   omega
 ·have e:i≠j:=by omega
  simp only[if_neg e]
  have a:=h.hi i (by omega)
  by_cases ek:k=j
  ·simp only[if_pos ek];omega
  ·simp only[if_neg ek]
   exact h.inc i k h1 (by omega)
theorem Li{fs:List Fw}{j:Nat}{x:Fw}(h:fs[j]?=some x):dM fs (fun _=>false) (onE x.e)=bH (aN fs) j:=by
 funext k
 unfold dM bH
 rw[Co h,Bool.false_or,Bool.eq_iff_iff]
 simp only[List.any_eq_true,List.contains_iff_mem,List.mem_filterMap,beq_iff_eq]
theorem dH.congr{w1 wr:World}{M n j:Nat}{r1 r2:Nat→Nat}{g1 g2 g3:Nat→Nat→Bool}(h:dH w1 wr M n j r1 r2 g1 g2)(e:∀a b,a<j→b<n→g2 a b=g3 a b):dH w1 wr M n j r1 r2 g1 g3:=⟨h.b,h.m,h.m1,h.m2,h.qI,fun i hi=>(h.lC i hi).congr fun b hb=>e i b hi hb,h.hi,h.inc⟩
theorem FI(g:Nat→Nat→Bool)(k i:Nat):j5 g k i k=g i k:=by unfold j5;cases g i k<;>simp
def fQ(g:Nat→Nat→Bool)(k i j:Nat):Nat→Nat→Bool:=fun a b=>if a<i∨(a=i∧b<j) then j5 g k a b else g a b
theorem Lb(w:World)(S:Nat→Prop)(p:Pg)(o1 o2 o3 o4 o5:Option Addr)(I O N A C c1 c2 c3 c4 c5:Nat)(h:iC w S p o1 o2 o3 o4 o5 I O N A C c1 c2 c3 c4 c5)(kd:List UInt8→Option Int)(hk:bA (fun _=>none) (aK p)=some kd)(hfm:bG kd (aD p)=true)(hN:N≤400) :
  Calls Tryz.prog 44 #[(.agg #[.slice o1 I c1,.slice o2 O c2,.slice o3 N c3,.slice o4 A c4,.slice o5 C c5])] w fun e w'=>∃w1 M r1 r2,e=.returned (.tuple #[.slice (some ⟨M,0,none⟩) N N,.slice (some ⟨M+1,0,none⟩) N N])∧dH w1 w' M N N r1 r2 (bH (aN p.fs)) (fZ (bH (aN p.fs)) N)∧Bw w w':=by
 have hpv:=h.keep (S':=fun b=>b<w.heap.size) (w':=w) (fun b hb hl=>⟨hl,rfl⟩)
 obtain⟨w1,hw1⟩:∃w1,w1=w.alloc (.cells #[.slice o1 I c1,.slice o2 O c2,.slice o3 N c3,.slice o4 A c4,.slice o5 C c5] 27):=⟨_,rfl⟩
 obtain⟨B,hB⟩:∃B,B=w.heap.size:=⟨_,rfl⟩
 have hb1:Bw w w1:=by rw[hw1];exact aH
 have hr1:w1.heap[B]?=some (.cells #[.slice o1 I c1,.slice o2 O c2,.slice o3 N c3,.slice o4 A c4,.slice o5 C c5] 27 (0,0)):=by rw[hw1,hB];exact heap_alloc_new _ _
 have hs1:w1.heap.size=B+1:=by rw[hw1,hB,World.size_alloc]
 have HB:Hid (Bw w w1∧N=p.fs.length∧N≤400∧w1.heap.size=B+1∧B=w.heap.size):=⟨hb1,h.n,hN,hs1,hB⟩
 have HC:Hid (∀W,Bw w1 W→W.cell? ⟨B,0,none⟩=some (.slice o1 I c1)∧W.cell? ⟨B,0+1,none⟩=some (.slice o2 O c2)∧W.cell? ⟨B,0+2,none⟩=some (.slice o3 N c3)∧W.cell? ⟨B,0+3,none⟩=some (.slice o4 A c4)∧W.cell? ⟨B,0+4,none⟩=some (.slice o5 C c5)):=fun W hW=>by
  have hr:=aG hW hr1
  refine⟨?_,?_,?_,?_,?_⟩<;>(rw[cell_of_row W _ _ _ _ (0,0) hr];rfl)
 have HW1:Hid (w.alloc (.cells #[.slice o1 I c1,.slice o2 O c2,.slice o3 N c3,.slice o4 A c4,.slice o5 C c5] 27)=w1∧w.heap.size=B):=⟨hw1.symm,hB.symm⟩
 have HPV:Hid (∀W,Bw w1 W→iC W (fun b=>b<B) p o1 o2 o3 o4 o5 I O N A C c1 c2 c3 c4 c5):=fun W hW=>by
  rw[hB];exact hpv.below (hb1.trans (hW.mono hb1.size))
 have HAO:Hid (∀(op:ByteArray) (n:Int) (s:ByteArray) (l:List Ex),(.mk op n s l:Ex)∈aD p→Ag p N o1 o2 o3 o4 o5 I O A C c1 c2 c3 c4 c5 op n s l):=fun op n s l hx=>Ew p N o1 o2 o3 o4 o5 I O A C c1 c2 c3 c4 c5 kd hk (by omega) _ op n s l (Nat.lt_succ_self _) (qB hfm hx)
 have hm1:=nQ Tryz.underlying100 Tryz.MG rfl N (by omega) (Nat.le_refl _)
 have hm2:=nQ Tryz.underlying103 Tryz.Dn rfl N (by omega) (by omega)
 obtain⟨a0,a1,a2,a3,a4⟩:=HC.out w1 (Below.refl _ _)
 clear h hk hfm hN hpv hw1 hB hb1 hr1 hs1
 go_enter Tryz.func44,Tryz.ntmps44
 go_upto_region 1 with fail
 rw[HW1.out.1,HW1.out.2]
 go_upto_region 4 with fail
 obtain⟨M,hM⟩:∃M,M=w1.heap.size:=⟨_,rfl⟩
 obtain⟨w2,hw2⟩:∃w2,w2=(w1.alloc (.cells (Array.replicate N (.slice none 0 0)) 103)).alloc (.cells (Array.replicate N (.slice none 0 0)) 103):=⟨_,rfl⟩
 rw[←hM,←hw2]
 have HN0:Hid (dH w1 w2 M N 0 (fun _=>0) (fun _=>0) (bH (aN p.fs)) (bH (aN p.fs))∧M+1<w2.heap.size∧M=B+1):=by
  have hb:=(Below.refl w1.heap.size w1).alloc (Nat.le_refl _) (.cells (Array.replicate N (.slice none 0 0)) 103)
  refine⟨⟨?_,by omega,?_,?_,fun i hi=>by omega,fun i hi=>by omega,fun i hi=>by omega,fun i k h1 h2=>by omega⟩,?_,by rw[hM,HB.out.2.2.2.1]⟩
  ·rw[hw2];exact hb.alloc hb.size _
  ·rw[hw2,hM]
   have:=bU.made w1 N (fun _=>0)
   exact aG (aH) this
  ·rw[hw2,hM,←World.size_alloc w1 (.cells (Array.replicate N (.slice none 0 0)) 103)]
   exact bU.made _ N (fun _=>0)
  ·rw[hw2,hM,World.size_alloc,World.size_alloc];omega
 clear a0 a1 a2 a3 a4 hM hw2 hm1
 go_wp2
 go_loopw [7] (fun t wr=>∃(j:Nat) (r1 r2:Nat→Nat),j≤N∧t=.int .i64 j∧Hid (dH w1 wr M N j r1 r2 (bH (aN p.fs)) (bH (aN p.fs))∧M+1<wr.heap.size)) (fun t _=>N-(intOf t).toNat)
 case atStart=>exact⟨0,_,_,Nat.zero_le _,rfl,HN0.out.1,HN0.out.2.1⟩
 case round=>
  obtain⟨j,r1,r2,hj,rfl,HR⟩:=hrel
  obtain⟨a0,a1,a2,a3,a4⟩:=HC.out wr HR.out.1.b
  by_cases hjl:j<N
  ·have hjf:j<p.fs.length:=by have:=HB.out.2.1;omega
   obtain⟨R,hR⟩:∃R,R=wr.heap.size:=⟨_,rfl⟩
   have i0':(0:Int)≤(j:Int):=by omega
   have i1':(j:Int)<(N:Int):=by omega
   have N4:Hid (wrap64 ((j:Int)+1)=(j:Int)+1):=by have:=HB.out.2.2.1;unfold Hid wrap64;omega
   have HJ:=aA hjl
   -- the two rows that are made
   have hbA:Bw wr (wr.alloc (.cells (Array.replicate N (.bool false)) 4)):=aH
   have z0:(wr.alloc (.cells (Array.replicate N (.bool false)) 4)).cell? ⟨M,j,none⟩=some (.slice none 0 0):=by
    have:=(show bU (wr.alloc (.cells (Array.replicate N (.bool false)) 4)) M N j r1 from aG hbA HR.out.1.m1).cell hjl
    rw[if_neg (Nat.lt_irrefl _)] at this
    exact this
   have z1:(wr.alloc (.cells (Array.replicate N (.bool false)) 4)).frozen? ⟨M,j,none⟩=false:=(show bU (wr.alloc (.cells (Array.replicate N (.bool false)) 4)) M N j r1 from aG hbA HR.out.1.m1).free j
   obtain⟨wB,hwB⟩:∃wB,wB=(wr.alloc (.cells (Array.replicate N (.bool false)) 4)).setCell ⟨M,j,none⟩ (.slice (some ⟨R,0,none⟩) N N):=⟨_,rfl⟩
   have hsB:wB.heap.size=R+1:=by rw[hwB,hR];simp [World.setCell,World.size_alloc]
   have hkB:∀b,b<R→b≠M→wB.heap[b]?=wr.heap[b]?:=fun b hb hne=>by
    rw[hwB,Below.heap_setCell _ _ _ _ hne]
    exact hbA.block b (by omega)
   have hmB:bU wB M N (j+1) (fun i=>if i=j then R else r1 i):=by
    rw[hwB]
    exact(show bU (wr.alloc (.cells (Array.replicate N (.bool false)) 4)) M N j r1 from aG hbA HR.out.1.m1).set R hjl
   have hqB:aT wB R N (fun _=>false):=by
    have:=aT.made wr N
    rw[←hR] at this
    unfold aT at this ⊢
    rw[hwB,Below.heap_setCell _ _ _ _ (by show R≠M;have:=HR.out.2;omega)]
    exact this
   have hm2B:bU wB (M+1) N j r2:=by unfold bU;rw[hkB _ (by have:=HR.out.2;omega) (by omega)];exact HR.out.1.m2
   have hbC:Bw wB (wB.alloc (.cells (Array.replicate N (.bool false)) 4)):=aH
   have z2:(wB.alloc (.cells (Array.replicate N (.bool false)) 4)).cell? ⟨M+1,j,none⟩=some (.slice none 0 0):=by
    have:=(show bU (wB.alloc (.cells (Array.replicate N (.bool false)) 4)) (M+1) N j r2 from aG hbC hm2B).cell hjl
    rw[if_neg (Nat.lt_irrefl _)] at this
    exact this
   have z3:(wB.alloc (.cells (Array.replicate N (.bool false)) 4)).frozen? ⟨M+1,j,none⟩=false:=(show bU (wB.alloc (.cells (Array.replicate N (.bool false)) 4)) (M+1) N j r2 from aG hbC hm2B).free j
   obtain⟨wD,hwD⟩:∃wD,wD=(wB.alloc (.cells (Array.replicate N (.bool false)) 4)).setCell ⟨M+1,j,none⟩ (.slice (some ⟨R+1,0,none⟩) N N):=⟨_,rfl⟩
   have hsD:wD.heap.size=R+2:=by rw[hwD];simp [World.setCell,World.size_alloc,hsB]
   have hkD:∀b,b<R+1→b≠M+1→wD.heap[b]?=wB.heap[b]?:=fun b hb hne=>by
    rw[hwD,Below.heap_setCell _ _ _ _ hne]
    exact hbC.block b (by omega)
   have hmD2:bU wD (M+1) N (j+1) (fun i=>if i=j then R+1 else r2 i):=by
    rw[hwD]
    exact(show bU (wB.alloc (.cells (Array.replicate N (.bool false)) 4)) (M+1) N j r2 from aG hbC hm2B).set (R+1) hjl
   have hqD2:aT wD (R+1) N (fun _=>false):=by
    have:=aT.made wB N
    rw[hsB] at this
    unfold aT at this ⊢
    rw[hwD,Below.heap_setCell _ _ _ _ (by show R+1≠M+1;have:=HR.out.2;omega)]
    exact this
   have hMR:=HR.out.2
   have hbD:Bw w1 wD:=by
    have hm:=HR.out.1.m
    have hb:=HR.out.1.b
    rw[hwD,hwB]
    have q1:=hb.alloc hb.size (.cells (Array.replicate N (.bool false)) 4)
    have q2:=q1.setCell (p:=⟨M,j,none⟩) (by show w1.heap.size≤M;exact hm) (.slice (some ⟨R,0,none⟩) N N)
    have q3:=q2.alloc q2.size (.cells (Array.replicate N (.bool false)) 4)
    exact q3.setCell (p:=⟨M+1,j,none⟩) (by show w1.heap.size≤M+1;omega) _
   have HD:Hid (Bw w1 wD∧wD.heap.size=R+2∧(∀b,b<R→b≠M→b≠M+1→wD.heap[b]?=wr.heap[b]?)∧bU wD M N (j+1) (fun i=>if i=j then R else r1 i)∧bU wD (M+1) N (j+1) (fun i=>if i=j then R+1 else r2 i)∧aT wD R N (fun _=>false)∧aT wD (R+1) N (fun _=>false)∧M+1<R):=by
    refine⟨hbD,hsD,fun b hb h1 h2=>(hkD b (by omega) h2).trans (hkB b hb h1),?_,hmD2,?_,hqD2,by omega⟩
    ·unfold bU;rw[hkD _ (by omega) (by omega)];exact hmB
    ·unfold aT;rw[hkD _ (by omega) (by omega)];exact hqB
   have HWB:Hid ((wr.alloc (.cells (Array.replicate N (.bool false)) 4)).setCell ⟨M,j,none⟩ (.slice (some ⟨R,0,none⟩) N N)=wB∧wr.heap.size=R∧wB.heap.size=R+1):=⟨hwB.symm,hR.symm,hsB⟩
   have HWD:Hid ((wB.alloc (.cells (Array.replicate N (.bool false)) 4)).setCell ⟨M+1,j,none⟩ (.slice (some ⟨R+1,0,none⟩) N N)=wD):=hwD.symm
   obtain⟨x3,h3,g3⟩:=(HPV.out wD hbD).pg.fs
   rw[←HB.out.2.1] at h3
   obtain⟨nm,kd',op,n,s,es,oo,cc,zs,ej,_,_,k2,k3,k4,k5,r3,r4⟩:=g3.at hjf
   obtain⟨b,off,c',ev,hSb,_,gg⟩:=h3.at (by rw[h3.1];omega)
   obtain⟨rfl,rfl⟩:o3=some ⟨b,off,none⟩∧c3=c':=by simpa using ev
   have y2:=gg _ _ k2
   have y3:=gg _ _ k3
   have y4:=gg _ _ k4
   have y5:=gg _ _ k5
   rw[←Nat.add_assoc] at y2 y3 y4 y5
   have ht1:(.mk op n s es:Ex)∈aD p:=by
    unfold aD
    refine List.mem_append_left _ (List.mem_map.2 ⟨⟨nm,kd',.mk op n s es⟩,?_,rfl⟩)
    rw[←ej];exact List.getElem_mem hjf
   have hnd:=Li (fs:=p.fs) (mP hjf)
   rw[ej] at hnd
   simp only at hnd
   have HAJ:Hid (∀W,Bw wD W→Calls Tryz.prog 89 #[(.agg #[.slice o1 I c1,.slice o2 O c2,.slice (some ⟨b,off,none⟩) N c3,.slice o4 A c4,.slice o5 C c5]),.agg #[.string op,.int .i64 n,.string s,.slice oo es.length cc],.slice (some ⟨R,0,none⟩) N N] W fun e w'=>e=.returned (.tuple #[])∧aT w' R N (bH (aN p.fs) j)∧Mv R wD w'):=fun W hW=>by
    have hBR:B<R:=by have:=HR.out.1.m;have:=HB.out.2.2.2.1;omega
    have hq:aT W R N (fun _=>false):=aG hW HD.out.2.2.2.2.2.1
    have hne:∀b,b<B→b≠R:=fun b hb=>by omega
    have hp:=HPV.out W (hbD.trans (hW.mono hbD.size))
    have q3:aB W (fun b=>b<B) 4 (.slice oo es.length cc) es.length zs:=r3.keep (fun b hb hl=>⟨hb,hW.block b hl⟩)
    have q4:aI W (fun b=>b<B) es zs:=r4.keep (fun b hb hl=>⟨hb,hW.block b hl⟩)
    have hc:=HAO.out op n s es ht1 W (fun b=>b<B) (fun b=>b<B) oo cc R zs (fun _=>false) hp hq hne hne q3 q4
    refine hc.mono ?_
    rintro e w' ⟨rfl,q1,q2⟩
    rw[hnd] at q1
    exact⟨rfl,q1,kL (Mv.of_below hW) q2⟩
   have HRW:Hid (dH w1 wr M N j r1 r2 (bH (aN p.fs)) (bH (aN p.fs))∧M+1<wr.heap.size∧R=wr.heap.size):=⟨HR.out.1,HR.out.2,hR⟩
   have u0:wD.cell? ⟨M,j,none⟩=some (.slice (some ⟨R,0,none⟩) N N):=by
    have:=HD.out.2.2.2.1.cell hjl
    rw[if_pos (Nat.lt_succ_self j),if_pos rfl] at this
    exact this
   obtain⟨d0,d1,d2,d3,d4⟩:=HC.out wD HD.out.1
   have HSD:Hid (∀W:World,(∀q,q<R→W.heap[q]?=wD.heap[q]?)→W.cell? ⟨M,j,none⟩=some (.slice (some ⟨R,0,none⟩) N N)∧W.cell? ⟨B,0,none⟩=some (.slice o1 I c1)∧W.cell? ⟨B,0+1,none⟩=some (.slice o2 O c2)∧W.cell? ⟨B,0+2,none⟩=some (.slice (some ⟨b,off,none⟩) N c3)∧W.cell? ⟨B,0+3,none⟩=some (.slice o4 A c4)∧W.cell? ⟨B,0+4,none⟩=some (.slice o5 C c5)∧W.cell? ⟨b,off+j*6+2,none⟩=some (.string op)∧W.cell? ⟨b,off+j*6+3,none⟩=some (.int .i64 n)∧W.cell? ⟨b,off+j*6+4,none⟩=some (.string s)∧W.cell? ⟨b,off+j*6+5,none⟩=some (.slice oo es.length cc)):=fun W hW=>by
    have hMR:=HD.out.2.2.2.2.2.2.2
    have hm:=HR.out.1.m
    have hs:=HB.out.2.2.2.1
    have h1:∀(q o:Nat),q<R→W.cell? ⟨q,o,none⟩=wD.cell? ⟨q,o,none⟩:=fun q o hq=>World.cell?_of_block (hW q hq)
    have hb1:b<R:=Nat.lt_trans hSb (by omega)
    exact⟨(h1 M _ (by omega)).trans u0,(h1 B _ (by omega)).trans d0,(h1 B _ (by omega)).trans d1,(h1 B _ (by omega)).trans d2,(h1 B _ (by omega)).trans d3,(h1 B _ (by omega)).trans d4,(h1 b _ hb1).trans y2,(h1 b _ hb1).trans y3,(h1 b _ hb1).trans y4,(h1 b _ hb1).trans y5⟩
   clear u0 d0 d1 d2 d3 d4 y2 y3 y4 y5 hSb ej k2 k3 k4 k5 r3 r4 ev gg h3 g3 hnd ht1 hbD hqD2 hmD2 hkD hsD hwD hbC hm2B hqB hmB hkB hsB hwB hbA hMR hjf hjl hj HR hR
   go_upto_region 8 with fail
   rw[HWB.out.2.1,HWB.out.1]
   clear z0 z1 a0 a1 a2 a3 a4
   go_upto_region 9 with fail
   rw[HWB.out.2.2,HWD.out]
   clear z2 z3 HWB HWD
   have hS9:=HSD.out wD.drew (fun _ _=>rfl)
   refine nG 11 (fun W=>W.cell? ⟨M,j,none⟩=some (.slice (some ⟨R,0,none⟩) N N)∧W.cell? ⟨B,0,none⟩=some (.slice o1 I c1)∧W.cell? ⟨B,0+1,none⟩=some (.slice o2 O c2)∧W.cell? ⟨B,0+2,none⟩=some (.slice (some ⟨b,off,none⟩) N c3)∧W.cell? ⟨B,0+3,none⟩=some (.slice o4 A c4)∧W.cell? ⟨B,0+4,none⟩=some (.slice o5 C c5)∧W.cell? ⟨b,off+j*6+2,none⟩=some (.string op)∧W.cell? ⟨b,off+j*6+3,none⟩=some (.int .i64 n)∧W.cell? ⟨b,off+j*6+4,none⟩=some (.string s)∧W.cell? ⟨b,off+j*6+5,none⟩=some (.slice oo es.length cc)) (fun _=>True) (by kernel_rfl) hS9 trivial (fun hHeld=>?_)
   refine tj 0 33 (.agg #[.slice o1 I c1,.slice o2 O c2,.slice (some ⟨b,off,none⟩) N c3,.slice o4 A c4,.slice o5 C c5]) rfl (by rintro w ⟨s0,s1,s2,s3,s4,s5,s6,s7,s8,s9⟩;go_simp) hHeld ?_
   refine tj 1 34 (.pointer (some ⟨B,0+2,none⟩)) rfl (by rintro w ⟨s0,s1,s2,s3,s4,s5,s6,s7,s8,s9⟩;go_simp) hHeld ?_
   refine tj 2 35 (.slice (some ⟨b,off,none⟩) N c3) rfl (by rintro w ⟨s0,s1,s2,s3,s4,s5,s6,s7,s8,s9⟩;go_simp) hHeld ?_
   refine tj 3 36 (.int .i64 (j:Nat)) rfl (by rintro w ⟨s0,s1,s2,s3,s4,s5,s6,s7,s8,s9⟩;go_simp) hHeld ?_
   refine tj 4 37 (.pointer (some ⟨b,off+j*6,none⟩)) rfl (by rintro w ⟨s0,s1,s2,s3,s4,s5,s6,s7,s8,s9⟩;go_simp) hHeld ?_
   refine tj 5 38 (.pointer (some ⟨b,off+j*6+2,none⟩)) rfl (by rintro w ⟨s0,s1,s2,s3,s4,s5,s6,s7,s8,s9⟩;go_simp) hHeld ?_
   refine tj 6 39 (.agg #[.string op,.int .i64 n,.string s,.slice oo es.length cc]) rfl (by rintro w ⟨s0,s1,s2,s3,s4,s5,s6,s7,s8,s9⟩;go_simp) hHeld ?_
   refine tj 7 40 (.slice (some ⟨M,0,none⟩) N N) rfl (by rintro w ⟨s0,s1,s2,s3,s4,s5,s6,s7,s8,s9⟩;go_simp) hHeld ?_
   refine tj 8 41 (.int .i64 (j:Nat)) rfl (by rintro w ⟨s0,s1,s2,s3,s4,s5,s6,s7,s8,s9⟩;go_simp) hHeld ?_
   refine tj 9 42 (.pointer (some ⟨M,j,none⟩)) rfl (by rintro w ⟨s0,s1,s2,s3,s4,s5,s6,s7,s8,s9⟩;go_simp) hHeld ?_
   refine tj 10 43 (.slice (some ⟨R,0,none⟩) N N) rfl (by rintro w ⟨s0,s1,s2,s3,s4,s5,s6,s7,s8,s9⟩;go_simp) hHeld ?_
   refine dY 11 (some 44) rfl fun K hK=>?_
   refine lX rfl 89 #[(.agg #[.slice o1 I c1,.slice o2 O c2,.slice (some ⟨b,off,none⟩) N c3,.slice o4 A c4,.slice o5 C c5]),.agg #[.string op,.int .i64 n,.string s,.slice oo es.length cc],.slice (some ⟨R,0,none⟩) N N] (by kernel_rfl) ?_
   refine(HAJ.out wD.drew (Below.refl _ _).drew).mono ?_
   rintro e w6 ⟨rfl,hq6,hm6⟩
   refine hK.out _ _ (Till.last (HSD.out w6 (fun q hq=>hm6.block q (by rw[HD.out.2.1];omega) (fun e=>by have:=Option.some.inj e;omega)))) (fun hHeld=>?_)
   clear hK K hS9
   try simp only[tp]
   refine kH (by kernel_rfl) ?_ _
   clear hHeld
   have hk6:∀b,b<R+2→b≠R→w6.heap[b]?=wD.heap[b]?:=fun b hb hne=>hm6.block b (by rw[HD.out.2.1];exact hb) (fun e=>hne (Option.some.inj e))
   have hMR:=HD.out.2.2.2.2.2.2.2
   have H6:Hid (Bw w1 w6∧R+2≤w6.heap.size∧aT w6 R N (bH (aN p.fs) j)∧aT w6 (R+1) N (fun _=>false)∧bU w6 M N (j+1) (fun i=>if i=j then R else r1 i)∧bU w6 (M+1) N (j+1) (fun i=>if i=j then R+1 else r2 i)∧∀b,b<R→b≠M→b≠M+1→w6.heap[b]?=wr.heap[b]?):=by
    have hw1:w1.heap.size≤M:=HRW.out.1.m
    refine⟨⟨hm6.os.trans HD.out.1.os,hm6.tape.trans HD.out.1.tape,hm6.output.trans HD.out.1.output,Nat.le_trans HD.out.1.size hm6.size,fun b hb=>?_⟩,?_,hq6,?_,?_,?_,fun b h1 h2 h3=>(hk6 b (by omega) (by omega)).trans (HD.out.2.2.1 b h1 h2 h3)⟩
    ·rw[hk6 b (by omega) (by omega)];exact HD.out.1.block b hb
    ·have:=hm6.size;rw[HD.out.2.1] at this;exact this
    ·unfold aT;rw[hk6 _ (by omega) (by omega)];exact HD.out.2.2.2.2.2.2.1
    ·unfold bU;rw[hk6 _ (by omega) (by omega)];exact HD.out.2.2.2.1
    ·unfold bU;rw[hk6 _ (by omega) (by omega)];exact HD.out.2.2.2.2.1
   have HS6:Hid (w6.cell? ⟨M+1,j,none⟩=some (.slice (some ⟨R+1,0,none⟩) N N)∧w6.cell? ⟨M,j,none⟩=some (.slice (some ⟨R,0,none⟩) N N)):=by
    have q1:=H6.out.2.2.2.2.1.cell HJ.out
    have q2:=H6.out.2.2.2.2.2.1.cell HJ.out
    rw[if_pos (Nat.lt_succ_self j),if_pos rfl] at q1 q2
    exact⟨q2,q1⟩
   have HMR:=aA hMR
   clear hk6 hMR hq6 hm6 HSD
   have hS0:w6.drew.cell? ⟨M+1,j,none⟩=some (.slice (some ⟨R+1,0,none⟩) N N)∧w6.drew.cell? ⟨M,j,none⟩=some (.slice (some ⟨R,0,none⟩) N N):=HS6.out
   go_upto_region 10 with fail
   refine nG 8 (fun W=>W.cell? ⟨M+1,j,none⟩=some (.slice (some ⟨R+1,0,none⟩) N N)∧W.cell? ⟨M,j,none⟩=some (.slice (some ⟨R,0,none⟩) N N)) (fun _=>True) (by kernel_rfl) hS0 trivial (fun hHeld=>?_)
   refine tj 0 45 (.slice (some ⟨M+1,0,none⟩) N N) rfl (by rintro w ⟨s0,s1⟩;go_simp) hHeld ?_
   refine tj 1 46 (.int .i64 (j:Nat)) rfl (by rintro w ⟨s0,s1⟩;go_simp) hHeld ?_
   refine tj 2 47 (.pointer (some ⟨M+1,j,none⟩)) rfl (by rintro w ⟨s0,s1⟩;go_simp) hHeld ?_
   refine tj 3 48 (.slice (some ⟨R+1,0,none⟩) N N) rfl (by rintro w ⟨s0,s1⟩;go_simp) hHeld ?_
   refine tj 4 49 (.slice (some ⟨M,0,none⟩) N N) rfl (by rintro w ⟨s0,s1⟩;go_simp) hHeld ?_
   refine tj 5 50 (.int .i64 (j:Nat)) rfl (by rintro w ⟨s0,s1⟩;go_simp) hHeld ?_
   refine tj 6 51 (.pointer (some ⟨M,j,none⟩)) rfl (by rintro w ⟨s0,s1⟩;go_simp) hHeld ?_
   refine tj 7 52 (.slice (some ⟨R,0,none⟩) N N) rfl (by rintro w ⟨s0,s1⟩;go_simp) hHeld ?_
   refine dY 8 (some 53) rfl fun K hK=>?_
   refine step_copy_splice rfl (.tmp 48) (.tmp 52) 103 103 rfl 4 Tryz.underlying103 (by kernel_rfl) (some ⟨R+1,0,none⟩) (some ⟨R,0,none⟩) N N N N (by simp [Act.eval]) (by simp [Act.eval]) (R+1) 0 ((jB N (fun _=>false)).map Value.bool) 4 H6.out.2.2.2.1 ((jB N (bH (aN p.fs) j)).map Value.bool) (by simp [jB]) (fun _=>⟨rfl,_,rfl,fun k v hv=>?_⟩) (by simp [jB]) (fun v hv=>?_) (R+1) w6.drew (Below.refl _ _) (Nat.le_refl _) ?_
   ·have hk:k<N:=by
     have:=(aX hv).1
     simpa [jB] using this
    have:=H6.out.2.2.1.cell hk
    rw[List.getElem?_map,zY _ hk] at hv
    rw[←Option.some.inj hv]
    have e:(⟨R,0,none⟩:Addr).add k=⟨R,k,none⟩:=by unfold Addr.add;split<;>simp_all
    rw[e]
    exact this
   ·obtain⟨x,_,rfl⟩:=List.mem_map.1 hv
    rfl
   intro w7 hg7 hb7
   have H7:Hid (dH w1 w7 M N (j+1) (fun i=>if i=j then R else r1 i) (fun i=>if i=j then R+1 else r2 i) (bH (aN p.fs)) (bH (aN p.fs))∧M+1<w7.heap.size):=by
    have hblk:∀b,b<R+1→w7.heap[b]?=w6.heap[b]?:=fun b hb=>hb7.block b hb
    have hMR:=HMR.out
    have hm:=HRW.out.1.m
    refine⟨HRW.out.1.next HRW.out.2.2 (fun b h1 h2 h3=>(hblk b (by have:=HRW.out.2.2;omega)).trans (H6.out.2.2.2.2.2.2 b (by have:=HRW.out.2.2;omega) h2 h3)) ?_ HRW.out.2.1 ?_ ?_ ?_ ?_,?_⟩
    ·exact H6.out.1.drew.trans (hb7.mono (by omega))
    ·unfold bU;rw[hblk _ (by omega)];exact H6.out.2.2.2.2.1
    ·unfold bU;rw[hblk _ (by omega)];exact H6.out.2.2.2.2.2.1
    ·unfold aT;rw[hblk _ (by omega)];exact H6.out.2.2.1
    ·have:=hg7.out
     unfold aT
     rw[this]
     congr 2
     simp [splice,jB]
    ·have:=hb7.size
     have h6:=H6.out.2.1
     have hd:w6.drew.heap.size=w6.heap.size:=rfl
     omega
   refine hK.out _ _ (Till.last ?_) (fun hHeld=>?_)
   ·have q1:=H7.out.1.m1.cell HJ.out
    have q2:=H7.out.1.m2.cell HJ.out
    rw[if_pos (Nat.lt_succ_self j),if_pos rfl] at q1 q2
    exact⟨q2,q1⟩
   clear hK K
   try simp only[tp]
   refine kH (by kernel_rfl) ?_ _
   clear hHeld hS0 hg7 hb7 H6 HS6 HD
   go_wp2
   exact⟨⟨j+1,_,_,HJ.out,by rw[N4.out];rfl,H7.out⟩,by rw[N4.out];have:=HJ.out;simp [intOf];omega⟩
  ·obtain rfl:N=j:=by omega
   have HR0:Hid (dH w1 wr M N N r1 r2 (bH (aN p.fs)) (fZ (bH (aN p.fs)) 0)):=HR.out.1
   clear a0 a1 a2 a3 a4 hj hjl HR HAO HPV HC hm2
   go_wp2
   go_loopw [8] (fun t wr=>∃k:Nat,k≤N∧t=.int .i64 k∧Hid (dH w1 wr M N N r1 r2 (bH (aN p.fs)) (fZ (bH (aN p.fs)) k))) (fun t _=>N-(intOf t).toNat)
   case atStart=>exact⟨0,Nat.zero_le _,rfl,HR0.out⟩
   case round=>
    obtain⟨k,hk,rfl,HR⟩:=hrel
    by_cases hkl:k<N
    ·obtain⟨g,hg⟩:∃g,g=fZ (bH (aN p.fs)) k:=⟨_,rfl⟩
     have HG:Hid (fZ (bH (aN p.fs)) (k+1)=j5 g k):=by rw[hg];rfl
     have k0':(0:Int)≤(k:Int):=by omega
     have k1':(k:Int)<(N:Int):=by omega
     have NK:Hid (wrap64 ((k:Int)+1)=(k:Int)+1):=by have:=HB.out.2.2.1;unfold Hid wrap64;omega
     have HKN:=aA hkl
     have HR1:Hid (dH w1 wr M N N r1 r2 (bH (aN p.fs)) (fQ g k 0 0)):=by
      have h:=HR.out
      rw[←hg] at h
      exact h.congr (fun a b _ _=>by unfold fQ;rw[if_neg (by omega)])
     clear hk hkl HR hg
     go_wp2
     go_loopw [9] (fun t wr=>∃i:Nat,i≤N∧t=.int .i64 i∧Hid (dH w1 wr M N N r1 r2 (bH (aN p.fs)) (fQ g k i 0))) (fun t _=>N-(intOf t).toNat)
     case atStart=>exact⟨0,Nat.zero_le _,rfl,HR1.out⟩
     case round=>
      obtain⟨i,hi,rfl,HR⟩:=hrel
      by_cases hil:i<N
      ·have i0':(0:Int)≤(i:Int):=by omega
       have i1':(i:Int)<(N:Int):=by omega
       have NI:Hid (wrap64 ((i:Int)+1)=(i:Int)+1):=by have:=HB.out.2.2.1;unfold Hid wrap64;omega
       have HIN:=aA hil
       have HR2:Hid (dH w1 wr M N N r1 r2 (bH (aN p.fs)) (fQ g k i 0)):=HR.out
       clear hi hil HR
       go_wp2
       go_loopw [10] (fun t wr=>∃j:Nat,j≤N∧t=.int .i64 j∧Hid (dH w1 wr M N N r1 r2 (bH (aN p.fs)) (fQ g k i j))) (fun t _=>N-(intOf t).toNat)
       case atStart=>exact⟨0,Nat.zero_le _,rfl,HR2.out⟩
       case round=>
        obtain⟨j,hj,rfl,HR⟩:=hrel
        have hik:fQ g k i j i k=g i k:=by
         unfold fQ
         by_cases h:k<j
         ·rw[if_pos (.inr ⟨rfl,h⟩),FI]
         ·rw[if_neg (by omega)]
        obtain⟨gv,hgv⟩:∃gv,gv=g i k:=⟨_,rfl⟩
        rw[←hgv] at hik
        have c0:wr.cell? ⟨M+1,i,none⟩=some (.slice (some ⟨r2 i,0,none⟩) N N):=by
         have:=HR.out.m2.cell HIN.out
         rw[if_pos HIN.out] at this
         exact this
        have c1:wr.cell? ⟨r2 i,k,none⟩=some (.bool gv):=by
         have:=(HR.out.lC i HIN.out).cell HKN.out
         rw[hik] at this
         exact this
        have hfin:(gv=false∨j=N)→dH w1 wr M N N r1 r2 (bH (aN p.fs)) (fQ g k (i+1) 0):=fun hh=>HR.out.congr fun a b ha hb=>by
         by_cases h2:a=i
         ·subst h2
          have e1:fQ g k (a+1) 0 a b=j5 g k a b:=by unfold fQ;rw[if_pos (.inl (by omega))]
          rw[e1]
          unfold fQ
          by_cases h3:b<j
          ·rw[if_pos (.inr ⟨rfl,h3⟩)]
          ·rw[if_neg (by omega)]
           rcases hh with hh | hh
           ·unfold j5;rw[←hgv,hh];simp
           ·omega
         ·unfold fQ
          by_cases h1:a<i
          ·rw[if_pos (.inl h1),if_pos (.inl (by omega))]
          ·rw[if_neg (by omega),if_neg (by omega)]
        by_cases hjl:j<N
        ·have j0':(0:Int)≤(j:Int):=by omega
         have j1':(j:Int)<(N:Int):=by omega
         cases gv with
         | false=>
          have HF:Hid (dH w1 wr M N N r1 r2 (bH (aN p.fs)) (fQ g k (i+1) 0)):=hfin (.inl rfl)
          clear hik hgv hfin hj hjl HR
          go_wp2
          exact⟨⟨i+1,HIN.out,by rw[NI.out];rfl,HF.out⟩,by rw[NI.out];have:=HIN.out;simp [intOf];omega⟩
         | true=>
          have hxj:fQ g k i j i j=g i j:=by unfold fQ;rw[if_neg (by omega)]
          have hyj:fQ g k i j k j=g k j:=by
           unfold fQ
           by_cases h:k<i
           ·rw[if_pos (.inl h),FH]
           ·rw[if_neg (by omega)]
          obtain⟨x,hx⟩:∃x,x=g i j:=⟨_,rfl⟩
          obtain⟨y,hy⟩:∃y,y=g k j:=⟨_,rfl⟩
          have c2:wr.cell? ⟨r2 i,j,none⟩=some (.bool x):=by
           have:=(HR.out.lC i HIN.out).cell hjl
           rw[hxj,←hx] at this
           exact this
          have c3:wr.cell? ⟨r2 k,j,none⟩=some (.bool y):=by
           have:=(HR.out.lC k HKN.out).cell hjl
           rw[hyj,←hy] at this
           exact this
          have c4:wr.cell? ⟨M+1,k,none⟩=some (.slice (some ⟨r2 k,0,none⟩) N N):=by
           have:=HR.out.m2.cell HKN.out
           rw[if_pos HKN.out] at this
           exact this
          have c5:wr.frozen? ⟨r2 i,j,none⟩=false:=(HR.out.lC i HIN.out).free j
          have HST:Hid (dH w1 (wr.drew.setCell ⟨r2 i,j,none⟩ (.bool (x||y))) M N N r1 r2 (bH (aN p.fs)) (fQ g k i (j+1))):=(HR.out.drew.set HIN.out j (x||y)).congr fun a b ha hb=>by
           by_cases h1:a=i
           ·subst h1
            rw[if_pos rfl]
            by_cases h2:b=j
            ·subst h2
             rw[if_pos rfl]
             unfold fQ
             rw[if_pos (.inr ⟨rfl,by omega⟩)]
             unfold j5
             rw[←hgv,←hx,←hy,Bool.true_and]
            ·rw[if_neg h2]
             unfold fQ
             by_cases h3:b<j
             ·rw[if_pos (.inr ⟨rfl,h3⟩),if_pos (.inr ⟨rfl,by omega⟩)]
             ·rw[if_neg (by omega),if_neg (by omega)]
           ·rw[if_neg h1]
            unfold fQ
            by_cases h3:a<i
            ·rw[if_pos (.inl h3),if_pos (.inl h3)]
            ·rw[if_neg (by omega),if_neg (by omega)]
          have NJ:Hid (wrap64 ((j:Int)+1)=(j:Int)+1):=by have:=HB.out.2.2.1;unfold Hid wrap64;omega
          have HJN:=aA hjl
          clear hik hgv hfin hj hjl HR hxj hyj hx hy
          cases x with
          | true=>
           go_upto_region 20 with fail
           go_region
           all_goals go_wp2
           all_goals exact⟨⟨j+1,HJN.out,by rw[NJ.out];rfl,HST.out⟩,by rw[NJ.out];have:=HJN.out;simp [intOf];omega⟩
          | false=>
           go_upto_region 20 with fail
           go_region
           all_goals go_wp2
           all_goals exact⟨⟨j+1,HJN.out,by rw[NJ.out];rfl,HST.out⟩,by rw[NJ.out];have:=HJN.out;simp [intOf];omega⟩
        ·have HF:Hid (dH w1 wr M N N r1 r2 (bH (aN p.fs)) (fQ g k (i+1) 0)):=hfin (.inr (by omega))
         have j1':¬(j:Int)<(N:Int):=by omega
         clear hik hgv hfin hj hjl HR
         go_wp2
         exact⟨⟨i+1,HIN.out,by rw[NI.out];rfl,HF.out⟩,by rw[NI.out];have:=HIN.out;simp [intOf];omega⟩
      ·have HF:Hid (dH w1 wr M N N r1 r2 (bH (aN p.fs)) (fZ (bH (aN p.fs)) (k+1))):=by
        rw[HG.out]
        exact HR.out.congr (fun a b ha hb=>by unfold fQ;rw[if_pos (.inl (by omega))])
       have i1':¬(i:Int)<(N:Int):=by omega
       clear hi hil HR
       go_wp2
       exact⟨⟨k+1,HKN.out,by rw[NK.out];rfl,HF.out⟩,by rw[NK.out];have:=HKN.out;simp [intOf];omega⟩
    ·obtain rfl:N=k:=by omega
     have HF:Hid (dH w1 wr M N N r1 r2 (bH (aN p.fs)) (fZ (bH (aN p.fs)) N)∧Bw w wr):=⟨HR.out,HB.out.1.trans (HR.out.b.mono HB.out.1.size)⟩
     have k1':¬(N:Int)<(N:Int):=by omega
     clear hk hkl HR
     go_wp2
     refine bodyPost_ret (results_tmp2 rfl _ _ _) rfl ?_
     exact⟨w1,M,rfl,⟨r1,r2,HF.out.1⟩,HF.out.2⟩
end Go.Proofs.YtmgfakcccfahaaaGreatDoor
