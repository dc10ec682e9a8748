/-
  WHAT IS TOLD OF AN ORDER, BY THE PROGRAM AND BY THE DOCUMENT, IS THE SAME; lustrumref1.SameInts, lustrumlaw2.faulted of it.
-/
import Derived.Test.YtmgfakcccfahaaaGreatDoorN49
set_option maxRecDepth 100000
set_option maxHeartbeats 8000000
namespace Go.Proofs.YtmgfakcccfahaaaGreatDoor
open Go.RowKit Go.Maps

def lQ(w:World)(o:Option Addr)(l:List Int):Prop:=∀k x,l[k]?=some x→∃b off,o=some ⟨b,off,none⟩∧w.cell? ⟨b,off+k,none⟩=some (.int .i64 x)
theorem lQ.below{w w':World}{o:Option Addr}{l:List Int}(h:lQ w o l)(hb:Bw w w'):lQ w' o l:=fun k x hk=>by
 obtain⟨b,off,e,hc⟩:=h k x hk
 exact⟨b,off,e,aF hb hc⟩
theorem Bp(w:World)(o1 o2:Option Addr)(n c1 c2:Nat)(l:List Int)(h1:lQ w o1 l)(h2:lQ w o2 l)(hn:n=l.length)(hl:n≤100000) :
  Calls Tryz.prog 16 #[.slice o1 n c1,.slice o2 n c2] w fun e w'=>e=.returned (.bool true)∧∃k,w'=w.drewN k:=by
 have H1:=aA h1
 have H2:=aA h2
 have HN:=aA hn
 have HL:=aA hl
 clear h1 h2 hn hl
 go_enter Tryz.func16,Tryz.ntmps16
 go_wp2
 go_loopw [5] (fun i wr=>∃j k:Nat,j≤n∧i=.int .i64 j∧wr=w.drewN k) (fun i _=>n-(intOf i).toNat)
 case atStart=>exact⟨0,0,Nat.zero_le _,rfl,rfl⟩
 case round=>
  obtain⟨j,k,hj,rfl,rfl⟩:=hrel
  by_cases hlt:j<n
  ·obtain⟨x,hx⟩:∃x,l[j]?=some x:=⟨_,List.getElem?_eq_getElem (by have:=HN.out;omega)⟩
   obtain⟨b1,f1,rfl,q1⟩:=H1.out j x hx
   obtain⟨b2,f2,rfl,q2⟩:=H2.out j x hx
   have hi0:(0:Int)≤(j:Int):=by omega
   have hi1:(j:Int)<(n:Int):=by omega
   have N4:Hid (wrap64 ((j:Int)+1)=(j:Int)+1):=by have:=HL.out;unfold Hid wrap64;omega
   have HJ:=aA hlt
   clear hj hlt hx
   go_wp2
   go_quiet (fail)
   go_wp2
   exact⟨⟨j+1,_,HJ.out,by rw[N4.out];rfl,rfl⟩,by rw[N4.out];have:=HJ.out;simp [intOf];omega⟩
  ·obtain rfl:j=n:=by omega
   clear hj hlt
   go_wp2
   go_ret
   exact⟨rfl,k,rfl⟩
theorem NF(w:World)(n:Int) :
  Calls Tryz.prog 13 #[.nilIface,.agg #[.int .i64 0,.int .i64 n]] w fun e w'=>e=.returned (.bool true)∧Bw w w':=by
 have hb0:Bw w (w.alloc (.cells #[.int .i64 0,.int .i64 n] 42)):=aH
 go_enter Tryz.func13,Tryz.ntmps13
 go_wp2_with fail
 refine(NY _).mono ?_
 rintro e w1 ⟨rfl,hw⟩
 have hw2:=hw.symm
 subst hw2
 go_wp2
 all_goals go_ret
 all_goals exact⟨rfl,hb0⟩
def kU(v:Value)(c n:Int)(W:World):Prop:=∀W',Bw W W'→Calls Tryz.prog 13 #[v,.agg #[.int .i64 c,.int .i64 n]] W' fun e w'=>e=.returned (.bool true)∧Below W'.heap.size W' w'
theorem kU.below{v:Value}{c n:Int}{W W':World}(h:kU v c n W)(hb:Bw W W'):kU v c n W':=fun W2 h2=>h W2 (hb.trans (h2.mono hb.size))
theorem Nf(n:Int)(W:World):kU .nilIface 0 n W:=fun W' _=>NF W' n
theorem vU{a:Nat→Addr}{W:World}(S:jC a W){m:Nat}(hm:m<9):kU (.iface 289 (.pointer (some (a m)))) ((m:Int)+1) (-1) W:=fun W' hb=>by
 have S':=S.below hb
 obtain⟨cb,tb,hrow⟩:=S'.row m hm
 exact NE a (a m) m _ _ cb tb W' S' hrow (by omega) (fun j hj=>S'.inj m j hm (by omega) (by omega)) (fun _=>rfl) (vZ hm).symm rfl
theorem DJ{a:Nat→Addr}{W:World}(S:jC a W){m p:Nat}{n:Int}(hm:m<9)(h0:W.cell? ⟨p,0,none⟩=some (.int .i64 n))(h1:W.cell? ⟨p,0+1,none⟩=some (.iface 289 (.pointer (some (a m))))):kU (.iface 83 (.pointer (some ⟨p,0,none⟩))) ((m:Int)+1) n W:=fun W' hb=>by
 have S':=S.below hb
 obtain⟨cb,tb,hrow⟩:=S'.row m hm
 exact NG a (a m) m p _ n cb tb W' S' (aF hb h0) (aF hb h1) hrow (by omega) (fun j hj=>S'.inj m j hm (by omega) (by omega)) (fun _=>rfl) (vZ hm).symm
def eS(a:Nat→Addr):gW:={ st:=289,bt:=289,tt:=289,ct:=289,ft:=289,sq:=.pointer (some (a 2)),bq:=.pointer (some (a 1)),tq:=.pointer (some (a 4)),cq:=.pointer (some (a 5)),fq:=.pointer (some (a 6)) }
theorem Ed{a:Nat→Addr}{w:World}(S:jC a w):qG w (eS a):=⟨⟨S.g2,S.g1,S.g4⟩,S.g5,S.g6⟩
theorem Cb{a:Nat→Addr}{p:Pg}{W:World}{t:TypeId}{x:Value}(S:jC a W)(h:j4 p (eS a) W t x):(aQ p≠0∧kU (.iface t x) (dL (aQ p)) (-1) W)∨(aQ p=0∧∃m:Nat,m<p.fs.length∧bP (aN p.fs) m m∧(∀j,j<m→¬bP (aN p.fs) j j)∧kU (.iface t x) 6 (m:Int) W):=by
 rcases h with⟨h0,h1⟩ | ⟨h0,m,b,rfl,rfl,h3,h4,h5,h6,h7⟩
 ·refine .inl ⟨h0,?_⟩
  rw[h1]
  match hc:aQ p,h0 with
  | 1,_=>exact vU S (m:=2) (by omega)
  | 2,_=>exact vU S (m:=1) (by omega)
  | n+3,_=>exact vU S (m:=4) (by omega)
 ·exact .inr ⟨h0,m,h3,h4,h5,DJ S (m:=5) (by omega) h6 h7⟩
theorem CO{P:Nat→Prop}{m n:Nat}(h1:P m)(h2:∀j,j<m→¬P j)(h3:P n)(h4:∀j,j<n→¬P j):m=n:=by
 rcases Nat.lt_trichotomy m n with h | h | h
 ·exact absurd h1 (h4 m h)
 ·exact h
 ·exact absurd h3 (h2 n h)
theorem Ca{a:Nat→Addr}{p:Pg}{W:World}{t:TypeId}{x:Value}(S:jC a W)(h:j4 p (eS a) W t x){B:Nat}{w':World}{v:Value}{c n:Int}(hd:qE p B w' v c n):kU (.iface t x) c n W∧0<c∧v=.slice none 0 0:=by
 rcases Cb S h with⟨h0,h1⟩ | ⟨h0,m,h2,h3,h4,h5⟩
 ·rcases hd with⟨_,rfl,rfl,rfl⟩ | ⟨q,_⟩ | ⟨d,o,k,q,_⟩
  ·exact⟨h1,zQ h0,rfl⟩
  ·exact absurd q h0
  ·exact absurd q.1 h0
 ·rcases hd with⟨q,_⟩ | ⟨_,m',q1,q2,q3,rfl,rfl,rfl⟩ | ⟨d,o,k,q,_⟩
  ·exact absurd h0 q
  ·obtain rfl:=CO (P:=fun j=>bP (aN p.fs) j j) h3 h4 q2 q3
   exact⟨h5,by decide,rfl⟩
  ·exact absurd h3 (q.2.1.acyclic (by unfold aN;rw[List.length_map];exact q.2.2) m)
theorem Ki{p:Pg}{d:List Nat}(h:iT p d){B:Nat}{w':World}{v:Value}{c n:Int}(hd:qE p B w' v c n):∃o k,v=.slice o d.length k∧c=0∧n=-1∧w'.ownsRow B 3 1 (.slice o d.length k) d.length ((cI d).map (Value.int .i64)):=by
 rcases hd with⟨q,_⟩ | ⟨_,m,q1,q2,_⟩ | ⟨e,o,k,q,rfl,rfl,rfl,hown⟩
 ·exact absurd h.1 q
 ·exact absurd q2 (h.2.1.acyclic (by unfold aN;rw[List.length_map];exact h.2.2) m)
 ·obtain rfl:=bV.one h.2.1 q.2.1 (h.2.2.trans q.2.2.symm)
  exact⟨o,k,rfl,rfl,rfl,hown⟩
theorem Ej{a:Nat→Addr}{p:Pg}{W:World}{v:Value}(S:jC a W)(h:o7 p (eS a) (.returned v) W){c n:Int}(hd:wV p c n):kU v c n W:=by
 rcases h with⟨t,x,h,hv⟩ | ⟨d,f,hoo,hlt,h⟩
 ·obtain rfl:=(Ending.returned.inj hv)
  rcases Cb S h with⟨h0,h1⟩ | ⟨h0,m,h2,h3,h4,h5⟩
  ·rcases hd with⟨_,rfl,rfl⟩ | ⟨q,_⟩ | ⟨d,f,q,_⟩
   ·exact h1
   ·exact absurd q h0
   ·exact absurd q.1 h0
  ·rcases hd with⟨q,_⟩ | ⟨_,m',q1,q2,q3,rfl,rfl⟩ | ⟨d,f,q,_⟩
   ·exact absurd h0 q
   ·obtain rfl:=CO (P:=fun j=>bP (aN p.fs) j j) h3 h4 q2 q3
    exact h5
   ·exact absurd h3 (q.2.1.acyclic (by unfold aN;rw[List.length_map];exact q.2.2) m)
 ·rcases hd with⟨q,_⟩ | ⟨_,m,q1,q2,_⟩ | ⟨d',f',_,hlt',hd⟩
  ·exact absurd hoo.1 q
  ·exact absurd q2 (hoo.2.1.acyclic (by unfold aN;rw[List.length_map];exact hoo.2.2) m)
  ·obtain rfl:=hlt.one hlt'
   rcases h with⟨m,b,x,h1,h2,h3,hv,h4,h5⟩ | ⟨h0,h⟩
   ·obtain rfl:=(Ending.returned.inj hv)
    rcases hd with⟨m',x',q1,q2,q3,rfl,rfl⟩ | ⟨q,_⟩
    ·have hm:m=m':=by
      rcases Nat.lt_trichotomy m m' with hl | hl | hl
      ·have:=q3 m x hl h1;rw[h2] at this;cases this
      ·exact hl
      ·have:=h3 m' x' hl q1;rw[q2] at this;cases this
     subst hm
     exact DJ S (m:=6) (by omega) h4 h5
    ·have:=q m x h1;rw[h2] at this;cases this
   ·rcases hd with⟨m',x',q1,q2,_⟩ | ⟨_,q⟩
    ·have:=h0 m' x' q1;rw[q2] at this;cases this
    ·rcases h with⟨⟨y,hy,hpos⟩,hv⟩ | ⟨hz,hv⟩
     ·obtain rfl:=(Ending.returned.inj hv)
      rcases q with⟨_,rfl,rfl⟩ | ⟨q,_⟩
      ·exact vU S (m:=6) (by omega)
      ·have:=q y hy;omega
     ·obtain rfl:=(Ending.returned.inj hv)
      rcases q with⟨⟨y,hy,hpos⟩,_⟩ | ⟨_,rfl,rfl⟩
      ·have:=hz y hy;omega
      ·exact Nf _ W
theorem bD.intsO{w:World}{W n:Nat}{g:Nat→Int}(h:bD w W n g):lQ w (some ⟨W,0,none⟩) (iM n g):=fun k x hk=>by
 have hkn:k<n:=by have:=(aX hk).1;rwa [kJ] at this
 rw[pQ g hkn] at hk
 exact⟨W,0,rfl,by rw[Nat.zero_add,h.cell hkn,Option.some.inj hk]⟩
theorem BN{w:World}{B n:Nat}{o:Option Addr}{k:Nat}{l:List Int}(h:w.ownsRow B 3 1 (.slice o n k) n (l.map (Value.int .i64))):lQ w o l:=fun i x hi=>by
 obtain⟨_,_,o',c',e,h3,_⟩:=aB.qM h
 obtain⟨rfl,_,_⟩:=Value.slice.inj e
 obtain⟨b,off,e2,_,hc⟩:=h3 i (.int .i64 x) (by rw[List.getElem?_map,hi];rfl)
 exact⟨b,off,e2,hc⟩
end Go.Proofs.YtmgfakcccfahaaaGreatDoor
namespace Go.Proofs.YtmgfakcccfahaaaGreatDoor
open Go.RowKit

theorem BK{p:Pg}(h:jZ p=false)(ho:p.outs.length≤2097152)(hs:gM (aD p))(hn:∀v∈aK p,v.1.size≤maxLen)(hon:∀e∈p.outs,e.op.size≤maxLen):lN p:=by
 unfold jZ at h
 rw[Bool.or_eq_false_iff,Bool.or_eq_false_iff] at h
 have h1:=of_decide_eq_false h.1.1
 have h2:=of_decide_eq_false h.1.2
 have h3:=of_decide_eq_false h.2
 have h4:=uI (aD p)
 have h5:=uK (aD p)
 have h6:(aD p).length=p.fs.length+(p.asserts.length+p.checks.length):=by
  unfold aD
  rw[List.length_append,List.length_append,List.length_map]
 exact⟨by omega,ho,by omega,by omega,hs,hn,hon⟩
theorem Nn{w:World}{base:Nat}{p:Pg}{o1 o2 o3 o4 o5:Option Addr}{c1 c2 c3 c4 c5:Nat}{E:gW}(h:fE w (bJ base w) p (.slice o1 p.ins.length c1) (.slice o2 p.outs.length c2) (.slice o3 p.fs.length c3) (.slice o4 p.asserts.length c4) (.slice o5 p.checks.length c5))(hn:p.ins.length=0→o1=none∧c1=0)(hk:lN p)(he:qG w E):iR w (bJ base w) p o1 o2 o3 o4 o5 c1 c2 c3 c4 c5 E:=
 ⟨h,fun b hb _=>hb.2,fun b hb=>by obtain⟨cs,t,hc⟩:=hb.2;exact(bE hc).1,hn,hk,he.e3,he.q8,he.fst⟩
theorem o7.ret{p:Pg}{E:gW}{e:Ending}{w:World}(h:o7 p E e w):∃v,e=.returned v:=by
 rcases h with⟨t,x,_,rfl⟩ | ⟨d,f,_,_,⟨m,b,x,_,_,_,rfl,_⟩ | ⟨_,⟨_,rfl⟩ | ⟨_,rfl⟩⟩⟩<;>exact⟨_,rfl⟩
theorem BS{p:Pg}{d:List Nat}{E:gW}{w:World}{t:TypeId}{x:Value}(h:iT p d)(he:j4 p E w t x):False:=by
 rcases he with⟨q,_⟩ | ⟨_,m,b,_,_,_,q,_⟩
 ·exact q h.1
 ·exact h.2.1.acyclic (by unfold aN;rw[List.length_map];exact h.2.2) m q
structure O8(w:World)(S:Nat→Prop)(p:Pg)(o1 o2 o3 o4 o5:Option Addr)(c1 c2 c3 c4 c5:Nat):Prop where
 pg:fE w S p (.slice o1 p.ins.length c1) (.slice o2 p.outs.length c2) (.slice o3 p.fs.length c3) (.slice o4 p.asserts.length c4) (.slice o5 p.checks.length c5)
 few:p.ins.length≤2097152∧p.outs.length≤2097152∧p.fs.length≤2097152∧p.asserts.length≤2097152∧p.checks.length≤2097152
 fit:Fit 2199023255552 (aD p)
 Gt:(aD p).length≤2097152
 wt:bQ (aD p)≤1152921504606846976
 sm:gM (aD p)
 nm:∀v∈aK p,v.1.size≤maxLen
 on:∀e∈p.outs,e.op.size≤maxLen
theorem J2(a:Nat→Addr)(w:World)(S:Nat→Prop)(p:Pg)(o1 o2 o3 o4 o5:Option Addr)(c1 c2 c3 c4 c5:Nat)(hS:jC a w)(h:O8 w S p o1 o2 o3 o4 o5 c1 c2 c3 c4 c5) :
  Calls Tryz.prog 3 #[.agg #[.slice o1 p.ins.length c1,.slice o2 p.outs.length c2,.slice o3 p.fs.length c3,.slice o4 p.asserts.length c4,.slice o5 p.checks.length c5]] w fun e w'=>e=.returned (.bool true)∧Bw w w':=by
 obtain⟨I,hI⟩:∃I,I=p.ins.length:=⟨_,rfl⟩
 obtain⟨N,hN⟩:∃N,N=p.fs.length:=⟨_,rfl⟩
 obtain⟨O,hO⟩:∃O,O=p.outs.length:=⟨_,rfl⟩
 obtain⟨A,hA⟩:∃A,A=p.asserts.length:=⟨_,rfl⟩
 obtain⟨C,hC⟩:∃C,C=p.checks.length:=⟨_,rfl⟩
 obtain⟨w1,hw1⟩:∃w1,w1=w.alloc (.cells #[.slice o1 I c1,.slice o2 O c2,.slice o3 N c3,.slice o4 A c4,.slice o5 C c5] 27):=⟨_,rfl⟩
 obtain⟨B,hB⟩:∃B,B=w.heap.size:=⟨_,rfl⟩
 have hb1:Bw w w1:=by rw[hw1];exact aH
 have hr1:w1.heap[B]?=some (.cells #[.slice o1 I c1,.slice o2 O c2,.slice o3 N c3,.slice o4 A c4,.slice o5 C c5] 27 (0,0)):=by rw[hw1,hB];exact heap_alloc_new _ _
 have HW1:Hid (w.alloc (.cells #[.slice o1 I c1,.slice o2 O c2,.slice o3 N c3,.slice o4 A c4,.slice o5 C c5] 27)=w1∧w.heap.size=B):=⟨hw1.symm,hB.symm⟩
 have HC:Hid (∀W,Bw w1 W→W.cell? ⟨B,0,none⟩=some (.slice o1 I c1)∧W.cell? ⟨B,0+1,none⟩=some (.slice o2 O c2)∧W.cell? ⟨B,0+2,none⟩=some (.slice o3 N c3)∧W.cell? ⟨B,0+3,none⟩=some (.slice o4 A c4)∧W.cell? ⟨B,0+4,none⟩=some (.slice o5 C c5)):=fun W hW=>by
  have hr:=aG hW hr1
  refine⟨?_,?_,?_,?_,?_⟩<;>(rw[cell_of_row W _ _ _ _ (0,0) hr];rfl)
 have HW:Hid (∀W,Bw w1 W→Bw w W):=fun W hW=>hb1.trans (hW.mono hb1.size)
 have HSE:Hid (∀W,Bw w1 W→jC a W):=fun W hW=>hS.below (HW.out W hW)
 have HFI:Hid (Calls Tryz.prog 7 #[] w1 fun e w'=>e=.returned (.bool true)∧Bw w1 w'):=NC w1 (eS a) (Ed (HSE.out w1 (Below.refl _ _)))
 have HPW:Hid (∀W,Bw w1 W→fE W (fun _=>True) p (.slice o1 p.ins.length c1) (.slice o2 p.outs.length c2) (.slice o3 p.fs.length c3) (.slice o4 p.asserts.length c4) (.slice o5 p.checks.length c5)):=fun W hW=>h.pg.keep (fun b _ hl=>⟨trivial,(HW.out W hW).block b hl⟩)
 have HHV:Hid (∀W,Bw w1 W→Calls Tryz.prog 8 #[(.agg #[.slice o1 I c1,.slice o2 O c2,.slice o3 N c3,.slice o4 A c4,.slice o5 C c5])] W fun e w'=>e=.returned (.int .i64 (if jZ p=true then 1 else 0))∧Bw W w'):=fun W hW=>by
  rw[hI,hO,hN,hA,hC]
  exact MU W _ p o1 o2 o3 o4 o5 c1 c2 c3 c4 c5 (HPW.out W hW) h.Gt h.wt
 have HFO0:Hid (jZ p=false→∀W,Bw w1 W→Calls Tryz.prog 10 #[(.agg #[.slice o1 I c1,.slice o2 O c2,.slice o3 N c3,.slice o4 A c4,.slice o5 C c5])] W fun e w'=>∃q1 q2 q3 q4 q5 d1 d2 d3 d4 d5,e=.returned (.agg #[.slice q1 I d1,.slice q2 O d2,.slice q3 N d3,.slice q4 A d4,.slice q5 C d5])∧iR w' (bJ W.heap.size w') p q1 q2 q3 q4 q5 d1 d2 d3 d4 d5 (eS a)∧Bw W w'∧Bw w1 w'):=fun hh W hW=>by
  rw[hI,hO,hN,hA,hC]
  refine(Np W _ p o1 o2 o3 o4 o5 c1 c2 c3 c4 c5 (HPW.out W hW) h.few h.fit).mono ?_
  rintro e w' ⟨q1,q2,q3,q4,q5,d1,d2,d3,d4,d5,rfl,hp,hz,hb⟩
  exact⟨q1,q2,q3,q4,q5,d1,d2,d3,d4,d5,rfl,Nn hp hz (BK hh h.few.2.1 h.sm h.nm h.on) ((Ed (HSE.out W hW)).keep hb),hb,hW.trans (hb.mono hW.size)⟩
 have HPV:Hid (∀W,Bw w1 W→iC W (fun _=>True) p o1 o2 o3 o4 o5 I O N A C c1 c2 c3 c4 c5):=fun W hW=>⟨HPW.out W hW,hI,hO,hN,hA,hC⟩
 have HPK:Hid (jZ p=false→lN p):=fun hh=>BK hh h.few.2.1 h.sm h.nm h.on
 have HOO:Hid (∀(W:World) (F:Nat→Prop) (q1 q2 q3 q4 q5:Option Addr) (d1 d2 d3 d4 d5:Nat),iR W F p q1 q2 q3 q4 q5 d1 d2 d3 d4 d5 (eS a)→Bw w1 W→Calls Tryz.prog 9 #[(.agg #[.slice q1 I d1,.slice q2 O d2,.slice q3 N d3,.slice q4 A d4,.slice q5 C d5])] W fun e w'=>Bw W w'∧Af p (eS a) W.heap.size e w'∧Bw w1 w'):=fun W F q1 q2 q3 q4 q5 d1 d2 d3 d4 d5 hp hW=>by
  rw[hI,hO,hN,hA,hC]
  refine(xY W F p q1 q2 q3 q4 q5 d1 d2 d3 d4 d5 (eS a) hp).mono ?_
  rintro e w' ⟨hb,hr⟩
  exact⟨hb,hr,hW.trans (hb.mono hW.size)⟩
 have HOL:Hid (∀(W:World) (F:Nat→Prop) (q1 q2 q3 q4 q5:Option Addr) (d1 d2 d3 d4 d5:Nat),iR W F p q1 q2 q3 q4 q5 d1 d2 d3 d4 d5 (eS a)→Bw w1 W→Calls Tryz.prog 11 #[(.agg #[.slice q1 I d1,.slice q2 O d2,.slice q3 N d3,.slice q4 A d4,.slice q5 C d5])] W fun e w'=>Bw W w'∧Ff p (eS a) W.heap.size e w'∧Bw w1 w'):=fun W F q1 q2 q3 q4 q5 d1 d2 d3 d4 d5 hp hW=>by
  rw[hI,hO,hN,hA,hC]
  refine(CU W F p q1 q2 q3 q4 q5 d1 d2 d3 d4 d5 (eS a) hp).mono ?_
  rintro e w' ⟨hb,hr⟩
  exact⟨hb,hr,hW.trans (hb.mono hW.size)⟩
 have HOC:Hid (∀(W:World) (F:Nat→Prop) (q1 q2 q3 q4 q5:Option Addr) (d1 d2 d3 d4 d5:Nat),iR W F p q1 q2 q3 q4 q5 d1 d2 d3 d4 d5 (eS a)→Bw w1 W→Calls Tryz.prog 14 #[(.agg #[.slice q1 I d1,.slice q2 O d2,.slice q3 N d3,.slice q4 A d4,.slice q5 C d5])] W fun e w'=>Bw W w'∧o7 p (eS a) e w'∧Bw w1 w'):=fun W F q1 q2 q3 q4 q5 d1 d2 d3 d4 d5 hp hW=>by
  rw[hI,hO,hN,hA,hC]
  refine(Cc W F p q1 q2 q3 q4 q5 d1 d2 d3 d4 d5 (eS a) hp).mono ?_
  rintro e w' ⟨hb,hr⟩
  exact⟨hb,hr,hW.trans (hb.mono hW.size)⟩
 have HNN:=aA hN
 obtain⟨a0,a1,a2,a3,a4⟩:=HC.out w1 (Below.refl _ _)
 rw[←hI,←hO,←hN,←hA,←hC]
 clear h hS hI hN hO hA hC hw1 hB hb1 hr1
 go_enter Tryz.func3,Tryz.ntmps3
 go_upto_region 1 with fail
 rw[HW1.out.1,HW1.out.2]
 go_upto_region 2 with(first | (go_at_call 7;refine HFI.out.mono ?_;rintro e w2 ⟨rfl,hb2⟩;have HB2:=aA hb2;clear hb2 a0 a1 a2 a3 a4) | fail)
 obtain⟨a0,a1,a2,a3,a4⟩:=HC.out w2 HB2.out
 have HHW:Hid (Calls Tryz.prog 8 #[(.agg #[.slice o1 I c1,.slice o2 O c2,.slice o3 N c3,.slice o4 A c4,.slice o5 C c5])] w2 fun e w'=>e=.returned (.int .i64 (if jZ p=true then 1 else 0))∧Bw w2 w'):=HHV.out w2 HB2.out
 cases hh:jZ p with
 | true=>
  rw[hh,if_pos rfl] at HHW
  clear hh
  go_wp2_with (first | (go_at_call 8;refine HHW.out.mono ?_;rintro e w3 ⟨rfl,hb3⟩;have HB3:Hid (Bw w1 w3):=HB2.out.trans (hb3.mono HB2.out.size);clear hb3) | fail)
  go_ret
  exact⟨rfl,HW.out w3 HB3.out⟩
 | false=>
  rw[hh,if_neg (by simp)] at HHW
  have HFO:Hid (∀W,Bw w1 W→Calls Tryz.prog 10 #[(.agg #[.slice o1 I c1,.slice o2 O c2,.slice o3 N c3,.slice o4 A c4,.slice o5 C c5])] W fun e w'=>∃q1 q2 q3 q4 q5 d1 d2 d3 d4 d5,e=.returned (.agg #[.slice q1 I d1,.slice q2 O d2,.slice q3 N d3,.slice q4 A d4,.slice q5 C d5])∧iR w' (bJ W.heap.size w') p q1 q2 q3 q4 q5 d1 d2 d3 d4 d5 (eS a)∧Bw W w'∧Bw w1 w'):=HFO0.out hh
  have hok:=HPK.out hh
  have HOF:Hid (∀W,Bw w1 W→Calls Tryz.prog 12 #[(.agg #[.slice o1 I c1,.slice o2 O c2,.slice o3 N c3,.slice o4 A c4,.slice o5 C c5])] W fun e w'=>Bw W w'∧∃v c a,e=.returned (.tuple #[v,.agg #[.int .i64 c,.int .i64 a]])∧qE p W.heap.size w' v c a):=fun W hW=>BQ W _ p o1 o2 o3 o4 o5 I O N A C c1 c2 c3 c4 c5 (HPV.out W hW) hok
  have HCO:Hid (∀W,Bw w1 W→Calls Tryz.prog 15 #[(.agg #[.slice o1 I c1,.slice o2 O c2,.slice o3 N c3,.slice o4 A c4,.slice o5 C c5])] W fun e w'=>Bw W w'∧∃c a,e=.returned (.agg #[.int .i64 c,.int .i64 a])∧wV p c a∧Bw w1 w'):=fun W hW=>by
   refine(Oc W _ p o1 o2 o3 o4 o5 I O N A C c1 c2 c3 c4 c5 (HPV.out W hW) hok).mono ?_
   rintro e w' ⟨hb,c,n,rfl,hcd⟩
   exact⟨hb,c,n,rfl,hcd,hW.trans (hb.mono hW.size)⟩
  clear hh hok HFO0 HPK HHV
  go_upto_region 4 with(first | (go_at_call 8;refine HHW.out.mono ?_;rintro e w3 ⟨rfl,hb3⟩;have HB3:Hid (Bw w1 w3):=HB2.out.trans (hb3.mono HB2.out.size);clear hb3) | fail)
  clear a0 a1 a2 a3 a4 HHW
  obtain⟨a0,a1,a2,a3,a4⟩:=HC.out w3 HB3.out
  by_cases hr:∃d,iT p d
  ·obtain⟨d,hd⟩:=hr
   have HDD:=aA hd
   have hfz:=hd.1
   obtain⟨kd,hk,_,hfm,_,h400,_⟩:=sZ hfz
   have HLF:Hid (∀W,Bw w1 W→Calls Tryz.prog 17 #[(.agg #[.slice o1 I c1,.slice o2 O c2,.slice o3 N c3,.slice o4 A c4,.slice o5 C c5])] W fun e w'=>∃(f:List UInt8→Nat) (lb:Nat),e=.returned (.slice (some ⟨lb,0,none⟩) N N)∧gV p.fs f∧bD w' lb N (dP p f)∧W.heap.size≤lb∧Bw W w'):=fun W hW=>CV W _ p o1 o2 o3 o4 o5 I O N A C c1 c2 c3 c4 c5 (HPV.out W hW) kd hk hfm (by have:=HNN.out;omega)
   have HN4:Hid (N≤400∧d.length≤400):=⟨by have:=HNN.out;omega,by have:=hd.2.2;omega⟩
   clear hd hfz hk hfm h400
   go_upto_region 5 with(first | (go_at_call 10;refine(HFO.out w3 HB3.out).mono ?_;rintro e w4 ⟨q1,q2,q3,q4,q5,d1,d2,d3,d4,d5,rfl,hp4,hb4,hB4⟩;have HB4:Hid (Bw w1 w4∧iR w4 (bJ w3.heap.size w4) p q1 q2 q3 q4 q5 d1 d2 d3 d4 d5 (eS a)):=⟨hB4,hp4⟩;clear hp4 hb4 hB4 a0 a1 a2 a3 a4) | (go_at_call 9;refine(HOO.out w4 _ q1 q2 q3 q4 q5 d1 d2 d3 d4 d5 HB4.out.2 HB4.out.1).mono ?_;rintro e w5 ⟨_,hor,hB5⟩;obtain⟨o5x,c5x,rfl,HO5⟩:∃(o:Option Addr) (c:Nat),e=.returned (.tuple #[.slice o d.length c,.nilIface])∧Hid (lQ w5 o (cI d)∧Bw w1 w5):=(by rcases hor with⟨d',o,c,hd',rfl,hown⟩ | ⟨t,x,hx,_⟩;(obtain rfl:=bV.one hd'.2.1 HDD.out.2.1 (hd'.2.2.trans HDD.out.2.2.symm);exact⟨o,c,rfl,BN hown,hB5⟩);exact absurd hx (BS HDD.out));clear hor hB5 HB4) | fail)
   obtain⟨a0,a1,a2,a3,a4⟩:=HC.out w5 HO5.out.2
   go_upto_region 6 with(first | (go_at_call 10;refine(HFO.out w5 HO5.out.2).mono ?_;rintro e w4 ⟨q1,q2,q3,q4,q5,d1,d2,d3,d4,d5,rfl,hp4,hb4,hB4⟩;have HB4:Hid (Bw w1 w4∧iR w4 (bJ w5.heap.size w4) p q1 q2 q3 q4 q5 d1 d2 d3 d4 d5 (eS a)∧Bw w5 w4):=⟨hB4,hp4,hb4⟩;clear hp4 hb4 hB4 a0 a1 a2 a3 a4) | (go_at_call 11;refine(HOL.out w4 _ q1 q2 q3 q4 q5 d1 d2 d3 d4 d5 HB4.out.2.1 HB4.out.1).mono ?_;rintro e w6 ⟨hb6,hor,hB6⟩;obtain⟨f6,nb,rfl,HO6⟩:∃(f:List UInt8→Nat) (nb:Nat),e=.returned (.tuple #[.slice (some ⟨nb,0,none⟩) N N,.nilIface])∧Hid (gV p.fs f∧bD w6 nb N (dP p f)∧Bw w1 w6∧Bw w5 w6):=(by rcases hor with⟨d',f,nb,_,hlt,rfl,_,hrow⟩ | ⟨t,x,hx,_⟩;(rw[←HNN.out] at hrow ⊢;exact⟨f,nb,rfl,hlt,hrow,hB6,HB4.out.2.2.trans (hb6.mono HB4.out.2.2.size)⟩);exact absurd hx (BS HDD.out));clear hor hB6 hb6 HB4) | fail)
   obtain⟨a0,a1,a2,a3,a4⟩:=HC.out w6 HO6.out.2.2.1
   go_upto_region 7 with(first | (go_at_call 12;refine(HOF.out w6 HO6.out.2.2.1).mono ?_;rintro e w6b ⟨hb6b,vw,fc,fn,rfl,hod⟩;obtain⟨ow,kw,rfl,rfl,rfl,hown⟩:=Ki HDD.out hod;have HOD:Hid (lQ w6b ow (cI d)∧Bw w6 w6b):=⟨BN hown,hb6b⟩;clear hod hb6b hown a0 a1 a2 a3 a4) | fail)
   obtain⟨w7,hw7⟩:∃w7,w7=w6b.alloc (.cells #[.int .i64 0,.int .i64 (-1)] 42):=⟨_,rfl⟩
   obtain⟨F,hF⟩:∃F,F=w6b.heap.size:=⟨_,rfl⟩
   have hr7:w7.heap[F]?=some (.cells #[.int .i64 0,.int .i64 (-1)] 42 (0,0)):=by rw[hw7,hF];exact heap_alloc_new _ _
   have hb7b:Bw w6b w7:=by rw[hw7];exact aH
   have hb7:Bw w6 w7:=HOD.out.2.trans (hb7b.mono HOD.out.2.size)
   have HB7:Hid (Bw w1 w7):=HO6.out.2.2.1.trans (hb7.mono HO6.out.2.2.1.size)
   have H7:Hid (w7.heap[F]?=some (.cells #[.int .i64 0,.int .i64 (-1)] 42 (0,0))∧lQ w7 o5x (cI d)∧lQ w7 ow (cI d)∧bD w7 nb N (dP p f6)):=⟨hr7,HO5.out.1.below (HO6.out.2.2.2.trans (hb7.mono HO6.out.2.2.2.size)),HOD.out.1.below hb7b,aG hb7 HO6.out.2.1⟩
   rw[←hw7,←hF]
   clear hw7 hF hr7 hb7 hb7b
   obtain⟨a0,a1,a2,a3,a4⟩:=HC.out w7 HB7.out
   go_upto_region 7 with fail
   have hS7:Bw w7 w7:=Below.refl _ _
   have hSd:Bw w7 w7.drew:=hS7.drew
   refine nG 6 (fun W=>Bw w7 W) (fun _=>True) (by kernel_rfl) hSd trivial (fun hHeld=>?_)
   refine tk 0 36 (.agg #[.slice o1 I c1,.slice o2 O c2,.slice o3 N c3,.slice o4 A c4,.slice o5 C c5]) rfl (Or.inl ⟨by kernel_rfl,?_⟩) hHeld ?_
   ·intro w hSw;obtain⟨s0,s1,s2,s3,s4⟩:=HC.out w (HB7.out.trans (hSw.mono HB7.out.size));clear hSw;go_simp
   try simp only[tp]
   refine tk 3 39 (.agg #[.slice o1 I c1,.slice o2 O c2,.slice o3 N c3,.slice o4 A c4,.slice o5 C c5]) rfl (Or.inl ⟨by kernel_rfl,?_⟩) hHeld ?_
   ·intro w hSw;obtain⟨s0,s1,s2,s3,s4⟩:=HC.out w (HB7.out.trans (hSw.mono HB7.out.size));clear hSw;go_simp
   try simp only[tp]
   refine j6 (rs:=[1]) (by kernel_rfl) (by simp) ?_
   refine dB.cons (o:=⟨some 37,_,_,_,_,_⟩) rfl (fun K hK=>?_) (dB.nil)
   refine lX rfl 10 #[(.agg #[.slice o1 I c1,.slice o2 O c2,.slice o3 N c3,.slice o4 A c4,.slice o5 C c5])] (by kernel_rfl) ?_
   refine(HFO.out _ (HB7.out.trans (hSd.mono HB7.out.size))).mono ?_
   rintro e w8 ⟨q1,q2,q3,q4,q5,d1,d2,d3,d4,d5,rfl,hp8,hb8,_⟩
   have hS8:Bw w7 w8:=hSd.trans (hb8.mono hSd.size)
   refine hK.out _ _ ⟨hS8,fun _=>trivial⟩ (fun hHeld=>?_)
   clear hK K
   try simp only[tp]
   refine j6 (rs:=[2]) (by kernel_rfl) (by simp) ?_
   refine dB.cons (o:=⟨some 38,_,_,_,_,_⟩) rfl (fun K hK=>?_) (dB.nil)
   refine lX rfl 14 #[(.agg #[.slice q1 I d1,.slice q2 O d2,.slice q3 N d3,.slice q4 A d4,.slice q5 C d5])] (by kernel_rfl) ?_
   refine(HOC.out _ _ q1 q2 q3 q4 q5 d1 d2 d3 d4 d5 hp8 (HB7.out.trans (hS8.mono HB7.out.size))).mono ?_
   rintro e w9 ⟨hb9,hck,_⟩
   obtain⟨vc,rfl⟩:=hck.ret
   have hS9:Bw w7 w9:=hS8.trans (hb9.mono hS8.size)
   refine hK.out _ _ ⟨hS9,fun _=>trivial⟩ (fun hHeld=>?_)
   clear hK K
   try simp only[tp]
   refine j6 (rs:=[4]) (by kernel_rfl) (by simp) ?_
   refine dB.cons (o:=⟨some 40,_,_,_,_,_⟩) rfl (fun K hK=>?_) (dB.nil)
   refine lX rfl 15 #[(.agg #[.slice o1 I c1,.slice o2 O c2,.slice o3 N c3,.slice o4 A c4,.slice o5 C c5])] (by kernel_rfl) ?_
   refine(HCO.out _ (HB7.out.trans (hS9.mono HB7.out.size))).mono ?_
   rintro e w10 ⟨hb10,cc,cn,rfl,hcd,_⟩
   have hS10:Bw w7 w10:=hS9.trans (hb10.mono hS9.size)
   refine hK.out _ _ ⟨hS10,fun _=>trivial⟩ (fun hHeld=>?_)
   clear hK K
   try simp only[tp]
   refine dY 5 (some 41) rfl fun K hK=>?_
   refine lX rfl 13 #[vc,.agg #[.int .i64 cc,.int .i64 cn]] (by kernel_rfl) ?_
   refine(Ej (HSE.out w9 (HB7.out.trans (hS9.mono HB7.out.size))) hck hcd _ hb10).mono ?_
   rintro e w11 ⟨rfl,hb11⟩
   have hS11:Bw w7 w11:=hS10.trans (hb11.mono hS10.size)
   refine hK.out _ _ ⟨hS11,fun _=>trivial⟩ (fun hHeld=>?_)
   clear hK K
   try simp only[tp]
   refine dY 6 (some 42) rfl fun K hK=>?_
   go_simp
   refine hK.out _ _ (Till.last hS11) (fun hHeld=>?_)
   clear hK K
   try simp only[tp]
   refine kH (by kernel_rfl) ?_ _
   clear hHeld
   have HSW:=aA hS11
   clear hS11 hb11 hS9 hS10 hS8 hck hcd hp8 hb8 hb9 hb10 hSd hS7
   obtain⟨a0,a1,a2,a3,a4⟩:=HC.out w11 (HB7.out.trans (HSW.out.mono HB7.out.size))
   have hr11:=aG HSW.out H7.out.1
   have e0:w11.cell? ⟨F,0,none⟩=some (.int .i64 0):=cr hr11 rfl
   have HI1:Hid (Calls Tryz.prog 16 #[.slice o5x d.length c5x,.slice ow d.length kw] w11 fun e w'=>e=.returned (.bool true)∧∃k,w'=w11.drewN k):=Bp w11 o5x ow d.length c5x kw (cI d) (H7.out.2.1.below HSW.out) (H7.out.2.2.1.below HSW.out) (by simp [cI]) (by have:=HN4.out.2;omega)
   have HI2:Hid (∀(W:World) (lb:Nat),Bw w7 W→bD W lb N (dP p f6)→Calls Tryz.prog 16 #[.slice (some ⟨nb,0,none⟩) N N,.slice (some ⟨lb,0,none⟩) N N] W fun e w'=>e=.returned (.bool true)∧∃k,w'=W.drewN k):=fun W lb hW hr=>Bp W _ _ N N N (iM N (dP p f6)) (show bD W nb N (dP p f6) from aG hW H7.out.2.2.2).intsO hr.intsO (by rw[kJ]) (by have:=HN4.out.1;omega)
   clear hr11 H7
   go_wp2_with (first | (go_at_call 16;first | (refine HI1.out.mono ?_;rintro e w12 ⟨rfl,k12,hk12⟩;clear HI1;have HB12:Hid (Bw w7 w12):=(by rw[hk12];exact iA HSW.out k12);clear hk12 a0 a1 a2 a3 a4 e0;obtain⟨a0,a1,a2,a3,a4⟩:=HC.out w12 (HB7.out.trans (HB12.out.mono HB7.out.size))) | (refine(HI2.out w13 lb13 HB13.out.1 HB13.out.2).mono ?_;rintro e w14 ⟨rfl,k14,hk14⟩;have HB14:Hid (Bw w7 w14):=(by rw[hk14];exact iA HB13.out.1 k14);clear hk14)) | (go_at_call 17;refine(HLF.out w12 (HB7.out.trans (HB12.out.mono HB7.out.size))).mono ?_;rintro e w13 ⟨f13,lb13,rfl,hlt13,hrow13,_,hb13⟩;obtain rfl:=hlt13.one HO6.out.1;have HB13:Hid (Bw w7 w13∧bD w13 lb13 N (dP p f13)):=⟨HB12.out.trans (hb13.mono HB12.out.size),hrow13⟩;clear hrow13 hb13) | fail)
   go_ret
   exact⟨rfl,HW.out w14 (HB7.out.trans (HB14.out.mono HB7.out.size))⟩
  ·have HNO:=aA hr
   clear hr
   go_upto_region 5 with(first | (go_at_call 10;refine(HFO.out w3 HB3.out).mono ?_;rintro e w4 ⟨q1,q2,q3,q4,q5,d1,d2,d3,d4,d5,rfl,hp4,hb4,hB4⟩;have HB4:Hid (Bw w1 w4∧iR w4 (bJ w3.heap.size w4) p q1 q2 q3 q4 q5 d1 d2 d3 d4 d5 (eS a)):=⟨hB4,hp4⟩;clear hp4 hb4 hB4 a0 a1 a2 a3 a4) | (go_at_call 9;refine(HOO.out w4 _ q1 q2 q3 q4 q5 d1 d2 d3 d4 d5 HB4.out.2 HB4.out.1).mono ?_;rintro e w5 ⟨_,hor,hB5⟩;obtain⟨t5,x5,rfl,HO5⟩:∃t x,e=.returned (.tuple #[.slice none 0 0,.iface t x])∧Hid (j4 p (eS a) w5 t x∧Bw w1 w5):=(by rcases hor with⟨d,_,_,hd,_⟩ | ⟨t,x,hx,rfl⟩;exact absurd ⟨d,hd⟩ HNO.out;exact⟨t,x,rfl,hx,hB5⟩);clear hor hB5 HB4) | fail)
   obtain⟨a0,a1,a2,a3,a4⟩:=HC.out w5 HO5.out.2
   go_upto_region 6 with(first | (go_at_call 10;refine(HFO.out w5 HO5.out.2).mono ?_;rintro e w4 ⟨q1,q2,q3,q4,q5,d1,d2,d3,d4,d5,rfl,hp4,hb4,hB4⟩;have HB4:Hid (Bw w1 w4∧iR w4 (bJ w5.heap.size w4) p q1 q2 q3 q4 q5 d1 d2 d3 d4 d5 (eS a)∧Bw w5 w4):=⟨hB4,hp4,hb4⟩;clear hp4 hb4 hB4 a0 a1 a2 a3 a4) | (go_at_call 11;refine(HOL.out w4 _ q1 q2 q3 q4 q5 d1 d2 d3 d4 d5 HB4.out.2.1 HB4.out.1).mono ?_;rintro e w6 ⟨hb6,hor,hB6⟩;obtain⟨t6,x6,rfl,HO6⟩:∃t x,e=.returned (.tuple #[.slice none 0 0,.iface t x])∧Hid (j4 p (eS a) w6 t x∧Bw w1 w6∧Bw w5 w6):=(by rcases hor with⟨d,f,nb,hd,_⟩ | ⟨t,x,hx,rfl⟩;exact absurd ⟨d,hd⟩ HNO.out;exact⟨t,x,rfl,hx,hB6,HB4.out.2.2.trans (hb6.mono HB4.out.2.2.size)⟩);clear hor hB6 hb6 HB4) | fail)
   obtain⟨a0,a1,a2,a3,a4⟩:=HC.out w6 HO6.out.2.1
   go_upto_region 7 with(first | (go_at_call 12;refine(HOF.out w6 HO6.out.2.1).mono ?_;rintro e w6b ⟨hb6b,vw,fc,fn,rfl,hod⟩;have HOD:Hid (qE p w6.heap.size w6b vw fc fn∧Bw w6 w6b):=⟨hod,hb6b⟩;clear hod hb6b a0 a1 a2 a3 a4) | fail)
   obtain⟨w7,hw7⟩:∃w7,w7=w6b.alloc (.cells #[.int .i64 fc,.int .i64 fn] 42):=⟨_,rfl⟩
   obtain⟨F,hF⟩:∃F,F=w6b.heap.size:=⟨_,rfl⟩
   have hr7:w7.heap[F]?=some (.cells #[.int .i64 fc,.int .i64 fn] 42 (0,0)):=by rw[hw7,hF];exact heap_alloc_new _ _
   have hb7:Bw w6 w7:=by rw[hw7];exact HOD.out.2.alloc HOD.out.2.size _
   have HB7:Hid (Bw w1 w7):=HO6.out.2.1.trans (hb7.mono HO6.out.2.1.size)
   have H7:Hid (w7.heap[F]?=some (.cells #[.int .i64 fc,.int .i64 fn] 42 (0,0))∧Bw w6 w7):=⟨hr7,hb7⟩
   have m5:=Ca (HSE.out w5 HO5.out.2) HO5.out.1 HOD.out.1
   have m6:=Ca (HSE.out w6 HO6.out.2.1) HO6.out.1 HOD.out.1
   have HFT:Hid (kU (.iface t5 x5) fc fn w7∧kU (.iface t6 x6) fc fn w7∧0<fc):=⟨m5.1.below (HO6.out.2.2.trans (hb7.mono HO6.out.2.2.size)),m6.1.below hb7,m6.2.1⟩
   rw[←hw7,←hF]
   clear hw7 hF hr7 hb7 m5 m6
   obtain⟨a0,a1,a2,a3,a4⟩:=HC.out w7 HB7.out
   go_upto_region 7 with fail
   have hS7:Bw w7 w7:=Below.refl _ _
   have hSd:Bw w7 w7.drew:=hS7.drew
   refine nG 6 (fun W=>Bw w7 W) (fun _=>True) (by kernel_rfl) hSd trivial (fun hHeld=>?_)
   refine tk 0 36 (.agg #[.slice o1 I c1,.slice o2 O c2,.slice o3 N c3,.slice o4 A c4,.slice o5 C c5]) rfl (Or.inl ⟨by kernel_rfl,?_⟩) hHeld ?_
   ·intro w hSw;obtain⟨s0,s1,s2,s3,s4⟩:=HC.out w (HB7.out.trans (hSw.mono HB7.out.size));clear hSw;go_simp
   try simp only[tp]
   refine tk 3 39 (.agg #[.slice o1 I c1,.slice o2 O c2,.slice o3 N c3,.slice o4 A c4,.slice o5 C c5]) rfl (Or.inl ⟨by kernel_rfl,?_⟩) hHeld ?_
   ·intro w hSw;obtain⟨s0,s1,s2,s3,s4⟩:=HC.out w (HB7.out.trans (hSw.mono HB7.out.size));clear hSw;go_simp
   try simp only[tp]
   refine j6 (rs:=[1]) (by kernel_rfl) (by simp) ?_
   refine dB.cons (o:=⟨some 37,_,_,_,_,_⟩) rfl (fun K hK=>?_) (dB.nil)
   refine lX rfl 10 #[(.agg #[.slice o1 I c1,.slice o2 O c2,.slice o3 N c3,.slice o4 A c4,.slice o5 C c5])] (by kernel_rfl) ?_
   refine(HFO.out _ (HB7.out.trans (hSd.mono HB7.out.size))).mono ?_
   rintro e w8 ⟨q1,q2,q3,q4,q5,d1,d2,d3,d4,d5,rfl,hp8,hb8,_⟩
   have hS8:Bw w7 w8:=hSd.trans (hb8.mono hSd.size)
   refine hK.out _ _ ⟨hS8,fun _=>trivial⟩ (fun hHeld=>?_)
   clear hK K
   try simp only[tp]
   refine j6 (rs:=[2]) (by kernel_rfl) (by simp) ?_
   refine dB.cons (o:=⟨some 38,_,_,_,_,_⟩) rfl (fun K hK=>?_) (dB.nil)
   refine lX rfl 14 #[(.agg #[.slice q1 I d1,.slice q2 O d2,.slice q3 N d3,.slice q4 A d4,.slice q5 C d5])] (by kernel_rfl) ?_
   refine(HOC.out _ _ q1 q2 q3 q4 q5 d1 d2 d3 d4 d5 hp8 (HB7.out.trans (hS8.mono HB7.out.size))).mono ?_
   rintro e w9 ⟨hb9,hck,_⟩
   obtain⟨vc,rfl⟩:=hck.ret
   have hS9:Bw w7 w9:=hS8.trans (hb9.mono hS8.size)
   refine hK.out _ _ ⟨hS9,fun _=>trivial⟩ (fun hHeld=>?_)
   clear hK K
   try simp only[tp]
   refine j6 (rs:=[4]) (by kernel_rfl) (by simp) ?_
   refine dB.cons (o:=⟨some 40,_,_,_,_,_⟩) rfl (fun K hK=>?_) (dB.nil)
   refine lX rfl 15 #[(.agg #[.slice o1 I c1,.slice o2 O c2,.slice o3 N c3,.slice o4 A c4,.slice o5 C c5])] (by kernel_rfl) ?_
   refine(HCO.out _ (HB7.out.trans (hS9.mono HB7.out.size))).mono ?_
   rintro e w10 ⟨hb10,cc,cn,rfl,hcd,_⟩
   have hS10:Bw w7 w10:=hS9.trans (hb10.mono hS9.size)
   refine hK.out _ _ ⟨hS10,fun _=>trivial⟩ (fun hHeld=>?_)
   clear hK K
   try simp only[tp]
   refine dY 5 (some 41) rfl fun K hK=>?_
   refine lX rfl 13 #[vc,.agg #[.int .i64 cc,.int .i64 cn]] (by kernel_rfl) ?_
   refine(Ej (HSE.out w9 (HB7.out.trans (hS9.mono HB7.out.size))) hck hcd _ hb10).mono ?_
   rintro e w11 ⟨rfl,hb11⟩
   have hS11:Bw w7 w11:=hS10.trans (hb11.mono hS10.size)
   refine hK.out _ _ ⟨hS11,fun _=>trivial⟩ (fun hHeld=>?_)
   clear hK K
   try simp only[tp]
   refine dY 6 (some 42) rfl fun K hK=>?_
   go_simp
   refine hK.out _ _ (Till.last hS11) (fun hHeld=>?_)
   clear hK K
   try simp only[tp]
   refine kH (by kernel_rfl) ?_ _
   clear hHeld
   have HSW:=aA hS11
   clear hS11 hb11 hS9 hS10 hS8 hck hcd hp8 hb8 hb9 hb10 hSd hS7
   obtain⟨a0,a1,a2,a3,a4⟩:=HC.out w11 (HB7.out.trans (HSW.out.mono HB7.out.size))
   have hr11:=aG HSW.out H7.out.1
   have e0:w11.cell? ⟨F,0,none⟩=some (.int .i64 fc):=cr hr11 rfl
   have e1:w11.cell? ⟨F,0+1,none⟩=some (.int .i64 fn):=cr hr11 rfl
   have hfc:=HFT.out.2.2
   have HA5:Hid (∀W',Bw w7 W'→Calls Tryz.prog 13 #[.iface t5 x5,.agg #[.int .i64 fc,.int .i64 fn]] W' fun e w'=>e=.returned (.bool true)∧Below W'.heap.size W' w'):=HFT.out.1
   have HA6:Hid (∀W',Bw w7 W'→Calls Tryz.prog 13 #[.iface t6 x6,.agg #[.int .i64 fc,.int .i64 fn]] W' fun e w'=>e=.returned (.bool true)∧Below W'.heap.size W' w'):=HFT.out.2.1
   clear HFT H7
   go_wp2_with (first | (go_at_call 13;first | (refine(HA5.out w11 HSW.out).mono ?_;rintro e w12 ⟨rfl,hb12⟩;clear HA5;have HB12:Hid (Bw w7 w12∧Bw w11 w12):=⟨HSW.out.trans (hb12.mono HSW.out.size),hb12⟩;clear hb12 a0 a1 a2 a3 a4;have e0:w12.cell? ⟨F,0,none⟩=some (.int .i64 fc):=aF HB12.out.2 e0;have e1:w12.cell? ⟨F,0+1,none⟩=some (.int .i64 fn):=aF HB12.out.2 e1) | (refine(HA6.out w12 HB12.out.1).mono ?_;rintro e w13 ⟨rfl,hb13⟩;have HB13:Hid (Bw w7 w13):=HB12.out.1.trans (hb13.mono HB12.out.1.size);clear hb13)) | fail)
   go_ret
   exact⟨rfl,HW.out w13 (HB7.out.trans (HB13.out.mono HB7.out.size))⟩
end Go.Proofs.YtmgfakcccfahaaaGreatDoor
