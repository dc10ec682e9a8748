/-
  lustrumlaw2.FlowNil walked.
-/
import Derived.Test.YtmgfakcccfahaaaGreatDoorN50
namespace Go.Proofs.YtmgfakcccfahaaaGreatDoor
open Go.RowKit
set_option maxRecDepth 100000
set_option maxHeartbeats 1000000

theorem LQ{p:Pg}(h:nZ p=false)(ho:p.outs.length≤2097152)(hs:dR (aI p))(hn:∀v∈aT p,v.1.size≤maxLen)(hon:∀e∈p.outs,e.op.size≤maxLen):nN p:=by
 unfold nZ at h
 rw[Bool.or_eq_false_iff,Bool.or_eq_false_iff] at h
 have h1:=of_decide_eq_false h.1.1
 have h2:=of_decide_eq_false h.1.2
 have h3:=of_decide_eq_false h.2
 have h4:=zA (aI p)
 have h5:=zB (aI p)
 have h6:(aI p).length=p.fs.length+(p.asserts.length+p.checks.length):=by
  unfold aI
  rw[List.length_append,List.length_append,List.length_map]
 exact⟨by omega,ho,by omega,by omega,hs,hn,hon⟩
theorem tH.out{p:Pg}{E:fD}{nb:Bool}{nn:Int}{ins:List (List (Int×Int))}{e:Ending}{w:World}(h:tH p E nb nn ins e w):∃(o:Option Addr) (n c:Nat) (r:Value),e=.returned (.tuple #[.slice o n c,r]):=by
 rcases h with⟨t,x,_,rfl⟩ | ⟨d,f,_,⟨_,rfl⟩ | ⟨_,_,ts,qs,_,_,_,_,⟨k,l,b,_,_,_,rfl,_⟩ | ⟨_,tks,o,c,_,rfl,_⟩⟩⟩
 ·exact⟨_,_,_,_,rfl⟩
 ·exact⟨_,_,_,_,rfl⟩
 ·exact⟨_,_,_,_,rfl⟩
 ·exact⟨_,_,_,_,rfl⟩
theorem QD{n:Int}(h1:¬n < -128)(h2:¬127<n):cB n=n:=by
 unfold cB
 omega
theorem Pn{w:World}{base:Nat}{p:Pg}{o1 o2 o3 o4 o5:Option Addr}{c1 c2 c3 c4 c5:Nat}{E:fD}(h:iY w (dA base w) p (.slice o1 p.ins.length c1) (.slice o2 p.outs.length c2) (.slice o3 p.fs.length c3) (.slice o4 p.asserts.length c4) (.slice o5 p.checks.length c5))(hn:p.ins.length=0→o1=none∧c1=0)(hk:nN p)(he:tL w E):lQ w (dA base w) p o1 o2 o3 o4 o5 c1 c2 c3 c4 c5 E:=
 ⟨h,fun b hb _=>hb.2,fun b hb=>by obtain⟨cs,t,hc⟩:=hb.2;exact(bN hc).1,hn,hk,he.e3,he.wD,he.fst⟩
structure Rl(w:World)(S:Nat→Prop)(p:Pg)(o1 o2 o3 o4 o5:Option Addr)(c1 c2 c3 c4 c5:Nat)(E:fD)(o:Option Addr)(m c:Nat)(ll:List (List (Int×Int))):Prop where
 pg:iY w S p (.slice o1 p.ins.length c1) (.slice o2 p.outs.length c2) (.slice o3 p.fs.length c3) (.slice o4 p.asserts.length c4) (.slice o5 p.checks.length c5)
 er:tL w E
 ins:nQ w (.slice o m c) ll
 len:m=ll.length
 few:p.ins.length≤2097152∧p.outs.length≤2097152∧p.fs.length≤2097152∧p.asserts.length≤2097152∧p.checks.length≤2097152
 fit:Fit 2199023255552 (aI p)
 JH:(aI p).length≤2097152
 wt:dB (aI p)≤1152921504606846976
 sm:dR (aI p)
 nm:∀v∈aT p,v.1.size≤maxLen
 on:∀e∈p.outs,e.op.size≤maxLen
theorem Pk(w:World)(S:Nat→Prop)(p:Pg)(o1 o2 o3 o4 o5:Option Addr)(c1 c2 c3 c4 c5:Nat)(E:fD)(o:Option Addr)(m c:Nat)(ll:List (List (Int×Int)))(h:Rl w S p o1 o2 o3 o4 o5 c1 c2 c3 c4 c5 E o m c ll)(nl ls:Int) :
  Calls Tryz.prog 5 #[.agg #[.slice o1 p.ins.length c1,.slice o2 p.outs.length c2,.slice o3 p.fs.length c3,.slice o4 p.asserts.length c4,.slice o5 p.checks.length c5],.slice o m c,.int .i64 nl,.int .i64 ls] w fun e w'=>e=.returned (.bool true)∧Bw w w':=by
 obtain⟨w1,hw1⟩:∃w1,w1=w.alloc (.cells #[.slice o1 p.ins.length c1,.slice o2 p.outs.length c2,.slice o3 p.fs.length c3,.slice o4 p.asserts.length c4,.slice o5 p.checks.length c5] 27):=⟨_,rfl⟩
 obtain⟨B,hB⟩:∃B,B=w.heap.size:=⟨_,rfl⟩
 have hb1:Bw w w1:=by rw[hw1];exact aH
 have hr1:w1.heap[B]?=some (.cells #[.slice o1 p.ins.length c1,.slice o2 p.outs.length c2,.slice o3 p.fs.length c3,.slice o4 p.asserts.length c4,.slice o5 p.checks.length c5] 27 (0,0)):=by rw[hw1,hB];exact heap_alloc_new _ _
 have HB1:=aA hb1
 have HC:Hid (∀W,Bw w1 W→W.cell? ⟨B,0,none⟩=some (.slice o1 p.ins.length c1)∧W.cell? ⟨B,0+1,none⟩=some (.slice o2 p.outs.length c2)∧W.cell? ⟨B,0+2,none⟩=some (.slice o3 p.fs.length c3)∧W.cell? ⟨B,0+3,none⟩=some (.slice o4 p.asserts.length c4)∧W.cell? ⟨B,0+4,none⟩=some (.slice o5 p.checks.length c5)):=fun W hW=>by
  have hr:=aN hW hr1
  refine⟨?_,?_,?_,?_,?_⟩<;>(rw[cell_of_row W _ _ _ _ (0,0) hr];rfl)
 have HW:Hid (∀W,Bw w1 W→Bw w W):=fun W hW=>hb1.trans (hW.mono hb1.size)
 have HON:Hid (Calls Tryz.prog 18 #[] w1 fun e w'=>e=.returned (.bool true)∧Bw w1 w'):=M5 w1 E (h.er.keep hb1)
 have HPW:Hid (∀W,Bw w1 W→iY W (fun _=>True) p (.slice o1 p.ins.length c1) (.slice o2 p.outs.length c2) (.slice o3 p.fs.length c3) (.slice o4 p.asserts.length c4) (.slice o5 p.checks.length c5)):=fun W hW=>h.pg.keep (fun b _ hl=>⟨trivial,(HW.out W hW).block b hl⟩)
 have HHV:Hid (∀W,Bw w1 W→Calls Tryz.prog 8 #[.agg #[.slice o1 p.ins.length c1,.slice o2 p.outs.length c2,.slice o3 p.fs.length c3,.slice o4 p.asserts.length c4,.slice o5 p.checks.length c5]] W fun e w'=>e=.returned (.int .i64 (if nZ p=true then 1 else 0))∧Bw W w'):=fun W hW=>O4 W _ p o1 o2 o3 o4 o5 c1 c2 c3 c4 c5 (HPW.out W hW) h.JH h.wt
 have HIW:Hid (∀W,Bw w1 W→nQ W (.slice o m c) ll):=fun W hW=>h.ins.keep (HW.out W hW)
 have HLN:Hid (∀W,Bw w1 W→Calls Tryz.prog 19 #[.slice o m c] W fun e w'=>e=.returned (.int .i64 (if jH ll=true then 1 else 0))∧Bw W w'):=fun W hW=>NI W o m c ll h.len (HIW.out W hW).at
 have HFO:Hid (nZ p=false→∀W,Bw w1 W→Calls Tryz.prog 10 #[.agg #[.slice o1 p.ins.length c1,.slice o2 p.outs.length c2,.slice o3 p.fs.length c3,.slice o4 p.asserts.length c4,.slice o5 p.checks.length c5]] W fun e w'=>∃q1 q2 q3 q4 q5 d1 d2 d3 d4 d5,e=.returned (.agg #[.slice q1 p.ins.length d1,.slice q2 p.outs.length d2,.slice q3 p.fs.length d3,.slice q4 p.asserts.length d4,.slice q5 p.checks.length d5])∧lQ w' (dA W.heap.size w') p q1 q2 q3 q4 q5 d1 d2 d3 d4 d5 E∧Bw W w'):=fun hh W hW=>by
  refine(Po W _ p o1 o2 o3 o4 o5 c1 c2 c3 c4 c5 (HPW.out W hW) h.few h.fit).mono ?_
  rintro e w' ⟨q1,q2,q3,q4,q5,d1,d2,d3,d4,d5,rfl,hp,hz,hb⟩
  exact⟨q1,q2,q3,q4,q5,d1,d2,d3,d4,d5,rfl,Pn hp hz (LQ hh h.few.2.1 h.sm h.nm h.on) ((h.er.keep (HW.out W hW)).keep hb),hb⟩
 have HL:Hid (m=ll.length):=h.len
 have HIN:Hid (jH ll=false→∀(k:Nat) W,k≤m→Bw w1 W→Calls Tryz.prog 21 #[.slice o k c] W fun e w'=>∃so sc,e=.returned (.slice so k sc)∧mF w' (.slice so k sc) (ll.take k)∧Bw W w'):=fun hh k W hk hW=>by
  obtain⟨h1,h2⟩:=NM hh
  have hkl:k≤ll.length:=by have:=h.len;omega
  refine OW W o k c (ll.take k) (by rw[List.length_take];omega) ((HIW.out W hW).take hkl) (fun l hl=>h1 l (List.mem_of_mem_take hl)) (by omega)
 have HRU:Hid (∀(W:World) (F:Nat→Prop) (q1 q2 q3 q4 q5:Option Addr) (d1 d2 d3 d4 d5:Nat),lQ W F p q1 q2 q3 q4 q5 d1 d2 d3 d4 d5 E→∀(nb:Bool) (nn:Int) (so:Option Addr) (k sc:Nat),k≤m→mF W (.slice so k sc) (ll.take k)→Calls Tryz.prog 20 #[.agg #[.slice q1 p.ins.length d1,.slice q2 p.outs.length d2,.slice q3 p.fs.length d3,.slice q4 p.asserts.length d4,.slice q5 p.checks.length d5],.slice so k sc,.bool nb,.int .i64 nn] W fun e w'=>Bw W w'∧∃(a:Option Addr) (n d:Nat) (r:Value),e=.returned (.tuple #[.slice a n d,r])∧tH p E nb nn (ll.take k) (.returned (.tuple #[.slice a n d,r])) w'):=fun W F q1 q2 q3 q4 q5 d1 d2 d3 d4 d5 hp nb nn so k sc hk hi=>by
  refine(DX W F p q1 q2 q3 q4 q5 d1 d2 d3 d4 d5 E hp nb nn so k sc (ll.take k) (by rw[List.length_take];have:=HL.out;omega) hi).mono ?_
  rintro e w' ⟨hb,hr⟩
  obtain⟨a,n,d,r,rfl⟩:=hr.out
  exact⟨hb,a,n,d,r,rfl,hr⟩
 have HW1:Hid (w.alloc (.cells #[.slice o1 p.ins.length c1,.slice o2 p.outs.length c2,.slice o3 p.fs.length c3,.slice o4 p.asserts.length c4,.slice o5 p.checks.length c5] 27)=w1∧w.heap.size=B):=⟨hw1.symm,hB.symm⟩
 clear h hw1 hB hb1 hr1
 go_enter Tryz.func5,Tryz.ntmps5
 go_upto_region 1 with fail
 rw[HW1.out.1,HW1.out.2]
 go_upto_region 2 with(go_at_call 18;refine HON.out.mono ?_;rintro e w2 ⟨rfl,hb2⟩)
 have HB2:=aA hb2
 obtain⟨a0,a1,a2,a3,a4⟩:=HC.out w2 HB2.out
 clear hb2
 by_cases hhv:nZ p=true
 ·have HVC:Hid (Calls Tryz.prog 8 #[.agg #[.slice o1 p.ins.length c1,.slice o2 p.outs.length c2,.slice o3 p.fs.length c3,.slice o4 p.asserts.length c4,.slice o5 p.checks.length c5]] w2 fun e w'=>e=.returned (.int .i64 1)∧Bw w2 w'):=by
   have:=HHV.out w2 HB2.out
   rw[if_pos hhv] at this
   exact this
  clear hhv
  go_wp2_with (go_at_call 8;refine HVC.out.mono ?_;rintro e w3 ⟨rfl,hb3⟩;have HB3:Hid (Bw w1 w3):=HB2.out.trans (hb3.mono HB2.out.size);clear hb3)
  go_ret
  exact⟨rfl,HW.out w3 HB3.out⟩
 have hhf:nZ p=false:=by simpa using hhv
 have HVC:Hid (Calls Tryz.prog 8 #[.agg #[.slice o1 p.ins.length c1,.slice o2 p.outs.length c2,.slice o3 p.fs.length c3,.slice o4 p.asserts.length c4,.slice o5 p.checks.length c5]] w2 fun e w'=>e=.returned (.int .i64 0)∧Bw w2 w'):=by
  have:=HHV.out w2 HB2.out
  rw[if_neg hhv] at this
  exact this
 have HFF:=aA hhf
 clear hhv hhf HHV
 by_cases hln:jH ll=true
 ·have HLC:Hid (∀W,Bw w1 W→Calls Tryz.prog 19 #[.slice o m c] W fun e w'=>e=.returned (.int .i64 1)∧Bw W w'):=fun W hW=>by
   have:=HLN.out W hW
   rw[if_pos hln] at this
   exact this
  clear hln HLN
  go_wp2_with (first | (go_at_call 8;refine HVC.out.mono ?_;rintro e w3 ⟨rfl,hb3⟩;have HB3:Hid (Bw w1 w3):=HB2.out.trans (hb3.mono HB2.out.size);clear hb3) | (go_at_call 19;refine(HLC.out w3 HB3.out).mono ?_;rintro e w4 ⟨rfl,hb4⟩;have HB4:Hid (Bw w1 w4):=HB3.out.trans (hb4.mono HB3.out.size);clear hb4))
  go_ret
  exact⟨rfl,HW.out w4 HB4.out⟩
 have HLC:Hid (∀W,Bw w1 W→Calls Tryz.prog 19 #[.slice o m c] W fun e w'=>e=.returned (.int .i64 0)∧Bw W w'):=fun W hW=>by
  have:=HLN.out W hW
  rw[if_neg hln] at this
  exact this
 have HLF:Hid (jH ll=false):=by unfold Hid;simpa using hln
 clear hln HLN
 by_cases g1:nl < -128
 ·go_wp2_with (first | (go_at_call 8;refine HVC.out.mono ?_;rintro e w3 ⟨rfl,hb3⟩;have HB3:Hid (Bw w1 w3):=HB2.out.trans (hb3.mono HB2.out.size);clear hb3) | (go_at_call 19;refine(HLC.out w3 HB3.out).mono ?_;rintro e w4 ⟨rfl,hb4⟩;have HB4:Hid (Bw w1 w4):=HB3.out.trans (hb4.mono HB3.out.size);clear hb4))
  go_ret
  exact⟨rfl,HW.out w4 HB4.out⟩
 by_cases g2:127<nl
 ·go_wp2_with (first | (go_at_call 8;refine HVC.out.mono ?_;rintro e w3 ⟨rfl,hb3⟩;have HB3:Hid (Bw w1 w3):=HB2.out.trans (hb3.mono HB2.out.size);clear hb3) | (go_at_call 19;refine(HLC.out w3 HB3.out).mono ?_;rintro e w4 ⟨rfl,hb4⟩;have HB4:Hid (Bw w1 w4):=HB3.out.trans (hb4.mono HB3.out.size);clear hb4))
  go_ret
  exact⟨rfl,HW.out w4 HB4.out⟩
 have HNL:Hid ((nl==cB nl)=true):=by
  unfold Hid
  rw[QD g1 g2]
  exact beq_self_eq_true nl
 go_upto_region 4 with(first | (go_at_call 8;refine HVC.out.mono ?_;rintro e w3 ⟨rfl,hb3⟩;have HB3:Hid (Bw w1 w3):=HB2.out.trans (hb3.mono HB2.out.size);clear hb3) | (go_at_call 19;refine(HLC.out w3 HB3.out).mono ?_;rintro e w4 ⟨rfl,hb4⟩;have HB4:Hid (Bw w1 w4):=HB3.out.trans (hb4.mono HB3.out.size);clear hb4))
 clear a0 a1 a2 a3 a4 HVC HLC HB2 HB3
 clear g1 g2
 obtain⟨a0,a1,a2,a3,a4⟩:=HC.out w4 HB4.out
 have HF4:Hid (∀W,Bw w1 W→Calls Tryz.prog 10 #[.agg #[.slice o1 p.ins.length c1,.slice o2 p.outs.length c2,.slice o3 p.fs.length c3,.slice o4 p.asserts.length c4,.slice o5 p.checks.length c5]] W fun e w'=>∃q1 q2 q3 q4 q5 d1 d2 d3 d4 d5,e=.returned (.agg #[.slice q1 p.ins.length d1,.slice q2 p.outs.length d2,.slice q3 p.fs.length d3,.slice q4 p.asserts.length d4,.slice q5 p.checks.length d5])∧lQ w' (dA W.heap.size w') p q1 q2 q3 q4 q5 d1 d2 d3 d4 d5 E∧Bw W w'):=HFO.out HFF.out
 have HI4:Hid (∀(k:Nat) W,k≤m→Bw w1 W→Calls Tryz.prog 21 #[.slice o k c] W fun e w'=>∃so sc,e=.returned (.slice so k sc)∧mF w' (.slice so k sc) (ll.take k)∧Bw W w'):=HIN.out HLF.out
 clear HFO HIN
 go_upto_region 5 with(first | (go_at_call 10;refine(HF4.out w4 HB4.out).mono ?_;rintro e w5 ⟨q1_5,q2_5,q3_5,q4_5,q5_5,d1_5,d2_5,d3_5,d4_5,d5_5,rfl,hg5,hb5⟩;have HG5:=aA hg5;have HB5:Hid (Bw w1 w5):=HB4.out.trans (hb5.mono HB4.out.size);clear hg5 hb5) | (go_at_call 21;refine(HI4.out _ w5 (Nat.le_refl _) HB5.out).mono ?_;rintro e w6 ⟨so6,sc6,rfl,hi6,hb6⟩;have HG6:=HG5.out.keep hb6;have HI6:=aA hi6;have HB6:Hid (Bw w1 w6):=HB5.out.trans (hb6.mono HB5.out.size);clear hi6 hb6 HG5) | (go_at_call 20;refine(HRU.out _ _ _ _ _ _ _ _ _ _ _ _ HG6 false 0 _ _ _ (Nat.le_refl _) HI6.out).mono ?_;rintro e w7 ⟨hb7,xa,na,da,ra,rfl,hr7⟩;have HRA:=aA hr7;have HB7:Hid (Bw w1 w7):=HB6.out.trans (hb7.mono HB6.out.size);clear hr7 hb7 HG6 HI6;obtain⟨a0,a1,a2,a3,a4⟩:=HC.out w7 HB7.out))
 have HD7:Hid (Bw w7 w7):=Below.refl _ _
 go_upto_region 6 with(first | (go_at_call 10;refine(HF4.out w7 HB7.out).mono ?_;rintro e w8 ⟨q1_8,q2_8,q3_8,q4_8,q5_8,d1_8,d2_8,d3_8,d4_8,d5_8,rfl,hg8,hb8⟩;have HG8:=aA hg8;have HB8:Hid (Bw w1 w8):=HB7.out.trans (hb8.mono HB7.out.size);have HD8:Hid (Bw w7 w8):=HD7.out.trans (hb8.mono HD7.out.size);clear hg8 hb8) | (go_at_call 21;refine(HI4.out _ w8 (Nat.le_refl _) HB8.out).mono ?_;rintro e w9 ⟨so9,sc9,rfl,hi9,hb9⟩;have HG9:=HG8.out.keep hb9;have HI9:=aA hi9;have HB9:Hid (Bw w1 w9):=HB8.out.trans (hb9.mono HB8.out.size);have HD9:Hid (Bw w7 w9):=HD8.out.trans (hb9.mono HD8.out.size);clear hi9 hb9 HG8) | (go_at_call 20;refine(HRU.out _ _ _ _ _ _ _ _ _ _ _ _ HG9 true nl _ _ _ (Nat.le_refl _) HI9.out).mono ?_;rintro e w10 ⟨hb10,xb,nb,db,rb,rfl,hr10⟩;have HRB:=aA hr10;have HB10:Hid (Bw w1 w10):=HB9.out.trans (hb10.mono HB9.out.size);have HD10:Hid (Bw w7 w10):=HD9.out.trans (hb10.mono HD9.out.size);clear hr10 hb10 HG9 HI9;obtain⟨a0,a1,a2,a3,a4⟩:=HC.out w10 HB10.out))
 rcases DY (List.append_nil (ll.take m)).symm (.inl rfl) (show ((0:Int)==cB 0)=true from rfl) HNL.out HRA.out HRB.out with⟨t,x,t',x',e1,e2⟩ | ⟨q,ts',t,t',oo,cc,oo',cc',hp,hq,hp',hq',hf,hl3,hr1,hr2,e1,htA,e2,htB⟩
 ·obtain⟨⟨rfl,rfl,rfl⟩,rfl⟩:(xa=none∧na=0∧da=0)∧ra=.iface t x:=by simpa using e1
  obtain⟨⟨rfl,rfl,rfl⟩,rfl⟩:(xb=none∧nb=0∧db=0)∧rb=.iface t' x':=by simpa using e2
  clear e1 e2
  go_wp2
  go_ret
  exact⟨rfl,HW.out w10 HB10.out⟩
 obtain⟨⟨rfl,rfl,rfl⟩,rfl⟩:(xa=oo∧na=t.length∧da=cc)∧ra=.nilIface:=by simpa using e1
 obtain⟨⟨rfl,rfl,rfl⟩,rfl⟩:(xb=oo'∧nb=t'.length∧db=cc')∧rb=.nilIface:=by simpa using e2
 obtain rfl:t=t':=Qn hp hq hp' hq' hf hr1 hr2
 have htl:t.length≤400:=by have:=hr1.len;omega
 obtain⟨n,hn⟩:∃n,n=t.length:=⟨_,rfl⟩
 rw[←hn] at htA htB ⊢
 have HTT:Hid (∀W,Bw w10 W→eU W (.slice xa n da) t∧eU W (.slice xb n db) t):=fun W hW=>⟨(htA.keep HD10.out).keep hW,htB.keep hW⟩
 have HTN:Hid (n=t.length∧n≤400):=⟨hn,by omega⟩
 rw[←hn] at HRA
 clear e1 e2 hp hq hp' hq' hf hl3 hr1 hr2 htA htB htl hn HRB HD8 HD9 HD7
 have HQA:Hid (Calls Tryz.prog 24 #[.slice xa n da] w10 fun e w'=>∃so sc,e=.returned (.slice so n sc)∧eU w' (.slice so n sc) t∧Bw w10 w'):=y7 w10 xa n da t HTN.out.1 (HTT.out w10 (Below.refl _ _)).1 HTN.out.2
 have HQB:Hid (∀W,Bw w10 W→Calls Tryz.prog 24 #[.slice xb n db] W fun e w'=>∃so sc,e=.returned (.slice so n sc)∧eU w' (.slice so n sc) t∧Bw W w'):=fun W hW=>y7 W xb n db t HTN.out.1 (HTT.out W hW).2 HTN.out.2
 have HSM:Hid (∀(W:World) (ya yb:Option Addr) (dya dyb:Nat),eU W (.slice ya n dya) t→eU W (.slice yb n dyb) t→Calls Tryz.prog 23 #[.slice ya n dya,.slice yb n dyb] W fun e w'=>e=.returned (.bool true)∧Bw W w'):=fun W ya yb dya dyb h1 h2=>DV W ya yb n dya dyb t HTN.out.1 h1 h2
 go_upto_region 10 with(first
  | (go_at_call 24;refine HQA.out.mono ?_;rintro e w11 ⟨ya,dya,rfl,ht11,hb11⟩;have HT11:Hid (eU w11 (.slice ya n dya) t∧Bw w10 w11):=⟨ht11,hb11⟩;clear ht11 hb11 HQA)
  | (go_at_call 24;refine(HQB.out w11 HT11.out.2).mono ?_;rintro e w12 ⟨yb,dyb,rfl,ht12,hb12⟩;have HT12:Hid (eU w12 (.slice ya n dya) t∧eU w12 (.slice yb n dyb) t∧Bw w10 w12):=⟨HT11.out.1.keep hb12,ht12,HT11.out.2.trans (hb12.mono HT11.out.2.size)⟩;clear ht12 hb12 HQB)
  | (go_at_call 23;refine(HSM.out w12 _ _ _ _ HT12.out.1 HT12.out.2.1).mono ?_;rintro e w13 ⟨rfl,hb13⟩;have HD13:Hid (Bw w10 w13):=HT12.out.2.2.trans (hb13.mono HT12.out.2.2.size);have HB13:Hid (Bw w1 w13):=HB10.out.trans (HD13.out.mono HB10.out.size);clear hb13))
 clear HT11 HT12
 obtain⟨a0,a1,a2,a3,a4⟩:=HC.out w13 HB13.out
 by_cases g3:ls<0
 ·go_wp2
  go_ret
  exact⟨rfl,HW.out w13 HB13.out⟩
 by_cases g4:(m:Int)<ls
 ·go_wp2
  go_ret
  exact⟨rfl,HW.out w13 HB13.out⟩
 obtain⟨k,rfl⟩:∃k:Nat,ls=(k:Int):=⟨ls.toNat,by omega⟩
 have HK:Hid (k≤m):=by unfold Hid;omega
 have HKC:Hid (k≤c):=by
  unfold Hid
  obtain⟨xs,⟨_,_,o',c',e,_,hc⟩,_⟩:=HIW.out w1 (Below.refl _ _)
  obtain⟨rfl,_,rfl⟩:=Value.slice.inj e
  have:=HK.out
  have:=HL.out
  omega
 go_upto_region 12 with fail
 clear g3 g4
 clear a0 a1 a2 a3 a4
 have hkc:=HKC.out
 have HF13:Hid (Calls Tryz.prog 10 #[.agg #[.slice o1 p.ins.length c1,.slice o2 p.outs.length c2,.slice o3 p.fs.length c3,.slice o4 p.asserts.length c4,.slice o5 p.checks.length c5]] w13.drew fun e w'=>∃q1 q2 q3 q4 q5 d1 d2 d3 d4 d5,e=.returned (.agg #[.slice q1 p.ins.length d1,.slice q2 p.outs.length d2,.slice q3 p.fs.length d3,.slice q4 p.asserts.length d4,.slice q5 p.checks.length d5])∧lQ w' (dA w13.drew.heap.size w') p q1 q2 q3 q4 q5 d1 d2 d3 d4 d5 E∧Bw w13.drew w'):=HF4.out w13.drew HB13.out.drew
 refine fI 11 (fun W=>W.cell? ⟨B,0,none⟩=some (.slice o1 p.ins.length c1)∧W.cell? ⟨B,0+1,none⟩=some (.slice o2 p.outs.length c2)∧W.cell? ⟨B,0+2,none⟩=some (.slice o3 p.fs.length c3)∧W.cell? ⟨B,0+3,none⟩=some (.slice o4 p.asserts.length c4)∧W.cell? ⟨B,0+4,none⟩=some (.slice o5 p.checks.length c5)) (fun _=>True) (by kernel_rfl) (HC.out w13.drew HB13.out.drew) trivial (fun hHeld=>?_)
 refine tj 0 82 (.agg #[.slice o1 p.ins.length c1,.slice o2 p.outs.length c2,.slice o3 p.fs.length c3,.slice o4 p.asserts.length c4,.slice o5 p.checks.length c5]) rfl (by rintro w ⟨s0,s1,s2,s3,s4⟩;go_simp) hHeld ?_
 refine tj 2 84 (.slice o m c) rfl (by rintro w ⟨s0,s1,s2,s3,s4⟩;go_simp) hHeld ?_
 refine tj 3 85 (.int .i64 (k:Nat)) rfl (by rintro w ⟨s0,s1,s2,s3,s4⟩;go_simp) hHeld ?_
 refine tj 4 86 (.slice o k c) rfl (by rintro w ⟨s0,s1,s2,s3,s4⟩;go_simp) hHeld ?_
 refine aS 1 (some 83) rfl fun K hK=>?_
 go_simp
 refine HF13.out.mono ?_
 rintro e w14 ⟨q1_14,q2_14,q3_14,q4_14,q5_14,d1_14,d2_14,d3_14,d4_14,d5_14,rfl,hg14,hb14⟩
 have HG14:=aA hg14
 have HB14:Hid (Bw w1 w14):=HB13.out.drew.trans (hb14.mono HB13.out.size)
 have HD14:Hid (Bw w10 w14):=HD13.out.drew.trans (hb14.mono HD13.out.size)
 clear hg14 hb14 HF13
 go_wp2_with fail
 refine hK.out _ _ ⟨HC.out w14 HB14.out,fun _=>trivial⟩ (fun hHeld=>?_)
 clear hK K
 try simp only[tp]
 refine aS 5 (some 87) rfl fun K hK=>?_
 go_simp
 refine(HI4.out k w14 HK.out HB14.out).mono ?_
 rintro e w15 ⟨so15,sc15,rfl,hi15,hb15⟩
 have HG15:=HG14.out.keep hb15
 have HI15:=aA hi15
 have HB15:Hid (Bw w1 w15):=HB14.out.trans (hb15.mono HB14.out.size)
 have HD15:Hid (Bw w10 w15):=HD14.out.trans (hb15.mono HD14.out.size)
 clear hi15 hb15 HG14
 go_wp2_with fail
 refine hK.out _ _ ⟨HC.out w15 HB15.out,fun _=>trivial⟩ (fun hHeld=>?_)
 clear hK K
 try simp only[tp]
 refine aS 6 (some 88) rfl fun K hK=>?_
 go_simp
 refine(HRU.out _ _ _ _ _ _ _ _ _ _ _ _ HG15 false 0 _ _ _ HK.out HI15.out).mono ?_
 rintro e w16 ⟨hb16,xc,nc,dc,rc,rfl,hr16⟩
 have HRC:=aA hr16
 have HB16:Hid (Bw w1 w16):=HB15.out.trans (hb16.mono HB15.out.size)
 have HD16:Hid (Bw w10 w16):=HD15.out.trans (hb16.mono HD15.out.size)
 clear hr16 hb16 HG15 HI15
 go_wp2_with fail
 refine hK.out _ _ ⟨HC.out w16 HB16.out,fun _=>trivial⟩ (fun hHeld=>?_)
 clear hK K
 try simp only[tp]
 refine tj 7 81 (.tuple #[.slice xc nc dc,rc]) rfl (by rintro w ⟨s0,s1,s2,s3,s4⟩;go_simp) hHeld ?_
 refine tj 8 89 (.slice xc nc dc) rfl (by rintro w ⟨s0,s1,s2,s3,s4⟩;go_simp) hHeld ?_
 refine tj 9 90 (rc) rfl (by rintro w ⟨s0,s1,s2,s3,s4⟩;go_simp) hHeld ?_
 refine aS 10 (some 14) rfl fun K hK=>?_
 go_simp
 refine hK.out _ _ ⟨HC.out w16 HB16.out,fun _=>trivial⟩ (fun hHeld=>?_)
 clear hK K
 try simp only[tp]
 refine aS 11 (some 15) rfl fun K hK=>?_
 go_simp
 refine hK.out _ _ (Till.last (HC.out w16 HB16.out)) (fun hHeld=>?_)
 clear hK K
 try simp only[tp]
 refine dU (by kernel_rfl) ?_ _
 clear hHeld
 clear hkc
 have hi:ll.take m=ll.take k++(ll.take m).drop k:=by
  have h1:=List.take_append_drop k (ll.take m)
  rw[List.take_take,Nat.min_eq_left HK.out] at h1
  exact h1.symm
 rcases DY hi (.inr ⟨_,_,_,rfl⟩) (show ((0:Int)==cB 0)=true from rfl) (show ((0:Int)==cB 0)=true from rfl) HRA.out HRC.out with⟨u,x,u',x',e1,e2⟩ | ⟨q,ts',u,u',oo,cc,oo',cc',hp,hq,hp',hq',hf,hl3,hr1,hr2,e1,htA,e2,htB⟩
 ·exact absurd e1 (by simp)
 obtain⟨hle,hut⟩:=Qm hi hp hq hq' hf hr1 hr2
 obtain⟨rfl,hnu,rfl⟩:xa=oo∧n=u.length∧da=cc:=by simpa using e1
 obtain⟨⟨rfl,rfl,rfl⟩,rfl⟩:(xc=oo'∧nc=u'.length∧dc=cc')∧rc=.nilIface:=by simpa using e2
 have hul:u'.length≤400:=by have:=hr1.len;omega
 obtain⟨j,hj⟩:∃j,j=u'.length:=⟨_,rfl⟩
 have htA16:=((htA.keep HD10.out).keep HD16.out).take hle
 rw[hut] at htA16
 rw[←hj] at htA16 htB hle hul ⊢
 have hjd:j≤da:=by
  obtain⟨xs,⟨_,_,o',c',e,_,hc⟩,_⟩:=htA16
  obtain⟨rfl,e2',rfl⟩:=Value.slice.inj e
  omega
 have hjn:(j:Int)≤(n:Int):=by omega
 have hj0:(0:Int)≤(j:Int):=by omega
 have HTC:Hid (∀W,Bw w16 W→eU W (.slice xc j dc) u'∧eU W (.slice xa j da) u'):=fun W hW=>⟨htB.keep hW,htA16.keep hW⟩
 have HQA:Hid (∀W,Bw w16 W→Calls Tryz.prog 24 #[.slice xc j dc] W fun e w'=>∃so sc,e=.returned (.slice so j sc)∧eU w' (.slice so j sc) u'∧Bw W w'):=fun W hW=>y7 W xc j dc u' hj (HTC.out W hW).1 hul
 have HQB:Hid (∀W,Bw w16 W→Calls Tryz.prog 24 #[.slice xa j da] W fun e w'=>∃so sc,e=.returned (.slice so j sc)∧eU w' (.slice so j sc) u'∧Bw W w'):=fun W hW=>y7 W xa j da u' hj (HTC.out W hW).2 hul
 have HSM:Hid (∀(W:World) (ya yb:Option Addr) (dya dyb:Nat),eU W (.slice ya j dya) u'→eU W (.slice yb j dyb) u'→Calls Tryz.prog 23 #[.slice ya j dya,.slice yb j dyb] W fun e w'=>e=.returned (.bool true)∧Bw W w'):=fun W ya yb dya dyb h1 h2=>DV W ya yb j dya dyb u' hj h1 h2
 clear hi e1 e2 hp hq hp' hq' hf hl3 hr1 hr2 htA htB htA16 hut hnu hle hul hj HTC HRA HRC HF4 HI4 HRU HC HON HPW HTT HTN HD10 HD13 HD14 HD15 HD16 HB4 HB7 HB10 HB13 HB14 HB15 HNL HFF HLF HKC HK HL HIW
 go_upto_region 13 with fail
 refine fI 19 (fun _=>True) (fun _=>True) (by kernel_rfl) trivial trivial (fun hHeld=>?_)
 refine tj 0 91 (.nilIface) rfl (by intro w _;go_simp) hHeld ?_
 refine tj 1 92 (.bool true) rfl (by intro w _;go_simp) hHeld ?_
 refine tj 2 93 (.bool true) rfl (by intro w _;go_simp) hHeld ?_
 refine tj 3 94 (.slice xc j dc) rfl (by intro w _;go_simp) hHeld ?_
 refine tj 4 95 (.int .i64 (j:Nat)) rfl (by intro w _;go_simp) hHeld ?_
 refine tj 5 96 (.slice xa n da) rfl (by intro w _;go_simp) hHeld ?_
 refine tj 6 97 (.int .i64 (n:Nat)) rfl (by intro w _;go_simp) hHeld ?_
 refine tj 7 98 (.bool true) rfl (by intro w _;go_simp) hHeld ?_
 refine tj 8 99 (.bool true) rfl (by intro w _;go_simp) hHeld ?_
 refine tj 9 100 (.bool true) rfl (by intro w _;go_simp) hHeld ?_
 refine tj 10 101 (.slice xc j dc) rfl (by intro w _;go_simp) hHeld ?_
 refine tj 12 103 (.slice xa n da) rfl (by intro w _;go_simp) hHeld ?_
 refine tj 13 104 (.slice xc j dc) rfl (by intro w _;go_simp) hHeld ?_
 refine tj 14 105 (.int .i64 (j:Nat)) rfl (by intro w _;go_simp) hHeld ?_
 refine tj 15 106 (.slice xa j da) rfl (by intro w _;go_simp) hHeld ?_
 refine aS 11 (some 102) rfl fun K hK=>?_
 go_simp
 refine(HQA.out w16.drew (Below.refl _ _).drew).mono ?_
 rintro e w17 ⟨ya,dya,rfl,ht17,hb17⟩
 have HT17:Hid (eU w17 (.slice ya j dya) u'∧Bw w16 w17):=⟨ht17,((Below.refl _ _).drew).trans hb17⟩
 clear ht17 hb17 HQA
 go_wp2_with fail
 refine hK.out _ _ ⟨trivial,fun _=>trivial⟩ (fun hHeld=>?_)
 clear hK K
 try simp only[tp]
 refine aS 16 (some 107) rfl fun K hK=>?_
 go_simp
 refine(HQB.out w17 HT17.out.2).mono ?_
 rintro e w18 ⟨yb,dyb,rfl,ht18,hb18⟩
 have HT18:Hid (eU w18 (.slice ya j dya) u'∧eU w18 (.slice yb j dyb) u'∧Bw w16 w18):=⟨HT17.out.1.keep hb18,ht18,HT17.out.2.trans (hb18.mono HT17.out.2.size)⟩
 clear ht18 hb18 HQB HT17
 go_wp2_with fail
 refine hK.out _ _ ⟨trivial,fun _=>trivial⟩ (fun hHeld=>?_)
 clear hK K
 try simp only[tp]
 refine aS 17 (some 108) rfl fun K hK=>?_
 go_simp
 refine(HSM.out w18 _ _ _ _ HT18.out.1 HT18.out.2.1).mono ?_
 rintro e w19 ⟨rfl,hb19⟩
 have HB19:Hid (Bw w1 w19):=HB16.out.trans ((HT18.out.2.2.trans (hb19.mono HT18.out.2.2.size)).mono HB16.out.size)
 clear hb19 HSM HT18
 go_wp2_with fail
 refine hK.out _ _ ⟨trivial,fun _=>trivial⟩ (fun hHeld=>?_)
 clear hK K
 try simp only[tp]
 refine tj 18 109 (.bool true) rfl (by intro w _;go_simp) hHeld ?_
 refine aS 19 (some 8) rfl fun K hK=>?_
 go_simp
 refine hK.out _ _ (Till.last trivial) (fun hHeld=>?_)
 clear hK K
 try simp only[tp]
 refine dU (by kernel_rfl) ?_ _
 clear hHeld
 go_wp2
 go_ret
 exact⟨rfl,HW.out w19 HB19.out⟩
end Go.Proofs.YtmgfakcccfahaaaGreatDoor
