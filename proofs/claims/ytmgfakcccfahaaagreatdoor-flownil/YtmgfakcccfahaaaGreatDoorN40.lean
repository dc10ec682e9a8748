/-
  package flow: tick of any program, BY CONTRACT.
-/
import Derived.Test.YtmgfakcccfahaaaGreatDoorN38
namespace Go.Proofs.YtmgfakcccfahaaaGreatDoor
open Go.RowKit Go.Maps
set_option maxRecDepth 100000
set_option maxHeartbeats 8000000

section
open Go.Lib
variable {P:Program} {md:Region.Mode} {ops:Array Oper} {Q:Exit→Act→World→Prop} {S T:World→Prop} {c:Nat}
theorem CV{i:Nat}(d1 d2:Nat){oi:Oper}{v:Value}{fuel:Nat}{listed:Array Bool}{a:Act}{w:World}(hi:ops[i]?=some oi)(hci:(i==c)=false)
  (hs:Region.noSelect ops=true) (hf:Region.free md ops listed i=true) (hr:(Region.ready md ops listed).contains i=true)
  (hd:waits md ops d1 i=true) (he:waits md ops d2 d1=true) (hc:waits md ops c d2=true) (hdl:listed.getD d1 true=false) (hel:listed.getD d2 true=false) (hcl:listed.getD c true=false)
  (hQ:∀c a w,Q (.panic c) (a.put oi.dst v) w→Q (.panic c) a w) (hy:YieldsIf P ops T oi v a) (hS:Till S T c listed w)
  (h:jC P md ops Q S T c fuel (listed.setIfInBounds i true) (a.put oi.dst v) w):jC P md ops Q S T c (fuel+1) listed a w:=
 AR (R:=T) (G:=fun l=>l.getD d1 true=false∧l.getD d2 true=false∧l.getD c true=false) hi (by simpa using hci) (Region.noSelect_spec hs) hQ (fun _ _ hg h=>h.2 hg.2.2)
  (fun l j hg hri hrj _=>by
   have hui:=(mem_ready.1 hri).1
   have n1:j≠d1:=fun e=>wS hd hui (by rw[←e];exact hrj)
   have n2:j≠d2:=fun e=>wS he hg.1 (by rw[←e];exact hrj)
   have n3:j≠c:=fun e=>wS hc hg.2.1 (by rw[←e];exact hrj)
   exact⟨by rw[getD_set_ne true n1];exact hg.1,by rw[getD_set_ne true n2];exact hg.2.1,by rw[getD_set_ne true n3];exact hg.2.2⟩)
  fuel listed a w (Region.free_spec hi hf) (by simpa using hr) ⟨hdl,hel,hcl⟩ hy hS h
end
def eF(g:Nat→Int)(l:List Nat):Bool:=l.all fun x=>g x==1
def iB(g:Nat→Int)(l:List Nat):List Bool:=l.map fun x=>g x==1
def Rs(w:World)(v:Value)(l:List Bool):Prop:=aB w (fun _=>True) 1 v l.length (l.map Value.bool)
def jN(base:Nat)(w:World)(v:Value)(l:List Bool):Prop:=aB w (From base) 1 v l.length (l.map Value.bool)
theorem jN.at{base:Nat}{w:World}{v:Value}{l:List Bool}(h:jN base w v l):Rs w v l:=aB.wide h
theorem jN.keep{base:Nat}{w w':World}{v:Value}{l:List Bool}(h:jN base w v l)(hb:Bw w w'):jN base w' v l:=aB.keep h (fun b hB hl=>⟨hB,hb.block b hl⟩)
theorem jN.apart{base:Nat}{w w':World}{v:Value}{l:List Bool}{T:Nat}(h:jN base w v l)(hT:T<base)(hg:w.grownBy w' (some T)):jN base w' v l:=aB.keep h (fun b hB hl=>⟨hB,hg.block b hl (fun e=>by have:=Option.some.inj e;have:base≤b:=hB;omega)⟩)
theorem jN.lower{base base':Nat}{w:World}{v:Value}{l:List Bool}(h:jN base w v l)(hb:base'≤base):jN base' w v l:=aB.keep h (fun _ hB _=>⟨Nat.le_trans hb hB,rfl⟩)
theorem QB{g:Nat→Int}{l:List Nat}{j x:Nat}(h:l[j]?=some x):eF g (l.take (j+1))=(eF g (l.take j)&&(g x==1)):=by
 unfold eF
 rw[List.take_add_one,h,List.all_append]
 simp
theorem Qb{g:Nat→Int}{l:List Nat}{j x:Nat}(h:l[j]?=some x):(iB g (l.take (j+1))).map Value.bool=(iB g (l.take j)).map Value.bool++[.bool (g x==1)]:=by
 unfold iB
 rw[List.take_add_one,h]
 simp
theorem JL{w0 w:World}{C M:Nat}{dv:Value}{f:List UInt8→Option Value}{q:bC}{nb nn:Int}{d:dW}(hcd:Cd w0 C d.B M dv f q nb nn)(hi:bF w0 d w)(hn:d.n=q.ps.length)(hos:∀x∈q.os,x<q.ps.length)(hol:q.os.length≤2097152)(ha:∀x∈q.ax,x<q.ps.length)(hc:∀x∈q.cx,x<q.ps.length)(hal:q.ax.length≤2097152)(hcl:q.cx.length≤2097152) :
  Calls Tryz.prog 106 #[.pointer (some ⟨d.I,0,none⟩)] w fun e w'=>∃so sc co cc,e=.returned (qC so q.os.length sc (eF d.g q.ax) false co q.cx.length cc)∧fB w.heap.size w' (.slice so q.os.length sc) (bM q d.g q.os)∧jN w.heap.size w' (.slice co q.cx.length cc) (iB d.g q.cx)∧Bw w w':=by
 obtain⟨w1,hw1⟩:∃w1,w1=w.alloc (.cells #[.slice none 0 0,.bool false,.bool false,.slice none 0 0] 112):=⟨_,rfl⟩
 obtain⟨T,hT⟩:∃T,T=w.heap.size:=⟨_,rfl⟩
 have hb1:Bw w w1:=by rw[hw1];exact aH
 have hr1:w1.heap[T]?=some (.cells #[.slice none 0 0,.bool false,.bool false,.slice none 0 0] 112 (0,0)):=by rw[hw1,hT];exact heap_alloc_new _ _
 obtain⟨vi,vt,vk,vo,va,vc,⟨_,_,_,l4,l5,l6⟩,_,_,_,hvo,hva,hvc⟩:=hcd.nV.list
 obtain⟨oo,co,eo,_⟩:=hvo.2.2
 obtain⟨oa,ca,ea,_⟩:=hva.2.2
 obtain⟨oc,cc,ec,_⟩:=hvc.2.2
 subst eo ea ec
 obtain⟨na,hna⟩:∃na,na=q.ax.length:=⟨_,rfl⟩
 obtain⟨nc,hnc⟩:∃nc,nc=q.cx.length:=⟨_,rfl⟩
 rw[←hna] at l5 hva
 rw[←hnc] at l6 hvc ⊢
 have HA:Hid (aB w0 (fun _=>True) 1 (.slice oa na ca) na (aX q.ax)∧(∀x∈q.ax,x<q.ps.length)∧na=q.ax.length∧na≤2097152):=⟨hva,ha,hna,by omega⟩
 have HC:Hid (aB w0 (fun _=>True) 1 (.slice oc nc cc) nc (aX q.cx)∧(∀x∈q.cx,x<q.ps.length)∧nc=q.cx.length∧nc≤2097152):=⟨hvc,hc,hnc,by omega⟩
 have HN:=aA hn
 have hi1:=hi.keep hb1
 have c0:=hi1.c0
 have c4:=aD hi1.below l4
 have HTC:Hid (Calls Tryz.prog 150 #[.pointer (some ⟨d.I,0,none⟩),.slice oo q.os.length co] w1 fun e w'=>∃so sc,e=.returned (.slice so q.os.length sc)∧w'.ownsRow w1.heap.size 66 2 (.slice so q.os.length sc) q.os.length (bG (bM q d.g q.os))∧Bw w1 w'):=Dw hcd hi1 hn oo co q.os.length q.os rfl (hvo.keep (dX hi1.below)) hos hol
 have HI1:Hid (bF w0 d w1∧Bw w w1):=⟨hi1,hb1⟩
 have HR1:Hid (w1.heap[T]?=some (.cells #[.slice none 0 0,.bool false,.bool false,.slice none 0 0] 112 (0,0))∧w0.cell? ⟨d.B,0+5,none⟩=some (.slice oa na ca)∧w0.cell? ⟨d.B,0+6,none⟩=some (.slice oc nc cc)):=⟨hr1,l5,l6⟩
 have HW1:Hid (w.alloc (.cells #[.slice none 0 0,.bool false,.bool false,.slice none 0 0] 112)=w1∧w.heap.size=T):=⟨hw1.symm,hT.symm⟩
 clear hcd hi hn hos hol ha hc hal hcl hna hnc hw1 hT hb1 hr1 l4 l5 l6 hi1 hvo hva hvc
 go_enter Tryz.func106,Tryz.ntmps106
 go_upto_region 1 with fail
 rw[HW1.out.1,HW1.out.2]
 go_upto_region 2 with(go_at_call 150;refine HTC.out.mono ?_;rintro e w2 ⟨so,sc,rfl,hown,hb2⟩)
 obtain⟨w3,hw3⟩:∃w3,w3=w2.alloc (.cells #[.slice so q.os.length sc,.bool true,.bool false,.slice none 0 0] 112):=⟨_,rfl⟩
 obtain⟨U,hU⟩:∃U,U=w2.heap.size:=⟨_,rfl⟩
 have hb3:Bw w2 w3:=by rw[hw3];exact aH
 have hr3:w3.heap[U]?=some (.cells #[.slice so q.os.length sc,.bool true,.bool false,.slice none 0 0] 112 (0,0)):=by rw[hw3,hU];exact heap_alloc_new _ _
 have hb13:Bw w1 w3:=hb2.trans (hb3.mono hb2.size)
 have hi3:=HI1.out.1.keep hb13
 have x0:w3.cell? ⟨d.I,0,none⟩=some (.pointer (some ⟨d.B,0,none⟩)):=hi3.c0
 have x5:w3.cell? ⟨d.B,0+5,none⟩=some (.slice oa na ca):=aD hi3.below HR1.out.2.1
 have x6:w3.cell? ⟨d.B,0+6,none⟩=some (.slice oc nc cc):=aD hi3.below HR1.out.2.2
 have u0:w3.cell? ⟨U,0,none⟩=some (.slice so q.os.length sc):=cr hr3 rfl
 have u1:w3.cell? ⟨U,0+1,none⟩=some (.bool true):=cr hr3 rfl
 have u2:w3.cell? ⟨U,0+2,none⟩=some (.bool false):=cr hr3 rfl
 have u3:w3.cell? ⟨U,0+3,none⟩=some (.slice none 0 0):=cr hr3 rfl
 have hr13:=aN hb13 HR1.out.1
 have t0:w3.cell? ⟨T,0,none⟩=some (.slice none 0 0):=cr hr13 rfl
 have t1:w3.cell? ⟨T,0+1,none⟩=some (.bool false):=cr hr13 rfl
 have t2:w3.cell? ⟨T,0+2,none⟩=some (.bool false):=cr hr13 rfl
 have t3:w3.cell? ⟨T,0+3,none⟩=some (.slice none 0 0):=cr hr13 rfl
 have HFR:Hid (∀k,w3.frozen? ⟨T,k,none⟩=false):=fun k=>bR hr13
 have f0:=HFR.out 0
 have f1:=HFR.out (0+1)
 have f2:=HFR.out (0+2)
 have f3:=HFR.out (0+3)
 have HE3:Hid (w3.ownsRow w1.heap.size 66 2 (.slice so q.os.length sc) q.os.length (bG (bM q d.g q.os))∧Bw w w3∧w1.heap.size≤w3.heap.size∧T<w1.heap.size∧w3.heap[T]?=some (.cells #[.slice none 0 0,.bool false,.bool false,.slice none 0 0] 112 (0,0))∧w.heap.size≤T):=⟨mK hown hb3,HI1.out.2.trans (hb13.mono HI1.out.2.size),hb13.size,(bN HR1.out.1).1,hr13,by rw[←HW1.out.2];exact Nat.le_refl _⟩
 have HW3:Hid (w2.alloc (.cells #[.slice so q.os.length sc,.bool true,.bool false,.slice none 0 0] 112)=w3∧w2.heap.size=U):=⟨hw3.symm,hU.symm⟩
 rw[HW3.out.1,HW3.out.2]
 have HUS:Hid (U=w2.heap.size∧Bw w2 w3∧w3.heap[U]?=some (.cells #[.slice so q.os.length sc,.bool true,.bool false,.slice none 0 0] 112 (0,0))∧w3.heap.size=U+1):=⟨hU,hb3,hr3,by rw[hw3,hU,World.size_alloc]⟩
 have HI2:Hid (bF w0 d w2):=HI1.out.1.keep hb2
 have HV2:Hid (w2.ownsRow w1.heap.size 66 2 (.slice so q.os.length sc) q.os.length (bG (bM q d.g q.os))∧Bw w w2∧T<w2.heap.size∧w2.heap[T]?=some (.cells #[.slice none 0 0,.bool false,.bool false,.slice none 0 0] 112 (0,0))∧w.heap.size≤T∧T<w1.heap.size):=⟨hown,HI1.out.2.trans (hb2.mono HI1.out.2.size),by have:=hb2.size;have:=HE3.out.2.2.2.1;omega,aN hb2 HR1.out.1,HE3.out.2.2.2.2.2,HE3.out.2.2.2.1⟩
 clear hw3 hU hb3 hr3 hb13 hi3 hr13 hown hb2 c0 c4
 have HS2:Hid (∀W,Bw w2 W→W.cell? ⟨d.I,0+4,none⟩=some (.slice (some ⟨d.R,0,none⟩) d.n d.n)∧W.cell? ⟨d.I,0,none⟩=some (.pointer (some ⟨d.B,0,none⟩))∧W.cell? ⟨d.B,0+6,none⟩=some (.slice oc nc cc)):=fun W hW=>⟨(HI2.out.keep hW).c4,(HI2.out.keep hW).c0,aD hW (aD HI2.out.below HR1.out.2.2)⟩
 obtain⟨I,hI⟩:∃I,I=d.I:=⟨_,rfl⟩
 obtain⟨R,hR⟩:∃R,R=d.R:=⟨_,rfl⟩
 obtain⟨n,hnn⟩:∃n,n=d.n:=⟨_,rfl⟩
 have HD:Hid (I=d.I∧R=d.R∧n=d.n):=⟨hI,hR,hnn⟩
 rw[←hI] at x0
 clear x5 x6
 have x5:w3.cell? ⟨d.B,0+5,none⟩=some (.slice oa na ca):=aD HUS.out.2.1 (aD HI2.out.below HR1.out.2.1)
 rw[←hI]
 clear hI hR hnn u0 u1 u2 u3 t0 t1 t2 t3 f0 f1 f2 f3 HFR HE3
 go_wp2
 go_loopw [26] (fun t wr=>∃j:Nat,j≤na∧t=.int .i64 j∧Hid (Bw w2 wr∧wr.heap[U]?=some (.cells #[.slice so q.os.length sc,.bool (eF d.g (q.ax.take j)),.bool false,.slice none 0 0] 112 (0,0))∧wr.heap.size=U+1)) (fun t _=>na-(intOf t).toNat)
 case atStart=>exact⟨0,Nat.zero_le _,rfl,HUS.out.2.1,HUS.out.2.2.1,HUS.out.2.2.2⟩
 case round=>
  obtain⟨j,hj,rfl,HR⟩:=hrel
  by_cases hjl:j<na
  ·obtain⟨x,hx⟩:∃x,q.ax[j]?=some x:=⟨_,List.getElem?_eq_getElem (by have:=HA.out.2.2.1;omega)⟩
   have hxn:x<n:=by rw[HD.out.2.2,HN.out];exact HA.out.2.1 x (List.mem_of_getElem? hx)
   obtain⟨b1,bP,c1,ev,_,_,gg⟩:=((HA.out.1.keep (dX HI2.out.below)).keep (dX HR.out.1)).at (by rw[HA.out.1.1];omega)
   obtain⟨rfl,rfl⟩:oa=some ⟨b1,bP,none⟩∧ca=c1:=by simpa using ev
   have y0:=gg j (.int .i64 (x:Int)) (by unfold aX;rw[List.getElem?_map,lH hx];rfl)
   obtain⟨gx,hgx⟩:∃gx,gx=d.g x:=⟨_,rfl⟩
   have i0':(0:Int)≤(j:Int):=by omega
   have i1':(j:Int)<(na:Int):=by omega
   have i2':(0:Int)≤(x:Int):=by omega
   have i4':(x:Int)<(n:Int):=by omega
   have N4:Hid (wrap64 ((j:Int)+1)=(j:Int)+1):=by have h1:=HA.out.2.2.2;unfold Hid wrap64;omega
   have HJ:=aA hjl
   have HS:Hid (∀W,Bw w2 W→W.cell? ⟨I,0+4,none⟩=some (.slice (some ⟨R,0,none⟩) n n)∧W.cell? ⟨R,x,none⟩=some (.int .i64 gx)):=fun W hW=>by
    have h1:=(HS2.out W hW).1
    have h2:=(HI2.out.keep hW).wt.cell (k:=x) (by rw[←HD.out.2.2];exact hxn)
    rw[←HD.out.1,←HD.out.2.1,←HD.out.2.2] at h1
    rw[←HD.out.2.1,←hgx] at h2
    exact⟨h1,h2⟩
   obtain⟨b0,hb0⟩:∃b0,b0=eF d.g (q.ax.take j):=⟨_,rfl⟩
   have HNB:Hid (eF d.g (q.ax.take (j+1))=(b0&&(gx==1))):=by unfold Hid;rw[QB hx,hb0,hgx]
   have HRR:Hid (Bw w2 wr∧wr.heap[U]?=some (.cells #[.slice so q.os.length sc,.bool b0,.bool false,.slice none 0 0] 112 (0,0))∧wr.heap.size=U+1):=by unfold Hid;rw[hb0];exact HR.out
   have HST:Hid (∀W,Bw wr W→W.cell? ⟨U,0+1,none⟩=some (.bool b0)∧W.frozen? ⟨U,0+1,none⟩=false):=fun W hW=>by
    have hr:=aN hW HRR.out.2.1
    exact⟨cr hr rfl,bR hr⟩
   have HNX:Hid (∀b,Bw w2 (wr.drew.setCell ⟨U,0+1,none⟩ (.bool b))∧(wr.drew.setCell ⟨U,0+1,none⟩ (.bool b)).heap[U]?=some (.cells #[.slice so q.os.length sc,.bool b,.bool false,.slice none 0 0] 112 (0,0))∧(wr.drew.setCell ⟨U,0+1,none⟩ (.bool b)).heap.size=U+1):=fun b=>by
    have hg:=bW wr.drew U (0+1) (.bool b)
    refine⟨HRR.out.1.drew.grown hg HRR.out.1.drew.size (fun k hk=>by obtain rfl:=Option.some.inj hk;rw[HUS.out.1];exact Nat.le_refl _),heap_setCell_same wr.drew U (0+1) _ _ _ (show wr.drew.heap[U]?=_ from HRR.out.2.1),?_⟩
    rw[size_setCell]
    exact HRR.out.2.2
   have hS0:=HS.out wr.drew HRR.out.1.drew
   have hT0:=(HST.out wr.drew (Below.refl _ _).drew).1
   clear hx ev gg hxn hgx hj hjl HR hb0 x0 x5
   go_upto_region 5 with fail
   clear y0
   cases b0 with
   | true=>
    refine fI 14 (fun W=>W.cell? ⟨I,0+4,none⟩=some (.slice (some ⟨R,0,none⟩) n n)∧W.cell? ⟨R,x,none⟩=some (.int .i64 gx)) (fun W=>W.cell? ⟨U,0+1,none⟩=some (.bool true)) (by kernel_rfl) hS0 hT0 (fun hh=>?_)
    refine tj 0 30 (.pointer (some ⟨U,0+1,none⟩)) rfl (by rintro w ⟨s1,s2⟩;go_simp) hh ?_
    refine CV (i:=1) 2 12 (oi:=⟨some 31,_,_,_,_,_⟩) (v:=.bool true) rfl (by kernel_rfl) (by kernel_rfl) (by kernel_rfl) (by kernel_rfl) (by kernel_rfl) (by kernel_rfl) (by kernel_rfl) (by kernel_rfl) (by kernel_rfl) (by kernel_rfl) (fun _ _ _ h=>h) (Or.inl ⟨by kernel_rfl,?_⟩) hh ?_
    ·intro w hSw;(try dsimp only at hSw);go_simp
    try simp only[tp]
    refine tj 2 32 (.bool true) rfl (by rintro w ⟨s1,s2⟩;go_simp) hh ?_
    refine tj 3 33 (.pointer (some ⟨I,0,none⟩)) rfl (by rintro w ⟨s1,s2⟩;go_simp) hh ?_
    refine tj 4 34 (.pointer (some ⟨I,0,none⟩)) rfl (by rintro w ⟨s1,s2⟩;go_simp) hh ?_
    refine tj 5 35 (.pointer (some ⟨I,0+4,none⟩)) rfl (by rintro w ⟨s1,s2⟩;go_simp) hh ?_
    refine tj 6 36 (.slice (some ⟨R,0,none⟩) n n) rfl (by rintro w ⟨s1,s2⟩;go_simp) hh ?_
    refine tj 7 37 (.int .i64 (x:Nat)) rfl (by rintro w ⟨s1,s2⟩;go_simp) hh ?_
    refine tj 8 38 (.pointer (some ⟨R,x,none⟩)) rfl (by rintro w ⟨s1,s2⟩;go_simp) hh ?_
    refine tj 9 39 (.int .i64 gx) rfl (by rintro w ⟨s1,s2⟩;go_simp) hh ?_
    refine aS 10 (some 40) rfl fun K hK=>?_
    go_simp
    refine(lZ true _).mono ?_
    rintro e w5 ⟨rfl,rfl⟩
    go_wp2_with fail
    refine hK.out _ _ ⟨hS0,fun _=>hT0⟩ (fun hh=>?_)
    clear hK K
    try simp only[tp]
    refine tj 11 41 (.bool (gx==bB true)) rfl (by rintro w ⟨s1,s2⟩;go_simp) hh ?_
    refine tj 12 42 (.bool (gx==bB true)) rfl (by rintro w ⟨s1,s2⟩;go_simp) hh ?_
    refine tj 13 43 (.pointer (some ⟨U,0+1,none⟩)) rfl (by rintro w ⟨s1,s2⟩;go_simp) hh ?_
    refine aS 14 none rfl fun K hK=>?_
    have f1:=(HST.out wr.drew (Below.refl _ _).drew).2
    go_simp
    refine hK.out _ _ (Till.last (HS.out _ (HNX.out _).1)) (fun hh=>?_)
    clear hK K
    try simp only[tp]
    refine dU (by kernel_rfl) ?_ _
    clear hh hS0 hT0 f1
    go_wp2
    exact⟨⟨j+1,HJ.out,by (try rw[N4.out]);rfl,by rw[HNB.out,Bool.true_and];exact HNX.out _⟩,by (try rw[N4.out]);have:=HJ.out;simp [intOf];omega⟩
   | false=>
    refine fI 14 (fun W=>W.cell? ⟨I,0+4,none⟩=some (.slice (some ⟨R,0,none⟩) n n)∧W.cell? ⟨R,x,none⟩=some (.int .i64 gx)) (fun W=>W.cell? ⟨U,0+1,none⟩=some (.bool false)) (by kernel_rfl) hS0 hT0 (fun hh=>?_)
    refine tj 0 30 (.pointer (some ⟨U,0+1,none⟩)) rfl (by rintro w ⟨s1,s2⟩;go_simp) hh ?_
    refine CV (i:=1) 2 12 (oi:=⟨some 31,_,_,_,_,_⟩) (v:=.bool false) rfl (by kernel_rfl) (by kernel_rfl) (by kernel_rfl) (by kernel_rfl) (by kernel_rfl) (by kernel_rfl) (by kernel_rfl) (by kernel_rfl) (by kernel_rfl) (by kernel_rfl) (fun _ _ _ h=>h) (Or.inl ⟨by kernel_rfl,?_⟩) hh ?_
    ·intro w hSw;(try dsimp only at hSw);go_simp
    try simp only[tp]
    refine tj 2 32 (.bool false) rfl (by rintro w ⟨s1,s2⟩;go_simp) hh ?_
    refine tk 3 33 undef rfl (Or.inr ⟨by kernel_rfl,rfl⟩) hh ?_
    try simp only[tp]
    refine tk 4 34 undef rfl (Or.inr ⟨by kernel_rfl,rfl⟩) hh ?_
    try simp only[tp]
    refine tk 5 35 undef rfl (Or.inr ⟨by kernel_rfl,rfl⟩) hh ?_
    try simp only[tp]
    refine tk 6 36 undef rfl (Or.inr ⟨by kernel_rfl,rfl⟩) hh ?_
    try simp only[tp]
    refine tk 7 37 undef rfl (Or.inr ⟨by kernel_rfl,rfl⟩) hh ?_
    try simp only[tp]
    refine tk 8 38 undef rfl (Or.inr ⟨by kernel_rfl,rfl⟩) hh ?_
    try simp only[tp]
    refine tk 9 39 undef rfl (Or.inr ⟨by kernel_rfl,rfl⟩) hh ?_
    try simp only[tp]
    refine tk 10 40 undef rfl (Or.inr ⟨by kernel_rfl,rfl⟩) hh ?_
    try simp only[tp]
    refine tk 11 41 undef rfl (Or.inr ⟨by kernel_rfl,rfl⟩) hh ?_
    try simp only[tp]
    refine tj 12 42 (.bool false) rfl (by rintro w ⟨s1,s2⟩;go_simp) hh ?_
    refine tj 13 43 (.pointer (some ⟨U,0+1,none⟩)) rfl (by rintro w ⟨s1,s2⟩;go_simp) hh ?_
    refine aS 14 none rfl fun K hK=>?_
    have f1:=(HST.out wr.drew (Below.refl _ _).drew).2
    go_simp
    refine hK.out _ _ (Till.last (HS.out _ (HNX.out _).1)) (fun hh=>?_)
    clear hK K
    try simp only[tp]
    refine dU (by kernel_rfl) ?_ _
    clear hh hS0 hT0 f1
    go_wp2
    exact⟨⟨j+1,HJ.out,by (try rw[N4.out]);rfl,by rw[HNB.out,Bool.false_and];exact HNX.out _⟩,by (try rw[N4.out]);have:=HJ.out;simp [intOf];omega⟩
  ·obtain rfl:na=j:=by omega
   have HB:Hid (Bw w2 wr∧wr.heap[U]?=some (.cells #[.slice so q.os.length sc,.bool (eF d.g q.ax),.bool false,.slice none 0 0] 112 (0,0))∧wr.heap.size=U+1):=by
    have h:=HR.out
    rw[List.take_of_length_le (by have:=HA.out.2.2.1;omega)] at h
    exact h
   obtain⟨A,hA⟩:∃A,A=eF d.g q.ax:=⟨_,rfl⟩
   have HAA:=aA hA
   rw[←hA] at HB
   clear hj hjl HR x0 x5 hA HA
   have x0:wr.cell? ⟨I,0,none⟩=some (.pointer (some ⟨d.B,0,none⟩)):=by have:=(HS2.out wr HB.out.1).2.1;rw[←HD.out.1] at this;exact this
   have x6:=(HS2.out wr HB.out.1).2.2
   obtain⟨wm,hwm⟩:∃wm,wm=wr:=⟨_,rfl⟩
   rw[←hwm] at HB x0 x6 ⊢
   clear hwm wr
   go_wp2
   go_loopw [53] (fun t wr=>∃(j:Nat) (co:Option Addr) (c2:Nat),j≤nc∧t=.int .i64 j∧Hid (Bw w2 wr∧wr.heap[U]?=some (.cells #[.slice so q.os.length sc,.bool A,.bool false,.slice co j c2] 112 (0,0))∧wr.ownsRow (U+1) 4 1 (.slice co j c2) j ((iB d.g (q.cx.take j)).map Value.bool)∧U+1≤wr.heap.size)) (fun t _=>nc-(intOf t).toNat)
   case atStart=>exact⟨0,none,0,Nat.zero_le _,rfl,HB.out.1,HB.out.2.1,World.ownsRow_nil _ _ _ _,by rw[HB.out.2.2];exact Nat.le_refl _⟩
   case round=>
    obtain⟨j,co,c2,hj,rfl,HR⟩:=hrel
    by_cases hjl:j<nc
    ·obtain⟨x,hx⟩:∃x,q.cx[j]?=some x:=⟨_,List.getElem?_eq_getElem (by have:=HC.out.2.2.1;omega)⟩
     have hxn:x<n:=by rw[HD.out.2.2,HN.out];exact HC.out.2.1 x (List.mem_of_getElem? hx)
     obtain⟨b1,bP,c1,ev,_,_,gg⟩:=((HC.out.1.keep (dX HI2.out.below)).keep (dX HR.out.1)).at (by rw[HC.out.1.1];omega)
     obtain⟨rfl,rfl⟩:oc=some ⟨b1,bP,none⟩∧cc=c1:=by simpa using ev
     have y0:=gg j (.int .i64 (x:Int)) (by unfold aX;rw[List.getElem?_map,lH hx];rfl)
     obtain⟨gx,hgx⟩:∃gx,gx=d.g x:=⟨_,rfl⟩
     have i0':(0:Int)≤(j:Int):=by omega
     have i1':(j:Int)<(nc:Int):=by omega
     have i2':(0:Int)≤(x:Int):=by omega
     have i4':(x:Int)<(n:Int):=by omega
     have N4:Hid (wrap64 ((j:Int)+1)=(j:Int)+1):=by have h1:=HC.out.2.2.2;unfold Hid wrap64;omega
     have HMX:Hid (j+1≤maxLen∧(j+1)*1≤140737488355328):=by have h1:=HC.out.2.2.2;unfold Hid maxLen;omega
     have HJ:=aA hjl
     have HS:Hid (∀W,Bw w2 W→W.cell? ⟨I,0+4,none⟩=some (.slice (some ⟨R,0,none⟩) n n)∧W.cell? ⟨R,x,none⟩=some (.int .i64 gx)):=fun W hW=>by
      have h1:=(HS2.out W hW).1
      have h2:=(HI2.out.keep hW).wt.cell (k:=x) (by rw[←HD.out.2.2];exact hxn)
      rw[←HD.out.1,←HD.out.2.1,←HD.out.2.2] at h1
      rw[←HD.out.2.1,←hgx] at h2
      exact⟨h1,h2⟩
     obtain⟨xs,hxs⟩:∃xs,xs=(iB d.g (q.cx.take j)).map Value.bool:=⟨_,rfl⟩
     have HNB:Hid ((iB d.g (q.cx.take (j+1))).map Value.bool=xs++[.bool (gx==1)]):=by unfold Hid;rw[Qb hx,hxs,hgx]
     have HRR:Hid (Bw w2 wr∧wr.heap[U]?=some (.cells #[.slice so q.os.length sc,.bool A,.bool false,.slice co j c2] 112 (0,0))∧wr.ownsRow (U+1) 4 1 (.slice co j c2) j xs∧U+1≤wr.heap.size):=by unfold Hid;rw[hxs];exact HR.out
     have hS0:=HS.out wr.drew HRR.out.1.drew
     have hr0:wr.drew.heap[U]?=some (.cells #[.slice so q.os.length sc,.bool A,.bool false,.slice co j c2] 112 (0,0)):=HRR.out.2.1
     have hT0:wr.drew.cell? ⟨U,0+3,none⟩=some (.slice co j c2):=by rw[cell_of_row wr.drew _ _ _ _ (0,0) hr0];rfl
     clear hx ev gg hxn hgx hj hjl HR hxs x0 x6 hr0
     go_upto_region 10 with fail
     clear y0
     obtain⟨i0,hi0,hz0,hz1,hz2⟩:=info_parts Tryz.F4
     refine fI 14 (fun W=>W.cell? ⟨I,0+4,none⟩=some (.slice (some ⟨R,0,none⟩) n n)∧W.cell? ⟨R,x,none⟩=some (.int .i64 gx)) (fun W=>W.cell? ⟨U,0+3,none⟩=some (.slice co j c2)) (by kernel_rfl) hS0 hT0 (fun hh=>?_)
     refine tj 0 57 (.pointer (some ⟨U,0+3,none⟩)) rfl (by rintro w ⟨s1,s2⟩;go_simp) hh ?_
     refine oU (i:=1) 12 (oi:=⟨some 58,_,_,_,_,_⟩) (v:=.slice co j c2) rfl (by kernel_rfl) (by kernel_rfl) (by kernel_rfl) (by kernel_rfl) (by kernel_rfl) (by kernel_rfl) (by kernel_rfl) (by kernel_rfl) (fun _ _ _ h=>h) (Or.inl ⟨by kernel_rfl,?_⟩) hh ?_
     ·intro w hSw;(try dsimp only at hSw);go_simp
     try simp only[tp]
     refine tj 2 59 (.pointer (some ⟨I,0,none⟩)) rfl (by rintro w ⟨s1,s2⟩;go_simp) hh ?_
     refine tj 3 60 (.pointer (some ⟨I,0,none⟩)) rfl (by rintro w ⟨s1,s2⟩;go_simp) hh ?_
     refine tj 4 61 (.pointer (some ⟨I,0+4,none⟩)) rfl (by rintro w ⟨s1,s2⟩;go_simp) hh ?_
     refine tj 5 62 (.slice (some ⟨R,0,none⟩) n n) rfl (by rintro w ⟨s1,s2⟩;go_simp) hh ?_
     refine tj 6 63 (.int .i64 (x:Nat)) rfl (by rintro w ⟨s1,s2⟩;go_simp) hh ?_
     refine tj 7 64 (.pointer (some ⟨R,x,none⟩)) rfl (by rintro w ⟨s1,s2⟩;go_simp) hh ?_
     refine tj 8 65 (.int .i64 gx) rfl (by rintro w ⟨s1,s2⟩;go_simp) hh ?_
     refine aS 9 (some 66) rfl fun K hK=>?_
     go_simp
     refine(lZ true _).mono ?_
     rintro e w5 ⟨rfl,rfl⟩
     go_wp2_with fail
     refine hK.out _ _ ⟨hS0,fun _=>hT0⟩ (fun hh=>?_)
     clear hK K
     try simp only[tp]
     refine tj 10 67 (.bool (gx==bB true)) rfl (by rintro w ⟨s1,s2⟩;go_simp) hh ?_
     refine aS 11 (some 68) rfl fun K hK=>?_
     go_simp
     obtain⟨wA,hwA⟩:∃wA,wA=(wr.alloc (.cells #[.bool (gx==bB true)] 4)).drew:=⟨_,rfl⟩
     obtain⟨Q,hQ⟩:∃Q,Q=wr.heap.size:=⟨_,rfl⟩
     have hbA:Bw wr wA:=by rw[hwA];exact(aH).drew
     have HOA:Hid (wA.ownsRow (U+1) 4 1 (.slice co j c2) j xs∧Bw w2 wA∧wA.heap[U]?=some (.cells #[.slice so q.os.length sc,.bool A,.bool false,.slice co j c2] 112 (0,0))∧U+1≤wA.heap.size):=⟨mK HRR.out.2.2.1 hbA,HRR.out.1.trans (hbA.mono HRR.out.1.size),aN hbA HRR.out.2.1,Nat.le_trans HRR.out.2.2.2 hbA.size⟩
     have HNA:Hid (∀k y,[Value.bool (gx==bB true)][k]?=some y→wA.cell? ((⟨Q,0,none⟩:Addr).add k)=some y):=by unfold Hid;rw[hwA,hQ];exact World.news_of_block (heap_alloc_new wr _)
     have hTA:wA.cell? ⟨U,0+3,none⟩=some (.slice co j c2):=cr HOA.out.2.2.1 rfl
     rw[←hwA,←hQ]
     refine hK.out _ _ ⟨HS.out wA HOA.out.2.1,fun _=>hTA⟩ (fun hh=>?_)
     clear hK K hwA hbA hQ hS0 hT0
     try simp only[tp]
     refine aS 12 (some 69) rfl fun K hK=>?_
     refine step_append_lies _ rfl (.tmp 58) (.tmp 68) 103 rfl (U+1) 4 i0 _ 1 1 Tryz.underlying103 hi0 hz0 hz1 hz2 rfl (by omega) (.slice co j c2) j _ (by simp [Act.eval]) HOA.out.1 ⟨Q,0,none⟩ 1 1 [.bool (gx==bB true)] (by simp [Act.eval]) rfl HNA.out (by simp [Value.oneCell']) (by omega) HMX.out.1 HMX.out.2 HOA.out.2.2.2 _ rfl ?_
     intro g cap w7 hown7 hgrow hat hlt7
     have hbl:∀k,(Value.slice co j c2).ownBlock=some k→U+1≤k:=fun k hk=>(HOA.out.1.lt k hk).1
     have hbw7:Bw w2 w7:=HOA.out.2.1.grown hgrow HOA.out.2.1.size (fun k hk=>by have:=hbl k hk;have:=HUS.out.1;omega)
     have hr7:w7.heap[U]?=some (.cells #[.slice so q.os.length sc,.bool A,.bool false,.slice co j c2] 112 (0,0)):=by
      rw[←HOA.out.2.2.1]
      exact hgrow.block U (by have:=HOA.out.2.2.2;omega) (fun e=>by have:=hbl U e.symm;omega)
     have HNX:Hid (Bw w2 w7∧w7.heap[U]?=some (.cells #[.slice so q.os.length sc,.bool A,.bool false,.slice co j c2] 112 (0,0))∧w7.ownsRow (U+1) 4 1 (.slice (some ⟨g,0,none⟩) (j+1) cap) (j+1) (xs++[.bool (gx==1)])∧U+1≤w7.heap.size):=⟨hbw7,hr7,hown7,Nat.le_trans HOA.out.2.2.2 hgrow.size⟩
     have hT7:w7.cell? ⟨U,0+3,none⟩=some (.slice co j c2):=cr hr7 rfl
     have f3:w7.frozen? ⟨U,0+3,none⟩=false:=bR hr7
     refine hK.out _ _ ⟨HS.out w7 hbw7,fun _=>hT7⟩ (fun hh=>?_)
     clear hK K
     try simp only[tp]
     refine tj 13 70 (.pointer (some ⟨U,0+3,none⟩)) rfl (by rintro w ⟨s1,s2⟩;go_simp) hh ?_
     refine aS 14 none rfl fun K hK=>?_
     go_simp
     have HN8:Hid (Bw w2 (w7.setCell ⟨U,0+3,none⟩ (.slice (some ⟨g,0,none⟩) (j+1) cap))∧(w7.setCell ⟨U,0+3,none⟩ (.slice (some ⟨g,0,none⟩) (j+1) cap)).heap[U]?=some (.cells #[.slice so q.os.length sc,.bool A,.bool false,.slice (some ⟨g,0,none⟩) (j+1) cap] 112 (0,0))∧(w7.setCell ⟨U,0+3,none⟩ (.slice (some ⟨g,0,none⟩) (j+1) cap)).ownsRow (U+1) 4 1 (.slice (some ⟨g,0,none⟩) (j+1) cap) (j+1) (xs++[.bool (gx==1)])∧U+1≤(w7.setCell ⟨U,0+3,none⟩ (.slice (some ⟨g,0,none⟩) (j+1) cap)).heap.size):=by
      have hg:=bW w7 U (0+3) (.slice (some ⟨g,0,none⟩) (j+1) cap)
      refine⟨HNX.out.1.grown hg HNX.out.1.size (fun k hk=>by obtain rfl:=Option.some.inj hk;rw[HUS.out.1];exact Nat.le_refl _),heap_setCell_same w7 U (0+3) _ _ _ HNX.out.2.1,iM HNX.out.2.2.1 (fun k hk=>hg.block k (HNX.out.2.2.1.lt k hk).2 (fun e=>by obtain rfl:=Option.some.inj e;have:=(HNX.out.2.2.1.lt _ hk).1;omega)),by rw[size_setCell];exact HNX.out.2.2.2⟩
     refine hK.out _ _ (Till.last (HS.out _ HN8.out.1)) (fun hh=>?_)
     clear hK K
     try simp only[tp]
     refine dU (by kernel_rfl) ?_ _
     clear hh hown7 hgrow hat hlt7 hbw7 hr7 hT7 f3 hbl HOA HNA hTA HNX
     go_wp2
     exact⟨⟨j+1,_,_,HJ.out,by (try rw[N4.out]);rfl,by rw[HNB.out];exact HN8.out⟩,by (try rw[N4.out]);have:=HJ.out;simp [intOf];omega⟩
    ·obtain rfl:nc=j:=by omega
     have HE:Hid (Bw w2 wr∧wr.heap[U]?=some (.cells #[.slice so q.os.length sc,.bool A,.bool false,.slice co nc c2] 112 (0,0))∧wr.ownsRow (U+1) 4 1 (.slice co nc c2) nc ((iB d.g q.cx).map Value.bool)∧U+1≤wr.heap.size):=by
      have h:=HR.out
      rw[List.take_of_length_le (by have:=HC.out.2.2.1;omega)] at h
      exact h
     clear hj hjl HR x0 x6
     have hru:=HE.out.2.1
     have u0:wr.cell? ⟨U,0,none⟩=some (.slice so q.os.length sc):=cr hru rfl
     have u1:wr.cell? ⟨U,0+1,none⟩=some (.bool A):=cr hru rfl
     have u2:wr.cell? ⟨U,0+2,none⟩=some (.bool false):=cr hru rfl
     have u3:wr.cell? ⟨U,0+3,none⟩=some (.slice co nc c2):=cr hru rfl
     have hr13:=aN HE.out.1 HV2.out.2.2.2.1
     have t0:wr.cell? ⟨T,0,none⟩=some (.slice none 0 0):=cr hr13 rfl
     have t1:wr.cell? ⟨T,0+1,none⟩=some (.bool false):=cr hr13 rfl
     have t2:wr.cell? ⟨T,0+2,none⟩=some (.bool false):=cr hr13 rfl
     have t3:wr.cell? ⟨T,0+3,none⟩=some (.slice none 0 0):=cr hr13 rfl
     have HFR:Hid (∀k,wr.frozen? ⟨T,k,none⟩=false):=fun k=>bR hr13
     have f0:=HFR.out 0
     have f1:=HFR.out (0+1)
     have f2:=HFR.out (0+2)
     have f3:=HFR.out (0+3)
     have HTR:=aA hr13
     clear hru hr13
     go_wp2
     obtain⟨wE,hwE⟩:∃wE,wE=(((wr.setCell ⟨T,0,none⟩ (.slice so q.os.length sc)).setCell ⟨T,1,none⟩ (.bool A)).setCell ⟨T,2,none⟩ (.bool false)).setCell ⟨T,3,none⟩ (.slice co nc c2):=⟨_,rfl⟩
     rw[←hwE]
     have hrE:wE.heap[T]?=some (.cells #[.slice so q.os.length sc,.bool A,.bool false,.slice co nc c2] 112 (0,0)):=by
      rw[hwE]
      exact heap_setCell_same _ T 3 _ _ _ (heap_setCell_same _ T 2 _ _ _ (heap_setCell_same _ T 1 _ _ _ (heap_setCell_same wr T 0 _ _ _ HTR.out)))
     have hg:wr.grownBy wE (some T):=by
      rw[hwE]
      exact dK (dK (dK (bW wr T 0 _) (bW _ T 1 _)) (bW _ T 2 _)) (bW _ T 3 _)
     have e0:wE.cell? ⟨T,0,none⟩=some (.slice so q.os.length sc):=cr hrE rfl
     have e1:wE.cell? ⟨T,0+1,none⟩=some (.bool A):=cr hrE rfl
     have e2:wE.cell? ⟨T,0+2,none⟩=some (.bool false):=cr hrE rfl
     have e3:wE.cell? ⟨T,0+3,none⟩=some (.slice co nc c2):=cr hrE rfl
     have HF:Hid (fB w.heap.size wE (.slice so q.os.length sc) (bM q d.g q.os)∧jN w.heap.size wE (.slice co nc c2) (iB d.g q.cx)∧Bw w wE):=by
      have hv:=HV2.out
      have he:=HE.out
      refine⟨?_,?_,(hv.2.1.trans (he.1.mono hv.2.1.size)).grown hg (hv.2.1.trans (he.1.mono hv.2.1.size)).size (fun k hk=>by obtain rfl:=Option.some.inj hk;exact hv.2.2.2.2.1)⟩
      ·have ho0:wr.ownsRow w1.heap.size 66 2 (.slice so q.os.length sc) q.os.length (bG (bM q d.g q.os)):=mK hv.1 he.1
       have ho:wE.ownsRow w1.heap.size 66 2 (.slice so q.os.length sc) q.os.length (bG (bM q d.g q.os)):=iM ho0 (fun k hk=>hg.block k (ho0.lt k hk).2 (fun e=>by
        obtain rfl:k=T:=Option.some.inj e
        have:=(ho0.lt k hk).1
        have:=hv.2.2.2.2.2
        omega))
       have hv2:=aB.iH (uJ ho (show w.heap.size≤w1.heap.size by have:=hv.2.2.2.2.1;have:=hv.2.2.2.2.2;omega))
       unfold fB
       rw[rX]
       exact hv2
      ·have ho:wE.ownsRow (U+1) 4 1 (.slice co nc c2) nc ((iB d.g q.cx).map Value.bool):=iM he.2.2.1 (fun k hk=>hg.block k (he.2.2.1.lt k hk).2 (fun e=>by
        obtain rfl:k=T:=Option.some.inj e
        have:=(he.2.2.1.lt k hk).1
        have:=hv.2.2.1
        have:=HUS.out.1
        omega))
       have hv2:=aB.iH (uJ ho (show w.heap.size≤U+1 by have:=hv.2.1.size;have:=HUS.out.1;omega))
       have hl:(iB d.g q.cx).length=nc:=by unfold iB;rw[List.length_map];exact HC.out.2.2.1.symm
       unfold jN
       rw[hl]
       exact hv2
     refine bodyPost_ret (v:=.agg #[.slice so q.os.length sc,.bool A,.bool false,.slice co nc c2]) ?_ rfl ?_
     ·simp [results,e0,e1,e2,e3,go_sem]
     ·rw[←HAA.out]
      exact⟨so,sc,co,c2,rfl,HF.out⟩
end Go.Proofs.YtmgfakcccfahaaaGreatDoor
