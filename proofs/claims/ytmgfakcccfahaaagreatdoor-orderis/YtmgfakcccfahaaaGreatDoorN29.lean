/-
  package order: slices.Index, slices.Contains of texts; Late BY CONTRACT.
-/
import Derived.Test.YtmgfakcccfahaaaGreatDoorN28
set_option maxRecDepth 100000
set_option maxHeartbeats 4000000
namespace Go.Proofs.YtmgfakcccfahaaaGreatDoor
open Go.RowKit Go.Maps

def eH(l:List Ex)(s:ByteArray):Bool:=l.any fun e=>s.toList==e.op.toList
theorem Dz{l:List Ex}{s:ByteArray}(h:∀(i:Nat) (x:Ex),l[i]?=some x→(s.toList==x.op.toList)=false):eH l s=false:=by
 unfold eH
 rw[List.any_eq_false]
 intro x hx
 obtain⟨i,hi⟩:=List.mem_iff_getElem?.1 hx
 rw[h i x hi]
 simp
theorem Dy{l:List Ex}{s:ByteArray}{i:Nat}{x:Ex}(hi:l[i]?=some x)(h:(s.toList==x.op.toList)=true):eH l s=true:=List.any_eq_true.2 ⟨x,List.mem_of_getElem? hi,h⟩
theorem MN(w:World)(S:Nat→Prop)(l:List Ex)(o:Option Addr)(c:Nat)(s:ByteArray)(h:aB w S 1 (.slice o l.length c) l.length (gU l))(hl:l.length≤2097152) :
  Calls Tryz.prog 92 #[.slice o l.length c,.string s] w fun e w'=>∃k:Int,e=.returned (.int .i64 k)∧decide (0≤k)=eH l s∧w'=w:=by
 have HI:=aA h
 have HL:=aA hl
 clear h hl
 go_enter Tryz.func92,Tryz.ntmps92
 go_wp2
 go_loopw [8] (fun t wr=>∃(j:Nat),j≤l.length∧t=.int .i64 j∧wr=w∧Hid (∀(i:Nat) (x:Ex),i<j→l[i]?=some x→(s.toList==x.op.toList)=false)) (fun t _=>l.length-(intOf t).toNat)
 case atStart=>exact⟨0,Nat.zero_le _,rfl,rfl,fun i x hi=>by omega⟩
 case round=>
  obtain⟨j,hj,rfl,rfl,HJ⟩:=hrel
  by_cases hjl:j<l.length
  ·obtain⟨x,hx⟩:∃x,l[j]?=some x:=⟨_,List.getElem?_eq_getElem hjl⟩
   obtain⟨b,off,cp,ev,_,_,g⟩:=HI.out.at (by rw[vC];omega)
   obtain⟨rfl,rfl⟩:o=some ⟨b,off,none⟩∧c=cp:=by simpa using ev
   have y0:=g j (.string x.op) (by rw[vD hjl];rw[List.getElem?_eq_getElem hjl] at hx;rw[Option.some.inj hx])
   have i0':(0:Int)≤(j:Int):=by omega
   have i1':(j:Int)<(l.length:Int):=by omega
   have HX:Hid (l[j]?=some x∧j<l.length):=⟨hx,hjl⟩
   have N4:Hid (wrap64 ((j:Int)+1)=(j:Int)+1):=by have:=HL.out;unfold Hid wrap64;omega
   clear ev g hx hj hjl
   by_cases he:(s.toList==x.op.toList)=true
   ·have HE:Hid (eH l s=true):=Dy HX.out.1 he
    go_wp2
    go_ret
    exact⟨(j:Int),rfl,by rw[HE.out];simp,rfl⟩
   ·have he':(s.toList==x.op.toList)=false:=by simpa using he
    have HN:Hid (∀(i:Nat) (x:Ex),i<j+1→l[i]?=some x→(s.toList==x.op.toList)=false):=fun i y hi hy=>by
     by_cases e:i=j
     ·subst e
      rw[HX.out.1] at hy
      rw[←Option.some.inj hy]
      exact he'
     ·exact HJ.out i y (by omega) hy
    clear he
    go_wp2
    exact⟨⟨j+1,HX.out.2,by rw[N4.out];rfl,trivial,HN.out⟩,by rw[N4.out];have:=HX.out.2;simp [intOf];omega⟩
  ·obtain rfl:j=l.length:=by omega
   have HE:Hid (eH l s=false):=Dz fun i x hi=>HJ.out i x (aX hi).1 hi
   clear hj hjl HJ
   go_wp2
   go_ret
   exact⟨-1,rfl,by rw[HE.out];rfl,rfl⟩
theorem NT(w:World)(S:Nat→Prop)(l:List Ex)(o:Option Addr)(c:Nat)(s:ByteArray)(h:aB w S 1 (.slice o l.length c) l.length (gU l))(hl:l.length≤2097152) :
  Calls Tryz.prog 47 #[.slice o l.length c,.string s] w fun e w'=>e=.returned (.bool (eH l s))∧w'=w:=by
 have HC:Hid (Calls Tryz.prog 92 #[.slice o l.length c,.string s] w fun e w'=>∃k:Int,e=.returned (.int .i64 k)∧decide (0≤k)=eH l s∧w'=w):=MN w S l o c s h hl
 clear h hl
 go_enter Tryz.func47,Tryz.ntmps47
 go_wp2_with fail
 refine HC.out.mono ?_
 rintro e w' ⟨k,rfl,hk,hw⟩
 subst hw
 have HK:=aA hk
 clear hk HC
 go_wp2
 go_ret
 exact⟨by rw[←HK.out];rfl,rfl⟩
def dP(p:Pg)(f:List UInt8→Nat):Nat→Int:=fun k=>match p.fs[k]? with
 | some x=>(f x.name.data.toList:Nat)
 | none=>0
def Ff(p:Pg)(E:gW)(base:Nat)(e:Ending)(w':World):Prop:=
 (∃(d:List Nat) (f:List UInt8→Nat) (nb:Nat),iT p d∧gV p.fs f∧e=.returned (.tuple #[.slice (some ⟨nb,0,none⟩) p.fs.length p.fs.length,.nilIface])∧base≤nb∧bD w' nb p.fs.length (dP p f)) ∨
 ∃t x,j4 p E w' t x∧e=.returned (.tuple #[.slice none 0 0,.iface t x])
theorem CU(w:World)(S:Nat→Prop)(p:Pg)(o1 o2 o3 o4 o5:Option Addr)(c1 c2 c3 c4 c5:Nat)(E:gW)(h:iR w S p o1 o2 o3 o4 o5 c1 c2 c3 c4 c5 E) :
  Calls Tryz.prog 11 #[.agg #[.slice o1 p.ins.length c1,.slice o2 p.outs.length c2,.slice o3 p.fs.length c3,.slice o4 p.asserts.length c4,.slice o5 p.checks.length c5]] w fun e w'=>Bw w w'∧Ff p E w.heap.size e w':=by
 obtain⟨w1,hw1⟩:∃w1,w1=w.alloc (.cells #[.slice o1 p.ins.length c1,.slice o2 p.outs.length c2,.slice o3 p.fs.length c3,.slice o4 p.asserts.length c4,.slice o5 p.checks.length c5] 39):=⟨_,rfl⟩
 have hb1:Bw w w1:=by rw[hw1];exact aH
 have hr1:w1.heap[w.heap.size]?=some (.cells #[.slice o1 p.ins.length c1,.slice o2 p.outs.length c2,.slice o3 p.fs.length c3,.slice o4 p.asserts.length c4,.slice o5 p.checks.length c5] 39 (0,0)):=by rw[hw1];exact heap_alloc_new _ _
 have HFC:Hid (Calls Tryz.prog 41 #[.agg #[.slice o1 p.ins.length c1,.slice o2 p.outs.length c2,.slice o3 p.fs.length c3,.slice o4 p.asserts.length c4,.slice o5 p.checks.length c5]] w1 fun e w'=>Bw w1 w'∧Ah p E w1.heap.size e w'):=CR w1 S p o1 o2 o3 o4 o5 c1 c2 c3 c4 c5 E (h.keep hb1)
 have HW1:Hid (w.alloc (.cells #[.slice o1 p.ins.length c1,.slice o2 p.outs.length c2,.slice o3 p.fs.length c3,.slice o4 p.asserts.length c4,.slice o5 p.checks.length c5] 39)=w1):=hw1.symm
 have HB1:=aA hb1
 obtain⟨P,hP⟩:∃P,P=w.heap.size:=⟨_,rfl⟩
 have HP:=aA hP
 rw[←hP] at hr1
 have HR1:=aA hr1
 have a1:w1.cell? ⟨P,0,none⟩=some (.slice o1 p.ins.length c1):=cr hr1 rfl
 have a2:w1.cell? ⟨P,0+1,none⟩=some (.slice o2 p.outs.length c2):=cr hr1 rfl
 have a3:w1.cell? ⟨P,0+2,none⟩=some (.slice o3 p.fs.length c3):=cr hr1 rfl
 have a4:w1.cell? ⟨P,0+3,none⟩=some (.slice o4 p.asserts.length c4):=cr hr1 rfl
 have a5:w1.cell? ⟨P,0+4,none⟩=some (.slice o5 p.checks.length c5):=cr hr1 rfl
 have HG:=aA h
 have hmk:=nQ Tryz.underlying30 Tryz.lH rfl p.fs.length (by have:=h.ok.vars;omega) (by omega)
 have HMK:=aA hmk
 clear h hw1 hb1 hr1 hP hmk
 go_enter Tryz.func11,Tryz.ntmps11
 go_upto_region 1 with fail
 rw[HW1.out,←HP.out]
 go_wp2_with fail
 refine HFC.out.mono ?_
 rintro e w2 ⟨hb2,hor⟩
 have HB12:=aA hb2
 have HB2:Hid (Bw w w2):=HB1.out.trans (hb2.mono HB1.out.size)
 clear hb2 a1 a2 a3 a4 a5 HFC
 rcases hor with⟨d,K,nK,g,hok,rfl,hbK,hfn,hgo,hlt⟩ | ⟨t,x,hte,rfl⟩
 ·have a3:w2.cell? ⟨P,0+2,none⟩=some (.slice o3 p.fs.length c3):=by rw[cell_of_row w2 _ _ _ _ (0,0) (aG HB12.out HR1.out)];rfl
  obtain⟨nb,hnb⟩:∃nb,nb=w2.heap.size:=⟨_,rfl⟩
  obtain⟨w3,hw3⟩:∃w3,w3=w2.alloc (.cells (Array.replicate p.fs.length (.int .i64 0)) 3):=⟨_,rfl⟩
  have hb3:Bw w2 w3:=by rw[hw3];exact aH
  have HS3:Hid (Bw w2 w3∧bD w3 nb p.fs.length (fun _=>0)):=⟨hb3,by rw[hw3,hnb];exact bD.made w2 _⟩
  have b3:w3.cell? ⟨P,0+2,none⟩=some (.slice o3 p.fs.length c3):=aF hb3 a3
  have HW3:Hid (w2.alloc (.cells (Array.replicate p.fs.length (.int .i64 0)) 3)=w3∧w2.heap.size=nb):=⟨hw3.symm,hnb.symm⟩
  have HFN:Hid (aR w2 K nK (aS g)∧jS g∧gV p.fs (aL g)∧iT p d):=⟨hfn,hgo,hlt,hok⟩
  have HNM:Hid (∀x∈p.fs,x.name.size≤maxLen):=fun x hx=>HG.out.ok.names (x.name,x.kind) (by unfold aK dD;exact List.mem_append_right _ (List.mem_map.2 ⟨_,hx,rfl⟩))
  have HDL:Hid (p.fs.length≤1000):=by have:=HG.out.ok.vars;unfold Hid;omega
  have hmk:=HMK.out
  clear hok hfn hgo hlt hw3 hb3 hnb hbK
  go_upto_region 5 with fail
  rw[HW3.out.2,HW3.out.1]
  clear hmk a3
  go_wp2
  clear b3
  go_loopw [24] (fun t wr=>∃(j:Nat),j≤p.fs.length∧t=.int .i64 j∧Hid (Bw w2 wr∧bD wr nb p.fs.length (fun k=>if k<j then dP p (aL g) k else 0))) (fun t _=>p.fs.length-(intOf t).toNat)
  case atStart=>exact⟨0,Nat.zero_le _,rfl,HS3.out.1,HS3.out.2.congr (fun k _=>by simp)⟩
  case round=>
   obtain⟨j,hj,rfl,HR⟩:=hrel
   by_cases hjl:j<p.fs.length
   ·have hbr:=HR.out.1
    obtain⟨_,_,⟨xs,hfr,hfi⟩,_,_⟩:=(HG.out.keep (HB2.out.trans (hbr.mono HB2.out.size))).pg
    obtain⟨name,kind,op',n',s',es,oo,cc,zs,e,x0,x1,x2,x3,x4,x5,r1,r2⟩:=hfi.at hjl
    obtain⟨b,off,cp,ev,_,_,gg2⟩:=hfr.at (by have:=hfr.1;omega)
    obtain⟨rfl,rfl⟩:o3=some ⟨b,off,none⟩∧c3=cp:=by simpa using ev
    have y0:=gg2 _ _ x0
    have y1:=gg2 _ _ x1
    have y2:=gg2 _ _ x2
    have y3:=gg2 _ _ x3
    have y4:=gg2 _ _ x4
    have y5:=gg2 _ _ x5
    rw[←Nat.add_assoc] at y1 y2 y3 y4 y5
    have i0':(0:Int)≤(j:Int):=by omega
    have i1':(j:Int)<(p.fs.length:Int):=by omega
    have ej:p.fs[j]?=some ⟨name,kind,.mk op' n' s' es⟩:=by rw[List.getElem?_eq_getElem hjl,e]
    have hsn:name.size≤maxLen:=HNM.out _ (List.mem_of_getElem? ej)
    obtain⟨w4,hw4⟩:∃w4,w4=wr.alloc (.cells #[.string name,.int .i64 kind,.string op',.int .i64 n',.string s',.slice oo es.length cc] 95):=⟨_,rfl⟩
    have hb4:Bw wr w4:=by rw[hw4];exact aH
    have hr4:w4.heap[wr.heap.size]?=some (.cells #[.string name,.int .i64 kind,.string op',.int .i64 n',.string s',.slice oo es.length cc] 95 (0,0)):=by rw[hw4];exact heap_alloc_new _ _
    obtain⟨B,hB⟩:∃B,B=wr.heap.size:=⟨_,rfl⟩
    rw[←hB] at hr4
    have z0:w4.cell? ⟨B,0,none⟩=some (.string name):=cr hr4 rfl
    have hb24:=hbr.trans (hb4.mono hbr.size)
    have hfn4:aR w4 K nK (aS g):=HFN.out.1.kept (hb24.block _ HFN.out.1.lt)
    have hlk:=hfn4.nR Tryz.underlying96 (jL w4) name hsn
    have e1:(aS g name.data.toList).getD (.int .i64 0)=.int .i64 ((g name.data.toList).getD 0):=lT _
    rw[e1,vJ HFN.out.2.1] at hlk
    obtain⟨q,hq⟩:∃q,q=aL g name.data.toList:=⟨_,rfl⟩
    rw[←hq] at hlk
    have hwt4:bD w4 nb p.fs.length (fun k=>if k<j then dP p (aL g) k else 0):=(hb4.block _ HR.out.2.lt).trans HR.out.2
    have t0:=hwt4.cell hjl
    have t1:=hwt4.free j
    have HN:Hid (Bw w2 (w4.setCell ⟨nb,j,none⟩ (.int .i64 q))∧bD (w4.setCell ⟨nb,j,none⟩ (.int .i64 q)) nb p.fs.length (fun k=>if k<j+1 then dP p (aL g) k else 0)):=by
     refine⟨hb24.setCell (by have:=HW3.out.2;show w2.heap.size≤nb;omega) _,(hwt4.set j q).congr fun k hk=>?_⟩
     by_cases e:k=j
     ·subst e
      rw[if_pos rfl,if_pos (by omega),hq]
      unfold dP
      rw[ej]
     ·rw[if_neg e]
      by_cases e2:k<j
      ·rw[if_pos e2,if_pos (by omega)]
      ·rw[if_neg e2,if_neg (by omega)]
    have HJ:=aA hjl
    have N4:Hid (wrap64 ((j:Int)+1)=(j:Int)+1):=by have:=HDL.out;have:=HJ.out;unfold Hid wrap64;omega
    have HW4:Hid (wr.alloc (.cells #[.string name,.int .i64 kind,.string op',.int .i64 n',.string s',.slice oo es.length cc] 95)=w4∧wr.heap.size=B):=⟨hw4.symm,hB.symm⟩
    clear hbr hfr hfi e x0 x1 x2 x3 x4 x5 r1 r2 ev gg2 ej hsn hw4 hb4 hr4 hB hb24 hfn4 e1 hq hwt4 hj hjl HR
    go_upto_region 8 with fail
    rw[HW4.out.1,HW4.out.2]
    clear y0 y1 y2 y3 y4 y5
    go_wp2
    exact⟨⟨j+1,HJ.out,by rw[N4.out];rfl,HN.out⟩,by rw[N4.out];have:=HJ.out;simp [intOf];omega⟩
   ·obtain rfl:j=p.fs.length:=by omega
    have HE:Hid (Bw w wr∧w.heap.size≤nb∧bD wr nb p.fs.length (dP p (aL g))):=⟨HB2.out.trans (HR.out.1.mono HB2.out.size),by have:=HW3.out.2;have:=HB2.out.size;omega,HR.out.2.congr fun k hk=>by rw[if_pos hk]⟩
    clear hj hjl HR
    go_wp2
    refine bodyPost_ret (results_tmp2 rfl _ _ _) rfl ?_
    exact⟨HE.out.1,.inl ⟨d,aL g,nb,HFN.out.2.2.2,HFN.out.2.2.1,rfl,HE.out.2.1,HE.out.2.2⟩⟩
 ·have HTE:=aA hte
  clear hte
  go_wp2
  refine bodyPost_ret (results_tmp2 rfl _ _ _) rfl ?_
  exact⟨HB2.out,.inr ⟨t,x,HTE.out,rfl⟩⟩

def dR(p:Pg)(f:List UInt8→Nat)(x:Fw):Bool:=f x.name.data.toList==2||(f x.name.data.toList==1&&eH p.outs x.name)
def o7(p:Pg)(E:gW)(e:Ending)(w':World):Prop:=
 (∃t x,j4 p E w' t x∧e=.returned (.iface t x)) ∨
 ∃(d:List Nat) (f:List UInt8→Nat),iT p d∧gV p.fs f ∧
  ((∃(m b:Nat) (x:Fw),p.fs[m]?=some x∧dR p f x=true∧(∀(j:Nat) (y:Fw),j<m→p.fs[j]?=some y→dR p f y=false)∧e=.returned (.iface 83 (.pointer (some ⟨b,0,none⟩)))∧w'.cell? ⟨b,0,none⟩=some (.int .i64 (m:Int))∧w'.cell? ⟨b,0+1,none⟩=some (.iface E.ft E.fq)) ∨
  (∀(j:Nat) (y:Fw),p.fs[j]?=some y→dR p f y=false) ∧
   ((∃y∈p.asserts++p.checks,0<aO f y)∧e=.returned (.iface E.ft E.fq)∨(∀y∈p.asserts++p.checks,aO f y=0)∧e=.returned .nilIface))
theorem Cc(w:World)(S:Nat→Prop)(p:Pg)(o1 o2 o3 o4 o5:Option Addr)(c1 c2 c3 c4 c5:Nat)(E:gW)(h:iR w S p o1 o2 o3 o4 o5 c1 c2 c3 c4 c5 E) :
  Calls Tryz.prog 14 #[.agg #[.slice o1 p.ins.length c1,.slice o2 p.outs.length c2,.slice o3 p.fs.length c3,.slice o4 p.asserts.length c4,.slice o5 p.checks.length c5]] w fun e w'=>Bw w w'∧o7 p E e w':=by
 obtain⟨w1,hw1⟩:∃w1,w1=w.alloc (.cells #[.slice o1 p.ins.length c1,.slice o2 p.outs.length c2,.slice o3 p.fs.length c3,.slice o4 p.asserts.length c4,.slice o5 p.checks.length c5] 39):=⟨_,rfl⟩
 have hb1:Bw w w1:=by rw[hw1];exact aH
 have hr1:w1.heap[w.heap.size]?=some (.cells #[.slice o1 p.ins.length c1,.slice o2 p.outs.length c2,.slice o3 p.fs.length c3,.slice o4 p.asserts.length c4,.slice o5 p.checks.length c5] 39 (0,0)):=by rw[hw1];exact heap_alloc_new _ _
 have HFC:Hid (Calls Tryz.prog 41 #[.agg #[.slice o1 p.ins.length c1,.slice o2 p.outs.length c2,.slice o3 p.fs.length c3,.slice o4 p.asserts.length c4,.slice o5 p.checks.length c5]] w1 fun e w'=>Bw w1 w'∧Ah p E w1.heap.size e w'):=CR w1 S p o1 o2 o3 o4 o5 c1 c2 c3 c4 c5 E (h.keep hb1)
 have HW1:Hid (w.alloc (.cells #[.slice o1 p.ins.length c1,.slice o2 p.outs.length c2,.slice o3 p.fs.length c3,.slice o4 p.asserts.length c4,.slice o5 p.checks.length c5] 39)=w1):=hw1.symm
 have HB1:=aA hb1
 obtain⟨P,hP⟩:∃P,P=w.heap.size:=⟨_,rfl⟩
 have HP:=aA hP
 rw[←hP] at hr1
 have HR1:=aA hr1
 have a1:w1.cell? ⟨P,0,none⟩=some (.slice o1 p.ins.length c1):=cr hr1 rfl
 have a2:w1.cell? ⟨P,0+1,none⟩=some (.slice o2 p.outs.length c2):=cr hr1 rfl
 have a3:w1.cell? ⟨P,0+2,none⟩=some (.slice o3 p.fs.length c3):=cr hr1 rfl
 have a4:w1.cell? ⟨P,0+3,none⟩=some (.slice o4 p.asserts.length c4):=cr hr1 rfl
 have a5:w1.cell? ⟨P,0+4,none⟩=some (.slice o5 p.checks.length c5):=cr hr1 rfl
 have HG:=aA h
 clear h hw1 hb1 hr1 hP
 go_enter Tryz.func14,Tryz.ntmps14
 go_upto_region 1 with fail
 rw[HW1.out,←HP.out]
 go_wp2_with fail
 refine HFC.out.mono ?_
 rintro e w2 ⟨hb2,hor⟩
 have HB12:=aA hb2
 have HB2:Hid (Bw w w2):=HB1.out.trans (hb2.mono HB1.out.size)
 clear hb2 a1 a2 a3 a4 a5 HFC
 rcases hor with⟨d,K,nK,g,hok,rfl,hbK,hfn,hgo,hlt⟩ | ⟨t,x,hte,rfl⟩
 ·have a3:w2.cell? ⟨P,0+2,none⟩=some (.slice o3 p.fs.length c3):=by rw[cell_of_row w2 _ _ _ _ (0,0) (aG HB12.out HR1.out)];rfl
  have HR2:Hid (w2.heap[P]?=some (.cells #[.slice o1 p.ins.length c1,.slice o2 p.outs.length c2,.slice o3 p.fs.length c3,.slice o4 p.asserts.length c4,.slice o5 p.checks.length c5] 39 (0,0))):=aG HB12.out HR1.out
  have HFN:Hid (aR w2 K nK (aS g)∧jS g∧gV p.fs (aL g)∧iT p d):=⟨hfn,hgo,hlt,hok⟩
  have HNM:Hid (∀x∈p.fs,x.name.size≤maxLen):=fun x hx=>HG.out.ok.names (x.name,x.kind) (by unfold aK dD;exact List.mem_append_right _ (List.mem_map.2 ⟨_,hx,rfl⟩))
  have HDL:Hid (p.fs.length≤1000):=by have:=HG.out.ok.vars;unfold Hid;omega
  clear hok hfn hgo hlt hbK
  go_wp2
  clear a3
  go_loopw [21] (fun t wr=>∃(j:Nat),j≤p.fs.length∧t=.int .i64 j∧Hid (Bw w2 wr∧∀(i:Nat) (y:Fw),i<j→p.fs[i]?=some y→dR p (aL g) y=false)) (fun t _=>p.fs.length-(intOf t).toNat)
  case atStart=>exact⟨0,Nat.zero_le _,rfl,Below.refl _ _,fun i y hi=>by omega⟩
  case round=>
   obtain⟨j,hj,rfl,HR⟩:=hrel
   by_cases hjl:j<p.fs.length
   ·have hbr:=HR.out.1
    have hGr:=HG.out.keep (HB2.out.trans (hbr.mono HB2.out.size))
    obtain⟨_,_,⟨xs,hfr,hfi⟩,_,_⟩:=hGr.pg
    obtain⟨name,kind,op',n',s',es,oo,cc,zs,e,x0,x1,x2,x3,x4,x5,r1,r2⟩:=hfi.at hjl
    obtain⟨b,off,cp,ev,_,_,gg2⟩:=hfr.at (by have:=hfr.1;omega)
    obtain⟨rfl,rfl⟩:o3=some ⟨b,off,none⟩∧c3=cp:=by simpa using ev
    have y0:=gg2 _ _ x0
    have y1:=gg2 _ _ x1
    have y2:=gg2 _ _ x2
    have y3:=gg2 _ _ x3
    have y4:=gg2 _ _ x4
    have y5:=gg2 _ _ x5
    rw[←Nat.add_assoc] at y1 y2 y3 y4 y5
    have i0':(0:Int)≤(j:Int):=by omega
    have i1':(j:Int)<(p.fs.length:Int):=by omega
    have ej:p.fs[j]?=some ⟨name,kind,.mk op' n' s' es⟩:=by rw[List.getElem?_eq_getElem hjl,e]
    have hsn:name.size≤maxLen:=HNM.out _ (List.mem_of_getElem? ej)
    obtain⟨w4,hw4⟩:∃w4,w4=wr.alloc (.cells #[.string name,.int .i64 kind,.string op',.int .i64 n',.string s',.slice oo es.length cc] 95):=⟨_,rfl⟩
    have hb4:Bw wr w4:=by rw[hw4];exact aH
    have hr4:w4.heap[wr.heap.size]?=some (.cells #[.string name,.int .i64 kind,.string op',.int .i64 n',.string s',.slice oo es.length cc] 95 (0,0)):=by rw[hw4];exact heap_alloc_new _ _
    obtain⟨B,hB⟩:∃B,B=wr.heap.size:=⟨_,rfl⟩
    rw[←hB] at hr4
    have z0:w4.cell? ⟨B,0,none⟩=some (.string name):=cr hr4 rfl
    have hb24:=hbr.trans (hb4.mono hbr.size)
    have z2:w4.cell? ⟨P,0+1,none⟩=some (.slice o2 p.outs.length c2):=by rw[cell_of_row w4 _ _ _ _ (0,0) (aG hb24 HR2.out)];rfl
    have hfn4:aR w4 K nK (aS g):=HFN.out.1.kept (hb24.block _ HFN.out.1.lt)
    have hlk:=hfn4.nR Tryz.underlying96 (jL w4) name hsn
    have e1:(aS g name.data.toList).getD (.int .i64 0)=.int .i64 ((g name.data.toList).getD 0):=lT _
    rw[e1,vJ HFN.out.2.1] at hlk
    obtain⟨q,hq⟩:∃q,q=aL g name.data.toList:=⟨_,rfl⟩
    rw[←hq] at hlk
    have hq2:q≤2:=by rw[hq];exact yN HFN.out.2.1 _
    have HBD:Hid (dR p (aL g) ⟨name,kind,.mk op' n' s' es⟩=(q==2||(q==1&&eH p.outs name))):=by unfold Hid dR;rw[←hq]
    have hG4:=hGr.keep hb4
    have HCT:Hid (Calls Tryz.prog 47 #[.slice o2 p.outs.length c2,.string name] w4 fun e w'=>e=.returned (.bool (eH p.outs name))∧w'=w4):=NT w4 S p.outs o2 c2 name hG4.pg.outs HG.out.ok.outs
    have gf:w4.cell? ⟨1,0,none⟩=some (.iface E.ft E.fq):=hG4.fst
    have HJ:Hid (j<p.fs.length∧p.fs[j]?=some ⟨name,kind,.mk op' n' s' es⟩):=⟨hjl,ej⟩
    have HB24:=aA hb24
    have HRR:Hid (∀(i:Nat) (y:Fw),i<j→p.fs[i]?=some y→dR p (aL g) y=false):=HR.out.2
    have HNX:Hid (dR p (aL g) ⟨name,kind,.mk op' n' s' es⟩=false→∀(i:Nat) (y:Fw),i<j+1→p.fs[i]?=some y→dR p (aL g) y=false):=fun hbad i y hi hy=>by
     by_cases e:i=j
     ·subst e
      rw[HJ.out.2] at hy
      rw[←Option.some.inj hy]
      exact hbad
     ·exact HRR.out i y (by omega) hy
    have HFT:Hid (∀W,Bw w2 W→dR p (aL g) ⟨name,kind,.mk op' n' s' es⟩=true→Bw w (W.alloc (.cells #[.int .i64 (j:Int),.iface E.ft E.fq] 86))∧o7 p E (.returned (.iface 83 (.pointer (some ⟨W.heap.size,0,none⟩)))) (W.alloc (.cells #[.int .i64 (j:Int),.iface E.ft E.fq] 86))):=fun W hW hbad=>
     ⟨(HB2.out.trans (hW.mono HB2.out.size)).alloc (HB2.out.trans (hW.mono HB2.out.size)).size _,.inr ⟨d,aL g,HFN.out.2.2.2,HFN.out.2.2.1,.inl ⟨j,W.heap.size,_,HJ.out.2,hbad,HRR.out,rfl,by rw[cell_of_row _ _ _ _ _ (0,0) (heap_alloc_new _ _)];rfl,by rw[cell_of_row _ _ _ _ _ (0,0) (heap_alloc_new _ _)];rfl⟩⟩⟩
    have N4:Hid (wrap64 ((j:Int)+1)=(j:Int)+1):=by have:=HDL.out;have:=HJ.out.1;unfold Hid wrap64;omega
    have HW4:Hid (wr.alloc (.cells #[.string name,.int .i64 kind,.string op',.int .i64 n',.string s',.slice oo es.length cc] 95)=w4∧wr.heap.size=B):=⟨hw4.symm,hB.symm⟩
    have hq3:q=0∨q=1∨q=2:=by omega
    clear hbr hGr hfr hfi e x0 x1 x2 x3 x4 x5 r1 r2 ev gg2 ej hsn hw4 hb4 hr4 hB hb24 hfn4 e1 hq hq2 hG4 hj hjl HR
    go_upto_region 7 with fail
    rw[HW4.out.1,HW4.out.2]
    clear y0 y1 y2 y3 y4 y5
    rcases hq3 with rfl | rfl | rfl
    ·have hl2:(Instr.lookup 96 (.map (some K)) (.string name) false).run Tryz.prog w4=.ok (.int .i64 0) w4:=hlk
     clear hlk
     go_wp2
     exact⟨⟨j+1,HJ.out.1,by rw[N4.out];rfl,HB24.out,HNX.out (by rw[HBD.out];rfl)⟩,by rw[N4.out];have:=HJ.out.1;simp [intOf];omega⟩
    ·have hl2:(Instr.lookup 96 (.map (some K)) (.string name) false).run Tryz.prog w4=.ok (.int .i64 1) w4:=hlk
     clear hlk
     go_wp2_with fail
     refine HCT.out.mono ?_
     rintro e w5 ⟨rfl,hw5⟩
     subst hw5
     cases hhs:eH p.outs name with
     | true=>
      have HBB:Hid (dR p (aL g) ⟨name,kind,.mk op' n' s' es⟩=true):=by unfold Hid;rw[HBD.out,hhs];rfl
      clear hhs
      go_wp2
      go_ret
      exact HFT.out w5 HB24.out HBB.out
     | false=>
      have HBB:Hid (dR p (aL g) ⟨name,kind,.mk op' n' s' es⟩=false):=by unfold Hid;rw[HBD.out,hhs];rfl
      clear hhs
      go_wp2
      exact⟨⟨j+1,HJ.out.1,by rw[N4.out];rfl,HB24.out,HNX.out HBB.out⟩,by rw[N4.out];have:=HJ.out.1;simp [intOf];omega⟩
    ·have hl2:(Instr.lookup 96 (.map (some K)) (.string name) false).run Tryz.prog w4=.ok (.int .i64 2) w4:=hlk
     clear hlk
     go_wp2
     go_ret
     exact HFT.out w4 HB24.out (by rw[HBD.out];rfl)
   ·obtain rfl:j=p.fs.length:=by omega
    have hbr:=HR.out.1
    have hbw:Bw w wr:=HB2.out.trans (hbr.mono HB2.out.size)
    have HNB:Hid (∀(j:Nat) (y:Fw),p.fs[j]?=some y→dR p (aL g) y=false):=fun i y hy=>HR.out.2 i y (aX hy).1 hy
    have hr:=aG hbr HR2.out
    have b3:wr.cell? ⟨P,0+3,none⟩=some (.slice o4 p.asserts.length c4):=cr hr rfl
    have b4:wr.cell? ⟨P,0+4,none⟩=some (.slice o5 p.checks.length c5):=cr hr rfl
    obtain⟨_,_,_,⟨x4,h4,g4⟩,⟨x5,h5,g5⟩⟩:=HG.out.pg
    obtain⟨N,hN⟩:∃N,N=p.asserts.length+p.checks.length:=⟨_,rfl⟩
    obtain⟨wB,hwB⟩:∃wB,wB=wr.alloc (.cells #[.slice o4 p.asserts.length c4,.slice o5 p.checks.length c5] 37):=⟨_,rfl⟩
    have hbB:Bw w wB:=by rw[hwB];exact hbw.alloc hbw.size _
    have hb2B:Bw w2 wB:=by rw[hwB];exact hbr.alloc hbr.size _
    have hrB:wB.heap[wr.heap.size]?=some (.cells #[.slice o4 p.asserts.length c4,.slice o5 p.checks.length c5] 37 (0,0)):=by rw[hwB];exact heap_alloc_new _ _
    have hst:aP S S w wB:=fun b hb hl=>⟨hb,hbB.block b hl⟩
    have hcc:=Eh wB S [(o4,p.asserts.length,c4,x4),(o5,p.checks.length,c5,x5)] wr.heap.size 2 (fun i q hq=>by
     match i,hq with
     | 0,hq=>
      obtain rfl:=Option.some.inj hq
      exact⟨cr hrB rfl,h4.keep hst,qZ g4⟩
     | 1,hq=>
      obtain rfl:=Option.some.inj hq
      exact⟨cr hrB rfl,h5.keep hst,qZ g5⟩
     | i+2,hq=>cases hq) (by simp) (by have:=HG.out.ok.terms;simp [dF];omega)
    rw[show dF [(o4,p.asserts.length,c4,x4),(o5,p.checks.length,c5,x5)]=N from by rw[hN];simp [dF],show kY [(o4,p.asserts.length,c4,x4),(o5,p.checks.length,c5,x5)]=x4++x5 from by simp [kY]] at hcc
    have HXE:Hid (aI w S (p.asserts++p.checks) (x4++x5)):=g4.append g5
    have HNN:Hid (N=p.asserts.length+p.checks.length∧N≤4000):=⟨hN,by have:=HG.out.ok.terms;omega⟩
    have HWB:Hid (wr.alloc (.cells #[.slice o4 p.asserts.length c4,.slice o5 p.checks.length c5] 37)=wB):=hwB.symm
    have HBB:=aA hb2B
    have HCC:=aA hcc
    clear hj hjl HR hbr hbw hr h4 g4 h5 g5 hN hwB hbB hb2B hrB hst hcc
    go_wp2_with fail
    rw[HWB.out]
    refine HCC.out.mono ?_
    rintro e w6 ⟨g0,cap0,rfl,hown6,hb6⟩
    have HOW:=aA hown6
    have HB6:Hid (Bw w2 w6):=HBB.out.trans (hb6.mono HBB.out.size)
    clear hown6 hb6 b3 b4 HCC
    go_wp2
    go_loopw [56] (fun t wr=>∃(j:Nat),j≤N∧t=.int .i64 j∧Hid (Bw w6 wr∧∀(i:Nat) (y:Ex),i<j→(p.asserts++p.checks)[i]?=some y→aO (aL g) y=0)) (fun t _=>N-(intOf t).toNat)
    case atStart=>exact⟨0,Nat.zero_le _,rfl,Below.refl _ _,fun i y hi=>by omega⟩
    case round=>
     obtain⟨j,hj,rfl,HR⟩:=hrel
     by_cases hjl:j<N
     ·have hjk:j<(p.asserts++p.checks).length:=by rw[List.length_append,←HNN.out.1];exact hjl
      obtain⟨op',n',s',es,oo,cc,zs,e,x0,x1,x2,x3,r1,r2⟩:=HXE.out.at (i:=j) hjk
      obtain⟨gb,hgb⟩:∃gb,g0=some ⟨gb,0,none⟩:=by
       rcases HOW.out.2 with⟨_,h0⟩ | ⟨gb,_,_,ev,_⟩
       ·omega
       ·exact⟨gb,by simpa using (Value.slice.inj ev).1⟩
      subst hgb
      have hbr:=HR.out.1
      have hce:=HOW.out.cells (g:=gb) rfl
      have y0:=hce _ _ x0
      have y1:=hce _ _ x1
      have y2:=hce _ _ x2
      have y3:=hce _ _ x3
      rw[Addr.add_lit,Nat.zero_add] at y0 y1 y2 y3
      have y0:=aF hbr y0
      have y1:=aF hbr y1
      have y2:=aF hbr y2
      have y3:=aF hbr y3
      have i0':(0:Int)≤(j:Int):=by omega
      have i1':(j:Int)<(N:Int):=by omega
      have ej:(p.asserts++p.checks)[j]?=some (.mk op' n' s' es):=by rw[List.getElem?_eq_getElem hjk,e]
      have et:(aD p)[p.fs.length+j]?=some (.mk op' n' s' es):=by
       unfold aD
       rw[List.getElem?_append_right (by simp),List.length_map,Nat.add_sub_cancel_left,ej]
      obtain⟨w4,hw4⟩:∃w4,w4=wr.alloc (.cells #[.string op',.int .i64 n',.string s',.slice oo es.length cc] 92):=⟨_,rfl⟩
      have hb4:Bw wr w4:=by rw[hw4];exact aH
      have hr4:w4.heap[wr.heap.size]?=some (.cells #[.string op',.int .i64 n',.string s',.slice oo es.length cc] 92 (0,0)):=by rw[hw4];exact heap_alloc_new _ _
      obtain⟨B,hB⟩:∃B,B=wr.heap.size:=⟨_,rfl⟩
      rw[←hB] at hr4
      have z0:w4.cell? ⟨B,0,none⟩=some (.string op'):=cr hr4 rfl
      have z1:w4.cell? ⟨B,0+1,none⟩=some (.int .i64 n'):=cr hr4 rfl
      have z2:w4.cell? ⟨B,0+2,none⟩=some (.string s'):=cr hr4 rfl
      have z3:w4.cell? ⟨B,0+3,none⟩=some (.slice oo es.length cc):=cr hr4 rfl
      have hb64:=hbr.trans (hb4.mono hbr.size)
      have hb24:=HB6.out.trans (hb64.mono HB6.out.size)
      have hbw4:=HB2.out.trans (hb24.mono HB2.out.size)
      have hst:aP S S w w4:=fun b hB hl=>⟨hB,hbw4.block b hl⟩
      obtain⟨k,hk⟩:∃k,k=aO (aL g) (.mk op' n' s' es):=⟨_,rfl⟩
      have hca:=yQ (SizeOf.sizeOf es+1) op' n' s' es (Nat.lt_succ_self _) w4 S oo cc zs K nK g (HFN.out.1.kept (hb24.block _ HFN.out.1.lt)) HFN.out.2.1 (lY HG.out.ok.small et) (wK (zM HFN.out.2.2.2.1) et) (r1.keep hst) (r2.keep hst)
      rw[←hk] at hca
      have HCA:=aA hca
      have HK2:=aA hk
      have HJ:Hid (j<N∧(p.asserts++p.checks)[j]?=some (.mk op' n' s' es)):=⟨hjl,ej⟩
      have HB64:Hid (Bw w6 w4∧Bw w w4):=⟨hb64,hbw4⟩
      have HRR:Hid (∀(i:Nat) (y:Ex),i<j→(p.asserts++p.checks)[i]?=some y→aO (aL g) y=0):=HR.out.2
      have N4:Hid (wrap64 ((j:Int)+1)=(j:Int)+1):=by have:=HNN.out;have:=HJ.out.1;unfold Hid wrap64;omega
      have HW4:Hid (wr.alloc (.cells #[.string op',.int .i64 n',.string s',.slice oo es.length cc] 92)=w4∧wr.heap.size=B):=⟨hw4.symm,hB.symm⟩
      clear hjk e x0 x1 x2 x3 r1 r2 hbr hce ej et hw4 hb4 hr4 hB hb64 hb24 hbw4 hst hk hca hj hjl HR
      go_upto_region 14 with fail
      rw[HW4.out.1,HW4.out.2]
      clear y0 y1 y2 y3
      go_wp2_with fail
      refine HCA.out.mono ?_
      rintro e w7 ⟨rfl,hb7⟩
      have HB7:Hid (Bw w6 w7∧Bw w w7):=⟨HB64.out.1.trans (hb7.mono HB64.out.1.size),HB64.out.2.trans (hb7.mono HB64.out.2.size)⟩
      have gf:w7.cell? ⟨1,0,none⟩=some (.iface E.ft E.fq):=aF HB7.out.2 HG.out.fst
      clear hb7 z0 z1 z2 z3 HCA
      by_cases hk0:0<k
      ·have d1:(0<k)=True:=eq_true hk0
       have HE:Hid (Bw w w7∧o7 p E (.returned (.iface E.ft E.fq)) w7):=⟨HB7.out.2,.inr ⟨d,aL g,HFN.out.2.2.2,HFN.out.2.2.1,.inr ⟨HNB.out,.inl ⟨⟨_,List.mem_of_getElem? HJ.out.2,by rw[←HK2.out];exact hk0⟩,rfl⟩⟩⟩⟩
       go_wp2
       go_ret
       exact HE.out
      ·have d1:(0<k)=False:=eq_false hk0
       have HN7:Hid (∀(i:Nat) (y:Ex),i<j+1→(p.asserts++p.checks)[i]?=some y→aO (aL g) y=0):=fun i y hi hy=>by
        by_cases e:i=j
        ·subst e
         rw[HJ.out.2] at hy
         rw[←Option.some.inj hy,←HK2.out]
         omega
        ·exact HRR.out i y (by omega) hy
       clear gf
       go_wp2
       exact⟨⟨j+1,HJ.out.1,by rw[N4.out];rfl,HB7.out.1,HN7.out⟩,by rw[N4.out];have:=HJ.out.1;simp [intOf];omega⟩
     ·obtain rfl:j=N:=by omega
      have HE:Hid (Bw w wr∧o7 p E (.returned .nilIface) wr):=⟨(HB2.out.trans (HB6.out.mono HB2.out.size)).trans (HR.out.1.mono (HB2.out.trans (HB6.out.mono HB2.out.size)).size),.inr ⟨d,aL g,HFN.out.2.2.2,HFN.out.2.2.1,.inr ⟨HNB.out,.inr ⟨fun y hy=>by
       obtain⟨i,hi⟩:=List.mem_iff_getElem?.1 hy
       have h1:=(aX hi).1
       rw[List.length_append,←HNN.out.1] at h1
       exact HR.out.2 i y h1 hi,rfl⟩⟩⟩⟩
      clear hj hjl HR
      go_wp2
      go_ret
      exact HE.out
 ·have HTE:=aA hte
  clear hte
  go_wp2
  go_ret
  exact⟨HB2.out,.inl ⟨t,x,HTE.out,rfl⟩⟩
end Go.Proofs.YtmgfakcccfahaaaGreatDoor
