/-
  package flow: which inputs do not fit; Start BY CONTRACT.
-/
import Derived.Test.YtmgfakcccfahaaaGreatDoorN35
set_option maxRecDepth 100000
set_option maxHeartbeats 8000000
namespace Go.Proofs.YtmgfakcccfahaaaGreatDoor
open Go.RowKit Go.Maps

theorem Tryz.uV:(Tryz.prog.info? 66).map (fun i=>(i.zero,i.size,i.bytes))=some (some (.agg #[.int .i64 0,.int .i64 0]),2,16):=by kernel_rfl
def bG(l:List (Int×Int)):List Value:=l.flatMap fun x=>[.int .i64 x.1,.int .i64 x.2]
theorem wT:∀l:List (Int×Int),(bG l).length=l.length*2
 | []=>rfl
 | x::l=>by have:=wT l;simp only[bG,List.flatMap_cons,List.length_append,List.length_cons,List.length_nil] at this ⊢;omega
theorem Db:∀{l:List (Int×Int)} {i:Nat} {v:Int×Int},l[i]?=some v→(bG l)[i*2]?=some (.int .i64 v.1)∧(bG l)[i*2+1]?=some (.int .i64 v.2)
 | [],i,v,h=>by simp at h
 | x::l,0,v,h=>by
  obtain rfl:x=v:=by simpa using h
  exact⟨rfl,rfl⟩
 | x::l,i+1,v,h=>by
  have:=Db (l:=l) (i:=i) (v:=v) (by simpa using h)
  have e:bG (x::l)=.int .i64 x.1::.int .i64 x.2::bG l:=rfl
  rw[e,show (i+1)*2=i*2+1+1 from by omega,List.getElem?_cons_succ,List.getElem?_cons_succ,List.getElem?_cons_succ,List.getElem?_cons_succ]
  exact this
theorem C8(l:List (Int×Int))(x:Int×Int):bG (l++[x])=bG l++[.int .i64 x.1,.int .i64 x.2]:=by simp [bG]
def kY(w:World)(v:Value)(l:List (Int×Int)):Prop:=aB w (fun _=>True) 2 v l.length (bG l)
theorem kY.keep{w w':World}{v:Value}{l:List (Int×Int)}(h:kY w v l)(hb:Bw w w'):kY w' v l:=aB.keep h (dX hb)
def mF(w:World)(v:Value)(ll:List (List (Int×Int))):Prop:=ll.length≤maxLen∧∃o c,v=.slice o ll.length c∧∀k l,ll[k]?=some l→∃b off vo vc,o=some ⟨b,off,none⟩∧w.cell? ⟨b,off+k,none⟩=some (.slice vo l.length vc)∧kF w (.slice vo l.length vc) l
theorem mF.below{w w':World}{v:Value}{ll:List (List (Int×Int))}(h:mF w v ll)(hb:Bw w w'):mF w' v ll:=by
 obtain⟨hl,o,c,rfl,h⟩:=h
 refine⟨hl,o,c,rfl,fun k l hk=>?_⟩
 obtain⟨b,off,vo,vc,e,h1,h2⟩:=h k l hk
 exact⟨b,off,vo,vc,e,aD hb h1,h2.below hb⟩
theorem KU{w:World}{C B M RB:Nat}{dv:Value}{f:List UInt8→Option Value}{q:bC}{b n:Int}(h:Cd w C B M dv f q b n)(hc:w.cell? ⟨RB,0,none⟩=some (.pointer (some ⟨C,0,none⟩)))(hin:∀x∈q.is,x<q.ps.length)(vo:Option Addr)(vc m:Nat)(vl:List (Int×Int))(hm:m=vl.length)(hv:kF w (.slice vo m vc) vl) :
  Calls Tryz.prog 54 #[.slice vo m vc,.pointer (some ⟨RB,0,none⟩)] w fun e w'=>e=.returned (.bool (!dO q.ps q.is vl))∧Bw w w':=by
 have HCA:Hid (Calls Tryz.prog 55 #[.pointer (some ⟨C,0,none⟩),.slice vo m vc] w fun e w'=>e=.returned (.bool (dO q.ps q.is vl))∧Bw w w'):=QH h hin vo vc m vl hm hv
 clear h hin hm hv
 go_enter Tryz.func54,Tryz.ntmps54
 go_wp2_with (go_at_call 55;refine HCA.out.mono ?_;rintro e w2 ⟨rfl,hb2⟩)
 have HB2:=aA hb2
 clear hb2 hc
 go_ret
 exact⟨rfl,HB2.out⟩
def AJ(q:bC)(ll:List (List (Int×Int)))(i:Int):Prop:=(i=-1∧∀l∈ll,dO q.ps q.is l=true)∨∃(k:Nat) (l:List (Int×Int)),i=(k:Int)∧ll[k]?=some l∧dO q.ps q.is l=false∧∀(j:Nat) (l':List (Int×Int)),j<k→ll[j]?=some l'→dO q.ps q.is l'=true
theorem K9{w:World}{C B M RB:Nat}{dv:Value}{f:List UInt8→Option Value}{q:bC}{b n:Int}(h:Cd w C B M dv f q b n)(hc:w.cell? ⟨RB,0,none⟩=some (.pointer (some ⟨C,0,none⟩)))(hin:∀x∈q.is,x<q.ps.length)(o:Option Addr)(m c:Nat)(ll:List (List (Int×Int)))(hm:m=ll.length)(hI:mF w (.slice o m c) ll) :
  Calls Tryz.prog 53 #[.slice o m c,.func (.func 54) #[] #[.pointer (some ⟨RB,0,none⟩)]] w fun e w'=>∃i:Int,e=.returned (.int .i64 i)∧AJ q ll i∧Bw w w':=by
 have HC:Hid (Cd w C B M dv f q b n∧w.cell? ⟨RB,0,none⟩=some (.pointer (some ⟨C,0,none⟩))∧∀x∈q.is,x<q.ps.length):=⟨h,hc,hin⟩
 have HI:Hid (mF w (.slice o m c) ll∧m=ll.length):=⟨hI,hm⟩
 clear h hc hin hI hm
 go_enter Tryz.func53,Tryz.ntmps53
 go_wp2
 go_loopw [8] (fun t wr=>∃j:Nat,j≤m∧t=.int .i64 j∧Hid (Bw w wr∧∀(k:Nat) (l:List (Int×Int)),k<j→ll[k]?=some l→dO q.ps q.is l=true)) (fun t _=>m-(intOf t).toNat)
 case atStart=>exact⟨0,Nat.zero_le _,rfl,Below.refl _ _,fun k l hk=>by omega⟩
 case round=>
  obtain⟨j,hj,rfl,HR⟩:=hrel
  by_cases hjl:j<m
  ·obtain⟨l,hl⟩:∃l,ll[j]?=some l:=⟨_,List.getElem?_eq_getElem (by have:=HI.out.2;omega)⟩
   obtain⟨hmx,o',c',e1,hget⟩:=HI.out.1.below HR.out.1
   obtain⟨rfl,rfl⟩:o=o'∧c=c':=by have:=Value.slice.inj e1;exact⟨this.1,this.2.2⟩
   obtain⟨b1,bP,vo,vc,rfl,y0,hvl⟩:=hget j l hl
   have i0':(0:Int)≤(j:Int):=by omega
   have i1':(j:Int)<(m:Int):=by omega
   obtain⟨bb,hbb⟩:∃bb,bb=dO q.ps q.is l:=⟨_,rfl⟩
   have HCA:Hid (Calls Tryz.prog 54 #[.slice vo l.length vc,.pointer (some ⟨RB,0,none⟩)] wr fun e w'=>e=.returned (.bool (!bb))∧Bw wr w'):=by rw[hbb];exact KU (HC.out.1.keep HR.out.1) (aD HR.out.1 HC.out.2.1) HC.out.2.2 vo vc l.length l rfl hvl
   have HJ:Hid (j<m∧ll[j]?=some l∧bb=dO q.ps q.is l):=⟨hjl,hl,hbb⟩
   have HRR:Hid (Bw w wr∧∀(k:Nat) (l:List (Int×Int)),k<j→ll[k]?=some l→dO q.ps q.is l=true):=HR.out
   have N4:Hid (wrap64 ((j:Int)+1)=(j:Int)+1):=by have:=HJ.out.1;have:=HI.out.2;unfold maxLen at hmx;unfold Hid wrap64;omega
   clear hl hmx e1 hget hvl hbb hj hjl HR
   cases bb with
   | true=>
    go_wp2_with (go_at_call 54;refine HCA.out.mono ?_;rintro e w2 ⟨rfl,hb2⟩)
    have HNX:Hid (Bw w w2∧∀(k:Nat) (l:List (Int×Int)),k<j+1→ll[k]?=some l→dO q.ps q.is l=true):=by
     refine⟨HRR.out.1.trans (hb2.mono HRR.out.1.size),fun k l' hk hl'=>?_⟩
     by_cases e:k=j
     ·subst e
      rw[HJ.out.2.1] at hl'
      rw[←Option.some.inj hl']
      exact HJ.out.2.2.symm
     ·exact HRR.out.2 k l' (by omega) hl'
    clear hb2 y0 HCA
    exact⟨⟨j+1,HJ.out.1,by (try rw[N4.out]);rfl,HNX.out⟩,by (try rw[N4.out]);have:=HJ.out.1;simp [intOf];omega⟩
   | false=>
    go_wp2_with (go_at_call 54;refine HCA.out.mono ?_;rintro e w2 ⟨rfl,hb2⟩)
    have HE:Hid (AJ q ll (j:Int)∧Bw w w2):=⟨.inr ⟨j,l,rfl,HJ.out.2.1,HJ.out.2.2.symm,HRR.out.2⟩,HRR.out.1.trans (hb2.mono HRR.out.1.size)⟩
    clear hb2 y0 HCA
    go_ret
    exact⟨_,rfl,HE.out⟩
  ·obtain rfl:m=j:=by omega
   have HE:Hid (AJ q ll (-1)∧Bw w wr):=by
    refine⟨.inl ⟨rfl,fun l hl=>?_⟩,HR.out.1⟩
    obtain⟨k,hk⟩:=List.mem_iff_getElem?.1 hl
    exact HR.out.2 k l (by have:=(bA hk).1;have:=HI.out.2;omega) hk
   clear hj hjl HR
   go_wp2
   go_ret
   exact⟨_,rfl,HE.out⟩
def jG(b n k:Int):Int:=if k=2 then n else b
def uE(q:bC)(b n:Int):List (Int×Int):=(1,1)::q.ks.map fun x=>(bK q.ps x,jG b n (bK q.ps x))
theorem ES{w:World}{M:Nat}{b n k:Int}(h:jY w M 2 (zV b n))(hk:k=1∨k=2):(Instr.lookup 177 (.map (some M)) (.int .i64 k) false).run Tryz.prog w=.ok (.int .i64 (jG b n k)) w:=by
 have hl:=h.lW Tryz.underlying177 (jO w) k (by rcases hk with rfl | rfl<;>decide)
 rw[hl]
 rcases hk with rfl | rfl<;>rfl
theorem J4{w:World}{C B M:Nat}{dv:Value}{f:List UInt8→Option Value}{q:bC}{b n:Int}(h:Cd w C B M dv f q b n)(hin:∀x∈q.ks,x<q.ps.length∧(bK q.ps x=1∨bK q.ps x=2))(hks:q.ks.length≤100000) :
  Calls Tryz.prog 56 #[.pointer (some ⟨C,0,none⟩)] w fun e w'=>∃o c,e=.returned (.slice o (q.ks.length+1) c)∧kY w' (.slice o (q.ks.length+1) c) (uE q b n)∧Bw w w':=by
 obtain⟨i0,hi0,hz0,hz1,hz2⟩:=info_parts Tryz.uV
 obtain⟨vi,vt,vk,vx,va,vd,⟨_,_,l3,_⟩,_,_,hvk,_⟩:=h.nV.list
 obtain⟨o,c,e,_⟩:=hvk.2.2
 subst e
 obtain⟨w1,hw1⟩:∃w1,w1=w.alloc (.cells #[.int .i64 1,.int .i64 (bB true)] 66):=⟨_,rfl⟩
 have hb1:Bw w w1:=by rw[hw1];exact aH
 have hr1:w1.heap[w.heap.size]?=some (.cells #[.int .i64 1,.int .i64 (bB true)] 66 (0,0)):=by rw[hw1];exact heap_alloc_new _ _
 have HO1:Hid (w1.ownsRow w.heap.size 66 2 (.slice (some ⟨w.heap.size,0,none⟩) 1 1) 1 (bG [(1,1)])):=⟨rfl,.inr ⟨w.heap.size,1,_,rfl,Nat.le_refl _,hr1,Nat.le_refl _,by unfold maxLen;omega,rfl,rfl⟩⟩
 have HB1:=aA hb1
 have HC:Hid (Cd w C B M dv f q b n∧(∀x∈q.ks,x<q.ps.length∧(bK q.ps x=1∨bK q.ps x=2))∧q.ks.length≤100000∧aB w (fun _=>True) 1 (.slice o q.ks.length c) q.ks.length (aX q.ks)):=⟨h,hin,hks,hvk⟩
 have c0:w1.cell? ⟨C,0,none⟩=some (.pointer (some ⟨B,0,none⟩)):=aD hb1 h.c0
 have c3:w1.cell? ⟨B,0+3,none⟩=some (.slice o q.ks.length c):=aD hb1 l3
 have HW1:Hid (w.alloc (.cells #[.int .i64 1,.int .i64 (bB true)] 66)=w1):=hw1.symm
 clear h hin hks hvk hw1 hb1 hr1 l3
 go_enter Tryz.func56,Tryz.ntmps56
 go_upto_region 2 with(go_at_call 101;refine(lZ true _).mono ?_;rintro e w4 ⟨rfl,hw4⟩;have hw4s:=hw4.symm;subst hw4s)
 rw[HW1.out]
 go_wp2
 clear c0 c3
 go_loopw [3,18] (fun v t wr=>∃(j:Nat) (so:Option Addr) (sc:Nat),j≤q.ks.length∧t=.int .i64 j∧v=.slice so (j+1) sc∧Hid (wr.ownsRow w.heap.size 66 2 (.slice so (j+1) sc) (j+1) (bG ((1,1)::(q.ks.take j).map fun x=>(bK q.ps x,jG b n (bK q.ps x))))∧Bw w wr)) (fun _ t _=>q.ks.length-(intOf t).toNat)
 case atStart=>exact⟨0,some ⟨w.heap.size,0,none⟩,1,Nat.zero_le _,rfl,rfl,HO1.out,HB1.out⟩
 case round=>
  obtain⟨j,so,sc,hj,rfl,rfl,HR⟩:=hrel
  by_cases hjl:j<q.ks.length
  ·obtain⟨x,hx⟩:∃x,q.ks[j]?=some x:=⟨_,List.getElem?_eq_getElem hjl⟩
   have hcr:=HC.out.1.keep HR.out.2
   obtain⟨hxl,hxk⟩:=HC.out.2.1 x (List.mem_of_getElem? hx)
   obtain⟨p,hp⟩:∃p,q.ps[x]?=some p:=⟨_,List.getElem?_eq_getElem hxl⟩
   rw[rE hp] at hxk
   obtain⟨pb,off,c',po,pc,pB,_,_,_,_,p4,_,_,_⟩:=hcr.nV.part hp
   obtain⟨b1,bP,c1,ev,_,_,gg⟩:=(HC.out.2.2.2.keep (dX HR.out.2)).at (by rw[HC.out.2.2.2.1];omega)
   obtain⟨rfl,rfl⟩:o=some ⟨b1,bP,none⟩∧c=c1:=by simpa using ev
   have y0:=gg j (.int .i64 (x:Int)) (by unfold aX;rw[List.getElem?_map,lH hx];rfl)
   have c0:=hcr.c0
   have c2:=hcr.c2
   obtain⟨kd,hkd⟩:∃kd,kd=p.kind:=⟨_,rfl⟩
   rw[←hkd] at p4 hxk
   obtain⟨nv,hnv⟩:∃nv,nv=jG b n kd:=⟨_,rfl⟩
   have hlk:=ES hcr.xL hxk
   rw[←hnv] at hlk
   have i0':(0:Int)≤(j:Int):=by omega
   have i1':(j:Int)<(q.ks.length:Int):=by omega
   have i2':(0:Int)≤(x:Int):=by omega
   have i3':(x:Int)<(q.ps.length:Int):=by omega
   have HJ:Hid (j<q.ks.length∧q.ks[j]?=some x∧bK q.ps x=kd∧nv=jG b n kd):=⟨hjl,hx,by rw[rE hp,hkd],hnv⟩
   have HOW:Hid ((wr.alloc (.cells #[.int .i64 kd,.int .i64 nv] 66)).ownsRow w.heap.size 66 2 (.slice so (j+1) sc) (j+1) (bG ((1,1)::(q.ks.take j).map fun x=>(bK q.ps x,jG b n (bK q.ps x))))):=mK HR.out.1 (aH)
   have HBA:Hid (Bw w (wr.alloc (.cells #[.int .i64 kd,.int .i64 nv] 66))):=HR.out.2.alloc HR.out.2.size _
   have HNW:Hid (∀k y,#[Value.int .i64 kd,.int .i64 nv].toList[k]?=some y→(wr.alloc (.cells #[.int .i64 kd,.int .i64 nv] 66)).cell? ((⟨wr.heap.size,0,none⟩:Addr).add k)=some y):=World.news_of_block (heap_alloc_new wr _)
   have HMX:Hid (j+1+1≤maxLen∧(j+1+1)*16≤140737488355328):=by have:=HC.out.2.2.1;have:=HJ.out.1;unfold Hid maxLen;omega
   have N4:Hid (wrap64 ((j:Int)+1)=(j:Int)+1):=by have:=HC.out.2.2.1;have:=HJ.out.1;unfold Hid wrap64;omega
   clear hx hcr hxl hxk hp ev gg hkd hnv hj hjl HR
   go_wp2_with (at_builtin;refine wpList_append_lies _ rfl _ _ 64 rfl w.heap.size 66 i0 _ 2 16 Tryz.underlying64 hi0 hz0 hz1 hz2 rfl (by omega) (.slice so (j+1) sc) (j+1) _ rfl HOW.out ⟨wr.heap.size,0,none⟩ 1 1 _ rfl rfl HNW.out (by simp [Value.oneCell']) (by omega) HMX.out.1 HMX.out.2 HBA.out.size _ rfl ?_;intro g cap w5 hown5 hgrow5 hat5 hlt5)
   have HNX:Hid (w5.ownsRow w.heap.size 66 2 (.slice (some ⟨g,0,none⟩) (j+1+1) cap) (j+1+1) (bG ((1,1)::(q.ks.take (j+1)).map fun x=>(bK q.ps x,jG b n (bK q.ps x))))∧Bw w w5):=by
    refine⟨?_,HBA.out.grown hgrow5 HBA.out.size (fun k hk=>(HOW.out.lt k hk).1)⟩
    have e:((1,1)::(q.ks.take (j+1)).map fun x=>(bK q.ps x,jG b n (bK q.ps x)))=((1,1)::(q.ks.take j).map fun x=>(bK q.ps x,jG b n (bK q.ps x)))++[(kd,nv)]:=by
     rw[List.take_add_one,HJ.out.2.1,List.map_append,HJ.out.2.2.2,←HJ.out.2.2.1]
     rfl
    rw[e,C8]
    exact hown5
   clear hown5 hgrow5 hat5 hlt5 HOW HNW c0 c2 pB p4 y0 hlk
   exact⟨⟨j+1,_,_,HJ.out.1,by (try rw[N4.out]);rfl,rfl,HNX.out⟩,by (try rw[N4.out]);have:=HJ.out.1;simp [intOf];omega⟩
  ·obtain rfl:q.ks.length=j:=by omega
   have HE:Hid (kY wr (.slice so (q.ks.length+1) sc) (uE q b n)∧Bw w wr):=by
    refine⟨?_,HR.out.2⟩
    have ho:=HR.out.1
    rw[List.take_of_length_le (Nat.le_refl _)] at ho
    refine(aB.iH (base:=w.heap.size) (e:=66) ?_).wide
    have e:(uE q b n).length=q.ks.length+1:=by simp [uE]
    rw[e]
    exact ho
   clear hj hjl HR
   go_wp2
   go_ret
   exact⟨so,sc,rfl,HE.out⟩

structure dW where
 I:Nat
 R:Nat
 B:Nat
 C:Nat
 fr:Bool
 mo:Option Addr
 ml:Nat
 mc:Nat
 n:Nat
 g:Nat→Int
 a:Int
 b:Int
 c:Int
 tr:Bool
def dW.io(d:dW):Obj:=.cells #[.pointer (some ⟨d.B,0,none⟩),.pointer (some ⟨d.C,0,none⟩),.bool d.fr,.slice d.mo d.ml d.mc,.slice (some ⟨d.R,0,none⟩) d.n d.n,.int .i64 d.a,.int .i64 d.b,.int .i64 d.c,.bool d.tr] 192 (0,0)
structure bF(w0:World)(d:dW)(w:World):Prop where
 sep:Sep w w0.heap.size (fun _=>False) [aP d.I d.io,j4 d.R d.n d.g]
 below:Bw w0 w
section
variable {w0 w w':World} {d:dW}
theorem bF.keep(h:bF w0 d w)(hb:Bw w w'):bF w0 d w':=⟨h.sep.keep hb,h.below.trans (hb.mono h.below.size)⟩
theorem bF.blk(h:bF w0 d w):w.heap[d.I]?=some d.io:=h.sep.is 0 _ rfl
theorem bF.wt(h:bF w0 d w):dV w d.R d.n d.g:=h.sep.is 1 _ rfl
theorem bF.c0(h:bF w0 d w):w.cell? ⟨d.I,0,none⟩=some (.pointer (some ⟨d.B,0,none⟩)):=cr h.blk rfl
theorem bF.c1(h:bF w0 d w):w.cell? ⟨d.I,0+1,none⟩=some (.pointer (some ⟨d.C,0,none⟩)):=cr h.blk rfl
theorem bF.c2(h:bF w0 d w):w.cell? ⟨d.I,0+2,none⟩=some (.bool d.fr):=cr h.blk rfl
theorem bF.c3(h:bF w0 d w):w.cell? ⟨d.I,0+3,none⟩=some (.slice d.mo d.ml d.mc):=cr h.blk rfl
theorem bF.c4(h:bF w0 d w):w.cell? ⟨d.I,0+4,none⟩=some (.slice (some ⟨d.R,0,none⟩) d.n d.n):=cr h.blk rfl
theorem bF.c8(h:bF w0 d w):w.cell? ⟨d.I,0+8,none⟩=some (.bool d.tr):=cr h.blk rfl
theorem bF.KI(h:bF w0 d w)(k:Nat)(v:Int):bF w0 { d with g:=fun j=>if j=k then v else d.g j } (w.setCell ⟨d.R,k,none⟩ (.int .i64 v)):=by
 have hg:=bW w d.R k (.int .i64 v)
 exact⟨h.sep.step (i:=1) (c:=j4 d.R d.n d.g) (c':=j4 d.R d.n (fun j=>if j=k then v else d.g j)) rfl hg (h.wt.set k v) (fun q hq=>.inl hq),h.sep.below (i:=1) (c:=j4 d.R d.n d.g) rfl hg h.below⟩
end
theorem kY.rest{w:World}{so:Option Addr}{m sc:Nat}{x:Int×Int}{l:List (Int×Int)}(h:kY w (.slice so (m+1) sc) (x::l)):m=l.length∧kY w (.slice (if sc=1 then so else so.map (·.add 2)) m (sc-1)) l:=by
 obtain⟨h1,h2,o,c,e,h3,h4⟩:=h
 have e':=Value.slice.inj e
 have hm:m=l.length:=by have:=e'.2.1;simp at this;exact this
 obtain⟨rfl,rfl⟩:so=o∧sc=c:=⟨e'.1,e'.2.2⟩
 have h2':l.length+1≤maxLen:=h2
 have h4':l.length+1≤sc:=h4
 refine⟨hm,wT l,by omega,_,sc-1,by rw[hm],fun k y hy=>?_,by omega⟩
 have hlen:=(bA hy).1
 rw[wT] at hlen
 obtain⟨b,off,rfl,_,hc⟩:=h3 (2+k) y (by
  have e2:bG (x::l)=.int .i64 x.1::.int .i64 x.2::bG l:=rfl
  rw[e2,show 2+k=k+1+1 from by omega,List.getElem?_cons_succ,List.getElem?_cons_succ]
  exact hy)
 rw[if_neg (by omega)]
 exact⟨b,off+2,by rw[Option.map_some,Addr.add_lit],trivial,by rw[Nat.add_assoc];exact hc⟩
theorem J7(so:Option Addr)(m sc:Nat)(_:m+1≤sc)(W:World):(Instr.sliceAt 64 (.slice so (m+1) sc) (some (.int .i64 1)) none none).run Tryz.prog W=.ok (.slice (if sc=1 then so else so.map (·.add 2)) m (sc-1)) W:=by
 obtain⟨i0,hi0,hz0,hz1,hz2⟩:=info_parts Tryz.uV
 have ht:=Tryz.underlying64
 simp [Instr.sliceAt,Instr.slice,Instr.sliceBounds,Instr.sliceBound,asIntOf,run_underlying ht,sizeOf,typeInfo,hi0,hz1,go_sem]
 exact fun h=>absurd h (by omega)
theorem Nl{w:World}{C B M:Nat}{dv:Value}{f:List UInt8→Option Value}{q:bC}{b n:Int}(h:Cd w C B M dv f q b n)(so:Option Addr)(m sc:Nat)(x:Int×Int)(l:List (Int×Int))(hs:kY w (.slice so (m+1) sc) (x::l)) :
  Calls Tryz.prog 103 #[.pointer (some ⟨C,0,none⟩),.slice so (m+1) sc] w fun e w'=>∃I,w.heap.size≤I∧e=.returned (.pointer (some ⟨I,0,none⟩))∧w'.heap[I]?=some (.cells #[.pointer (some ⟨B,0,none⟩),.pointer (some ⟨C,0,none⟩),.bool (x.2==1),.slice (if sc=1 then so else so.map (·.add 2)) m (sc-1),.slice none 0 0,.int .i64 0,.int .i64 0,.int .i64 0,.bool false] 192 (0,0))∧Bw w w':=by
 obtain⟨_,_,o',c',e',hget,h4⟩:=hs
 obtain⟨rfl,rfl⟩:so=o'∧sc=c':=by have:=Value.slice.inj e';exact⟨this.1,this.2.2⟩
 have hsl:=J7 so m sc (by have:=(Value.slice.inj e').2.1;omega)
 obtain⟨sb,off,rfl,_,x0⟩:=hget 1 (.int .i64 x.2) rfl
 have c0:=h.c0
 have i1':(0:Int)<((m:Int)+1):=by omega
 have hS0:w.drew.cell? ⟨C,0,none⟩=some (.pointer (some ⟨B,0,none⟩))∧w.drew.cell? ⟨sb,off+1,none⟩=some (.int .i64 x.2):=⟨c0,x0⟩
 have HS:Hid (∀W,Bw w W→W.cell? ⟨C,0,none⟩=some (.pointer (some ⟨B,0,none⟩))∧W.cell? ⟨sb,off+1,none⟩=some (.int .i64 x.2)):=fun W hW=>⟨aD hW c0,aD hW x0⟩
 obtain⟨rv,hrv⟩:∃rv,rv=(if sc=1 then some ⟨sb,off,none⟩ else (some (⟨sb,off,none⟩:Addr)).map (·.add 2)):=⟨_,rfl⟩
 rw[←hrv] at hsl ⊢
 clear h hget e' hrv
 go_enter Tryz.func103,Tryz.ntmps103
 go_upto_region 1 with fail
 refine fI 15 (fun W=>W.cell? ⟨C,0,none⟩=some (.pointer (some ⟨B,0,none⟩))∧W.cell? ⟨sb,off+1,none⟩=some (.int .i64 x.2)) (fun _=>True) (by kernel_rfl) hS0 trivial (fun hh=>?_)
 refine tj 0 5 (.pointer (some ⟨C,0,none⟩)) rfl (by rintro w ⟨b0,b1⟩;go_simp) hh ?_
 refine tj 1 6 (.pointer (some ⟨C,0,none⟩)) rfl (by rintro w ⟨b0,b1⟩;go_simp) hh ?_
 refine tj 2 7 (.pointer (some ⟨C,0,none⟩)) rfl (by rintro w ⟨b0,b1⟩;go_simp) hh ?_
 refine tj 3 8 (.pointer (some ⟨B,0,none⟩)) rfl (by rintro w ⟨b0,b1⟩;go_simp) hh ?_
 refine tj 4 9 (.pointer (some ⟨C,0,none⟩)) rfl (by rintro w ⟨b0,b1⟩;go_simp) hh ?_
 refine tj 5 10 (.slice (some ⟨sb,off,none⟩) (m+1) sc) rfl (by rintro w ⟨b0,b1⟩;go_simp) hh ?_
 refine tj 6 11 (.pointer (some ⟨sb,off,none⟩)) rfl (by rintro w ⟨b0,b1⟩;go_simp) hh ?_
 refine tj 7 12 (.pointer (some ⟨sb,off+1,none⟩)) rfl (by rintro w ⟨b0,b1⟩;go_simp) hh ?_
 refine tj 8 13 (.int .i64 x.2) rfl (by rintro w ⟨b0,b1⟩;go_simp) hh ?_
 refine tj 11 16 (.slice (some ⟨sb,off,none⟩) (m+1) sc) rfl (by rintro w ⟨b0,b1⟩;go_simp) hh ?_
 refine tj 12 17 (.slice rv m (sc-1)) rfl (by rintro w ⟨b0,b1⟩;go_simp) hh ?_
 refine aS 9 (some 14) rfl fun K hK=>?_
 go_simp
 refine(lZ true _).mono ?_
 rintro e w2 ⟨rfl,hw⟩
 have hw2:=hw.symm
 subst hw2
 go_wp2_with fail
 refine hK.out _ _ ⟨hS0,fun _=>trivial⟩ (fun hh=>?_)
 clear hK K hw
 try simp only[tp]
 refine tj 10 15 (.bool (x.2==bB true)) rfl (by rintro w ⟨b0,b1⟩;go_simp) hh ?_
 refine tj 13 18 (.agg #[.pointer (some ⟨B,0,none⟩),.pointer (some ⟨C,0,none⟩),.bool (x.2==bB true),.slice rv m (sc-1),.slice none 0 0,.int .i64 0,.int .i64 0,.int .i64 0,.bool false]) rfl (by rintro w ⟨b0,b1⟩;go_simp) hh ?_
 refine aS 14 (some 19) rfl fun K hK=>?_
 go_simp
 obtain⟨wA,hwA⟩:∃wA,wA=(w.alloc (.cells #[.pointer (some ⟨B,0,none⟩),.pointer (some ⟨C,0,none⟩),.bool (x.2==bB true),.slice rv m (sc-1),.slice none 0 0,.int .i64 0,.int .i64 0,.int .i64 0,.bool false] 192)).drew:=⟨_,rfl⟩
 obtain⟨I,hI⟩:∃I,I=w.heap.size:=⟨_,rfl⟩
 have hbA:Bw w wA:=by rw[hwA];exact(aH).drew
 have HA:Hid (Bw w wA∧w.heap.size≤I∧wA.heap[I]?=some (.cells #[.pointer (some ⟨B,0,none⟩),.pointer (some ⟨C,0,none⟩),.bool (x.2==1),.slice rv m (sc-1),.slice none 0 0,.int .i64 0,.int .i64 0,.int .i64 0,.bool false] 192 (0,0))):=⟨hbA,by rw[hI];exact Nat.le_refl _,by rw[hwA,hI];exact heap_alloc_new w _⟩
 rw[←hwA,←hI]
 refine hK.out _ _ ⟨HS.out wA hbA,fun _=>trivial⟩ (fun hh=>?_)
 clear hK K hwA hI hbA
 try simp only[tp]
 refine aS 15 (some 4) rfl fun K hK=>?_
 go_simp
 refine hK.out _ _ (Till.last (HS.out wA HA.out.1)) (fun hh=>?_)
 clear hK K
 try simp only[tp]
 refine dU (by kernel_rfl) ?_ _
 clear hh hS0
 go_wp2
 go_ret
 exact⟨I,HA.out.2.1,rfl,HA.out.2.2,HA.out.1⟩

def sO:List UInt8:=[102,97,108,115,101]
structure vC(w0:World)(M:Nat)(dv:Value)(f:List UInt8→Option Value)(q:bC)(nb nn:Int)(mem:List (Int×Int))(d:dW):Prop where
 cd:Cd w0 d.C d.B M dv f q nb nn
 mm:kF w0 (.slice d.mo d.ml d.mc) mem
 ml:d.ml=mem.length
 n:d.n=q.ps.length
def qG(mem:List (Int×Int))(k:Int):Int:=(mem[k.toNat]?.map Prod.snd).getD 0
def iN(p:Pq)(k:Nat):Nat:=p.aF[k]?.getD 0
theorem Fa{w:World}{v:Value}{o:Option Addr}{m c:Nat}{mem:List (Int×Int)}(hv:v=.slice o m c)(h:kF w v mem){k:Nat}(hk:k<mem.length):m=mem.length∧∃b off,o=some ⟨b,off,none⟩∧w.cell? ⟨b,off+k*2+1,none⟩=some (.int .i64 (qG mem k)):=by
 obtain⟨_,o',c',e,hget⟩:=h
 rw[hv] at e
 obtain⟨e1,e2,e3⟩:=Value.slice.inj e
 obtain⟨b,off,e4,_,h1⟩:=hget k mem[k] (qK hk)
 refine⟨e2,b,off,by rw[e1,e4],?_⟩
 rw[h1]
 unfold qG
 rw[Int.toNat_natCast,List.getElem?_eq_getElem hk]
 rfl
theorem Bu{w:World}{F:Nat→Prop}{o:Option Addr}{c:Nat}{p:Pq}(h:aB w F 1 (.slice o p.aF.length c) p.aF.length (aX p.aF)){k:Nat}(hk:k<p.aF.length):∃b off,o=some ⟨b,off,none⟩∧w.cell? ⟨b,off+k,none⟩=some (.int .i64 (iN p k:Nat)):=by
 obtain⟨b,off,c',e,_,_,hc⟩:=h.at (by rw[h.1];omega)
 obtain⟨rfl,rfl⟩:o=some ⟨b,off,none⟩∧c=c':=by simpa using e
 refine⟨b,off,rfl,hc k _ ?_⟩
 unfold aX iN
 rw[List.getElem?_map,lH (qK hk),List.getElem?_eq_getElem hk]
 rfl
def lI(fr:Bool)(mem:List (Int×Int))(g:Nat→Int)(p:Pq):Int:=if fr then g (iN p 0) else if p.op.data.toList=bQ then qG mem p.mem else g (iN p 1)
structure Ii(w:World)(pb z:Nat)(p:Pq)(po:Option Addr)(pc:Nat):Prop where
 c0:w.cell? ⟨pb,z,none⟩=some (.string p.op)
 c1:w.cell? ⟨pb,z+1,none⟩=some (.int .i64 p.n)
 c2:w.cell? ⟨pb,z+2,none⟩=some (.slice po p.aF.length pc)
 c3:w.cell? ⟨pb,z+3,none⟩=some (.int .i64 p.mem)
 c4:w.cell? ⟨pb,z+4,none⟩=some (.int .i64 p.kind)
 c5:w.cell? ⟨pb,z+5,none⟩=some (.bool p.late)
 aF:aB w (fun _=>True) 1 (.slice po p.aF.length pc) p.aF.length (aX p.aF)
theorem nM.pt{w:World}{B:Nat}{q:bC}(h:nM w B q){x:Nat}{p:Pq}(hx:q.ps[x]?=some p):∃pb off c po pc,w.cell? ⟨B,0,none⟩=some (.slice (some ⟨pb,off,none⟩) q.ps.length c)∧Ii w pb (off+x*6) p po pc∧x<q.ps.length:=by
 obtain⟨pb,off,c,po,pc,h1,k0,k1,k2,k3,k4,k5,h2,h3⟩:=h.part hx
 exact⟨pb,off,c,po,pc,h1,⟨k0,k1,k2,k3,k4,k5,h2⟩,h3⟩
structure CG(n ml:Nat)(p:Pq):Prop where
 nm:p.op.data.toList=bS→0<p.aF.length∧iN p 0<n
 pr:p.op.data.toList=dD→∃k:Nat,p.mem=(k:Int)∧k<ml
 ar:p.op.data.toList=fV→1<p.aF.length∧iN p 0<n∧iN p 1<n
 fb:p.op.data.toList=bQ→0<p.aF.length∧iN p 0<n∧∃k:Nat,p.mem=(k:Int)∧k<ml
 kd:p.late=true→p.kind=1∨p.kind=2
theorem Gi{w0 w:World}{M:Nat}{dv:Value}{f:List UInt8→Option Value}{q:bC}{nb nn:Int}{mem:List (Int×Int)}{d:dW}(hs:vC w0 M dv f q nb nn mem d)(hi:bF w0 d w){pb z pc:Nat}{po:Option Addr}{p:Pq}(hp:Ii w pb z p po pc)(hok:CG d.n mem.length p)(hop:p.op.data.toList=fV∨p.op.data.toList=bQ) :
  Calls Tryz.prog 182 #[.pointer (some ⟨d.I,0,none⟩),.pointer (some ⟨pb,z,none⟩)] w fun e w'=>e=.returned (.int .i64 (lI d.fr mem d.g p))∧Bw w w':=by
 have c2:=hi.c2
 have c3:=hi.c3
 have c4:=hi.c4
 have p0:=hp.c0
 have p2:=hp.c2
 have p3:=hp.c3
 cases hfr:d.fr with
 | true=>
  rw[hfr] at c2
  obtain⟨h0,h1⟩:0<p.aF.length∧iN p 0<d.n:=by
   rcases hop with h | h
   ·have:=hok.ar h;exact⟨by omega,this.2.1⟩
   ·have:=hok.fb h;exact⟨this.1,this.2.1⟩
  obtain⟨b,off,rfl,q0⟩:=Bu hp.aF h0
  rw[Nat.add_zero] at q0
  have r0:=hi.wt.cell h1
  have i1:(0:Int)<(p.aF.length:Int):=by omega
  obtain⟨k,hk⟩:∃k,k=iN p 0:=⟨_,rfl⟩
  have HE:Hid (lI true mem d.g p=d.g k):=by rw[hk];rfl
  rw[←hk] at q0 r0 h1
  have i2:(0:Int)≤(k:Int):=by omega
  have i3:(k:Int)<(d.n:Int):=by omega
  clear hs hi hp hok hop hfr h0 hk c3 p0 p3
  go_enter Tryz.func182,Tryz.ntmps182
  go_upto_region 2 with fail
  go_quiet (fail)
  go_wp2
  go_ret
  exact⟨by rw[HE.out];rfl,iR (Below.refl _ _) _⟩
 | false=>
  rw[hfr] at c2
  by_cases hy:p.op.data.toList=bQ
  ·have dn:(p.op.toList==[102,98,121])=true:=by rw[ByteArray.toList_eq,hy];rfl
   obtain⟨k,hk,hkl⟩:=(hok.fb hy).2.2
   obtain⟨hml,b,off,hmo,m0⟩:=Fa rfl (hs.mm.below hi.below) hkl
   rw[hmo] at c3
   rw[hk] at p3
   have i2:(0:Int)≤(k:Int):=by omega
   have i3:(k:Int)<(d.ml:Int):=by omega
   have HE:Hid (lI false mem d.g p=qG mem k):=by unfold Hid lI;rw[if_neg (by decide),if_pos hy,hk]
   clear hs hi hp hok hop hfr hy hk hml hmo c4 p2
   go_enter Tryz.func182,Tryz.ntmps182
   go_upto_region 4 with fail
   go_quiet (fail)
   go_wp2
   go_ret
   exact⟨by rw[HE.out];rfl,iR (Below.refl _ _) _⟩
  ·have dn:(p.op.toList==[102,98,121])=false:=by rw[ByteArray.toList_eq];exact beq_eq_false_iff_ne.2 hy
   obtain⟨h0,_,h1⟩:=hok.ar (hop.resolve_right hy)
   obtain⟨b,off,rfl,q0⟩:=Bu hp.aF h0
   have r0:=hi.wt.cell h1
   have i1:(1:Int)<(p.aF.length:Int):=by omega
   obtain⟨k,hk⟩:∃k,k=iN p 1:=⟨_,rfl⟩
   have HE:Hid (lI false mem d.g p=d.g k):=by unfold Hid lI;rw[if_neg (by decide),if_neg hy,hk]
   rw[←hk] at q0 r0 h1
   have i2:(0:Int)≤(k:Int):=by omega
   have i3:(k:Int)<(d.n:Int):=by omega
   clear hs hi hp hok hop hfr hy h0 hk c3 p3
   go_enter Tryz.func182,Tryz.ntmps182
   go_upto_region 5 with fail
   go_quiet (fail)
   go_wp2
   go_ret
   exact⟨by rw[HE.out];rfl,iR (Below.refl _ _) _⟩
def pI:List UInt8:=[105,110,116]
def jF(p:Pq):Prop:=p.op.data.toList=pI∨p.op.data.toList=oM∨p.op.data.toList=sO∨p.op.data.toList=bS∨p.op.data.toList=dD∨p.op.data.toList=fV∨p.op.data.toList=bQ
def gK(nb nn:Int)(fr:Bool)(mem:List (Int×Int))(g:Nat→Int)(p:Pq):Int:=
 if (fr&&p.late)=true then jG nb nn p.kind else
 if p.op.data.toList=pI∨p.op.data.toList=oM∨p.op.data.toList=sO then p.n else
 if p.op.data.toList=bS then g (iN p 0) else
 if p.op.data.toList=dD then qG mem p.mem else lI fr mem g p
theorem FV{w0 w:World}{M:Nat}{dv:Value}{f:List UInt8→Option Value}{q:bC}{nb nn:Int}{mem:List (Int×Int)}{d:dW}(hs:vC w0 M dv f q nb nn mem d)(hi:bF w0 d w){x:Nat}{p:Pq}(hx:q.ps[x]?=some p)(hfl:(d.fr&&p.late)=true)(hk:p.kind=1∨p.kind=2) :
  Calls Tryz.prog 149 #[.pointer (some ⟨d.I,0,none⟩),.int .i64 (x:Int)] w fun e w'=>e=.returned (.int .i64 (jG nb nn p.kind))∧Bw w w':=by
 have hcd:=hs.cd.keep hi.below
 obtain⟨pb,off,c,po,pc,pB,hpt,hxl⟩:=hcd.nV.pt hx
 have c0:=hi.c0
 have c1:=hi.c1
 have c2:=hi.c2
 have e2:=hcd.c2
 have p4:=hpt.c4
 have p5:=hpt.c5
 obtain⟨h1,h2⟩:d.fr=true∧p.late=true:=by simpa using hfl
 rw[h1] at c2
 rw[h2] at p5
 obtain⟨kd,hkd⟩:∃kd,kd=p.kind:=⟨_,rfl⟩
 rw[←hkd] at p4 hk ⊢
 obtain⟨nv,hnv⟩:∃nv,nv=jG nb nn kd:=⟨_,rfl⟩
 have hlk:∀k,(Instr.lookup 177 (.map (some M)) (.int .i64 kd) false).run Tryz.prog (w.drewN k)=.ok (.int .i64 nv) (w.drewN k):=fun k=>by rw[hnv];exact ES (hcd.xL.kept (w':=w.drewN k) rfl) hk
 rw[←hnv]
 have i2':(0:Int)≤(x:Int):=by omega
 have i3':(x:Int)<(q.ps.length:Int):=by omega
 clear hs hi hx hfl hcd hpt hxl h1 h2 hkd hk hnv
 go_enter Tryz.func149,Tryz.ntmps149
 go_upto_region 3 with fail
 go_quiet (fail)
 go_wp2
 go_ret
 exact⟨rfl,iR (Below.refl _ _) _⟩
theorem Oo{w0 w:World}{M:Nat}{dv:Value}{f:List UInt8→Option Value}{q:bC}{nb nn:Int}{mem:List (Int×Int)}{d:dW}(hs:vC w0 M dv f q nb nn mem d)(hi:bF w0 d w){x:Nat}{p:Pq}(hx:q.ps[x]?=some p)(hok:CG d.n mem.length p)(hpl:jF p) :
  Calls Tryz.prog 149 #[.pointer (some ⟨d.I,0,none⟩),.int .i64 (x:Int)] w fun e w'=>e=.returned (.int .i64 (gK nb nn d.fr mem d.g p))∧Bw w w':=by
 by_cases hfl:(d.fr&&p.late)=true
 ·have h:=FV hs hi hx hfl (hok.kd (by simp at hfl;exact hfl.2))
  unfold gK
  rw[if_pos hfl]
  exact h
 have hcd:=hs.cd.keep hi.below
 obtain⟨pb,off,c,po,pc,pB,hpt,hxl⟩:=hcd.nV.pt hx
 have c0:=hi.c0
 have c3:=hi.c3
 have c4:=hi.c4
 have p0:=hpt.c0
 have p1:=hpt.c1
 have p2:=hpt.c2
 have p3:=hpt.c3
 have HL:Hid ((d.fr&&p.late)=false):=by unfold Hid;simpa using hfl
 have hcase:(d.fr=false∧w.cell? ⟨d.I,0+2,none⟩=some (.bool false))∨(d.fr=true∧w.cell? ⟨d.I,0+2,none⟩=some (.bool true)∧w.cell? ⟨pb,off+x*6+5,none⟩=some (.bool false)):=by
  have c2:=hi.c2
  have p5:=hpt.c5
  cases hf:d.fr with
  | false=>exact .inl ⟨rfl,by rw[←hf];exact c2⟩
  | true=>
   have hl:p.late=false:=by have:=HL.out;rw[hf] at this;simpa using this
   exact .inr ⟨rfl,by rw[←hf];exact c2,by rw[←hl];exact p5⟩
 have i2':(0:Int)≤(x:Int):=by omega
 have i3':(x:Int)<(q.ps.length:Int):=by omega
 clear hx hcd hxl hfl
 unfold jF at hpl
 rcases hpl with ho | ho | ho | ho | ho | ho | ho
 ·have HO:=aA ho
  have d0:(p.op.toList==[105,110,116])=true:=by rw[ByteArray.toList_eq,ho];rfl
  clear ho
  have HE:Hid (gK nb nn d.fr mem d.g p=p.n):=by unfold Hid gK;rw[if_neg (by rw[HL.out];decide),HO.out];rfl
  clear hs hi hpt hok c3 c4 HO
  rcases hcase with⟨hf,c2⟩ | ⟨hf,c2,p5⟩
  all_goals
   clear hf
   go_enter Tryz.func149,Tryz.ntmps149
   go_wp2
   go_ret
   exact⟨by rw[HE.out];rfl,Below.refl _ _⟩
 ·have HO:=aA ho
  have d0:(p.op.toList==[105,110,116])=false:=by rw[ByteArray.toList_eq,ho];rfl
  have d1:(p.op.toList==[116,114,117,101])=true:=by rw[ByteArray.toList_eq,ho];rfl
  clear ho
  have HE:Hid (gK nb nn d.fr mem d.g p=p.n):=by unfold Hid gK;rw[if_neg (by rw[HL.out];decide),HO.out];rfl
  clear hs hi hpt hok c3 c4 HO
  rcases hcase with⟨hf,c2⟩ | ⟨hf,c2,p5⟩
  all_goals
   clear hf
   go_enter Tryz.func149,Tryz.ntmps149
   go_wp2
   go_ret
   exact⟨by rw[HE.out];rfl,Below.refl _ _⟩
 ·have HO:=aA ho
  have d0:(p.op.toList==[105,110,116])=false:=by rw[ByteArray.toList_eq,ho];rfl
  have d1:(p.op.toList==[116,114,117,101])=false:=by rw[ByteArray.toList_eq,ho];rfl
  have d2:(p.op.toList==[102,97,108,115,101])=true:=by rw[ByteArray.toList_eq,ho];rfl
  clear ho
  have HE:Hid (gK nb nn d.fr mem d.g p=p.n):=by unfold Hid gK;rw[if_neg (by rw[HL.out];decide),HO.out];rfl
  clear hs hi hpt hok c3 c4 HO
  rcases hcase with⟨hf,c2⟩ | ⟨hf,c2,p5⟩
  all_goals
   clear hf
   go_enter Tryz.func149,Tryz.ntmps149
   go_wp2
   go_ret
   exact⟨by rw[HE.out];rfl,Below.refl _ _⟩
 ·have HO:=aA ho
  have d0:(p.op.toList==[105,110,116])=false:=by rw[ByteArray.toList_eq,ho];rfl
  have d1:(p.op.toList==[116,114,117,101])=false:=by rw[ByteArray.toList_eq,ho];rfl
  have d2:(p.op.toList==[102,97,108,115,101])=false:=by rw[ByteArray.toList_eq,ho];rfl
  have d3:(p.op.toList==[110,97,109,101])=true:=by rw[ByteArray.toList_eq,ho];rfl
  clear ho
  obtain⟨h0,h1⟩:=hok.nm HO.out
  obtain⟨b,bP,rfl,q0⟩:=Bu hpt.aF h0
  rw[Nat.add_zero] at q0
  have r0:=hi.wt.cell h1
  have i1:(0:Int)<(p.aF.length:Int):=by omega
  obtain⟨k,hk⟩:∃k,k=iN p 0:=⟨_,rfl⟩
  have HE:Hid (gK nb nn d.fr mem d.g p=d.g k):=by unfold Hid gK;rw[if_neg (by rw[HL.out];decide),HO.out,hk];rfl
  rw[←hk] at q0 r0 h1
  have i2:(0:Int)≤(k:Int):=by omega
  have i3:(k:Int)<(d.n:Int):=by omega
  clear hs hi hpt hok h0 hk c3 HO
  rcases hcase with⟨hf,c2⟩ | ⟨hf,c2,p5⟩
  all_goals
   clear hf
   go_enter Tryz.func149,Tryz.ntmps149
   go_upto_region 10 with fail
   go_quiet (fail)
   go_wp2
   go_ret
   exact⟨by rw[HE.out];rfl,iR (Below.refl _ _) _⟩
 ·have HO:=aA ho
  have d0:(p.op.toList==[105,110,116])=false:=by rw[ByteArray.toList_eq,ho];rfl
  have d1:(p.op.toList==[116,114,117,101])=false:=by rw[ByteArray.toList_eq,ho];rfl
  have d2:(p.op.toList==[102,97,108,115,101])=false:=by rw[ByteArray.toList_eq,ho];rfl
  have d3:(p.op.toList==[110,97,109,101])=false:=by rw[ByteArray.toList_eq,ho];rfl
  have d4:(p.op.toList==[112,114,101])=true:=by rw[ByteArray.toList_eq,ho];rfl
  clear ho
  obtain⟨k,hk,hkl⟩:=hok.pr HO.out
  obtain⟨hml,b,bP,hmo,m0⟩:=Fa rfl (hs.mm.below hi.below) hkl
  rw[hmo] at c3
  rw[hk] at p3
  have i2:(0:Int)≤(k:Int):=by omega
  have i3:(k:Int)<(d.ml:Int):=by omega
  have HE:Hid (gK nb nn d.fr mem d.g p=qG mem k):=by unfold Hid gK;rw[if_neg (by rw[HL.out];decide),HO.out,hk];rfl
  clear hs hi hpt hok hk hml hmo c4 HO
  rcases hcase with⟨hf,c2⟩ | ⟨hf,c2,p5⟩
  all_goals
   clear hf
   go_enter Tryz.func149,Tryz.ntmps149
   go_upto_region 12 with fail
   go_quiet (fail)
   go_wp2
   go_ret
   exact⟨by rw[HE.out];rfl,iR (Below.refl _ _) _⟩
 ·have HO:=aA ho
  have d0:(p.op.toList==[105,110,116])=false:=by rw[ByteArray.toList_eq,ho];rfl
  have d1:(p.op.toList==[116,114,117,101])=false:=by rw[ByteArray.toList_eq,ho];rfl
  have d2:(p.op.toList==[102,97,108,115,101])=false:=by rw[ByteArray.toList_eq,ho];rfl
  have d3:(p.op.toList==[110,97,109,101])=false:=by rw[ByteArray.toList_eq,ho];rfl
  have d4:(p.op.toList==[112,114,101])=false:=by rw[ByteArray.toList_eq,ho];rfl
  have d5:(p.op.toList==[45,62])=true:=by rw[ByteArray.toList_eq,ho];rfl
  clear ho
  have HE:Hid (gK nb nn d.fr mem d.g p=lI d.fr mem d.g p):=by unfold Hid gK;rw[if_neg (by rw[HL.out];decide),HO.out];rfl
  have HCA:Hid (Calls Tryz.prog 182 #[.pointer (some ⟨d.I,0,none⟩),.pointer (some ⟨pb,off+x*6,none⟩)] w fun e w'=>e=.returned (.int .i64 (lI d.fr mem d.g p))∧Bw w w'):=Gi hs hi hpt hok (Or.inl HO.out)
  clear hs hi hpt hok c3 c4 HO
  rcases hcase with⟨hf,c2⟩ | ⟨hf,c2,p5⟩
  all_goals
   clear hf
   go_enter Tryz.func149,Tryz.ntmps149
   go_wp2_with (go_at_call 182;refine HCA.out.mono ?_;rintro e w2 ⟨rfl,hb2⟩)
   have HB2:=aA hb2
   clear hb2
   go_ret
   exact⟨by rw[HE.out];rfl,HB2.out⟩
 ·have HO:=aA ho
  have d0:(p.op.toList==[105,110,116])=false:=by rw[ByteArray.toList_eq,ho];rfl
  have d1:(p.op.toList==[116,114,117,101])=false:=by rw[ByteArray.toList_eq,ho];rfl
  have d2:(p.op.toList==[102,97,108,115,101])=false:=by rw[ByteArray.toList_eq,ho];rfl
  have d3:(p.op.toList==[110,97,109,101])=false:=by rw[ByteArray.toList_eq,ho];rfl
  have d4:(p.op.toList==[112,114,101])=false:=by rw[ByteArray.toList_eq,ho];rfl
  have d5:(p.op.toList==[45,62])=false:=by rw[ByteArray.toList_eq,ho];rfl
  have d6:(p.op.toList==[102,98,121])=true:=by rw[ByteArray.toList_eq,ho];rfl
  clear ho
  have HE:Hid (gK nb nn d.fr mem d.g p=lI d.fr mem d.g p):=by unfold Hid gK;rw[if_neg (by rw[HL.out];decide),HO.out];rfl
  have HCA:Hid (Calls Tryz.prog 182 #[.pointer (some ⟨d.I,0,none⟩),.pointer (some ⟨pb,off+x*6,none⟩)] w fun e w'=>e=.returned (.int .i64 (lI d.fr mem d.g p))∧Bw w w'):=Gi hs hi hpt hok (Or.inr HO.out)
  clear hs hi hpt hok c3 c4 HO
  rcases hcase with⟨hf,c2⟩ | ⟨hf,c2,p5⟩
  all_goals
   clear hf
   go_enter Tryz.func149,Tryz.ntmps149
   go_wp2_with (go_at_call 182;refine HCA.out.mono ?_;rintro e w2 ⟨rfl,hb2⟩)
   have HB2:=aA hb2
   clear hb2
   go_ret
   exact⟨by rw[HE.out];rfl,HB2.out⟩
end Go.Proofs.YtmgfakcccfahaaaGreatDoor
