/-
  package flow: workAll BY CONTRACT: all parts have their values.
-/
import Derived.Test.YtmgfakcccfahaaaGreatDoorN36
namespace Go.Proofs.YtmgfakcccfahaaaGreatDoor
open Go.RowKit Go.Maps
set_option maxRecDepth 100000
set_option maxHeartbeats 4000000

structure Same(d d':dW):Prop where
 I:d'.I=d.I
 R:d'.R=d.R
 B:d'.B=d.B
 C:d'.C=d.C
 fr:d'.fr=d.fr
 mo:d'.mo=d.mo
 ml:d'.ml=d.ml
 mc:d'.mc=d.mc
 n:d'.n=d.n
structure yJ(w0:World)(q:bC)(d:dW)(wk:(Nat→Int)→Pq→Int×Bool)(Rd:Nat→Int→Prop):Prop where
 work:∀(x:Nat) (p:Pq),q.ps[x]?=some p→eZ q.ps x=false→∀(d':dW) (w:World),Same d d'→bF w0 d' w→(∀y∈dY q.ps x,Rd y (d'.g y))→Calls Tryz.prog 149 #[.pointer (some ⟨d.I,0,none⟩),.int .i64 (x:Int)] w fun e w'=>e=.returned (.int .i64 (wk d'.g p).1)∧∃a b c,bF w0 { d' with a:=a,b:=b,c:=c,tr:=d'.tr||(wk d'.g p).2 } w'
 right:∀(x:Nat) (p:Pq) (g:Nat→Int),q.ps[x]?=some p→eZ q.ps x=false→(∀y∈dY q.ps x,Rd y (g y))→Rd x (wk g p).1
 same:∀(x:Nat) (p:Pq) (g g':Nat→Int),q.ps[x]?=some p→(∀y∈dY q.ps x,g y=g' y)→wk g p=wk g' p
def Rm(q:bC)(inp:List (Int×Int))(g:Nat→Int):Prop:=∀(i x:Nat) (v:Int×Int),q.is[i]?=some x→inp[i]?=some v→g x=v.2
def kJ(q:bC)(wk:(Nat→Int)→Pq→Int×Bool)(g:Nat→Int)(x:Nat):Int×Bool:=match q.ps[x]? with | some p=>wk g p | none=>(0,false)
theorem tV{q:bC}{wk:(Nat→Int)→Pq→Int×Bool}{g:Nat→Int}{x:Nat}{p:Pq}(h:q.ps[x]?=some p):kJ q wk g x=wk g p:=by unfold kJ;rw[h]
structure mD(q:bC)(inp:List (Int×Int))(wk:(Nat→Int)→Pq→Int×Bool)(Rd:Nat→Int→Prop)(j:Nat)(g:Nat→Int)(tr:Bool):Prop where
 ins:Rm q inp g
 val:∀x∈q.ts.take j,g x=(kJ q wk g x).1∧Rd x (g x)
 tr:tr=(q.ts.take j).any fun x=>(kJ q wk g x).2
structure jX(q:bC):Prop where
 lU:jV q.ps q.ts
 is:∀(x:Nat),x<q.ps.length→(eZ q.ps x=true ↔ x∈q.is)
 FX:∀x∈q.is,x<q.ps.length
 Ot:q.is.Nodup
 nl:∀x y,y∈dY q.ps x→y<q.ps.length
theorem mD.step{w0:World}{q:bC}{d:dW}{inp:List (Int×Int)}{wk:(Nat→Int)→Pq→Int×Bool}{Rd:Nat→Int→Prop}(hw:yJ w0 q d wk Rd)(hq:jX q)(hil:inp.length=q.is.length)(hRi:∀(i x:Nat) (v:Int×Int),q.is[i]?=some x→inp[i]?=some v→Rd x v.2){j x:Nat}{p:Pq}{g:Nat→Int}{tr:Bool}(h:mD q inp wk Rd j g tr)(hx:q.ts[j]?=some x)(hp:q.ps[x]?=some p) :
  (∀y∈dY q.ps x,Rd y (g y))∧mD q inp wk Rd (j+1) (fun k=>if k=x then (wk g p).1 else g k) (tr||(wk g p).2):=by
 have hnb:eZ q.ps x=false:=(hq.lU.t x (List.mem_of_getElem? hx)).2
 have hxl:x<q.ps.length:=(hq.lU.t x (List.mem_of_getElem? hx)).1
 have hjl:=(bA hx).1
 have hts:q.ts=q.ts.take j++x::q.ts.drop (j+1):=by
  have h1:=List.take_append_drop j q.ts
  rw[List.drop_eq_getElem_cons hjl,(bA hx).2] at h1
  exact h1.symm
 have hnd:=hq.lU.nd
 rw[hts,List.nodup_append] at hnd
 have hxn:x ∉ q.ts.take j:=fun hm=>hnd.2.2 x hm x List.mem_cons_self rfl
 have hxi:x ∉ q.is:=fun hm=>by rw[(hq.is x hxl).2 hm] at hnb;cases hnb
 have hneed:∀y∈dY q.ps x,eZ q.ps y=true∨y∈q.ts.take j:=fun y hy=>hq.lU.o _ _ _ hts y hy
 have hyx:∀y∈dY q.ps x,y≠x:=fun y hy e=>by
  rcases hneed y hy with h1 | h1
  ·rw[e,hnb] at h1;cases h1
  ·rw[e] at h1;exact hxn h1
 have hinp:∀y,y∈q.is→∃(i:Nat) (v:Int×Int),q.is[i]?=some y∧inp[i]?=some v:=fun y hy=>by
  obtain⟨i,hi⟩:=List.mem_iff_getElem?.1 hy
  exact⟨i,inp[i]'(by have:=(bA hi).1;omega),hi,List.getElem?_eq_getElem _⟩
 have hright:∀y∈dY q.ps x,Rd y (g y):=fun y hy=>by
  rcases hneed y hy with h1 | h1
  ·obtain⟨i,v,hi,hv⟩:=hinp y ((hq.is y (hq.nl x y hy)).1 h1)
   rw[h.ins i y v hi hv]
   exact hRi i y v hi hv
  ·exact(h.val y h1).2
 have hsx:wk (fun k=>if k=x then (wk g p).1 else g k) p=wk g p:=(hw.same x p g _ hp (fun y hy=>by rw[if_neg (hyx y hy)])).symm
 have hold:∀y∈q.ts.take j,y≠x∧kJ q wk (fun k=>if k=x then (wk g p).1 else g k) y=kJ q wk g y:=fun y hy=>by
  have hne:y≠x:=fun e=>hxn (e ▸ hy)
  refine⟨hne,?_⟩
  obtain⟨a,b,hab⟩:=List.append_of_mem hy
  unfold kJ
  cases hpy:q.ps[y]? with
  | none=>rfl
  | some p'=>
   refine(hw.same y p' g _ hpy (fun z hz=>?_)).symm
   have hz2:=hq.lU.o a y (b++x::q.ts.drop (j+1)) (by have:=hts;rw[hab,List.append_assoc] at this;exact this) z hz
   have hzx:z≠x:=fun e=>by
    rcases hz2 with h1 | h1
    ·rw[e,hnb] at h1;cases h1
    ·exact hxn (by rw[hab];exact List.mem_append_left _ (e ▸ h1))
   rw[if_neg hzx]
 have htk:q.ts.take (j+1)=q.ts.take j++[x]:=by rw[List.take_add_one,hx];rfl
 refine⟨hright,fun i y v hi hv=>?_,fun y hy=>?_,?_⟩
 ·have hne:y≠x:=fun e=>hxi (e ▸ List.mem_of_getElem? hi)
  rw[if_neg hne]
  exact h.ins i y v hi hv
 ·rw[htk] at hy
  rcases List.mem_append.1 hy with hy | hy
  ·obtain⟨hne,he⟩:=hold y hy
   simp only[if_neg hne]
   rw[he]
   exact h.val y hy
  ·rw[List.mem_singleton.1 hy,tV hp,hsx]
   simp only[if_pos]
   exact⟨trivial,hw.right x p g hp hnb hright⟩
 ·rw[htk,List.any_append,h.tr]
  congr 1
  ·have:∀l:List Nat,(∀y∈l,y∈q.ts.take j)→(l.any fun y=>(kJ q wk g y).2)=l.any fun y=>(kJ q wk (fun k=>if k=x then (wk g p).1 else g k) y).2:=fun l=>by
    induction l with
    | nil=>intro _;rfl
    | cons y l ih=>
     intro hl
     simp only[List.any_cons]
     rw[ih (fun z hz=>hl z (List.mem_cons_of_mem _ hz)),(hold y (hl y List.mem_cons_self)).2]
   exact this _ (fun _ hy=>hy)
  ·simp only[List.any_cons,List.any_nil,Bool.or_false]
   rw[tV hp,hsx]
theorem bF.DR{w0 w:World}{d:dW}(h:bF w0 d w){R:Nat}(hR:d.R=R)(k:Nat)(v:Int):bF w0 { d with g:=fun j=>if j=k then v else d.g j } (w.setCell ⟨R,k,none⟩ (.int .i64 v)):=by
 subst hR
 exact h.KI k v
theorem Nf{l:List Nat}(h:l.Nodup){i j x:Nat}(hi:l[i]?=some x)(hj:l[j]?=some x):i=j:=by
 rw[List.nodup_iff_pairwise_ne,List.pairwise_iff_getElem] at h
 obtain⟨h1,e1⟩:=bA hi
 obtain⟨h2,e2⟩:=bA hj
 rcases Nat.lt_trichotomy i j with h3 | h3 | h3
 ·exact absurd (e1.trans e2.symm) (h i j h1 h2 h3)
 ·exact h3
 ·exact absurd (e2.trans e1.symm) (h j i h2 h1 h3)
structure Cw(w0:World)(I B C:Nat)(fr:Bool)(mo:Option Addr)(ml mc:Nat)(w:World):Prop where
 blk:w.heap[I]?=some (.cells #[.pointer (some ⟨B,0,none⟩),.pointer (some ⟨C,0,none⟩),.bool fr,.slice mo ml mc,.slice none 0 0,.int .i64 0,.int .i64 0,.int .i64 0,.bool false] 192 (0,0))
 le:w0.heap.size≤I
 below:Bw w0 w
structure Cv(w0:World)(q:bC)(inp:List (Int×Int))(wk:(Nat→Int)→Pq→Int×Bool)(Rd:Nat→Int→Prop)(d d':dW)(w:World):Prop where
 same:Same d d'
 xR:bF w0 d' w
 st:mD q inp wk Rd q.ts.length d'.g d'.tr
theorem IV{w0 w:World}{I B C M:Nat}{dv:Value}{f:List UInt8→Option Value}{q:bC}{nb nn:Int}{fr:Bool}{mo:Option Addr}{ml mc:Nat}(hcd:Cd w0 C B M dv f q nb nn)(h:Cw w0 I B C fr mo ml mc w)(hq:jX q)(hn:q.ps.length≤100000)(io:Option Addr)(il ic:Nat)(inp:List (Int×Int))(hin:kF w0 (.slice io il ic) inp)(hil:inp.length=q.is.length)(him:il=inp.length)(wk:(Nat→Int)→Pq→Int×Bool)(Rd:Nat→Int→Prop)(hRi:∀(i x:Nat) (v:Int×Int),q.is[i]?=some x→inp[i]?=some v→Rd x v.2)(hw:∀R,yJ w0 q ⟨I,R,B,C,fr,mo,ml,mc,q.ps.length,fun _=>0,0,0,0,false⟩ wk Rd) :
  Calls Tryz.prog 104 #[.pointer (some ⟨I,0,none⟩),.slice io il ic] w fun e w'=>e=.returned (.tuple #[])∧∃R d',Cv w0 q inp wk Rd ⟨I,R,B,C,fr,mo,ml,mc,q.ps.length,fun _=>0,0,0,0,false⟩ d' w':=by
 obtain⟨n,hnn⟩:∃n,n=q.ps.length:=⟨_,rfl⟩
 rw[←hnn] at hn hw ⊢
 have hcw:=hcd.keep h.below
 obtain⟨vi,vt,vk,vo,va,vc,⟨l1,l2,_⟩,hvi,hvt,_⟩:=hcd.nV.list
 obtain⟨oi,ci,ei,_⟩:=hvi.2.2
 obtain⟨ot,ct,et,_⟩:=hvt.2.2
 subst ei et
 obtain⟨op,cp,pB⟩:∃op cp,w.cell? ⟨B,0,none⟩=some (.slice op n cp):=by
  obtain⟨vp,_,_,_,_,_,_,ps,hB,hps,hvp,_⟩:=hcw.nV.is
  obtain⟨o,c,e,_⟩:=hvp.2.2
  subst e
  have hl:ps.length=n:=by rw[hnn,←hps,List.length_map]
  exact⟨o,c,by rw[cell_of_row w _ _ _ _ (0,0) hB,←hl];rfl⟩
 have hmk:=sH Tryz.underlying30 Tryz.kT rfl n hn (by omega)
 have c0:w.cell? ⟨I,0,none⟩=some (.pointer (some ⟨B,0,none⟩)):=cr h.blk rfl
 have c4:(w.alloc (.cells (Array.replicate n (.int .i64 0)) 3)).cell? ⟨I,0+4,none⟩=some (.slice none 0 0):=by rw[cell_of_row _ _ _ _ _ (0,0) (kV _ h.blk)];rfl
 have f4:(w.alloc (.cells (Array.replicate n (.int .i64 0)) 3)).frozen? ⟨I,0+4,none⟩=false:=bR (kV _ h.blk)
 have HCD:Hid (Cd w0 C B M dv f q nb nn∧jX q∧n=q.ps.length∧n≤100000):=⟨hcd,hq,hnn,hn⟩
 have HIN:Hid (kF w0 (.slice io il ic) inp∧inp.length=q.is.length∧il=inp.length∧(∀(i x:Nat) (v:Int×Int),q.is[i]?=some x→inp[i]?=some v→Rd x v.2)):=⟨hin,hil,him,hRi⟩
 obtain⟨w1,hw1⟩:∃w1,w1=(w.alloc (.cells (Array.replicate n (.int .i64 0)) 3)).setCell ⟨I,4,none⟩ (.slice (some ⟨w.heap.size,0,none⟩) n n):=⟨_,rfl⟩
 obtain⟨R,hR⟩:∃R,R=w.heap.size:=⟨_,rfl⟩
 obtain⟨d0,hd0⟩:∃d0:dW,d0=⟨I,R,B,C,fr,mo,ml,mc,n,fun _=>0,0,0,0,false⟩:=⟨_,rfl⟩
 have HD0:=aA hd0
 have HWK:Hid (yJ w0 q d0 wk Rd):=by rw[hd0];exact hw R
 have HI1:Hid (bF w0 d0 w1):=by
  have s0:Sep w w0.heap.size (fun _=>False) []:=Sep.nil (fun _ h=>h.elim) h.below.size
  have s1:=s0.head (aP I (.cells #[.pointer (some ⟨B,0,none⟩),.pointer (some ⟨C,0,none⟩),.bool fr,.slice mo ml mc,.slice none 0 0,.int .i64 0,.int .i64 0,.int .i64 0,.bool false] 192 (0,0))) h.blk (fun qq hqq=>by
   obtain rfl:I=qq:=Option.some.inj hqq
   exact⟨h.le,(bN h.blk).1,id,fun _ hd=>by cases hd⟩)
  have s2:=Sep.alloc (l1:=[aP I (.cells #[.pointer (some ⟨B,0,none⟩),.pointer (some ⟨C,0,none⟩),.bool fr,.slice mo ml mc,.slice none 0 0,.int .i64 0,.int .i64 0,.int .i64 0,.bool false] 192 (0,0))]) (l2:=[]) (by exact s1) (Array.replicate n (.int .i64 0)) 3
  have s3:=s2.set (i:=0) (b:=I) rfl 4 (.slice (some ⟨w.heap.size,0,none⟩) n n)
  have hb:Bw w0 (w.alloc (.cells (Array.replicate n (.int .i64 0)) 3)):=h.below.alloc h.below.size _
  have hb2:=s2.below (i:=0) rfl (bW (w.alloc (.cells (Array.replicate n (.int .i64 0)) 3)) I 4 (.slice (some ⟨w.heap.size,0,none⟩) n n)) hb
  rw[hw1,hd0,hR]
  refine⟨?_,hb2⟩
  unfold j4
  rw[CQ]
  exact s3
 have HW1:Hid ((w.alloc (.cells (Array.replicate n (.int .i64 0)) 3)).setCell ⟨I,4,none⟩ (.slice (some ⟨w.heap.size,0,none⟩) n n)=w1):=hw1.symm
 have HBL:Hid (Bw w0 w1):=HI1.out.below
 have x1:w1.cell? ⟨I,0,none⟩=some (.pointer (some ⟨B,0,none⟩)):=by have:=HI1.out.c0;rw[hd0] at this;exact this
 have y1:w1.cell? ⟨B,0+1,none⟩=some (.slice oi q.is.length ci):=aD HBL.out l1
 have HLI:Hid (aB w0 (fun _=>True) 1 (.slice oi q.is.length ci) q.is.length (aX q.is)∧aB w0 (fun _=>True) 1 (.slice ot q.ts.length ct) q.ts.length (aX q.ts)∧w0.cell? ⟨B,0+2,none⟩=some (.slice ot q.ts.length ct)):=⟨hvi,hvt,l2⟩
 clear hcd h hq hn hin hil him hRi hw hnn hcw l1 l2 hvi hvt hw1 hR hd0
 go_enter Tryz.func104,Tryz.ntmps104
 go_upto_region 1 with fail
 rw[HW1.out]
 clear hmk c0 c4 f4 pB
 go_wp2
 clear x1 y1
 go_loopw [28] (fun t wr=>∃(j:Nat) (g:Nat→Int),j≤q.is.length∧t=.int .i64 j∧Hid (bF w0 { d0 with g:=g } wr∧∀(i x:Nat) (v:Int×Int),i<j→q.is[i]?=some x→inp[i]?=some v→g x=v.2)) (fun t _=>q.is.length-(intOf t).toNat)
 case atStart=>exact⟨0,d0.g,Nat.zero_le _,rfl,HI1.out,fun i x v hi=>by omega⟩
 case round=>
  obtain⟨j,g,hj,rfl,HR⟩:=hrel
  by_cases hjl:j<q.is.length
  ·obtain⟨x,hx⟩:∃x,q.is[j]?=some x:=⟨_,List.getElem?_eq_getElem hjl⟩
   obtain⟨v,hv⟩:∃v,inp[j]?=some v:=⟨_,List.getElem?_eq_getElem (by have:=HIN.out.2.1;omega)⟩
   have hxl:x<n:=by rw[HCD.out.2.2.1];exact HCD.out.2.1.FX x (List.mem_of_getElem? hx)
   obtain⟨b1,bP,c1,ev,_,_,gg⟩:=(HLI.out.1.keep (dX HR.out.1.below)).at (by rw[HLI.out.1.1];omega)
   obtain⟨rfl,rfl⟩:oi=some ⟨b1,bP,none⟩∧ci=c1:=by simpa using ev
   have y0:=gg j (.int .i64 (x:Int)) (by unfold aX;rw[List.getElem?_map,lH hx];rfl)
   obtain⟨_,io',ic',e1,hget⟩:=HIN.out.1.below HR.out.1.below
   obtain⟨rfl,rfl⟩:io=io'∧ic=ic':=by have:=Value.slice.inj e1;exact⟨this.1,this.2.2⟩
   obtain⟨b2,of2,rfl,_,v1⟩:=hget j v hv
   have i0':(0:Int)≤(j:Int):=by omega
   have i1':(j:Int)<(q.is.length:Int):=by omega
   have i2':(j:Int)<(il:Int):=by have:=HIN.out;omega
   have i3':(0:Int)≤(x:Int):=by omega
   have i4':(x:Int)<(n:Int):=by omega
   have c4:wr.cell? ⟨I,0+4,none⟩=some (.slice (some ⟨R,0,none⟩) n n):=by have:=HR.out.1.c4;rw[HD0.out] at this;exact this
   have hwt:dV wr R n g:=by have:=HR.out.1.wt;rw[HD0.out] at this;exact this
   have t0:=hwt.cell hxl
   have t1:=hwt.free x
   have HNX:Hid (bF w0 { d0 with g:=fun k=>if k=x then v.2 else g k } (wr.setCell ⟨R,x,none⟩ (.int .i64 v.2))∧∀(i y:Nat) (u:Int×Int),i<j+1→q.is[i]?=some y→inp[i]?=some u→(fun k=>if k=x then v.2 else g k) y=u.2):=by
    have h1:=HR.out.1.DR (R:=R) (by rw[HD0.out]) x v.2
    refine⟨h1,fun i y u hi hy hu=>?_⟩
    by_cases e:i=j
    ·subst e
     rw[hx] at hy
     rw[hv] at hu
     obtain rfl:=Option.some.inj hy
     obtain rfl:=Option.some.inj hu
     simp
    ·have hyx:y≠x:=fun e2=>e (Nf HCD.out.2.1.Ot hy (e2 ▸ hx))
     simp only[if_neg hyx]
     exact HR.out.2 i y u (by omega) hy hu
   have HJ:=aA hjl
   have N4:Hid (wrap64 ((j:Int)+1)=(j:Int)+1):=by have h1:=HJ.out;have h2:=HLI.out.1.2.1;unfold maxLen at h2;unfold Hid wrap64;omega
   obtain⟨v2,hv2⟩:∃v2,v2=v.2:=⟨_,rfl⟩
   rw[←hv2] at v1 HNX
   have hS0:wr.drew.cell? ⟨I,0+4,none⟩=some (.slice (some ⟨R,0,none⟩) n n)∧wr.drew.cell? ⟨b2,of2+j*2+1,none⟩=some (.int .i64 v2):=⟨c4,v1⟩
   have HSE:Hid ((wr.setCell ⟨R,x,none⟩ (.int .i64 v2)).cell? ⟨I,0+4,none⟩=some (.slice (some ⟨R,0,none⟩) n n)∧(wr.setCell ⟨R,x,none⟩ (.int .i64 v2)).cell? ⟨b2,of2+j*2+1,none⟩=some (.int .i64 v2)):=by
    refine⟨by have:=HNX.out.1.c4;rw[HD0.out] at this;exact this,?_⟩
    obtain⟨_,io2,ic2,e3,hget2⟩:=HIN.out.1.below HNX.out.1.below
    obtain⟨b3,of3,e4,_,h5⟩:=hget2 j v hv
    have e5:=Value.slice.inj e3
    have e6:=e5.1.trans e4
    obtain⟨rfl,rfl⟩:b2=b3∧of2=of3:=by simpa using e6
    rw[h5,hv2]
   clear hx hv hxl ev gg e1 hget hwt hj hjl HR c4 v1 hv2
   go_upto_region 4 with fail
   clear y0
   refine fI 11 (fun W=>W.cell? ⟨I,0+4,none⟩=some (.slice (some ⟨R,0,none⟩) n n)∧W.cell? ⟨b2,of2+j*2+1,none⟩=some (.int .i64 v2)) (fun _=>True) (by kernel_rfl) hS0 trivial (fun hh=>?_)
   refine tj 0 33 (.pointer (some ⟨I,0,none⟩)) rfl (by rintro w ⟨b4,bv⟩;go_simp) hh ?_
   refine tj 1 34 (.pointer (some ⟨I,0,none⟩)) rfl (by rintro w ⟨b4,bv⟩;go_simp) hh ?_
   refine tj 2 35 (.pointer (some ⟨I,4,none⟩)) rfl (by rintro w ⟨b4,bv⟩;go_simp) hh ?_
   refine tj 3 36 (.slice (some ⟨R,0,none⟩) n n) rfl (by rintro w ⟨b4,bv⟩;go_simp) hh ?_
   refine tj 4 37 (.int .i64 (x:Nat)) rfl (by rintro w ⟨b4,bv⟩;go_simp) hh ?_
   refine tj 5 38 (.slice (some ⟨b2,of2,none⟩) il ic) rfl (by rintro w ⟨b4,bv⟩;go_simp) hh ?_
   refine tj 6 39 (.int .i64 (j:Nat)) rfl (by rintro w ⟨b4,bv⟩;go_simp) hh ?_
   refine tj 7 40 (.pointer (some ⟨b2,of2+j*2,none⟩)) rfl (by rintro w ⟨b4,bv⟩;go_simp) hh ?_
   refine tj 8 41 (.pointer (some ⟨b2,of2+j*2+1,none⟩)) rfl (by rintro w ⟨b4,bv⟩;go_simp) hh ?_
   refine tj 9 42 (.int .i64 v2) rfl (by rintro w ⟨b4,bv⟩;go_simp) hh ?_
   refine tj 10 43 (.pointer (some ⟨R,x,none⟩)) rfl (by rintro w ⟨b4,bv⟩;go_simp) hh ?_
   refine aS 11 none rfl fun K hK=>?_
   go_simp
   refine hK.out _ _ (Till.last HSE.out) (fun hh=>?_)
   clear hK K
   try simp only[tp]
   refine dU (by kernel_rfl) ?_ _
   clear hh hS0 HSE t0 t1
   go_wp2
   exact⟨⟨j+1,_,HJ.out,by (try rw[N4.out]);rfl,⟨HNX.out.1.keep (Below.refl _ _).drew,HNX.out.2⟩⟩,by (try rw[N4.out]);have:=HJ.out;simp [intOf];omega⟩
  ·obtain rfl:q.is.length=j:=by omega
   have HS0:Hid (bF w0 { d0 with g:=g } wr∧mD q inp wk Rd 0 g false):=by
    refine⟨HR.out.1,fun i x v hi hv=>HR.out.2 i x v (bA hi).1 hi hv,fun x hx=>?_,rfl⟩
    simp at hx
   have x1:wr.cell? ⟨I,0,none⟩=some (.pointer (some ⟨B,0,none⟩)):=by have:=HR.out.1.c0;rw[HD0.out] at this;exact this
   have y1:wr.cell? ⟨B,0+2,none⟩=some (.slice ot q.ts.length ct):=aD HR.out.1.below HLI.out.2.2
   clear hj hjl HR
   go_wp2
   clear x1 y1
   go_loopw [53] (fun t wr=>∃(j:Nat) (d:dW),j≤q.ts.length∧t=.int .i64 j∧Hid (Same d0 d∧bF w0 d wr∧mD q inp wk Rd j d.g d.tr)) (fun t _=>q.ts.length-(intOf t).toNat)
   case atStart=>exact⟨0,{ d0 with g:=g },Nat.zero_le _,rfl,⟨rfl,rfl,rfl,rfl,rfl,rfl,rfl,rfl,rfl⟩,HS0.out.1,by rw[HD0.out];exact HS0.out.2⟩
   case round=>
    obtain⟨j,d,hj,rfl,HR⟩:=hrel
    by_cases hjl:j<q.ts.length
    ·obtain⟨x,hx⟩:∃x,q.ts[j]?=some x:=⟨_,List.getElem?_eq_getElem hjl⟩
     have hxl:x<q.ps.length:=(HCD.out.2.1.lU.t x (List.mem_of_getElem? hx)).1
     have hnb:eZ q.ps x=false:=(HCD.out.2.1.lU.t x (List.mem_of_getElem? hx)).2
     obtain⟨p,hp⟩:∃p,q.ps[x]?=some p:=⟨_,List.getElem?_eq_getElem hxl⟩
     obtain⟨b1,bP,c1,ev,_,_,gg⟩:=(HLI.out.2.1.keep (dX HR.out.2.1.below)).at (by rw[HLI.out.2.1.1];omega)
     obtain⟨rfl,rfl⟩:ot=some ⟨b1,bP,none⟩∧ct=c1:=by simpa using ev
     have y0:=gg j (.int .i64 (x:Int)) (by unfold aX;rw[List.getElem?_map,lH hx];rfl)
     have i0':(0:Int)≤(j:Int):=by omega
     have i1':(j:Int)<(q.ts.length:Int):=by omega
     have i3':(0:Int)≤(x:Int):=by omega
     have i4':(x:Int)<(n:Int):=by have:=HCD.out.2.2.1;omega
     have hst:=HR.out.2.2.step HWK.out HCD.out.2.1 HIN.out.2.1 HIN.out.2.2.2 hx hp
     obtain⟨r,hr⟩:∃r,r=wk d.g p:=⟨_,rfl⟩
     have hca:=HWK.out.work x p hp hnb d wr.drew HR.out.1 (HR.out.2.1.keep (Below.refl _ _).drew) hst.1
     rw[←hr] at hca hst
     have HCA:Hid (Calls Tryz.prog 149 #[.pointer (some ⟨I,0,none⟩),.int .i64 (x:Int)] wr.drew fun e w'=>e=.returned (.int .i64 r.1)∧∃a b c,bF w0 { d with a:=a,b:=b,c:=c,tr:=d.tr||r.2 } w'):=by rw[HD0.out] at hca;exact hca
     have HDS:Hid (d.I=I∧d.R=R∧d.n=n∧Same d0 d):=by
      have hs:=HR.out.1
      refine⟨by rw[hs.I,HD0.out],by rw[hs.R,HD0.out],by rw[hs.n,HD0.out],hs⟩
     have HST:Hid (mD q inp wk Rd (j+1) (fun k=>if k=x then r.1 else d.g k) (d.tr||r.2)):=hst.2
     have c4:wr.drew.cell? ⟨I,0+4,none⟩=some (.slice (some ⟨R,0,none⟩) n n):=by have:=(HR.out.2.1.keep (Below.refl _ _).drew).c4;rw[HDS.out.1,HDS.out.2.1,HDS.out.2.2.1] at this;exact this
     have HJ:Hid (j<q.ts.length∧x<n):=⟨hjl,by rw[HCD.out.2.2.1];exact hxl⟩
     have N4:Hid (wrap64 ((j:Int)+1)=(j:Int)+1):=by have h1:=HJ.out.1;have h2:=HLI.out.2.1.2.1;unfold maxLen at h2;unfold Hid wrap64;omega
     clear hx hxl hnb hp ev gg hst hr hca hj hjl HR
     go_upto_region 9 with fail
     clear y0
     refine fI 9 (fun W=>W.cell? ⟨I,0+4,none⟩=some (.slice (some ⟨R,0,none⟩) n n)) (fun _=>True) (by kernel_rfl) c4 trivial (fun hh=>?_)
     refine tk 0 57 (.pointer (some ⟨I,0,none⟩)) rfl (.inl ⟨by rfl,?_⟩) hh ?_
     ·intro w hSw;(try dsimp only at hSw);have b4:=hSw;go_simp
     try simp only[tp]
     refine tk 1 58 (.pointer (some ⟨I,0,none⟩)) rfl (.inl ⟨by rfl,?_⟩) hh ?_
     ·intro w hSw;(try dsimp only at hSw);have b4:=hSw;go_simp
     try simp only[tp]
     refine tk 2 59 (.pointer (some ⟨I,4,none⟩)) rfl (.inl ⟨by rfl,?_⟩) hh ?_
     ·intro w hSw;(try dsimp only at hSw);have b4:=hSw;go_simp
     try simp only[tp]
     refine tk 3 60 (.slice (some ⟨R,0,none⟩) n n) rfl (.inl ⟨by rfl,?_⟩) hh ?_
     ·intro w hSw;(try dsimp only at hSw);have b4:=hSw;go_simp
     try simp only[tp]
     refine tk 4 61 (.int .i64 (x:Nat)) rfl (.inl ⟨by rfl,?_⟩) hh ?_
     ·intro w hSw;(try dsimp only at hSw);have b4:=hSw;go_simp
     try simp only[tp]
     refine tk 5 62 (.pointer (some ⟨I,0,none⟩)) rfl (.inl ⟨by rfl,?_⟩) hh ?_
     ·intro w hSw;(try dsimp only at hSw);have b4:=hSw;go_simp
     try simp only[tp]
     refine tk 6 63 (.int .i64 (x:Nat)) rfl (.inl ⟨by rfl,?_⟩) hh ?_
     ·intro w hSw;(try dsimp only at hSw);have b4:=hSw;go_simp
     try simp only[tp]
     refine aS 7 (some 64) rfl fun K hK=>?_
     go_simp
     refine HCA.out.mono ?_
     rintro e w2 ⟨rfl,a,b,c,hi2⟩
     have HI2:Hid (bF w0 { d with a:=a,b:=b,c:=c,tr:=d.tr||r.2 } w2):=hi2
     have z4:w2.cell? ⟨I,0+4,none⟩=some (.slice (some ⟨R,0,none⟩) n n):=by have:=hi2.c4;rw[←HDS.out.1,←HDS.out.2.1,←HDS.out.2.2.1];exact this
     have hwt:dV w2 R n d.g:=by have:=hi2.wt;rw[←HDS.out.2.1,←HDS.out.2.2.1];exact this
     have t0:=hwt.cell HJ.out.2
     have t1:=hwt.free x
     have HNX:Hid (Same d0 { d with a:=a,b:=b,c:=c,tr:=d.tr||r.2,g:=fun k=>if k=x then r.1 else d.g k }∧bF w0 { d with a:=a,b:=b,c:=c,tr:=d.tr||r.2,g:=fun k=>if k=x then r.1 else d.g k } (w2.setCell ⟨R,x,none⟩ (.int .i64 r.1))∧mD q inp wk Rd (j+1) (fun k=>if k=x then r.1 else d.g k) (d.tr||r.2)):=by
      have hs:=HDS.out.2.2.2
      exact⟨⟨hs.I,hs.R,hs.B,hs.C,hs.fr,hs.mo,hs.ml,hs.mc,hs.n⟩,hi2.DR HDS.out.2.1 x r.1,HST.out⟩
     have HZ5:Hid ((w2.setCell ⟨R,x,none⟩ (.int .i64 r.1)).cell? ⟨I,0+4,none⟩=some (.slice (some ⟨R,0,none⟩) n n)):=by
      have:=HNX.out.2.1.c4
      rw[←HDS.out.1]
      exact this.trans (by rw[←HDS.out.2.1,←HDS.out.2.2.1])
     obtain⟨r1,hr1⟩:∃r1,r1=r.1:=⟨_,rfl⟩
     rw[←hr1] at HNX HZ5
     rw[←hr1]
     clear hi2 hwt hr1 HCA
     go_wp2_with fail
     refine hK.out _ _ ⟨z4,fun _=>trivial⟩ (fun hh=>?_)
     clear hK K
     try simp only[tp]
     refine tk 8 65 (.pointer (some ⟨R,x,none⟩)) rfl (.inl ⟨by rfl,?_⟩) hh ?_
     ·intro w hSw;(try dsimp only at hSw);go_simp
     try simp only[tp]
     refine aS 9 none rfl fun K hK=>?_
     go_simp
     refine hK.out _ _ (Till.last HZ5.out) (fun hh=>?_)
     clear hK K
     try simp only[tp]
     refine dU (by kernel_rfl) ?_ _
     clear hh z4 t0 t1 HZ5 c4
     go_wp2
     exact⟨⟨j+1,_,HJ.out.1,by (try rw[N4.out]);rfl,HNX.out⟩,by (try rw[N4.out]);have:=HJ.out.1;simp [intOf];omega⟩
    ·obtain rfl:q.ts.length=j:=by omega
     have HE:Hid (Cv w0 q inp wk Rd ⟨I,R,B,C,fr,mo,ml,mc,n,fun _=>0,0,0,0,false⟩ d wr):=by
      have h:=HR.out
      rw[HD0.out] at h
      exact⟨h.1,h.2.1,h.2.2⟩
     clear hj hjl HR
     go_wp2
     go_end0
     exact⟨rfl,R,d,HE.out⟩
end Go.Proofs.YtmgfakcccfahaaaGreatDoor
