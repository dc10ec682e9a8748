/-
  slices.Equal of ints BY CONTRACT.
-/
import Derived.Test.YtmgfakcccfahaaaGreatDoorN14
import Derived.Test.YtmgfakcccfahaaaGreatDoorN12
set_option maxRecDepth 100000
set_option maxHeartbeats 1000000
namespace Go.Proofs.YtmgfakcccfahaaaGreatDoor
open Go.RowKit Go.Maps

theorem JW{a b:List Int}{j:Nat}{x y:Int}(ha:a[j]?=some x)(hb:b[j]?=some y)(h:a.take j=b.take j):a.take (j+1)=b.take (j+1) ↔ x=y:=by
 rw[List.take_add_one,List.take_add_one,ha,hb,h]
 simp
theorem PI(w:World)(a b:List Int)(oa ob:Option Addr)(ca cb:Nat)(ha:dP w (.slice oa a.length ca) a)(hb:dP w (.slice ob b.length cb) b)(hla:a.length≤100000) :
  Calls Tryz.prog 79 #[.slice oa a.length ca,.slice ob b.length cb] w fun e w'=>Bw w w'∧e=.returned (.bool (decide (a=b))):=by
 have HA:=aA ha
 have HB:=aA hb
 have HL:=aA hla
 clear ha hb hla
 by_cases hl:a.length=b.length
 ·have d0:((a.length:Int) != (b.length:Int))=false:=by simp [hl]
  have d1:((a.length:Int)==(b.length:Int))=true:=by simp [hl]
  have HLL:=aA hl
  obtain⟨m,hm⟩:∃m,m=b.length:=⟨_,rfl⟩
  rw[←hm] at HLL hl d0 d1 HB ⊢
  rw[hl] at HA HL ⊢
  have HLA:Hid (a.length=m∧b.length=m):=⟨hl,hm.symm⟩
  clear hl d0 d1 HLL hm
  go_enter Tryz.func79,Tryz.ntmps79
  go_wp2
  go_loopw [13] (fun t wr=>∃j:Nat,j≤m∧t=.int .i64 j∧Hid (a.take j=b.take j∧Bw w wr)) (fun t _=>m-(intOf t).toNat)
  case atStart=>exact⟨0,Nat.zero_le _,rfl,⟨rfl,Below.refl _ _⟩⟩
  case round=>
   obtain⟨j,hj,rfl,HR⟩:=hrel
   by_cases hjl:j<m
   ·obtain⟨x,hx⟩:∃x,a[j]?=some x:=⟨_,List.getElem?_eq_getElem (by have:=HLA.out;omega)⟩
    obtain⟨y,hy⟩:∃y,b[j]?=some y:=⟨_,List.getElem?_eq_getElem (by have:=HLA.out;omega)⟩
    obtain⟨b1,f1,rfl,q1⟩:=HA.out.get hx
    obtain⟨b2,f2,rfl,q2⟩:=HB.out.get hy
    have y1:=aD HR.out.2 q1
    have y2:=aD HR.out.2 q2
    have hst:=JW hx hy HR.out.1
    have i0':(0:Int)≤(j:Int):=by omega
    have i1':(j:Int)<(m:Int):=by omega
    have HJ:=aA hjl
    have N4:Hid (wrap64 ((j:Int)+1)=(j:Int)+1):=by have:=HL.out;have:=HJ.out;unfold Hid wrap64;omega
    have HBE:Hid (Bw w wr):=HR.out.2
    by_cases hxy:x=y
    ·subst hxy
     have HT:Hid (a.take (j+1)=b.take (j+1)):=hst.2 rfl
     clear hx hy q1 q2 hst hj hjl
     go_wp2
     go_quiet (fail)
     go_wp2
     exact⟨⟨j+1,HJ.out,by rw[N4.out];rfl,⟨HT.out,⟨HBE.out.os,HBE.out.tape,HBE.out.output,HBE.out.size,HBE.out.block⟩⟩⟩,by rw[N4.out];have:=HJ.out;simp [intOf];omega⟩
    ·have d0:(x != y)=true:=bne_iff_ne.2 hxy
     have d1:(x==y)=false:=beq_eq_false_iff_ne.2 hxy
     have HE:Hid (decide (a=b)=false):=decide_eq_false (fun e=>hxy (hst.1 (by rw[e])))
     clear hx hy q1 q2 hst hj hjl hxy
     go_wp2
     go_quiet (fail)
     go_wp2
     go_ret
     exact⟨⟨HBE.out.os,HBE.out.tape,HBE.out.output,HBE.out.size,HBE.out.block⟩,by rw[HE.out];rfl⟩
   ·obtain rfl:j=m:=by omega
    have HE:Hid (decide (a=b)=true):=decide_eq_true (by
     have h:=HR.out.1
     rw[List.take_of_length_le (by have:=HLA.out;omega),List.take_of_length_le (by have:=HLA.out;omega)] at h
     exact h)
    have HBE:Hid (Bw w wr):=HR.out.2
    clear hj hjl
    go_wp2
    go_ret
    exact⟨HBE.out,by rw[HE.out];rfl⟩
 ·have d0:((a.length:Int) != (b.length:Int))=true:=bne_iff_ne.2 (by omega)
  have d1:((a.length:Int)==(b.length:Int))=false:=beq_eq_false_iff_ne.2 (by omega)
  have HE:Hid (decide (a=b)=false):=decide_eq_false (fun e=>hl (by rw[e]))
  clear hl
  go_enter Tryz.func79,Tryz.ntmps79
  go_wp2
  go_ret
  exact⟨Below.refl _ _,by rw[HE.out];rfl⟩

theorem zQ(a:Int)(ha:a=0∨a=1)(v:Value)(w:World)(hv:jA w v [a]) :
  Calls Tryz.prog 111 #[v] w fun e w'=>e=.returned (.tuple #[.int .i64 (bB (a==0)),.bool false])∧Bw w w':=by
 obtain⟨hl,o,c,rfl,hc⟩:=hv
 obtain⟨b0,off,rfl,x0⟩:=hc 0 a rfl
 clear hc hl
 simp only[Nat.add_zero] at x0
 rcases ha with rfl | rfl
 ·go_enter Tryz.func111,Tryz.ntmps111
  go_wp2
  go_ret2
  exact⟨rfl,Below.refl _ _⟩
 ·go_enter Tryz.func111,Tryz.ntmps111
  go_wp2
  go_ret2
  exact⟨rfl,Below.refl _ _⟩
theorem QF(a:Int):cB (-a)=cB (256-a):=by unfold cB;omega
theorem MR(a:Int)(ha:Sm a)(v:Value)(w:World)(hv:jA w v [a]) :
  Calls Tryz.prog 112 #[v] w fun e w'=>e=.returned (.tuple #[.int .i64 (cB (256-a)),.bool false])∧Bw w w':=by
 obtain⟨hl,o,c,rfl,hc⟩:=hv
 obtain⟨b0,off,rfl,x0⟩:=hc 0 a rfl
 clear hc hl
 simp only[Nat.add_zero] at x0
 rw[←QF]
 have HR:Hid (-100000 < -a∧-a<100000):=by unfold Hid;unfold Sm at ha;omega
 have h1:wrap64 (-a)=-a:=by unfold Sm at ha;unfold wrap64;omega
 clear ha
 go_enter Tryz.func112,Tryz.ntmps112
 go_wp2_with (go_at_call 113;refine(vZ _ HR.out _).mono ?_;rintro e w' ⟨rfl,hw⟩;have hw2:=hw.symm;subst hw2)
 go_ret2
 exact⟨rfl,Below.refl _ _⟩
theorem EA(a b d:Int)(ha:a=0∨a=1)(v:Value)(w:World)(hv:jA w v [a,b,d]) :
  Calls Tryz.prog 114 #[v] w fun e w'=>e=.returned (.tuple #[.int .i64 (bif a==1 then b else d),.bool false])∧Bw w w':=by
 obtain⟨hl,o,c,rfl,hc⟩:=hv
 obtain⟨b0,off,rfl,x0⟩:=hc 0 a rfl
 obtain⟨b1,bP,e1,x1⟩:=hc 1 b rfl
 obtain⟨rfl,rfl⟩:b0=b1∧off=bP:=by simpa using e1
 obtain⟨b1,bP,e2,x2⟩:=hc 2 d rfl
 obtain⟨rfl,rfl⟩:b0=b1∧off=bP:=by simpa using e2
 clear hc hl e1 e2
 simp only[Nat.add_zero] at x0
 rcases ha with rfl | rfl
 ·go_enter Tryz.func114,Tryz.ntmps114
  go_wp2
  go_ret2
  exact⟨rfl,Below.refl _ _⟩
 ·go_enter Tryz.func114,Tryz.ntmps114
  go_wp2
  go_ret2
  exact⟨rfl,Below.refl _ _⟩
theorem EB(p:Nat)(a:Int)(v:Value)(w:World)(hv:jA w v [a,0]) :
  Calls Tryz.prog 118 #[v,.pointer (some ⟨p,0,none⟩)] w fun e w'=>e=.returned (.tuple #[.int .i64 0,.bool true])∧Bw w w':=by
 obtain⟨hl,o,c,rfl,hc⟩:=hv
 obtain⟨b0,off,rfl,x0⟩:=hc 0 a rfl
 obtain⟨b1,bP,e1,x1⟩:=hc 1 0 rfl
 obtain⟨rfl,rfl⟩:b0=b1∧off=bP:=by simpa using e1
 clear hc hl e1
 simp only[Nat.add_zero] at x0
 go_enter Tryz.func118,Tryz.ntmps118
 go_wp2
 go_ret2
 exact⟨rfl,Below.refl _ _⟩

theorem Px(n:Int)(w:World):Calls Tryz.prog 113 #[.int .i64 n] w fun e w'=>e=.returned (.int .i64 (cB n))∧w'=w:=by
 obtain⟨m,hm⟩:∃m,m=wrap64 (n+128):=⟨_,rfl⟩
 have hb:=G9 m
 have h1:wrap64 (n+128)=m:=hm.symm
 have E:Hid (m % 256=(n+128) % 256):=by unfold Hid;unfold wrap64 at hm;omega
 have h2:wrap64 (m % 256-128)=m % 256-128:=by unfold wrap64;omega
 clear hm
 go_enter Tryz.func113,Tryz.ntmps113
 go_wp2
 go_ret
 refine⟨?_,rfl⟩
 show Ending.returned (Value.int .i64 (m % 256-128))=_
 rw[E.out]
 rfl
theorem QE(n:Int):(n==cB n)=(decide (-129<n)&&decide (n<128)):=by
 rw[Bool.eq_iff_iff]
 simp only[beq_iff_eq,Bool.and_eq_true,decide_eq_true_eq]
 unfold cB
 omega
theorem GH(n:Int)(w:World):Calls Tryz.prog 100 #[.int .i64 n] w fun e w'=>e=.returned (.bool (n==cB n))∧Bw w w':=by
 go_enter Tryz.func100,Tryz.ntmps100
 go_wp2_with (go_at_call 113;refine(Px _ _).mono ?_;rintro e w' ⟨rfl,hw⟩;have hw2:=hw.symm;subst hw2)
 go_ret
 exact⟨rfl,by first | exact Below.refl _ _ | exact Below.drew (Below.refl _ _)⟩
theorem Ow(k n:Int)(w:World):Calls Tryz.prog 66 #[.agg #[.int .i64 k,.int .i64 n]] w fun e w'=>e=.returned (.bool (!gN k n k))∧Bw w w':=by
 by_cases h1:k=1
 ·subst h1
  by_cases h2:n=0
  ·subst h2
   go_enter Tryz.func66,Tryz.ntmps66
   go_wp2
   go_ret
   refine⟨by first | rfl | decide,?_⟩
   go_grown
  ·have d2:(n==0)=false:=beq_eq_false_iff_ne.2 h2
   have d3:(n != 0)=true:=by simp [h2]
   by_cases h3:n=1
   ·subst h3
    go_enter Tryz.func66,Tryz.ntmps66
    go_wp2
    go_ret
    refine⟨by first | rfl | decide,?_⟩
    go_grown
   ·have d4:(n==1)=false:=beq_eq_false_iff_ne.2 h3
    have d5:(n != 1)=true:=by simp [h3]
    have E:Hid (gN 1 n 1=false):=by unfold Hid gN;simp [h2,h3]
    clear h2 h3
    go_enter Tryz.func66,Tryz.ntmps66
    go_wp2
    go_ret
    refine⟨by rw[E.out];rfl,?_⟩
    go_grown
 ·have d1:(k==1)=false:=beq_eq_false_iff_ne.2 h1
  by_cases h2:k=2
  ·subst h2
   have E:Hid (gN 2 n 2=(n==cB n)):=by unfold Hid;rw[QE];unfold gN;simp
   obtain⟨q,hq⟩:∃q,q=(n==cB n):=⟨_,rfl⟩
   have HQ:=aA hq
   clear hq d1 h1
   go_enter Tryz.func66,Tryz.ntmps66
   go_wp2_with (go_at_call 100;refine(GH _ _).mono ?_;rintro e w' ⟨rfl,hb⟩;have HB:=aA hb;clear hb)
   go_ret
   refine⟨by rw[E.out];rfl,?_⟩
   exact(aH).trans (HB.out.mono (by simp))
  ·have d2:(k==2)=false:=beq_eq_false_iff_ne.2 h2
   have E:Hid (gN k n k=false):=by unfold Hid gN;simp [h1,h2]
   clear h1 h2
   go_enter Tryz.func66,Tryz.ntmps66
   go_wp2
   go_ret
   refine⟨by rw[E.out];rfl,?_⟩
   go_grown
end Go.Proofs.YtmgfakcccfahaaaGreatDoor
namespace Go.Proofs.YtmgfakcccfahaaaGreatDoor
def fF(gs:List (Int×Int))(inp:List Bool)(x:Int):Bool:=nG (tX gs inp) x
def Ext(gs gs':List (Int×Int)):Prop:=∃t,gs'=gs++t∧wG t=0
theorem Ext.refl(gs:List (Int×Int)):Ext gs gs:=⟨[],by simp,rfl⟩
theorem PZ(a b:List (Int×Int)):wG (a++b)=wG a+wG b:=by simp [wG]
theorem Ext.trans{a b c:List (Int×Int)}(h:Ext a b)(k:Ext b c):Ext a c:=by
 obtain⟨t,rfl,h1⟩:=h
 obtain⟨u,rfl,h2⟩:=k
 exact⟨t++u,by simp,by rw[PZ,h1,h2]⟩
theorem Dh(gs t:List (Int×Int))(inp:List Bool):∀n,n≤gs.length→gM (gs++t) inp n=gM gs inp n
 | 0,_=>rfl
 | n+1,h=>by
  unfold gM
  rw[Dh gs t inp n (by omega),List.getElem?_append_left (by omega)]
theorem Jc(gs:List (Int×Int))(inp:List Bool)(n:Nat):∃b,(gM gs inp (n+1)).1=(gM gs inp n).1++[b]:=by
 conv=>enter [1,b];lhs;unfold gM
 split
 ·split
  ·exact⟨_,rfl⟩
  ·exact⟨_,rfl⟩
 ·exact⟨_,rfl⟩
theorem yY(gs:List (Int×Int))(inp:List Bool)(n:Nat):∀d,∃t,(gM gs inp (n+d)).1=(gM gs inp n).1++t
 | 0=>⟨[],by simp⟩
 | d+1=>by
  obtain⟨t,h⟩:=yY gs inp n d
  obtain⟨b,h2⟩:=Jc gs inp (n+d)
  exact⟨t++[b],by rw[←Nat.add_assoc,h2,h,List.append_assoc]⟩
theorem Fs{vs t:List Bool}{x:Int}(h:x<2*(vs.length:Int))(h0:0<vs.length):nG (vs++t) x=nG vs x:=by
 unfold nG
 have:(x / 2).toNat<vs.length:=by omega
 simp only[List.getD_eq_getElem?_getD]
 rw[List.getElem?_append_left this]
theorem Ext.val{gs gs':List (Int×Int)}(h:Ext gs gs')(inp:List Bool){x:Int}(hx:dJ gs x):fF gs' inp x=fF gs inp x:=by
 obtain⟨t,rfl,_⟩:=h
 unfold fF tX
 obtain⟨u,hu⟩:=yY (gs++t) inp gs.length t.length
 rw[List.length_append,hu,Dh gs t inp _ (Nat.le_refl _),Fs]
 ·rw[wV];unfold dJ at hx;omega
 ·rw[wV];omega
theorem wW(gs:List (Int×Int))(inp:List Bool)(x:Int):fF gs inp (kK x)=!fF gs inp x:=by
 obtain⟨h1,_,h2⟩:=Dr x
 unfold fF nG
 rw[h1]
 rcases h2 with⟨h3,h4⟩ | ⟨h3,h4⟩
 ·have e1:(kK x % 2==1)=true:=by rw[h3];simp;omega
  have e2:(x % 2==1)=false:=by simp<;>omega
  rw[e1,e2];cases (tX gs inp).getD (x / 2).toNat false<;>rfl
 ·have e1:(kK x % 2==1)=false:=by rw[h3];simp;omega
  have e2:(x % 2==1)=true:=by simp;omega
  rw[e1,e2];cases (tX gs inp).getD (x / 2).toNat false<;>rfl
theorem Jb(gs:List (Int×Int))(inp:List Bool):(tX gs inp)[0]?=some false:=by
 obtain⟨t,h⟩:=yY gs inp 0 gs.length
 unfold tX
 rw[Nat.zero_add] at h
 rw[h]
 rfl
theorem val_zero(gs:List (Int×Int))(inp:List Bool):fF gs inp 0=false:=by
 unfold fF nG
 rw[List.getD_eq_getElem?_getD]
 have:((0:Int) / 2).toNat=0:=rfl
 rw[this,Jb]
 rfl
theorem val_one(gs:List (Int×Int))(inp:List Bool):fF gs inp 1=true:=by
 have:kK 0=1:=rfl
 rw[←this,wW,val_zero];rfl
theorem Je{gs:List (Int×Int)}(hg:Gs gs)(inp:List Bool){i:Nat}{p:Int×Int}(hi:gs[i]?=some p)(hp:sS p=false):fF gs inp (2*(i:Int)+2)=(fF gs inp p.1&&fF gs inp p.2):=by
 have hil:i<gs.length:=(bA hi).1
 have hlit:=hg.lits hi hp
 obtain⟨t,ht⟩:=yY gs inp (i+1) (gs.length-(i+1))
 have e:i+1+(gs.length-(i+1))=gs.length:=by omega
 rw[e] at ht
 have hs:(gM gs inp (i+1)).1=(gM gs inp i).1++[nG (gM gs inp i).1 p.1&&nG (gM gs inp i).1 p.2]:=by
  conv=>lhs;unfold gM
  rw[hi]
  simp [hp]
 have hl:=wV gs inp i
 have key:∀x:Int,x<2*((i:Int)+1)→nG (gM gs inp gs.length).1 x=nG (gM gs inp i).1 x:=fun x hx=>by
  rw[ht,hs,List.append_assoc,Fs (by rw[hl];omega) (by omega)]
 unfold fF tX
 rw[key p.1 hlit.2.1,key p.2 hlit.2.2.2]
 unfold nG
 have e1:((2*(i:Int)+2) / 2).toNat=i+1:=by omega
 have e2:((2*(i:Int)+2) % 2==1)=false:=by simp
 rw[e1,e2,List.getD_eq_getElem?_getD,ht,hs,List.append_assoc,List.getElem?_append_right (by omega),hl,Nat.sub_self]
 simp [nG]
theorem NA{gs:List (Int×Int)}{p:Int×Int}(h:p∈gs):gs[gs.idxOf p]?=some p:=by
 rw[List.getElem?_eq_getElem (List.idxOf_lt_length_of_mem h),List.getElem_idxOf]
theorem Ct(gs:List (Int×Int))(a b:Int):Ext gs (jU gs a b):=by
 unfold jU
 split
 ·exact Ext.refl _
 ·rename_i h1
  split
  ·exact Ext.refl _
  ·split
   ·exact Ext.refl _
   ·refine⟨_,rfl,?_⟩
    simp only[sG,Bool.or_eq_true,Bool.and_eq_true,decide_eq_true_eq,not_or,not_and] at h1
    have:sS (min a b,max a b)=false:=by
     unfold sS
     simp only[Prod.mk.injEq,decide_eq_false_iff_not]
     omega
    simp [wG,this]
theorem Di{gs:List (Int×Int)}(hg:Gs gs)(inp:List Bool){a b:Int}(ha:dJ gs a)(hb:dJ gs b):fF (jU gs a b) inp (pK gs a b)=(fF gs inp a&&fF gs inp b):=by
 have hg2:=hg.and ha hb
 have he:=Ct gs a b
 have hmm:(fF gs inp a&&fF gs inp b)=(fF gs inp (min a b)&&fF gs inp (max a b)):=by
  rcases Int.le_total a b with h | h
  ·rw[Int.min_eq_left h,Int.max_eq_right h]
  ·rw[Int.min_eq_right h,Int.max_eq_left h,Bool.and_comm]
 rw[hmm]
 by_cases h1:sG a b=true
 ·have e1:jU gs a b=gs:=by unfold jU;rw[if_pos h1]
  have e2:pK gs a b=0:=by unfold pK;rw[if_pos h1]
  rw[e1,e2,val_zero]
  simp only[sG,Bool.or_eq_true,Bool.and_eq_true,decide_eq_true_eq] at h1
  rcases h1 with h1 | ⟨h1,h2⟩
  ·rw[h1,val_zero];rfl
  ·have:kK (min a b)=max a b:=by unfold kK;rw[if_pos h2];omega
   rw[←this,wW]
   cases fF gs inp (min a b)<;>rfl
 ·by_cases h2:vM a b=true
  ·have e1:jU gs a b=gs:=by unfold jU;rw[if_neg h1,if_pos h2]
   have e2:pK gs a b=max a b:=by unfold pK;rw[if_neg h1,if_pos h2]
   rw[e1,e2]
   simp only[vM,Bool.or_eq_true,decide_eq_true_eq] at h2
   rcases h2 with h2 | h2
   ·rw[h2,val_one];rfl
   ·rw[←h2];cases fF gs inp (min a b)<;>rfl
  ·have hm:=Rh (gs:=gs) h1 h2
   have hn:sS (min a b,max a b)=false:=by
    simp only[sG,Bool.or_eq_true,Bool.and_eq_true,decide_eq_true_eq,not_or,not_and] at h1
    unfold dJ at ha hb
    unfold sS
    simp only[Prod.mk.injEq,decide_eq_false_iff_not]
    omega
   have hidx:pK gs a b=2*((jU gs a b).idxOf (min a b,max a b):Int)+2:=by
    unfold pK jU
    rw[if_neg h1,if_neg h2,if_neg h1,if_neg h2]
    split
    ·rfl
    ·rename_i h3
     rw[O0 h3,Gf h3]
   rw[hidx,Je hg2 inp (NA hm) hn]
   have hmn:dJ gs (min a b):=by unfold dJ at *;omega
   have hmx:dJ gs (max a b):=by unfold dJ at *;omega
   rw[he.val inp hmn,he.val inp hmx]
theorem Mg(gs:List (Int×Int))(a b:Int):Ext gs (r9 gs a b):=Ct _ _ _
theorem Jd{gs:List (Int×Int)}(hg:Gs gs)(inp:List Bool){a b:Int}(ha:dJ gs a)(hb:dJ gs b):fF (r9 gs a b) inp (zO gs a b)=(fF gs inp a||fF gs inp b):=by
 unfold zO r9
 rw[wW,Di hg inp ha.turn hb.turn,wW,wW]
 cases fF gs inp a<;>cases fF gs inp b<;>rfl
end Go.Proofs.YtmgfakcccfahaaaGreatDoor
namespace Go.Proofs.YtmgfakcccfahaaaGreatDoor
open Go.RowKit Go.Maps
structure AA(gs gs':List (Int×Int))(k:Nat)(x:Int)(f:List Bool→Bool):Prop where
 ext:Ext gs gs'
 len:gs'.length≤gs.length+k
 has:dJ gs' x
 val:∀inp,fF gs' inp x=f inp
theorem AA.and{gs:List (Int×Int)}(h:Gs gs){a b:Int}(ha:dJ gs a)(hb:dJ gs b):AA gs (jU gs a b) 1 (pK gs a b) (fun inp=>fF gs inp a&&fF gs inp b):=
 ⟨Ct _ _ _,(Hw gs a b).2,Hu ha hb,fun inp=>Di h inp ha hb⟩
theorem AA.or{gs:List (Int×Int)}(h:Gs gs){a b:Int}(ha:dJ gs a)(hb:dJ gs b):AA gs (r9 gs a b) 1 (zO gs a b) (fun inp=>fF gs inp a||fF gs inp b):=
 ⟨Mg _ _ _,(Mf gs a b).2,Me ha hb,fun inp=>Jd h inp ha hb⟩
def Iq(F:Nat→Prop)(w:World)(v:Value)(l:List Int):Prop:=l.length≤1000∧∃o c,v=.slice o l.length c∧∀k x,l[k]?=some x→∃b off,o=some ⟨b,off,none⟩∧¬F b∧w.cell? ⟨b,off+k,none⟩=some (.int .i64 x)
theorem Qf{w:World}{p:Addr}{v:Value}(hc:w.cell? p=some v):p.block<w.heap.size:=by
 rcases Nat.lt_or_ge p.block w.heap.size with h | h
 ·exact h
 ·simp [World.cell?,Array.getElem?_eq_none h] at hc
theorem Iq.at{F:Nat→Prop}{w:World}{o:Option Addr}{n c:Nat}{l:List Int}(h:Iq F w (.slice o n c) l){j:Nat}{x:Int}(hx:l[j]?=some x):∃b off,o=some ⟨b,off,none⟩∧b<w.heap.size∧∀F' w',bT F F' w w'→¬F' b∧w'.cell? ⟨b,off+j,none⟩=some (.int .i64 x):=by
 obtain⟨_,o',c',e,h⟩:=h
 obtain⟨b,off,rfl,hn,hc⟩:=h j x hx
 obtain⟨rfl,_,_⟩:o=some ⟨b,off,none⟩∧n=l.length∧c=c':=by simpa using e
 exact⟨b,off,rfl,Qf hc,fun F' w' hm=>⟨(hm.cell hc hn).2,(hm.cell hc hn).1⟩⟩
structure Ip(gs gs':List (Int×Int))(k:Nat)(l:List Int)(f:List Bool→Nat→Bool):Prop where
 ext:Ext gs gs'
 len:gs'.length≤gs.length+k
 has:∀x∈l,dJ gs' x
 val:∀inp (i:Nat) x,l[i]?=some x→fF gs' inp x=f inp i
theorem Ip.nil{gs gs':List (Int×Int)}{k:Nat}(h:Ext gs gs')(hl:gs'.length≤gs.length+k)(f:List Bool→Nat→Bool):Ip gs gs' k [] f:=⟨h,hl,fun x hx=>by simp at hx,fun _ i x hx=>by simp at hx⟩
end Go.Proofs.YtmgfakcccfahaaaGreatDoor
