/-
  package flat: what is formed is right for the types (mathematics).
-/
import Derived.Test.YtmgfakcccfahaaaGreatDoorN11
import Derived.Test.YtmgfakcccfahaaaGreatDoorN16
import Derived.Deep.RegionHeld
namespace Go.Proofs.YtmgfakcccfahaaaGreatDoor
open Go.RowKit Go.Maps
mutual
def eG:Ex→Prop
 | .mk op _ s l=>op.size≤maxLen∧s.size≤maxLen∧gM l
def gM:List Ex→Prop
 | []=>True
 | e::es=>eG e∧gM es
end
theorem G8:∀t∈eY,if t.1=bI then t.2.2.length=0 else (eX t.1).any (fun q=>q.1.length==t.2.2.length)=true:=by decide
theorem sW{kd:List UInt8→Option Int}{op:ByteArray}{n:Int}{s:ByteArray}{l:List Ex}(h:jA kd op n s l.length=true):op.data.toList≠kD∧(if op.data.toList=bI then (∃k,kd s.data.toList=some k)∧l=[] else ∃tk gv,eX op.data.toList=some (tk,gv)∧l.length=tk.length):=by
 unfold jA at h
 simp only[Bool.and_eq_true,Bool.not_eq_true',bne_iff_ne,ne_eq] at h
 obtain⟨h1,h2,h3⟩:=h
 refine⟨h2,?_⟩
 rcases zD h3 with hc | ⟨t,ht,e1,e2⟩
 ·exact absurd (by rw[←ByteArray.toList_eq,hc];rfl) h2
 ·have hs:=G8 t ht
  rw[←e1,ByteArray.toList_eq] at hs
  by_cases hn:op.data.toList=bI
  ·rw[if_pos hn] at hs ⊢
   refine⟨?_,List.eq_nil_of_length_eq_zero (by omega)⟩
   cases hk:kd s.data.toList with
   | none=>rw[hk,hn] at h1;simp at h1
   | some k=>exact⟨k,rfl⟩
  ·rw[if_neg hn] at hs ⊢
   cases hr:eX op.data.toList with
   | none=>rw[hr] at hs;simp at hs
   | some q=>
    rw[hr] at hs
    simp at hs
    exact⟨q.1,q.2,rfl,by omega⟩
mutual
theorem Nl{kd:List UInt8→Option Int}:∀(e:Ex),dG kd e=true→eG e→nO kd e
 | .mk op n s l,h,hs=>by
  unfold dG at h
  unfold eG at hs
  unfold nO
  rw[Bool.and_eq_true] at h
  have:=sW h.1
  exact⟨hs.1,hs.2.1,this.1,this.2,zG l h.2 hs.2.2⟩
theorem zG{kd:List UInt8→Option Int}:∀(l:List Ex),bG kd l=true→gM l→iF kd l
 | [],_,_=>by unfold iF;trivial
 | e::es,h,hs=>by
  unfold bG at h
  unfold gM at hs
  unfold iF
  rw[Bool.and_eq_true] at h
  exact⟨Nl e h.1 hs.1,zG es h.2 hs.2⟩
end
set_option maxRecDepth 100000
set_option maxHeartbeats 1000000

theorem GH{a b:List Int}{j:Nat}{x y:Int}(ha:a[j]?=some x)(hb:b[j]?=some y)(h:a.take j=b.take j):a.take (j+1)=b.take (j+1) ↔ x=y:=by
 rw[List.take_add_one,List.take_add_one,ha,hb,h]
 simp
theorem NP(w:World)(a b:List Int)(oa ob:Option Addr)(ca cb:Nat)(ha:dI w (.slice oa a.length ca) a)(hb:dI w (.slice ob b.length cb) b)(hla:a.length≤100000) :
  Calls Tryz.prog 79 #[.slice oa a.length ca,.slice ob b.length cb] w fun e w'=>Bw w w'∧e=.returned (.bool (decide (a=b))):=by
 have HA:=aA ha
 have HB:=aA hb
 have HL:=aA hla
 clear ha hb hla
 by_cases hl:a.length=b.length
 ·have d0:((a.length:Int) != (b.length:Int))=false:=by simp [hl]
  have d1:((a.length:Int)==(b.length:Int))=true:=by simp [hl]
  have HLL:=aA hl
  obtain⟨m,hm⟩:∃m,m=b.length:=⟨_,rfl⟩
  rw[←hm] at HLL hl d0 d1 HB ⊢
  rw[hl] at HA HL ⊢
  have HLA:Hid (a.length=m∧b.length=m):=⟨hl,hm.symm⟩
  clear hl d0 d1 HLL hm
  go_enter Tryz.func79,Tryz.ntmps79
  go_wp2
  go_loopw [13] (fun t wr=>∃j:Nat,j≤m∧t=.int .i64 j∧Hid (a.take j=b.take j∧Bw w wr)) (fun t _=>m-(intOf t).toNat)
  case atStart=>exact⟨0,Nat.zero_le _,rfl,⟨rfl,Below.refl _ _⟩⟩
  case round=>
   obtain⟨j,hj,rfl,HR⟩:=hrel
   by_cases hjl:j<m
   ·obtain⟨x,hx⟩:∃x,a[j]?=some x:=⟨_,List.getElem?_eq_getElem (by have:=HLA.out;omega)⟩
    obtain⟨y,hy⟩:∃y,b[j]?=some y:=⟨_,List.getElem?_eq_getElem (by have:=HLA.out;omega)⟩
    obtain⟨b1,f1,rfl,q1⟩:=HA.out.get hx
    obtain⟨b2,f2,rfl,q2⟩:=HB.out.get hy
    have y1:=aF HR.out.2 q1
    have y2:=aF HR.out.2 q2
    have hst:=GH hx hy HR.out.1
    have i0':(0:Int)≤(j:Int):=by omega
    have i1':(j:Int)<(m:Int):=by omega
    have HJ:=aA hjl
    have N4:Hid (wrap64 ((j:Int)+1)=(j:Int)+1):=by have:=HL.out;have:=HJ.out;unfold Hid wrap64;omega
    have HBE:Hid (Bw w wr):=HR.out.2
    by_cases hxy:x=y
    ·subst hxy
     have HT:Hid (a.take (j+1)=b.take (j+1)):=hst.2 rfl
     clear hx hy q1 q2 hst hj hjl
     go_wp2
     go_quiet (fail)
     go_wp2
     exact⟨⟨j+1,HJ.out,by rw[N4.out];rfl,⟨HT.out,⟨HBE.out.os,HBE.out.tape,HBE.out.output,HBE.out.size,HBE.out.block⟩⟩⟩,by rw[N4.out];have:=HJ.out;simp [intOf];omega⟩
    ·have d0:(x != y)=true:=bne_iff_ne.2 hxy
     have d1:(x==y)=false:=beq_eq_false_iff_ne.2 hxy
     have HE:Hid (decide (a=b)=false):=decide_eq_false (fun e=>hxy (hst.1 (by rw[e])))
     clear hx hy q1 q2 hst hj hjl hxy
     go_wp2
     go_quiet (fail)
     go_wp2
     go_ret
     exact⟨⟨HBE.out.os,HBE.out.tape,HBE.out.output,HBE.out.size,HBE.out.block⟩,by rw[HE.out];rfl⟩
   ·obtain rfl:j=m:=by omega
    have HE:Hid (decide (a=b)=true):=decide_eq_true (by
     have h:=HR.out.1
     rw[List.take_of_length_le (by have:=HLA.out;omega),List.take_of_length_le (by have:=HLA.out;omega)] at h
     exact h)
    have HBE:Hid (Bw w wr):=HR.out.2
    clear hj hjl
    go_wp2
    go_ret
    exact⟨HBE.out,by rw[HE.out];rfl⟩
 ·have d0:((a.length:Int) != (b.length:Int))=true:=bne_iff_ne.2 (by omega)
  have d1:((a.length:Int)==(b.length:Int))=false:=beq_eq_false_iff_ne.2 (by omega)
  have HE:Hid (decide (a=b)=false):=decide_eq_false (fun e=>hl (by rw[e]))
  clear hl
  go_enter Tryz.func79,Tryz.ntmps79
  go_wp2
  go_ret
  exact⟨Below.refl _ _,by rw[HE.out];rfl⟩
end Go.Proofs.YtmgfakcccfahaaaGreatDoor
namespace Go.Proofs.YtmgfakcccfahaaaGreatDoor
open Go.RowKit
theorem l9{w w':World}{base size n:Nat}{e:TypeId}{v:Value}{xs:List Value}(h:w.ownsRow base e size v n xs)(hk:Bw w w'):w'.ownsRow base e size v n xs:=by
 have hl:=h.lt
 obtain⟨h1,h2⟩:=h
 refine⟨h1,?_⟩
 rcases h2 with h2 | ⟨g,cap,cur,rfl,hb,hg,r⟩
 ·exact .inl h2
 ·exact .inr ⟨g,cap,cur,rfl,hb,by rw[hk.block g (hl g rfl).2];exact hg,r⟩
theorem Tryz.yZ:(Tryz.prog.info? 3).map (fun i=>(i.zero,i.size,i.bytes))=some (some (.int .i64 0),1,8):=by kernel_rfl
theorem L8{w:World}{base n:Nat}{o:Option Addr}{c:Nat}{l:List Int}(h:w.ownsRow base 3 1 (.slice o n c) n (l.map (Value.int .i64)))(hn:l.length=n)(hm:n≤maxLen):fO w (.slice o n c) l:=by
 subst hn
 refine⟨hm,o,c,rfl,fun k x hk=>?_⟩
 have hlt:=(aX hk).1
 obtain⟨g,cap,e,_,_⟩:=h.form (by omega)
 obtain⟨rfl,rfl⟩:o=some ⟨g,0,none⟩∧c=cap:=by simpa using e
 have hadd':∀j,(⟨g,0,none⟩:Addr).add j=⟨g,0+j,none⟩:=fun j=>by unfold Addr.add;split<;>simp_all
 refine⟨g,0,rfl,?_⟩
 rw[←hadd']
 exact h.cells (g:=g) rfl k _ (by simp [hk])
end Go.Proofs.YtmgfakcccfahaaaGreatDoor
namespace Go.Proofs.YtmgfakcccfahaaaGreatDoor
theorem OX{gs:List (Int×Int)}{a b:Int}(h1:¬oI a b=true)(h2:¬qL a b=true):(min a b,max a b)∈iI gs a b:=by
 unfold iI
 rw[if_neg h1,if_neg h2]
 split
 ·assumption
 ·simp
def eF(gs:List (Int×Int))(inp:List Bool)(x:Int):Bool:=jV (pF gs inp) x
def Ext(gs gs':List (Int×Int)):Prop:=∃t,gs'=gs++t∧q9 t=0
theorem Ext.refl(gs:List (Int×Int)):Ext gs gs:=⟨[],by simp,rfl⟩
theorem N7(a b:List (Int×Int)):q9 (a++b)=q9 a+q9 b:=by simp [q9]
theorem Ext.trans{a b c:List (Int×Int)}(h:Ext a b)(k:Ext b c):Ext a c:=by
 obtain⟨t,rfl,h1⟩:=h
 obtain⟨u,rfl,h2⟩:=k
 exact⟨t++u,by simp,by rw[N7,h1,h2]⟩
theorem AB(gs t:List (Int×Int))(inp:List Bool):∀n,n≤gs.length→dZ (gs++t) inp n=dZ gs inp n
 | 0,_=>rfl
 | n+1,h=>by
  unfold dZ
  rw[AB gs t inp n (by omega),List.getElem?_append_left (by omega)]
theorem F3(gs:List (Int×Int))(inp:List Bool)(n:Nat):∃b,(dZ gs inp (n+1)).1=(dZ gs inp n).1++[b]:=by
 conv=>enter [1,b];lhs;unfold dZ
 split
 ·split
  ·exact⟨_,rfl⟩
  ·exact⟨_,rfl⟩
 ·exact⟨_,rfl⟩
theorem uD(gs:List (Int×Int))(inp:List Bool)(n:Nat):∀d,∃t,(dZ gs inp (n+d)).1=(dZ gs inp n).1++t
 | 0=>⟨[],by simp⟩
 | d+1=>by
  obtain⟨t,h⟩:=uD gs inp n d
  obtain⟨b,h2⟩:=F3 gs inp (n+d)
  exact⟨t++[b],by rw[←Nat.add_assoc,h2,h,List.append_assoc]⟩
theorem Cz{vs t:List Bool}{x:Int}(h:x<2*(vs.length:Int))(h0:0<vs.length):jV (vs++t) x=jV vs x:=by
 unfold jV
 have:(x / 2).toNat<vs.length:=by omega
 simp only[List.getD_eq_getElem?_getD]
 rw[List.getElem?_append_left this]
theorem Ext.val{gs gs':List (Int×Int)}(h:Ext gs gs')(inp:List Bool){x:Int}(hx:dU gs x):eF gs' inp x=eF gs inp x:=by
 obtain⟨t,rfl,_⟩:=h
 unfold eF pF
 obtain⟨u,hu⟩:=uD (gs++t) inp gs.length t.length
 rw[List.length_append,hu,AB gs t inp _ (Nat.le_refl _),Cz]
 ·rw[rO];unfold dU at hx;omega
 ·rw[rO];omega
theorem AJ(gs:List (Int×Int))(inp:List Bool)(x:Int):eF gs inp (kI x)=!eF gs inp x:=by
 obtain⟨h1,_,h2⟩:=Gj x
 unfold eF jV
 rw[h1]
 rcases h2 with⟨h3,h4⟩ | ⟨h3,h4⟩
 ·have e1:(kI x % 2==1)=true:=by rw[h3];simp;omega
  have e2:(x % 2==1)=false:=by simp<;>omega
  rw[e1,e2];cases (pF gs inp).getD (x / 2).toNat false<;>rfl
 ·have e1:(kI x % 2==1)=false:=by rw[h3];simp;omega
  have e2:(x % 2==1)=true:=by simp;omega
  rw[e1,e2];cases (pF gs inp).getD (x / 2).toNat false<;>rfl
theorem FZ(gs:List (Int×Int))(inp:List Bool):(pF gs inp)[0]?=some false:=by
 obtain⟨t,h⟩:=uD gs inp 0 gs.length
 unfold pF
 rw[Nat.zero_add] at h
 rw[h]
 rfl
theorem val_zero(gs:List (Int×Int))(inp:List Bool):eF gs inp 0=false:=by
 unfold eF jV
 rw[List.getD_eq_getElem?_getD]
 have:((0:Int) / 2).toNat=0:=rfl
 rw[this,FZ]
 rfl
theorem val_one(gs:List (Int×Int))(inp:List Bool):eF gs inp 1=true:=by
 have:kI 0=1:=rfl
 rw[←this,AJ,val_zero];rfl
theorem F4{gs:List (Int×Int)}(hg:Gs gs)(inp:List Bool){i:Nat}{p:Int×Int}(hi:gs[i]?=some p)(hp:oP p=false):eF gs inp (2*(i:Int)+2)=(eF gs inp p.1&&eF gs inp p.2):=by
 have hil:i<gs.length:=(aX hi).1
 have hlit:=hg.lits hi hp
 obtain⟨t,ht⟩:=uD gs inp (i+1) (gs.length-(i+1))
 have e:i+1+(gs.length-(i+1))=gs.length:=by omega
 rw[e] at ht
 have hs:(dZ gs inp (i+1)).1=(dZ gs inp i).1++[jV (dZ gs inp i).1 p.1&&jV (dZ gs inp i).1 p.2]:=by
  conv=>lhs;unfold dZ
  rw[hi]
  simp [hp]
 have hl:=rO gs inp i
 have key:∀x:Int,x<2*((i:Int)+1)→jV (dZ gs inp gs.length).1 x=jV (dZ gs inp i).1 x:=fun x hx=>by
  rw[ht,hs,List.append_assoc,Cz (by rw[hl];omega) (by omega)]
 unfold eF pF
 rw[key p.1 hlit.2.1,key p.2 hlit.2.2.2]
 unfold jV
 have e1:((2*(i:Int)+2) / 2).toNat=i+1:=by omega
 have e2:((2*(i:Int)+2) % 2==1)=false:=by simp
 rw[e1,e2,List.getD_eq_getElem?_getD,ht,hs,List.append_assoc,List.getElem?_append_right (by omega),hl,Nat.sub_self]
 simp [jV]
theorem Ls{gs:List (Int×Int)}{p:Int×Int}(h:p∈gs):gs[gs.idxOf p]?=some p:=by
 rw[List.getElem?_eq_getElem (List.idxOf_lt_length_of_mem h),List.getElem_idxOf]
theorem EM(gs:List (Int×Int))(a b:Int):Ext gs (iI gs a b):=by
 unfold iI
 split
 ·exact Ext.refl _
 ·rename_i h1
  split
  ·exact Ext.refl _
  ·split
   ·exact Ext.refl _
   ·refine⟨_,rfl,?_⟩
    simp only[oI,Bool.or_eq_true,Bool.and_eq_true,decide_eq_true_eq,not_or,not_and] at h1
    have:oP (min a b,max a b)=false:=by
     unfold oP
     simp only[Prod.mk.injEq,decide_eq_false_iff_not]
     omega
    simp [q9,this]
theorem F5{gs:List (Int×Int)}(hg:Gs gs)(inp:List Bool){a b:Int}(ha:dU gs a)(hb:dU gs b):eF (iI gs a b) inp (mW gs a b)=(eF gs inp a&&eF gs inp b):=by
 have hg2:=hg.and ha hb
 have he:=EM gs a b
 have hmm:(eF gs inp a&&eF gs inp b)=(eF gs inp (min a b)&&eF gs inp (max a b)):=by
  rcases Int.le_total a b with h | h
  ·rw[Int.min_eq_left h,Int.max_eq_right h]
  ·rw[Int.min_eq_right h,Int.max_eq_left h,Bool.and_comm]
 rw[hmm]
 by_cases h1:oI a b=true
 ·have e1:iI gs a b=gs:=by unfold iI;rw[if_pos h1]
  have e2:mW gs a b=0:=by unfold mW;rw[if_pos h1]
  rw[e1,e2,val_zero]
  simp only[oI,Bool.or_eq_true,Bool.and_eq_true,decide_eq_true_eq] at h1
  rcases h1 with h1 | ⟨h1,h2⟩
  ·rw[h1,val_zero];rfl
  ·have:kI (min a b)=max a b:=by unfold kI;rw[if_pos h2];omega
   rw[←this,AJ]
   cases eF gs inp (min a b)<;>rfl
 ·by_cases h2:qL a b=true
  ·have e1:iI gs a b=gs:=by unfold iI;rw[if_neg h1,if_pos h2]
   have e2:mW gs a b=max a b:=by unfold mW;rw[if_neg h1,if_pos h2]
   rw[e1,e2]
   simp only[qL,Bool.or_eq_true,decide_eq_true_eq] at h2
   rcases h2 with h2 | h2
   ·rw[h2,val_one];rfl
   ·rw[←h2];cases eF gs inp (min a b)<;>rfl
  ·have hm:=OX (gs:=gs) h1 h2
   have hn:oP (min a b,max a b)=false:=by
    simp only[oI,Bool.or_eq_true,Bool.and_eq_true,decide_eq_true_eq,not_or,not_and] at h1
    unfold dU at ha hb
    unfold oP
    simp only[Prod.mk.injEq,decide_eq_false_iff_not]
    omega
   have hidx:mW gs a b=2*((iI gs a b).idxOf (min a b,max a b):Int)+2:=by
    unfold mW iI
    rw[if_neg h1,if_neg h2,if_neg h1,if_neg h2]
    split
    ·rfl
    ·rename_i h3
     rw[MR h3,Dt h3]
   rw[hidx,F4 hg2 inp (Ls hm) hn]
   have hmn:dU gs (min a b):=by unfold dU at *;omega
   have hmx:dU gs (max a b):=by unfold dU at *;omega
   rw[he.val inp hmn,he.val inp hmx]
end Go.Proofs.YtmgfakcccfahaaaGreatDoor
