/-
  package order: atOnce BY CONTRACT: the numbers of all flows that a term needs at once, gathered.
-/
import Derived.Test.YtmgfakcccfahaaaGreatDoorN21
namespace Go.Proofs.YtmgfakcccfahaaaGreatDoor
open Go.RowKit Go.Maps
set_option maxRecDepth 100000
set_option maxHeartbeats 4000000

def cZ:List UInt8:=[112,114,101]
def cK:List UInt8:=[102,98,121]
mutual
def onE:Ex→List (List UInt8)
 | .mk op _ s l=>(if op.data.toList=bI then [s.data.toList] else [])++(if op.data.toList=cZ then [] else if op.data.toList=cK then mD l else bZ l)
def bZ:List Ex→List (List UInt8)
 | []=>[]
 | e::es=>onE e++bZ es
def mD:List Ex→List (List UInt8)
 | []=>[]
 | e::_=>onE e
end
mutual
def qC:Ex→Prop
 | .mk op _ _ l=>(op.data.toList=cK→0<l.length)∧kS l
def kS:List Ex→Prop
 | []=>True
 | e::es=>qC e∧kS es
end
theorem tC:∀{l:List Ex} {i:Nat} {e:Ex},kS l→l[i]?=some e→qC e
 | [],i,e,_,h=>by simp at h
 | x::l,0,e,hs,h=>by
  obtain rfl:x=e:=by simpa using h
  unfold kS at hs
  exact hs.1
 | x::l,i+1,e,hs,h=>by
  unfold kS at hs
  exact tC hs.2 (by simpa using h)
theorem yB(l:List Ex):mD l=bZ (l.take 1):=by
 cases l with
 | nil=>simp [mD,bZ]
 | cons e l=>simp [mD,bZ]
theorem rZ:∀{l:List Ex} {j:Nat} {e:Ex},l[j]?=some e→bZ (l.take (j+1))=bZ (l.take j)++onE e
 | [],j,e,h=>by simp at h
 | x::l,0,e,h=>by
  obtain rfl:x=e:=by simpa using h
  simp [bZ]
 | x::l,j+1,e,h=>by
  have:=rZ (l:=l) (j:=j) (e:=e) (by simpa using h)
  simp only[List.take_succ_cons,bZ,this,List.append_assoc]
theorem uU:∀(l:List Ex) (j:Nat),(bZ (l.take j)).length≤(bZ l).length
 | [],j=>by simp
 | x::l,0=>by simp [bZ]
 | x::l,j+1=>by
  have:=uU l j
  simp only[List.take_succ_cons,bZ,List.length_append]
  omega
theorem Ey:∀(m:Nat) (op:ByteArray) (n:Int) (s:ByteArray) (l:List Ex),SizeOf.sizeOf l<m→∀(w0 w:World) (p3 p6 p7 K nK nb i:Nat) (num:List UInt8→Option Int) (ls:List (List Int)) (acc:List Int) (S:Nat→Prop) (o:Option Addr) (c:Nat) (ys:List Value),dS w0 p3 p6 p7 K nK nb num i ls w→ls[i]?=some acc→eG (.mk op n s l)→qC (.mk op n s l)→aB w0 S 4 (.slice o l.length c) l.length ys→aI w0 S l ys→acc.length+(onE (.mk op n s l)).length≤900000 →
  Calls Tryz.prog 80 #[.agg #[.string op,.int .i64 n,.string s,.slice o l.length c],.func (.func 81) #[] #[.pointer (some ⟨p3,0,none⟩),.pointer (some ⟨p6,0,none⟩),.pointer (some ⟨p7,0,none⟩)]] w fun e w'=>e=.returned (.tuple #[])∧dS w0 p3 p6 p7 K nK nb num i (ls.set i (acc++(onE (.mk op n s l)).filterMap num)) w'
 | 0,_,_,_,_,h=>absurd h (Nat.not_lt_zero _)
 | m+1,op,n,s,l,hm=>by
  intro w0 w p3 p6 p7 K nK nb i num ls acc S o c ys hne hl hsm hfb hrow hex hlen
  have HIH:Hid (∀(op:ByteArray) (n:Int) (s:ByteArray) (l:List Ex),SizeOf.sizeOf l<m→∀(w0 w:World) (p3 p6 p7 K nK nb i:Nat) (num:List UInt8→Option Int) (ls:List (List Int)) (acc:List Int) (S:Nat→Prop) (o:Option Addr) (c:Nat) (ys:List Value),dS w0 p3 p6 p7 K nK nb num i ls w→ls[i]?=some acc→eG (.mk op n s l)→qC (.mk op n s l)→aB w0 S 4 (.slice o l.length c) l.length ys→aI w0 S l ys→acc.length+(onE (.mk op n s l)).length≤900000 →
   Calls Tryz.prog 80 #[.agg #[.string op,.int .i64 n,.string s,.slice o l.length c],.func (.func 81) #[] #[.pointer (some ⟨p3,0,none⟩),.pointer (some ⟨p6,0,none⟩),.pointer (some ⟨p7,0,none⟩)]] w fun e w'=>e=.returned (.tuple #[])∧dS w0 p3 p6 p7 K nK nb num i (ls.set i (acc++(onE (.mk op n s l)).filterMap num)) w'):=Ey m
  unfold eG at hsm
  unfold qC at hfb
  have hml:=hrow.2.1
  unfold maxLen at hml
  obtain⟨w1,hw1⟩:∃w1,w1=w.alloc (.cells #[.string op,.int .i64 n,.string s,.slice o l.length c] 92):=⟨_,rfl⟩
  have hb1:Bw w w1:=by rw[hw1];exact aH
  have hr1:w1.heap[w.heap.size]?=some (.cells #[.string op,.int .i64 n,.string s,.slice o l.length c] 92 (0,0)):=by rw[hw1];exact heap_alloc_new _ _
  have c0:w1.cell? ⟨w.heap.size,0,none⟩=some (.string op):=cr hr1 rfl
  have c1:w1.cell? ⟨w.heap.size,0+1,none⟩=some (.int .i64 n):=cr hr1 rfl
  have c2:w1.cell? ⟨w.heap.size,0+2,none⟩=some (.string s):=cr hr1 rfl
  have c3:w1.cell? ⟨w.heap.size,0+3,none⟩=some (.slice o l.length c):=cr hr1 rfl
  have HW1:Hid (w.alloc (.cells #[.string op,.int .i64 n,.string s,.slice o l.length c] 92)=w1):=hw1.symm
  have HN1:Hid (dS w0 p3 p6 p7 K nK nb num i ls w1):=hne.keep hb1
  have HL:=aA hl
  have HSM:Hid (gM l):=hsm.2.2
  have HSS:Hid (s.size≤maxLen):=hsm.2.1
  have HFB:Hid (kS l):=hfb.2
  have HFP:Hid (op.data.toList=cK→0<l.length):=hfb.1
  have HROW:=aA hrow
  have HEX:=aA hex
  have HM:=aA hm
  have HLN:=aA hlen
  have HML:Hid (l.length≤9223372036854775807):=by unfold Hid;omega
  clear hne hl hsm hfb hrow hex hm hlen hb1 hr1 hw1 hml
  by_cases hn:op.data.toList=bI
  ·have dn:(op.toList==[110,97,109,101])=true:=by rw[ByteArray.toList_eq,hn];rfl
   have hon:onE (.mk op n s l)=s.data.toList::bZ l:=by unfold onE;rw[hn];rfl
   have HON:=aA hon
   have hlen:=HLN.out
   rw[hon,List.length_cons] at hlen
   have HSEE:Hid (Calls Tryz.prog 81 #[.string s,.pointer (some ⟨p3,0,none⟩),.pointer (some ⟨p6,0,none⟩),.pointer (some ⟨p7,0,none⟩)] w1 fun e w'=>e=.returned (.tuple #[])∧dS w0 p3 p6 p7 K nK nb num i (ls.set i (acc++(num s.data.toList).toList)) w'):=IE HN1.out HL.out s HSS.out (by omega)
   have HLEN:Hid ((acc++(num s.data.toList).toList).length+(bZ l).length≤900000):=by
    unfold Hid
    rw[List.length_append]
    cases num s.data.toList<;>simp<;>omega
   have HKK:Hid (l.length≤l.length):=Nat.le_refl _
   clear hn hon hlen
   go_enter Tryz.func80,Tryz.ntmps80
   go_upto_region 1 with fail
   rw[HW1.out]
   go_wp2_with fail
   refine HSEE.out.mono ?_
   rintro e w2 ⟨rfl,h2⟩
   have HST:=aA h2
   clear h2 c0 c1 c2 c3
   go_wp2
   go_loopw [26] (fun t wr=>∃(j:Nat),j≤l.length∧t=.int .i64 j∧Hid (dS w0 p3 p6 p7 K nK nb num i (ls.set i ((acc++(num s.data.toList).toList)++(bZ (l.take j)).filterMap num)) wr)) (fun t _=>l.length-(intOf t).toNat)
   case atStart=>exact⟨0,Nat.zero_le _,rfl,by unfold Hid;simpa [bZ] using HST.out⟩
   case round=>
    obtain⟨j,hj,rfl,HR⟩:=hrel
    by_cases hjl:j<l.length
    ·have hjk:j<l.length:=by have:=HKK.out;omega
     obtain⟨op',n',s',es,oo,cc,zs,e,x0,x1,x2,x3,r1,r2⟩:=HEX.out.at hjk
     obtain⟨p,f,cp,ev,_,_,g⟩:=HROW.out.at (by have:=HROW.out.1;omega)
     obtain⟨rfl,rfl⟩:o=some ⟨p,f,none⟩∧c=cp:=by simpa using ev
     have hbr:=HR.out.below
     have y0:=aF hbr (g _ _ x0)
     have y1:=aF hbr (g _ _ x1)
     have y2:=aF hbr (g _ _ x2)
     have y3:=aF hbr (g _ _ x3)
     rw[←Nat.add_assoc] at y1 y2 y3
     have i0':(0:Int)≤(j:Int):=by omega
     have i1':(j:Int)<(l.length:Int):=by omega
     have ej:l[j]?=some (.mk op' n' s' es):=by rw[List.getElem?_eq_getElem hjk,e]
     have hot:=rZ ej
     have hol:=uU l (j+1)
     obtain⟨w4,hw4⟩:∃w4,w4=wr.alloc (.cells #[.string op',.int .i64 n',.string s',.slice oo es.length cc] 92):=⟨_,rfl⟩
     have hb4:Bw wr w4:=by rw[hw4];exact aH
     have hr4:w4.heap[wr.heap.size]?=some (.cells #[.string op',.int .i64 n',.string s',.slice oo es.length cc] 92 (0,0)):=by rw[hw4];exact heap_alloc_new _ _
     have z0:w4.cell? ⟨wr.heap.size,0,none⟩=some (.string op'):=cr hr4 rfl
     have z1:w4.cell? ⟨wr.heap.size,0+1,none⟩=some (.int .i64 n'):=cr hr4 rfl
     have z2:w4.cell? ⟨wr.heap.size,0+2,none⟩=some (.string s'):=cr hr4 rfl
     have z3:w4.cell? ⟨wr.heap.size,0+3,none⟩=some (.slice oo es.length cc):=cr hr4 rfl
     have hil:=(aX HL.out).1
     have hih:=HIH.out op' n' s' es (by have:=kC hjk e;have:=HM.out;omega) w0 w4 p3 p6 p7 K nK nb i num _ ((acc++(num s.data.toList).toList)++(bZ (l.take j)).filterMap num) S oo cc zs (HR.out.keep hb4) (List.getElem?_set_self hil) (lY HSM.out ej) (tC HFB.out ej) r1 r2 (by
      have h1:=HLEN.out
      have h2:=List.length_filterMap_le num (bZ (l.take j))
      rw[hot,List.length_append] at hol
      rw[List.length_append]
      omega)
     rw[List.set_set,List.append_assoc,←List.filterMap_append,←hot] at hih
     have HCA:=aA hih
     have HJ:=aA hjl
     have N4:Hid (wrap64 ((j:Int)+1)=(j:Int)+1):=by have:=HML.out;have:=HJ.out;unfold Hid wrap64;omega
     have HW4:Hid (wr.alloc (.cells #[.string op',.int .i64 n',.string s',.slice oo es.length cc] 92)=w4):=hw4.symm
     clear hbr g ev x0 x1 x2 x3 r1 r2 e ej hot hol hw4 hb4 hr4 hil hih hj hjl hjk
     go_upto_region 12 with fail
     rw[HW4.out]
     clear y0 y1 y2 y3
     go_wp2_with fail
     refine HCA.out.mono ?_
     rintro e w5 ⟨rfl,h5⟩
     have HN5:=aA h5
     clear h5 z0 z1 z2 z3
     go_wp2
     exact⟨⟨j+1,HJ.out,by (try rw[N4.out]);rfl,HN5.out⟩,by (try rw[N4.out]);have:=HJ.out;simp [intOf];omega⟩
    ·obtain rfl:j=l.length:=by omega
     have HE:Hid (dS w0 p3 p6 p7 K nK nb num i (ls.set i (acc++(onE (.mk op n s l)).filterMap num)) wr):=by
      unfold Hid
      have h1:=HR.out
      rw[List.take_length,List.append_assoc] at h1
      rw[HON.out,List.filterMap_cons]
      cases hx:num s.data.toList with
      | none=>rw[hx] at h1;simpa using h1
      | some x=>rw[hx] at h1;simpa using h1
     clear hj hjl
     go_wp2
     go_end0
     exact⟨rfl,HE.out⟩
  ·have dn:(op.toList==[110,97,109,101])=false:=by rw[ByteArray.toList_eq];exact beq_eq_false_iff_ne.2 hn
   by_cases hp:op.data.toList=cZ
   ·have dp:(op.toList==[112,114,101])=true:=by rw[ByteArray.toList_eq,hp];rfl
    have HE:Hid (dS w0 p3 p6 p7 K nK nb num i (ls.set i (acc++(onE (.mk op n s l)).filterMap num)) w1):=by
     unfold Hid onE
     rw[if_neg hn,if_pos hp]
     simp only[List.filterMap_nil,List.append_nil]
     rw[set_self HL.out]
     exact HN1.out
    clear hn hp
    go_enter Tryz.func80,Tryz.ntmps80
    go_upto_region 1 with fail
    rw[HW1.out]
    go_wp2
    go_loopw [26] (fun t wr=>t=.int .i64 0∧wr=w1) (fun _ _=>0)
    case atStart=>exact⟨rfl,rfl⟩
    case round=>
     obtain⟨rfl,rfl⟩:=hrel
     go_wp2
     go_end0
     exact⟨rfl,HE.out⟩
   ·have dp:(op.toList==[112,114,101])=false:=by rw[ByteArray.toList_eq];exact beq_eq_false_iff_ne.2 hp
    have HST:Hid (dS w0 p3 p6 p7 K nK nb num i (ls.set i acc) w1):=by unfold Hid;rw[set_self HL.out];exact HN1.out
    by_cases hf:op.data.toList=cK
    ·have df:(op.toList==[102,98,121])=true:=by rw[ByteArray.toList_eq,hf];rfl
     have HON:Hid (onE (.mk op n s l)=bZ (l.take 1)):=by unfold Hid onE;rw[if_neg hn,if_neg hp,if_pos hf,yB];rfl
     have hp1:=HFP.out hf
     have hcap:=HROW.out.cap
     have hc1:1≤c:=by omega
     have hc0:c≠0:=by omega
     have HKK:=aA hp1
     have HLEN:Hid (acc.length+(bZ (l.take 1)).length≤900000):=by have:=HLN.out;rw[HON.out] at this;exact this
     clear hn hp hf hp1 hcap
     go_enter Tryz.func80,Tryz.ntmps80
     go_upto_region 1 with fail
     rw[HW1.out]
     go_wp2
     clear c0 c1 c2 c3
     go_loopw [26] (fun t wr=>∃(j:Nat),j≤1∧t=.int .i64 j∧Hid (dS w0 p3 p6 p7 K nK nb num i (ls.set i (acc++(bZ (l.take j)).filterMap num)) wr)) (fun t _=>1-(intOf t).toNat)
     case atStart=>exact⟨0,Nat.zero_le _,rfl,by unfold Hid;simpa [bZ] using HST.out⟩
     case round=>
      obtain⟨j,hj,rfl,HR⟩:=hrel
      by_cases hjl:j<1
      ·have hjk:j<l.length:=by have:=HKK.out;omega
       obtain⟨op',n',s',es,oo,cc,zs,e,x0,x1,x2,x3,r1,r2⟩:=HEX.out.at hjk
       obtain⟨p,f,cp,ev,_,_,g⟩:=HROW.out.at (by have:=HROW.out.1;omega)
       obtain⟨rfl,rfl⟩:o=some ⟨p,f,none⟩∧c=cp:=by simpa using ev
       have hbr:=HR.out.below
       have y0:=aF hbr (g _ _ x0)
       have y1:=aF hbr (g _ _ x1)
       have y2:=aF hbr (g _ _ x2)
       have y3:=aF hbr (g _ _ x3)
       rw[←Nat.add_assoc] at y1 y2 y3
       have i0':(0:Int)≤(j:Int):=by omega
       have i1':(j:Int)<(1:Int):=by omega
       have ej:l[j]?=some (.mk op' n' s' es):=by rw[List.getElem?_eq_getElem hjk,e]
       have hot:=rZ ej
       have hol:=uU (l.take 1) (j+1)
       rw[List.take_take,Nat.min_eq_left (by omega)] at hol
       obtain⟨w4,hw4⟩:∃w4,w4=wr.alloc (.cells #[.string op',.int .i64 n',.string s',.slice oo es.length cc] 92):=⟨_,rfl⟩
       have hb4:Bw wr w4:=by rw[hw4];exact aH
       have hr4:w4.heap[wr.heap.size]?=some (.cells #[.string op',.int .i64 n',.string s',.slice oo es.length cc] 92 (0,0)):=by rw[hw4];exact heap_alloc_new _ _
       have z0:w4.cell? ⟨wr.heap.size,0,none⟩=some (.string op'):=cr hr4 rfl
       have z1:w4.cell? ⟨wr.heap.size,0+1,none⟩=some (.int .i64 n'):=cr hr4 rfl
       have z2:w4.cell? ⟨wr.heap.size,0+2,none⟩=some (.string s'):=cr hr4 rfl
       have z3:w4.cell? ⟨wr.heap.size,0+3,none⟩=some (.slice oo es.length cc):=cr hr4 rfl
       have hil:=(aX HL.out).1
       have hih:=HIH.out op' n' s' es (by have:=kC hjk e;have:=HM.out;omega) w0 w4 p3 p6 p7 K nK nb i num _ (acc++(bZ (l.take j)).filterMap num) S oo cc zs (HR.out.keep hb4) (List.getElem?_set_self hil) (lY HSM.out ej) (tC HFB.out ej) r1 r2 (by
        have h1:=HLEN.out
        have h2:=List.length_filterMap_le num (bZ (l.take j))
        rw[hot,List.length_append] at hol
        rw[List.length_append]
        omega)
       rw[List.set_set,List.append_assoc,←List.filterMap_append,←hot] at hih
       have HCA:=aA hih
       have HJ:=aA hjl
       have N4:Hid (wrap64 ((j:Int)+1)=(j:Int)+1):=by have:=HML.out;have:=HJ.out;unfold Hid wrap64;omega
       have HW4:Hid (wr.alloc (.cells #[.string op',.int .i64 n',.string s',.slice oo es.length cc] 92)=w4):=hw4.symm
       clear hbr g ev x0 x1 x2 x3 r1 r2 e ej hot hol hw4 hb4 hr4 hil hih hj hjl hjk
       go_upto_region 12 with fail
       rw[HW4.out]
       clear y0 y1 y2 y3
       go_wp2_with fail
       refine HCA.out.mono ?_
       rintro e w5 ⟨rfl,h5⟩
       have HN5:=aA h5
       clear h5 z0 z1 z2 z3
       go_wp2
       exact⟨⟨j+1,HJ.out,by (try rw[N4.out]);rfl,HN5.out⟩,by (try rw[N4.out]);have:=HJ.out;simp [intOf];omega⟩
      ·obtain rfl:j=1:=by omega
       have HE:Hid (dS w0 p3 p6 p7 K nK nb num i (ls.set i (acc++(onE (.mk op n s l)).filterMap num)) wr):=by
        unfold Hid
        have h1:=HR.out
        rw[HON.out]
        exact h1
       clear hj hjl
       go_wp2
       go_end0
       exact⟨rfl,HE.out⟩
    ·have df:(op.toList==[102,98,121])=false:=by rw[ByteArray.toList_eq];exact beq_eq_false_iff_ne.2 hf
     have HON:Hid (onE (.mk op n s l)=bZ l):=by unfold Hid onE;rw[if_neg hn,if_neg hp,if_neg hf];rfl
     have HKK:Hid (l.length≤l.length):=Nat.le_refl _
     have HLEN:Hid (acc.length+(bZ l).length≤900000):=by have:=HLN.out;rw[HON.out] at this;exact this
     clear hn hp hf
     go_enter Tryz.func80,Tryz.ntmps80
     go_upto_region 1 with fail
     rw[HW1.out]
     go_wp2
     clear c0 c1 c2 c3
     go_loopw [26] (fun t wr=>∃(j:Nat),j≤l.length∧t=.int .i64 j∧Hid (dS w0 p3 p6 p7 K nK nb num i (ls.set i (acc++(bZ (l.take j)).filterMap num)) wr)) (fun t _=>l.length-(intOf t).toNat)
     case atStart=>exact⟨0,Nat.zero_le _,rfl,by unfold Hid;simpa [bZ] using HST.out⟩
     case round=>
      obtain⟨j,hj,rfl,HR⟩:=hrel
      by_cases hjl:j<l.length
      ·have hjk:j<l.length:=by have:=HKK.out;omega
       obtain⟨op',n',s',es,oo,cc,zs,e,x0,x1,x2,x3,r1,r2⟩:=HEX.out.at hjk
       obtain⟨p,f,cp,ev,_,_,g⟩:=HROW.out.at (by have:=HROW.out.1;omega)
       obtain⟨rfl,rfl⟩:o=some ⟨p,f,none⟩∧c=cp:=by simpa using ev
       have hbr:=HR.out.below
       have y0:=aF hbr (g _ _ x0)
       have y1:=aF hbr (g _ _ x1)
       have y2:=aF hbr (g _ _ x2)
       have y3:=aF hbr (g _ _ x3)
       rw[←Nat.add_assoc] at y1 y2 y3
       have i0':(0:Int)≤(j:Int):=by omega
       have i1':(j:Int)<(l.length:Int):=by omega
       have ej:l[j]?=some (.mk op' n' s' es):=by rw[List.getElem?_eq_getElem hjk,e]
       have hot:=rZ ej
       have hol:=uU l (j+1)
       obtain⟨w4,hw4⟩:∃w4,w4=wr.alloc (.cells #[.string op',.int .i64 n',.string s',.slice oo es.length cc] 92):=⟨_,rfl⟩
       have hb4:Bw wr w4:=by rw[hw4];exact aH
       have hr4:w4.heap[wr.heap.size]?=some (.cells #[.string op',.int .i64 n',.string s',.slice oo es.length cc] 92 (0,0)):=by rw[hw4];exact heap_alloc_new _ _
       have z0:w4.cell? ⟨wr.heap.size,0,none⟩=some (.string op'):=cr hr4 rfl
       have z1:w4.cell? ⟨wr.heap.size,0+1,none⟩=some (.int .i64 n'):=cr hr4 rfl
       have z2:w4.cell? ⟨wr.heap.size,0+2,none⟩=some (.string s'):=cr hr4 rfl
       have z3:w4.cell? ⟨wr.heap.size,0+3,none⟩=some (.slice oo es.length cc):=cr hr4 rfl
       have hil:=(aX HL.out).1
       have hih:=HIH.out op' n' s' es (by have:=kC hjk e;have:=HM.out;omega) w0 w4 p3 p6 p7 K nK nb i num _ (acc++(bZ (l.take j)).filterMap num) S oo cc zs (HR.out.keep hb4) (List.getElem?_set_self hil) (lY HSM.out ej) (tC HFB.out ej) r1 r2 (by
        have h1:=HLEN.out
        have h2:=List.length_filterMap_le num (bZ (l.take j))
        rw[hot,List.length_append] at hol
        rw[List.length_append]
        omega)
       rw[List.set_set,List.append_assoc,←List.filterMap_append,←hot] at hih
       have HCA:=aA hih
       have HJ:=aA hjl
       have N4:Hid (wrap64 ((j:Int)+1)=(j:Int)+1):=by have:=HML.out;have:=HJ.out;unfold Hid wrap64;omega
       have HW4:Hid (wr.alloc (.cells #[.string op',.int .i64 n',.string s',.slice oo es.length cc] 92)=w4):=hw4.symm
       clear hbr g ev x0 x1 x2 x3 r1 r2 e ej hot hol hw4 hb4 hr4 hil hih hj hjl hjk
       go_upto_region 12 with fail
       rw[HW4.out]
       clear y0 y1 y2 y3
       go_wp2_with fail
       refine HCA.out.mono ?_
       rintro e w5 ⟨rfl,h5⟩
       have HN5:=aA h5
       clear h5 z0 z1 z2 z3
       go_wp2
       exact⟨⟨j+1,HJ.out,by (try rw[N4.out]);rfl,HN5.out⟩,by (try rw[N4.out]);have:=HJ.out;simp [intOf];omega⟩
      ·obtain rfl:j=l.length:=by omega
       have HE:Hid (dS w0 p3 p6 p7 K nK nb num i (ls.set i (acc++(onE (.mk op n s l)).filterMap num)) wr):=by
        unfold Hid
        have h1:=HR.out
        rw[HON.out]
        rw[List.take_length] at h1
        exact h1
       clear hj hjl
       go_wp2
       go_end0
       exact⟨rfl,HE.out⟩
end Go.Proofs.YtmgfakcccfahaaaGreatDoor
