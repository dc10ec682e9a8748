/-
  package plan: isLate BY CONTRACT.
-/
import Derived.Test.YtmgfakcccfahaaaGreatDoorN25
set_option maxRecDepth 100000
set_option maxHeartbeats 2000000
namespace Go.Proofs.YtmgfakcccfahaaaGreatDoor
open Go.RowKit Go.Maps

theorem DZ{w:World}{F:Nat→Prop}{o:Option Addr}{c:Nat}{l:List Nat}(h:aB w F 1 (.slice o l.length c) l.length (aX l)):dP w (.slice o l.length c) (cI l):=by
 obtain⟨_,h2,o',c',e,h3,_⟩:=h
 obtain⟨rfl,rfl⟩:o=o'∧c=c':=by simpa using e
 refine⟨by rw[lG];exact h2,o,c,by rw[lG],fun k x hk=>?_⟩
 obtain⟨b,off,hb,_,hc⟩:=h3 k (.int .i64 x) (by unfold aX;rw[List.getElem?_map,hk];rfl)
 exact⟨b,off,hb,hc⟩
def jR(ps:List aW)(k:Nat):Bool:=(ps[k]?.map aW.late).getD false
theorem zI:∀{l:List aW} {i:Nat} {p:aW} (k:Nat),l[i]?=some p→k<6→(kP l)[i*6+k]?=p.cells[k]?
 | [],i,p,k,h,_=>by simp at h
 | q::l,0,p,k,h,hk=>by
  obtain rfl:q=p:=by simpa using h
  unfold kP
  rw[List.flatMap_cons,Nat.zero_mul,Nat.zero_add,List.getElem?_append_left (by simpa [aW.cells] using hk)]
 | q::l,i+1,p,k,h,hk=>by
  have:=zI (l:=l) (i:=i) (p:=p) k (by simpa using h) hk
  unfold kP at this ⊢
  rw[List.flatMap_cons,List.getElem?_append_right (by simp [aW.cells];omega),show (i+1)*6+k-q.cells.length=i*6+k from by simp [aW.cells];omega]
  exact this
theorem aG.cells{w0 w:World}{F:Nat→Prop}{ex:List Own}{d:aK}(h:aG w0 F ex d w){i:Nat}{p:aW}(hi:d.ps[i]?=some p):∃g c,d.vp=.slice (some ⟨g,0,none⟩) d.ps.length c∧∀k,k<6→w.cell? ⟨g,i*6+k,none⟩=p.cells[k]?:=by
 have hl:=(bA hi).1
 obtain⟨g,c,e,_⟩:=h.parts.form (by omega)
 refine⟨g,c,e,fun k hk=>?_⟩
 obtain⟨x,hx⟩:∃x,p.cells[k]?=some x:=⟨_,List.getElem?_eq_getElem (by simpa [aW.cells] using hk)⟩
 have hp:=h.parts
 rw[e] at hp
 have:=hp.cells (g:=g) rfl (i*6+k) x (by rw[zI k hi hk];exact hx)
 rw[Addr.add_lit,Nat.zero_add] at this
 rw[this,hx]
theorem Oz{w0 w:World}{F:Nat→Prop}{ex:List Own}{d:aK}(h:aG w0 F ex d w){xb i:Nat}{p:aW}(hx:w.cell? ⟨xb,0,none⟩=some (.pointer (some ⟨d.X,0,none⟩)))(hi:d.ps[i]?=some p) :
  Calls Tryz.prog 189 #[.int .i64 (i:Int),.pointer (some ⟨xb,0,none⟩)] w fun e w'=>e=.returned (.bool p.late)∧w'=w:=by
 have hl:=(bA hi).1
 obtain⟨g,c,e,hc⟩:=h.cells hi
 have c5:w.cell? ⟨g,i*6+5,none⟩=some (.bool p.late):=hc 5 (by omega)
 have x5:=h.iK
 have b0:w.cell? ⟨d.B,0,none⟩=some (.slice (some ⟨g,0,none⟩) d.ps.length c):=by rw[cell_of_row w _ _ _ _ (0,0) h.bb,←e];rfl
 have i0':(0:Int)≤(i:Int):=by omega
 have i1':(i:Int)<(d.ps.length:Int):=by omega
 clear h hi hl hc e
 go_enter Tryz.func189,Tryz.ntmps189
 go_wp2
 go_ret
 exact⟨rfl,rfl⟩
theorem NT{w0 w:World}{F:Nat→Prop}{ex:List Own}{d:aK}(h:aG w0 F ex d w){xb:Nat}(hx:w.cell? ⟨xb,0,none⟩=some (.pointer (some ⟨d.X,0,none⟩)))(o:Option Addr)(n c:Nat)(l:List Nat)(hp:dP w (.slice o n c) (cI l))(hn:n=l.length)(hl:n≤100000)(hin:∀k∈l,k<d.ps.length) :
  Calls Tryz.prog 168 #[.slice o n c,.func (.func 189) #[] #[.pointer (some ⟨xb,0,none⟩)]] w fun e w'=>(∃i:Int,e=.returned (.int .i64 i)∧(decide (0≤i)=l.any (jR d.ps)))∧w'=w:=by
 have HP:=aA hp
 have HN:=aA hn
 have HL:=aA hl
 have HC:Hid (∀k∈l,Calls Tryz.prog 189 #[.int .i64 (k:Int),.pointer (some ⟨xb,0,none⟩)] w fun e w'=>e=.returned (.bool (jR d.ps k))∧w'=w):=fun k hk=>by
  have hlt:=hin k hk
  have hi:d.ps[k]?=some d.ps[k]:=List.getElem?_eq_getElem hlt
  have:=Oz h hx hi
  unfold jR
  rw[hi]
  exact this
 clear hp hn hl h hx hin
 go_enter Tryz.func168,Tryz.ntmps168
 go_wp2
 go_loopw [8] (fun t wr=>∃j:Nat,j≤n∧t=.int .i64 j∧wr=w∧Hid (∀k x,k<j→l[k]?=some x→jR d.ps x=false)) (fun t _=>n-(intOf t).toNat)
 case atStart=>exact⟨0,Nat.zero_le _,rfl,rfl,fun k x hk=>by omega⟩
 case round=>
  obtain⟨j,hj,rfl,rfl,HALL⟩:=hrel
  by_cases hjl:j<n
  ·obtain⟨x,hx⟩:∃x,l[j]?=some x:=⟨_,List.getElem?_eq_getElem (by have:=HN.out;omega)⟩
   obtain⟨b,off,rfl,hcx⟩:=HP.out.get (lH hx)
   have i0':(0:Int)≤(j:Int):=by omega
   have i1':(j:Int)<(n:Int):=by omega
   have N4:Hid (wrap64 ((j:Int)+1)=(j:Int)+1):=by have:=HL.out;unfold Hid wrap64;omega
   have HJ:=aA hjl
   have HX:=aA hx
   have HCX:=HC.out x (List.mem_of_getElem? hx)
   clear hj hjl hx
   cases hb:jR d.ps x
   ·rw[hb] at HCX
    have HCX2:Hid (Calls Tryz.prog 189 #[.int .i64 (x:Int),.pointer (some ⟨xb,0,none⟩)] wr fun e w'=>e=.returned (.bool false)∧w'=wr):=HCX
    have HN2:Hid (∀k y,k<j+1→l[k]?=some y→jR d.ps y=false):=fun k y hk hy=>by
     by_cases e:k=j
     ·subst e
      rw[HX.out] at hy
      rw[←Option.some.inj hy]
      exact hb
     ·exact HALL.out k y (by omega) hy
    clear HCX hb
    go_wp2_with (go_at_call 189;refine HCX2.out.mono ?_;rintro e w' ⟨rfl,hw⟩;have hw2:=hw.symm;subst hw2)
    exact⟨⟨j+1,HJ.out,by rw[N4.out];rfl,trivial,HN2.out⟩,by rw[N4.out];have:=HJ.out;simp [intOf];omega⟩
   ·rw[hb] at HCX
    have HCX2:Hid (Calls Tryz.prog 189 #[.int .i64 (x:Int),.pointer (some ⟨xb,0,none⟩)] wr fun e w'=>e=.returned (.bool true)∧w'=wr):=HCX
    have HT:Hid (l.any (jR d.ps)=true):=List.any_eq_true.2 ⟨x,List.mem_of_getElem? HX.out,hb⟩
    clear HCX hb
    go_wp2_with (go_at_call 189;refine HCX2.out.mono ?_;rintro e w' ⟨rfl,hw⟩;have hw2:=hw.symm;subst hw2)
    go_ret
    refine⟨⟨_,rfl,?_⟩,rfl⟩
    rw[HT.out];simp
  ·obtain rfl:n=j:=by omega
   have HT:Hid (l.any (jR d.ps)=false):=by
    unfold Hid
    rw[List.any_eq_false]
    intro x hx
    obtain⟨k,hk⟩:=List.mem_iff_getElem?.1 hx
    rw[HALL.out k x (by have:=HN.out;have:=(bA hk).1;omega) hk]
    simp
   clear hj hjl
   go_wp2
   go_ret
   refine⟨⟨_,rfl,?_⟩,rfl⟩
   rw[HT.out];simp
theorem FC{w0 w:World}{F:Nat→Prop}{ex:List Own}{d:aK}(h:aG w0 F ex d w){xb:Nat}(hx:w.cell? ⟨xb,0,none⟩=some (.pointer (some ⟨d.X,0,none⟩)))(o:Option Addr)(n c:Nat)(l:List Nat)(hp:dP w (.slice o n c) (cI l))(hn:n=l.length)(hl:n≤100000)(hin:∀k∈l,k<d.ps.length) :
  Calls Tryz.prog 122 #[.slice o n c,.func (.func 189) #[] #[.pointer (some ⟨xb,0,none⟩)]] w fun e w'=>e=.returned (.bool (l.any (jR d.ps)))∧w'=w:=by
 have HC:Hid (Calls Tryz.prog 168 #[.slice o n c,.func (.func 189) #[] #[.pointer (some ⟨xb,0,none⟩)]] w fun e w'=>(∃i:Int,e=.returned (.int .i64 i)∧(decide (0≤i)=l.any (jR d.ps)))∧w'=w):=NT h hx o n c l hp hn hl hin
 clear h hx hp hn hl hin
 go_enter Tryz.func122,Tryz.ntmps122
 go_wp2_with (go_at_call 168;refine HC.out.mono ?_;rintro e w' ⟨⟨i,rfl,hi⟩,hw⟩;have hw2:=hw.symm;subst hw2)
 go_ret
 exact⟨by rw[←hi];rfl,rfl⟩
def isLt(d:aK)(op s:ByteArray)(l:List Nat):Bool:=if op.data.toList=bS then decide (0<(d.fl s.data.toList).getD 0) else if op.data.toList=dD then true else if op.data.toList=fV∨op.data.toList=bQ then (l.take 1).any (jR d.ps) else l.any (jR d.ps)
theorem Oy{w0 w:World}{F:Nat→Prop}{ex:List Own}{d:aK}(h:aG w0 F ex d w)(op s:ByteArray)(n:Int)(o:Option Addr)(m c:Nat)(eo:Option Addr)(ec:Nat)(l:List Nat)(hs:s.size≤maxLen)(hr:aB w F 1 (.slice o l.length c) l.length (aX l))(hl:l.length≤100000)(hin:∀k∈l,k<d.ps.length)(har:op.data.toList=fV∨op.data.toList=bQ→0<l.length) :
  Calls Tryz.prog 186 #[.pointer (some ⟨d.X,0,none⟩),.agg #[.string op,.int .i64 n,.string s,.slice eo m ec],.slice o l.length c] w fun e w'=>e=.returned (.bool (isLt d op s l))∧Bw w w':=by
 obtain⟨w1,hw1⟩:∃w1,w1=w.alloc (.cells #[.pointer (some ⟨d.X,0,none⟩)] 237):=⟨_,rfl⟩
 obtain⟨w2,hw2⟩:∃w2,w2=w1.alloc (.cells #[.string op,.int .i64 n,.string s,.slice eo m ec] 92):=⟨_,rfl⟩
 have hb1:Bw w w1:=by rw[hw1];exact aH
 have hb2:Bw w1 w2:=by rw[hw2];exact aH
 have hs1:w1.heap.size=w.heap.size+1:=by rw[hw1];simp
 have hbb:Bw w w2:=hb1.trans (hb2.mono hb1.size)
 obtain⟨B1,hB1⟩:∃B1,B1=w.heap.size:=⟨_,rfl⟩
 obtain⟨B2,hB2⟩:∃B2,B2=w.heap.size+1:=⟨_,rfl⟩
 have hr1:w2.heap[B1]?=some (.cells #[.pointer (some ⟨d.X,0,none⟩)] 237 (0,0)):=aN hb2 (by rw[hw1,hB1];exact heap_alloc_new _ _)
 have hr2:w2.heap[B2]?=some (.cells #[.string op,.int .i64 n,.string s,.slice eo m ec] 92 (0,0)):=by rw[hw2,hB2,←hs1];exact heap_alloc_new _ _
 have x0:w2.cell? ⟨B1,0,none⟩=some (.pointer (some ⟨d.X,0,none⟩)):=cr hr1 rfl
 have c0:w2.cell? ⟨B2,0,none⟩=some (.string op):=cr hr2 rfl
 have c2:w2.cell? ⟨B2,0+2,none⟩=some (.string s):=cr hr2 rfl
 have hP2:=h.keep hbb
 have x7:w2.cell? ⟨d.X,0+7,none⟩=some (.map (some d.Kl)):=cr hP2.xb rfl
 have hfn:aO w2 d.Kl d.gG (aY d.fl):=hP2.sep.is 3 _ rfl
 have hr':=hr.keep (w':=w2) (S':=F) (fun b hF hl=>⟨hF,hbb.block b hl⟩)
 have HW:Hid (w.alloc (.cells #[.pointer (some ⟨d.X,0,none⟩)] 237)=w1∧w1.alloc (.cells #[.string op,.int .i64 n,.string s,.slice eo m ec] 92)=w2∧w.heap.size+1=B2∧w.heap.size=B1):=⟨hw1.symm,hw2.symm,hB2.symm,hB1.symm⟩
 have HBB:=aA hbb
 have HCT:Hid (Calls Tryz.prog 122 #[.slice o l.length c,.func (.func 189) #[] #[.pointer (some ⟨B1,0,none⟩)]] w2 fun e w'=>e=.returned (.bool (l.any (jR d.ps)))∧w'=w2):=FC hP2 x0 o l.length c l (DZ hr') rfl hl hin
 have HC1:Hid (0<l.length→Calls Tryz.prog 122 #[.slice o 1 c,.func (.func 189) #[] #[.pointer (some ⟨B1,0,none⟩)]] w2 fun e w'=>e=.returned (.bool ((l.take 1).any (jR d.ps)))∧w'=w2):=fun h0=>by
  have e1:(l.take 1).length=1:=by simp;omega
  refine FC hP2 x0 o 1 c (l.take 1) ?_ e1.symm (by omega) (fun k hk=>hin k (List.mem_of_mem_take hk))
  have hI:=DZ hr'
  refine⟨by rw[lG,e1];unfold maxLen;omega,o,c,by rw[lG,e1],fun k x hk=>?_⟩
  obtain⟨_,o',c',e,h3⟩:=hI
  obtain⟨rfl,rfl⟩:o=o'∧c=c':=by rw[lG] at e;simpa using e
  refine h3 k x ?_
  unfold cI at hk ⊢
  rw[List.getElem?_map] at hk ⊢
  rw[List.getElem?_take] at hk
  split at hk
  ·exact hk
  ·simp at hk
 have hcap:l.length≤c:=hr.cap
 have hlk:∀k,(Instr.lookup 96 (.map (some d.Kl)) (.string s) false).run Tryz.prog (w2.drewN k)=.ok ((aY d.fl s.data.toList).getD (.int .i64 0)) (w2.drewN k):=fun k=>(hfn.kept (w':=w2.drewN k) rfl).lW Tryz.underlying96 (jO (w2.drewN k)) s hs
 have e1:(aY d.fl s.data.toList).getD (.int .i64 0)=.int .i64 ((d.fl s.data.toList).getD 0):=nA _
 rw[e1] at hlk
 clear h hw1 hw2 hb1 hb2 hs1 hbb hB1 hB2 hr1 hr2 hP2 hfn hr hr' hin e1 hs
 by_cases ho:op.data.toList=bS
 ·have HE:Hid (isLt d op s l=decide (0<(d.fl s.data.toList).getD 0)):=by unfold Hid isLt;rw[if_pos ho]
  have dn:(op.toList==[110,97,109,101])=true:=by rw[ByteArray.toList_eq,ho];rfl
  obtain⟨q,hq⟩:∃q,q=(d.fl s.data.toList).getD 0:=⟨_,rfl⟩
  rw[←hq] at hlk HE
  clear hq ho har hl hcap
  go_enter Tryz.func186,Tryz.ntmps186
  go_upto_region 1 with fail
  rw[HW.out.1,HW.out.2.2.1,HW.out.2.1,HW.out.2.2.2]
  go_wp2
  go_quiet (fail)
  go_wp2
  go_ret
  exact⟨by rw[HE.out];rfl,⟨HBB.out.os,HBB.out.tape,HBB.out.output,HBB.out.size,HBB.out.block⟩⟩
 have hn:=ho
 clear ho
 have dn:(op.toList==[110,97,109,101])=false:=by rw[ByteArray.toList_eq];exact beq_eq_false_iff_ne.2 hn
 clear hlk
 by_cases ho:op.data.toList=dD
 ·have HE:Hid (isLt d op s l=true):=by unfold Hid isLt;rw[if_neg hn,if_pos ho]
  have dp:(op.toList==[112,114,101])=true:=by rw[ByteArray.toList_eq,ho];rfl
  clear ho hn har hl hcap
  go_enter Tryz.func186,Tryz.ntmps186
  go_upto_region 1 with fail
  rw[HW.out.1,HW.out.2.2.1,HW.out.2.1,HW.out.2.2.2]
  go_wp2
  go_ret
  exact⟨by rw[HE.out];rfl,HBB.out⟩
 have hp:=ho
 clear ho
 have dp:(op.toList==[112,114,101])=false:=by rw[ByteArray.toList_eq];exact beq_eq_false_iff_ne.2 hp
 by_cases ho:op.data.toList=fV∨op.data.toList=bQ
 ·have h0:=har ho
  have HC2:=HC1.out h0
  have HCC:Hid (Calls Tryz.prog 122 #[.slice o 1 c,.func (.func 189) #[] #[.pointer (some ⟨B1,0,none⟩)]] w2 fun e w'=>e=.returned (.bool ((l.take 1).any (jR d.ps)))∧w'=w2):=HC2
  have HE:Hid (isLt d op s l=(l.take 1).any (jR d.ps)):=by unfold Hid isLt;rw[if_neg hn,if_neg hp,if_pos ho]
  have l1':(1:Int)≤(c:Int):=by omega
  have l2':1≤c:=by omega
  have HHO:=aA ho
  clear HC1 HC2 ho hn hp har hl hcap h0 HCT
  rcases HHO.out with h1 | h1
  ·have da:(op.toList==[45,62])=true:=by rw[ByteArray.toList_eq,h1];rfl
   clear h1 HHO
   go_enter Tryz.func186,Tryz.ntmps186
   go_upto_region 1 with fail
   rw[HW.out.1,HW.out.2.2.1,HW.out.2.1,HW.out.2.2.2]
   go_wp2_with fail
   refine HCC.out.mono ?_
   rintro e w3 ⟨rfl,hw⟩
   have hw2:=hw.symm
   subst hw2
   go_wp2
   go_ret
   exact⟨by rw[HE.out];rfl,HBB.out⟩
  ·have da:(op.toList==[45,62])=false:=by rw[ByteArray.toList_eq,h1];rfl
   have df:(op.toList==[102,98,121])=true:=by rw[ByteArray.toList_eq,h1];rfl
   clear h1 HHO
   go_enter Tryz.func186,Tryz.ntmps186
   go_upto_region 1 with fail
   rw[HW.out.1,HW.out.2.2.1,HW.out.2.1,HW.out.2.2.2]
   go_wp2_with fail
   refine HCC.out.mono ?_
   rintro e w3 ⟨rfl,hw⟩
   have hw2:=hw.symm
   subst hw2
   go_wp2
   go_ret
   exact⟨by rw[HE.out];rfl,HBB.out⟩
 ·have HE:Hid (isLt d op s l=l.any (jR d.ps)):=by unfold Hid isLt;rw[if_neg hn,if_neg hp,if_neg ho]
  have da:(op.toList==[45,62])=false:=by rw[ByteArray.toList_eq];exact beq_eq_false_iff_ne.2 (fun e=>ho (.inl e))
  have df:(op.toList==[102,98,121])=false:=by rw[ByteArray.toList_eq];exact beq_eq_false_iff_ne.2 (fun e=>ho (.inr e))
  clear HC1 ho hn hp har hl hcap
  go_enter Tryz.func186,Tryz.ntmps186
  go_upto_region 1 with fail
  rw[HW.out.1,HW.out.2.2.1,HW.out.2.1,HW.out.2.2.2]
  go_wp2_with fail
  refine HCT.out.mono ?_
  rintro e w3 ⟨rfl,hw⟩
  have hw2:=hw.symm
  subst hw2
  go_wp2
  go_ret
  exact⟨by rw[HE.out];rfl,HBB.out⟩
structure Pq where
 op:ByteArray
 n:Int
 aF:List Nat
 mem:Int
 kind:Int
 late:Bool
def aW.q(p:aW):Pq:=⟨p.op,p.n,p.aF,p.mem,p.kind,p.late⟩
structure Pm where
 ps:List Pq
 ns:List ByteArray
 ks:List Nat
def oM:List UInt8:=[116,114,117,101]
def uP(ps:List Pq)(k:Nat):Bool:=(ps[k]?.map Pq.late).getD false
def rG(fl:List UInt8→Option Int)(ps:List Pq)(op s:ByteArray)(l:List Nat):Bool:=if op.data.toList=bS then decide (0<(fl s.data.toList).getD 0) else if op.data.toList=dD then true else if op.data.toList=fV∨op.data.toList=bQ then (l.take 1).any (uP ps) else l.any (uP ps)
def lC(fl:List UInt8→Option Int)(op:ByteArray)(n:Int)(s:ByteArray)(l:List Nat)(m:Pm):Pm:=
 if op.data.toList=dD∨op.data.toList=bQ then ⟨m.ps++[⟨op,n,l,(m.ks.length:Nat),0,rG fl m.ps op s l⟩],m.ns++[s],m.ks++[l.getLastD 0]⟩
 else ⟨m.ps++[⟨op,if op.data.toList=oM then 1 else n,l,0,0,rG fl m.ps op s l⟩],m.ns++[s],m.ks⟩
mutual
def bY(fl:List UInt8→Option Int):Ex→Pm→Pm×Nat
 | .mk op n s l,m=>(lC fl op n s (aZ fl l m).2 (aZ fl l m).1,(aZ fl l m).1.ps.length)
def aZ(fl:List UInt8→Option Int):List Ex→Pm→Pm×List Nat
 | [],m=>(m,[])
 | e::es,m=>((aZ fl es (bY fl e m).1).1,(bY fl e m).2::(aZ fl es (bY fl e m).1).2)
end
def aK.m(d:aK):Pm:=⟨d.ps.map aW.q,d.ns,d.ks⟩
theorem Oc(ps:List aW)(k:Nat):jR ps k=uP (ps.map aW.q) k:=by
 unfold jR uP
 rw[List.getElem?_map]
 cases ps[k]?<;>rfl
theorem Ox(d:aK)(op s:ByteArray)(l:List Nat):isLt d op s l=rG d.fl d.m.ps op s l:=by
 have e:jR d.ps=uP d.m.ps:=funext (Oc d.ps)
 unfold isLt rG
 rw[e]
theorem LJ(fl:List UInt8→Option Int)(op:ByteArray)(n:Int)(s:ByteArray)(l:List Nat)(m:Pm):(lC fl op n s l m).ps.length=m.ps.length+1∧(lC fl op n s l m).ns.length=m.ns.length+1∧(lC fl op n s l m).ks.length≤m.ks.length+1:=by
 unfold lC
 split<;>simp
mutual
theorem Ej(fl:List UInt8→Option Int):∀(e:Ex) (m:Pm),(bY fl e m).1.ps.length=m.ps.length+aL e∧(bY fl e m).1.ns.length=m.ns.length+aL e∧(bY fl e m).1.ks.length≤m.ks.length+aL e∧(bY fl e m).2<(bY fl e m).1.ps.length
 | .mk op n s l,m=>by
  have h:=qF fl l m
  have h2:=LJ fl op n s (aZ fl l m).2 (aZ fl l m).1
  unfold bY aL
  simp only
  omega
theorem qF(fl:List UInt8→Option Int):∀(l:List Ex) (m:Pm),(aZ fl l m).1.ps.length=m.ps.length+aC l∧(aZ fl l m).1.ns.length=m.ns.length+aC l∧(aZ fl l m).1.ks.length≤m.ks.length+aC l∧(aZ fl l m).2.length=l.length∧∀k∈(aZ fl l m).2,k<(aZ fl l m).1.ps.length
 | [],m=>by simp [aZ,aC]
 | e::es,m=>by
  have h:=Ej fl e m
  have h2:=qF fl es (bY fl e m).1
  unfold aZ aC
  simp only[List.length_cons,List.mem_cons]
  refine⟨by omega,by omega,by omega,by omega,fun k hk=>?_⟩
  rcases hk with rfl | hk
  ·omega
  ·exact h2.2.2.2.2 k hk
end
theorem Em{fl:List UInt8→Option Int}:∀{l:List Ex} {j:Nat} {e:Ex} {m:Pm},l[j]?=some e→aZ fl (l.take (j+1)) m=((bY fl e (aZ fl (l.take j) m).1).1,(aZ fl (l.take j) m).2++[(bY fl e (aZ fl (l.take j) m).1).2])
 | [],j,e,m,h=>by simp at h
 | x::l,0,e,m,h=>by
  obtain rfl:x=e:=by simpa using h
  simp [aZ]
 | x::l,j+1,e,m,h=>by
  have:=Em (fl:=fl) (l:=l) (j:=j) (e:=e) (m:=(bY fl x m).1) (by simpa using h)
  simp only[List.take_succ_cons,aZ]
  rw[this]
  simp

def mW(w0:World)(F:Nat→Prop)(ex:List Own)(d:aK)(m:Pm)(w w':World)(F':Nat→Prop)(d':aK):Prop:=
 (∃vp vn vk ps ns ks,d'={ d with vp:=vp,vn:=vn,vk:=vk,ps:=ps,ns:=ns,ks:=ks })∧d'.m=m∧aG w0 F' ex d' w'∧aJ F F' w w'
theorem aJ.refl(F:Nat→Prop)(w:World):aJ F F w w:=fun _ h _=>⟨h,rfl⟩
theorem aJ.trans{F G H:Nat→Prop}{w w' w'':World}(h:aJ F G w w')(k:aJ G H w' w'')(hs:w.heap.size≤w'.heap.size):aJ F H w w'':=fun b hF hl=>by
 obtain⟨h1,h2⟩:=h b hF hl
 obtain⟨h3,h4⟩:=k b h1 (Nat.lt_of_lt_of_le hl hs)
 exact⟨h3,h4.trans h2⟩
theorem jZ{F:Nat→Prop}{w w':World}(h:Bw w w'):aJ F F w w':=fun b hF hl=>⟨hF,h.block b hl⟩
theorem aB.G7{w:World}{S:Nat→Prop}{size b n c:Nat}{t:TypeId}{cs:Array Value}{xs:List Value}(h:w.heap[b]?=some (.cells cs t (0,0)))(hS:S b)(hx:cs.toList=xs)(hl:xs.length=n*size)(hn:n≤maxLen)(hc:n≤c):aB w S size (.slice (some ⟨b,0,none⟩) n c) n xs:=by
 refine⟨hl,hn,_,c,rfl,fun k x hk=>⟨b,0,rfl,hS,?_⟩,hc⟩
 rw[Nat.zero_add,cell_of_row w b k cs t (0,0) h]
 rw[←hx] at hk
 simpa using hk
def yL(m:Nat):Prop:=∀(op:ByteArray) (n:Int) (s:ByteArray) (l:List Ex),SizeOf.sizeOf l<m→∀(w0 w:World) (F:Nat→Prop) (ex:List Own) (d:aK) (S:Nat→Prop) (o:Option Addr) (c:Nat) (ys:List Value),aG w0 F ex d w→fJ (.mk op n s l)→fA (.mk op n s l)→aB w0 S 4 (.slice o l.length c) l.length ys→aQ w0 S l ys→d.ps.length+aL (.mk op n s l)≤50000→d.ns.length+aL (.mk op n s l)≤50000→d.ks.length+aL (.mk op n s l)≤50000 →
  Calls Tryz.prog 178 #[.pointer (some ⟨d.X,0,none⟩),.agg #[.string op,.int .i64 n,.string s,.slice o l.length c]] w fun e w'=>e=.returned (.int .i64 ((bY d.fl (.mk op n s l) d.m).2:Nat))∧w.heap.size≤w'.heap.size∧∃F' d',mW w0 F ex d (bY d.fl (.mk op n s l) d.m).1 w w' F' d'
def j4(R n:Nat)(g:Nat→Int):Own:=aP R (.cells ((j3 n g).map (Value.int .i64)).toArray 3 (0,0))
theorem CQ(n:Nat):((j3 n fun _=>0).map (Value.int .i64)).toArray=Array.replicate n (.int .i64 0):=by
 apply Array.toList_inj.1
 apply List.ext_getElem?
 intro j
 simp only[Array.toList_replicate,List.getElem?_replicate,j3,List.getElem?_map]
 by_cases hj:j<n
 ·simp [hj]
 ·simp [hj]
def upTo(l:List Nat)(k:Nat):Int:=(l[k]?.getD 0:Nat)
theorem Jk(l:List Nat)(x k:Nat):(if k=l.length then (x:Int) else upTo l k)=upTo (l++[x]) k:=by
 unfold upTo
 by_cases e:k=l.length
 ·subst e;simp
 ·rw[if_neg e]
  by_cases h:k<l.length
  ·rw[List.getElem?_append_left h]
  ·rw[List.getElem?_eq_none (by omega),List.getElem?_eq_none (by simp;omega)]
theorem K6(l:List Nat):j3 l.length (upTo l)=cI l:=by
 apply List.ext_getElem?
 intro j
 by_cases h:j<l.length
 ·rw[uF _ h,lH (qK h)]
  unfold upTo
  rw[List.getElem?_eq_getElem h]
  rfl
 ·rw[List.getElem?_eq_none (by rw[oW];omega),List.getElem?_eq_none (by rw[lG];omega)]
theorem aG.AO{w0 w:World}{F:Nat→Prop}{ex:List Own}{d:aK}{R n:Nat}{g:Nat→Int}(h:aG w0 F (j4 R n g::ex) d w):dV w R n g:=h.sep.is 10 _ rfl
theorem aG.IE{w0 w:World}{F:Nat→Prop}{ex:List Own}{d:aK}{R n:Nat}{g:Nat→Int}(h:aG w0 F (j4 R n g::ex) d w)(k:Nat)(v:Int):aG w0 F (j4 R n (fun j=>if j=k then v else g j)::ex) d (w.setCell ⟨R,k,none⟩ (.int .i64 v)):=by
 have hg:=bW w R k (.int .i64 v)
 have hs:=h.sep.step (i:=10) (c:=j4 R n g) (c':=j4 R n (fun j=>if j=k then v else g j)) rfl hg (h.AO.set k v) (fun q hq=>.inl hq)
 exact⟨hs,h.aF.keep (h.sep.stays (i:=10) (c:=j4 R n g) rfl hg),h.sep.below (i:=10) (c:=j4 R n g) rfl hg h.below⟩
theorem A9{m:Nat}(IH:yL m)(l:List Ex)(hm:SizeOf.sizeOf l<m+1)(w0 w:World)(F:Nat→Prop)(ex:List Own)(d:aK)(S:Nat→Prop)(o:Option Addr)(c:Nat)(ys:List Value)(h:aG w0 F ex d w)(hsm:dR l)(har:eT l)(hrow:aB w0 S 4 (.slice o l.length c) l.length ys)(hex:aQ w0 S l ys)(h1:d.ps.length+aC l≤50000)(h2:d.ns.length+aC l≤50000)(h3:d.ks.length+aC l≤50000) :
  Calls Tryz.prog 179 #[.pointer (some ⟨d.X,0,none⟩),.slice o l.length c] w fun e w'=>w.heap.size≤w'.heap.size∧∃R F' d',e=.returned (.slice (some ⟨R,0,none⟩) l.length l.length)∧aB w' F' 1 (.slice (some ⟨R,0,none⟩) l.length l.length) l.length (aX (aZ d.fl l d.m).2)∧mW w0 F ex d (aZ d.fl l d.m).1 w w' F' d':=by
 have hll:l.length≤50000:=by have:=tZ l;omega
 have hmk:=sH Tryz.underlying30 Tryz.kT rfl l.length (by omega) (by omega)
 obtain⟨R,hR⟩:∃R,R=w.heap.size:=⟨_,rfl⟩
 obtain⟨w1,hw1⟩:∃w1,w1=w.alloc (.cells (Array.replicate l.length (.int .i64 0)) 3):=⟨_,rfl⟩
 have hb1:Bw w w1:=by rw[hw1];exact aH
 have HS1:Hid (aG w0 F (j4 R l.length (upTo [])::ex) d w1):=by
  have hs:Sep w1 w0.heap.size F (d.own w0.heap.size++j4 R l.length (upTo [])::ex):=by
   have:=h.sep.alloc (Array.replicate l.length (.int .i64 0)) 3
   have e:(upTo []:Nat→Int)=fun _=>0:=by funext k;simp [upTo]
   unfold j4
   rw[e,CQ,hw1,hR]
   exact this
  exact⟨hs,h.aF.keep (jZ hb1),h.below.trans (hb1.mono h.below.size)⟩
 have HST:Hid (aJ F F w w1∧w.heap.size≤w1.heap.size):=⟨jZ hb1,hb1.size⟩
 have HIH:Hid (yL m):=IH
 have HSM:Hid (dR l∧eT l∧SizeOf.sizeOf l<m+1∧l.length≤50000):=⟨hsm,har,hm,hll⟩
 have HROW:=aA hrow
 have HEX:=aA hex
 have HSZ:Hid (d.ps.length+aC l≤50000∧d.ns.length+aC l≤50000∧d.ks.length+aC l≤50000):=⟨h1,h2,h3⟩
 have HW1:Hid (w.alloc (.cells (Array.replicate l.length (.int .i64 0)) 3)=w1∧w.heap.size=R):=⟨hw1.symm,hR.symm⟩
 clear h hsm har hrow hex h1 h2 h3 hm IH hw1 hb1 hll hR
 go_enter Tryz.func179,Tryz.ntmps179
 go_upto_region 2 with fail
 rw[HW1.out.2,HW1.out.1]
 clear hmk
 go_wp2
 go_loopw [13] (fun t wr=>∃(j:Nat) (Fj:Nat→Prop) (dj:aK),j≤l.length∧t=.int .i64 j∧Hid (mW w0 F (j4 R l.length (upTo (aZ d.fl (l.take j) d.m).2)::ex) d (aZ d.fl (l.take j) d.m).1 w1 wr Fj dj∧w1.heap.size≤wr.heap.size)) (fun t _=>l.length-(intOf t).toNat)
 case atStart=>
  refine⟨0,F,d,Nat.zero_le _,rfl,⟨⟨_,_,_,_,_,_,rfl⟩,?_,?_,aJ.refl _ _⟩,Nat.le_refl _⟩
  ·simp [aZ]
  ·simpa [aZ] using HS1.out
 case round=>
  obtain⟨j,Fj,dj,hj,rfl,HR⟩:=hrel
  by_cases hjl:j<l.length
  ·obtain⟨op',n',s',es,oo,cc,zs,e,x0,x1,x2,x3,r1,r2⟩:=HEX.out.at hjl
   obtain⟨b,off,cp,ev,_,_,g⟩:=HROW.out.at (by have:=HROW.out.1;omega)
   obtain⟨rfl,rfl⟩:o=some ⟨b,off,none⟩∧c=cp:=by simpa using ev
   obtain⟨⟨hdj,hmj,hPj,hSj⟩,hsz⟩:=HR.out
   have hbr:=hPj.below
   have y0:=aD hbr (g _ _ x0)
   have y1:=aD hbr (g _ _ x1)
   have y2:=aD hbr (g _ _ x2)
   have y3:=aD hbr (g _ _ x3)
   rw[←Nat.add_assoc] at y1 y2 y3
   have i0':(0:Int)≤(j:Int):=by omega
   have i1':(j:Int)<(l.length:Int):=by omega
   have ej:l[j]?=some (.mk op' n' s' es):=by rw[List.getElem?_eq_getElem hjl,e]
   obtain⟨w4,hw4⟩:∃w4,w4=wr.alloc (.cells #[.string op',.int .i64 n',.string s',.slice oo es.length cc] 92):=⟨_,rfl⟩
   have hb4:Bw wr w4:=by rw[hw4];exact aH
   obtain⟨B,hB⟩:∃B,B=wr.heap.size:=⟨_,rfl⟩
   have hr4:w4.heap[B]?=some (.cells #[.string op',.int .i64 n',.string s',.slice oo es.length cc] 92 (0,0)):=by rw[hw4,hB];exact heap_alloc_new _ _
   have z0:w4.cell? ⟨B,0,none⟩=some (.string op'):=cr hr4 rfl
   have z1:w4.cell? ⟨B,0+1,none⟩=some (.int .i64 n'):=cr hr4 rfl
   have z2:w4.cell? ⟨B,0+2,none⟩=some (.string s'):=cr hr4 rfl
   have z3:w4.cell? ⟨B,0+3,none⟩=some (.slice oo es.length cc):=cr hr4 rfl
   have hlt:=qF d.fl (l.take j) d.m
   have hs2:=vF l j _ ej
   have hs3:=vG l (j+1)
   have hdX:dj.X=d.X∧dj.fl=d.fl:=by obtain⟨_,_,_,_,_,_,rfl⟩:=hdj;exact⟨rfl,rfl⟩
   have hmp:dj.ps.length=(aZ d.fl (l.take j) d.m).1.ps.length∧dj.ns.length=(aZ d.fl (l.take j) d.m).1.ns.length∧dj.ks.length=(aZ d.fl (l.take j) d.m).1.ks.length:=by
    rw[←hmj]
    unfold aK.m
    exact⟨by simp,rfl,rfl⟩
   have hdm:d.m.ps.length=d.ps.length∧d.m.ns.length=d.ns.length∧d.m.ks.length=d.ks.length:=by unfold aK.m;exact⟨by simp,rfl,rfl⟩
   have hsz':=HSZ.out
   have hca:=HIH.out op' n' s' es (by have:=qV hjl e;have:=HSM.out.2.2.1;omega) w0 w4 Fj _ dj S oo cc zs (hPj.keep hb4) (oG HSM.out.1 ej) (wL HSM.out.2.1 ej) r1 r2 (by omega) (by omega) (by omega)
   rw[hdX.1,hdX.2,hmj] at hca
   have htk:=Em (fl:=d.fl) (m:=d.m) ej
   obtain⟨k,hk⟩:∃k,k=(bY d.fl (.mk op' n' s' es) (aZ d.fl (l.take j) d.m).1).2:=⟨_,rfl⟩
   rw[←hk] at hca htk
   have HCA:=aA hca
   have HTK:Hid ((aZ d.fl (l.take (j+1)) d.m).1=(bY d.fl (.mk op' n' s' es) (aZ d.fl (l.take j) d.m).1).1∧(aZ d.fl (l.take (j+1)) d.m).2=(aZ d.fl (l.take j) d.m).2++[k]):=⟨by rw[htk],by rw[htk]⟩
   have HLJ:Hid ((aZ d.fl (l.take j) d.m).2.length=j):=by have:=hlt.2.2.2.1;unfold Hid;rw[this,List.length_take];omega
   have HJ:=aA hjl
   have N4:Hid (wrap64 ((j:Int)+1)=(j:Int)+1):=by have:=HSM.out.2.2.2;have:=HJ.out;unfold Hid wrap64;omega
   have HW4:Hid (wr.alloc (.cells #[.string op',.int .i64 n',.string s',.slice oo es.length cc] 92)=w4∧wr.heap.size=B):=⟨hw4.symm,hB.symm⟩
   have HDJ:Hid (∃vp vn vk ps ns ks,dj={ d with vp:=vp,vn:=vn,vk:=vk,ps:=ps,ns:=ns,ks:=ks }):=hdj
   have HSJ:Hid (aJ F Fj w1 w4∧w1.heap.size≤w4.heap.size):=⟨hSj.trans (jZ hb4) hsz,Nat.le_trans hsz hb4.size⟩
   clear hdj hmj hPj hSj hsz hbr g ev x0 x1 x2 x3 r1 r2 e ej hw4 hb4 hB hr4 hlt hs2 hs3 hdX hmp hdm hsz' hca htk hk hj hjl HR
   go_upto_region 5 with fail
   rw[HW4.out.1,HW4.out.2]
   clear y0 y1 y2 y3
   go_wp2_with fail
   refine HCA.out.mono ?_
   rintro e w5 ⟨rfl,hsz5,F5,d5,hd5,hm5,hP5,hS5⟩
   have hw5:=hP5.AO
   have t0:=hw5.cell HJ.out
   have t1:=hw5.free j
   have HNX:Hid (mW w0 F (j4 R l.length (upTo (aZ d.fl (l.take (j+1)) d.m).2)::ex) d (aZ d.fl (l.take (j+1)) d.m).1 w1 (w5.setCell ⟨R,j,none⟩ (.int .i64 (k:Int))) F5 d5∧w1.heap.size≤(w5.setCell ⟨R,j,none⟩ (.int .i64 (k:Int))).heap.size):=by
    refine⟨⟨?_,by rw[HTK.out.1];exact hm5,?_,?_⟩,by rw[size_setCell];exact Nat.le_trans HSJ.out.2 hsz5⟩
    ·obtain⟨_,_,_,_,_,_,e1⟩:=HDJ.out
     obtain⟨_,_,_,_,_,_,e2⟩:=hd5
     exact⟨_,_,_,_,_,_,by rw[e2,e1]⟩
    ·have hset:=hP5.IE j (k:Int)
     have e:(fun q=>if q=j then (k:Int) else upTo (aZ d.fl (l.take j) d.m).2 q)=upTo (aZ d.fl (l.take (j+1)) d.m).2:=by
      funext q
      rw[HTK.out.2,←Jk,HLJ.out]
     rw[e] at hset
     exact hset
    ·have hst2:=hP5.sep.stays (i:=10) (c:=j4 R l.length (upTo (aZ d.fl (l.take j) d.m).2)) rfl (bW w5 R j (.int .i64 (k:Int)))
     exact(HSJ.out.1.trans hS5 HSJ.out.2).trans hst2 (Nat.le_trans HSJ.out.2 hsz5)
   clear hd5 hm5 hP5 hS5 hsz5 hw5 z0 z1 z2 z3 HCA
   go_wp2
   exact⟨⟨j+1,F5,d5,HJ.out,by rw[N4.out];rfl,HNX.out⟩,by rw[N4.out];have:=HJ.out;simp [intOf];omega⟩
  ·obtain rfl:l.length=j:=by omega
   have HE:Hid (w.heap.size≤wr.heap.size∧∃F',aB wr F' 1 (.slice (some ⟨R,0,none⟩) l.length l.length) l.length (aX (aZ d.fl l d.m).2)∧mW w0 F ex d (aZ d.fl l d.m).1 w wr F' dj):=by
    obtain⟨⟨hdj,hmj,hPj,hSj⟩,hsz⟩:=HR.out
    rw[List.take_of_length_le (Nat.le_refl _)] at hmj hPj
    have hlen:=(qF d.fl l d.m).2.2.2.1
    have hw:=hPj.AO
    have hdn:=hPj.sep.done (i:=10) (c:=j4 R l.length (upTo (aZ d.fl l d.m).2)) rfl
    have hdr:Sep wr w0.heap.size (fun x=>Fj x∨some R=some x) (dj.own w0.heap.size++ex):=Sep.drop (l1:=dj.own w0.heap.size) (c:=EJ) hdn
    have hst:aJ Fj (fun x=>Fj x∨some R=some x) wr wr:=fun b hF _=>⟨.inl hF,rfl⟩
    refine⟨Nat.le_trans HST.out.2 hsz,(fun x=>Fj x∨some R=some x),?_,hdj,hmj,⟨hdr,hPj.aF.keep hst,hPj.below⟩,(HST.out.1.trans hSj HST.out.2).trans hst (Nat.le_trans HST.out.2 hsz)⟩
    refine aB.G7 hw (.inr rfl) ?_ (by unfold aX;rw[List.length_map,lG,hlen];omega) (by have:=HSM.out.2.2.2;unfold maxLen;omega) (Nat.le_refl _)
    unfold aX
    rw[←K6,hlen]
   clear hj hjl HR
   go_wp2
   go_ret
   obtain⟨F',hE1,hE2⟩:=HE.out.2
   exact⟨HE.out.1,R,F',dj,rfl,hE1,hE2⟩
end Go.Proofs.YtmgfakcccfahaaaGreatDoor
