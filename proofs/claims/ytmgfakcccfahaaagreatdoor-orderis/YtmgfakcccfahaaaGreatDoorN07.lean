/-
  package types: values, value BY CONTRACT, of terms without calls.
-/
import Derived.Test.YtmgfakcccfahaaaGreatDoorN06
namespace Go.Proofs.YtmgfakcccfahaaaGreatDoor
open Go.RowKit Go.Maps
set_option maxRecDepth 100000
set_option maxHeartbeats 4000000

def jM(kd:List UInt8→Option Int)(op s:ByteArray)(l:List Ex):Option (Int×List Int):=
 if op.data.toList=bI then (kd s.data.toList).map fun k=>(k,[])
 else
  match aM kd l with
  | none=>none
  | some (ks,ps)=>(aZ op.data.toList ks).map fun k=>(k,ps)
theorem Gh(kd:List UInt8→Option Int)(op:ByteArray)(n:Int)(s:ByteArray)(l:List Ex):bF kd (.mk op n s l)=(jM kd op s l).map fun x=>(x.1,x.2++[x.1]):=by
 unfold bF jM
 by_cases hn:op.data.toList=bI
 ·rw[if_pos hn,if_pos hn]
  cases kd s.data.toList<;>rfl
 ·rw[if_neg hn,if_neg hn]
  cases aM kd l with
  | none=>rfl
  | some x=>simp only;cases aZ op.data.toList x.1<;>rfl
mutual
def aJ:Ex→Nat
 | .mk _ _ _ l=>aC l+1
def aC:List Ex→Nat
 | []=>0
 | e::es=>aJ e+aC es
end
theorem pK:∀(l:List Ex) (i:Nat) (e:Ex),l[i]?=some e→aC (l.take (i+1))=aC (l.take i)+aJ e
 | [],_,_,h=>by simp at h
 | x::l,0,e,h=>by
  obtain rfl:x=e:=by simpa using h
  simp [aC]
 | x::l,i+1,e,h=>by
  have:=pK l i e (by simpa using h)
  simp only[List.take_succ_cons,aC,this]
  omega
theorem uL:∀(l:List Ex) (i:Nat),aC (l.take i)≤aC l
 | [],_=>by simp
 | x::l,0=>by simp [aC]
 | x::l,i+1=>by
  have:=uL l i
  simp only[List.take_succ_cons,aC]
  omega
mutual
theorem AX(kd:List UInt8→Option Int):∀(e:Ex) (k:Int) (ps:List Int),nO kd e→bF kd e=some (k,ps)→ps.length=aJ e
 | .mk op n s l,k,ps,hok,h=>by
  unfold bF at h
  unfold nO at hok
  by_cases hn:op.data.toList=bI
  ·rw[if_pos hn] at h
   rw[if_pos hn] at hok
   obtain⟨_,_,_,⟨_,rfl⟩,_⟩:=hok
   cases hk:kd s.data.toList with
   | none=>rw[hk] at h;cases h
   | some x=>
    rw[hk] at h
    obtain⟨rfl,rfl⟩:x=k∧[x]=ps:=by simpa using h
    simp [aJ,aC]
  ·rw[if_neg hn] at h
   cases hl:aM kd l with
   | none=>rw[hl] at h;cases h
   | some x=>
    rw[hl] at h
    simp only at h
    cases ho:aZ op.data.toList x.1 with
    | none=>rw[ho] at h;cases h
    | some y=>
     rw[ho] at h
     obtain⟨rfl,rfl⟩:y=k∧x.2++[y]=ps:=by simpa using h
     have:=rR kd l x.1 x.2 hok.2.2.2.2 hl
     simp [aJ,this]
theorem rR(kd:List UInt8→Option Int):∀(l:List Ex) (ks ps:List Int),iF kd l→aM kd l=some (ks,ps)→ps.length=aC l
 | [],ks,ps,_,h=>by
  unfold aM at h
  obtain⟨_,rfl⟩:[]=ks∧[]=ps:=by simpa using h
  rfl
 | e::l,ks,ps,hok,h=>by
  unfold aM at h
  unfold iF at hok
  cases he:bF kd e with
  | none=>rw[he] at h;cases h
  | some x=>
   rw[he] at h
   simp only at h
   cases hl:aM kd l with
   | none=>rw[hl] at h;cases h
   | some y=>
    rw[hl] at h
    obtain⟨_,rfl⟩:x.1::y.1=ks∧x.2++y.2=ps:=by simpa using h
    have h1:=AX kd e x.1 x.2 hok.1 he
    have h2:=rR kd l y.1 y.2 hok.2 hl
    simp [aC,h1,h2]
end
theorem yC{kd:List UInt8→Option Int}:∀{l:List Ex} {i:Nat},iF kd l→iF kd (l.take i)
 | [],i,_=>by simp [iF]
 | e::l,0,_=>by simp [iF]
 | e::l,i+1,h=>by
  unfold iF at h
  simp only[List.take_succ_cons]
  unfold iF
  exact⟨h.1,yC h.2⟩
theorem aY.stays{F F':Nat→Prop}{w w':World}(h:aY F F' w w'):aP (fun b=>¬F b) (fun b=>¬F' b) w w':=fun b hb hl=>⟨fun hf=>by
 rcases h.more b hf with h1 | h1
 ·exact hb h1
 ·omega,h.block b hl hb⟩
def Ae(X:Nat→Prop)(cb:Nat)(kd:List UInt8→Option Int)(ps:List Int)(x:Option (Int×List Int))(F:Nat→Prop)(w:World)(e:Ending)(w':World):Prop:=
 (∃k qs F',x=some (k,qs)∧e=.returned (.int .i64 k)∧dN X cb kd (ps++qs) F' w'∧aY F F' w w')∨(x=none∧lK e∧∃F',aY F F' w w')
def Ad(X:Nat→Prop)(cb:Nat)(kd:List UInt8→Option Int)(ps:List Int)(x:Option (Int×List Int))(F:Nat→Prop)(w:World)(e:Ending)(w':World):Prop:=
 (∃k qs F' V,x=some (k,qs)∧e=.returned (.slice (some ⟨V,0,none⟩) 1 1)∧w'.heap[V]?=some (.cells #[.int .i64 k] 3 (0,0))∧¬F' V∧dN X cb kd (ps++qs) F' w'∧aY F F' w w')∨(x=none∧lK e∧∃F',aY F F' w w')
def wL(kd:List UInt8→Option Int)(op:ByteArray)(n:Int)(s:ByteArray)(l:List Ex):Prop:=
 nO kd (.mk op n s l)→∀(X:Nat→Prop) (cb:Nat) (ps:List Int) (F:Nat→Prop) (w:World) (o:Option Addr) (c:Nat) (ys:List Value),dN X cb kd ps F w→ps.length+aJ (.mk op n s l)≤1000000→aB w (fun b=>¬F b) 4 (.slice o l.length c) l.length ys→aI w (fun b=>¬F b) l ys →
  Calls Tryz.prog 173 #[.pointer (some ⟨cb,0,none⟩),.agg #[.string op,.int .i64 n,.string s,.slice o l.length c]] w (Ae X cb kd ps (bF kd (.mk op n s l)) F w)
def EU(kd:List UInt8→Option Int)(op:ByteArray)(n:Int)(s:ByteArray)(l:List Ex):Prop:=
 nO kd (.mk op n s l)→∀(X:Nat→Prop) (cb:Nat) (ps:List Int) (F:Nat→Prop) (w:World) (o:Option Addr) (c:Nat) (ys:List Value),dN X cb kd ps F w→ps.length+aJ (.mk op n s l)≤1000000→aB w (fun b=>¬F b) 4 (.slice o l.length c) l.length ys→aI w (fun b=>¬F b) l ys →
  Calls Tryz.prog 185 #[.pointer (some ⟨cb,0,none⟩),.agg #[.string op,.int .i64 n,.string s,.slice o l.length c]] w (Ad X cb kd ps (jM kd op s l) F w)
theorem FX(kd:List UInt8→Option Int)(op:ByteArray)(n:Int)(s:ByteArray)(l:List Ex)(IH:∀op' n' s' l',SizeOf.sizeOf l'<SizeOf.sizeOf l→wL kd op' n' s' l'):EU kd op n s l:=by
 intro hok X cb ps F w o c ys hck hsz hrow hex
 have hok':=hok
 unfold nO at hok
 obtain⟨hso,hss,hnc,hsig,hol⟩:=hok
 have hb1:Bw w (w.alloc (.cells #[.string op,.int .i64 n,.string s,.slice o l.length c] 92)):=aH
 obtain⟨w1,hw1⟩:∃w1,w1=w.alloc (.cells #[.string op,.int .i64 n,.string s,.slice o l.length c] 92):=⟨_,rfl⟩
 have hr1:w1.heap[w.heap.size]?=some (.cells #[.string op,.int .i64 n,.string s,.slice o l.length c] 92 (0,0)):=by rw[hw1];exact heap_alloc_new _ _
 rw[←hw1] at hb1
 have c0:w1.cell? ⟨w.heap.size,0,none⟩=some (.string op):=cr hr1 rfl
 have c1:w1.cell? ⟨w.heap.size,0+1,none⟩=some (.int .i64 n):=cr hr1 rfl
 have c2:w1.cell? ⟨w.heap.size,0+2,none⟩=some (.string s):=cr hr1 rfl
 have c3:w1.cell? ⟨w.heap.size,0+3,none⟩=some (.slice o l.length c):=cr hr1 rfl
 have HW1:Hid (w.alloc (.cells #[.string op,.int .i64 n,.string s,.slice o l.length c] 92)=w1):=hw1.symm
 have HR1:=aA hr1
 have HB1:=aA hb1
 have HCK1:Hid (dN X cb kd ps F w1):=hck.below hb1
 have HF:Hid (∀k,F k→k<w.heap.size):=hck.lt
 have HLB:Hid (∀k,X k→k<w.heap.size):=hck.base
 by_cases hn:op.data.toList=bI
 ·rw[if_pos hn] at hsig
  obtain⟨⟨k,hk⟩,rfl⟩:=hsig
  have hV:jM kd op s []=some (k,[]):=by unfold jM;rw[if_pos hn,hk];rfl
  have HNM:Hid (Calls Tryz.prog 187 #[.pointer (some ⟨cb,0,none⟩),.string s] w1 fun e w'=>e=.returned (.int .i64 k)∧w'=w1):=Ll HCK1.out s hss k hk
  have dn:(op.toList==[110,97,109,101])=true:=by rw[ByteArray.toList_eq,hn];rfl
  have HV:=aA hV
  have HL0:Hid (w.alloc (.cells #[.string op,.int .i64 n,.string s,.slice o 0 c] 92)=w1):=HW1.out
  clear hck hsz hrow hex hok' hso hss hnc hol hb1 hw1 hr1 hn hk hV IH c0 c1 c2 c3
  go_enter Tryz.func185,Tryz.ntmps185
  go_wp2_with fail
  rw[HL0.out]
  refine HNM.out.mono ?_
  rintro e w2 ⟨rfl,rfl⟩
  go_wp2
  go_ret
  have hb2:Bw w2 (w2.alloc (.cells #[.int .i64 k] 3)):=aH
  refine .inl ⟨k,[],F,w2.heap.size,HV.out,rfl,heap_alloc_new _ _,fun hf=>?_,by rw[List.append_nil];exact HCK1.out.below hb2,aY.of_below (HB1.out.trans (hb2.mono HB1.out.size))⟩
  have:=HF.out _ hf
  have:=HB1.out.size
  omega
 ·rw[if_neg hn] at hsig
  obtain⟨tk,gv,hsr,hll⟩:=hsig
  have dn:(op.toList==[110,97,109,101])=false:=by rw[ByteArray.toList_eq];exact beq_eq_false_iff_ne.2 hn
  obtain⟨i0,hi0,hz0,hz1,hz2⟩:=info_parts Tryz.lH
  have HSG:Hid (Calls Tryz.prog 188 #[.pointer (some ⟨cb,0,none⟩),.agg #[.string op,.int .i64 n,.string s,.slice o l.length c]] w1 fun e w'=>Bw w1 w'∧∃o1 c1 o2 c2,e=.returned (.agg #[.slice o1 tk.length c1,.slice o2 gv.length c2])∧(∀W:World,(∀k,X k→¬F k→W.heap[k]?=w1.heap[k]?)→dI W (.slice o1 tk.length c1) tk∧dI W (.slice o2 gv.length c2) gv)∧tk.length≤10∧gv.length=1):=NR HCK1.out op s n _ hso hnc tk gv hsr
  have HLL:=aA hll
  have HSZ:=aA hsz
  have HOL:=aA hol
  have HROW:=aA hrow
  have HEX:=aA hex
  have HN:=aA hn
  have HSR:=aA hsr
  have HIH:Hid (∀op' n' s' l',SizeOf.sizeOf l'<SizeOf.sizeOf l→wL kd op' n' s' l'):=IH
  clear hck hsz hrow hex hok' hso hss hnc hol hb1 hw1 hr1 hn hsr hll IH c0 c1 c2 c3
  go_enter Tryz.func185,Tryz.ntmps185
  go_wp2_with fail
  rw[HW1.out]
  refine HSG.out.mono ?_
  rintro e w2 ⟨hb2,o1,k1,o2,k2,rfl,i1,l1,l2⟩
  obtain⟨w3,hw3⟩:∃w3,w3=w2.alloc (.cells #[.slice o1 tk.length k1,.slice o2 gv.length k2] 206):=⟨_,rfl⟩
  have hb3:Bw w2 w3:=by rw[hw3];exact aH
  have hr3:w3.heap[w2.heap.size]?=some (.cells #[.slice o1 tk.length k1,.slice o2 gv.length k2] 206 (0,0)):=by rw[hw3];exact heap_alloc_new _ _
  have hb13:Bw w1 w3:=hb2.trans (hb3.mono hb2.size)
  have HB13:=aA hb13
  have HR3:=aA hr3
  have HE3:Hid (w3.heap[w.heap.size]?=some (.cells #[.string op,.int .i64 n,.string s,.slice o l.length c] 92 (0,0))):=aG hb13 HR1.out
  have HII:Hid (∀W:World,(∀k,X k→¬F k→W.heap[k]?=w1.heap[k]?)→dI W (.slice o1 tk.length k1) tk∧dI W (.slice o2 gv.length k2) gv):=i1
  have HLN:Hid (tk.length≤10∧gv.length=1):=⟨l1,l2⟩
  have HW3:Hid (w2.alloc (.cells #[.slice o1 tk.length k1,.slice o2 gv.length k2] 206)=w3):=hw3.symm
  have c3:w3.cell? ⟨w.heap.size,0+3,none⟩=some (.slice o l.length c):=cr HE3.out rfl
  have HBY:Hid (i0.bytes*l.length≤281474976710656):=by have:=HLL.out;unfold Hid;rw[hz2];omega
  have HMX:Hid (l.length≤maxLen):=by have:=HLL.out;unfold Hid maxLen;omega
  have HCK3:Hid (dN X cb kd ps F w3):=HCK1.out.below hb13
  have HS3:Hid (w.heap.size<w3.heap.size∧w2.heap.size<w3.heap.size):=⟨(bE HE3.out).1,(bE HR3.out).1⟩
  have HS12:Hid (w.heap.size≤w1.heap.size∧w1.heap.size≤w2.heap.size):=⟨HB1.out.size,hb2.size⟩
  clear hb2 i1 l1 l2 hw3 hb3 hr3 hb13
  go_upto_region 4 with fail
  rw[HW3.out]
  go_wp2_with (at_make;refine wpList_make_full _ rfl _ _ 30 rfl 0 3 i0 _ 1 Tryz.underlying30 hi0 hz0 hz1 .i64 .i64 _ _ l.length rfl rfl (by simp) (by simp) HBY.out HMX.out (Nat.zero_le _) ?_;intro w4 hown4 hgr4;have HV4:Hid (w4.heap[w3.heap.size]?=some (.cells (iL (rowP [] l.length)) 3 (0,0))):=Cv hown4;have HB4:Hid (Bw w3 w4):=⟨hgr4.os,hgr4.tape,hgr4.output,hgr4.size,fun k hk=>hgr4.block k hk (by simp)⟩;have c4:=aF HB4.out c3;clear hown4 hgr4)
  have HM3:Hid (aY F F w w3):=aY.of_below (HB1.out.trans (HB13.out.mono HB1.out.size))
  have HF4:Hid (¬F w3.heap.size∧¬F w2.heap.size∧¬F w.heap.size):=⟨fun hf=>by have:=HF.out _ hf;have:=HS3.out;omega,fun hf=>by have:=HF.out _ hf;have:=HS12.out;omega,fun hf=>by have:=HF.out _ hf;omega⟩
  clear c3 c4
  go_loopw [27] (fun t wr=>∃(j:Nat) (Fj:Nat→Prop) (ks qs:List Int),j≤l.length∧t=.int .i64 j∧Hid (aM kd (l.take j)=some (ks,qs)∧dN X cb kd (ps++qs) Fj wr∧aY F Fj w3 wr∧wr.heap[w3.heap.size]?=some (.cells (iL (rowP ks l.length)) 3 (0,0))∧¬Fj w3.heap.size)) (fun t _=>l.length-(intOf t).toNat)
  case atStart=>exact⟨0,F,[],[],Nat.zero_le _,rfl,⟨by simp [aM],by rw[List.append_nil];exact HCK3.out.below HB4.out,aY.of_below HB4.out,HV4.out,HF4.out.1⟩⟩
  case round=>
   obtain⟨j,Fj,ks,qs,hj,rfl,HJR⟩:=hrel
   have HMJ:Hid (aY F Fj w wr):=HM3.out.trans HJR.out.2.2.1
   have HFJ:Hid (¬Fj w3.heap.size∧¬Fj w2.heap.size∧¬Fj w.heap.size):=by
    have h3:=HS3.out
    have key:∀k,k<w3.heap.size→¬F k→¬Fj k:=fun k hk hn hf=>by
     rcases HJR.out.2.2.1.more k hf with h1 | h1
     ·exact hn h1
     ·omega
    exact⟨HJR.out.2.2.2.2,key _ h3.2 HF4.out.2.1,key _ h3.1 HF4.out.2.2⟩
   by_cases hjl:j<l.length
   ·obtain⟨op',n',s',es,oo,cc,zs,e,x0,x1,x2,x3,r1,r2⟩:=HEX.out.at hjl
    obtain⟨p,f,cp,ev,hpF,_,g⟩:=HROW.out.at (by have:=HROW.out.1;omega)
    obtain⟨rfl,rfl⟩:o=some ⟨p,f,none⟩∧c=cp:=by simpa using ev
    have y0:=(HMJ.out.cell (g _ _ x0) hpF).1
    have y1:=(HMJ.out.cell (g _ _ x1) hpF).1
    have y2:=(HMJ.out.cell (g _ _ x2) hpF).1
    have y3:=(HMJ.out.cell (g _ _ x3) hpF).1
    rw[←Nat.add_assoc] at y1 y2 y3
    have i0':(0:Int)≤(j:Int):=by omega
    have i1':(j:Int)<(l.length:Int):=by omega
    have ej:l[j]?=some (.mk op' n' s' es):=by rw[List.getElem?_eq_getElem hjl,e]
    have hb5:Bw wr (wr.alloc (.cells #[.string op',.int .i64 n',.string s',.slice oo es.length cc] 92)):=aH
    obtain⟨w5,hw5⟩:∃w5,w5=wr.alloc (.cells #[.string op',.int .i64 n',.string s',.slice oo es.length cc] 92):=⟨_,rfl⟩
    rw[←hw5] at hb5
    have hm5:aY F Fj w w5:=HMJ.out.trans (aY.of_below hb5)
    have hs1:=rR kd (l.take j) ks qs (yC HOL.out) HJR.out.1
    have hs2:=pK l j _ ej
    have hs3:=uL l (j+1)
    have hIH:=HIH.out op' n' s' es (kC hjl e) (yD HOL.out ej) X cb (ps++qs) Fj w5 oo cc zs (HJR.out.2.1.below hb5) (by have:=HSZ.out;simp only[aJ] at this hs2 ⊢;rw[List.length_append];omega) (r1.keep hm5.stays) (r2.keep hm5.stays)
    have HIH5:=aA hIH
    have HW5:Hid (wr.alloc (.cells #[.string op',.int .i64 n',.string s',.slice oo es.length cc] 92)=w5):=hw5.symm
    have HB5:=aA hb5
    have HTK:=xC ej HJR.out.1
    have HTL:Hid (aM kd (l.take (j+1))=(bF kd (.mk op' n' s' es)).map fun x=>(ks++[x.1],qs++x.2)):=HTK
    have HKL:Hid (ks.length=j):=by have:=pG HJR.out.1;unfold Hid;rw[this,List.length_take];omega
    have HJ:=aA hjl
    have N4:Hid (wrap64 ((j:Int)+1)=(j:Int)+1):=by have:=HLL.out;have:=HLN.out.1;unfold Hid wrap64;omega
    clear x0 x1 x2 x3 r1 r2 g ev e ej hb5 hw5 hm5 hs1 hs2 hs3 hIH HTK hj hjl hpF
    go_wp2_with fail
    rw[HW5.out]
    refine HIH5.out.mono ?_
    rintro e w6 (⟨k,rs,F6,hty,rfl,hck6,hm6⟩ | ⟨hty,hth,F6,hm6⟩)
    ·have hV5:w5.heap[w3.heap.size]?=some (.cells (iL (rowP ks l.length)) 3 (0,0)):=aG HB5.out HJR.out.2.2.2.1
     obtain⟨hV6,hF6⟩:=hm6.jU hV5 HFJ.out.1
     have hkl:=HKL.out
     have q0:w6.cell? ⟨w3.heap.size,j,none⟩=some (.int .i64 0):=by have h:=Bu hV6 (by have:=HJ.out;omega);rw[hkl] at h;exact h
     have qf:w6.frozen? ⟨w3.heap.size,j,none⟩=false:=dW hV6
     have hst:=Bt hV6 (by have:=HJ.out;omega) k
     rw[hkl] at hst
     have HST:Hid ((w6.setCell ⟨w3.heap.size,j,none⟩ (.int .i64 k)).heap[w3.heap.size]?=some (.cells (iL (rowP (ks++[k]) l.length)) 3 (0,0))):=hst
     have HCK6:Hid (dN X cb kd (ps++qs++rs) F6 (w6.setCell ⟨w3.heap.size,j,none⟩ (.int .i64 k))):=hck6.set hF6 (fun hx=>by have:=HLB.out _ hx;have:=HS3.out;omega) _
     have HM6:Hid (aY F F6 w3 (w6.setCell ⟨w3.heap.size,j,none⟩ (.int .i64 k))∧¬F6 w3.heap.size):=⟨((HJR.out.2.2.1.trans (aY.of_below HB5.out)).trans hm6).set (Nat.le_refl _) _,hF6⟩
     have HTY:=aA hty
     clear hV5 hV6 hF6 hkl hst hck6 hm6 hty y0 y1 y2 y3
     go_wp2
     refine⟨⟨j+1,F6,ks++[k],qs++rs,HJ.out,by rw[N4.out];rfl,⟨?_,by rw[←List.append_assoc];exact HCK6.out,HM6.out.1,HST.out,HM6.out.2⟩⟩,by rw[N4.out];have:=HJ.out;simp [intOf];omega⟩
     rw[HTL.out,HTY.out]
     rfl
    ·unfold lK at hth
     subst hth
     have HN0:Hid (jM kd op s l=none):=by
      have h:=HTL.out
      rw[hty] at h
      unfold Hid jM
      rw[if_neg HN.out,xD h]
     have HM6:Hid (aY F F6 w w6):=(HMJ.out.trans (aY.of_below HB5.out)).trans hm6
     exact⟨rfl,.inr ⟨HN0.out,rfl,F6,HM6.out⟩⟩
   ·obtain rfl:j=l.length:=by omega
    obtain⟨hty,hckj,hmj,hrv,hfv⟩:=HJR.out
    rw[List.take_length] at hty
    have hkl:ks.length=l.length:=pG hty
    have hII:=HII.out wr (fun k hk hn=>by
     have h1:=HLB.out k hk
     have h2:=HS12.out
     have h3:=HB13.out.size
     rw[hmj.block k (by omega) hn]
     exact HB13.out.block k (by omega))
    have hr2:wr.heap[w2.heap.size]?=some (.cells #[.slice o1 tk.length k1,.slice o2 gv.length k2] 206 (0,0)):=(hmj.jU HR3.out HF4.out.2.1).1
    have d0:wr.cell? ⟨w2.heap.size,0,none⟩=some (.slice o1 tk.length k1):=cr hr2 rfl
    have d1:wr.cell? ⟨w2.heap.size,0+1,none⟩=some (.slice o2 gv.length k2):=cr hr2 rfl
    rw[Bv hkl] at hrv
    have hap:=OT wr o1 o2 (some ⟨w3.heap.size,0,none⟩) k1 k2 l.length tk gv ks hII.1 hII.2 (by have h:=bO (c:=l.length) hrv (by rw[hkl];exact HMX.out);rw[hkl,HLL.out] at h;rw[HLL.out];exact h) (by rw[hkl,HLL.out]) HLN.out.1 (by rw[HLN.out.2];omega)
    rw[←HLL.out] at hap d0
    have HAP:=aA hap
    have HOK:Hid (aZ op.data.toList ks=(fT tk ks 0).map fun f=>(jG gv f).headD 0):=by unfold Hid aZ;rw[HSR.out]
    have HTV:Hid (jM kd op s l=(aZ op.data.toList ks).map fun k=>(k,qs)):=by unfold Hid jM;rw[if_neg HN.out,hty]
    have HCJ:=aA hckj
    clear hty hckj hmj hrv hfv hkl hII hr2 hap hj hjl
    go_wp2_with fail
    refine HAP.out.mono ?_
    rintro e w6 ⟨hb6,⟨f,V,hf,rfl,hV,hVn⟩ | ⟨hf,hth⟩⟩
    ·obtain⟨g0,hg0⟩:∃g0,jG gv f=[g0]:=by
      have hl1:(jG gv f).length=1:=by unfold jG;rw[List.length_map];exact HLN.out.2
      match hgg:jG gv f,hl1 with
      | [x],_=>exact⟨x,rfl⟩
     have hres:jM kd op s l=some (g0,qs):=by rw[HTV.out,HOK.out,hf,Option.map_some,hg0];rfl
     rw[hg0] at hV
     rw[HLN.out.2]
     have HEND:Hid (Ad X cb kd ps (jM kd op s l) F w (.returned (.slice (some ⟨V,0,none⟩) 1 1)) w6):=.inl ⟨g0,qs,Fj,V,hres,rfl,hV,fun hfv=>by have:=HCJ.out.lt V hfv;omega,HCJ.out.below hb6,HMJ.out.trans (aY.of_below hb6)⟩
     clear hb6 hf hV hVn hg0 hres d0 d1
     go_wp2
     go_ret
     exact HEND.out
    ·unfold lK at hth
     subst hth
     have hres:jM kd op s l=none:=by rw[HTV.out,HOK.out,hf];rfl
     exact⟨rfl,.inr ⟨hres,rfl,Fj,HMJ.out.trans (aY.of_below hb6)⟩⟩
end Go.Proofs.YtmgfakcccfahaaaGreatDoor
