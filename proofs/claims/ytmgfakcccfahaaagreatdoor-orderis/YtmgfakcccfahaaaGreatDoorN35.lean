/-
  lustrumref1: kindIn, Index, Has, Parts, partsOf BY CONTRACT.
-/
import Derived.Test.YtmgfakcccfahaaaGreatDoorN34
set_option maxRecDepth 100000
set_option maxHeartbeats 4000000
namespace Go.Proofs.YtmgfakcccfahaaaGreatDoor
open Go.RowKit

def bL:List (ByteArray×Int)→List UInt8→Int
 | [],_=>0
 | v::l,s=>if v.1.data.toList=s then v.2 else bL l s
theorem Da:∀{l:List (ByteArray×Int)} {s:List UInt8} {i:Nat} {v:ByteArray×Int},l[i]?=some v→v.1.data.toList=s→(∀(j:Nat) (u:ByteArray×Int),j<i→l[j]?=some u→u.1.data.toList≠s)→bL l s=v.2
 | [],s,i,v,h,_,_=>by simp at h
 | x::l,s,0,v,h,hv,_=>by
  obtain rfl:x=v:=by simpa using h
  unfold bL
  rw[if_pos hv]
 | x::l,s,i+1,v,h,hv,hb=>by
  unfold bL
  rw[if_neg (hb 0 x (Nat.succ_pos i) rfl)]
  exact Da (by simpa using h) hv fun j u hj hu=>hb (j+1) u (by omega) (by simpa using hu)
theorem C9:∀{l:List (ByteArray×Int)} {s:List UInt8},(∀(j:Nat) (u:ByteArray×Int),l[j]?=some u→u.1.data.toList≠s)→bL l s=0
 | [],s,_=>rfl
 | x::l,s,hb=>by
  unfold bL
  rw[if_neg (hb 0 x rfl)]
  exact C9 fun j u hu=>hb (j+1) u (by simpa using hu)
theorem sN(w:World)(S:Nat→Prop)(l:List (ByteArray×Int))(o:Option Addr)(n c:Nat)(s:ByteArray)(hn:n=l.length)(h:aB w S 2 (.slice o n c) n (bB l))(hl:n≤2097152) :
  Calls Tryz.prog 85 #[.slice o n c,.string s] w fun e w'=>e=.returned (.int .i64 (bL l s.data.toList))∧w'=w:=by
 have HI:=aA h
 have HL:Hid (n≤2097152∧n=l.length):=⟨hl,hn⟩
 clear h hl hn
 go_enter Tryz.func85,Tryz.ntmps85
 go_wp2
 go_loopw [5] (fun t wr=>∃(j:Nat),j≤n∧t=.int .i64 j∧wr=w∧Hid (∀(i:Nat) (x:ByteArray×Int),i<j→l[i]?=some x→x.1.data.toList≠s.data.toList)) (fun t _=>n-(intOf t).toNat)
 case atStart=>exact⟨0,Nat.zero_le _,rfl,rfl,fun i x hi=>by omega⟩
 case round=>
  obtain⟨j,hj,rfl,rfl,HJ⟩:=hrel
  by_cases hjl:j<n
  ·obtain⟨x,hx⟩:∃x,l[j]?=some x:=⟨_,List.getElem?_eq_getElem (by have:=HL.out.2;omega)⟩
   obtain⟨b,off,cp,ev,_,_,g⟩:=HI.out.at (by rw[rP];have:=HL.out.2;omega)
   obtain⟨rfl,rfl⟩:o=some ⟨b,off,none⟩∧c=cp:=by simpa using ev
   have hxc:=rQ hx
   have y0:=g _ _ hxc.1
   have y1:=g _ _ hxc.2
   rw[←Nat.add_assoc] at y1
   have i0':(0:Int)≤(j:Int):=by omega
   have i1':(j:Int)<(n:Int):=by omega
   have HX:Hid (l[j]?=some x∧j<n):=⟨hx,hjl⟩
   have N4:Hid (wrap64 ((j:Int)+1)=(j:Int)+1):=by have:=HL.out.1;unfold Hid wrap64;omega
   clear ev g hx hj hjl hxc
   by_cases he:x.1.data.toList=s.data.toList
   ·have HE:Hid (bL l s.data.toList=x.2):=Da HX.out.1 he HJ.out
    have hd:(x.1.toList==s.toList)=true:=by rw[ByteArray.toList_eq,ByteArray.toList_eq,he];simp
    clear he
    go_wp2
    go_ret
    exact⟨by rw[HE.out];rfl,rfl⟩
   ·have hd:(x.1.toList==s.toList)=false:=by rw[ByteArray.toList_eq,ByteArray.toList_eq];simpa using he
    have HN:Hid (∀(i:Nat) (y:ByteArray×Int),i<j+1→l[i]?=some y→y.1.data.toList≠s.data.toList):=fun i y hi hy=>by
     by_cases e:i=j
     ·subst e
      rw[HX.out.1] at hy
      rw[←Option.some.inj hy]
      exact he
     ·exact HJ.out i y (by omega) hy
    clear he
    go_wp2
    exact⟨⟨j+1,HX.out.2,by rw[N4.out];rfl,trivial,HN.out⟩,by rw[N4.out];have:=HX.out.2;simp [intOf];omega⟩
  ·obtain rfl:j=n:=by omega
   have HE:Hid (bL l s.data.toList=0):=C9 fun i x hi=>HJ.out i x (by have:=(aX hi).1;have:=HL.out.2;omega) hi
   clear hj hjl HJ
   go_wp2
   go_ret
   exact⟨by rw[HE.out];rfl,rfl⟩
theorem Fz(w:World)(S:Nat→Prop)(l:List Ex)(o:Option Addr)(n c:Nat)(s:ByteArray)(hn:n=l.length)(h:aB w S 1 (.slice o n c) n (gU l))(hl:n≤2097152) :
  Calls Tryz.prog 97 #[.slice o n c,.string s] w fun e w'=>∃k:Int,e=.returned (.int .i64 k)∧decide (0≤k)=eH l s∧w'=w:=by
 have HI:=aA h
 have HL:Hid (n≤2097152∧n=l.length):=⟨hl,hn⟩
 clear h hl hn
 go_enter Tryz.func97,Tryz.ntmps97
 go_wp2
 go_loopw [5] (fun t wr=>∃(j:Nat),j≤n∧t=.int .i64 j∧wr=w∧Hid (∀(i:Nat) (x:Ex),i<j→l[i]?=some x→(s.toList==x.op.toList)=false)) (fun t _=>n-(intOf t).toNat)
 case atStart=>exact⟨0,Nat.zero_le _,rfl,rfl,fun i x hi=>by omega⟩
 case round=>
  obtain⟨j,hj,rfl,rfl,HJ⟩:=hrel
  by_cases hjl:j<n
  ·have hjt:j<l.length:=by have:=HL.out.2;omega
   obtain⟨x,hx⟩:∃x,l[j]?=some x:=⟨_,List.getElem?_eq_getElem hjt⟩
   obtain⟨b,off,cp,ev,_,_,g⟩:=HI.out.at (by rw[vC];omega)
   obtain⟨rfl,rfl⟩:o=some ⟨b,off,none⟩∧c=cp:=by simpa using ev
   have y0:=g j (.string x.op) (by rw[vD hjt];rw[List.getElem?_eq_getElem hjt] at hx;rw[Option.some.inj hx])
   have i0':(0:Int)≤(j:Int):=by omega
   have i1':(j:Int)<(n:Int):=by omega
   have HX:Hid (l[j]?=some x∧j<n):=⟨hx,hjl⟩
   have N4:Hid (wrap64 ((j:Int)+1)=(j:Int)+1):=by have:=HL.out.1;unfold Hid wrap64;omega
   clear ev g hx hj hjl hjt
   by_cases he:(s.toList==x.op.toList)=true
   ·have HE:Hid (eH l s=true):=Dy HX.out.1 he
    have hd:(x.op.toList==s.toList)=true:=by rw[beq_iff_eq] at he ⊢;exact he.symm
    clear he
    go_wp2
    go_ret
    exact⟨(j:Int),rfl,by rw[HE.out];simp,rfl⟩
   ·have he':(s.toList==x.op.toList)=false:=by simpa using he
    have hd:(x.op.toList==s.toList)=false:=by rw[beq_eq_false_iff_ne] at he' ⊢;exact fun e=>he' e.symm
    have HN:Hid (∀(i:Nat) (x:Ex),i<j+1→l[i]?=some x→(s.toList==x.op.toList)=false):=fun i y hi hy=>by
     by_cases e:i=j
     ·subst e
      rw[HX.out.1] at hy
      rw[←Option.some.inj hy]
      exact he'
     ·exact HJ.out i y (by omega) hy
    clear he he'
    go_wp2
    exact⟨⟨j+1,HX.out.2,by rw[N4.out];rfl,trivial,HN.out⟩,by rw[N4.out];have:=HX.out.2;simp [intOf];omega⟩
  ·obtain rfl:j=n:=by omega
   have HE:Hid (eH l s=false):=Dz fun i x hi=>HJ.out i x (by have:=(aX hi).1;have:=HL.out.2;omega) hi
   clear hj hjl HJ
   go_wp2
   go_ret
   exact⟨-1,rfl,by rw[HE.out];rfl,rfl⟩
theorem Ak(w:World)(S:Nat→Prop)(l:List Ex)(o:Option Addr)(n c:Nat)(s:ByteArray)(hn:n=l.length)(h:aB w S 1 (.slice o n c) n (gU l))(hl:n≤2097152) :
  Calls Tryz.prog 50 #[.slice o n c,.string s] w fun e w'=>e=.returned (.bool (eH l s))∧w'=w:=by
 have HC:Hid (Calls Tryz.prog 97 #[.slice o n c,.string s] w fun e w'=>∃k:Int,e=.returned (.int .i64 k)∧decide (0≤k)=eH l s∧w'=w):=Fz w S l o n c s hn h hl
 clear h hl hn
 go_enter Tryz.func50,Tryz.ntmps50
 go_wp2_with (first | (go_at_call 97;refine HC.out.mono ?_) | fail)
 rintro e w' ⟨k,rfl,hk,hw⟩
 subst hw
 have HK:=aA hk
 clear hk HC
 go_wp2
 go_ret
 exact⟨by rw[←HK.out];rfl,rfl⟩
theorem uJ:∀(l:List Ex) (i:Nat),aC (l.take i)≤aC l
 | [],i=>by simp
 | e::l,0=>by simp [aC]
 | e::l,i+1=>by simp only[List.take_succ_cons,aC];have:=uJ l i;omega
abbrev EZ(op:ByteArray)(n:Int)(s:ByteArray)(l:List Ex):Prop:=∀(w:World) (S:Nat→Prop) (o:Option Addr) (c:Nat) (ys:List Value),aB w S 4 (.slice o l.length c) l.length ys→aI w S l ys →
  Calls Tryz.prog 134 #[.agg #[.string op,.int .i64 n,.string s,.slice o l.length c]] w (oC ((aJ (.mk op n s l):Nat):Int) w)
theorem BL:∀(m:Nat) (op:ByteArray) (n:Int) (s:ByteArray) (l:List Ex),SizeOf.sizeOf l<m→aJ (.mk op n s l)≤2097152→EZ op n s l
 | 0=>fun _ _ _ _ h=>absurd h (Nat.not_lt_zero _)
 | m+1=>by
  intro op n s l hm hw
  have hwt:1+aC l≤2097152:=by unfold aJ at hw;omega
  have hval:∀i (hi:i<l.length) (op:ByteArray) (n:Int) (s:ByteArray) (es:List Ex),l[i]=.mk op n s es→EZ op n s es:=fun i hi op n s es e=>by
   have hsp:=kC hi e
   have h1:=pK l i _ (mP hi)
   have h2:=uJ l (i+1)
   rw[e] at h1
   exact BL m op n s es (by omega) (by omega)
  intro w S o c ys h1 h2
  have HV:=aA hval
  have hl:=h1.len
  unfold maxLen at hl
  have H1:=aA h1
  have H2:=aA h2
  have HWT:=aA hwt
  have HE:Hid (aJ (.mk op n s l)=1+aC l):=by unfold Hid;rw[aJ,Nat.add_comm]
  clear h1 h2 hval hwt hw
  have hbA:Bw w (w.alloc (qK op n s (.slice o l.length c))):=aH
  have HA:Hid _:=heap_alloc_new w (qK op n s (.slice o l.length c))
  go_enter Tryz.func134,Tryz.ntmps134
  go_wp2
  go_loopw [3,4] (fun v t wr=>∃(i:Nat),i≤l.length∧t=.int .i64 i∧v=.int .i64 ((1+aC (l.take i):Nat):Int)∧Bw w wr∧Hid (wr.heap[w.heap.size]?=some (qK op n s (.slice o l.length c)))) (fun _ t _=>l.length-(intOf t).toNat)
  case atStart=>exact⟨0,Nat.zero_le _,rfl,by simp [aC],hbA,HA⟩
  case round=>
   obtain⟨i,hi,rfl,rfl,hb,HR⟩:=hrel
   obtain⟨a0,a1,a2,a3,_⟩:=gL HR.out
   by_cases hlt:i<l.length
   ·obtain⟨op',n',s',es,oo,cc,zs,e,x0,x1,x2,x3,r1,r2⟩:=H2.out.at hlt
    obtain⟨p,f,rfl,_,g⟩:=kZ H1.out (by have:=H1.out.1;omega)
    have x0:=aF hb (g _ _ x0)
    have x1:=aF hb (g _ _ x1)
    have x2:=aF hb (g _ _ x2)
    have x3:=aF hb (g _ _ x3)
    rw[←Nat.add_assoc] at x1 x2 x3
    have i0':(0:Int)≤(i:Int):=by omega
    have i1:(i:Int)<(l.length:Int):=by omega
    obtain⟨k,hk⟩:∃k,k=aJ (.mk op' n' s' es):=⟨_,rfl⟩
    obtain⟨a,haa⟩:∃a,a=1+aC (l.take i):=⟨_,rfl⟩
    have Hr:Hid (Calls Tryz.prog 134 #[.agg #[.string op',.int .i64 n',.string s',.slice oo es.length cc]] wr (oC ((k:Nat):Int) wr)):=by
     rw[hk]
     exact HV.out i hlt op' n' s' es e wr S oo cc zs (r1.keep (aP.below hb (fun k hk=>hk))) (r2.keep (aP.below hb (fun k hk=>hk)))
    have HAC:Hid (wrap64 ((a:Int)+(k:Int))=((1+aC (l.take (i+1)):Nat):Int)):=by
     have q1:=pK l i _ (mP hlt)
     have q2:=uJ l (i+1)
     have q3:=HWT.out
     rw[e,←hk] at q1
     unfold Hid wrap64
     omega
    rw[←haa]
    clear g e r1 r2 hk haa
    go_wp2_with fail
    refine Hr.out.mono ?_
    rintro e w4 ⟨rfl,hb4⟩
    have HR4:Hid _:=aG hb4 HR.out
    go_wp2
    exact⟨⟨i+1,by omega,by go_num,by rw[HAC.out],hb.trans (hb4.mono hb.size),HR4⟩,by simp [intOf];omega⟩
   ·obtain rfl:i=l.length:=by omega
    rw[List.take_length]
    have HEE:Hid (aJ (.mk op n s l)=1+aC l):=HE.out
    go_wp2
    go_ret
    exact⟨by rw[HEE.out];rfl,hb⟩
theorem JW(w:World)(S:Nat→Prop)(p:Pg)(o1 o2 o3 o4 o5:Option Addr)(c1 c2 c3 c4 c5:Nat)(h:fE w S p (.slice o1 p.ins.length c1) (.slice o2 p.outs.length c2) (.slice o3 p.fs.length c3) (.slice o4 p.asserts.length c4) (.slice o5 p.checks.length c5))(hs:(aD p).length≤2097152)(hw:aC (aD p)≤2097152) :
  Calls Tryz.prog 87 #[.agg #[.slice o1 p.ins.length c1,.slice o2 p.outs.length c2,.slice o3 p.fs.length c3,.slice o4 p.asserts.length c4,.slice o5 p.checks.length c5]] w (oC ((aC (aD p):Nat):Int) w):=by
 obtain⟨N,hN⟩:∃N,N=(aD p).length:=⟨_,rfl⟩
 obtain⟨w1,hw1⟩:∃w1,w1=w.alloc (.cells #[.slice o1 p.ins.length c1,.slice o2 p.outs.length c2,.slice o3 p.fs.length c3,.slice o4 p.asserts.length c4,.slice o5 p.checks.length c5] 27):=⟨_,rfl⟩
 obtain⟨B,hB⟩:∃B,B=w.heap.size:=⟨_,rfl⟩
 have hb1:Bw w w1:=by rw[hw1];exact aH
 have hr1:w1.heap[B]?=some (.cells #[.slice o1 p.ins.length c1,.slice o2 p.outs.length c2,.slice o3 p.fs.length c3,.slice o4 p.asserts.length c4,.slice o5 p.checks.length c5] 27 (0,0)):=by rw[hw1,hB];exact heap_alloc_new _ _
 have HC:Hid (w1.cell? ⟨B,0,none⟩=some (.slice o1 p.ins.length c1)∧w1.cell? ⟨B,0+1,none⟩=some (.slice o2 p.outs.length c2)∧w1.cell? ⟨B,0+2,none⟩=some (.slice o3 p.fs.length c3)∧w1.cell? ⟨B,0+3,none⟩=some (.slice o4 p.asserts.length c4)∧w1.cell? ⟨B,0+4,none⟩=some (.slice o5 p.checks.length c5)):=by
  refine⟨?_,?_,?_,?_,?_⟩<;>(rw[cell_of_row w1 _ _ _ _ (0,0) hr1];rfl)
 have HTM:Hid (Calls Tryz.prog 32 #[.agg #[.slice o1 p.ins.length c1,.slice o2 p.outs.length c2,.slice o3 p.fs.length c3,.slice o4 p.asserts.length c4,.slice o5 p.checks.length c5]] w1 fun e w'=>∃so sc xs,e=.returned (.slice so N sc)∧aB w' (fun _=>True) 4 (.slice so N sc) N xs∧aI w' (fun _=>True) (aD p) xs∧Bw w1 w'):=by
  rw[hN]
  exact xG w1 (fun _=>True) p o1 o2 o3 o4 o5 c1 c2 c3 c4 c5 (h.keep (fun b _ hl=>⟨trivial,hb1.block b hl⟩)) hs
 have HB:Hid (Bw w w1∧N=(aD p).length∧N≤2097152∧aC (aD p)≤2097152):=⟨hb1,hN,by omega,hw⟩
 have HW1:Hid (w.alloc (.cells #[.slice o1 p.ins.length c1,.slice o2 p.outs.length c2,.slice o3 p.fs.length c3,.slice o4 p.asserts.length c4,.slice o5 p.checks.length c5] 27)=w1∧w.heap.size=B):=⟨hw1.symm,hB.symm⟩
 obtain⟨a0,a1,a2,a3,a4⟩:=HC.out
 clear h hs hw hN hw1 hB hb1 hr1
 go_enter Tryz.func87,Tryz.ntmps87
 go_upto_region 1 with fail
 rw[HW1.out.1,HW1.out.2]
 go_wp2_with (first | (go_at_call 32;refine HTM.out.mono ?_;rintro e w2 ⟨so,sc,xs,rfl,hrow,hex,hb2⟩;clear a0 a1 a2 a3 a4) | fail)
 have HT:Hid (aB w2 (fun _=>True) 4 (.slice so N sc) N xs∧aI w2 (fun _=>True) (aD p) xs∧Bw w1 w2):=⟨hrow,hex,hb2⟩
 clear hrow hex hb2 HTM HC
 go_loopw [4,5] (fun v t wr=>∃j:Nat,j≤N∧t=.int .i64 j∧v=.int .i64 (aC ((aD p).take j):Nat)∧Hid (Bw w2 wr)) (fun _ t _=>N-(intOf t).toNat)
 case atStart=>exact⟨0,Nat.zero_le _,rfl,by simp [aC],Below.refl _ _⟩
 case round=>
  obtain⟨j,hj,rfl,rfl,HR⟩:=hrel
  by_cases hjl:j<N
  ·have hjt:j<(aD p).length:=by have:=HB.out.2.1;omega
   obtain⟨op,n,s,es,oo,cc,zs,ej,x0,x1,x2,x3,r1,r2⟩:=HT.out.2.1.at hjt
   obtain⟨b,off,c',ev,_,_,gg⟩:=(HT.out.1.keep (S':=fun _=>True) (fun b _ hl=>⟨trivial,HR.out.block b hl⟩)).at (by rw[HT.out.1.1];omega)
   obtain⟨rfl,rfl⟩:so=some ⟨b,off,none⟩∧sc=c':=by simpa using ev
   have y0:=gg _ _ x0
   have y1:=gg _ _ x1
   have y2:=gg _ _ x2
   have y3:=gg _ _ x3
   rw[←Nat.add_assoc] at y1 y2 y3
   have h1:=pK (aD p) j _ (mP hjt)
   have h2:=uJ (aD p) (j+1)
   rw[ej] at h1
   have hb:=HB.out.2.2.2
   obtain⟨k,hk⟩:∃k,k=aJ (.mk op n s es):=⟨_,rfl⟩
   obtain⟨a,haa⟩:∃a,a=aC ((aD p).take j):=⟨_,rfl⟩
   have HWE:Hid (Calls Tryz.prog 134 #[.agg #[.string op,.int .i64 n,.string s,.slice oo es.length cc]] wr (oC ((k:Nat):Int) wr)):=by
    rw[hk]
    exact BL _ op n s es (Nat.lt_succ_self _) (by omega) wr (fun _=>True) oo cc zs (r1.keep (fun b _ hl=>⟨trivial,HR.out.block b hl⟩)) (r2.keep (fun b _ hl=>⟨trivial,HR.out.block b hl⟩))
   have HAC:Hid (wrap64 ((a:Int)+(k:Int))=(aC ((aD p).take (j+1)):Nat)):=by unfold Hid wrap64;rw[h1,hk,←haa];omega
   have i0':(0:Int)≤(j:Int):=by omega
   have i1':(j:Int)<(N:Int):=by omega
   have HJ:=aA hjl
   have N4:Hid (wrap64 ((j:Int)+1)=(j:Int)+1):=by have:=HB.out.2.2.1;unfold Hid wrap64;omega
   rw[←haa]
   have HRR:Hid (Bw w2 wr):=HR.out
   clear ej x0 x1 x2 x3 r1 r2 ev gg h1 h2 hb hk haa hjl hj hjt HR
   go_wp2_with (first | (go_at_call 134;refine HWE.out.mono ?_;rintro e w3 ⟨rfl,hb3⟩) | fail)
   exact⟨⟨j+1,HJ.out,by rw[N4.out];rfl,by rw[HAC.out],HRR.out.trans (hb3.mono HRR.out.size)⟩,by rw[N4.out];have:=HJ.out;simp [intOf];omega⟩
  ·obtain rfl:N=j:=by omega
   have hbw:Bw w1 wr:=HT.out.2.2.trans (HR.out.mono HT.out.2.2.size)
   have HBW:Hid (Bw w wr):=HB.out.1.trans (hbw.mono HB.out.1.size)
   rw[List.take_of_length_le (by have:=HB.out.2.1;omega)]
   clear hj hjl HR hbw HT
   go_wp2
   go_ret
   exact⟨rfl,HBW.out⟩

theorem Tryz.MI:(Tryz.prog.info? 156).map (fun i=>(i.zero,i.size,i.bytes))=some (some (.agg #[.string ⟨#[]⟩,.int .i64 0]),2,24):=by kernel_rfl
theorem aB.take{w:World}{S:Nat→Prop}{size n c k:Nat}{o:Option Addr}{xs:List Value}(h:aB w S size (.slice o n c) n xs)(hk:k≤n):aB w S size (.slice o k c) k (xs.take (k*size)):=by
 obtain⟨h1,h2,o',c',e,h3,h4⟩:=h
 obtain⟨rfl,_,rfl⟩:=Value.slice.inj e
 refine⟨by rw[List.length_take,h1];exact Nat.min_eq_left (Nat.mul_le_mul_right _ hk),by omega,o,c,rfl,fun j x hx=>?_,by omega⟩
 rw[List.getElem?_take] at hx
 split at hx
 ·exact h3 j x hx
 ·cases hx
theorem aB.drop{w:World}{S:Nat→Prop}{size n c k b off:Nat}{xs:List Value}(h:aB w S size (.slice (some ⟨b,off,none⟩) n c) n xs)(hk:k≤n):aB w S size (.slice (some ⟨b,off+k*size,none⟩) (n-k) (c-k)) (n-k) (xs.drop (k*size)):=by
 obtain⟨h1,h2,o',c',e,h3,h4⟩:=h
 obtain⟨rfl,_,rfl⟩:=Value.slice.inj e
 refine⟨by rw[List.length_drop,h1,Nat.sub_mul],by omega,_,c-k,rfl,fun j x hx=>?_,by omega⟩
 rw[List.getElem?_drop] at hx
 obtain⟨b',off',e1,e2,e3⟩:=h3 _ x hx
 obtain⟨rfl,rfl,_⟩:=Addr.mk.inj (Option.some.inj e1)
 exact⟨b,off+k*size,rfl,e2,by rw[Nat.add_assoc];exact e3⟩
theorem AL(l:List (ByteArray×Int))(k:Nat):(bB l).take (k*2)=bB (l.take k):=by
 induction l generalizing k with
 | nil=>simp [bB]
 | cons v l ih=>
  cases k with
  | zero=>simp [bB]
  | succ k=>
   have:=ih k
   simp only[bB,List.flatMap_cons,List.take_succ_cons] at this ⊢
   rw[show (k+1)*2=k*2+1+1 from by omega]
   simp [this]
theorem F7(l:List (ByteArray×Int))(k:Nat):(bB l).drop (k*2)=bB (l.drop k):=by
 induction l generalizing k with
 | nil=>simp [bB]
 | cons v l ih=>
  cases k with
  | zero=>simp [bB]
  | succ k=>
   have:=ih k
   simp only[bB,List.flatMap_cons,List.drop_succ_cons] at this ⊢
   rw[show (k+1)*2=k*2+1+1 from by omega]
   simp [this]
theorem rM(p:Pg):(aK p).length=p.ins.length+p.fs.length:=by simp [aK,gX,dD]
theorem FQ{p:Pg}{j:Nat}{x:Fw}(h:p.fs[j]?=some x):(aK p)[p.ins.length+j]?=some (x.name,x.kind):=by
 unfold aK
 rw[List.getElem?_append_right (by simp [gX])]
 simp [gX,dD,h]
theorem FO(p:Pg):(bB (aK p)).take (p.ins.length*2)=bR p.ins:=by
 rw[AL,xB]
 congr 1
 unfold aK
 rw[List.take_append_of_le_length (by simp [gX])]
 rw[List.take_of_length_le (by simp [gX])]
theorem GD{xs:List Value}{i:Nat}{a b:Value}(h0:xs[i*2]?=some a)(h1:xs[i*2+1]?=some b):xs.take ((i+1)*2)=xs.take (i*2)++[a,b]:=by
 rw[show (i+1)*2=i*2+1+1 from by omega,List.take_add_one,List.take_add_one,h0,h1]
 simp
theorem FR(w:World)(S:Nat→Prop)(p:Pg)(o1 o2 o3 o4 o5:Option Addr)(c1 c2 c3 c4 c5:Nat)(h:fE w S p (.slice o1 p.ins.length c1) (.slice o2 p.outs.length c2) (.slice o3 p.fs.length c3) (.slice o4 p.asserts.length c4) (.slice o5 p.checks.length c5))(hs:p.ins.length+p.fs.length≤2097152) :
  Calls Tryz.prog 84 #[.agg #[.slice o1 p.ins.length c1,.slice o2 p.outs.length c2,.slice o3 p.fs.length c3,.slice o4 p.asserts.length c4,.slice o5 p.checks.length c5]] w fun e w'=>∃so sc,e=.returned (.slice so (p.ins.length+p.fs.length) sc)∧aB w' (fun _=>True) 2 (.slice so (p.ins.length+p.fs.length) sc) (p.ins.length+p.fs.length) (bB (aK p))∧Bw w w'∧((so=none∧sc=0∧p.ins.length+p.fs.length=0)∨∃g,so=some ⟨g,0,none⟩):=by
 obtain⟨i0,hi0,hz0,hz1,hz2⟩:=info_parts Tryz.MI
 obtain⟨h1,_,⟨x3,h3,g3⟩,_,_⟩:=h
 obtain⟨N,hN⟩:∃N,N=p.fs.length:=⟨_,rfl⟩
 obtain⟨I,hI⟩:∃I,I=p.ins.length:=⟨_,rfl⟩
 rw[←hI] at h1
 rw[←hN] at h3
 obtain⟨w1,hw1⟩:∃w1,w1=w.alloc (.cells #[.slice o1 I c1,.slice o2 p.outs.length c2,.slice o3 N c3,.slice o4 p.asserts.length c4,.slice o5 p.checks.length c5] 27):=⟨_,rfl⟩
 obtain⟨B,hB⟩:∃B,B=w.heap.size:=⟨_,rfl⟩
 have hb1:Bw w w1:=by rw[hw1];exact aH
 have hr1:w1.heap[B]?=some (.cells #[.slice o1 I c1,.slice o2 p.outs.length c2,.slice o3 N c3,.slice o4 p.asserts.length c4,.slice o5 p.checks.length c5] 27 (0,0)):=by rw[hw1,hB];exact heap_alloc_new _ _
 have HSZ:Hid (N=p.fs.length∧I=p.ins.length∧I+N≤2097152):=⟨hN,hI,by omega⟩
 have HY:Hid (aB w S 6 (.slice o3 N c3) N x3∧cB w S p.fs x3):=⟨h3,g3⟩
 have H1:=aA h1
 have HB:Hid (Bw w w1∧B=w.heap.size∧w1.heap.size=B+1):=⟨hb1,hB,by rw[hw1,hB,World.size_alloc]⟩
 have HC:Hid (∀W,Bw w1 W→W.cell? ⟨B,0,none⟩=some (.slice o1 I c1)∧W.cell? ⟨B,0+2,none⟩=some (.slice o3 N c3)):=fun W hW=>by
  have hr:=aG hW hr1
  refine⟨?_,?_⟩<;>(rw[cell_of_row W _ _ _ _ (0,0) hr];rfl)
 have HW1:Hid (w.alloc (.cells #[.slice o1 I c1,.slice o2 p.outs.length c2,.slice o3 N c3,.slice o4 p.asserts.length c4,.slice o5 p.checks.length c5] 27)=w1∧w.heap.size=B):=⟨hw1.symm,hB.symm⟩
 rw[←hN,←hI]
 clear hs h1 h3 g3 hN hI hw1 hB hb1 hr1
 obtain⟨b0,_⟩:=HC.out w1 (Below.refl _ _)
 have HR1:Hid (aB w1 (fun _=>True) 2 (.slice o1 I c1) I (bR p.ins)):=H1.out.keep (fun b _ hl=>⟨trivial,HB.out.1.block b hl⟩)
 have HM1:Hid (0+I≤maxLen∧(0+I)*24≤140737488355328):=by have:=HSZ.out.2.2;unfold Hid maxLen;omega
 go_enter Tryz.func84,Tryz.ntmps84
 go_upto_region 1 with fail
 rw[HW1.out.1,HW1.out.2]
 go_wp2_with (first | (at_builtin;refine tZ w1 rfl _ _ 22 rfl w1.heap.size 156 i0 _ 2 24 Tryz.underlying22 hi0 hz0 hz1 hz2 rfl (by omega) (.slice none 0 0) 0 [] rfl (World.ownsRow_nil _ _ _ _) _ o1 I c1 (bR p.ins) rfl HR1.out (by rw[xB];exact AO _) HM1.out.1 HM1.out.2 (Nat.le_refl _) ?_;intro v2 w2 hown2 hgrow2 _;rw[Nat.zero_add,List.nil_append] at hown2;obtain⟨q1,q2,rfl⟩:=uS hown2;have HB2:Hid (Bw w1 w2):=(Below.refl _ _).grown hgrow2 (Nat.le_refl _) (fun k hk=>by simp [Value.ownBlock] at hk)) | go_in)
 have HO2:Hid (w2.ownsRow w1.heap.size 156 2 (.slice q1 (I+0) q2) (I+0) ((bB (aK p)).take ((I+0)*2))):=by
  have e:=FO p
  rw[←HSZ.out.2.1] at e
  unfold Hid
  rw[Nat.add_zero,e]
  exact hown2
 clear hown2 hgrow2
 go_loopw [3,4] (fun v t wr=>∃(j:Nat) (so:Option Addr) (sc:Nat),j≤N∧t=.int .i64 j∧v=.slice so (I+j) sc∧Hid (wr.ownsRow w1.heap.size 156 2 (.slice so (I+j) sc) (I+j) ((bB (aK p)).take ((I+j)*2))∧Bw w1 wr)) (fun _ t _=>N-(intOf t).toNat)
 case atStart=>exact⟨0,q1,q2,Nat.zero_le _,rfl,rfl,HO2.out,HB2.out⟩
 case round=>
  obtain⟨j,so,sc,hj,rfl,rfl,HR⟩:=hrel
  obtain⟨_,b2⟩:=HC.out wr HR.out.2
  by_cases hjl:j<N
  ·have hjf:j<p.fs.length:=by have:=HSZ.out.1;omega
   obtain⟨nm,kd,op,n,s,es,oo,cc,zs,ej,k0,k1,_,_,_,_,_,_⟩:=HY.out.2.at hjf
   obtain⟨b,off,c',ev,_,_,gg⟩:=(HY.out.1.keep (S':=fun _=>True) (fun b _ hl=>⟨trivial,HB.out.1.block b hl⟩)).at (by rw[HY.out.1.1];omega)
   obtain⟨rfl,rfl⟩:o3=some ⟨b,off,none⟩∧c3=c':=by simpa using ev
   have y0:=gg _ _ k0
   have y1:=gg _ _ k1
   rw[←Nat.add_assoc] at y1
   have hvp:=FQ (p:=p) (j:=j) (x:=_) (mP hjf)
   rw[ej,←HSZ.out.2.1] at hvp
   have HT:Hid ((bB (aK p)).take ((I+(j+1))*2)=(bB (aK p)).take ((I+j)*2)++[.string nm,.int .i64 kd]):=by
    obtain⟨q0,q1⟩:=rQ hvp
    exact GD q0 q1
   have HRR:Hid (wr.ownsRow w1.heap.size 156 2 (.slice so (I+j) sc) (I+j) ((bB (aK p)).take ((I+j)*2))∧Bw w1 wr):=HR.out
   have HS:Hid (∀W,Bw w1 W→W.cell? ⟨B,0+2,none⟩=some (.slice (some ⟨b,off,none⟩) N c3)∧W.cell? ⟨b,off+j*6,none⟩=some (.string nm)∧W.cell? ⟨b,off+j*6+1,none⟩=some (.int .i64 kd)):=fun W hW=>⟨(HC.out W hW).2,aF hW y0,aF hW y1⟩
   have hS0:=HS.out wr.drew HRR.out.2.drew
   have i0':(0:Int)≤(j:Int):=by omega
   have i1':(j:Int)<(N:Int):=by omega
   have HJ:=aA hjl
   have N4:Hid (wrap64 ((j:Int)+1)=(j:Int)+1):=by have:=HSZ.out.2.2;unfold Hid wrap64;omega
   have HM:Hid (I+j+1≤maxLen∧(I+j+1)*24≤140737488355328):=by have:=HSZ.out.2.2;unfold Hid maxLen;omega
   clear ej k0 k1 ev gg y0 y1 hvp hjf hjl hj HR
   go_upto_region 6 with fail
   refine nG 16 (fun W=>W.cell? ⟨B,0+2,none⟩=some (.slice (some ⟨b,off,none⟩) N c3)∧W.cell? ⟨b,off+j*6,none⟩=some (.string nm)∧W.cell? ⟨b,off+j*6+1,none⟩=some (.int .i64 kd)) (fun _=>True) (by kernel_rfl) hS0 trivial (fun hh=>?_)
   refine tj 0 16 (.slice so (I+j) sc) rfl (by rintro w ⟨s0,s1,s2⟩;go_simp) hh ?_
   refine tj 1 17 (.pointer (some ⟨B,0+2,none⟩)) rfl (by rintro w ⟨s0,s1,s2⟩;go_simp) hh ?_
   refine tj 2 18 (.slice (some ⟨b,off,none⟩) N c3) rfl (by rintro w ⟨s0,s1,s2⟩;go_simp) hh ?_
   refine tj 3 19 (.int .i64 (j:Nat)) rfl (by rintro w ⟨s0,s1,s2⟩;go_simp) hh ?_
   refine tj 4 20 (.pointer (some ⟨b,off+j*6,none⟩)) rfl (by rintro w ⟨s0,s1,s2⟩;go_simp) hh ?_
   refine tj 5 21 (.pointer (some ⟨b,off+j*6,none⟩)) rfl (by rintro w ⟨s0,s1,s2⟩;go_simp) hh ?_
   refine tj 6 22 (.string nm) rfl (by rintro w ⟨s0,s1,s2⟩;go_simp) hh ?_
   refine tj 7 23 (.pointer (some ⟨B,0+2,none⟩)) rfl (by rintro w ⟨s0,s1,s2⟩;go_simp) hh ?_
   refine tj 8 24 (.slice (some ⟨b,off,none⟩) N c3) rfl (by rintro w ⟨s0,s1,s2⟩;go_simp) hh ?_
   refine tj 9 25 (.int .i64 (j:Nat)) rfl (by rintro w ⟨s0,s1,s2⟩;go_simp) hh ?_
   refine tj 10 26 (.pointer (some ⟨b,off+j*6,none⟩)) rfl (by rintro w ⟨s0,s1,s2⟩;go_simp) hh ?_
   refine tj 11 27 (.pointer (some ⟨b,off+j*6+1,none⟩)) rfl (by rintro w ⟨s0,s1,s2⟩;go_simp) hh ?_
   refine tj 12 28 (.int .i64 kd) rfl (by rintro w ⟨s0,s1,s2⟩;go_simp) hh ?_
   refine tj 13 29 (.agg #[.string nm,.int .i64 kd]) rfl (by rintro w ⟨s0,s1,s2⟩;go_simp) hh ?_
   refine dY 14 (some 30) rfl fun K hK=>?_
   go_simp
   obtain⟨wA,hwA⟩:∃wA,wA=(wr.alloc (.cells #[.string nm,.int .i64 kd] 156)).drew:=⟨_,rfl⟩
   obtain⟨Q,hQ⟩:∃Q,Q=wr.heap.size:=⟨_,rfl⟩
   have hbA:Bw wr wA:=by rw[hwA];exact(aH).drew
   have HOA:Hid (wA.ownsRow w1.heap.size 156 2 (.slice so (I+j) sc) (I+j) ((bB (aK p)).take ((I+j)*2))∧Bw w1 wA):=⟨l9 HRR.out.1 hbA,HRR.out.2.trans (hbA.mono HRR.out.2.size)⟩
   have HNA:Hid (∀k y,[.string nm,.int .i64 kd][k]?=some y→wA.cell? ((⟨Q,0,none⟩:Addr).add k)=some y):=by unfold Hid;rw[hwA,hQ];exact World.news_of_block (heap_alloc_new wr _)
   rw[←hwA,←hQ]
   refine hK.out _ _ ⟨HS.out wA HOA.out.2,fun _=>trivial⟩ (fun hh=>?_)
   clear hK K hwA hbA hQ hS0
   try simp only[tp]
   refine dY 15 (some 31) rfl fun K hK=>?_
   refine step_append_lies _ rfl (.tmp 16) (.tmp 30) 22 rfl w1.heap.size 156 i0 _ 2 24 Tryz.underlying22 hi0 hz0 hz1 hz2 rfl (by omega) (.slice so (I+j) sc) (I+j) _ (by simp [Act.eval]) HOA.out.1 ⟨Q,0,none⟩ 1 1 [.string nm,.int .i64 kd] (by simp [Act.eval]) rfl HNA.out (by simp [Value.oneCell']) (by omega) HM.out.1 HM.out.2 HOA.out.2.size _ rfl ?_
   intro g cap w7 hown7 hgrow hat hlt7
   have hbw7:Bw w1 w7:=HOA.out.2.grown hgrow HOA.out.2.size (fun k hk=>(HOA.out.1.lt k hk).1)
   have HNX:Hid (w7.ownsRow w1.heap.size 156 2 (.slice (some ⟨g,0,none⟩) (I+(j+1)) cap) (I+(j+1)) ((bB (aK p)).take ((I+(j+1))*2))∧Bw w1 w7):=⟨by rw[HT.out];exact hown7,hbw7⟩
   refine hK.out _ _ ⟨HS.out w7 hbw7,fun _=>trivial⟩ (fun hh=>?_)
   clear hK K
   try simp only[tp]
   refine dY 16 (some 3) rfl fun K hK=>?_
   go_simp
   refine hK.out _ _ (Till.last (HS.out w7 HNX.out.2)) (fun hh=>?_)
   clear hK K
   try simp only[tp]
   refine kH (by kernel_rfl) ?_ _
   clear hh hown7 hgrow hat hlt7 hbw7 HS HOA HNA
   go_wp2
   exact⟨⟨j+1,_,_,HJ.out,by rw[N4.out];rfl,rfl,HNX.out⟩,by rw[N4.out];have:=HJ.out;simp [intOf];omega⟩
  ·obtain rfl:N=j:=by omega
   have HE:Hid (aB wr (fun _=>True) 2 (.slice so (I+N) sc) (I+N) (bB (aK p))∧Bw w wr∧((so=none∧sc=0∧I+N=0)∨∃g,so=some ⟨g,0,none⟩)):=by
    obtain⟨q1,q2⟩:=HR.out
    rw[List.take_of_length_le (by rw[rP,rM,←HSZ.out.1,←HSZ.out.2.1];exact Nat.le_refl _)] at q1
    exact⟨(aB.qM q1).keep (fun _ _ _=>⟨trivial,rfl⟩),HB.out.1.trans (q2.mono HB.out.1.size),by
     rcases q1.2 with⟨e1,e2⟩ | ⟨g,cap,cur,e1,_⟩
     ·obtain⟨rfl,_,rfl⟩:=Value.slice.inj e1
      exact .inl ⟨rfl,rfl,e2⟩
     ·obtain⟨rfl,_,_⟩:=Value.slice.inj e1
      exact .inr ⟨g,rfl⟩⟩
   clear hj hjl HR
   go_wp2
   go_ret
   exact⟨so,sc,rfl,HE.out⟩
end Go.Proofs.YtmgfakcccfahaaaGreatDoor
