/-
  lustrumref2.CheckOf BY CONTRACT.
-/
import Derived.Test.YtmgfakcccfahaaaGreatDoorN47
import Derived.Test.YtmgfakcccfahaaaGreatDoorN48
namespace Go.Proofs.YtmgfakcccfahaaaGreatDoor
open Go.RowKit
set_option maxRecDepth 100000
set_option maxHeartbeats 8000000

theorem LX{p:Pg}{kd:List UInt8→Option Int}(hk:bA (fun _=>none) (aK p)=some kd){f:List UInt8→Nat}(h:gV p.fs f):bY p.fs (dP p f)=f:=by
 funext s
 unfold bY
 cases hq:fA p.fs p.fs.length s with
 | none=>
  simp only
  have hno:∀x∈p.fs,x.name.data.toList≠s:=fun x hx e=>by
   obtain⟨k,hk'⟩:=List.mem_iff_getElem?.1 hx
   have:=uZ hk hk'
   rw[e,hq] at this
   cases this
  refine(Nat.le_antisymm ?_ (Nat.zero_le _)).symm
  have hg:oF p.fs (gH f s 0):=by
   refine⟨fun t=>by unfold gH;split;omega;exact h.1.1 t,fun x hx=>?_⟩
   have e1:gH f s 0 x.name.data.toList=f x.name.data.toList:=by unfold gH;rw[if_neg (hno x hx)]
   rw[e1]
   refine Nat.le_trans (vK (fun t=>?_) h.1.1 x.e) (h.1.2 x hx)
   unfold gH;split
   ·exact Nat.zero_le _
   ·exact Nat.le_refl _
  have:=h.2 _ hg s
  unfold gH at this
  rwa [if_pos rfl] at this
 | some k=>
  obtain⟨_,x,h1,h2⟩:=oK hq
  simp only[dP,h1]
  rw[h2]
  omega
def wV(p:Pg)(c a:Int):Prop:=
 (aQ p≠0∧c=dL (aQ p)∧a=-1) ∨
 (aQ p=0∧∃m:Nat,m<p.fs.length∧bP (aN p.fs) m m∧(∀j,j<m→¬bP (aN p.fs) j j)∧c=6∧a=(m:Int)) ∨
 ∃(d:List Nat) (f:List UInt8→Nat),iT p d∧gV p.fs f ∧
  ((∃(m:Nat) (x:Fw),p.fs[m]?=some x∧dR p f x=true∧(∀(j:Nat) (y:Fw),j<m→p.fs[j]?=some y→dR p f y=false)∧c=7∧a=(m:Int)) ∨
   ((∀(j:Nat) (y:Fw),p.fs[j]?=some y→dR p f y=false)∧((∃y∈p.asserts++p.checks,0<aO f y)∧c=7∧a=-1∨(∀y∈p.asserts++p.checks,aO f y=0)∧c=0∧a=-1)))
theorem Oc(w:World)(S:Nat→Prop)(p:Pg)(o1 o2 o3 o4 o5:Option Addr)(I O N A C c1 c2 c3 c4 c5:Nat)(h:iC w S p o1 o2 o3 o4 o5 I O N A C c1 c2 c3 c4 c5)(hok:lN p) :
  Calls Tryz.prog 15 #[(.agg #[.slice o1 I c1,.slice o2 O c2,.slice o3 N c3,.slice o4 A c4,.slice o5 C c5])] w fun e w'=>Bw w w'∧∃c a,e=.returned (.agg #[.int .i64 c,.int .i64 a])∧wV p c a:=by
 obtain⟨w1,hw1⟩:∃w1,w1=(w.alloc (.cells #[.slice o1 I c1,.slice o2 O c2,.slice o3 N c3,.slice o4 A c4,.slice o5 C c5] 27)).alloc (.cells #[.int .i64 0,.int .i64 0] 42):=⟨_,rfl⟩
 obtain⟨B,hB⟩:∃B,B=w.heap.size:=⟨_,rfl⟩
 have hb0:Bw w (w.alloc (.cells #[.slice o1 I c1,.slice o2 O c2,.slice o3 N c3,.slice o4 A c4,.slice o5 C c5] 27)):=aH
 have hb1:Bw w w1:=by rw[hw1];exact hb0.alloc hb0.size _
 have hr1:w1.heap[B]?=some (.cells #[.slice o1 I c1,.slice o2 O c2,.slice o3 N c3,.slice o4 A c4,.slice o5 C c5] 27 (0,0)):=by rw[hw1,hB];exact aG (aH) (heap_alloc_new _ _)
 have hr2:w1.heap[B+1]?=some (.cells #[.int .i64 0,.int .i64 0] 42 (0,0)):=by rw[hw1,hB];exact dX _ _ _
 have HB:Hid (Bw w w1∧N=p.fs.length∧O=p.outs.length∧B=w.heap.size):=⟨hb1,h.n,h.o,hB⟩
 have HC:Hid (∀W,Bw w1 W→(W.cell? ⟨B,0,none⟩=some (.slice o1 I c1)∧W.cell? ⟨B,0+1,none⟩=some (.slice o2 O c2)∧W.cell? ⟨B,0+2,none⟩=some (.slice o3 N c3)∧W.cell? ⟨B,0+3,none⟩=some (.slice o4 A c4)∧W.cell? ⟨B,0+4,none⟩=some (.slice o5 C c5))∧W.heap[B+1]?=some (.cells #[.int .i64 0,.int .i64 0] 42 (0,0))∧W.cell? ⟨B+1,0,none⟩=some (.int .i64 0)∧W.cell? ⟨B+1,0+1,none⟩=some (.int .i64 0)∧W.frozen? ⟨B+1,0,none⟩=false∧W.frozen? ⟨B+1,0+1,none⟩=false):=fun W hW=>by
  have hr:=aG hW hr1
  have hr':=aG hW hr2
  refine⟨⟨?_,?_,?_,?_,?_⟩,hr',?_,?_,dW hr',dW hr'⟩<;>first | (rw[cell_of_row W _ _ _ _ (0,0) hr];rfl) | (rw[cell_of_row W _ _ _ _ (0,0) hr'];rfl)
 have HW1:Hid ((w.alloc (.cells #[.slice o1 I c1,.slice o2 O c2,.slice o3 N c3,.slice o4 A c4,.slice o5 C c5] 27)).alloc (.cells #[.int .i64 0,.int .i64 0] 42)=w1∧w.heap.size=B):=⟨hw1.symm,hB.symm⟩
 have HPV:Hid (∀W,Bw w1 W→iC W S p o1 o2 o3 o4 o5 I O N A C c1 c2 c3 c4 c5):=fun W hW=>h.below (hb1.trans (hW.mono hb1.size))
 have HOR:Hid (Calls Tryz.prog 12 #[(.agg #[.slice o1 I c1,.slice o2 O c2,.slice o3 N c3,.slice o4 A c4,.slice o5 C c5])] w1 fun e w'=>Bw w1 w'∧∃v c a,e=.returned (.tuple #[v,.agg #[.int .i64 c,.int .i64 a]])∧qE p w1.heap.size w' v c a):=BQ w1 S p o1 o2 o3 o4 o5 I O N A C c1 c2 c3 c4 c5 (HPV.out w1 (Below.refl _ _)) hok
 have HEND:Hid (∀W x y,Bw w1 W→(gD W (B+1) x y).cell? ⟨B+1,0,none⟩=some x∧(gD W (B+1) x y).cell? ⟨B+1,1,none⟩=some y∧Bw w (gD W (B+1) x y)):=fun W x y hW=>by
  have hr:=BB (x:=x) (y:=y) (HC.out W hW).2.1
  have hb:=hb1.trans (hW.mono hb1.size)
  exact⟨cr hr rfl,cr hr rfl,BD hb (by omega)⟩
 have HSZ:Hid (A=p.asserts.length∧C=p.checks.length∧A+C≤4000∧N≤1000∧O≤2097152):=⟨h.a,h.c,by have:=hok.terms;have:=h.a;have:=h.c;omega,by have:=hok.vars;have:=h.n;omega,by have:=hok.outs;have:=h.o;omega⟩
 obtain⟨⟨a0,a1,a2,a3,a4⟩,f0,f1,f2,f3,f4⟩:=HC.out w1 (Below.refl _ _)
 clear h hok hw1 hB hb0 hb1 hr1 hr2
 go_enter Tryz.func15,Tryz.ntmps15
 go_upto_region 1 with fail
 rw[HW1.out.1,HW1.out.2]
 -- the order's fault,in a block of its own
 go_upto_region 2 with(first | (go_at_call 12;refine HOR.out.mono ?_;rintro e w2 ⟨hb2,v,c,a,rfl,hod⟩;have HB2:Hid (Bw w1 w2∧qE p w1.heap.size w2 v c a):=⟨hb2,hod⟩;clear hb2 hod a0 a1 a2 a3 a4 f0 f1 f2 f3 f4) | fail)
 obtain⟨w3,hw3⟩:∃w3,w3=w2.alloc (.cells #[.int .i64 c,.int .i64 a] 42):=⟨_,rfl⟩
 obtain⟨F,hF⟩:∃F,F=w2.heap.size:=⟨_,rfl⟩
 have hr3:w3.heap[F]?=some (.cells #[.int .i64 c,.int .i64 a] 42 (0,0)):=by rw[hw3,hF];exact heap_alloc_new _ _
 have hb3:Bw w1 w3:=by rw[hw3];exact HB2.out.1.alloc HB2.out.1.size _
 have HW3:Hid (w2.alloc (.cells #[.int .i64 c,.int .i64 a] 42)=w3∧w2.heap.size=F):=⟨hw3.symm,hF.symm⟩
 have HF3:Hid (w3.heap[F]?=some (.cells #[.int .i64 c,.int .i64 a] 42 (0,0))∧Bw w1 w3):=⟨hr3,hb3⟩
 clear hr3 hb3 hw3 hF
 rw[HW3.out.1,HW3.out.2]
 have e0:w3.cell? ⟨F,0,none⟩=some (.int .i64 c):=cr HF3.out.1 rfl
 have e1:w3.cell? ⟨F,0+1,none⟩=some (.int .i64 a):=cr HF3.out.1 rfl
 obtain⟨⟨a0,a1,a2,a3,a4⟩,f0,f1,f2,f3,f4⟩:=HC.out w3 HF3.out.2
 by_cases hc:0<c
 ·have HCD:Hid (wV p c a):=by
   rcases HB2.out.2 with⟨q1,_,q3,q4⟩ | ⟨q1,m,q2,q3,q4,_,q5,q6⟩ | ⟨d,o,k,_,_,q3,_⟩
   ·exact .inl ⟨q1,q3,q4⟩
   ·exact .inr (.inl ⟨q1,m,q2,q3,q4,q5,q6⟩)
   ·omega
  go_wp2
  obtain⟨z0,z1,zb⟩:=HEND.out w3 (.int .i64 c) (.int .i64 a) HF3.out.2
  unfold gD at z0 z1 zb
  refine bodyPost_ret (v:=.agg #[.int .i64 c,.int .i64 a]) (by simp [results,Tryz.results15,go_sem,z0,z1]) rfl ?_
  exact⟨zb,_,_,rfl,HCD.out⟩
 ·have hoo:∃d,iT p d:=by
   rcases HB2.out.2 with⟨q1,_,q3,q4⟩ | ⟨q1,m,q2,q3,q4,_,q5,q6⟩ | ⟨d,o,k,q1,_,q3,_⟩
   ·have:=zQ q1;omega
   ·omega
   ·exact⟨d,q1⟩
  obtain⟨d,hd⟩:=hoo
  obtain⟨kd,hk,_,hfm,_,h400,_⟩:=sZ hd.1
  have HLT:Hid (Calls Tryz.prog 17 #[(.agg #[.slice o1 I c1,.slice o2 O c2,.slice o3 N c3,.slice o4 A c4,.slice o5 C c5])] w3 fun e w'=>∃(f:List UInt8→Nat) (lb:Nat),e=.returned (.slice (some ⟨lb,0,none⟩) N N)∧gV p.fs f∧bD w' lb N (dP p f)∧w3.heap.size≤lb∧Bw w3 w'):=CV w3 S p o1 o2 o3 o4 o5 I O N A C c1 c2 c3 c4 c5 (HPV.out w3 HF3.out.2) kd hk hfm (by have:=HB.out.2.1;omega)
  have HLA:Hid (∀(op:ByteArray) (n:Int) (s:ByteArray) (l:List Ex),(.mk op n s l:Ex)∈aD p→wS p N o1 o2 o3 o4 o5 I O A C c1 c2 c3 c4 c5 op n s l):=fun op n s l hx=>yP p N o1 o2 o3 o4 o5 I O A C c1 c2 c3 c4 c5 kd hk (by have:=HSZ.out.2.2.2.1;omega) _ op n s l (Nat.lt_succ_self _) (qB hfm hx)
  have HKR:Hid (bA (fun _=>none) (aK p)=some kd∧iT p d):=⟨hk,hd⟩
  clear hd hk hfm h400
  go_upto_region 5 with(first | (go_at_call 17;refine HLT.out.mono ?_;rintro e w4 ⟨f,lb,rfl,hlt,hrow,_,hb4⟩) | fail)
  clear e0 e1 a0 a1 a2 a3 a4 f0 f1 f2 f3 f4
  have HOO:Hid (iT p d∧gV p.fs f):=⟨HKR.out.2,hlt⟩
  have H4:Hid (bD w4 lb N (dP p f)∧Bw w3 w4∧Bw w1 w4):=⟨hrow,hb4,HF3.out.2.trans (hb4.mono HF3.out.2.size)⟩
  have HLF:Hid (bY p.fs (dP p f)=f∧∀k,0≤dP p f k∧dP p f k≤2):=⟨LX HKR.out.1 hlt,fun k=>by
   unfold dP
   cases p.fs[k]? with
   | none=>simp
   | some x=>have:=hlt.1.1 x.name.data.toList;simp only;omega⟩
  clear hlt hrow hb4 HLT
  go_wp2
  go_loopw [6] (fun t wr=>∃i:Nat,i≤N∧t=.int .i64 i∧Hid ((∀(k:Nat) (x:Fw),k<i→p.fs[k]?=some x→dR p f x=false)∧Bw w4 wr)) (fun t _=>N-(intOf t).toNat)
  case atStart=>exact⟨0,Nat.zero_le _,rfl,fun k x hk=>by omega,Below.refl _ _⟩
  case round=>
   obtain⟨i,hi,rfl,HR⟩:=hrel
   have HRB:Hid (Bw w1 wr):=H4.out.2.2.trans (HR.out.2.mono H4.out.2.2.size)
   obtain⟨⟨a0,a1,a2,a3,a4⟩,f0,f1,f2,f3,f4⟩:=HC.out wr HRB.out
   by_cases hil:i<N
   ·have hif:i<p.fs.length:=by have:=HB.out.2.1;omega
    have hpv:=HPV.out wr HRB.out
    obtain⟨x3,h3,g3⟩:=hpv.pg.fs
    rw[←HB.out.2.1] at h3
    obtain⟨nm,kd',op,n,s,es,oo,cc,zs,ej,k0,_,_,_,_,_,_,_⟩:=g3.at hif
    obtain⟨b,off,c',ev,_,_,gg⟩:=h3.at (by rw[h3.1];omega)
    obtain⟨rfl,rfl⟩:o3=some ⟨b,off,none⟩∧c3=c':=by simpa using ev
    have y0:=gg _ _ k0
    have hpo:=hpv.pg.outs
    rw[←HB.out.2.2.1] at hpo
    have i0':(0:Int)≤(i:Int):=by omega
    have i1':(i:Int)<(N:Int):=by omega
    have N4:Hid (wrap64 ((i:Int)+1)=(i:Int)+1):=by have:=HSZ.out;unfold Hid wrap64;omega
    have HJ:=aA hil
    have hx:p.fs[i]?=some ⟨nm,kd',.mk op n s es⟩:=by rw[List.getElem?_eq_getElem hif,ej]
    obtain⟨hh,hhh⟩:∃hh,hh=eH p.outs nm:=⟨_,rfl⟩
    obtain⟨lv,hlv⟩:∃lv,lv=f nm.data.toList:=⟨_,rfl⟩
    have HHW:Hid (∀k,Calls Tryz.prog 50 #[.slice o2 O c2,.string nm] (wr.drewN k) fun e w'=>e=.returned (.bool hh)∧w'=wr.drewN k):=fun k=>by
     rw[hhh]
     exact Ak _ (fun _=>True) _ _ O c2 nm HB.out.2.2.1 (hpo.keep (fun b _ hl=>⟨trivial,(iA (Below.refl wr.heap.size wr) k).block b hl⟩)) (by have:=HSZ.out;omega)
    have HRO:Hid (∀k,(wr.drewN k).cell? ⟨lb,i,none⟩=some (.int .i64 (lv:Nat))):=fun k=>by
     have h:=(show bD (wr.drewN k) lb N (dP p f) from aG (iA (Below.refl wr.heap.size wr) k) (aG HR.out.2 H4.out.1)).cell hil
     rw[h]
     unfold dP
     rw[hx]
     simp only
     rw[hlv]
    have HBF:Hid (dR p f ⟨nm,kd',.mk op n s es⟩=(lv==2||(lv==1&&hh))∧p.fs[i]?=some ⟨nm,kd',.mk op n s es⟩∧lv≤2):=⟨by unfold dR;rw[hlv,hhh],hx,by rw[hlv];exact HOO.out.2.1.1 _⟩
    have HDB:Hid (∀k,Bw w4 (wr.drewN k)∧Bw w1 (wr.drewN k)):=fun k=>⟨iA HR.out.2 k,iA HRB.out k⟩
    have HIB:Hid (∀(k:Nat) (x:Fw),k<i→p.fs[k]?=some x→dR p f x=false):=HR.out.1
    clear ej k0 ev gg h3 g3 hpv hpo hx hhh hlv hif hil hi HR
    have hlv3:lv=0∨lv=1∨lv=2:=by have:=HBF.out.2.2;omega
    have HNX:Hid ((lv==2||(lv==1&&hh))=false→∀(k:Nat) (x:Fw),k<i+1→p.fs[k]?=some x→dR p f x=false):=fun hb k x hk hx=>by
     by_cases e:k=i
     ·subst e
      rw[HBF.out.2.1] at hx
      rw[←Option.some.inj hx,HBF.out.1]
      exact hb
     ·exact HIB.out k x (by omega) hx
    rcases hlv3 with rfl | rfl | rfl
    ·cases hh with
     | true=>
      have HN:Hid (∀(k:Nat) (x:Fw),k<i+1→p.fs[k]?=some x→dR p f x=false):=HNX.out rfl
      go_upto_region 8 with fail
      go_quiet ((go_at_call 50;exact Calls.quiet_of_same (HHW.out _)))
      generalize hwq:wr.drewN _=wq
      have z9:wq.cell? ⟨lb,i,none⟩=some (.int .i64 (0:Nat)):=by rw[←hwq];exact HRO.out _
      have HWQ:Hid (Bw w4 wq∧Bw w1 wq):=by rw[←hwq];exact HDB.out _
      clear hwq
      go_wp2
      exact⟨⟨i+1,HJ.out,by rw[N4.out];rfl,HN.out,HWQ.out.1⟩,by rw[N4.out];have:=HJ.out;simp [intOf];omega⟩
     | false=>
      have HN:Hid (∀(k:Nat) (x:Fw),k<i+1→p.fs[k]?=some x→dR p f x=false):=HNX.out rfl
      go_upto_region 8 with fail
      go_quiet ((go_at_call 50;exact Calls.quiet_of_same (HHW.out _)))
      generalize hwq:wr.drewN _=wq
      have z9:wq.cell? ⟨lb,i,none⟩=some (.int .i64 (0:Nat)):=by rw[←hwq];exact HRO.out _
      have HWQ:Hid (Bw w4 wq∧Bw w1 wq):=by rw[←hwq];exact HDB.out _
      clear hwq
      go_wp2
      exact⟨⟨i+1,HJ.out,by rw[N4.out];rfl,HN.out,HWQ.out.1⟩,by rw[N4.out];have:=HJ.out;simp [intOf];omega⟩
    ·cases hh with
     | true=>
      have HBT:Hid (dR p f ⟨nm,kd',.mk op n s es⟩=true):=by unfold Hid;rw[HBF.out.1];rfl
      have hro:=HRO.out
      go_upto_region 8 with fail
      go_quiet ((go_at_call 50;exact Calls.quiet_of_same (HHW.out _)))
      clear hro
      generalize hwq:wr.drewN _=wq
      have z9:wq.cell? ⟨lb,i,none⟩=some (.int .i64 (1:Nat)):=by rw[←hwq];exact HRO.out _
      have HWQ:Hid (Bw w4 wq∧Bw w1 wq):=by rw[←hwq];exact HDB.out _
      clear hwq a0 a1 a2 a3 a4 f0 f1 f2 f3 f4
      obtain⟨⟨a0,a1,a2,a3,a4⟩,f0,f1,f2,f3,f4⟩:=HC.out wq HWQ.out.2
      go_wp2
      obtain⟨z0,z1,zb⟩:=HEND.out wq (.int .i64 7) (.int .i64 (i:Int)) HWQ.out.2
      unfold gD at z0 z1 zb
      refine bodyPost_ret (v:=.agg #[.int .i64 7,.int .i64 (i:Int)]) (by simp [results,Tryz.results15,go_sem,z0,z1]) rfl ?_
      exact⟨zb,_,_,rfl,.inr (.inr ⟨d,f,HOO.out.1,HOO.out.2,.inl ⟨i,_,HBF.out.2.1,HBT.out,HIB.out,rfl,rfl⟩⟩)⟩
     | false=>
      have HN:Hid (∀(k:Nat) (x:Fw),k<i+1→p.fs[k]?=some x→dR p f x=false):=HNX.out rfl
      go_upto_region 8 with fail
      go_quiet ((go_at_call 50;exact Calls.quiet_of_same (HHW.out _)))
      generalize hwq:wr.drewN _=wq
      have z9:wq.cell? ⟨lb,i,none⟩=some (.int .i64 (1:Nat)):=by rw[←hwq];exact HRO.out _
      have HWQ:Hid (Bw w4 wq∧Bw w1 wq):=by rw[←hwq];exact HDB.out _
      clear hwq
      go_wp2
      exact⟨⟨i+1,HJ.out,by rw[N4.out];rfl,HN.out,HWQ.out.1⟩,by rw[N4.out];have:=HJ.out;simp [intOf];omega⟩
    ·cases hh with
     | true=>
      have HBT:Hid (dR p f ⟨nm,kd',.mk op n s es⟩=true):=by unfold Hid;rw[HBF.out.1];rfl
      have hro:=HRO.out
      go_upto_region 8 with fail
      go_quiet ((go_at_call 50;exact Calls.quiet_of_same (HHW.out _)))
      clear hro
      generalize hwq:wr.drewN _=wq
      have z9:wq.cell? ⟨lb,i,none⟩=some (.int .i64 (2:Nat)):=by rw[←hwq];exact HRO.out _
      have HWQ:Hid (Bw w4 wq∧Bw w1 wq):=by rw[←hwq];exact HDB.out _
      clear hwq a0 a1 a2 a3 a4 f0 f1 f2 f3 f4
      obtain⟨⟨a0,a1,a2,a3,a4⟩,f0,f1,f2,f3,f4⟩:=HC.out wq HWQ.out.2
      go_wp2
      obtain⟨z0,z1,zb⟩:=HEND.out wq (.int .i64 7) (.int .i64 (i:Int)) HWQ.out.2
      unfold gD at z0 z1 zb
      refine bodyPost_ret (v:=.agg #[.int .i64 7,.int .i64 (i:Int)]) (by simp [results,Tryz.results15,go_sem,z0,z1]) rfl ?_
      exact⟨zb,_,_,rfl,.inr (.inr ⟨d,f,HOO.out.1,HOO.out.2,.inl ⟨i,_,HBF.out.2.1,HBT.out,HIB.out,rfl,rfl⟩⟩)⟩
     | false=>
      have HBT:Hid (dR p f ⟨nm,kd',.mk op n s es⟩=true):=by unfold Hid;rw[HBF.out.1];rfl
      have hro:=HRO.out
      go_upto_region 8 with fail
      go_quiet ((go_at_call 50;exact Calls.quiet_of_same (HHW.out _)))
      clear hro
      generalize hwq:wr.drewN _=wq
      have z9:wq.cell? ⟨lb,i,none⟩=some (.int .i64 (2:Nat)):=by rw[←hwq];exact HRO.out _
      have HWQ:Hid (Bw w4 wq∧Bw w1 wq):=by rw[←hwq];exact HDB.out _
      clear hwq a0 a1 a2 a3 a4 f0 f1 f2 f3 f4
      obtain⟨⟨a0,a1,a2,a3,a4⟩,f0,f1,f2,f3,f4⟩:=HC.out wq HWQ.out.2
      go_wp2
      obtain⟨z0,z1,zb⟩:=HEND.out wq (.int .i64 7) (.int .i64 (i:Int)) HWQ.out.2
      unfold gD at z0 z1 zb
      refine bodyPost_ret (v:=.agg #[.int .i64 7,.int .i64 (i:Int)]) (by simp [results,Tryz.results15,go_sem,z0,z1]) rfl ?_
      exact⟨zb,_,_,rfl,.inr (.inr ⟨d,f,HOO.out.1,HOO.out.2,.inl ⟨i,_,HBF.out.2.1,HBT.out,HIB.out,rfl,rfl⟩⟩)⟩
   ·obtain rfl:N=i:=by omega
    have HBAD:Hid (∀(j:Nat) (y:Fw),p.fs[j]?=some y→dR p f y=false):=fun j y hj=>HR.out.1 j y (by have:=(aX hj).1;have:=HB.out.2.1;omega) hj
    have HBEG:Hid (Bw w4 wr):=HR.out.2
    have i1':¬(N:Int)<(N:Int):=by omega
    clear hi hil HR
    go_upto_region 12 with fail
    clear a0 a1 a2 a3 a4 f0 f1 f2 f3 f4
    have HLN:Hid (A=p.asserts.length):=HSZ.out.1
    go_loopw [8] (fun t wr=>∃i:Nat,i≤A∧t=.int .i64 i∧Hid ((∀(k:Nat) (x:Ex),k<i→p.asserts[k]?=some x→aO f x=0)∧Bw w4 wr)) (fun t _=>A-(intOf t).toNat)
    case atStart=>exact⟨0,Nat.zero_le _,rfl,fun k x hk=>by omega,HBEG.out⟩
    case round=>
     obtain⟨i,hi,rfl,HR⟩:=hrel
     have HRB:Hid (Bw w1 wr):=H4.out.2.2.trans (HR.out.2.mono H4.out.2.2.size)
     obtain⟨⟨a0,a1,a2,a3,a4⟩,f0,f1,f2,f3,f4⟩:=HC.out wr HRB.out
     by_cases hil:i<A
     ·have hif:i<p.asserts.length:=by have:=HLN.out;omega
      have hpv:=HPV.out wr HRB.out
      obtain⟨xs,h3,g3⟩:=hpv.pg.asserts
      rw[←HLN.out] at h3
      obtain⟨op,n,s,es,oo,cc,zs,ej,k2,k3,k4,k5,r3,r4⟩:=g3.at hif
      obtain⟨b,off,c',ev,_,_,gg⟩:=h3.at (by rw[h3.1];omega)
      obtain⟨rfl,rfl⟩:o4=some ⟨b,off,none⟩∧c4=c':=by simpa using ev
      have y2:=gg _ _ k2
      have y3:=gg _ _ k3
      have y4:=gg _ _ k4
      have y5:=gg _ _ k5
      rw[←Nat.add_assoc] at y3 y4 y5
      have i0':(0:Int)≤(i:Int):=by omega
      have i1':(i:Int)<(A:Int):=by omega
      have N4:Hid (wrap64 ((i:Int)+1)=(i:Int)+1):=by have:=HSZ.out;unfold Hid wrap64;omega
      have HJ:=aA hil
      have hx:p.asserts[i]?=some (.mk op n s es):=by rw[List.getElem?_eq_getElem hif,ej]
      have ht1:(.mk op n s es:Ex)∈aD p:=by unfold aD;have:=List.mem_of_getElem? hx;simp [this]
      obtain⟨v,hv⟩:∃v,v=aO f (.mk op n s es):=⟨_,rfl⟩
      have HLW:Hid (∀W,Bw wr W→Calls Tryz.prog 51 #[(.agg #[.slice o1 I c1,.slice o2 O c2,.slice o3 N c3,.slice (some ⟨b,off,none⟩) A c4,.slice o5 C c5]),.agg #[.string op,.int .i64 n,.string s,.slice oo es.length cc],.slice (some ⟨lb,0,none⟩) N N] W fun e w'=>e=.returned (.int .i64 (v:Nat))∧Bw wr w'):=fun W hW=>by
       rw[hv,←HLF.out.1]
       have hs:aP S S wr W:=fun q hq hl=>⟨hq,hW.block q hl⟩
       have hrow:oD W lb N (dP p f):=⟨aG hW (aG HR.out.2 H4.out.1),HLF.out.2⟩
       refine(HLA.out op n s es ht1 W S S oo cc lb zs _ (hpv.keep hs) hrow (r3.keep hs) (r4.keep hs)).mono ?_
       rintro e w' ⟨rfl,hb⟩
       exact⟨rfl,hW.trans (hb.mono hW.size)⟩
      have HX:Hid (p.asserts[i]?=some (.mk op n s es)∧v=aO f (.mk op n s es)):=⟨hx,hv⟩
      clear ej k2 k3 k4 k5 r3 r4 ev gg h3 g3 hpv hx ht1 hv hif hil hi
      by_cases hgt:0<v
      ·have hgt':(0:Int)<(v:Int):=by omega
       have HE:Hid (∃y∈p.asserts++p.checks,0<aO f y):=⟨_,List.mem_append_left _ (List.mem_of_getElem? HX.out.1),by rw[←HX.out.2];exact hgt⟩
       clear hgt
       go_upto_region 14 with fail
       go_region_with (go_at_call 51;refine(HLW.out _ (by first | exact Below.refl _ _ | exact(Below.refl _ _).drew)).mono ?_;rintro e w6 ⟨rfl,hb6⟩;have HB6:Hid (Bw w1 w6):=HRB.out.trans (hb6.mono HRB.out.size))
       all_goals clear hb6
       all_goals go_wp2_with (first | (go_at_call 43;refine(xU 7 w6).mono ?_;rintro e w7 ⟨rfl,hb7⟩;have HB7:Hid (Bw w1 w7):=HB6.out.trans (hb7.mono HB6.out.size);clear hb7;obtain⟨_,f0,f1,f2,f3,f4⟩:=HC.out w7 HB7.out) | fail)
       all_goals obtain⟨z0,z1,zb⟩:=HEND.out w7 (.int .i64 7) (.int .i64 (-1)) HB7.out
       all_goals unfold gD at z0 z1 zb
       all_goals refine bodyPost_ret (v:=.agg #[.int .i64 7,.int .i64 (-1)]) (by simp [results,Tryz.results15,go_sem,z0,z1]) rfl ?_
       all_goals exact⟨zb,_,_,rfl,.inr (.inr ⟨d,f,HOO.out.1,HOO.out.2,.inr ⟨HBAD.out,.inl ⟨HE.out,rfl,rfl⟩⟩⟩)⟩
      ·have hgt':¬(0:Int)<(v:Int):=by omega
       have HE:Hid (∀(k:Nat) (x:Ex),k<i+1→p.asserts[k]?=some x→aO f x=0):=fun k x hk hx=>by
        by_cases e:k=i
        ·subst e
         rw[HX.out.1] at hx
         rw[←Option.some.inj hx,←HX.out.2]
         omega
        ·exact HR.out.1 k x (by omega) hx
       have HRW:Hid (Bw w4 wr):=HR.out.2
       clear hgt HR
       go_upto_region 14 with fail
       go_region_with (go_at_call 51;refine(HLW.out _ (by first | exact Below.refl _ _ | exact(Below.refl _ _).drew)).mono ?_;rintro e w6 ⟨rfl,hb6⟩)
       all_goals go_wp2
       all_goals exact⟨⟨i+1,HJ.out,by rw[N4.out];rfl,HE.out,HRW.out.trans (hb6.mono HRW.out.size)⟩,by rw[N4.out];have:=HJ.out;simp [intOf];omega⟩
     ·obtain rfl:A=i:=by omega
      have HAS:Hid (∀y∈p.asserts,aO f y=0):=fun y hy=>by
       obtain⟨k,hk⟩:=List.mem_iff_getElem?.1 hy
       exact HR.out.1 k y (by have:=(aX hk).1;have:=HLN.out;omega) hk
      have HBEG:Hid (Bw w4 wr):=HR.out.2
      have i1':¬(A:Int)<(A:Int):=by omega
      clear hi hil HR HLN
      go_upto_region 17 with fail
      clear a0 a1 a2 a3 a4 f0 f1 f2 f3 f4
      have HLN:Hid (C=p.checks.length):=HSZ.out.2.1
      go_loopw [9] (fun t wr=>∃i:Nat,i≤C∧t=.int .i64 i∧Hid ((∀(k:Nat) (x:Ex),k<i→p.checks[k]?=some x→aO f x=0)∧Bw w4 wr)) (fun t _=>C-(intOf t).toNat)
      case atStart=>exact⟨0,Nat.zero_le _,rfl,fun k x hk=>by omega,HBEG.out⟩
      case round=>
       obtain⟨i,hi,rfl,HR⟩:=hrel
       have HRB:Hid (Bw w1 wr):=H4.out.2.2.trans (HR.out.2.mono H4.out.2.2.size)
       obtain⟨⟨a0,a1,a2,a3,a4⟩,f0,f1,f2,f3,f4⟩:=HC.out wr HRB.out
       by_cases hil:i<C
       ·have hif:i<p.checks.length:=by have:=HLN.out;omega
        have hpv:=HPV.out wr HRB.out
        obtain⟨xs,h3,g3⟩:=hpv.pg.checks
        rw[←HLN.out] at h3
        obtain⟨op,n,s,es,oo,cc,zs,ej,k2,k3,k4,k5,r3,r4⟩:=g3.at hif
        obtain⟨b,off,c',ev,_,_,gg⟩:=h3.at (by rw[h3.1];omega)
        obtain⟨rfl,rfl⟩:o5=some ⟨b,off,none⟩∧c5=c':=by simpa using ev
        have y2:=gg _ _ k2
        have y3:=gg _ _ k3
        have y4:=gg _ _ k4
        have y5:=gg _ _ k5
        rw[←Nat.add_assoc] at y3 y4 y5
        have i0':(0:Int)≤(i:Int):=by omega
        have i1':(i:Int)<(C:Int):=by omega
        have N4:Hid (wrap64 ((i:Int)+1)=(i:Int)+1):=by have:=HSZ.out;unfold Hid wrap64;omega
        have HJ:=aA hil
        have hx:p.checks[i]?=some (.mk op n s es):=by rw[List.getElem?_eq_getElem hif,ej]
        have ht1:(.mk op n s es:Ex)∈aD p:=by unfold aD;have:=List.mem_of_getElem? hx;simp [this]
        obtain⟨v,hv⟩:∃v,v=aO f (.mk op n s es):=⟨_,rfl⟩
        have HLW:Hid (∀W,Bw wr W→Calls Tryz.prog 51 #[(.agg #[.slice o1 I c1,.slice o2 O c2,.slice o3 N c3,.slice o4 A c4,.slice (some ⟨b,off,none⟩) C c5]),.agg #[.string op,.int .i64 n,.string s,.slice oo es.length cc],.slice (some ⟨lb,0,none⟩) N N] W fun e w'=>e=.returned (.int .i64 (v:Nat))∧Bw wr w'):=fun W hW=>by
         rw[hv,←HLF.out.1]
         have hs:aP S S wr W:=fun q hq hl=>⟨hq,hW.block q hl⟩
         have hrow:oD W lb N (dP p f):=⟨aG hW (aG HR.out.2 H4.out.1),HLF.out.2⟩
         refine(HLA.out op n s es ht1 W S S oo cc lb zs _ (hpv.keep hs) hrow (r3.keep hs) (r4.keep hs)).mono ?_
         rintro e w' ⟨rfl,hb⟩
         exact⟨rfl,hW.trans (hb.mono hW.size)⟩
        have HX:Hid (p.checks[i]?=some (.mk op n s es)∧v=aO f (.mk op n s es)):=⟨hx,hv⟩
        clear ej k2 k3 k4 k5 r3 r4 ev gg h3 g3 hpv hx ht1 hv hif hil hi
        by_cases hgt:0<v
        ·have hgt':(0:Int)<(v:Int):=by omega
         have HE:Hid (∃y∈p.asserts++p.checks,0<aO f y):=⟨_,List.mem_append_right _ (List.mem_of_getElem? HX.out.1),by rw[←HX.out.2];exact hgt⟩
         clear hgt
         go_upto_region 19 with fail
         go_region_with (go_at_call 51;refine(HLW.out _ (by first | exact Below.refl _ _ | exact(Below.refl _ _).drew)).mono ?_;rintro e w6 ⟨rfl,hb6⟩;have HB6:Hid (Bw w1 w6):=HRB.out.trans (hb6.mono HRB.out.size))
         all_goals clear hb6
         all_goals go_wp2_with (first | (go_at_call 43;refine(xU 7 w6).mono ?_;rintro e w7 ⟨rfl,hb7⟩;have HB7:Hid (Bw w1 w7):=HB6.out.trans (hb7.mono HB6.out.size);clear hb7;obtain⟨_,f0,f1,f2,f3,f4⟩:=HC.out w7 HB7.out) | fail)
         all_goals obtain⟨z0,z1,zb⟩:=HEND.out w7 (.int .i64 7) (.int .i64 (-1)) HB7.out
         all_goals unfold gD at z0 z1 zb
         all_goals refine bodyPost_ret (v:=.agg #[.int .i64 7,.int .i64 (-1)]) (by simp [results,Tryz.results15,go_sem,z0,z1]) rfl ?_
         all_goals exact⟨zb,_,_,rfl,.inr (.inr ⟨d,f,HOO.out.1,HOO.out.2,.inr ⟨HBAD.out,.inl ⟨HE.out,rfl,rfl⟩⟩⟩)⟩
        ·have hgt':¬(0:Int)<(v:Int):=by omega
         have HE:Hid (∀(k:Nat) (x:Ex),k<i+1→p.checks[k]?=some x→aO f x=0):=fun k x hk hx=>by
          by_cases e:k=i
          ·subst e
           rw[HX.out.1] at hx
           rw[←Option.some.inj hx,←HX.out.2]
           omega
          ·exact HR.out.1 k x (by omega) hx
         have HRW:Hid (Bw w4 wr):=HR.out.2
         clear hgt HR
         go_upto_region 19 with fail
         go_region_with (go_at_call 51;refine(HLW.out _ (by first | exact Below.refl _ _ | exact(Below.refl _ _).drew)).mono ?_;rintro e w6 ⟨rfl,hb6⟩)
         all_goals go_wp2
         all_goals exact⟨⟨i+1,HJ.out,by rw[N4.out];rfl,HE.out,HRW.out.trans (hb6.mono HRW.out.size)⟩,by rw[N4.out];have:=HJ.out;simp [intOf];omega⟩
       ·obtain rfl:C=i:=by omega
        have HCS:Hid (∀y∈p.asserts++p.checks,aO f y=0):=fun y hy=>by
         rcases List.mem_append.1 hy with hy | hy
         ·exact HAS.out y hy
         ·obtain⟨k,hk⟩:=List.mem_iff_getElem?.1 hy
          exact HR.out.1 k y (by have:=(aX hk).1;have:=HLN.out;omega) hk
        have i1':¬(C:Int)<(C:Int):=by omega
        clear hi hil HR
        go_wp2_with (first | (go_at_call 45;refine(BA wr).mono ?_;rintro e w7 ⟨rfl,hb7⟩;have HB7:Hid (Bw w1 w7):=HRB.out.trans (hb7.mono HRB.out.size);clear hb7 a0 a1 a2 a3 a4 f0 f1 f2 f3 f4;obtain⟨_,f0,f1,f2,f3,f4⟩:=HC.out w7 HB7.out) | fail)
        obtain⟨z0,z1,zb⟩:=HEND.out w7 (.int .i64 0) (.int .i64 (-1)) HB7.out
        unfold gD at z0 z1 zb
        refine bodyPost_ret (v:=.agg #[.int .i64 0,.int .i64 (-1)]) (by simp [results,Tryz.results15,go_sem,z0,z1]) rfl ?_
        exact⟨zb,_,_,rfl,.inr (.inr ⟨d,f,HOO.out.1,HOO.out.2,.inr ⟨HBAD.out,.inr ⟨HCS.out,rfl,rfl⟩⟩⟩)⟩
end Go.Proofs.YtmgfakcccfahaaaGreatDoor
