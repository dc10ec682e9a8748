/-
  package flat: Check BY CONTRACT.
-/
import Derived.Test.YtmgfakcccfahaaaGreatDoorN13
import Derived.Test.YtmgfakcccfahaaaGreatDoorN15
set_option maxRecDepth 100000
set_option maxHeartbeats 4000000
namespace Go.Proofs.YtmgfakcccfahaaaGreatDoor
open Go.RowKit Go.Maps

def gJ(p:Pg):Nat:=
 match fG (fun _=>none) (aT p) with
 | none=>1
 | some kd=>if mM p&&eD kd (aI p) then (if 30<p.ins.length∨400<p.fs.length∨4000<aC (aI p) then 2 else
   match aR kd (aI p) with
   | none=>3
   | some (ks,_)=>if ks=fT p then 0 else 3) else 1
def Cj(s b t:Value):Nat→Value
 | 0=>.nilIface
 | 1=>s
 | 2=>b
 | _=>t
structure nN(p:Pg):Prop where
 vars:p.ins.length+p.fs.length≤1000
 outs:p.outs.length≤2097152
 terms:p.fs.length+(p.asserts.length+p.checks.length)≤4000
 parts:aC (aI p)≤100000
 small:dR (aI p)
 names:∀v∈aT p,v.1.size≤maxLen
 EC:∀e∈p.outs,e.op.size≤maxLen
def Plain(w:World)(S:Nat→Prop):Prop:=∀b,S b→b<w.heap.size→∃cs t,w.heap[b]?=some (.cells cs t (0,0))
theorem Plain.keep{w w':World}{S:Nat→Prop}(h:Plain w S)(hb:Bw w w')(hl:∀b,S b→b<w'.heap.size→b<w.heap.size):Plain w' S:=fun b hS hlt=>by
 obtain⟨cs,t,hc⟩:=h b hS (hl b hS hlt)
 exact⟨cs,t,(hb.block b (hl b hS hlt)).trans hc⟩
structure E3(w:World)(st bt tt:TypeId)(sq bq tq:Value):Prop where
 shape:w.cell? ⟨4,0,none⟩=some (.iface st sq)
 bound:w.cell? ⟨2,0,none⟩=some (.iface bt bq)
 type:w.cell? ⟨3,0,none⟩=some (.iface tt tq)
theorem E3.keep{w w':World}{st bt tt:TypeId}{sq bq tq:Value}(h:E3 w st bt tt sq bq tq)(hb:Bw w w'):E3 w' st bt tt sq bq tq:=
 ⟨aD hb h.shape,aD hb h.bound,aD hb h.type⟩
theorem q9{w:World}{base n size:Nat}{e:TypeId}{v:Value}{xs:List Value}(h:w.ownsRow base e size v n xs):∃o c,v=.slice o n c∧(n=0→(o=none∧c=0)∨∃b off,o=some ⟨b,off,none⟩):=by
 rcases h.2 with⟨rfl,rfl⟩ | ⟨g,cap,cur,rfl,_⟩
 ·exact⟨none,0,rfl,fun _=>.inl ⟨rfl,rfl⟩⟩
 ·exact⟨some ⟨g,0,none⟩,cap,rfl,fun _=>.inr ⟨g,0,rfl⟩⟩
structure tO(w:World)(S:Nat→Prop)(p:Pg)(kd:List UInt8→Option Int)(K nK B:Nat)(vt:Value)(xs:List Value)(vu:Value)(st bt tt:TypeId)(sq bq tq:Value)(w':World):Prop where
 fn:aO w' K nK (aY kd)
 row:aB w' (fun b=>B≤b) 4 vt (aI p).length xs
 ex:aQ w' S (aI p) xs
 ints:dP w' vu (fT p)
 e3:E3 w' st bt tt sq bq tq
 below:Bw w w'
 plain:Plain w' S
 lt:∀b,S b→b<w'.heap.size
theorem tO.keep{w w' w'':World}{S:Nat→Prop}{p:Pg}{kd:List UInt8→Option Int}{K nK B:Nat}{vt vu:Value}{xs:List Value}{st bt tt:TypeId}{sq bq tq:Value}(h:tO w S p kd K nK B vt xs vu st bt tt sq bq tq w')(hb:Below w'.heap.size w' w''):tO w S p kd K nK B vt xs vu st bt tt sq bq tq w'':=
 ⟨h.fn.kept (hb.block _ h.fn.lt),h.row.keep (fun b hB hl=>⟨hB,hb.block b hl⟩),h.ex.keep (fun b hB hl=>⟨hB,hb.block b hl⟩),h.ints.keep hb,h.e3.keep hb,h.below.trans (hb.mono h.below.size),h.plain.keep hb (fun b hS _=>h.lt b hS),fun b hS=>Nat.lt_of_lt_of_le (h.lt b hS) hb.size⟩
theorem Gx(w:World)(S:Nat→Prop)(p:Pg)(o1 o2 o3 o4 o5:Option Addr)(c1 c2 c3 c4 c5:Nat)(hp:iY w S p (.slice o1 p.ins.length c1) (.slice o2 p.outs.length c2) (.slice o3 p.fs.length c3) (.slice o4 p.asserts.length c4) (.slice o5 p.checks.length c5))(hS:Plain w S)(hlt:∀b,S b→b<w.heap.size)(hnil:p.ins.length=0→o1=none∧c1=0)(hok:nN p)(st bt tt:TypeId)(sq bq tq:Value)(he:E3 w st bt tt sq bq tq) :
  Calls Tryz.prog 34 #[.agg #[.slice o1 p.ins.length c1,.slice o2 p.outs.length c2,.slice o3 p.fs.length c3,.slice o4 p.asserts.length c4,.slice o5 p.checks.length c5]] w fun e w'=>Bw w w'∧e=.returned (Cj (.iface st sq) (.iface bt bq) (.iface tt tq) (gJ p)):=by
 obtain⟨w1,hw1⟩:∃w1,w1=w.alloc (.cells #[.slice o1 p.ins.length c1,.slice o2 p.outs.length c2,.slice o3 p.fs.length c3,.slice o4 p.asserts.length c4,.slice o5 p.checks.length c5] 39):=⟨_,rfl⟩
 have hb1:Bw w w1:=by rw[hw1];exact aH
 have hr1:w1.heap[w.heap.size]?=some (.cells #[.slice o1 p.ins.length c1,.slice o2 p.outs.length c2,.slice o3 p.fs.length c3,.slice o4 p.asserts.length c4,.slice o5 p.checks.length c5] 39 (0,0)):=by rw[hw1];exact heap_alloc_new _ _
 obtain⟨pb,hpb⟩:∃pb,pb=w.heap.size:=⟨_,rfl⟩
 rw[←hpb] at hr1
 have hst:∀{w':World},Bw w w'→aJ S S w w':=fun hb b hS hl=>⟨hS,hb.block b hl⟩
 have hk:=Oh w1 S p o1 o3 c1 c3 _ _ _ (hp.keep (hst hb1)) hnil hok.vars hok.names
 have c0:∀{w':World},w'.heap[pb]?=some (.cells #[.slice o1 p.ins.length c1,.slice o2 p.outs.length c2,.slice o3 p.fs.length c3,.slice o4 p.asserts.length c4,.slice o5 p.checks.length c5] 39 (0,0))→w'.cell? ⟨pb,0,none⟩=some (.slice o1 p.ins.length c1)∧w'.cell? ⟨pb,0+1,none⟩=some (.slice o2 p.outs.length c2)∧w'.cell? ⟨pb,0+2,none⟩=some (.slice o3 p.fs.length c3)∧w'.cell? ⟨pb,0+3,none⟩=some (.slice o4 p.asserts.length c4)∧w'.cell? ⟨pb,0+4,none⟩=some (.slice o5 p.checks.length c5):=fun {w'} h=>by
  refine⟨?_,?_,?_,?_,?_⟩<;>rw[cell_of_row w' _ _ _ _ (0,0) h]<;>rfl
 have HC0:Hid (∀{w':World},w'.heap[pb]?=some (.cells #[.slice o1 p.ins.length c1,.slice o2 p.outs.length c2,.slice o3 p.fs.length c3,.slice o4 p.asserts.length c4,.slice o5 p.checks.length c5] 39 (0,0))→w'.cell? ⟨pb,0,none⟩=some (.slice o1 p.ins.length c1)∧w'.cell? ⟨pb,0+1,none⟩=some (.slice o2 p.outs.length c2)∧w'.cell? ⟨pb,0+2,none⟩=some (.slice o3 p.fs.length c3)∧w'.cell? ⟨pb,0+3,none⟩=some (.slice o4 p.asserts.length c4)∧w'.cell? ⟨pb,0+4,none⟩=some (.slice o5 p.checks.length c5)):=c0
 have HST:Hid (∀{w':World},Bw w w'→aJ S S w w'):=hst
 have HK:=aA hk
 have HP:=aA hp
 have HPL:Hid (Plain w S∧∀b,S b→b<w.heap.size):=⟨hS,hlt⟩
 have HOK:=aA hok
 have HE3:=aA he
 have HB1:=aA hb1
 have HR1:=aA hr1
 have HW1:Hid (w.alloc (.cells #[.slice o1 p.ins.length c1,.slice o2 p.outs.length c2,.slice o3 p.fs.length c3,.slice o4 p.asserts.length c4,.slice o5 p.checks.length c5] 39)=w1):=hw1.symm
 have HPB:Hid (w.heap.size=pb):=hpb.symm
 obtain⟨x1,x2,x3,x4,x5⟩:=c0 hr1
 clear hp hS hlt hnil hok he hb1 hr1 hst hk c0 hpb hw1
 go_enter Tryz.func34,Tryz.ntmps34
 go_upto_region 1 with fail
 rw[HW1.out,HPB.out]
 go_wp2_with fail
 refine HK.out.mono ?_
 rintro e w2 ⟨hb2,hk2⟩
 have hr2:=aN hb2 HR1.out
 have hb02:=HB1.out.trans (hb2.mono HB1.out.size)
 have HT:Hid (Calls Tryz.prog 74 #[.agg #[.slice o1 p.ins.length c1,.slice o2 p.outs.length c2,.slice o3 p.fs.length c3,.slice o4 p.asserts.length c4,.slice o5 p.checks.length c5]] w2 fun e w'=>∃v u n xs,e=.returned (.tuple #[v,u])∧n=(aI p).length∧w'.ownsRow w2.heap.size 92 4 v n xs∧aQ w2 S (aI p) xs∧w'.ownsRow w2.heap.size 3 1 u n (fK (fT p))∧Bw w2 w'):=JP w2 S p o3 o4 o5 c3 c4 c5 _ _ (HP.out.keep (HST.out hb02)) HOK.out.terms
 have HB2:=aA hb02
 have HR2:=aA hr2
 clear x1 x2 x3 x4 x5
 obtain⟨x1,x2,x3,x4,x5⟩:=HC0.out hr2
 clear hb2 hr2 hb02 HK HB1 HR1 HW1
 rcases hk2 with⟨kd,K,nK,hkr,rfl,hfn,hKl⟩ | ⟨hkr,rfl⟩
 ·have HKR:=aA hkr
  have HFN:=aA hfn
  clear hkr hfn hKl
  go_upto_region 2 with fail
  go_wp2_with fail
  refine HT.out.mono ?_
  rintro e w3 ⟨v,u,n,xs,rfl,hn,hov,hex,hou,hb3⟩
  subst hn
  obtain⟨ov,cv,rfl,hnv⟩:=q9 hov
  obtain⟨ou,cu,rfl,_⟩:=q9 hou
  have hb03:=HB2.out.trans (hb3.mono HB2.out.size)
  have hkl:(fT p).length=(aI p).length:=by simp [fT,aI]
  have hch:tO w S p kd K nK w2.heap.size (.slice ov (aI p).length cv) xs (.slice ou (aI p).length cu) st bt tt sq bq tq w3:=
   ⟨HFN.out.kept (hb3.block _ HFN.out.lt),aB.iH hov,hex.keep (fun b hB hl=>⟨hB,hb3.block b hl⟩),BN hou hkl (by have:=HOK.out.terms;simp [aI,maxLen];omega),HE3.out.keep hb03,hb03,HPL.out.1.keep hb03 (fun b hS _=>HPL.out.2 b hS),fun b hS=>Nat.lt_of_lt_of_le (HPL.out.2 b hS) hb03.size⟩
  have hr3:=aN hb3 HR2.out
  have HCH:=aA hch
  have HNV:=aA hnv
  have HKL:=aA hkl
  have HR3:=aA hr3
  have HOA:Hid (Calls Tryz.prog 75 #[.agg #[.slice o1 p.ins.length c1,.slice o2 p.outs.length c2,.slice o3 p.fs.length c3,.slice o4 p.asserts.length c4,.slice o5 p.checks.length c5]] w3 fun e w'=>Bw w3 w'∧e=.returned (.bool (mM p))):=Ma w3 S p o2 o3 c2 c3 _ _ _ (HP.out.keep (HST.out hb03)) ⟨HOK.out.outs,by have:=HOK.out.vars;omega⟩ (fun x hx=>HOK.out.names (x.name,x.kind) (by unfold aT gL;exact List.mem_append_right _ (List.mem_map.2 ⟨x,hx,rfl⟩))) HOK.out.EC
  clear x1 x2 x3 x4 x5
  obtain⟨x1,x2,x3,x4,x5⟩:=HC0.out hr3
  clear hov hex hou hb3 hb03 hch hr3 hnv hkl HT HB2 HR2 HFN
  obtain⟨ob,hob⟩:∃ob,ob=mM p:=⟨_,rfl⟩
  rw[←hob] at HOA
  have HOB:=aA hob
  clear hob
  obtain⟨tl,htl⟩:∃tl,tl=(aI p).length:=⟨_,rfl⟩
  rw[←htl] at HCH HNV HKL ⊢
  have HTL:=aA htl
  clear htl
  go_upto_region 3 with fail
  go_wp2_with fail
  refine HOA.out.mono ?_
  rintro e w4 ⟨hb4,rfl⟩
  have HCH4:Hid (tO w S p kd K nK w2.heap.size (.slice ov tl cv) xs (.slice ou tl cu) st bt tt sq bq tq w4):=HCH.out.keep hb4
  have HR4:Hid (w4.heap[pb]?=some (.cells #[.slice o1 p.ins.length c1,.slice o2 p.outs.length c2,.slice o3 p.fs.length c3,.slice o4 p.asserts.length c4,.slice o5 p.checks.length c5] 39 (0,0))):=aN hb4 HR3.out
  clear hb4 x1 x2 x3 x4 x5 HCH HR3 HOA
  cases ob with
  | false=>
   have HE:Hid (gJ p=1):=by unfold Hid gJ;rw[HKR.out];simp only[←HOB.out];rfl
   have es:=HCH4.out.e3.shape
   have HB4:Hid (Bw w w4):=HCH4.out.below
   go_wp2
   go_ret
   exact⟨HB4.out,by rw[HE.out];rfl⟩
  | true=>
   have haf:=QI kd w4 K nK HCH4.out.fn S (fun b=>w2.heap.size≤b) HCH4.out.plain (aI p) ov cv xs (by rw[←HTL.out];have:=HCH4.out.row;rwa [←HTL.out] at this) HCH4.out.ex (by rw[←HTL.out];exact HNV.out) (by have:=HOK.out.terms;simp [aI];omega) HOK.out.parts HOK.out.small
   rw[←HTL.out] at haf
   obtain⟨fm,hfm⟩:∃fm,fm=eD kd (aI p):=⟨_,rfl⟩
   rw[←hfm] at haf
   have HAF:=aA haf
   have HFM:=aA hfm
   clear haf hfm
   go_wp2_with fail
   refine HAF.out.mono ?_
   rintro e w5 ⟨hb5,rfl⟩
   have HCH5:Hid (tO w S p kd K nK w2.heap.size (.slice ov tl cv) xs (.slice ou tl cu) st bt tt sq bq tq w5):=HCH4.out.keep hb5
   have HR5:Hid (w5.heap[pb]?=some (.cells #[.slice o1 p.ins.length c1,.slice o2 p.outs.length c2,.slice o3 p.fs.length c3,.slice o4 p.asserts.length c4,.slice o5 p.checks.length c5] 39 (0,0))):=aN hb5 HR4.out
   clear hb5 HCH4 HR4 HAF
   cases fm with
   | false=>
    have HE:Hid (gJ p=1):=by unfold Hid gJ;rw[HKR.out];simp only[←HOB.out,←HFM.out];rfl
    have es:=HCH5.out.e3.shape
    have HB5:Hid (Bw w w5):=HCH5.out.below
    go_wp2
    go_ret
    exact⟨HB5.out,by rw[HE.out];rfl⟩
   | true=>
    have HF0:Hid (gJ p=if 30<p.ins.length∨400<p.fs.length∨4000<aC (aI p) then 2 else match aR kd (aI p) with
      | none=>3
      | some (ks,_)=>if ks=fT p then 0 else 3):=by unfold Hid gJ;rw[HKR.out];simp only[←HOB.out,←HFM.out];rfl
    obtain⟨x1,x2,x3,x4,x5⟩:=HC0.out HR5.out
    obtain⟨ni,hni⟩:∃ni,ni=p.ins.length:=⟨_,rfl⟩
    obtain⟨nf,hnf⟩:∃nf,nf=p.fs.length:=⟨_,rfl⟩
    have eb:=HCH5.out.e3.bound
    have HB5:Hid (Bw w w5):=HCH5.out.below
    rw[←hni] at x1 ⊢
    rw[←hnf] at x3 ⊢
    have HNI:Hid (ni=p.ins.length∧nf=p.fs.length):=⟨hni,hnf⟩
    clear hni hnf
    by_cases h30:30<ni
    ·have HE:Hid (gJ p=2):=by unfold Hid;rw[HF0.out,if_pos (.inl (by rw[←HNI.out.1];exact h30))]
     have d0:((30:Int)<(ni:Int))=True:=eq_true (by omega)
     clear h30
     go_wp2
     go_ret
     exact⟨HB5.out,by rw[HE.out];rfl⟩
    ·have d0:((30:Int)<(ni:Int))=False:=eq_false (by omega)
     by_cases h400:400<nf
     ·have HE:Hid (gJ p=2):=by unfold Hid;rw[HF0.out,if_pos (.inr (.inl (by rw[←HNI.out.2];exact h400)))]
      have d1:((400:Int)<(nf:Int))=True:=eq_true (by omega)
      clear h30 h400
      go_wp2
      go_ret
      exact⟨HB5.out,by rw[HE.out];rfl⟩
     ·have d1:((400:Int)<(nf:Int))=False:=eq_false (by omega)
      have hrw:aB w5 (fun _=>True) 4 (.slice ov (aI p).length cv) (aI p).length xs:=by have:=HCH5.out.row.keep (S':=fun _=>True) (w':=w5) (fun b _ _=>⟨trivial,rfl⟩);rwa [HTL.out] at this
      have hexx:aQ w5 (fun _=>True) (aI p) xs:=HCH5.out.ex.keep (fun b _ _=>⟨trivial,rfl⟩)
      have hbd:=G6 (aI p) w5 (fun _=>True) ov cv xs hrw hexx
      rw[←HTL.out] at hbd
      obtain⟨bd,hbde⟩:∃bd,bd=decide (aC (aI p)≤4000):=⟨_,rfl⟩
      rw[←hbde] at hbd
      have HBD:=aA hbd
      have HBE:=aA hbde
      have H34:Hid (¬30<ni∧¬400<nf):=⟨h30,h400⟩
      clear hrw hexx hbd hbde h30 h400
      go_wp2_with fail
      refine HBD.out.mono ?_
      rintro e w6 ⟨hb6,rfl⟩
      have HCH6:Hid (tO w S p kd K nK w2.heap.size (.slice ov tl cv) xs (.slice ou tl cu) st bt tt sq bq tq w6):=HCH5.out.keep hb6
      have HB6:Hid (Bw w w6):=HCH6.out.below
      clear hb6 x1 x2 x3 x4 x5 eb HB5 HCH5 HR5 HBD
      cases bd with
      | false=>
       have HE:Hid (gJ p=2):=by unfold Hid;rw[HF0.out,if_pos (.inr (.inr (by have:=of_decide_eq_false HBE.out.symm;omega)))]
       have eb:=HCH6.out.e3.bound
       go_wp2
       go_ret
       exact⟨HB6.out,by rw[HE.out];rfl⟩
      | true=>
       have HF1:Hid (gJ p=match aR kd (aI p) with
         | none=>3
         | some (ks,_)=>if ks=fT p then 0 else 3):=by
        unfold Hid
        rw[HF0.out,if_neg]
        have h1:=of_decide_eq_true HBE.out.symm
        have h2:=H34.out
        rw[HNI.out.1,HNI.out.2] at h2
        omega
       have hrw:aB w6 (fun _=>True) 4 (.slice ov (aI p).length cv) (aI p).length xs:=by have:=HCH6.out.row.keep (S':=fun _=>True) (w':=w6) (fun b _ _=>⟨trivial,rfl⟩);rwa [HTL.out] at this
       have hexx:aQ w6 (fun _=>True) (aI p) xs:=HCH6.out.ex.keep (fun b _ _=>⟨trivial,rfl⟩)
       have hte:=JO kd (aI p) w6 K nK HCH6.out.fn (xW _ HFM.out.symm HOK.out.small) (fun _=>True) ov cv xs hrw hexx tt bt tq bq HCH6.out.e3.type HCH6.out.e3.bound
       rw[←HTL.out] at hte
       have HTE:=aA hte
       have hsz4:aC (aI p)≤4000:=of_decide_eq_true HBE.out.symm
       have HSZ:=aA hsz4
       clear hsz4
       clear hrw hexx hte
       go_wp2_with fail
       refine HTE.out.mono ?_
       rintro e w7 ⟨hb7,⟨hz,_⟩ | ⟨_,hty,rfl⟩ | ⟨_,ks,qs,ta,tc,hty,rfl,hin⟩⟩
       ·exact absurd hz (by have:=HSZ.out;omega)
       ·have HE:Hid (gJ p=3):=by unfold Hid;rw[HF1.out,hty]
        have HCH7:=HCH6.out.keep hb7
        have et:=HCH7.e3.type
        have HB7:Hid (Bw w w7):=HCH7.below
        clear hb7 hty HCH7
        go_wp2
        go_ret
        exact⟨HB7.out,by rw[HE.out];rfl⟩
       ·have HCH7:=HCH6.out.keep hb7
        have et:=HCH7.e3.type
        have HB7:Hid (Bw w w7):=HCH7.below
        have hie:=HCH7.ints
        rw[←HKL.out] at hie
        have hkn:ks.length=tl:=by rw[pX hty,HTL.out]
        have heq:=PI w7 ks (fT p) ta ou tc cu hin hie (by have:=HOK.out.terms;have h2:=HTL.out;rw[hkn,h2];simp [aI];omega)
        rw[HKL.out,hkn] at heq
        obtain⟨q,hq⟩:∃q,q=decide (ks=fT p):=⟨_,rfl⟩
        rw[←hq] at heq
        have HEQ:=aA heq
        have HE:Hid (gJ p=if q then 0 else 3):=by
         unfold Hid
         rw[HF1.out,hty,hq]
         simp only[decide_eq_true_eq]
        have HC7:Hid (tO w S p kd K nK w2.heap.size (.slice ov tl cv) xs (.slice ou tl cu) st bt tt sq bq tq w7):=HCH7
        rw[hkn]
        clear hb7 hty hin hie hkn heq hq HCH7
        go_wp2_with fail
        refine HEQ.out.mono ?_
        rintro e w8 ⟨hb8,rfl⟩
        have HCH8:=HC7.out.keep hb8
        have et:=HCH8.e3.type
        have HB8:Hid (Bw w w8):=HCH8.below
        clear hb8 HCH8
        cases q with
        | true=>
         go_wp2
         go_ret
         exact⟨HB8.out,by rw[HE.out];rfl⟩
        | false=>
         go_wp2
         go_ret
         exact⟨HB8.out,by rw[HE.out];rfl⟩
 ·have HE:Hid (gJ p=1):=by unfold Hid gJ;rw[hkr]
  clear hkr
  go_upto_region 2 with fail
  go_wp2_with fail
  refine HT.out.mono ?_
  rintro e w3 ⟨v,u,n,xs,rfl,hn,hov,hex,hou,hb3⟩
  have hb03:=HB2.out.trans (hb3.mono HB2.out.size)
  have es:=(HE3.out.keep hb03).shape
  have HB3:=aA hb03
  clear hn hov hex hou hb3 hb03 x1 x2 x3 x4 x5
  go_wp2
  go_ret
  exact⟨HB3.out,by rw[HE.out];rfl⟩
def dM(w:World)(base nb:Nat)(F:Nat→Prop)(ls:List (List Int)):Prop:=
 ∃vs:List Value,w.heap[nb]?=some (.cells vs.toArray 30 (0,0))∧vs.length=ls.length∧base≤nb∧(∀k,F k→k<w.heap.size) ∧
  (∀(i:Nat) (v:Value) (l:List Int),vs[i]?=some v→ls[i]?=some l→w.ownsRow base 3 1 v l.length (l.map (Value.int .i64))∧∀k,v.ownBlock=some k→k≠nb∧¬F k) ∧
  ∀(i j:Nat) (v u:Value),i≠j→vs[i]?=some v→vs[j]?=some u→∀k,v.ownBlock=some k→u.ownBlock≠some k
theorem dM.move{w w':World}{base nb:Nat}{F:Nat→Prop}{ls:List (List Int)}(h:dM w base nb F ls)(hs:w.heap.size≤w'.heap.size)(hk:∀k,base≤k→¬F k→k<w.heap.size→w'.heap[k]?=w.heap[k]?)(hn:w'.heap[nb]?=w.heap[nb]?):dM w' base nb F ls:=by
 obtain⟨vs,h1,h2,h3,h4,h5,h6⟩:=h
 refine⟨vs,hn.trans h1,h2,h3,fun k hF=>Nat.lt_of_lt_of_le (h4 k hF) hs,fun i v l hv hl=>?_,h6⟩
 obtain⟨g1,g2⟩:=h5 i v l hv hl
 exact⟨iM g1 (fun k hb=>hk k (g1.lt k hb).1 (g2 k hb).2 (g1.lt k hb).2),g2⟩
theorem dM.alloc{w:World}{base nb:Nat}{F:Nat→Prop}{ls:List (List Int)}(h:dM w base nb F ls)(o:Obj):dM (w.alloc o) base nb F ls:=by
 have hb:Bw w (w.alloc o):=aH
 refine h.move hb.size (fun k _ _ hk=>hb.block k hk) (hb.block nb ?_)
 obtain⟨vs,h1,_⟩:=h
 exact(bN h1).1
theorem dM.below{w w':World}{base nb:Nat}{F:Nat→Prop}{ls:List (List Int)}(h:dM w base nb F ls)(hb:Bw w w'):dM w' base nb F ls:=by
 refine h.move hb.size (fun k _ _ hk=>hb.block k hk) (hb.block nb ?_)
 obtain⟨vs,h1,_⟩:=h
 exact(bN h1).1
theorem dM.fewer{w:World}{base nb:Nat}{F F':Nat→Prop}{ls:List (List Int)}(h:dM w base nb F ls)(hF:∀k,F' k→F k):dM w base nb F' ls:=by
 obtain⟨vs,h1,h2,h3,h4,h5,h6⟩:=h
 exact⟨vs,h1,h2,h3,fun k hk=>h4 k (hF k hk),fun i v l hv hl=>⟨(h5 i v l hv hl).1,fun k hk=>⟨((h5 i v l hv hl).2 k hk).1,fun hf=>((h5 i v l hv hl).2 k hk).2 (hF k hf)⟩⟩,h6⟩
theorem dM.lt{w:World}{base nb:Nat}{F:Nat→Prop}{ls:List (List Int)}(h:dM w base nb F ls):nb<w.heap.size:=by
 obtain⟨vs,h1,_⟩:=h
 exact(bN h1).1
theorem dM.at{w:World}{base nb:Nat}{F:Nat→Prop}{ls:List (List Int)}(h:dM w base nb F ls){i:Nat}{l:List Int}(hl:ls[i]?=some l):∃o c,w.cell? ⟨nb,i,none⟩=some (.slice o l.length c)∧w.frozen? ⟨nb,i,none⟩=false∧w.ownsRow base 3 1 (.slice o l.length c) l.length (l.map (Value.int .i64))∧∀k,(Value.slice o l.length c).ownBlock=some k→k≠nb∧¬F k:=by
 obtain⟨vs,h1,h2,h3,h4,h5,h6⟩:=h
 obtain⟨v,hv⟩:∃v,vs[i]?=some v:=⟨_,List.getElem?_eq_getElem (by have:=(bA hl).1;omega)⟩
 obtain⟨g1,g2⟩:=h5 i v l hv hl
 obtain⟨o,c,rfl,_⟩:=q9 g1
 refine⟨o,c,?_,by simp [World.frozen?,h1],g1,g2⟩
 rw[cell_of_row w nb i _ _ (0,0) h1]
 simpa using hv
theorem dM.grown{w w':World}{base nb:Nat}{F:Nat→Prop}{ls:List (List Int)}(h:dM w base nb F ls){i:Nat}{l l':List Int}(hl:ls[i]?=some l){o:Option Addr}{c g cap:Nat}(hc:w.cell? ⟨nb,i,none⟩=some (.slice o l.length c))(hg:w.grownBy w' (Value.slice o l.length c).ownBlock)(ha:(Value.slice o l.length c).ownBlock=some g∨g=w.heap.size)(ho:w'.ownsRow base 3 1 (.slice (some ⟨g,0,none⟩) l'.length cap) l'.length (l'.map (Value.int .i64))):dM (w'.setCell ⟨nb,i,none⟩ (.slice (some ⟨g,0,none⟩) l'.length cap)) base nb F (ls.set i l'):=by
 have hlt:=h.lt
 obtain⟨vs,h1,h2,h3,h4,h5,h6⟩:=h
 have hil:=(bA hl).1
 have hvi:vs[i]?=some (.slice o l.length c):=by
  rw[cell_of_row w nb i _ _ (0,0) h1] at hc
  simpa using hc
 obtain⟨g1,g2⟩:=h5 i _ l hvi hl
 have hnb:w'.heap[nb]?=some (.cells vs.toArray 30 (0,0)):=(hg.block nb hlt (fun e=>(g2 nb e.symm).1 rfl)).trans h1
 have hset:∀q,q≠nb→(w'.setCell ⟨nb,i,none⟩ (.slice (some ⟨g,0,none⟩) l'.length cap)).heap[q]?=w'.heap[q]?:=fun q hq=>Below.heap_setCell w' ⟨nb,i,none⟩ _ q hq
 have hgn:g≠nb∧¬F g:=by
  rcases ha with ha | rfl
  ·exact g2 g ha
  ·exact⟨fun e=>by omega,fun hF=>by have:=h4 _ hF;omega⟩
 have hkeep:∀q,q<w.heap.size→(Value.slice o l.length c).ownBlock≠some q→q≠nb→(w'.setCell ⟨nb,i,none⟩ (.slice (some ⟨g,0,none⟩) l'.length cap)).heap[q]?=w.heap[q]?:=fun q hq hne hqn=>(hset q hqn).trans (hg.block q hq (fun e=>hne e.symm))
 refine⟨vs.set i (.slice (some ⟨g,0,none⟩) l'.length cap),?_,by simp [h2],h3,fun k hF=>?_,fun j v l2 hv hl2=>?_,fun j k v u hjk hv hu q hq hq2=>?_⟩
 ·rw[heap_setCell_same w' nb i _ _ _ hnb]
  simp
 ·rw[size_setCell]
  exact Nat.lt_of_lt_of_le (h4 k hF) hg.size
 ·by_cases e:i=j
  ·subst e
   rw[List.getElem?_set_self (by omega)] at hv hl2
   obtain rfl:=Option.some.inj hv
   obtain rfl:=Option.some.inj hl2
   refine⟨iM ho (fun k hk=>hset k ?_),fun k hk=>?_⟩
   ·obtain rfl:g=k:=by simpa [Value.ownBlock] using hk
    exact hgn.1
   ·obtain rfl:g=k:=by simpa [Value.ownBlock] using hk
    exact hgn
  ·rw[List.getElem?_set_ne e] at hv hl2
   obtain⟨f1,f2⟩:=h5 j v l2 hv hl2
   exact⟨iM f1 (fun k hk=>hkeep k (f1.lt k hk).2 (fun e2=>h6 i j _ v e hvi hv k e2 hk) (f2 k hk).1),f2⟩
 ·by_cases e:i=j
  ·subst e
   rw[List.getElem?_set_self (by omega)] at hv
   obtain rfl:=Option.some.inj hv
   obtain rfl:g=q:=by simpa [Value.ownBlock] using hq
   rw[List.getElem?_set_ne hjk] at hu
   obtain⟨l2,hl2⟩:∃l2,ls[k]?=some l2:=⟨_,List.getElem?_eq_getElem (by have:=(bA hu).1;omega)⟩
   rcases ha with ha | rfl
   ·exact h6 i k _ u hjk hvi hu g ha hq2
   ·have:=((h5 k u l2 hu hl2).1.lt _ hq2).2;omega
  ·rw[List.getElem?_set_ne e] at hv
   by_cases e2:i=k
   ·subst e2
    rw[List.getElem?_set_self (by omega)] at hu
    obtain rfl:=Option.some.inj hu
    obtain rfl:g=q:=by simpa [Value.ownBlock] using hq2
    obtain⟨l2,hl2⟩:∃l2,ls[j]?=some l2:=⟨_,List.getElem?_eq_getElem (by have:=(bA hv).1;omega)⟩
    rcases ha with ha | rfl
    ·exact h6 j i v _ hjk hv hvi g hq ha
    ·have:=((h5 j v l2 hv hl2).1.lt _ hq).2;omega
   ·rw[List.getElem?_set_ne e2] at hu
    exact h6 j k v u hjk hv hu q hq hq2

structure fZ(w0:World)(p3 p6 p7 K nK nb:Nat)(num:List UInt8→Option Int)(i:Nat)(ls:List (List Int))(wr:World):Prop where
 c3:wr.heap[p3]?=some (.cells #[.map (some K)] 96 (0,0))
 c6:wr.heap[p6]?=some (.cells #[.slice (some ⟨nb,0,none⟩) ls.length ls.length] 80 (0,0))
 c7:wr.heap[p7]?=some (.cells #[.int .i64 i] 3 (0,0))
 fn:aO wr K nK (aY num)
 rows:dM wr w0.heap.size nb (fun k=>k=p3∨k=p6∨k=p7∨k=K) ls
 ne:p3≠nb∧p6≠nb∧p7≠nb∧K≠nb
 below:Bw w0 wr
theorem fZ.keep{w0 wr w':World}{p3 p6 p7 K nK nb i:Nat}{num:List UInt8→Option Int}{ls:List (List Int)}(h:fZ w0 p3 p6 p7 K nK nb num i ls wr)(hb:Bw wr w'):fZ w0 p3 p6 p7 K nK nb num i ls w':=
 ⟨aN hb h.c3,aN hb h.c6,aN hb h.c7,h.fn.kept (hb.block _ h.fn.lt),h.rows.below hb,h.ne,h.below.trans (hb.mono h.below.size)⟩
theorem fZ.grown{w0 wr w':World}{p3 p6 p7 K nK nb i:Nat}{num:List UInt8→Option Int}{ls:List (List Int)}(h:fZ w0 p3 p6 p7 K nK nb num i ls wr){l l':List Int}(hl:ls[i]?=some l){o:Option Addr}{c g cap:Nat}(hc:wr.cell? ⟨nb,i,none⟩=some (.slice o l.length c))(hw:wr.ownsRow w0.heap.size 3 1 (.slice o l.length c) l.length (l.map (Value.int .i64))∧∀k,(Value.slice o l.length c).ownBlock=some k→k≠nb∧¬(k=p3∨k=p6∨k=p7∨k=K))(hg:wr.grownBy w' (Value.slice o l.length c).ownBlock)(ha:(Value.slice o l.length c).ownBlock=some g∨g=wr.heap.size)(ho:w'.ownsRow w0.heap.size 3 1 (.slice (some ⟨g,0,none⟩) l'.length cap) l'.length (l'.map (Value.int .i64))):fZ w0 p3 p6 p7 K nK nb num i (ls.set i l') (w'.setCell ⟨nb,i,none⟩ (.slice (some ⟨g,0,none⟩) l'.length cap)):=by
 have hset:∀q,q≠nb→(w'.setCell ⟨nb,i,none⟩ (.slice (some ⟨g,0,none⟩) l'.length cap)).heap[q]?=w'.heap[q]?:=fun q hq=>Below.heap_setCell w' ⟨nb,i,none⟩ _ q hq
 have hk:∀q,q<wr.heap.size→(q=p3∨q=p6∨q=p7∨q=K)→q≠nb→(w'.setCell ⟨nb,i,none⟩ (.slice (some ⟨g,0,none⟩) l'.length cap)).heap[q]?=wr.heap[q]?:=fun q hq hF hn=>(hset q hn).trans (hg.block q hq (fun e=>(hw.2 q e.symm).2 hF))
 have hlt:∀{k:Nat} {o:Obj},wr.heap[k]?=some o→k<wr.heap.size:=fun h=>(bN h).1
 refine⟨(hk p3 (hlt h.c3) (.inl rfl) h.ne.1).trans h.c3,?_,(hk p7 (hlt h.c7) (.inr (.inr (.inl rfl))) h.ne.2.2.1).trans h.c7,h.fn.kept (hk K h.fn.lt (.inr (.inr (.inr rfl))) h.ne.2.2.2),h.rows.grown hl hc hg ha ho,h.ne,?_⟩
 ·rw[List.length_set]
  exact(hk p6 (hlt h.c6) (.inr (.inl rfl)) h.ne.2.1).trans h.c6
 ·have h1:Bw w0 w':=h.below.grown hg h.below.size (fun k hk=>(hw.1.lt k hk).1)
  obtain⟨vs,_,_,h3,_⟩:=h.rows
  exact⟨h1.os,h1.tape,h1.output,by rw[size_setCell];exact h1.size,fun k hk=>(hset k (by omega)).trans (h1.block k hk)⟩
theorem set_self{α:Type}{l:List α}{i:Nat}{x:α}(h:l[i]?=some x):l.set i x=l:=by
 apply List.ext_getElem?
 intro j
 by_cases e:i=j
 ·subst e
  rw[List.getElem?_set_self (bA h).1,h]
 ·rw[List.getElem?_set_ne e]
theorem KR{w0 w:World}{p3 p6 p7 K nK nb i:Nat}{num:List UInt8→Option Int}{ls:List (List Int)}(h:fZ w0 p3 p6 p7 K nK nb num i ls w){l:List Int}(hl:ls[i]?=some l)(s:ByteArray)(hs:s.size≤maxLen)(hb:l.length+1≤1000000) :
  Calls Tryz.prog 81 #[.string s,.pointer (some ⟨p3,0,none⟩),.pointer (some ⟨p6,0,none⟩),.pointer (some ⟨p7,0,none⟩)] w fun e w'=>e=.returned (.tuple #[])∧fZ w0 p3 p6 p7 K nK nb num i (ls.set i (l++(num s.data.toList).toList)) w':=by
 obtain⟨i0,hi0,hz0,hz1,hz2⟩:=info_parts Tryz.kT
 have c3:w.cell? ⟨p3,0,none⟩=some (.map (some K)):=cr h.c3 rfl
 have hlk:=h.fn.look Tryz.underlying96 (jO w) s hs
 have e1:(aY num s.data.toList).getD (.int .i64 0)=.int .i64 ((num s.data.toList).getD 0):=nA _
 have e2:(aY num s.data.toList).isSome=(num s.data.toList).isSome:=by unfold aY;cases num s.data.toList<;>rfl
 rw[e1,e2] at hlk
 cases hn:num s.data.toList with
 | none=>
  rw[hn] at hlk
  have hlk':(Instr.lookup 96 (.map (some K)) (.string s) true).run Tryz.prog w=.ok (.tuple #[.int .i64 0,.bool false]) w:=hlk
  have HE:Hid (fZ w0 p3 p6 p7 K nK nb num i (ls.set i (l++(none:Option Int).toList)) w):=by
   unfold Hid
   rw[Option.toList_none,List.append_nil,set_self hl]
   exact h
  clear h hl hs hb e1 e2 hn hlk
  go_enter Tryz.func81,Tryz.ntmps81
  go_wp2
  go_end0
  exact⟨rfl,HE.out⟩
 | some x=>
  rw[hn] at hlk
  have hlk':(Instr.lookup 96 (.map (some K)) (.string s) true).run Tryz.prog w=.ok (.tuple #[.int .i64 x,.bool true]) w:=hlk
  obtain⟨o,c,hc,hfz,how,hob⟩:=h.rows.at hl
  have hil:=(bA hl).1
  have HH:=aA h
  have c6:w.drew.cell? ⟨p6,0,none⟩=some (.slice (some ⟨nb,0,none⟩) ls.length ls.length):=by rw[cell_of_row w.drew _ _ _ _ (0,0) (show w.drew.heap[p6]?=_ from h.c6)];rfl
  have c7:w.drew.cell? ⟨p7,0,none⟩=some (.int .i64 i):=by rw[cell_of_row w.drew _ _ _ _ (0,0) (show w.drew.heap[p7]?=_ from h.c7)];rfl
  have cn:w.drew.cell? ⟨nb,i,none⟩=some (.slice o l.length c):=hc
  have i0':(0:Int)≤(i:Int):=by omega
  have i1':(i:Int)<(ls.length:Int):=by omega
  clear hlk e1 e2
  go_enter Tryz.func81,Tryz.ntmps81
  go_wp2
  refine fI 10 (fun w'=>w'.cell? ⟨p6,0,none⟩=some (.slice (some ⟨nb,0,none⟩) ls.length ls.length)∧w'.cell? ⟨p7,0,none⟩=some (.int .i64 i)) (fun w'=>w'.cell? ⟨nb,i,none⟩=some (.slice o l.length c)) (by kernel_rfl) ⟨c6,c7⟩ cn (fun hh=>?_)
  refine tj 0 14 (.slice (some ⟨nb,0,none⟩) ls.length ls.length) rfl (by rintro w ⟨a1,a2⟩;go_simp) hh ?_
  refine tj 1 15 (.int .i64 i) rfl (by rintro w ⟨a1,a2⟩;go_simp) hh ?_
  refine tj 2 16 (.slice (some ⟨nb,0,none⟩) ls.length ls.length) rfl (by rintro w ⟨a1,a2⟩;go_simp) hh ?_
  refine tj 3 17 (.int .i64 i) rfl (by rintro w ⟨a1,a2⟩;go_simp) hh ?_
  refine tj 4 18 (.pointer (some ⟨nb,i,none⟩)) rfl (by rintro w ⟨a1,a2⟩;go_simp) hh ?_
  refine oU 8 (i:=5) (oi:=⟨some 19,_,_,_,_,_⟩) (v:=.slice o l.length c) rfl rfl (by kernel_rfl) (by kernel_rfl) (by kernel_rfl) (by kernel_rfl) (by kernel_rfl) (by kernel_rfl) (by kernel_rfl) (fun _ _ _ h=>h) (Or.inl ⟨by rfl,?_⟩) hh ?_
  ·intro w hSw;(try dsimp only at hSw);go_simp
  try simp only[tp]
  refine tj 6 20 (.int .i64 x) rfl (by rintro w ⟨a1,a2⟩;go_simp) hh ?_
  refine qU (rs:=[7]) (by kernel_rfl) (by simp) ?_
  refine gD.cons (o:=⟨some 21,_,_,_,_,_⟩) rfl (fun Q hQ=>?_) gD.nil
  go_simp
  have hba:Bw w (w.alloc (.cells #[.int .i64 x] 3)).drew:=(aH).drew
  have H1:fZ w0 p3 p6 p7 K nK nb num i ls (w.alloc (.cells #[.int .i64 x] 3)).drew:=HH.out.keep hba
  have HS1:∀{W:World},fZ w0 p3 p6 p7 K nK nb num i ls W→W.cell? ⟨p6,0,none⟩=some (.slice (some ⟨nb,0,none⟩) ls.length ls.length)∧W.cell? ⟨p7,0,none⟩=some (.int .i64 i):=fun {W} h=>⟨cr h.c6 rfl,cr h.c7 rfl⟩
  have hc1:=aD hba hc
  refine hQ.out _ _ ⟨HS1 H1,fun _=>hc1⟩ (fun hh=>?_)
  clear hQ Q
  try simp only[tp]
  refine qU (rs:=[8]) (by kernel_rfl) (by simp) ?_
  refine gD.cons (o:=⟨some 22,_,_,_,_,_⟩) rfl (fun Q hQ=>?_) gD.nil
  refine step_append_lies _ rfl (.tmp 19) (.tmp 21) 30 rfl w0.heap.size 3 i0 _ 1 8 Tryz.underlying30 hi0 hz0 hz1 hz2 rfl (by omega) (.slice o l.length c) l.length _ (by simp [Act.eval]) (how.alloc (.cells #[.int .i64 x] 3)) ⟨w.heap.size,0,none⟩ 1 1 [.int .i64 x] (by simp [Act.eval]) rfl (World.news_of_block (heap_alloc_new w (.cells #[.int .i64 x] 3))) (by simp [Value.oneCell']) (by omega) (by unfold maxLen;omega) (by omega) H1.below.size _ rfl ?_
  intro g cap w7 hown7 hgrow hat hlt7
  have hob1:=HH.out.rows.at hl
  have hnb7:∀q,q<(w.alloc (.cells #[.int .i64 x] 3)).drew.heap.size→(q=p3∨q=p6∨q=p7∨q=K∨q=nb)→w7.heap[q]?=(w.alloc (.cells #[.int .i64 x] 3)).drew.heap[q]?:=fun q hq hF=>hgrow.block q hq (fun e=>by
   have:=hob q e.symm
   rcases hF with h | h | h | h | h
   ·exact this.2 (.inl h)
   ·exact this.2 (.inr (.inl h))
   ·exact this.2 (.inr (.inr (.inl h)))
   ·exact this.2 (.inr (.inr (.inr h)))
   ·exact this.1 h)
  have hlt1:∀{k:Nat} {o:Obj},(w.alloc (.cells #[.int .i64 x] 3)).drew.heap[k]?=some o→k<(w.alloc (.cells #[.int .i64 x] 3)).drew.heap.size:=fun h=>(bN h).1
  have e6:w7.cell? ⟨p6,0,none⟩=some (.slice (some ⟨nb,0,none⟩) ls.length ls.length):=by rw[cell_of_row w7 _ _ _ _ (0,0) ((hnb7 p6 (hlt1 H1.c6) (.inr (.inl rfl))).trans H1.c6)];rfl
  have e7:w7.cell? ⟨p7,0,none⟩=some (.int .i64 i):=by rw[cell_of_row w7 _ _ _ _ (0,0) ((hnb7 p7 (hlt1 H1.c7) (.inr (.inr (.inl rfl)))).trans H1.c7)];rfl
  have hqn:=hnb7 nb H1.rows.lt (.inr (.inr (.inr (.inr rfl))))
  have en:w7.cell? ⟨nb,i,none⟩=some (.slice o l.length c):=(World.cell?_of_block (a:=⟨nb,i,none⟩) hqn).trans hc1
  have fz:w7.frozen? ⟨nb,i,none⟩=false:=(World.frozen?_of_block (a:=⟨nb,i,none⟩) hqn).trans (by obtain⟨_,_,_,h,_⟩:=H1.rows.at hl;exact h)
  refine hQ.out _ _ ⟨⟨e6,e7⟩,fun _=>en⟩ (fun hh=>?_)
  clear hQ Q
  try simp only[tp]
  refine tj 9 23 (.pointer (some ⟨nb,i,none⟩)) rfl (by rintro w ⟨a1,a2⟩;go_simp) hh ?_
  refine qU (rs:=[10]) (by kernel_rfl) (by simp) ?_
  refine gD.cons (o:=⟨none,_,_,_,_,_⟩) rfl (fun Q hQ=>?_) gD.nil
  go_simp
  have hks:∀q,q≠nb→(w7.setCell ⟨nb,i,none⟩ (.slice (some ⟨g,0,none⟩) (l.length+1) cap)).heap[q]?=w7.heap[q]?:=fun q hq=>Below.heap_setCell w7 ⟨nb,i,none⟩ _ q hq
  have hfin:fZ w0 p3 p6 p7 K nK nb num i (ls.set i (l++[x])) (w7.setCell ⟨nb,i,none⟩ (.slice (some ⟨g,0,none⟩) (l.length+1) cap)):=by
   have:=H1.grown (l':=l++[x]) (g:=g) (cap:=cap) (w':=w7) hl hc1 ⟨how.alloc _,hob⟩ hgrow hat (by simpa using hown7)
   simpa using this
  refine hQ.out _ _ (Till.last ?_) (fun hh=>?_)
  ·have h6:=hfin.c6
   have h7:=hfin.c7
   rw[List.length_set] at h6
   exact⟨cr h6 rfl,cr h7 rfl⟩
  clear hQ Q
  try simp only[tp]
  refine dU (by kernel_rfl) ?_ _
  have HFIN:=aA hfin
  clear h hl hs hb hfin hks hnb7 hob1 hlt1 e6 e7 hqn en fz hown7 hgrow hat hlt7 hc1 H1 HS1 hba hc hfz how hob hh HH hil c6 c7 cn hlk' c3 hn
  go_wp2
  go_end0
  exact⟨rfl,HFIN.out⟩
end Go.Proofs.YtmgfakcccfahaaaGreatDoor
