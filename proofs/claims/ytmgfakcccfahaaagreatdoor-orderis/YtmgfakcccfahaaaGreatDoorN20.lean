/-
  package flat: Check BY CONTRACT.
-/
import Derived.Test.YtmgfakcccfahaaaGreatDoorN19
import Derived.Test.YtmgfakcccfahaaaGreatDoorN15
namespace Go.Proofs.YtmgfakcccfahaaaGreatDoor
open Go.RowKit Go.Maps
set_option maxRecDepth 100000
set_option maxHeartbeats 4000000

def aQ(p:Pg):Nat:=
 match bA (fun _=>none) (aK p) with
 | none=>1
 | some kd=>if gQ p&&bG kd (aD p) then (if 30<p.ins.length∨400<p.fs.length∨4000<aC (aD p) then 2 else
   match aM kd (aD p) with
   | none=>3
   | some (ks,_)=>if ks=bT p then 0 else 3) else 1
def zP(s b t:Value):Nat→Value
 | 0=>.nilIface
 | 1=>s
 | 2=>b
 | _=>t
structure lN(p:Pg):Prop where
 vars:p.ins.length+p.fs.length≤1000
 outs:p.outs.length≤2097152
 terms:p.fs.length+(p.asserts.length+p.checks.length)≤4000
 parts:aC (aD p)≤100000
 small:gM (aD p)
 names:∀v∈aK p,v.1.size≤maxLen
 Kk:∀e∈p.outs,e.op.size≤maxLen
def Plain(w:World)(S:Nat→Prop):Prop:=∀b,S b→b<w.heap.size→∃cs t,w.heap[b]?=some (.cells cs t (0,0))
theorem Plain.keep{w w':World}{S:Nat→Prop}(h:Plain w S)(hb:Bw w w')(hl:∀b,S b→b<w'.heap.size→b<w.heap.size):Plain w' S:=fun b hS hlt=>by
 obtain⟨cs,t,hc⟩:=h b hS (hl b hS hlt)
 exact⟨cs,t,(hb.block b (hl b hS hlt)).trans hc⟩
structure E3(w:World)(st bt tt:TypeId)(sq bq tq:Value):Prop where
 shape:w.cell? ⟨4,0,none⟩=some (.iface st sq)
 bound:w.cell? ⟨2,0,none⟩=some (.iface bt bq)
 type:w.cell? ⟨3,0,none⟩=some (.iface tt tq)
theorem E3.keep{w w':World}{st bt tt:TypeId}{sq bq tq:Value}(h:E3 w st bt tt sq bq tq)(hb:Bw w w'):E3 w' st bt tt sq bq tq:=
 ⟨aF hb h.shape,aF hb h.bound,aF hb h.type⟩
theorem uR{w:World}{base n size:Nat}{e:TypeId}{v:Value}{xs:List Value}(h:w.ownsRow base e size v n xs):∃o c,v=.slice o n c∧(n=0→(o=none∧c=0)∨∃b off,o=some ⟨b,off,none⟩):=by
 rcases h.2 with⟨rfl,rfl⟩ | ⟨g,cap,cur,rfl,_⟩
 ·exact⟨none,0,rfl,fun _=>.inl ⟨rfl,rfl⟩⟩
 ·exact⟨some ⟨g,0,none⟩,cap,rfl,fun _=>.inr ⟨g,0,rfl⟩⟩
structure o9(w:World)(S:Nat→Prop)(p:Pg)(kd:List UInt8→Option Int)(K nK B:Nat)(vt:Value)(xs:List Value)(vu:Value)(st bt tt:TypeId)(sq bq tq:Value)(w':World):Prop where
 fn:aR w' K nK (aS kd)
 row:aB w' (fun b=>B≤b) 4 vt (aD p).length xs
 ex:aI w' S (aD p) xs
 ints:dI w' vu (bT p)
 e3:E3 w' st bt tt sq bq tq
 below:Bw w w'
 plain:Plain w' S
 lt:∀b,S b→b<w'.heap.size
theorem o9.keep{w w' w'':World}{S:Nat→Prop}{p:Pg}{kd:List UInt8→Option Int}{K nK B:Nat}{vt vu:Value}{xs:List Value}{st bt tt:TypeId}{sq bq tq:Value}(h:o9 w S p kd K nK B vt xs vu st bt tt sq bq tq w')(hb:Below w'.heap.size w' w''):o9 w S p kd K nK B vt xs vu st bt tt sq bq tq w'':=
 ⟨h.fn.kept (hb.block _ h.fn.lt),h.row.keep (fun b hB hl=>⟨hB,hb.block b hl⟩),h.ex.keep (fun b hB hl=>⟨hB,hb.block b hl⟩),h.ints.keep hb,h.e3.keep hb,h.below.trans (hb.mono h.below.size),h.plain.keep hb (fun b hS _=>h.lt b hS),fun b hS=>Nat.lt_of_lt_of_le (h.lt b hS) hb.size⟩
theorem D5(w:World)(S:Nat→Prop)(p:Pg)(o1 o2 o3 o4 o5:Option Addr)(c1 c2 c3 c4 c5:Nat)(hp:fE w S p (.slice o1 p.ins.length c1) (.slice o2 p.outs.length c2) (.slice o3 p.fs.length c3) (.slice o4 p.asserts.length c4) (.slice o5 p.checks.length c5))(hS:Plain w S)(hlt:∀b,S b→b<w.heap.size)(hnil:p.ins.length=0→o1=none∧c1=0)(hok:lN p)(st bt tt:TypeId)(sq bq tq:Value)(he:E3 w st bt tt sq bq tq) :
  Calls Tryz.prog 34 #[.agg #[.slice o1 p.ins.length c1,.slice o2 p.outs.length c2,.slice o3 p.fs.length c3,.slice o4 p.asserts.length c4,.slice o5 p.checks.length c5]] w fun e w'=>Bw w w'∧e=.returned (zP (.iface st sq) (.iface bt bq) (.iface tt tq) (aQ p)):=by
 obtain⟨w1,hw1⟩:∃w1,w1=w.alloc (.cells #[.slice o1 p.ins.length c1,.slice o2 p.outs.length c2,.slice o3 p.fs.length c3,.slice o4 p.asserts.length c4,.slice o5 p.checks.length c5] 39):=⟨_,rfl⟩
 have hb1:Bw w w1:=by rw[hw1];exact aH
 have hr1:w1.heap[w.heap.size]?=some (.cells #[.slice o1 p.ins.length c1,.slice o2 p.outs.length c2,.slice o3 p.fs.length c3,.slice o4 p.asserts.length c4,.slice o5 p.checks.length c5] 39 (0,0)):=by rw[hw1];exact heap_alloc_new _ _
 obtain⟨pb,hpb⟩:∃pb,pb=w.heap.size:=⟨_,rfl⟩
 rw[←hpb] at hr1
 have hst:∀{w':World},Bw w w'→aP S S w w':=fun hb b hS hl=>⟨hS,hb.block b hl⟩
 have hk:=Me w1 S p o1 o3 c1 c3 _ _ _ (hp.keep (hst hb1)) hnil hok.vars hok.names
 have c0:∀{w':World},w'.heap[pb]?=some (.cells #[.slice o1 p.ins.length c1,.slice o2 p.outs.length c2,.slice o3 p.fs.length c3,.slice o4 p.asserts.length c4,.slice o5 p.checks.length c5] 39 (0,0))→w'.cell? ⟨pb,0,none⟩=some (.slice o1 p.ins.length c1)∧w'.cell? ⟨pb,0+1,none⟩=some (.slice o2 p.outs.length c2)∧w'.cell? ⟨pb,0+2,none⟩=some (.slice o3 p.fs.length c3)∧w'.cell? ⟨pb,0+3,none⟩=some (.slice o4 p.asserts.length c4)∧w'.cell? ⟨pb,0+4,none⟩=some (.slice o5 p.checks.length c5):=fun {w'} h=>by
  refine⟨?_,?_,?_,?_,?_⟩<;>rw[cell_of_row w' _ _ _ _ (0,0) h]<;>rfl
 have HC0:Hid (∀{w':World},w'.heap[pb]?=some (.cells #[.slice o1 p.ins.length c1,.slice o2 p.outs.length c2,.slice o3 p.fs.length c3,.slice o4 p.asserts.length c4,.slice o5 p.checks.length c5] 39 (0,0))→w'.cell? ⟨pb,0,none⟩=some (.slice o1 p.ins.length c1)∧w'.cell? ⟨pb,0+1,none⟩=some (.slice o2 p.outs.length c2)∧w'.cell? ⟨pb,0+2,none⟩=some (.slice o3 p.fs.length c3)∧w'.cell? ⟨pb,0+3,none⟩=some (.slice o4 p.asserts.length c4)∧w'.cell? ⟨pb,0+4,none⟩=some (.slice o5 p.checks.length c5)):=c0
 have HST:Hid (∀{w':World},Bw w w'→aP S S w w'):=hst
 have HK:=aA hk
 have HP:=aA hp
 have HPL:Hid (Plain w S∧∀b,S b→b<w.heap.size):=⟨hS,hlt⟩
 have HOK:=aA hok
 have HE3:=aA he
 have HB1:=aA hb1
 have HR1:=aA hr1
 have HW1:Hid (w.alloc (.cells #[.slice o1 p.ins.length c1,.slice o2 p.outs.length c2,.slice o3 p.fs.length c3,.slice o4 p.asserts.length c4,.slice o5 p.checks.length c5] 39)=w1):=hw1.symm
 have HPB:Hid (w.heap.size=pb):=hpb.symm
 obtain⟨x1,x2,x3,x4,x5⟩:=c0 hr1
 clear hp hS hlt hnil hok he hb1 hr1 hst hk c0 hpb hw1
 go_enter Tryz.func34,Tryz.ntmps34
 go_upto_region 1 with fail
 rw[HW1.out,HPB.out]
 go_wp2_with fail
 refine HK.out.mono ?_
 rintro e w2 ⟨hb2,hk2⟩
 have hr2:=aG hb2 HR1.out
 have hb02:=HB1.out.trans (hb2.mono HB1.out.size)
 have HT:Hid (Calls Tryz.prog 74 #[.agg #[.slice o1 p.ins.length c1,.slice o2 p.outs.length c2,.slice o3 p.fs.length c3,.slice o4 p.asserts.length c4,.slice o5 p.checks.length c5]] w2 fun e w'=>∃v u n xs,e=.returned (.tuple #[v,u])∧n=(aD p).length∧w'.ownsRow w2.heap.size 92 4 v n xs∧aI w2 S (aD p) xs∧w'.ownsRow w2.heap.size 3 1 u n (iH (bT p))∧Bw w2 w'):=Gx w2 S p o3 o4 o5 c3 c4 c5 _ _ (HP.out.keep (HST.out hb02)) HOK.out.terms
 have HB2:=aA hb02
 have HR2:=aA hr2
 clear x1 x2 x3 x4 x5
 obtain⟨x1,x2,x3,x4,x5⟩:=HC0.out hr2
 clear hb2 hr2 hb02 HK HB1 HR1 HW1
 rcases hk2 with⟨kd,K,nK,hkr,rfl,hfn,hKl⟩ | ⟨hkr,rfl⟩
 ·have HKR:=aA hkr
  have HFN:=aA hfn
  clear hkr hfn hKl
  go_upto_region 2 with fail
  go_wp2_with fail
  refine HT.out.mono ?_
  rintro e w3 ⟨v,u,n,xs,rfl,hn,hov,hex,hou,hb3⟩
  subst hn
  obtain⟨ov,cv,rfl,hnv⟩:=uR hov
  obtain⟨ou,cu,rfl,_⟩:=uR hou
  have hb03:=HB2.out.trans (hb3.mono HB2.out.size)
  have hkl:(bT p).length=(aD p).length:=by simp [bT,aD]
  have hch:o9 w S p kd K nK w2.heap.size (.slice ov (aD p).length cv) xs (.slice ou (aD p).length cu) st bt tt sq bq tq w3:=
   ⟨HFN.out.kept (hb3.block _ HFN.out.lt),aB.qM hov,hex.keep (fun b hB hl=>⟨hB,hb3.block b hl⟩),yV hou hkl (by have:=HOK.out.terms;simp [aD,maxLen];omega),HE3.out.keep hb03,hb03,HPL.out.1.keep hb03 (fun b hS _=>HPL.out.2 b hS),fun b hS=>Nat.lt_of_lt_of_le (HPL.out.2 b hS) hb03.size⟩
  have hr3:=aG hb3 HR2.out
  have HCH:=aA hch
  have HNV:=aA hnv
  have HKL:=aA hkl
  have HR3:=aA hr3
  have HOA:Hid (Calls Tryz.prog 75 #[.agg #[.slice o1 p.ins.length c1,.slice o2 p.outs.length c2,.slice o3 p.fs.length c3,.slice o4 p.asserts.length c4,.slice o5 p.checks.length c5]] w3 fun e w'=>Bw w3 w'∧e=.returned (.bool (gQ p))):=JX w3 S p o2 o3 c2 c3 _ _ _ (HP.out.keep (HST.out hb03)) ⟨HOK.out.outs,by have:=HOK.out.vars;omega⟩ (fun x hx=>HOK.out.names (x.name,x.kind) (by unfold aK dD;exact List.mem_append_right _ (List.mem_map.2 ⟨x,hx,rfl⟩))) HOK.out.Kk
  clear x1 x2 x3 x4 x5
  obtain⟨x1,x2,x3,x4,x5⟩:=HC0.out hr3
  clear hov hex hou hb3 hb03 hch hr3 hnv hkl HT HB2 HR2 HFN
  obtain⟨ob,hob⟩:∃ob,ob=gQ p:=⟨_,rfl⟩
  rw[←hob] at HOA
  have HOB:=aA hob
  clear hob
  obtain⟨tl,htl⟩:∃tl,tl=(aD p).length:=⟨_,rfl⟩
  rw[←htl] at HCH HNV HKL ⊢
  have HTL:=aA htl
  clear htl
  go_upto_region 3 with fail
  go_wp2_with fail
  refine HOA.out.mono ?_
  rintro e w4 ⟨hb4,rfl⟩
  have HCH4:Hid (o9 w S p kd K nK w2.heap.size (.slice ov tl cv) xs (.slice ou tl cu) st bt tt sq bq tq w4):=HCH.out.keep hb4
  have HR4:Hid (w4.heap[pb]?=some (.cells #[.slice o1 p.ins.length c1,.slice o2 p.outs.length c2,.slice o3 p.fs.length c3,.slice o4 p.asserts.length c4,.slice o5 p.checks.length c5] 39 (0,0))):=aG hb4 HR3.out
  clear hb4 x1 x2 x3 x4 x5 HCH HR3 HOA
  cases ob with
  | false=>
   have HE:Hid (aQ p=1):=by unfold Hid aQ;rw[HKR.out];simp only[←HOB.out];rfl
   have es:=HCH4.out.e3.shape
   have HB4:Hid (Bw w w4):=HCH4.out.below
   go_wp2
   go_ret
   exact⟨HB4.out,by rw[HE.out];rfl⟩
  | true=>
   have haf:=OP kd w4 K nK HCH4.out.fn S (fun b=>w2.heap.size≤b) HCH4.out.plain (aD p) ov cv xs (by rw[←HTL.out];have:=HCH4.out.row;rwa [←HTL.out] at this) HCH4.out.ex (by rw[←HTL.out];exact HNV.out) (by have:=HOK.out.terms;simp [aD];omega) HOK.out.parts HOK.out.small
   rw[←HTL.out] at haf
   obtain⟨fm,hfm⟩:∃fm,fm=bG kd (aD p):=⟨_,rfl⟩
   rw[←hfm] at haf
   have HAF:=aA haf
   have HFM:=aA hfm
   clear haf hfm
   go_wp2_with fail
   refine HAF.out.mono ?_
   rintro e w5 ⟨hb5,rfl⟩
   have HCH5:Hid (o9 w S p kd K nK w2.heap.size (.slice ov tl cv) xs (.slice ou tl cu) st bt tt sq bq tq w5):=HCH4.out.keep hb5
   have HR5:Hid (w5.heap[pb]?=some (.cells #[.slice o1 p.ins.length c1,.slice o2 p.outs.length c2,.slice o3 p.fs.length c3,.slice o4 p.asserts.length c4,.slice o5 p.checks.length c5] 39 (0,0))):=aG hb5 HR4.out
   clear hb5 HCH4 HR4 HAF
   cases fm with
   | false=>
    have HE:Hid (aQ p=1):=by unfold Hid aQ;rw[HKR.out];simp only[←HOB.out,←HFM.out];rfl
    have es:=HCH5.out.e3.shape
    have HB5:Hid (Bw w w5):=HCH5.out.below
    go_wp2
    go_ret
    exact⟨HB5.out,by rw[HE.out];rfl⟩
   | true=>
    have HF0:Hid (aQ p=if 30<p.ins.length∨400<p.fs.length∨4000<aC (aD p) then 2 else match aM kd (aD p) with
      | none=>3
      | some (ks,_)=>if ks=bT p then 0 else 3):=by unfold Hid aQ;rw[HKR.out];simp only[←HOB.out,←HFM.out];rfl
    obtain⟨x1,x2,x3,x4,x5⟩:=HC0.out HR5.out
    obtain⟨ni,hni⟩:∃ni,ni=p.ins.length:=⟨_,rfl⟩
    obtain⟨nf,hnf⟩:∃nf,nf=p.fs.length:=⟨_,rfl⟩
    have eb:=HCH5.out.e3.bound
    have HB5:Hid (Bw w w5):=HCH5.out.below
    rw[←hni] at x1 ⊢
    rw[←hnf] at x3 ⊢
    have HNI:Hid (ni=p.ins.length∧nf=p.fs.length):=⟨hni,hnf⟩
    clear hni hnf
    by_cases h30:30<ni
    ·have HE:Hid (aQ p=2):=by unfold Hid;rw[HF0.out,if_pos (.inl (by rw[←HNI.out.1];exact h30))]
     have d0:((30:Int)<(ni:Int))=True:=eq_true (by omega)
     clear h30
     go_wp2
     go_ret
     exact⟨HB5.out,by rw[HE.out];rfl⟩
    ·have d0:((30:Int)<(ni:Int))=False:=eq_false (by omega)
     by_cases h400:400<nf
     ·have HE:Hid (aQ p=2):=by unfold Hid;rw[HF0.out,if_pos (.inr (.inl (by rw[←HNI.out.2];exact h400)))]
      have d1:((400:Int)<(nf:Int))=True:=eq_true (by omega)
      clear h30 h400
      go_wp2
      go_ret
      exact⟨HB5.out,by rw[HE.out];rfl⟩
     ·have d1:((400:Int)<(nf:Int))=False:=eq_false (by omega)
      have hrw:aB w5 (fun _=>True) 4 (.slice ov (aD p).length cv) (aD p).length xs:=by have:=HCH5.out.row.keep (S':=fun _=>True) (w':=w5) (fun b _ _=>⟨trivial,rfl⟩);rwa [HTL.out] at this
      have hexx:aI w5 (fun _=>True) (aD p) xs:=HCH5.out.ex.keep (fun b _ _=>⟨trivial,rfl⟩)
      have hbd:=Eo (aD p) w5 (fun _=>True) ov cv xs hrw hexx
      rw[←HTL.out] at hbd
      obtain⟨bd,hbde⟩:∃bd,bd=decide (aC (aD p)≤4000):=⟨_,rfl⟩
      rw[←hbde] at hbd
      have HBD:=aA hbd
      have HBE:=aA hbde
      have H34:Hid (¬30<ni∧¬400<nf):=⟨h30,h400⟩
      clear hrw hexx hbd hbde h30 h400
      go_wp2_with fail
      refine HBD.out.mono ?_
      rintro e w6 ⟨hb6,rfl⟩
      have HCH6:Hid (o9 w S p kd K nK w2.heap.size (.slice ov tl cv) xs (.slice ou tl cu) st bt tt sq bq tq w6):=HCH5.out.keep hb6
      have HB6:Hid (Bw w w6):=HCH6.out.below
      clear hb6 x1 x2 x3 x4 x5 eb HB5 HCH5 HR5 HBD
      cases bd with
      | false=>
       have HE:Hid (aQ p=2):=by unfold Hid;rw[HF0.out,if_pos (.inr (.inr (by have:=of_decide_eq_false HBE.out.symm;omega)))]
       have eb:=HCH6.out.e3.bound
       go_wp2
       go_ret
       exact⟨HB6.out,by rw[HE.out];rfl⟩
      | true=>
       have HF1:Hid (aQ p=match aM kd (aD p) with
         | none=>3
         | some (ks,_)=>if ks=bT p then 0 else 3):=by
        unfold Hid
        rw[HF0.out,if_neg]
        have h1:=of_decide_eq_true HBE.out.symm
        have h2:=H34.out
        rw[HNI.out.1,HNI.out.2] at h2
        omega
       have hrw:aB w6 (fun _=>True) 4 (.slice ov (aD p).length cv) (aD p).length xs:=by have:=HCH6.out.row.keep (S':=fun _=>True) (w':=w6) (fun b _ _=>⟨trivial,rfl⟩);rwa [HTL.out] at this
       have hexx:aI w6 (fun _=>True) (aD p) xs:=HCH6.out.ex.keep (fun b _ _=>⟨trivial,rfl⟩)
       have hte:=Gw kd (aD p) w6 K nK HCH6.out.fn (zG _ HFM.out.symm HOK.out.small) (fun _=>True) ov cv xs hrw hexx tt bt tq bq HCH6.out.e3.type HCH6.out.e3.bound
       rw[←HTL.out] at hte
       have HTE:=aA hte
       have hsz4:aC (aD p)≤4000:=of_decide_eq_true HBE.out.symm
       have HSZ:=aA hsz4
       clear hsz4
       clear hrw hexx hte
       go_wp2_with fail
       refine HTE.out.mono ?_
       rintro e w7 ⟨hb7,⟨hz,_⟩ | ⟨_,hty,rfl⟩ | ⟨_,ks,qs,ta,tc,hty,rfl,hin⟩⟩
       ·exact absurd hz (by have:=HSZ.out;omega)
       ·have HE:Hid (aQ p=3):=by unfold Hid;rw[HF1.out,hty]
        have HCH7:=HCH6.out.keep hb7
        have et:=HCH7.e3.type
        have HB7:Hid (Bw w w7):=HCH7.below
        clear hb7 hty HCH7
        go_wp2
        go_ret
        exact⟨HB7.out,by rw[HE.out];rfl⟩
       ·have HCH7:=HCH6.out.keep hb7
        have et:=HCH7.e3.type
        have HB7:Hid (Bw w w7):=HCH7.below
        have hie:=HCH7.ints
        rw[←HKL.out] at hie
        have hkn:ks.length=tl:=by rw[pG hty,HTL.out]
        have heq:=NP w7 ks (bT p) ta ou tc cu hin hie (by have:=HOK.out.terms;have h2:=HTL.out;rw[hkn,h2];simp [aD];omega)
        rw[HKL.out,hkn] at heq
        obtain⟨q,hq⟩:∃q,q=decide (ks=bT p):=⟨_,rfl⟩
        rw[←hq] at heq
        have HEQ:=aA heq
        have HE:Hid (aQ p=if q then 0 else 3):=by
         unfold Hid
         rw[HF1.out,hty,hq]
         simp only[decide_eq_true_eq]
        have HC7:Hid (o9 w S p kd K nK w2.heap.size (.slice ov tl cv) xs (.slice ou tl cu) st bt tt sq bq tq w7):=HCH7
        rw[hkn]
        clear hb7 hty hin hie hkn heq hq HCH7
        go_wp2_with fail
        refine HEQ.out.mono ?_
        rintro e w8 ⟨hb8,rfl⟩
        have HCH8:=HC7.out.keep hb8
        have et:=HCH8.e3.type
        have HB8:Hid (Bw w w8):=HCH8.below
        clear hb8 HCH8
        cases q with
        | true=>
         go_wp2
         go_ret
         exact⟨HB8.out,by rw[HE.out];rfl⟩
        | false=>
         go_wp2
         go_ret
         exact⟨HB8.out,by rw[HE.out];rfl⟩
 ·have HE:Hid (aQ p=1):=by unfold Hid aQ;rw[hkr]
  clear hkr
  go_upto_region 2 with fail
  go_wp2_with fail
  refine HT.out.mono ?_
  rintro e w3 ⟨v,u,n,xs,rfl,hn,hov,hex,hou,hb3⟩
  have hb03:=HB2.out.trans (hb3.mono HB2.out.size)
  have es:=(HE3.out.keep hb03).shape
  have HB3:=aA hb03
  clear hn hov hex hou hb3 hb03 x1 x2 x3 x4 x5
  go_wp2
  go_ret
  exact⟨HB3.out,by rw[HE.out];rfl⟩
end Go.Proofs.YtmgfakcccfahaaaGreatDoor
