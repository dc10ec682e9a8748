/-
  package order: Order BY CONTRACT, of any flat program: an order, or the error.
-/
import Derived.Test.YtmgfakcccfahaaaGreatDoorN26
import Derived.Test.YtmgfakcccfahaaaGreatDoorN27
set_option maxRecDepth 100000
set_option maxHeartbeats 4000000
namespace Go.Proofs.YtmgfakcccfahaaaGreatDoor
open Go.RowKit Go.Maps

theorem sZ{p:Pg}(h:aQ p=0):∃kd,bA (fun _=>none) (aK p)=some kd∧gQ p=true∧bG kd (aD p)=true∧p.ins.length≤30∧p.fs.length≤400∧aC (aD p)≤4000∧∃qs,aM kd (aD p)=some (bT p,qs):=by
 unfold aQ at h
 cases hk:bA (fun _=>none) (aK p) with
 | none=>rw[hk] at h;simp at h
 | some kd=>
  rw[hk] at h
  simp only at h
  split at h
  ·rename_i h1
   rw[Bool.and_eq_true] at h1
   split at h
   ·omega
   ·rename_i h2
    cases ht:aM kd (aD p) with
    | none=>rw[ht] at h;simp at h
    | some q=>
     obtain⟨ks,qs⟩:=q
     rw[ht] at h
     simp only at h
     split at h
     ·rename_i h3
      exact⟨kd,rfl,h1.1,h1.2,by omega,by omega,by omega,qs,by rw[ht,h3]⟩
     ·omega
  ·omega
theorem Co{fs:List Fw}{i:Nat}{x:Fw}(h:fs[i]?=some x):aU (aN fs) i=(onE x.e).filterMap (fA fs fs.length):=by
 unfold aU aN
 rw[List.getElem?_map,h]
 rfl
theorem A7(p:Pg):∀i,i≤p.fs.length→tot (aN p.fs) i≤aC ((aD p).take i)
 | 0,_=>by simp [tot]
 | i+1,h=>by
  have ih:=A7 p i (by omega)
  have hi:p.fs[i]?=some p.fs[i]:=List.getElem?_eq_getElem (by omega)
  have ht:(aD p)[i]?=some p.fs[i].e:=by
   unfold aD
   rw[List.getElem?_append_left (by simp;omega),List.getElem?_map,hi];rfl
  have h1:=pK _ _ _ ht
  have h2:=uV p.fs[i].e
  have h3:=List.length_filterMap_le (fA p.fs p.fs.length) (onE p.fs[i].e)
  simp only[tot]
  rw[Co hi]
  omega
theorem Nu{p:Pg}(h:aQ p=0):tot (aN p.fs) (aN p.fs).length≤200000:=by
 obtain⟨kd,_,_,_,_,_,h1,_⟩:=sZ h
 have h2:=A7 p p.fs.length (Nat.le_refl _)
 have h3:=uL (aD p) p.fs.length
 rw[oL]
 omega
theorem zM{p:Pg}(h:aQ p=0):iB (aD p):=by
 obtain⟨kd,_,_,h1,_⟩:=sZ h
 exact zI _ h1
structure gW where
 st:TypeId
 bt:TypeId
 tt:TypeId
 ct:TypeId
 ft:TypeId
 sq:Value
 bq:Value
 tq:Value
 cq:Value
 fq:Value
structure iR(w:World)(S:Nat→Prop)(p:Pg)(o1 o2 o3 o4 o5:Option Addr)(c1 c2 c3 c4 c5:Nat)(E:gW):Prop where
 pg:fE w S p (.slice o1 p.ins.length c1) (.slice o2 p.outs.length c2) (.slice o3 p.fs.length c3) (.slice o4 p.asserts.length c4) (.slice o5 p.checks.length c5)
 plain:Plain w S
 lt:∀b,S b→b<w.heap.size
 nil:p.ins.length=0→o1=none∧c1=0
 ok:lN p
 e3:E3 w E.st E.bt E.tt E.sq E.bq E.tq
 q8:w.cell? ⟨0,0,none⟩=some (.iface E.ct E.cq)
 fst:w.cell? ⟨1,0,none⟩=some (.iface E.ft E.fq)
theorem iR.keep{w w':World}{S:Nat→Prop}{p:Pg}{o1 o2 o3 o4 o5:Option Addr}{c1 c2 c3 c4 c5:Nat}{E:gW}(h:iR w S p o1 o2 o3 o4 o5 c1 c2 c3 c4 c5 E)(hb:Bw w w'):iR w' S p o1 o2 o3 o4 o5 c1 c2 c3 c4 c5 E:=
 ⟨h.pg.keep (fun b hB hl=>⟨hB,hb.block b hl⟩),h.plain.keep hb (fun b hb _=>h.lt b hb),fun b hB=>Nat.lt_of_lt_of_le (h.lt b hB) hb.size,h.nil,h.ok,h.e3.keep hb,aF hb h.q8,aF hb h.fst⟩
def j4(p:Pg)(E:gW)(w':World)(t:TypeId)(x:Value):Prop:=
 (aQ p≠0∧Value.iface t x=zP (.iface E.st E.sq) (.iface E.bt E.bq) (.iface E.tt E.tq) (aQ p)) ∨
 (aQ p=0∧∃m b:Nat,t=83∧x=.pointer (some ⟨b,0,none⟩)∧m<p.fs.length∧bP (aN p.fs) m m∧(∀j,j<m→¬bP (aN p.fs) j j)∧w'.cell? ⟨b,0,none⟩=some (.int .i64 (m:Int))∧w'.cell? ⟨b,0+1,none⟩=some (.iface E.ct E.cq))
theorem j4.keep{p:Pg}{E:gW}{w w':World}{t:TypeId}{x:Value}(h:j4 p E w t x)(hb:Bw w w'):j4 p E w' t x:=by
 rcases h with h | ⟨h0,m,b,h1,h2,h3,h4,h5,h6,h7⟩
 ·exact .inl h
 ·exact .inr ⟨h0,m,b,h1,h2,h3,h4,h5,aF hb h6,aF hb h7⟩
def iT(p:Pg)(d:List Nat):Prop:=aQ p=0∧bV (aN p.fs) d∧d.length=p.fs.length
def Af(p:Pg)(E:gW)(base:Nat)(e:Ending)(w':World):Prop:=
 (∃(d:List Nat) (o:Option Addr) (c:Nat),iT p d∧e=.returned (.tuple #[.slice o d.length c,.nilIface])∧w'.ownsRow base 3 1 (.slice o d.length c) d.length ((cI d).map (Value.int .i64))) ∨
 ∃t x,j4 p E w' t x∧e=.returned (.tuple #[.slice none 0 0,.iface t x])
theorem NM{st bt tt:TypeId}{sq bq tq:Value}:∀{c:Nat},c≠0→∃t x,zP (.iface st sq) (.iface bt bq) (.iface tt tq) c=.iface t x
 | 0,h=>absurd rfl h
 | 1,_=>⟨_,_,rfl⟩
 | 2,_=>⟨_,_,rfl⟩
 | _+3,_=>⟨_,_,rfl⟩
theorem xY(w:World)(S:Nat→Prop)(p:Pg)(o1 o2 o3 o4 o5:Option Addr)(c1 c2 c3 c4 c5:Nat)(E:gW)(h:iR w S p o1 o2 o3 o4 o5 c1 c2 c3 c4 c5 E) :
  Calls Tryz.prog 9 #[.agg #[.slice o1 p.ins.length c1,.slice o2 p.outs.length c2,.slice o3 p.fs.length c3,.slice o4 p.asserts.length c4,.slice o5 p.checks.length c5]] w fun e w'=>Bw w w'∧Af p E w.heap.size e w':=by
 by_cases h0:aQ p=0
 ·refine(JZ w S p o1 o2 o3 o4 o5 c1 c2 c3 c4 c5 h.pg h.plain h.lt h.nil h.ok _ _ _ _ _ _ h.e3 h0 (Ab _ (zM h0)) (Nu h0) _ _ h.q8).mono ?_
  rintro e w' ⟨hb,hr⟩
  refine⟨hb,?_⟩
  rcases hr with⟨d,o,c,rfl,hG,hl,hown⟩ | ⟨m,b,rfl,h1,h2,h3,h4,h5⟩
  ·rw[oL] at hl
   exact .inl ⟨d,o,c,⟨h0,hG,hl⟩,rfl,hown⟩
  ·rw[oL] at h1
   exact .inr ⟨_,_,.inr ⟨h0,m,b,rfl,rfl,h1,h2,h3,h4,h5⟩,rfl⟩
 ·obtain⟨t,x,htx⟩:=NM (st:=E.st) (bt:=E.bt) (tt:=E.tt) (sq:=E.sq) (bq:=E.bq) (tq:=E.tq) h0
  have HTX:Hid (j4 p E w t x):=.inl ⟨h0,htx.symm⟩
  obtain⟨w1,hw1⟩:∃w1,w1=w.alloc (.cells #[.slice o1 p.ins.length c1,.slice o2 p.outs.length c2,.slice o3 p.fs.length c3,.slice o4 p.asserts.length c4,.slice o5 p.checks.length c5] 39):=⟨_,rfl⟩
  have hb1:Bw w w1:=by rw[hw1];exact aH
  have hr1:w1.heap[w.heap.size]?=some (.cells #[.slice o1 p.ins.length c1,.slice o2 p.outs.length c2,.slice o3 p.fs.length c3,.slice o4 p.asserts.length c4,.slice o5 p.checks.length c5] 39 (0,0)):=by rw[hw1];exact heap_alloc_new _ _
  have h1:=h.keep hb1
  have HFC:Hid (Calls Tryz.prog 34 #[.agg #[.slice o1 p.ins.length c1,.slice o2 p.outs.length c2,.slice o3 p.fs.length c3,.slice o4 p.asserts.length c4,.slice o5 p.checks.length c5]] w1 fun e w'=>Bw w1 w'∧e=.returned (.iface t x)):=by
   have:=D5 w1 S p o1 o2 o3 o4 o5 c1 c2 c3 c4 c5 h1.pg h1.plain h1.lt h1.nil h1.ok _ _ _ _ _ _ h1.e3
   rw[htx] at this
   exact this
  have HW1:Hid (w.alloc (.cells #[.slice o1 p.ins.length c1,.slice o2 p.outs.length c2,.slice o3 p.fs.length c3,.slice o4 p.asserts.length c4,.slice o5 p.checks.length c5] 39)=w1):=hw1.symm
  have HB1:=aA hb1
  obtain⟨P,hP⟩:∃P,P=w.heap.size:=⟨_,rfl⟩
  have HP:=aA hP
  rw[←hP] at hr1
  have a1:w1.cell? ⟨P,0,none⟩=some (.slice o1 p.ins.length c1):=cr hr1 rfl
  have a2:w1.cell? ⟨P,0+1,none⟩=some (.slice o2 p.outs.length c2):=cr hr1 rfl
  have a3:w1.cell? ⟨P,0+2,none⟩=some (.slice o3 p.fs.length c3):=cr hr1 rfl
  have a4:w1.cell? ⟨P,0+3,none⟩=some (.slice o4 p.asserts.length c4):=cr hr1 rfl
  have a5:w1.cell? ⟨P,0+4,none⟩=some (.slice o5 p.checks.length c5):=cr hr1 rfl
  clear h h0 htx hw1 hb1 hr1 h1 hP
  go_enter Tryz.func9,Tryz.ntmps9
  go_upto_region 1 with fail
  rw[HW1.out,←HP.out]
  go_wp2_with fail
  refine HFC.out.mono ?_
  rintro e w2 ⟨hb2,rfl⟩
  have HB2:Hid (Bw w w2):=HB1.out.trans (hb2.mono HB1.out.size)
  clear hb2 a1 a2 a3 a4 a5 HFC
  go_wp2
  refine bodyPost_ret (results_tmp2 rfl _ _ _) rfl ?_
  exact⟨HB2.out,.inr ⟨t,x,HTX.out.keep HB2.out,rfl⟩⟩

theorem aR.one{w:World}{K n m:Nat}{g h:List UInt8→Option Int}(hg:aR w K n (aS g))(hh:aR w K m (aS h))(s:ByteArray)(hs:s.size≤maxLen):(g s.data.toList).getD 0=(h s.data.toList).getD 0:=by
 have h1:=hg.nR Tryz.underlying96 (jL w) s hs
 have h2:=hh.nR Tryz.underlying96 (jL w) s hs
 have e1:(aS g s.data.toList).getD (.int .i64 0)=.int .i64 ((g s.data.toList).getD 0):=lT _
 have e2:(aS h s.data.toList).getD (.int .i64 0)=.int .i64 ((h s.data.toList).getD 0):=lT _
 rw[e1] at h1
 rw[e2,h1] at h2
 simpa using h2
theorem LC{fs:List Fw}{f g:List UInt8→Nat}(h:∀x∈fs,f x.name.data.toList=g x.name.data.toList):iG fs f=iG fs g:=by
 unfold iG
 congr 1
 exact List.map_congr_left fun x hx=>by rw[h x hx]
noncomputable def leftW (fs:List Fw) (K:Nat) (w:World):Nat:=iG fs (aL (@Classical.epsilon (List UInt8→Option Int) ⟨fun _=>none⟩ fun g=>∃n,aR w K n (aS g)))
theorem CJ{fs:List Fw}{K n:Nat}{w:World}{g:List UInt8→Option Int}(hg:aR w K n (aS g))(hs:∀x∈fs,x.name.size≤maxLen):leftW fs K w=iG fs (aL g):=by
 obtain⟨m,hm⟩:=Classical.epsilon_spec (p:=fun g=>∃n,aR w K n (aS g)) ⟨g,n,hg⟩
 refine LC fun x hx=>?_
 unfold aL
 rw[hm.one hg x.name (hs x hx)]
def wI:Value→Nat
 | .bool true=>1
 | _=>0
theorem yM(g:List UInt8→Option Int)(s:ByteArray)(k:Nat):aL (bM g (s,(k:Int)))=gH (aL g) s.data.toList k:=by
 funext t
 unfold aL bM gH
 by_cases e:t=s.data.toList
 ·rw[if_pos e,if_pos e];simp
 ·rw[if_neg e,if_neg e]
theorem jS.step{g:List UInt8→Option Int}(h:jS g)(s:ByteArray){k:Nat}(hk:k≤2):jS (bM g (s,(k:Int))):=fun t=>by
 unfold bM
 by_cases e:t=s.data.toList
 ·rw[if_pos e];simp;omega
 ·rw[if_neg e];exact h t
theorem jS.none:jS fun _=>Option.none:=fun _=>by simp
theorem LD:aL (fun _=>Option.none)=fun _=>0:=by funext s;simp [aL]
theorem LB(fs:List Fw)(f:List UInt8→Nat):iG fs f≤2*fs.length:=by
 unfold iG
 induction fs with
 | nil=>simp
 | cons x fs ih=>simp;omega
structure nC(w2:World)(p:Pg)(K nK:Nat)(g:List UInt8→Option Int)(wr:World):Prop where
 fn:aR wr K nK (aS g)
 qW:jS g
 low:kF p.fs (aL g)
 nk:nK+iG p.fs (aL g)≤2*p.fs.length
 below:Bw w2 wr
theorem nC.keep{w2 wr w':World}{p:Pg}{K nK:Nat}{g:List UInt8→Option Int}(h:nC w2 p K nK g wr)(hb:Bw wr w'):nC w2 p K nK g w':=
 ⟨h.fn.kept (hb.block _ h.fn.lt),h.qW,h.low,h.nk,h.below.trans (hb.mono h.below.size)⟩
def Ah(p:Pg)(E:gW)(base:Nat)(e:Ending)(w':World):Prop:=
 (∃(d:List Nat) (K nK:Nat) (g:List UInt8→Option Int),iT p d∧e=.returned (.tuple #[.map (some K),.nilIface])∧base≤K∧aR w' K nK (aS g)∧jS g∧gV p.fs (aL g)) ∨
 ∃t x,j4 p E w' t x∧e=.returned (.tuple #[.map none,.iface t x])
theorem CR(w:World)(S:Nat→Prop)(p:Pg)(o1 o2 o3 o4 o5:Option Addr)(c1 c2 c3 c4 c5:Nat)(E:gW)(h:iR w S p o1 o2 o3 o4 o5 c1 c2 c3 c4 c5 E) :
  Calls Tryz.prog 41 #[.agg #[.slice o1 p.ins.length c1,.slice o2 p.outs.length c2,.slice o3 p.fs.length c3,.slice o4 p.asserts.length c4,.slice o5 p.checks.length c5]] w fun e w'=>Bw w w'∧Ah p E w.heap.size e w':=by
 have hmm:=@run_makeMap Tryz.prog
 obtain⟨w1,hw1⟩:∃w1,w1=w.alloc (.cells #[.slice o1 p.ins.length c1,.slice o2 p.outs.length c2,.slice o3 p.fs.length c3,.slice o4 p.asserts.length c4,.slice o5 p.checks.length c5] 39):=⟨_,rfl⟩
 have hb1:Bw w w1:=by rw[hw1];exact aH
 have hr1:w1.heap[w.heap.size]?=some (.cells #[.slice o1 p.ins.length c1,.slice o2 p.outs.length c2,.slice o3 p.fs.length c3,.slice o4 p.asserts.length c4,.slice o5 p.checks.length c5] 39 (0,0)):=by rw[hw1];exact heap_alloc_new _ _
 have HFC:Hid (Calls Tryz.prog 9 #[.agg #[.slice o1 p.ins.length c1,.slice o2 p.outs.length c2,.slice o3 p.fs.length c3,.slice o4 p.asserts.length c4,.slice o5 p.checks.length c5]] w1 fun e w'=>Bw w1 w'∧Af p E w1.heap.size e w'):=xY w1 S p o1 o2 o3 o4 o5 c1 c2 c3 c4 c5 E (h.keep hb1)
 have HW1:Hid (w.alloc (.cells #[.slice o1 p.ins.length c1,.slice o2 p.outs.length c2,.slice o3 p.fs.length c3,.slice o4 p.asserts.length c4,.slice o5 p.checks.length c5] 39)=w1):=hw1.symm
 have HB1:=aA hb1
 obtain⟨P,hP⟩:∃P,P=w.heap.size:=⟨_,rfl⟩
 have HP:=aA hP
 rw[←hP] at hr1
 have HR1:=aA hr1
 have a1:w1.cell? ⟨P,0,none⟩=some (.slice o1 p.ins.length c1):=cr hr1 rfl
 have a2:w1.cell? ⟨P,0+1,none⟩=some (.slice o2 p.outs.length c2):=cr hr1 rfl
 have a3:w1.cell? ⟨P,0+2,none⟩=some (.slice o3 p.fs.length c3):=cr hr1 rfl
 have a4:w1.cell? ⟨P,0+3,none⟩=some (.slice o4 p.asserts.length c4):=cr hr1 rfl
 have a5:w1.cell? ⟨P,0+4,none⟩=some (.slice o5 p.checks.length c5):=cr hr1 rfl
 have HG:=aA h
 clear h hw1 hb1 hr1 hP
 go_enter Tryz.func41,Tryz.ntmps41
 go_upto_region 1 with fail
 rw[HW1.out,←HP.out]
 go_wp2_with fail
 refine HFC.out.mono ?_
 rintro e w2 ⟨hb2,hor⟩
 have HB12:=aA hb2
 have HB2:Hid (Bw w w2):=HB1.out.trans (hb2.mono HB1.out.size)
 clear hb2 a1 a2 a3 a4 a5 HFC
 rcases hor with⟨d,o,c,hok,rfl,hown⟩ | ⟨t,x,hte,rfl⟩
 ·have HOK:=aA hok
  have HOW:=aA hown
  obtain⟨K,hK⟩:∃K,K=w2.heap.size:=⟨_,rfl⟩
  obtain⟨w3,hw3⟩:∃w3,w3=w2.alloc (.map #[] 0):=⟨_,rfl⟩
  have hb3:Bw w2 w3:=by rw[hw3];exact aH
  have HS3:Hid (nC w2 p K 0 (fun _=>none) w3):=⟨by rw[hw3,hK,sP];exact aR.made w2,jS.none,by rw[LD];exact kF.start _,by rw[Nat.zero_add];exact LB _ _,hb3⟩
  have HW3:Hid (w2.alloc (.map #[] 0)=w3):=hw3.symm
  have HKE:=aA hK
  have HNM:Hid (∀x∈p.fs,x.name.size≤maxLen):=fun x hx=>HG.out.ok.names (x.name,x.kind) (by unfold aK dD;exact List.mem_append_right _ (List.mem_map.2 ⟨_,hx,rfl⟩))
  have HDL:Hid (d.length=p.fs.length∧p.fs.length≤1000):=⟨hok.2.2,by have:=HG.out.ok.vars;omega⟩
  clear hok hown hw3 hb3 hK
  go_upto_region 5 with fail
  rw[HW3.out,←HKE.out]
  clear hmm
  go_wp2
  go_loopw [7] (fun b wr=>∃(gr:Bool) (nK:Nat) (g:List UInt8→Option Int),b=.bool gr∧Hid (nC w2 p K nK g wr∧(gr=false→oF p.fs (aL g)))) (fun b wr=>2*leftW p.fs K wr+wI b)
  case atStart=>exact⟨true,0,_,rfl,HS3.out,fun h=>by simp at h⟩
  case round=>
   obtain⟨gr,nK0,g0,rfl,HO⟩:=hrel
   cases gr with
   | false=>
    have HE:Hid (Bw w wr∧aR wr K nK0 (aS g0)∧jS g0∧gV p.fs (aL g0)):=⟨HB2.out.trans (HO.out.1.below.mono HB2.out.size),HO.out.1.fn,HO.out.1.qW,HO.out.2 rfl,HO.out.1.low.2⟩
    clear HO
    go_wp2
    refine bodyPost_ret (results_tmp2 rfl _ _ _) rfl ?_
    exact⟨HE.out.1,.inl ⟨d,K,nK0,g0,HOK.out,rfl,by rw[HKE.out];exact HB2.out.size,HE.out.2.1,HE.out.2.2.1,HE.out.2.2.2⟩⟩
   | true=>
    obtain⟨L0,hL0⟩:∃L0,L0=iG p.fs (aL g0):=⟨_,rfl⟩
    have HL0:Hid (leftW p.fs K wr=L0):=by unfold Hid;rw[hL0];exact CJ HO.out.1.fn HNM.out
    have HST:Hid (nC w2 p K nK0 g0 wr∧iG p.fs (aL g0)≤L0):=⟨HO.out.1,by omega⟩
    clear HO hL0
    go_wp2
    go_loopw [7,24] (fun b t wr=>∃(j:Nat) (gr:Bool) (nK:Nat) (g:List UInt8→Option Int),j≤d.length∧t=.int .i64 j∧b=.bool gr∧Hid (nC w2 p K nK g wr∧(gr=false→∀(q x:Nat) (f:Fw),q<j→d[q]?=some x→p.fs[x]?=some f→aO (aL g) f.e≤aL g f.name.data.toList)∧(gr=true→iG p.fs (aL g)+1≤L0)∧iG p.fs (aL g)≤L0)) (fun _ t _=>d.length-(intOf t).toNat)
    case atStart=>exact⟨0,false,nK0,g0,Nat.zero_le _,rfl,rfl,HST.out.1,fun _ q x f hq=>by omega,fun h=>by simp at h,HST.out.2⟩
    case round=>
     obtain⟨j,gr,nK,g,hj,rfl,rfl,HR⟩:=hrel
     by_cases hjl:j<d.length
     ·obtain⟨x,hx⟩:∃x,d[j]?=some x:=⟨_,List.getElem?_eq_getElem hjl⟩
      have hxl:x<p.fs.length:=by have:=HOK.out.2.1.lt x (List.mem_of_getElem? hx);rwa [oL] at this
      obtain⟨gg,cap,es0,_,_⟩:=HOW.out.form (by omega)
      obtain⟨rfl,rfl⟩:o=some ⟨gg,0,none⟩∧c=cap:=by simpa using es0
      have hbr:=HR.out.1.below
      have v0:=HOW.out.cells (g:=gg) rfl j (.int .i64 (x:Int)) (by rw[List.getElem?_map,wH (x:=x) hx];rfl)
      rw[Addr.add_lit,Nat.zero_add] at v0
      have v1:=aF hbr v0
      have a3:wr.cell? ⟨P,0+2,none⟩=some (.slice o3 p.fs.length c3):=by rw[cell_of_row wr _ _ _ _ (0,0) (aG hbr (aG HB12.out HR1.out))];rfl
      obtain⟨_,_,⟨xs,hfr,hfi⟩,_,_⟩:=(HG.out.keep (HB2.out.trans (hbr.mono HB2.out.size))).pg
      obtain⟨name,kind,op',n',s',es,oo,cc,zs,e,x0,x1,x2,x3,x4,x5,r1,r2⟩:=hfi.at hxl
      obtain⟨b,off,cp,ev,_,_,gg2⟩:=hfr.at (by have:=hfr.1;omega)
      obtain⟨rfl,rfl⟩:o3=some ⟨b,off,none⟩∧c3=cp:=by simpa using ev
      have y0:=gg2 _ _ x0
      have y1:=gg2 _ _ x1
      have y2:=gg2 _ _ x2
      have y3:=gg2 _ _ x3
      have y4:=gg2 _ _ x4
      have y5:=gg2 _ _ x5
      rw[←Nat.add_assoc] at y1 y2 y3 y4 y5
      have i0':(0:Int)≤(j:Int):=by omega
      have i1':(j:Int)<(d.length:Int):=by omega
      have k0':(0:Int)≤(x:Int):=by omega
      have k1':(x:Int)<(p.fs.length:Int):=by omega
      have ej:p.fs[x]?=some ⟨name,kind,.mk op' n' s' es⟩:=by rw[List.getElem?_eq_getElem hxl,e]
      have et:(aD p)[x]?=some (.mk op' n' s' es):=by
       unfold aD
       rw[List.getElem?_append_left (by simpa using hxl),List.getElem?_map,ej]
       rfl
      have hmem:(⟨name,kind,.mk op' n' s' es⟩:Fw)∈p.fs:=List.mem_of_getElem? ej
      have hsn:name.size≤maxLen:=HNM.out _ hmem
      obtain⟨w4,hw4⟩:∃w4,w4=wr.alloc (.cells #[.string name,.int .i64 kind,.string op',.int .i64 n',.string s',.slice oo es.length cc] 95):=⟨_,rfl⟩
      have hb4:Bw wr w4:=by rw[hw4];exact aH
      have hr4:w4.heap[wr.heap.size]?=some (.cells #[.string name,.int .i64 kind,.string op',.int .i64 n',.string s',.slice oo es.length cc] 95 (0,0)):=by rw[hw4];exact heap_alloc_new _ _
      obtain⟨B,hB⟩:∃B,B=wr.heap.size:=⟨_,rfl⟩
      rw[←hB] at hr4
      have z2:w4.cell? ⟨B,0+2,none⟩=some (.string op'):=cr hr4 rfl
      have z3:w4.cell? ⟨B,0+2+1,none⟩=some (.int .i64 n'):=cr hr4 rfl
      have z4:w4.cell? ⟨B,0+2+2,none⟩=some (.string s'):=cr hr4 rfl
      have z5:w4.cell? ⟨B,0+2+3,none⟩=some (.slice oo es.length cc):=cr hr4 rfl
      have z0:w4.cell? ⟨B,0,none⟩=some (.string name):=cr hr4 rfl
      have hS4:=HR.out.1.keep hb4
      have hst:aP S S wr w4:=fun b hB hl=>⟨hB,hb4.block b hl⟩
      obtain⟨k,hk⟩:∃k,k=aO (aL g) (.mk op' n' s' es):=⟨_,rfl⟩
      have hca:=yQ (SizeOf.sizeOf es+1) op' n' s' es (Nat.lt_succ_self _) w4 S oo cc zs K nK g hS4.fn hS4.qW (lY HG.out.ok.small et) (wK (zM HOK.out.1) et) (r1.keep hst) (r2.keep hst)
      rw[←hk] at hca
      have HCA:=aA hca
      have HK2:Hid (k≤2∧k=aO (aL g) (.mk op' n' s' es)):=⟨by rw[hk];exact oO (yN HR.out.1.qW) _,hk⟩
      have HS4:=aA hS4
      have HM:Hid (name.size≤maxLen∧(⟨name,kind,.mk op' n' s' es⟩:Fw)∈p.fs∧d[j]?=some x∧p.fs[x]?=some ⟨name,kind,.mk op' n' s' es⟩):=⟨hsn,hmem,hx,ej⟩
      have HZ0:Hid (w4.cell? ⟨B,0,none⟩=some (.string name)):=z0
      have HJ:=aA hjl
      have N4:Hid (wrap64 ((j:Int)+1)=(j:Int)+1):=by have:=HDL.out;have:=HJ.out;unfold Hid wrap64;omega
      have HW4:Hid (wr.alloc (.cells #[.string name,.int .i64 kind,.string op',.int .i64 n',.string s',.slice oo es.length cc] 95)=w4∧wr.heap.size=B):=⟨hw4.symm,hB.symm⟩
      have HRR:Hid ((gr=false→∀(q x:Nat) (f:Fw),q<j→d[q]?=some x→p.fs[x]?=some f→aO (aL g) f.e≤aL g f.name.data.toList)∧(gr=true→iG p.fs (aL g)+1≤L0)∧iG p.fs (aL g)≤L0):=HR.out.2
      clear hx hxl es0 hbr v0 hfr hfi e x0 x1 x2 x3 x4 x5 r1 r2 ev gg2 ej et hmem hsn hw4 hb4 hr4 hB hS4 hst hk hca hj hjl HR z0
      go_upto_region 12 with fail
      rw[HW4.out.1,HW4.out.2]
      clear y0 y1 y2 y3 y4 y5 v1 a3
      go_wp2_with fail
      refine HCA.out.mono ?_
      rintro e w5 ⟨rfl,hb5⟩
      have HS5:Hid (nC w2 p K nK g w5):=HS4.out.keep hb5
      have u0:=aF hb5 HZ0.out
      have hlk:=HS5.out.fn.nR Tryz.underlying96 (jL w5) name HM.out.1
      have e1:(aS g name.data.toList).getD (.int .i64 0)=.int .i64 ((g name.data.toList).getD 0):=lT _
      rw[e1,vJ HS5.out.qW] at hlk
      obtain⟨q,hq⟩:∃q,q=aL g name.data.toList:=⟨_,rfl⟩
      rw[←hq] at hlk
      have HQ:=aA hq
      clear hb5 z2 z3 z4 z5 e1 hq HCA
      by_cases hqk:q<k
      ·have d1:(q<k)=True:=eq_true hqk
       obtain⟨w6,hup,hfn6,hgr6⟩:=HS5.out.fn.put Tryz.underlying96 (by have:=HS5.out.nk;have:=HDL.out;unfold maxLen;omega) name HM.out.1 (.int .i64 (k:Int))
       rw[sO _ (name,(k:Int))] at hfn6
       have hlp:iG p.fs (gH (aL g) name.data.toList k)<iG p.fs (aL g):=LA (x:=⟨name,kind,.mk op' n' s' es⟩) HM.out.2.1 HK2.out.1 (by have:=HQ.out;show aL g name.data.toList<k;omega)
       have HS6:Hid (nC w2 p K (nK+1) (bM g (name,(k:Int))) w6∧iG p.fs (aL (bM g (name,(k:Int))))+1≤L0):=by
        refine⟨⟨hfn6,HS5.out.qW.step name HK2.out.1,?_,?_,below_grown HS5.out.below hgr6 (by rw[HKE.out];exact Nat.le_refl _)⟩,?_⟩
        ·rw[yM,HK2.out.2];exact HS5.out.low.put HM.out.2.1
        ·rw[yM];have:=HS5.out.nk;omega
        ·rw[yM];have:=HRR.out.2.2;omega
       clear hfn6 hgr6 hlp hqk
       go_wp2
       exact⟨⟨j+1,true,nK+1,_,HJ.out,by rw[N4.out];rfl,rfl,HS6.out.1,fun h=>by simp at h,fun _=>HS6.out.2,by have:=HS6.out.2;omega⟩,by rw[N4.out];have:=HJ.out;simp [intOf];omega⟩
      ·have d1:(q<k)=False:=eq_false hqk
       have HN5:Hid (gr=false→∀(q x:Nat) (f:Fw),q<j+1→d[q]?=some x→p.fs[x]?=some f→aO (aL g) f.e≤aL g f.name.data.toList):=fun hgr q' x' f' hq' hx' hf'=>by
        by_cases e:q'=j
        ·subst e
         rw[HM.out.2.2.1] at hx'
         obtain rfl:=Option.some.inj hx'
         rw[HM.out.2.2.2] at hf'
         obtain rfl:=Option.some.inj hf'
         have:=HQ.out
         have:=HK2.out.2
         show aO (aL g) (.mk op' n' s' es)≤aL g name.data.toList
         omega
        ·exact HRR.out.1 hgr q' x' f' (by omega) hx' hf'
       clear hqk
       go_wp2
       exact⟨⟨j+1,gr,nK,g,HJ.out,by rw[N4.out];rfl,rfl,HS5.out,HN5.out,HRR.out.2⟩,by rw[N4.out];have:=HJ.out;simp [intOf];omega⟩
     ·obtain rfl:j=d.length:=by omega
      have HE:Hid ((∃(gr':Bool) (nK:Nat) (g:List UInt8→Option Int),Value.bool gr=.bool gr'∧Hid (nC w2 p K nK g wr∧(gr'=false→oF p.fs (aL g))))∧2*leftW p.fs K wr+wI (.bool gr)<2*L0+1):=by
       refine⟨⟨gr,nK,g,rfl,HR.out.1,fun hgr=>⟨HR.out.1.low.1,fun f hf=>?_⟩⟩,?_⟩
       ·obtain⟨x,hx⟩:=List.mem_iff_getElem?.1 hf
        have hxl:=(aX hx).1
        have hm:=HOK.out.2.1.all (by rw[oL];exact HOK.out.2.2) (i:=x) (by rw[oL];exact hxl)
        obtain⟨q,hq⟩:=List.mem_iff_getElem?.1 hm
        exact HR.out.2.1 hgr q x f (aX hq).1 hq hx
       ·rw[CJ HR.out.1.fn HNM.out]
        have h1:=HR.out.2.2
        cases gr with
        | false=>have:=h1.2;simp only[wI];omega
        | true=>have:=h1.1 rfl;simp only[wI];omega
      clear hj hjl HR
      go_wp2
      refine⟨HE.out.1,?_⟩
      have:=HE.out.2
      have h2:=HL0.out
      rw[h2]
      exact this
 ·have HTE:=aA hte
  clear hte hmm
  go_wp2
  refine bodyPost_ret (results_tmp2 rfl _ _ _) rfl ?_
  exact⟨HB2.out,.inr ⟨t,x,HTE.out,rfl⟩⟩
end Go.Proofs.YtmgfakcccfahaaaGreatDoor
