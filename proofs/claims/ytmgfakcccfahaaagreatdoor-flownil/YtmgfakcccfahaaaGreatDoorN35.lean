/-
  package flow: Compile BY CONTRACT.
-/
import Derived.Test.YtmgfakcccfahaaaGreatDoorN34
set_option maxRecDepth 100000
set_option maxHeartbeats 4000000
namespace Go.Proofs.YtmgfakcccfahaaaGreatDoor
open Go.RowKit Go.Maps

theorem Tryz.OO:(Tryz.prog.info? 128).map (fun i=>(i.zero,i.size,i.bytes))=some (some .nilFunc,1,8):=by kernel_rfl
theorem IC(w:World):(zeroValue 128).run Tryz.prog w=.ok .nilFunc w:=by kernel_rfl
mutual
theorem Eh(fl:List UInt8→Option Int):∀(e:Ex) (m:Pm),fJ e→∀s∈(bY fl e m).1.ps,s∈m.ps∨s.op.size≤maxLen
 | .mk op n s l,m,h,t,ht=>by
  unfold fJ at h
  unfold bY lC at ht
  split at ht
  all_goals
   simp only[List.mem_append,List.mem_singleton] at ht
   rcases ht with h1 | h1
   ·exact zJ fl l m h.2.2 t h1
   ·rw[h1];exact .inr h.1
theorem zJ(fl:List UInt8→Option Int):∀(l:List Ex) (m:Pm),dR l→∀s∈(aZ fl l m).1.ps,s∈m.ps∨s.op.size≤maxLen
 | [],m,_,t,ht=>.inl (by unfold aZ at ht;exact ht)
 | e::es,m,h,t,ht=>by
  unfold dR at h
  unfold aZ at ht
  rcases zJ fl es (bY fl e m).1 h.2 t ht with h1 | h1
  ·exact Eh fl e m h.1 t h1
  ·exact .inr h1
end
theorem EL(fl:List UInt8→Option Int):∀(l:List Fw) (s:Pm×(List UInt8→Option Int)),dR (l.map fun f=>f.e)→∀t∈(eB fl l s).1.ps,t∈s.1.ps∨t.op.size≤maxLen
 | [],s,_,t,ht=>.inl ht
 | x::l,s,h,t,ht=>by
  rw[List.map_cons] at h
  unfold dR at h
  unfold eB at ht
  rcases EL fl l _ h.2 t ht with h1 | h1
  ·exact Eh fl x.e s.1 h.1 t h1
  ·exact .inr h1
theorem Ls{p:Pg}(hok:nN p)(fl:List UInt8→Option Int):∀t∈(eP p fl).ps,t.op.size≤maxLen:=fun t ht=>by
 have hs:=hok.small
 unfold aI at hs
 have a0:=(qD hs).1
 have a1:=qD (qD hs).2
 rcases zJ fl p.checks _ a1.2 t ht with h1 | h1
 ·rcases zJ fl p.asserts _ a1.1 t h1 with h2 | h2
  ·rcases EL fl p.fs _ a0 t h2 with h3 | h3
   ·rw[(List.mem_replicate.1 h3).2]
    unfold maxLen;decide
   ·exact h3
  ·exact h2
 ·exact h1
theorem KW(fp:List UInt8→Option Int)(s:ByteArray)(q:Pq):(iA fp s q).op=q.op:=by
 unfold iA
 split<;>rfl
theorem LG{p:Pg}(hok:nN p)(fl:List UInt8→Option Int)(ts:List Nat)(qs:List Int){j:Nat}{q:Pq}(h:(bE p fl ts qs).ps[j]?=some q):q.op.size≤maxLen:=by
 have h1:(jT (p.ins.map Ex.n++qs) (dF p fl))[j]?=some q:=h
 rw[uT] at h1
 unfold dF oI at h1
 rw[List.getElem?_mapIdx] at h1
 cases hp:(eP p fl).ps[j]? with
 | none=>rw[hp] at h1;cases h1
 | some q0=>
  rw[hp] at h1
  obtain rfl:=Option.some.inj h1
  show (iA _ _ q0).op.size≤maxLen
  rw[KW]
  exact Ls hok fl q0 (List.mem_of_getElem? hp)
def iQ(f:List UInt8→Option Value)(q:Pq):Value:=(f q.op.data.toList).getD .nilFunc
theorem oQ.one{w:World}{f:List UInt8→Option Value}(h:oQ w f)(q:Pq):(iQ f q).oneCell'=true:=by
 unfold iQ
 cases hr:nU q.op.data.toList with
 | some v=>obtain⟨p,e,_⟩:=h.1 _ _ hr;rw[e];rfl
 | none=>
  cases hd:l7 q.op.data.toList with
  | some v=>obtain⟨p,e,_⟩:=h.2.1 _ _ hd;rw[e];rfl
  | none=>
   cases ht:kL q.op.data.toList with
   | some v=>obtain⟨p,e,_⟩:=h.2.2.1 _ _ ht;rw[e];rfl
   | none=>
    rw[h.2.2.2 _ hr hd ht]
    unfold pG bL jJ
    split
    ·rfl
    ·split
     ·rfl
     ·split<;>rfl
theorem oQ.shape{w:World}{f:List UInt8→Option Value}(h:oQ w f)(q:Pq):iQ f q=.nilFunc∨∃i cs,iQ f q=.func (.func i) #[] cs:=by
 unfold iQ
 cases hr:nU q.op.data.toList with
 | some v=>obtain⟨p,e,_⟩:=h.1 _ _ hr;rw[e];exact .inr ⟨_,_,rfl⟩
 | none=>
  cases hd:l7 q.op.data.toList with
  | some v=>obtain⟨p,e,_⟩:=h.2.1 _ _ hd;rw[e];exact .inr ⟨_,_,rfl⟩
  | none=>
   cases ht:kL q.op.data.toList with
   | some v=>obtain⟨p,e,_⟩:=h.2.2.1 _ _ ht;rw[e];exact .inr ⟨_,_,rfl⟩
   | none=>
    rw[h.2.2.2 _ hr hd ht]
    unfold pG bL jJ
    split
    ·exact .inr ⟨_,_,rfl⟩
    ·split
     ·exact .inr ⟨_,_,rfl⟩
     ·split
      ·exact .inr ⟨_,_,rfl⟩
      ·exact .inl rfl
def AL(w:World)(C:Nat)(q:bC)(b n:Int):Prop:=
 ∃(B M:Nat) (dv:Value) (f:List UInt8→Option Value),w.heap[C]?=some (.cells #[.pointer (some ⟨B,0,none⟩),dv,.map (some M)] 180 (0,0))∧nM w B q∧jY w M 2 (zV b n)∧oQ w f∧aB w (fun _=>True) 1 dv q.ps.length (q.ps.map (iQ f))
def IA(p:Pg)(E:fD)(nb:Bool)(nn:Int)(e:Ending)(w':World):Prop:=
 (∃t x,nS p E (.returned (.iface t x)) w'∧e=.returned (.tuple #[.pointer none,.iface t x])) ∨
 ∃(d:List Nat) (f:List UInt8→Nat),oO p d f∧(((nn==cB nn)=false∧e=.returned (.tuple #[.pointer none,.iface E.bt E.bq])) ∨
  ∃(ts:List Nat) (qs:List Int) (C:Nat),jV (dF p (aM p f)) ts∧aR (cK (fun _=>none) (aT p)) (aI p)=some (fT p,qs)∧qs.length=aC (aI p)∧(nn==cB nn)=true∧e=.returned (.tuple #[.pointer (some ⟨C,0,none⟩),.nilIface])∧AL w' C (bE p (aM p f) ts qs) (bB nb) nn)
structure mZ(w2 w5:World)(C B M:Nat)(f:List UInt8→Option Value)(qs:List Pq)(j:Nat)(dv:Value)(wr:World):Prop where
 sep:Sep wr w2.heap.size (fun b=>b<w5.heap.size∧b≠C) [aP C (.cells #[.pointer (some ⟨B,0,none⟩),dv,.map (some M)] 180 (0,0)),dH w2.heap.size 128 1 dv j ((qs.take j).map (iQ f))]
 st:∀b,b<w5.heap.size→b≠C→wr.heap[b]?=w5.heap[b]?
 sz:w5.heap.size≤wr.heap.size
 below:Bw w2 wr
theorem mZ.keep{w2 w5:World}{C B M:Nat}{f:List UInt8→Option Value}{qs:List Pq}{j:Nat}{dv:Value}{wr w':World}(h:mZ w2 w5 C B M f qs j dv wr)(hb:Bw wr w'):mZ w2 w5 C B M f qs j dv w':=
 ⟨h.sep.keep hb,fun b h1 h2=>(hb.block b (Nat.lt_of_lt_of_le h1 h.sz)).trans (h.st b h1 h2),Nat.le_trans h.sz hb.size,h.below.trans (hb.mono h.below.size)⟩
theorem mZ.Al{w2 w5:World}{C B M:Nat}{f:List UInt8→Option Value}{qs:List Pq}{j:Nat}{dv:Value}{wr:World}(h:mZ w2 w5 C B M f qs j dv wr):wr.heap[C]?=some (.cells #[.pointer (some ⟨B,0,none⟩),dv,.map (some M)] 180 (0,0)):=h.sep.is 0 _ rfl
theorem mZ.row{w2 w5:World}{C B M:Nat}{f:List UInt8→Option Value}{qs:List Pq}{j:Nat}{dv:Value}{wr:World}(h:mZ w2 w5 C B M f qs j dv wr):wr.ownsRow w2.heap.size 128 1 dv j ((qs.take j).map (iQ f)):=h.sep.is 1 _ rfl
theorem mZ.more{w2 w5:World}{C B M:Nat}{f:List UInt8→Option Value}{qs:List Pq}{j:Nat}{dv:Value}{wr w':World}(h:mZ w2 w5 C B M f qs j dv wr){q:Pq}(hq:qs[j]?=some q){g cap:Nat}(ho:w'.ownsRow w2.heap.size 128 1 (.slice (some ⟨g,0,none⟩) (j+1) cap) (j+1) ((qs.take j).map (iQ f)++[iQ f q]))(hg:wr.grownBy w' dv.ownBlock)(ha:dv.ownBlock=some g∨g=wr.heap.size):mZ w2 w5 C B M f qs (j+1) (.slice (some ⟨g,0,none⟩) (j+1) cap) (w'.setCell ⟨C,1,none⟩ (.slice (some ⟨g,0,none⟩) (j+1) cap)):=by
 have h4:=h.sep.grow (i:=1) rfl ho hg ha
 have h5:=h4.set (i:=0) (b:=C) rfl 1 (.slice (some ⟨g,0,none⟩) (j+1) cap)
 have hs1:=h.sep.stays (i:=1) rfl hg
 have hs2:=h4.stays (i:=0) (c:=aP C (.cells #[.pointer (some ⟨B,0,none⟩),dv,.map (some M)] 180 (0,0))) rfl (bW w' C 1 (.slice (some ⟨g,0,none⟩) (j+1) cap))
 have hb1:=h.sep.below (i:=1) rfl hg h.below
 refine⟨?_,fun b h1 h2=>?_,by rw[size_setCell];exact Nat.le_trans h.sz hg.size,h4.below (i:=0) (c:=aP C (.cells #[.pointer (some ⟨B,0,none⟩),dv,.map (some M)] 180 (0,0))) rfl (bW w' C 1 _) hb1⟩
 ·have e:(qs.take (j+1)).map (iQ f)=(qs.take j).map (iQ f)++[iQ f q]:=by rw[List.take_add_one,hq,List.map_append];rfl
  rw[e]
  exact h5
 ·have hl:=Nat.lt_of_lt_of_le h1 h.sz
  rw[(hs2 b ⟨h1,h2⟩ (Nat.lt_of_lt_of_le hl hg.size)).2,(hs1 b ⟨h1,h2⟩ hl).2]
  exact h.st b h1 h2
theorem Eo{w:World}{F:Nat→Prop}{o:Option Addr}{n c:Nat}{ps:List aW}(h:aB w F 6 (.slice o n c) n (kP ps)){j:Nat}{x:aW}(hj:ps[j]?=some x):∃b off,o=some ⟨b,off,none⟩∧w.cell? ⟨b,off+j*6,none⟩=some (.string x.op)∧w.cell? ⟨b,off+j*6+1,none⟩=some (.int .i64 x.n)∧w.cell? ⟨b,off+j*6+2,none⟩=some (.slice x.oo x.aF.length x.oc)∧w.cell? ⟨b,off+j*6+3,none⟩=some (.int .i64 x.mem)∧w.cell? ⟨b,off+j*6+4,none⟩=some (.int .i64 x.kind)∧w.cell? ⟨b,off+j*6+5,none⟩=some (.bool x.late):=by
 have h0:=zI 0 hj (by omega)
 obtain⟨b,off,c',e,_,_,hc⟩:=h.at (by have:=(bA h0).1;omega)
 obtain⟨rfl,rfl⟩:o=some ⟨b,off,none⟩∧c=c':=by simpa using e
 have hk:∀k v,k<6→x.cells[k]?=some v→w.cell? ⟨b,off+j*6+k,none⟩=some v:=fun k v h1 h2=>by
  rw[Nat.add_assoc]
  exact hc _ _ (by rw[zI k hj h1];exact h2)
 exact⟨b,off,rfl,hk 0 _ (by omega) rfl,hk 1 _ (by omega) rfl,hk 2 _ (by omega) rfl,hk 3 _ (by omega) rfl,hk 4 _ (by omega) rfl,hk 5 _ (by omega) rfl⟩
theorem PY(w:World)(S:Nat→Prop)(p:Pg)(o1 o2 o3 o4 o5:Option Addr)(c1 c2 c3 c4 c5:Nat)(E:fD)(h:lQ w S p o1 o2 o3 o4 o5 c1 c2 c3 c4 c5 E)(hrk:∀(d:List Nat) (fl:List UInt8→Option Int),nP p d→∃rk,tJ (dF p fl) rk)(nb:Bool)(nn:Int) :
  Calls Tryz.prog 52 #[.agg #[.slice o1 p.ins.length c1,.slice o2 p.outs.length c2,.slice o3 p.fs.length c3,.slice o4 p.asserts.length c4,.slice o5 p.checks.length c5],.bool nb,.int .i64 nn] w fun e w'=>Bw w w'∧IA p E nb nn e w':=by
 obtain⟨i0,hi0,hz0,hz1,hz2⟩:=info_parts Tryz.OO
 obtain⟨w1,hw1⟩:∃w1,w1=w.alloc (.cells #[.slice o1 p.ins.length c1,.slice o2 p.outs.length c2,.slice o3 p.fs.length c3,.slice o4 p.asserts.length c4,.slice o5 p.checks.length c5] 39):=⟨_,rfl⟩
 obtain⟨P,hP⟩:∃P,P=w.heap.size:=⟨_,rfl⟩
 have hb1:Bw w w1:=by rw[hw1];exact aH
 have hr1:w1.heap[P]?=some (.cells #[.slice o1 p.ins.length c1,.slice o2 p.outs.length c2,.slice o3 p.fs.length c3,.slice o4 p.asserts.length c4,.slice o5 p.checks.length c5] 39 (0,0)):=by rw[hw1,hP];exact heap_alloc_new _ _
 have a0:w1.cell? ⟨P,0,none⟩=some (.slice o1 p.ins.length c1):=cr hr1 rfl
 have a1:w1.cell? ⟨P,0+1,none⟩=some (.slice o2 p.outs.length c2):=cr hr1 rfl
 have a2:w1.cell? ⟨P,0+2,none⟩=some (.slice o3 p.fs.length c3):=cr hr1 rfl
 have a3:w1.cell? ⟨P,0+3,none⟩=some (.slice o4 p.asserts.length c4):=cr hr1 rfl
 have a4:w1.cell? ⟨P,0+4,none⟩=some (.slice o5 p.checks.length c5):=cr hr1 rfl
 have HB1:=aA hb1
 have HG:=aA h
 have HW1:Hid (w.alloc (.cells #[.slice o1 p.ins.length c1,.slice o2 p.outs.length c2,.slice o3 p.fs.length c3,.slice o4 p.asserts.length c4,.slice o5 p.checks.length c5] 39)=w1∧w.heap.size=P):=⟨hw1.symm,hP.symm⟩
 have HC1:Hid (Calls Tryz.prog 99 #[.agg #[.slice o1 p.ins.length c1,.slice o2 p.outs.length c2,.slice o3 p.fs.length c3,.slice o4 p.asserts.length c4,.slice o5 p.checks.length c5]] w1 fun e w'=>Bw w1 w'∧Ij p E e w'):=LH w1 S p o1 o2 o3 o4 o5 c1 c2 c3 c4 c5 E (h.keep hb1) hrk
 clear h hrk hw1 hP hb1 hr1
 go_enter Tryz.func52,Tryz.ntmps52
 go_upto_region 1 with fail
 rw[HW1.out.1,HW1.out.2]
 go_wp2_with fail
 refine HC1.out.mono ?_
 rintro e w2 ⟨hb2,hof⟩
 have HB2:Hid (Bw w w2):=HB1.out.trans (hb2.mono HB1.out.size)
 clear a0 a1 a2 a3 a4 HC1 hb2
 rcases hof with⟨t,x,hck,rfl⟩ | ⟨d,f,ts,qs,B,hrt,htr,hty,hql,rfl,hpl⟩
 ·have HCK:=aA hck
  clear hck
  go_wp2
  try simp only[Exit.inBlock,Exit.then]
  refine bodyPost_ret (results_tmp2 rfl _ _ _) rfl ?_
  exact⟨HB2.out,.inl ⟨t,x,HCK.out,rfl⟩⟩
 have HRT:Hid (oO p d f∧jV (dF p (aM p f)) ts∧aR (cK (fun _=>none) (aT p)) (aI p)=some (fT p,qs)∧qs.length=aC (aI p)):=⟨hrt,htr,hty,hql⟩
 have HPL:=aA hpl
 clear hrt htr hty hql hpl
 obtain⟨bi,hbi⟩:∃bi,bi=(nn==cB nn):=⟨_,rfl⟩
 have HBI:=aA hbi
 have HC2:Hid (Calls Tryz.prog 100 #[.int .i64 nn] w2 fun e w'=>e=.returned (.bool bi)∧Bw w2 w'):=by rw[hbi];exact GH nn w2
 clear hbi
 cases bi with
 | false=>
  go_upto_region 5 with(go_at_call 100;refine HC2.out.mono ?_;rintro e w3 ⟨rfl,hb3⟩)
  have HB3:Hid (Bw w2 w3∧Bw w w3):=⟨hb3,HB2.out.trans (hb3.mono HB2.out.size)⟩
  have gb:w3.cell? ⟨2,0,none⟩=some (.iface E.bt E.bq):=(HG.out.keep HB3.out.2).e3.bound
  clear hb3 HC2
  go_quiet (fail)
  go_wp2
  try simp only[Exit.inBlock,Exit.then]
  refine bodyPost_ret (results_tmp2 rfl _ _ _) rfl ?_
  exact⟨⟨HB3.out.2.os,HB3.out.2.tape,HB3.out.2.output,HB3.out.2.size,HB3.out.2.block⟩,.inr ⟨d,f,HRT.out.1,.inl ⟨HBI.out.symm,rfl⟩⟩⟩
 | true=>
  have hmm:=@run_makeMap Tryz.prog
  go_upto_region 7 with(first
   | (go_at_call 100;refine HC2.out.mono ?_;rintro e w3 ⟨rfl,hb3⟩;have HB3:=aA hb3;clear hb3;have HI0:Hid (jY (w3.alloc (.map #[] 0)) w3.heap.size 0 Ae):=jY.made w3)
   | (go_at_call 101;refine(lZ nb _).mono ?_;rintro e w4 ⟨rfl,hw4⟩;have hw4s:=hw4.symm;subst hw4s)
   | (refine CW _ rfl _ _ _ _ _ rfl Tryz.underlying177 w3.heap.size 1 _ rfl HI1.out (by decide) 2 (by decide) rfl _ rfl ?_;intro w6 h6 g6;have HI2:=aA h6;clear h6)
   | (refine CW _ rfl _ _ _ _ _ rfl Tryz.underlying177 w3.heap.size 0 _ rfl HI0.out (by decide) 1 (by decide) rfl _ rfl ?_;intro w5 h5 g5;have HI1:=aA h5;clear h5)
   | fail)
  clear hmm HC2
  obtain⟨M,hM⟩:∃M,M=w3.heap.size:=⟨_,rfl⟩
  obtain⟨C,hC⟩:∃C,C=w6.heap.size:=⟨_,rfl⟩
  obtain⟨w7,hw7⟩:∃w7,w7=w6.alloc (.cells #[.pointer (some ⟨B,0,none⟩),.slice none 0 0,.map (some M)] 180):=⟨_,rfl⟩
  have hbm:Bw w3 w6:=by
   have h0:Bw w3 (w3.alloc (.map #[] 0)):=aH
   have h1:=h0.grown g5 h0.size (fun k hk=>by obtain rfl:=Option.some.inj hk;exact Nat.le_refl _)
   exact h1.grown g6 h1.size (fun k hk=>by obtain rfl:=Option.some.inj hk;exact Nat.le_refl _)
  have hb26:Bw w2 w6:=HB3.out.trans (hbm.mono HB3.out.size)
  have hb67:Bw w6 w7:=by rw[hw7];exact aH
  have HI7:Hid (jY w7 M 2 (zV (bB nb) nn)∧M<C):=by
   have hi:=HI2.out
   rw[←hM] at hi
   refine⟨hi.kept (hb67.block _ hi.lt),?_⟩
   rw[hC];exact hi.lt
  have hr7:w7.heap[C]?=some (.cells #[.pointer (some ⟨B,0,none⟩),.slice none 0 0,.map (some M)] 180 (0,0)):=by rw[hw7,hC];exact heap_alloc_new _ _
  have H7:Hid (Bw w2 w7∧w2.heap.size≤C∧C<w7.heap.size∧w7.heap[C]?=some (.cells #[.pointer (some ⟨B,0,none⟩),.slice none 0 0,.map (some M)] 180 (0,0))):=⟨hb26.trans (hb67.mono hb26.size),by rw[hC];exact hb26.size,(bN hr7).1,hr7⟩
  have HW7:Hid (w6.alloc (.cells #[.pointer (some ⟨B,0,none⟩),.slice none 0 0,.map (some M)] 180)=w7∧w3.heap.size=M∧w6.heap.size=C):=⟨hw7.symm,hM.symm,hC.symm⟩
  clear hM hC hw7 hbm hb26 hb67 hr7 HI0 HI1 HI2 g5 g6
  rw[HW7.out.2.1,HW7.out.2.2,HW7.out.1]
  go_upto_region 8 with(go_at_call 62;refine(Mi w7).mono ?_;rintro e w8 ⟨rfl,hop,hb8⟩)
  obtain⟨O,hO⟩:∃O,O=w7.heap.size:=⟨_,rfl⟩
  rw[←hO] at hop
  rw[←hO]
  obtain⟨fo,nO,hfo,hdo⟩:=hop.do
  have HO8:Hid (aO w8 O nO fo∧oQ w8 fo∧C<O∧O<w8.heap.size):=⟨hfo,hdo,by rw[hO];exact H7.out.2.2.1,hfo.lt⟩
  have hr8:=aN hb8 H7.out.2.2.2
  have HB8:Hid (Bw w7 w8∧Bw w2 w8):=⟨hb8,H7.out.1.trans (hb8.mono H7.out.1.size)⟩
  obtain⟨vp,vi,vt,vk,vo,va,vc,ps,hB,hps,hvp,_⟩:=HPL.out.is
  obtain⟨o,c,hv,_⟩:=hvp.2.2
  subst hv
  have hplen:(bE p (aM p f) ts qs).ps.length=p.ins.length+aC (aI p):=by
   show (jT _ (dF p (aM p f))).length=_
   rw[uS]
   show (oI _ _ _).length=_
   rw[oI,List.length_mapIdx,(Bp p (aM p f)).1]
  obtain⟨n,hn⟩:∃n,n=ps.length:=⟨_,rfl⟩
  have HN:Hid (n=ps.length∧n≤5000):=by
   have h1:=congrArg List.length hps
   rw[List.length_map,hplen] at h1
   have h2:=HG.out.ok.vars
   obtain⟨_,_,_,_,_,_,h3,_⟩:=uW HRT.out.1.ord.1
   exact⟨hn,by omega⟩
  have HPS:Hid (ps.map aW.q=(bE p (aM p f) ts qs).ps∧aB w2 (fun _=>True) 6 (.slice o n c) n (kP ps)):=⟨hps,by rw[hn];exact hvp⟩
  rw[←hn] at hB
  have x0:w8.cell? ⟨B,0,none⟩=some (.slice o n c):=by rw[cell_of_row w8 _ _ _ _ (0,0) (aN HB8.out.2 hB)];rfl
  have HS0:Hid (mZ w2 w8 C B M fo (ps.map aW.q) 0 (.slice none 0 0) w8):=by
   refine⟨?_,fun _ _ _=>rfl,Nat.le_refl _,HB8.out.2⟩
   have s0:Sep w8 w2.heap.size (fun b=>b<w8.heap.size∧b≠C) []:=Sep.nil (fun _ h=>h.1) HB8.out.2.size
   have s1:=s0.head (dH w2.heap.size 128 1 (.slice none 0 0) 0 []) (World.ownsRow_nil _ _ _ _) (fun _ h=>by simp [dH,Value.ownBlock] at h)
   refine s1.head (aP C (.cells #[.pointer (some ⟨B,0,none⟩),.slice none 0 0,.map (some M)] 180 (0,0))) hr8 (fun q h=>?_)
   obtain rfl:C=q:=Option.some.inj h
   refine⟨H7.out.2.1,(bN hr8).1,fun hf=>hf.2 rfl,fun d hd=>?_⟩
   rw[List.mem_singleton.1 hd]
   exact fun e=>by simp [dH,Value.ownBlock] at e
  have HCU:Hid (∀W u j,mZ w2 w8 C B M fo (ps.map aW.q) j u W→W.cell? ⟨C,0+1,none⟩=some u∧W.frozen? ⟨C,0+1,none⟩=false):=fun W u j hW=>⟨cr hW.Al rfl,bR hW.Al⟩
  clear hop hb8 hO hfo hdo hr8 hB hps hvp hplen hn
  go_wp2
  clear x0
  go_loopw [40] (fun t wr=>∃(j:Nat) (u:Value),j≤n∧t=.int .i64 j∧Hid (mZ w2 w8 C B M fo (ps.map aW.q) j u wr)) (fun t _=>n-(intOf t).toNat)
  case atStart=>exact⟨0,.slice none 0 0,Nat.zero_le _,rfl,HS0.out⟩
  case round=>
   obtain⟨j,u,hj,rfl,HR⟩:=hrel
   by_cases hjl:j<n
   ·obtain⟨x,hx⟩:∃x,ps[j]?=some x:=⟨_,List.getElem?_eq_getElem (by rw[←HN.out.1];exact hjl)⟩
    have HXS:Hid (x.op.size≤maxLen∧(ps.map aW.q)[j]?=some x.q):=by
     have h1:(ps.map aW.q)[j]?=some x.q:=by rw[List.getElem?_map,hx];rfl
     exact⟨LG HG.out.ok (aM p f) ts qs (by rw[←HPS.out.1];exact h1),h1⟩
    obtain⟨b,off,rfl,k0,k1,k2,k3,k4,k5⟩:=Eo (HPS.out.2.keep (dX HR.out.below)) hx
    have i0':(0:Int)≤(j:Int):=by omega
    have i1':(j:Int)<(n:Int):=by omega
    obtain⟨wB,hwB⟩:∃wB,wB=wr.alloc (.cells #[.string x.op,.int .i64 x.n,.slice x.oo x.aF.length x.oc,.int .i64 x.mem,.int .i64 x.kind,.bool x.late] 185):=⟨_,rfl⟩
    obtain⟨V,hV⟩:∃V,V=wr.heap.size:=⟨_,rfl⟩
    have hbB:Bw wr wB:=by rw[hwB];exact aH
    have hrB:wB.heap[V]?=some (.cells #[.string x.op,.int .i64 x.n,.slice x.oo x.aF.length x.oc,.int .i64 x.mem,.int .i64 x.kind,.bool x.late] 185 (0,0)):=by rw[hwB,hV];exact heap_alloc_new _ _
    have HSB:Hid (mZ w2 w8 C B M fo (ps.map aW.q) j u wB):=HR.out.keep hbB
    have HVV:Hid (V≠C∧w8.heap.size≤V∧∀q,u.ownBlock=some q→q≠V):=⟨by have:=H7.out.2.2.1;have:=HR.out.sz;have:=HB8.out.1.size;omega,by have:=HR.out.sz;omega,fun q hq=>by have:=(HR.out.sep.lt 1 _ q rfl hq).2.1;omega⟩
    have HSX:Hid (∀W:World,W.heap[V]?=wB.heap[V]?→(∀b,b<w8.heap.size→b≠C→W.heap[b]?=w8.heap[b]?)→W.cell? ⟨V,0,none⟩=some (.string x.op)∧(Instr.lookup 130 (.map (some O)) (.string x.op) false).run Tryz.prog W=.ok (iQ fo x.q) W):=fun W h1 h2=>by
     refine⟨by rw[cell_of_row W _ _ _ _ (0,0) (h1.trans hrB)];rfl,?_⟩
     have hf:=HO8.out.1.kept (h2 O HO8.out.2.2.2 (by have:=HO8.out.2.2.1;omega))
     exact hf.lW Tryz.underlying130 (IC W) x.op HXS.out.1
    have hS0:=HSX.out wB.drew rfl HSB.out.st
    have zu:=(HCU.out wB u j HSB.out).1
    have zu2:wB.drew.cell? ⟨C,0+1,none⟩=some u:=zu
    have HON:Hid (∀u∈[iQ fo x.q],u.oneCell'=true):=fun u hu=>by rw[List.mem_singleton.1 hu];exact HO8.out.2.1.one x.q
    have HJ:=aA hjl
    have N4:Hid (wrap64 ((j:Int)+1)=(j:Int)+1):=by have:=HN.out.2;have:=HJ.out;unfold Hid wrap64;omega
    have HMX:Hid (j+1≤maxLen∧(j+1)*8≤140737488355328):=by have:=HN.out.2;have:=HJ.out;unfold Hid maxLen;omega
    have HWB:Hid (wr.alloc (.cells #[.string x.op,.int .i64 x.n,.slice x.oo x.aF.length x.oc,.int .i64 x.mem,.int .i64 x.kind,.bool x.late] 185)=wB∧wr.heap.size=V):=⟨hwB.symm,hV.symm⟩
    have HVL:Hid (V<wB.heap.size):=(bN hrB).1
    clear hx hwB hV hbB hrB zu hj hjl HR
    go_upto_region 11 with fail
    rw[HWB.out.1,HWB.out.2]
    clear k0 k1 k2 k3 k4 k5
    refine fI 13 (fun w'=>w'.cell? ⟨V,0,none⟩=some (.string x.op)∧(Instr.lookup 130 (.map (some O)) (.string x.op) false).run Tryz.prog w'=.ok (iQ fo x.q) w') (fun w'=>w'.cell? ⟨C,0+1,none⟩=some u) (by kernel_rfl) hS0 zu2 (fun hh=>?_)
    refine tj 0 44 (.pointer (some ⟨C,0,none⟩)) rfl (by rintro w ⟨b0,bl⟩;go_simp) hh ?_
    refine tj 1 45 (.pointer (some ⟨C,0,none⟩)) rfl (by rintro w ⟨b0,bl⟩;go_simp) hh ?_
    refine tj 2 46 (.pointer (some ⟨C,0,none⟩)) rfl (by rintro w ⟨b0,bl⟩;go_simp) hh ?_
    refine tj 3 47 (.pointer (some ⟨C,1,none⟩)) rfl (by rintro w ⟨b0,bl⟩;go_simp) hh ?_
    refine oU 10 (i:=4) (oi:=⟨some 48,_,_,_,_,_⟩) (v:=u) rfl rfl (by kernel_rfl) (by kernel_rfl) (by kernel_rfl) (by kernel_rfl) (by kernel_rfl) (by kernel_rfl) (by kernel_rfl) (fun _ _ _ h=>h) (Or.inl ⟨by rfl,?_⟩) hh ?_
    ·intro w hSw;(try dsimp only at hSw);go_simp
    try simp only[tp]
    refine tj 5 49 (.map (some O)) rfl (by rintro w ⟨b0,bl⟩;go_simp) hh ?_
    refine tj 6 50 (.pointer (some ⟨V,0,none⟩)) rfl (by rintro w ⟨b0,bl⟩;go_simp) hh ?_
    refine tj 7 51 (.string x.op) rfl (by rintro w ⟨b0,bl⟩;go_simp) hh ?_
    refine tj 8 52 (iQ fo x.q) rfl (by rintro w ⟨b0,bl⟩;go_simp) hh ?_
    refine aS 9 (some 53) rfl fun K hK=>?_
    rcases HO8.out.2.1.shape x.q with hy | ⟨ii,ics,hy⟩<;>(rw[hy];go_simp;rw[←hy])
    all_goals
     clear hy
     obtain⟨wA,hwA⟩:∃wA,wA=(wB.alloc (.cells #[iQ fo x.q] 128)).drew:=⟨_,rfl⟩
     obtain⟨Q,hQ⟩:∃Q,Q=wB.heap.size:=⟨_,rfl⟩
     have hbA:Bw wB wA:=by rw[hwA];exact(aH).drew
     have HSA:Hid (mZ w2 w8 C B M fo (ps.map aW.q) j u wA):=HSB.out.keep hbA
     have HNA:Hid (∀k y,[iQ fo x.q][k]?=some y→wA.cell? ((⟨Q,0,none⟩:Addr).add k)=some y):=by unfold Hid;rw[hwA,hQ];exact World.news_of_block (heap_alloc_new wB _)
     have HVA:Hid (wA.heap[V]?=wB.heap[V]?∧V<wA.heap.size):=by
      exact⟨hbA.block V HVL.out,Nat.lt_of_lt_of_le HVL.out hbA.size⟩
     rw[←hwA,←hQ]
     refine hK.out _ _ ⟨HSX.out wA HVA.out.1 HSA.out.st,fun _=>(HCU.out wA u j HSA.out).1⟩ (fun hh=>?_)
     clear hK K hwA hbA hQ hS0 zu2
     try simp only[tp]
     refine aS 10 (some 54) rfl fun K hK=>?_
     refine step_append_lies _ rfl (.tmp 48) (.tmp 53) 178 rfl w2.heap.size 128 i0 _ 1 8 Tryz.underlying178 hi0 hz0 hz1 hz2 rfl (by omega) u j _ (by simp [Act.eval]) HSA.out.row ⟨Q,0,none⟩ 1 1 [iQ fo x.q] (by simp [Act.eval]) rfl HNA.out HON.out (by omega) HMX.out.1 HMX.out.2 HSA.out.below.size _ rfl ?_
     intro g cap w9 hown hgrow hat hlt
     have hmore:=HSA.out.more HXS.out.2 hown hgrow hat
     have huC:u.ownBlock≠some C:=HSA.out.sep.ne 0 1 _ _ C (by decide) rfl rfl rfl
     have hc9:=gT hgrow huC HSA.out.Al
     have bc9:w9.cell? ⟨C,0+1,none⟩=some u:=cr hc9 rfl
     have fz9:w9.frozen? ⟨C,0+1,none⟩=false:=bR hc9
     have hst9:∀b,b<w8.heap.size→b≠C→w9.heap[b]?=w8.heap[b]?:=fun b h1 h2=>by
      rw[hgrow.block b (Nat.lt_of_lt_of_le h1 HSA.out.sz) (fun e=>(HSA.out.sep.lt 1 _ b rfl e.symm).2.2 ⟨h1,h2⟩)]
      exact HSA.out.st b h1 h2
     have hv9:w9.heap[V]?=wB.heap[V]?:=(hgrow.block V HVA.out.2 (fun e=>HVV.out.2.2 V e.symm rfl)).trans HVA.out.1
     refine hK.out _ _ ⟨HSX.out w9 hv9 hst9,fun _=>bc9⟩ (fun hh=>?_)
     clear hK K
     try simp only[tp]
     refine tk 11 55 (.pointer (some ⟨C,0,none⟩)) rfl (.inl ⟨by rfl,?_⟩) hh ?_
     ·intro w hSw;(try dsimp only at hSw);go_simp
     try simp only[tp]
     refine tk 12 56 (.pointer (some ⟨C,1,none⟩)) rfl (.inl ⟨by rfl,?_⟩) hh ?_
     ·intro w hSw;(try dsimp only at hSw);go_simp
     try simp only[tp]
     refine aS 13 none rfl fun K hK=>?_
     go_simp
     obtain⟨wE,hwE⟩:∃wE,wE=w9.setCell ⟨C,1,none⟩ (.slice (some ⟨g,0,none⟩) (j+1) cap):=⟨_,rfl⟩
     rw[←hwE] at hmore
     rw[←hwE]
     have HNX:=aA hmore
     have hvE:wE.heap[V]?=wB.heap[V]?:=by rw[hwE,Below.heap_setCell w9 ⟨C,1,none⟩ _ V HVV.out.1];exact hv9
     refine hK.out _ _ (Till.last (HSX.out wE hvE HNX.out.st)) (fun hh=>?_)
     clear hK K
     try simp only[tp]
     refine dU (by kernel_rfl) ?_ _
     clear hmore huC hc9 bc9 fz9 hst9 hv9 hvE hwE hown hgrow hat hlt hh
     go_wp2
     exact⟨⟨j+1,_,HJ.out,by (try rw[N4.out]);rfl,HNX.out⟩,by (try rw[N4.out]);have:=HJ.out;simp [intOf];omega⟩
   ·obtain rfl:n=j:=by omega
    have HE:Hid (Bw w wr∧AL wr C (bE p (aM p f) ts qs) (bB nb) nn):=by
     have hk:=HR.out
     refine⟨HB2.out.trans (hk.below.mono HB2.out.size),B,M,u,fo,hk.Al,HPL.out.keep hk.below,?_,?_,?_⟩
     ·have h7:=HI7.out.1
      refine h7.kept ((hk.st M (Nat.lt_of_lt_of_le h7.lt HB8.out.1.size) (by have:=HI7.out.2;omega)).trans (HB8.out.1.block M h7.lt))
     ·refine HO8.out.2.1.keep (fun q i hc=>?_)
      have hq:q<w8.heap.size:=l9 hc
      have hqC:q≠C:=fun e=>by
       rw[e,cell_of_row w8 _ _ _ _ (0,0) (aN HB8.out.1 H7.out.2.2.2)] at hc
       cases hc
      rw[World.cell?_of_block (w:=w8) (hk.st q hq hqC)]
      exact hc
     ·have hrow:=(aB.iH hk.row).wide
      rw[List.take_of_length_le (by rw[List.length_map,←HN.out.1];exact Nat.le_refl _),HPS.out.1] at hrow
      have hl:(bE p (aM p f) ts qs).ps.length=n:=by rw[←HPS.out.1,List.length_map,←HN.out.1]
      rw[hl]
      exact hrow
    clear hj hjl HR
    go_wp2
    try simp only[Exit.inBlock,Exit.then]
    refine bodyPost_ret (results_tmp2 rfl _ _ _) rfl ?_
    exact⟨HE.out.1,.inr ⟨d,f,HRT.out.1,.inr ⟨ts,qs,C,HRT.out.2.1,HRT.out.2.2.1,HRT.out.2.2.2,HBI.out.symm,rfl,HE.out.2⟩⟩⟩

def nY(x:Int×Int)(k:Int):Bool:=x.1==k&&gN x.1 x.2 x.1
theorem Ov(k n kind:Int)(w:World):Calls Tryz.prog 148 #[.agg #[.int .i64 k,.int .i64 n],.int .i64 kind] w fun e w'=>e=.returned (.bool (nY (k,n) kind))∧Bw w w':=by
 obtain⟨w1,hw1⟩:∃w1,w1=w.alloc (.cells #[.int .i64 k,.int .i64 n] 66):=⟨_,rfl⟩
 obtain⟨V,hV⟩:∃V,V=w.heap.size:=⟨_,rfl⟩
 have hb1:Bw w w1:=by rw[hw1];exact aH
 have hr1:w1.heap[V]?=some (.cells #[.int .i64 k,.int .i64 n] 66 (0,0)):=by rw[hw1,hV];exact heap_alloc_new _ _
 have z0:w1.cell? ⟨V,0,none⟩=some (.int .i64 k):=cr hr1 rfl
 have z1:w1.cell? ⟨V,0+1,none⟩=some (.int .i64 n):=cr hr1 rfl
 have HB:=aA hb1
 have HW1:Hid (w.alloc (.cells #[.int .i64 k,.int .i64 n] 66)=w1∧w.heap.size=V):=⟨hw1.symm,hV.symm⟩
 clear hw1 hV hb1 hr1
 by_cases hk:k=kind
 ·have HK:Hid (nY (k,n) kind=gN k n k):=by unfold Hid nY;simp [hk]
  have hk1:(k==kind)=true:=by simp [hk]
  clear hk
  go_enter Tryz.func148,Tryz.ntmps148
  go_upto_region 1 with fail
  rw[HW1.out.1,HW1.out.2]
  go_wp2_with (go_at_call 66;refine(Ow k n w1).mono ?_;rintro e w2 ⟨rfl,hb2⟩)
  have HB2:Hid (Bw w w2):=HB.out.trans (hb2.mono HB.out.size)
  clear hb2 z0 z1
  go_ret
  exact⟨by rw[HK.out];simp,HB2.out⟩
 ·have HK:Hid (nY (k,n) kind=false):=by unfold Hid nY;simp [hk]
  have hk1:(k==kind)=false:=by simp [hk]
  clear hk
  go_enter Tryz.func148,Tryz.ntmps148
  go_upto_region 1 with fail
  rw[HW1.out.1,HW1.out.2]
  go_wp2
  go_ret
  exact⟨by rw[HK.out];rfl,HB.out⟩
structure Cd(w:World)(C B M:Nat)(dv:Value)(f:List UInt8→Option Value)(q:bC)(b n:Int):Prop where
 blk:w.heap[C]?=some (.cells #[.pointer (some ⟨B,0,none⟩),dv,.map (some M)] 180 (0,0))
 nV:nM w B q
 xL:jY w M 2 (zV b n)
 Gr:oQ w f
 row:aB w (fun _=>True) 1 dv q.ps.length (q.ps.map (iQ f))
theorem AL.cd{w:World}{C:Nat}{q:bC}{b n:Int}(h:AL w C q b n):∃B M dv f,Cd w C B M dv f q b n:=by
 obtain⟨B,M,dv,f,h1,h2,h3,h4,h5⟩:=h
 exact⟨B,M,dv,f,h1,h2,h3,h4,h5⟩
section
variable {w w':World} {C B M:Nat} {dv:Value} {f:List UInt8→Option Value} {q:bC} {b n:Int}
theorem Cd.keep(h:Cd w C B M dv f q b n)(hb:Bw w w'):Cd w' C B M dv f q b n:=
 ⟨aN hb h.blk,h.nV.keep hb,h.xL.kept (hb.block _ h.xL.lt),h.Gr.keep (fun _ _ hc=>aD hb hc),h.row.keep (dX hb)⟩
theorem Cd.c0(h:Cd w C B M dv f q b n):w.cell? ⟨C,0,none⟩=some (.pointer (some ⟨B,0,none⟩)):=cr h.blk rfl
theorem Cd.c1(h:Cd w C B M dv f q b n):w.cell? ⟨C,0+1,none⟩=some dv:=cr h.blk rfl
theorem Cd.c2(h:Cd w C B M dv f q b n):w.cell? ⟨C,0+2,none⟩=some (.map (some M)):=cr h.blk rfl
theorem nM.part(h:nM w B q){x:Nat}{p:Pq}(hx:q.ps[x]?=some p):∃pb off c po pc,w.cell? ⟨B,0,none⟩=some (.slice (some ⟨pb,off,none⟩) q.ps.length c)∧w.cell? ⟨pb,off+x*6,none⟩=some (.string p.op)∧w.cell? ⟨pb,off+x*6+1,none⟩=some (.int .i64 p.n)∧w.cell? ⟨pb,off+x*6+2,none⟩=some (.slice po p.aF.length pc)∧w.cell? ⟨pb,off+x*6+3,none⟩=some (.int .i64 p.mem)∧w.cell? ⟨pb,off+x*6+4,none⟩=some (.int .i64 p.kind)∧w.cell? ⟨pb,off+x*6+5,none⟩=some (.bool p.late)∧aB w (fun _=>True) 1 (.slice po p.aF.length pc) p.aF.length (aX p.aF)∧x<q.ps.length:=by
 obtain⟨vp,vi,vt,vk,vo,va,vc,ps,hB,hps,hvp,hof,_⟩:=h.is
 have hl:=(bA hx).1
 rw[←hps,List.getElem?_map] at hx
 cases hp:ps[x]? with
 | none=>rw[hp] at hx;cases hx
 | some r=>
  rw[hp] at hx
  obtain rfl:=Option.some.inj hx
  obtain⟨o,c,hv,_⟩:=hvp.2.2
  subst hv
  obtain⟨pb,off,rfl,k0,k1,k2,k3,k4,k5⟩:=Eo hvp hp
  have hlen:ps.length=q.ps.length:=by rw[←hps,List.length_map]
  refine⟨pb,off,c,r.oo,r.oc,?_,k0,k1,k2,k3,k4,k5,hof r (List.mem_of_getElem? hp),hl⟩
  rw[cell_of_row w _ _ _ _ (0,0) hB,←hlen];rfl
theorem nM.list(h:nM w B q):∃vi vt vk vo va vc:Value,(w.cell? ⟨B,0+1,none⟩=some vi∧w.cell? ⟨B,0+2,none⟩=some vt∧w.cell? ⟨B,0+3,none⟩=some vk∧w.cell? ⟨B,0+4,none⟩=some vo∧w.cell? ⟨B,0+5,none⟩=some va∧w.cell? ⟨B,0+6,none⟩=some vc)∧aB w (fun _=>True) 1 vi q.is.length (aX q.is)∧aB w (fun _=>True) 1 vt q.ts.length (aX q.ts)∧aB w (fun _=>True) 1 vk q.ks.length (aX q.ks)∧aB w (fun _=>True) 1 vo q.os.length (aX q.os)∧aB w (fun _=>True) 1 va q.ax.length (aX q.ax)∧aB w (fun _=>True) 1 vc q.cx.length (aX q.cx):=by
 obtain⟨vp,vi,vt,vk,vo,va,vc,ps,hB,_,_,_,h1,h2,h3,h4,h5,h6⟩:=h.is
 refine⟨vi,vt,vk,vo,va,vc,⟨?_,?_,?_,?_,?_,?_⟩,h1,h2,h3,h4,h5,h6⟩<;>(rw[cell_of_row w _ _ _ _ (0,0) hB];rfl)
end
def bK(ps:List Pq)(x:Nat):Int:=(ps[x]?.map Pq.kind).getD 0
theorem rE{ps:List Pq}{x:Nat}{p:Pq}(h:ps[x]?=some p):bK ps x=p.kind:=by unfold bK;rw[h];rfl
theorem Pw{w:World}{C B M CB:Nat}{dv:Value}{f:List UInt8→Option Value}{q:bC}{b n:Int}(h:Cd w C B M dv f q b n)(hc:w.cell? ⟨CB,0,none⟩=some (.pointer (some ⟨C,0,none⟩)))(x:Nat)(hx:x<q.ps.length)(k v:Int) :
  Calls Tryz.prog 147 #[.int .i64 (x:Int),.agg #[.int .i64 k,.int .i64 v],.pointer (some ⟨CB,0,none⟩)] w fun e w'=>e=.returned (.bool (nY (k,v) (bK q.ps x)))∧Bw w w':=by
 obtain⟨p,hp⟩:∃p,q.ps[x]?=some p:=⟨_,List.getElem?_eq_getElem hx⟩
 rw[rE hp]
 obtain⟨w1,hw1⟩:∃w1,w1=w.alloc (.cells #[.int .i64 k,.int .i64 v] 66):=⟨_,rfl⟩
 obtain⟨V,hV⟩:∃V,V=w.heap.size:=⟨_,rfl⟩
 have hb1:Bw w w1:=by rw[hw1];exact aH
 have hr1:w1.heap[V]?=some (.cells #[.int .i64 k,.int .i64 v] 66 (0,0)):=by rw[hw1,hV];exact heap_alloc_new _ _
 obtain⟨pb,off,c,po,pc,pB,_,_,_,_,p4,_,_,_⟩:=(h.keep hb1).nV.part hp
 have HS:Hid (∀W,Bw w1 W→W.cell? ⟨V,0,none⟩=some (.int .i64 k)∧W.cell? ⟨V,0+1,none⟩=some (.int .i64 v)∧W.cell? ⟨CB,0,none⟩=some (.pointer (some ⟨C,0,none⟩))∧W.cell? ⟨C,0,none⟩=some (.pointer (some ⟨B,0,none⟩))∧W.cell? ⟨B,0,none⟩=some (.slice (some ⟨pb,off,none⟩) q.ps.length c)∧W.cell? ⟨pb,off+x*6+4,none⟩=some (.int .i64 p.kind)):=fun W hW=>by
  have hr:=aN hW hr1
  exact⟨cr hr rfl,cr hr rfl,aD hW (aD hb1 hc),aD hW (h.keep hb1).c0,aD hW pB,aD hW p4⟩
 have HB:=aA hb1
 have HW1:Hid (w.alloc (.cells #[.int .i64 k,.int .i64 v] 66)=w1∧w.heap.size=V):=⟨hw1.symm,hV.symm⟩
 have i0':(0:Int)≤(x:Int):=by omega
 have i1':(x:Int)<(q.ps.length:Int):=by omega
 have hS0:=HS.out w1.drew (Below.refl _ _).drew
 clear h hc hx hp hw1 hV hb1 hr1 pB p4
 go_enter Tryz.func147,Tryz.ntmps147
 go_upto_region 1 with fail
 rw[HW1.out.1,HW1.out.2]
 refine fI 13 (fun W=>W.cell? ⟨V,0,none⟩=some (.int .i64 k)∧W.cell? ⟨V,0+1,none⟩=some (.int .i64 v)∧W.cell? ⟨CB,0,none⟩=some (.pointer (some ⟨C,0,none⟩))∧W.cell? ⟨C,0,none⟩=some (.pointer (some ⟨B,0,none⟩))∧W.cell? ⟨B,0,none⟩=some (.slice (some ⟨pb,off,none⟩) q.ps.length c)∧W.cell? ⟨pb,off+x*6+4,none⟩=some (.int .i64 p.kind)) (fun _=>True) (by kernel_rfl) hS0 trivial (fun hh=>?_)
 refine tj 0 6 (.agg #[.int .i64 k,.int .i64 v]) rfl (by rintro w ⟨b0,b1,bc,bd,be,bf⟩;go_simp) hh ?_
 refine tj 1 7 (.pointer (some ⟨C,0,none⟩)) rfl (by rintro w ⟨b0,b1,bc,bd,be,bf⟩;go_simp) hh ?_
 refine tj 2 8 (.pointer (some ⟨C,0,none⟩)) rfl (by rintro w ⟨b0,b1,bc,bd,be,bf⟩;go_simp) hh ?_
 refine tj 3 9 (.pointer (some ⟨C,0,none⟩)) rfl (by rintro w ⟨b0,b1,bc,bd,be,bf⟩;go_simp) hh ?_
 refine tj 4 10 (.pointer (some ⟨B,0,none⟩)) rfl (by rintro w ⟨b0,b1,bc,bd,be,bf⟩;go_simp) hh ?_
 refine tj 5 11 (.pointer (some ⟨B,0,none⟩)) rfl (by rintro w ⟨b0,b1,bc,bd,be,bf⟩;go_simp) hh ?_
 refine tj 6 12 (.pointer (some ⟨B,0,none⟩)) rfl (by rintro w ⟨b0,b1,bc,bd,be,bf⟩;go_simp) hh ?_
 refine tj 7 13 (.slice (some ⟨pb,off,none⟩) q.ps.length c) rfl (by rintro w ⟨b0,b1,bc,bd,be,bf⟩;go_simp) hh ?_
 refine tj 8 14 (.int .i64 (x:Int)) rfl (by rintro w ⟨b0,b1,bc,bd,be,bf⟩;go_simp) hh ?_
 refine tj 9 15 (.pointer (some ⟨pb,off+x*6,none⟩)) rfl (by rintro w ⟨b0,b1,bc,bd,be,bf⟩;go_simp) hh ?_
 refine tj 10 16 (.pointer (some ⟨pb,off+x*6+4,none⟩)) rfl (by rintro w ⟨b0,b1,bc,bd,be,bf⟩;go_simp) hh ?_
 refine tj 11 17 (.int .i64 p.kind) rfl (by rintro w ⟨b0,b1,bc,bd,be,bf⟩;go_simp) hh ?_
 refine aS 12 (some 18) rfl fun K hK=>?_
 go_simp
 refine(Ov k v p.kind _).mono ?_
 rintro e w2 ⟨rfl,hb2⟩
 have HB2:Hid (Bw w1 w2):=(Below.refl w1.heap.size w1).drew.trans hb2
 clear hb2
 go_wp2_with fail
 refine hK.out _ _ ⟨HS.out w2 HB2.out,fun _=>trivial⟩ (fun hh=>?_)
 clear hK K
 try simp only[tp]
 refine aS 13 (some 5) rfl fun K hK=>?_
 go_simp
 refine hK.out _ _ (Till.last (HS.out w2 HB2.out)) (fun hh=>?_)
 clear hK K
 try simp only[tp]
 refine dU (by kernel_rfl) ?_ _
 clear hh hS0 HS
 go_wp2
 go_ret
 exact⟨rfl,HB.out.trans (HB2.out.mono HB.out.size)⟩
def dO(ps:List Pq)(l:List Nat)(vl:List (Int×Int)):Bool:=decide (l.length=vl.length)&&(l.zip vl).all fun x=>nY x.2 (bK ps x.1)
theorem PK{w:World}{C B M CB:Nat}{dv:Value}{f:List UInt8→Option Value}{q:bC}{b n:Int}(h:Cd w C B M dv f q b n)(hc:w.cell? ⟨CB,0,none⟩=some (.pointer (some ⟨C,0,none⟩)))(po:Option Addr)(pc:Nat)(l:List Nat)(hl:aB w (fun _=>True) 1 (.slice po l.length pc) l.length (aX l))(hin:∀x∈l,x<q.ps.length)(vo:Option Addr)(vc m:Nat)(vl:List (Int×Int))(hm:m=vl.length)(hv:kF w (.slice vo m vc) vl) :
  Calls Tryz.prog 146 #[.slice po l.length pc,.slice vo m vc,.func (.func 147) #[] #[.pointer (some ⟨CB,0,none⟩)]] w fun e w'=>e=.returned (.bool (dO q.ps l vl))∧Bw w w':=by
 have HC:Hid (Cd w C B M dv f q b n∧w.cell? ⟨CB,0,none⟩=some (.pointer (some ⟨C,0,none⟩))):=⟨h,hc⟩
 have HL:Hid (aB w (fun _=>True) 1 (.slice po l.length pc) l.length (aX l)∧(∀x∈l,x<q.ps.length)):=⟨hl,hin⟩
 have HV:Hid (kF w (.slice vo m vc) vl∧m=vl.length):=⟨hv,hm⟩
 clear h hc hl hin hv
 by_cases hlm:l.length=m
 ·have HLM:=aA hlm
  have n1:((l.length:Int) != (m:Int))=false:=by rw[hlm];simp
  have n2:decide ((l.length:Int)≠(m:Int))=false:=by rw[hlm];simp
  clear hlm hm
  go_enter Tryz.func146,Tryz.ntmps146
  go_wp2
  clear n1 n2
  go_loopw [17] (fun t wr=>∃j:Nat,j≤l.length∧t=.int .i64 j∧Hid (Bw w wr∧∀(k x:Nat) (y:Int×Int),k<j→l[k]?=some x→vl[k]?=some y→nY y (bK q.ps x)=true)) (fun t _=>l.length-(intOf t).toNat)
  case atStart=>exact⟨0,Nat.zero_le _,rfl,Below.refl _ _,fun k x y hk=>by omega⟩
  case round=>
   obtain⟨j,hj,rfl,HR⟩:=hrel
   by_cases hjl:j<l.length
   ·obtain⟨x,hx⟩:∃x,l[j]?=some x:=⟨_,List.getElem?_eq_getElem hjl⟩
    obtain⟨y,hy⟩:∃y,vl[j]?=some y:=⟨_,List.getElem?_eq_getElem (by have:=HV.out.2;have:=HLM.out;omega)⟩
    obtain⟨b1,bP,c1,ev,_,_,gg⟩:=(HL.out.1.keep (dX HR.out.1)).at (by rw[HL.out.1.1];omega)
    obtain⟨rfl,rfl⟩:po=some ⟨b1,bP,none⟩∧pc=c1:=by simpa using ev
    have y0:=gg j (.int .i64 (x:Int)) (by unfold aX;rw[List.getElem?_map,lH hx];rfl)
    obtain⟨_,vo',vc',e1,hget⟩:=HV.out.1.below HR.out.1
    obtain⟨rfl,rfl⟩:vo=vo'∧vc=vc':=by have:=Value.slice.inj e1;exact⟨this.1,this.2.2⟩
    obtain⟨b2,of2,rfl,v0,v1⟩:=hget j y hy
    have i0':(0:Int)≤(j:Int):=by omega
    have i1':(j:Int)<(l.length:Int):=by omega
    have i2':(j:Int)<(m:Int):=by have:=HLM.out;omega
    obtain⟨k,v⟩:=y
    obtain⟨w1,hw1⟩:∃w1,w1=wr.alloc (.cells #[.int .i64 k,.int .i64 v] 66):=⟨_,rfl⟩
    obtain⟨V,hV⟩:∃V,V=wr.heap.size:=⟨_,rfl⟩
    have hb1:Bw wr w1:=by rw[hw1];exact aH
    have hr1:w1.heap[V]?=some (.cells #[.int .i64 k,.int .i64 v] 66 (0,0)):=by rw[hw1,hV];exact heap_alloc_new _ _
    have z0:w1.cell? ⟨V,0,none⟩=some (.int .i64 k):=cr hr1 rfl
    have z1:w1.cell? ⟨V,0+1,none⟩=some (.int .i64 v):=cr hr1 rfl
    have hbw:Bw w w1:=HR.out.1.trans (hb1.mono HR.out.1.size)
    obtain⟨bb,hbb⟩:∃bb,bb=nY (k,v) (bK q.ps x):=⟨_,rfl⟩
    have HCA:Hid (Calls Tryz.prog 147 #[.int .i64 (x:Int),.agg #[.int .i64 k,.int .i64 v],.pointer (some ⟨CB,0,none⟩)] w1 fun e w'=>e=.returned (.bool bb)∧Bw w1 w'):=by rw[hbb];exact Pw (HC.out.1.keep hbw) (aD hbw HC.out.2) x (HL.out.2 x (List.mem_of_getElem? hx)) k v
    have HJ:Hid (j<l.length∧l[j]?=some x∧vl[j]?=some (k,v)∧bb=nY (k,v) (bK q.ps x)):=⟨hjl,hx,hy,hbb⟩
    have HRR:Hid (∀(k x:Nat) (y:Int×Int),k<j→l[k]?=some x→vl[k]?=some y→nY y (bK q.ps x)=true):=HR.out.2
    have HBW:=aA hbw
    have N4:Hid (wrap64 ((j:Int)+1)=(j:Int)+1):=by have:=HJ.out.1;have hx:=HL.out.1.2.1;unfold maxLen at hx;unfold Hid wrap64;omega
    have HW1:Hid (wr.alloc (.cells #[.int .i64 k,.int .i64 v] 66)=w1∧wr.heap.size=V):=⟨hw1.symm,hV.symm⟩
    clear hx hy ev gg e1 hget hw1 hV hb1 hr1 hbw hbb hj hjl HR
    go_upto_region 7 with fail
    rw[HW1.out.1,HW1.out.2]
    clear y0 v0 v1
    cases bb with
    | true=>
     go_wp2_with (go_at_call 147;refine HCA.out.mono ?_;rintro e w2 ⟨rfl,hb2⟩)
     have HNX:Hid (Bw w w2∧∀(i x:Nat) (y:Int×Int),i<j+1→l[i]?=some x→vl[i]?=some y→nY y (bK q.ps x)=true):=by
      refine⟨HBW.out.trans (hb2.mono HBW.out.size),fun i x' y' hi hx' hy'=>?_⟩
      by_cases e:i=j
      ·subst e
       rw[HJ.out.2.1] at hx'
       rw[HJ.out.2.2.1] at hy'
       obtain rfl:=Option.some.inj hx'
       obtain rfl:=Option.some.inj hy'
       exact HJ.out.2.2.2.symm
      ·exact HRR.out i x' y' (by omega) hx' hy'
     clear hb2 z0 z1 HCA
     exact⟨⟨j+1,HJ.out.1,by (try rw[N4.out]);rfl,HNX.out⟩,by (try rw[N4.out]);have:=HJ.out.1;simp [intOf];omega⟩
    | false=>
     go_wp2_with (go_at_call 147;refine HCA.out.mono ?_;rintro e w2 ⟨rfl,hb2⟩)
     have HE:Hid (dO q.ps l vl=false∧Bw w w2):=by
      refine⟨?_,HBW.out.trans (hb2.mono HBW.out.size)⟩
      unfold dO
      rw[Bool.and_eq_false_iff]
      right
      rw[List.all_eq_false]
      refine⟨(x,(k,v)),List.mem_of_getElem? (i:=j) ?_,by rw[←HJ.out.2.2.2];decide⟩
      rw[List.getElem?_zip_eq_some]
      exact⟨HJ.out.2.1,HJ.out.2.2.1⟩
     clear hb2 z0 z1 HCA
     go_ret
     exact⟨by rw[HE.out.1];rfl,HE.out.2⟩
   ·obtain rfl:l.length=j:=by omega
    have HE:Hid (dO q.ps l vl=true∧Bw w wr):=by
     refine⟨?_,HR.out.1⟩
     unfold dO
     rw[Bool.and_eq_true]
     refine⟨decide_eq_true (by rw[HLM.out];exact HV.out.2),List.all_eq_true.2 fun z hz=>?_⟩
     obtain⟨i,hi⟩:=List.mem_iff_getElem?.1 hz
     obtain⟨h1,h2⟩:=List.getElem?_zip_eq_some.1 hi
     exact HR.out.2 i _ _ (bA h1).1 h1 h2
    clear hj hjl HR
    go_wp2
    go_ret
    exact⟨by rw[HE.out.1];rfl,HE.out.2⟩
 ·have n1:((l.length:Int) != (m:Int))=true:=by rw[bne_iff_ne];omega
  have n2:decide ((l.length:Int)≠(m:Int))=true:=decide_eq_true (by omega)
  have HE:Hid (dO q.ps l vl=false):=by
   unfold Hid dO
   rw[decide_eq_false (by rw[←hm];exact hlm)]
   rfl
  clear hlm hm
  go_enter Tryz.func146,Tryz.ntmps146
  go_wp2
  go_ret
  exact⟨by rw[HE.out];rfl,Below.refl _ _⟩
theorem Pt{w:World}{C B M:Nat}{dv:Value}{f:List UInt8→Option Value}{q:bC}{b n:Int}(h:Cd w C B M dv f q b n)(po:Option Addr)(pc:Nat)(l:List Nat)(hl:aB w (fun _=>True) 1 (.slice po l.length pc) l.length (aX l))(hin:∀x∈l,x<q.ps.length)(vo:Option Addr)(vc m:Nat)(vl:List (Int×Int))(hm:m=vl.length)(hv:kF w (.slice vo m vc) vl) :
  Calls Tryz.prog 102 #[.pointer (some ⟨C,0,none⟩),.slice po l.length pc,.slice vo m vc] w fun e w'=>e=.returned (.bool (dO q.ps l vl))∧Bw w w':=by
 obtain⟨w1,hw1⟩:∃w1,w1=w.alloc (.cells #[.pointer (some ⟨C,0,none⟩)] 113):=⟨_,rfl⟩
 obtain⟨V,hV⟩:∃V,V=w.heap.size:=⟨_,rfl⟩
 have hb1:Bw w w1:=by rw[hw1];exact aH
 have hr1:w1.heap[V]?=some (.cells #[.pointer (some ⟨C,0,none⟩)] 113 (0,0)):=by rw[hw1,hV];exact heap_alloc_new _ _
 have HCA:Hid (Calls Tryz.prog 146 #[.slice po l.length pc,.slice vo m vc,.func (.func 147) #[] #[.pointer (some ⟨V,0,none⟩)]] w1 fun e w'=>e=.returned (.bool (dO q.ps l vl))∧Bw w1 w'):=PK (h.keep hb1) (cr hr1 rfl) po pc l (hl.keep (dX hb1)) hin vo vc m vl hm (hv.below hb1)
 have HB:=aA hb1
 have HW1:Hid (w.alloc (.cells #[.pointer (some ⟨C,0,none⟩)] 113)=w1∧w.heap.size=V):=⟨hw1.symm,hV.symm⟩
 clear h hl hin hm hv hw1 hV hb1 hr1
 go_enter Tryz.func102,Tryz.ntmps102
 go_upto_region 1 with fail
 rw[HW1.out.1,HW1.out.2]
 go_wp2_with (go_at_call 146;refine HCA.out.mono ?_;rintro e w2 ⟨rfl,hb2⟩)
 have HB2:Hid (Bw w w2):=HB.out.trans (hb2.mono HB.out.size)
 clear hb2
 go_ret
 exact⟨rfl,HB2.out⟩
theorem QH{w:World}{C B M:Nat}{dv:Value}{f:List UInt8→Option Value}{q:bC}{b n:Int}(h:Cd w C B M dv f q b n)(hin:∀x∈q.is,x<q.ps.length)(vo:Option Addr)(vc m:Nat)(vl:List (Int×Int))(hm:m=vl.length)(hv:kF w (.slice vo m vc) vl) :
  Calls Tryz.prog 55 #[.pointer (some ⟨C,0,none⟩),.slice vo m vc] w fun e w'=>e=.returned (.bool (dO q.ps q.is vl))∧Bw w w':=by
 obtain⟨vi,vt,vk,vx,va,vd,⟨l1,_⟩,hvi,_⟩:=h.nV.list
 obtain⟨o,c,e,_⟩:=hvi.2.2
 subst e
 have c0:=h.c0
 have HCA:Hid (Calls Tryz.prog 102 #[.pointer (some ⟨C,0,none⟩),.slice o q.is.length c,.slice vo m vc] w fun e w'=>e=.returned (.bool (dO q.ps q.is vl))∧Bw w w'):=Pt h o c q.is hvi hin vo vc m vl hm hv
 clear h hin hm hv hvi
 go_enter Tryz.func55,Tryz.ntmps55
 go_wp2_with (go_at_call 102;refine HCA.out.mono ?_;rintro e w2 ⟨rfl,hb2⟩)
 have HB2:=aA hb2
 clear hb2 c0 l1
 go_ret
 exact⟨rfl,HB2.out⟩
end Go.Proofs.YtmgfakcccfahaaaGreatDoor
