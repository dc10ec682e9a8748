/-
  package plan: Of BY CONTRACT.
-/
import Derived.Test.YtmgfakcccfahaaaGreatDoorN33
namespace Go.Proofs.YtmgfakcccfahaaaGreatDoor
open Go.RowKit Go.Maps
def eP(p:Pg)(fl:List UInt8→Option Int):Pm:=(aZ fl p.checks (aZ fl p.asserts (bJ p fl).1).1).1
theorem Bp(p:Pg)(fl:List UInt8→Option Int):(eP p fl).ps.length=p.ins.length+aC (aI p)∧(eP p fl).ns.length=p.ins.length+aC (aI p)∧(eP p fl).ks.length≤aC (aI p):=by
 have h1:=zU fl p.fs (⟨List.replicate p.ins.length mP,p.ins.map Ex.op,[]⟩,fH p.ins p.ins.length)
 have e:eB fl p.fs (⟨List.replicate p.ins.length mP,p.ins.map Ex.op,[]⟩,fH p.ins p.ins.length)=bJ p fl:=rfl
 rw[e] at h1
 have h2:=qF fl p.asserts (bJ p fl).1
 have h3:=qF fl p.checks (aZ fl p.asserts (bJ p fl).1).1
 simp only[List.length_replicate,List.length_map,List.length_nil] at h1
 unfold eP aI
 rw[xD,xD]
 omega
mutual
theorem Ei(fl:List UInt8→Option Int):∀(e:Ex) (m:Pm),fJ e→∀s∈(bY fl e m).1.ns,s∈m.ns∨s.size≤maxLen
 | .mk op n s l,m,h,t,ht=>by
  unfold fJ at h
  unfold bY lC at ht
  have hs:t∈(aZ fl l m).1.ns++[s]:=by split at ht<;>exact ht
  rcases List.mem_append.1 hs with h1 | h1
  ·exact zK fl l m h.2.2 t h1
  ·rw[List.mem_singleton.1 h1];exact .inr h.2.1
theorem zK(fl:List UInt8→Option Int):∀(l:List Ex) (m:Pm),dR l→∀s∈(aZ fl l m).1.ns,s∈m.ns∨s.size≤maxLen
 | [],m,_,t,ht=>.inl (by unfold aZ at ht;exact ht)
 | e::es,m,h,t,ht=>by
  unfold dR at h
  unfold aZ at ht
  rcases zK fl es (bY fl e m).1 h.2 t ht with h1 | h1
  ·exact Ei fl e m h.1 t h1
  ·exact .inr h1
end
theorem EN(fl:List UInt8→Option Int):∀(l:List Fw) (s:Pm×(List UInt8→Option Int)),dR (l.map fun f=>f.e)→∀t∈(eB fl l s).1.ns,t∈s.1.ns∨t.size≤maxLen
 | [],s,_,t,ht=>.inl ht
 | x::l,s,h,t,ht=>by
  rw[List.map_cons] at h
  unfold dR at h
  unfold eB at ht
  rcases EN fl l _ h.2 t ht with h1 | h1
  ·exact Ei fl x.e s.1 h.1 t h1
  ·exact .inr h1
theorem Lu{p:Pg}(hok:nN p)(fl:List UInt8→Option Int):∀t∈(eP p fl).ns,t.size≤maxLen:=fun t ht=>by
 have hs:=hok.small
 unfold aI at hs
 have a0:=(qD hs).1
 have a1:=qD (qD hs).2
 rcases zK fl p.checks _ a1.2 t ht with h1 | h1
 ·rcases zK fl p.asserts _ a1.1 t h1 with h2 | h2
  ·rcases EN fl p.fs _ a0 t h2 with h3 | h3
   ·obtain⟨x,hx,rfl⟩:=List.mem_map.1 h3
    exact hok.names (x.op,x.n) (by unfold aT jE;exact List.mem_append_left _ (List.mem_map.2 ⟨x,hx,rfl⟩))
   ·exact h3
  ·exact h2
 ·exact h1
theorem pQ.step{f:List UInt8→Option Int}(h:pQ f)(s:ByteArray)(k:Nat):pQ (bI f (s,(k:Int))):=fun t=>by
 unfold bI
 by_cases e:t=s.data.toList
 ·exact⟨k,by rw[if_pos e];rfl⟩
 ·rw[if_neg e];exact h t
theorem Gc(ins:List Ex):∀j,pQ (fH ins j)
 | 0=>fun _=>⟨0,rfl⟩
 | j+1=>by
  have:=Gc ins j
  unfold fH
  split
  ·exact this.step _ j
  ·exact this
theorem EM(fl:List UInt8→Option Int):∀(l:List Fw) (s:Pm×(List UInt8→Option Int)),pQ s.2→pQ (eB fl l s).2
 | [],s,h=>h
 | x::l,s,h=>by
  unfold eB
  exact EM fl l _ (h.step x.name _)
theorem Nc(p:Pg)(fl:List UInt8→Option Int):pQ (bJ p fl).2:=EM fl p.fs _ (Gc p.ins _)
structure bC where
 ps:List Pq
 is:List Nat
 ts:List Nat
 ks:List Nat
 os:List Nat
 ax:List Nat
 cx:List Nat
def sP(k:Int)(q:Pq):Pq:={ q with kind:=k }
def oP(ks:List Int)(ps:List Pq)(j:Nat)(qs:List Pq):Prop:=∀k,qs[k]?=ps[k]?.map fun q=>if k<j then sP (ks[k]?.getD 0) q else q
theorem oP.zero(ks:List Int)(ps:List Pq):oP ks ps 0 ps:=fun k=>by cases ps[k]?<;>simp
theorem oP.length{ks:List Int}{ps qs:List Pq}{j:Nat}(h:oP ks ps j qs):qs.length=ps.length:=by
 have h1:∀k,qs[k]?=none ↔ ps[k]?=none:=fun k=>by rw[h k];cases ps[k]?<;>simp
 have a:=(h1 qs.length).1 (by simp)
 have b:=(h1 ps.length).2 (by simp)
 rw[List.getElem?_eq_none_iff] at a b
 omega
theorem oP.step{ks:List Int}{ps qs:List Pq}{j:Nat}{q:Pq}{k0:Int}(h:oP ks ps j qs)(hq:qs[j]?=some q)(hk0:ks[j]?=some k0):oP ks ps (j+1) (qs.set j (sP k0 q)):=fun k=>by
 have hk:=h k
 by_cases e:j=k
 ·subst e
  rw[List.getElem?_set_self (bA hq).1]
  rw[hq] at hk
  cases hp:ps[j]? with
  | none=>rw[hp] at hk;cases hk
  | some p=>
   rw[hp] at hk
   simp only[Option.map_some,if_neg (Nat.lt_irrefl j)] at hk
   obtain rfl:q=p:=Option.some.inj hk
   simp [hk0]
 ·rw[List.getElem?_set_ne e,hk]
  cases ps[k]? with
  | none=>rfl
  | some p=>
   simp only[Option.map_some]
   by_cases h1:k<j
   ·rw[if_pos h1,if_pos (by omega)]
   ·rw[if_neg h1,if_neg (by omega)]
def jT(ks:List Int)(ps:List Pq):List Pq:=ps.mapIdx fun k q=>sP (ks[k]?.getD 0) q
theorem oP.all{ks:List Int}{ps qs:List Pq}{j:Nat}(h:oP ks ps j qs)(hj:ps.length≤j):qs=jT ks ps:=by
 apply List.ext_getElem?
 intro k
 rw[h k,jT,List.getElem?_mapIdx]
 cases hp:ps[k]? with
 | none=>rfl
 | some p=>simp only[Option.map_some,if_pos (Nat.lt_of_lt_of_le (bA hp).1 hj)]
theorem uT(ks:List Int)(ps:List Pq)(k:Nat):(jT ks ps)[k]?=ps[k]?.map fun q=>sP (ks[k]?.getD 0) q:=by
 rw[jT,List.getElem?_mapIdx]
theorem uS(ks:List Int)(ps:List Pq):(jT ks ps).length=ps.length:=by simp [jT]
theorem BS(ks:List Int)(ps:List Pq)(x:Nat):eZ (jT ks ps) x=eZ ps x:=by
 unfold eZ
 rw[uT]
 cases ps[x]?<;>rfl
theorem EW(ks:List Int)(ps:List Pq)(x:Nat):dY (jT ks ps) x=dY ps x:=by
 unfold dY
 rw[uT]
 cases ps[x]?<;>rfl
theorem jV.kd{ps:List Pq}{ts:List Nat}(h:jV ps ts)(ks:List Int):jV (jT ks ps) ts:=
 ⟨h.nd,fun x hx=>⟨by rw[uS];exact(h.t x hx).1,by rw[BS];exact(h.t x hx).2⟩,fun x hx=>by rw[BS];exact h.all x (by rwa [uS] at hx),fun a x b e n hn=>by rw[BS];exact h.o a x b e n (by rwa [EW] at hn)⟩
def dF(p:Pg)(fl:List UInt8→Option Int):List Pq:=oI (bJ p fl).2 (eP p fl).ns (eP p fl).ps
def bE(p:Pg)(fl:List UInt8→Option Int)(ts:List Nat)(qs:List Int):bC:=
 ⟨jT (p.ins.map Ex.n++qs) (dF p fl),List.range p.ins.length,ts,(eP p fl).ks,p.outs.map fun x=>dG (bJ p fl).2 x.op,(aZ fl p.asserts (bJ p fl).1).2,(aZ fl p.checks (aZ fl p.asserts (bJ p fl).1).1).2⟩
def aM(p:Pg)(f:List UInt8→Nat):List UInt8→Option Int:=nX p.fs (nE p f) p.fs.length
structure nM(w:World)(B:Nat)(q:bC):Prop where
 is:∃(vp vi vt vk vo va vc:Value) (ps:List aW),w.heap[B]?=some (.cells #[vp,vi,vt,vk,vo,va,vc] 183 (0,0))∧ps.map aW.q=q.ps∧aB w (fun _=>True) 6 vp ps.length (kP ps)∧yN w (fun _=>True) ps∧aB w (fun _=>True) 1 vi q.is.length (aX q.is)∧aB w (fun _=>True) 1 vt q.ts.length (aX q.ts)∧aB w (fun _=>True) 1 vk q.ks.length (aX q.ks)∧aB w (fun _=>True) 1 vo q.os.length (aX q.os)∧aB w (fun _=>True) 1 va q.ax.length (aX q.ax)∧aB w (fun _=>True) 1 vc q.cx.length (aX q.cx)
theorem dX{w w':World}(hb:Bw w w'):aJ (fun _=>True) (fun _=>True) w w':=fun b _ hl=>⟨trivial,hb.block b hl⟩
theorem nM.keep{w w':World}{B:Nat}{q:bC}(h:nM w B q)(hb:Bw w w'):nM w' B q:=by
 obtain⟨vp,vi,vt,vk,vo,va,vc,ps,h0,h1,h2,h3,h4,h5,h6,h7,h8,h9⟩:=h.is
 have hs:=dX hb
 exact⟨vp,vi,vt,vk,vo,va,vc,ps,aN hb h0,h1,h2.keep hs,h3.keep hs,h4.keep hs,h5.keep hs,h6.keep hs,h7.keep hs,h8.keep hs,h9.keep hs⟩
theorem aB.wide{w:World}{F:Nat→Prop}{size n:Nat}{v:Value}{xs:List Value}(h:aB w F size v n xs):aB w (fun _=>True) size v n xs:=h.keep (fun _ _ _=>⟨trivial,rfl⟩)
structure oO(p:Pg)(d:List Nat)(f:List UInt8→Nat):Prop where
 ord:nP p d
 lt:kZ p.fs f
 out:∀(j:Nat) (y:Fw),p.fs[j]?=some y→lJ p f y=false
 ask:∀y∈p.asserts++p.checks,bH f y=0
def Ij(p:Pg)(E:fD)(e:Ending)(w':World):Prop:=
 (∃t x,nS p E (.returned (.iface t x)) w'∧e=.returned (.tuple #[.pointer none,.iface t x])) ∨
 ∃(d:List Nat) (f:List UInt8→Nat) (ts:List Nat) (qs:List Int) (B:Nat),oO p d f∧jV (dF p (aM p f)) ts∧aR (cK (fun _=>none) (aT p)) (aI p)=some (fT p,qs)∧qs.length=aC (aI p)∧e=.returned (.tuple #[.pointer (some ⟨B,0,none⟩),.nilIface])∧nM w' B (bE p (aM p f) ts qs)
theorem Ni(l:List Ex):kS l=nD (l.map Ex.op):=by simp [kS,nD]
theorem Qa{p:Pg}{E:fD}{e:Ending}{w':World}(h:nS p E e w'):(∃t x,e=.returned (.iface t x))∨(e=.returned .nilIface∧∃d f,oO p d f):=by
 rcases h with⟨t,x,_,rfl⟩ | ⟨d,f,h1,h2,h3⟩
 ·exact .inl ⟨t,x,rfl⟩
 ·rcases h3 with⟨m,b,x,_,_,_,rfl,_⟩ | ⟨h4,h5⟩
  ·exact .inl ⟨_,_,rfl⟩
  ·rcases h5 with⟨_,rfl⟩ | ⟨h6,rfl⟩
   ·exact .inl ⟨_,_,rfl⟩
   ·exact .inr ⟨rfl,d,f,h1,h2,h4,h6⟩
theorem pR.not{p:Pg}{E:fD}{w:World}{t:TypeId}{x:Value}{d:List Nat}(h:pR p E w t x)(hd:nP p d):False:=by
 rcases h with⟨h1,_⟩ | ⟨_,m,b,_,_,_,hr,_⟩
 ·exact h1 hd.1
 ·exact hd.2.1.acyclic (by rw[hd.2.2,nW]) m hr
set_option maxRecDepth 100000
set_option maxHeartbeats 4000000

structure AB(w0:World)(d:aK)(ks:List Int)(j:Nat)(F:Nat→Prop)(d':aK)(w':World):Prop where
 pl:aG w0 F [] d' w'
 ps:oP ks (d.ps.map aW.q) j (d'.ps.map aW.q)
 eq:d'={ d with ps:=d'.ps }
theorem AB.done{w0:World}{d:aK}{ks:List Int}{j:Nat}{F:Nat→Prop}{d':aK}{w':World}(h:AB w0 d ks j F d' w'):d'.ps.length=d.ps.length:=by
 have:=h.ps.length
 simpa using this
theorem aG.plan{w0 w:World}{F:Nat→Prop}{d:aK}(h:aG w0 F [] d w){ax cx:List Nat}(ha:aB w F 1 d.va ax.length (aX ax))(hc:aB w F 1 d.vc cx.length (aX cx)):nM w d.B ⟨d.ps.map aW.q,d.is,d.ts,d.ks,d.os,ax,cx⟩:=
 ⟨d.vp,d.vi,d.vt,d.vk,d.vo,d.va,d.vc,d.ps,h.bb,rfl,(aB.iH h.parts).wide,fun p hp=>(h.aF p hp).wide,(aB.iH h.Ga).wide,(aB.iH h.Dq).wide,(aB.iH (h.sep.is 8 _ rfl)).wide,(aB.iH h.Eu).wide,ha.wide,hc.wide⟩
theorem LH(w:World)(S:Nat→Prop)(p:Pg)(o1 o2 o3 o4 o5:Option Addr)(c1 c2 c3 c4 c5:Nat)(E:fD)(h:lQ w S p o1 o2 o3 o4 o5 c1 c2 c3 c4 c5 E)(hrk:∀(d:List Nat) (fl:List UInt8→Option Int),nP p d→∃rk,tJ (dF p fl) rk) :
  Calls Tryz.prog 99 #[.agg #[.slice o1 p.ins.length c1,.slice o2 p.outs.length c2,.slice o3 p.fs.length c3,.slice o4 p.asserts.length c4,.slice o5 p.checks.length c5]] w fun e w'=>Bw w w'∧Ij p E e w':=by
 obtain⟨w1,hw1⟩:∃w1,w1=w.alloc (.cells #[.slice o1 p.ins.length c1,.slice o2 p.outs.length c2,.slice o3 p.fs.length c3,.slice o4 p.asserts.length c4,.slice o5 p.checks.length c5] 39):=⟨_,rfl⟩
 obtain⟨P,hP⟩:∃P,P=w.heap.size:=⟨_,rfl⟩
 have hb1:Bw w w1:=by rw[hw1];exact aH
 have hr1:w1.heap[P]?=some (.cells #[.slice o1 p.ins.length c1,.slice o2 p.outs.length c2,.slice o3 p.fs.length c3,.slice o4 p.asserts.length c4,.slice o5 p.checks.length c5] 39 (0,0)):=by rw[hw1,hP];exact heap_alloc_new _ _
 have HPC:Hid (∀W,Bw w1 W→W.cell? ⟨P,0,none⟩=some (.slice o1 p.ins.length c1)∧W.cell? ⟨P,0+1,none⟩=some (.slice o2 p.outs.length c2)∧W.cell? ⟨P,0+2,none⟩=some (.slice o3 p.fs.length c3)∧W.cell? ⟨P,0+3,none⟩=some (.slice o4 p.asserts.length c4)∧W.cell? ⟨P,0+4,none⟩=some (.slice o5 p.checks.length c5)):=fun W hW=>by
  have hr:=aN hW hr1
  refine⟨?_,?_,?_,?_,?_⟩<;>(rw[cell_of_row W _ _ _ _ (0,0) hr];rfl)
 have HB1:=aA hb1
 have HG:=aA h
 have HRK:=aA hrk
 have HW1:Hid (w.alloc (.cells #[.slice o1 p.ins.length c1,.slice o2 p.outs.length c2,.slice o3 p.fs.length c3,.slice o4 p.asserts.length c4,.slice o5 p.checks.length c5] 39)=w1∧w.heap.size=P):=⟨hw1.symm,hP.symm⟩
 have HC1:Hid (Calls Tryz.prog 14 #[.agg #[.slice o1 p.ins.length c1,.slice o2 p.outs.length c2,.slice o3 p.fs.length c3,.slice o4 p.asserts.length c4,.slice o5 p.checks.length c5]] w1 fun e w'=>Bw w1 w'∧nS p E e w'):=M8 w1 S p o1 o2 o3 o4 o5 c1 c2 c3 c4 c5 E (h.keep hb1)
 obtain⟨a0,a1,a2,a3,a4⟩:=HPC.out w1 (Below.refl _ _)
 clear h hrk hw1 hP hb1 hr1
 go_enter Tryz.func99,Tryz.ntmps99
 go_upto_region 1 with fail
 rw[HW1.out.1,HW1.out.2]
 go_wp2_with fail
 refine HC1.out.mono ?_
 rintro e w2 ⟨hb2,hck⟩
 have HB2:Hid (Bw w1 w2∧Bw w w2):=⟨hb2,HB1.out.trans (hb2.mono HB1.out.size)⟩
 clear a0 a1 a2 a3 a4 HC1 hb2
 have HCK:=aA hck
 rcases Qa hck with⟨t,x,rfl⟩ | ⟨rfl,d,f,hrt⟩
 ·clear hck
  go_wp2
  try simp only[Exit.inBlock,Exit.then]
  refine bodyPost_ret (results_tmp2 rfl _ _ _) rfl ?_
  exact⟨HB2.out.2,.inl ⟨t,x,HCK.out,rfl⟩⟩
 have HRT:=aA hrt
 have HC2:Hid (Calls Tryz.prog 11 #[.agg #[.slice o1 p.ins.length c1,.slice o2 p.outs.length c2,.slice o3 p.fs.length c3,.slice o4 p.asserts.length c4,.slice o5 p.checks.length c5]] w2 fun e w'=>Bw w2 w'∧Ir p E w2.heap.size e w'):=Ob w2 S p o1 o2 o3 o4 o5 c1 c2 c3 c4 c5 E (HG.out.keep HB2.out.2)
 obtain⟨a0,a1,a2,a3,a4⟩:=HPC.out w2 HB2.out.1
 clear hck HCK hrt
 go_wp2_with fail
 refine HC2.out.mono ?_
 rintro e w3 ⟨hb3,hlt⟩
 have HB3:Hid (Bw w1 w3∧Bw w w3):=⟨HB2.out.1.trans (hb3.mono HB2.out.1.size),HB2.out.2.trans (hb3.mono HB2.out.2.size)⟩
 clear a0 a1 a2 a3 a4 HC2 hb3
 obtain⟨nb,rfl,hwt⟩:∃nb,e=.returned (.tuple #[.slice (some ⟨nb,0,none⟩) p.fs.length p.fs.length,.nilIface])∧dV w3 nb p.fs.length (nE p f):=by
  rcases hlt with⟨d2,f2,nb,hok2,hlt2,he,_,hwt⟩ | ⟨t,x,hoe,_⟩
  ·obtain rfl:f=f2:=HRT.out.lt.one hlt2
   exact⟨nb,he,hwt⟩
  ·exact(hoe.not HRT.out.ord).elim
 have HWT:=aA hwt
 have hg3:=HG.out.keep HB3.out.2
 have HC3:Hid (Calls Tryz.prog 141 #[.agg #[.slice o1 p.ins.length c1,.slice o2 p.outs.length c2,.slice o3 p.fs.length c3,.slice o4 p.asserts.length c4,.slice o5 p.checks.length c5]] w3 fun e w'=>Bw w3 w'∧∃o c qs,aR (cK (fun _=>none) (aT p)) (aI p)=some (fT p,qs)∧qs.length=aC (aI p)∧e=.returned (.tuple #[.slice o (p.ins.length+qs.length) c,.nilIface])∧dP w' (.slice o (p.ins.length+qs.length) c) (p.ins.map Ex.n++qs)):=LM w3 S p o1 o2 o3 o4 o5 c1 c2 c3 c4 c5 hg3.pg hg3.ok HRT.out.ord.1 _ _ _ _ hg3.e3.type hg3.e3.bound
 obtain⟨a0,a1,a2,a3,a4⟩:=HPC.out w3 HB3.out.1
 clear hlt hwt hg3
 go_wp2_with fail
 refine HC3.out.mono ?_
 rintro e w4 ⟨hb4,ko,kc,qs,hty,hql,rfl,hki⟩
 have HB4:Hid (Bw w1 w4∧Bw w w4):=⟨HB3.out.1.trans (hb4.mono HB3.out.1.size),HB3.out.2.trans (hb4.mono HB3.out.2.size)⟩
 have HTY:Hid (aR (cK (fun _=>none) (aT p)) (aI p)=some (fT p,qs)∧qs.length=aC (aI p)):=⟨hty,hql⟩
 have HKI:=aA hki
 have hg4:=HG.out.keep HB4.out.2
 have hwt4:dV w4 nb p.fs.length (nE p f):=aN hb4 HWT.out
 have HC4:Hid (Calls Tryz.prog 142 #[.agg #[.slice o1 p.ins.length c1,.slice o2 p.outs.length c2,.slice o3 p.fs.length c3,.slice o4 p.asserts.length c4,.slice o5 p.checks.length c5],.slice (some ⟨nb,0,none⟩) p.fs.length p.fs.length] w4 fun e w'=>∃X B Kp Kl gG,e=.returned (.pointer (some ⟨X,0,none⟩))∧aG w4 (fun _=>False) [] (qZ X B Kp Kl gG (aM p f) (.slice o1 p.ins.length c1) (.slice o2 p.outs.length c2) (.slice o3 p.fs.length c3) (.slice o4 p.asserts.length c4) (.slice o5 p.checks.length c5)) w'):=Nk w4 S p _ _ o3 o4 o5 c3 c4 c5 hg4.pg o1 o2 c1 c2 hg4.ok nb (nE p f) hwt4
 clear a0 a1 a2 a3 a4 HC3 hb4 hty hql hki hwt4 hg4
 obtain⟨a0,a1,a2,a3,a4⟩:=HPC.out w4 HB4.out.1
 go_wp2_with fail
 refine HC4.out.mono ?_
 rintro e w5 ⟨X,B,Kp,Kl,gG,rfl,hp5⟩
 obtain⟨d5,hd5⟩:∃d5,d5=qZ X B Kp Kl gG (aM p f) (.slice o1 p.ins.length c1) (.slice o2 p.outs.length c2) (.slice o3 p.fs.length c3) (.slice o4 p.asserts.length c4) (.slice o5 p.checks.length c5):=⟨_,rfl⟩
 rw[←hd5] at hp5
 have HD5:=aA hd5
 have hxx:X=d5.X∧B=d5.B∧d5.fl=aM p f:=by rw[hd5];exact⟨rfl,rfl,rfl⟩
 have HXX:=aA hxx
 have hg4:=HG.out.keep HB4.out.2
 have hsz:aC (aI p)≤4000:=by obtain⟨_,_,_,_,_,_,h1,_⟩:=uW HRT.out.ord.1;exact h1
 have hn0:yO w4 p.ins d5 0 d5 w5:=by
  refine⟨hp5,⟨rfl,rfl,rfl,rfl,rfl,rfl,rfl,rfl,rfl,rfl,rfl⟩,?_,?_,?_,?_⟩<;>rw[hd5]
  ·rfl
  ·rfl
  ·rfl
  ·exact Nat.le_refl _
 have hnum:=M9 w4 w5 S p d5 o1 o2 o3 o4 o5 c1 c2 c3 c4 c5 hg4.pg hg4.ok (xY HRT.out.ord.1) (by rw[hd5];exact⟨rfl,rfl,rfl,rfl⟩) hsz hn0
 rw[←hxx.1] at hnum
 have HC5:=aA hnum
 have HSZ:Hid (aC (aI p)≤4000∧p.ins.length+p.fs.length≤1000):=⟨hsz,hg4.ok.vars⟩
 clear a0 a1 a2 a3 a4 HC4 hp5 hd5 hxx hn0 hnum hg4 hsz
 go_wp2_with fail
 refine HC5.out.mono ?_
 rintro e w6 ⟨rfl,F6,d6,hn6⟩
 obtain⟨fl,hfl⟩:∃fl,fl=aM p f:=⟨_,rfl⟩
 have HM6:Hid (d6.ps.map aW.q=(eP p fl).ps∧d6.ns=(eP p fl).ns∧d6.ks=(eP p fl).ks∧d6.fp=(bJ p fl).2∧d6.is=List.range p.ins.length∧d6.ts=[]∧d6.os=[]∧d6.X=X∧d6.B=B∧d6.v2=.slice o2 p.outs.length c2):=by
  have hm:=hn6.m
  rw[HXX.out.2.2,←hfl] at hm
  have hfp:=hn6.fp
  rw[HXX.out.2.2,←hfl] at hfp
  have hx:=hn6.fix
  refine⟨congrArg Pm.ps hm,congrArg Pm.ns hm,congrArg Pm.ks hm,hfp,hn6.is,?_,?_,?_,?_,?_⟩
  ·rw[hx.ts,HD5.out];rfl
  ·rw[hx.os,HD5.out];rfl
  ·rw[hx.X,←HXX.out.1]
  ·rw[hx.B,←HXX.out.2.1]
  ·rw[hx.v2,HD5.out];rfl
 have HVA:Hid (aB w6 F6 1 d6.va (aZ fl p.asserts (bJ p fl).1).2.length (aX (aZ fl p.asserts (bJ p fl).1).2)∧aB w6 F6 1 d6.vc (aZ fl p.checks (aZ fl p.asserts (bJ p fl).1).1).2.length (aX (aZ fl p.checks (aZ fl p.asserts (bJ p fl).1).1).2)):=by
  have h1:=hn6.va
  have h2:=hn6.vc
  rw[HXX.out.2.2,←hfl] at h1 h2
  rw[(qF fl p.asserts _).2.2.2.1,(qF fl p.checks _).2.2.2.1]
  exact⟨h1,h2⟩
 have hpl:=Bp p fl
 have HLL:Hid (d6.ps.length=p.ins.length+aC (aI p)∧d6.ns.length=d6.ps.length∧d6.ps.length≤50000):=by
  have e1:d6.ps.length=(eP p fl).ps.length:=by rw[←HM6.out.1,List.length_map]
  have:=HSZ.out
  rw[HM6.out.2.1]
  refine⟨by omega,by omega,by omega⟩
 have hg4:=HG.out.keep HB4.out.2
 have hol:(p.outs.map Ex.op).length=p.outs.length:=List.length_map _
 have hres:=Lc w4 w6 S F6 d6 (p.outs.map Ex.op) o2 c2 hn6.pl (by rw[hol];exact HM6.out.2.2.2.2.2.2.2.2.2) (by rw[hol,←Ni];exact hg4.pg.outs) (fun s hs=>by obtain⟨x,hx,rfl⟩:=List.mem_map.1 hs;exact hg4.ok.EC x hx) (by rw[HM6.out.2.1];exact Lu hg4.ok fl) HLL.out.2.1 HLL.out.2.2 (by have:=hg4.ok.outs;rw[hol,HM6.out.2.2.2.2.2.2.1,List.length_nil];exact this) (by rw[HM6.out.2.2.2.1];exact Nc p fl)
 rw[HM6.out.2.2.2.2.2.2.2.1] at hres
 have HC6:=aA hres
 have HFL:=aA hfl
 clear hn6 hpl hg4 hol hres HC5
 go_wp2_with fail
 refine HC6.out.mono ?_
 rintro e w7 ⟨rfl,hsz7,F7,d7,hr7,hst7⟩
 have HD7:Hid (d7.ps.map aW.q=dF p fl∧d7.os=p.outs.map (fun x=>dG (bJ p fl).2 x.op)∧d7.is=List.range p.ins.length∧d7.ks=(eP p fl).ks∧d7.ts=[]∧d7.X=X∧d7.B=B∧d7.ps.length=p.ins.length+qs.length):=by
  have e:=hr7.eq
  have hm:=HM6.out
  have hps:d7.ps.map aW.q=dF p fl:=by rw[hr7.ps,hm.1,hm.2.1,hm.2.2.2.1];rfl
  have hl7:d7.ps.length=d6.ps.length:=by
   have h1:=congrArg List.length hr7.ps
   simpa [oI] using h1
  refine⟨hps,?_,?_,?_,?_,?_,?_,?_⟩
  ·rw[hr7.os,hm.2.2.2.1,hm.2.2.2.2.2.2.1,List.nil_append,List.map_map];rfl
  ·rw[e];exact hm.2.2.2.2.1
  ·rw[e];exact hm.2.2.1
  ·rw[e];exact hm.2.2.2.2.2.1
  ·rw[e];exact hm.2.2.2.2.2.2.2.1
  ·rw[e];exact hm.2.2.2.2.2.2.2.2.1
  ·rw[hl7,HLL.out.1,HTY.out.2]
 have HVA7:Hid (aB w7 F7 1 d7.va (aZ fl p.asserts (bJ p fl).1).2.length (aX (aZ fl p.asserts (bJ p fl).1).2)∧aB w7 F7 1 d7.vc (aZ fl p.checks (aZ fl p.asserts (bJ p fl).1).1).2.length (aX (aZ fl p.checks (aZ fl p.asserts (bJ p fl).1).1).2)):=by
  rw[hr7.eq]
  exact⟨HVA.out.1.keep hst7,HVA.out.2.keep hst7⟩
 obtain⟨rk,hrk⟩:=HRK.out d fl HRT.out.ord
 have HC7:Hid (Calls Tryz.prog 145 #[.pointer (some ⟨X,0,none⟩)] w7 fun e w'=>e=.returned (.tuple #[])∧w7.heap.size≤w'.heap.size∧∃vt ts,aG w4 F7 [] { d7 with vt:=vt,ts:=ts } w'∧jV (d7.ps.map aW.q) ts∧aJ F7 F7 w7 w'):=LD w4 w7 F7 d7 X HD7.out.2.2.2.2.2.1.symm hr7.pl rk (by rw[HD7.out.1];exact hrk) HD7.out.2.2.2.2.1 (by have:=HD7.out.2.2.2.2.2.2.2;have:=HLL.out;have:=HTY.out.2;omega)
 clear hsz7 hr7 hst7 hrk hfl HC6
 go_wp2_with fail
 refine HC7.out.mono ?_
 rintro e w8 ⟨rfl,hsz8,vt,ts,hp8,htr,hst8⟩
 obtain⟨d8,hd8⟩:∃d8:aK,d8={ d7 with vt:=vt,ts:=ts }:=⟨_,rfl⟩
 rw[←hd8] at hp8
 have HD8:Hid (d8.ps.map aW.q=dF p fl∧d8.os=p.outs.map (fun x=>dG (bJ p fl).2 x.op)∧d8.is=List.range p.ins.length∧d8.ks=(eP p fl).ks∧d8.ts=ts∧d8.X=X∧d8.B=B∧d8.ps.length=p.ins.length+qs.length∧d8.va=d7.va∧d8.vc=d7.vc):=by
  have h:=HD7.out
  rw[hd8]
  exact⟨h.1,h.2.1,h.2.2.1,h.2.2.2.1,rfl,h.2.2.2.2.2.1,h.2.2.2.2.2.2.1,h.2.2.2.2.2.2.2,rfl,rfl⟩
 have HP8:Hid (aG w4 F7 [] d8 w8∧jV (dF p fl) ts∧aJ F7 F7 w7 w8∧w7.heap.size≤w8.heap.size):=⟨hp8,by rw[←HD7.out.1];exact htr,hst8,hsz8⟩
 obtain⟨n,hn⟩:∃n,n=p.ins.length+qs.length:=⟨_,rfl⟩
 have HN:Hid (n=p.ins.length+qs.length∧n≤5000∧n=(p.ins.map Ex.n++qs).length):=⟨hn,by have:=HSZ.out;have:=HTY.out.2;omega,by rw[hn];simp⟩
 rw[←hn] at HKI
 rw[←hn]
 clear hsz8 hp8 htr hst8 hd8 hn HC7
 go_wp2
 go_loopw [43] (fun t wr=>∃(j:Nat) (dj:aK),j≤n∧t=.int .i64 j∧Hid (AB w4 d8 (p.ins.map Ex.n++qs) j F7 dj wr∧aJ F7 F7 w8 wr∧w8.heap.size≤wr.heap.size)) (fun t _=>n-(intOf t).toNat)
 case atStart=>exact⟨0,d8,Nat.zero_le _,rfl,⟨HP8.out.1,oP.zero _ _,rfl⟩,aJ.refl _ _,Nat.le_refl _⟩
 case round=>
  obtain⟨j,dj,hj,rfl,HR⟩:=hrel
  have HRE:Hid (dj.X=X∧dj.B=B∧dj.ps.length=n):=by
   have hl:=HR.out.1.done
   refine⟨?_,?_,by rw[hl,HD8.out.2.2.2.2.2.2.2.1,HN.out.1]⟩
   ·rw[HR.out.1.eq];exact HD8.out.2.2.2.2.2.1
   ·rw[HR.out.1.eq];exact HD8.out.2.2.2.2.2.2.1
  by_cases hjl:j<n
  ·obtain⟨k,hk⟩:∃k,(p.ins.map Ex.n++qs)[j]?=some k:=⟨_,List.getElem?_eq_getElem (by rw[←HN.out.2.2];exact hjl)⟩
   obtain⟨_,ko',kc',e1,hget⟩:=HKI.out
   obtain⟨rfl,rfl⟩:ko=ko'∧kc=kc':=by have:=Value.slice.inj e1;exact⟨this.1,this.2.2⟩
   obtain⟨kb,koff,rfl,hkc⟩:=hget j k hk
   have y0:=aD HR.out.1.pl.below hkc
   obtain⟨q,hq⟩:∃q,dj.ps[j]?=some q:=⟨_,List.getElem?_eq_getElem (by rw[HRE.out.2.2];exact hjl)⟩
   obtain⟨g,c',evp,hc⟩:=HR.out.1.pl.cells hq
   have x5:wr.cell? ⟨X,0+5,none⟩=some (.pointer (some ⟨B,0,none⟩)):=by rw[←HRE.out.1,←HRE.out.2.1];exact HR.out.1.pl.iK
   have xb:wr.cell? ⟨B,0,none⟩=some (.slice (some ⟨g,0,none⟩) n c'):=by rw[←HRE.out.2.1,cell_of_row wr _ _ _ _ (0,0) HR.out.1.pl.bb,←HRE.out.2.2,←evp];rfl
   have a4:wr.cell? ⟨g,j*6+4,none⟩=some (.int .i64 q.kind):=hc 4 (by omega)
   have f4:wr.frozen? ⟨g,j*6+4,none⟩=false:=by
    have hpr:=HR.out.1.pl.parts
    rw[evp] at hpr
    exact hpr.frozenAt _
   have i0':(0:Int)≤(j:Int):=by omega
   have i1':(j:Int)<(n:Int):=by omega
   have hset:=HR.out.1.pl.DT (j:=j) (k:=4) (g:=g) (c:=c') (p':={ q with kind:=k }) (v:=.int .i64 k) hq (by omega) rfl evp (HR.out.1.pl.aF q (List.mem_of_getElem? hq))
   have HNX:Hid (AB w4 d8 (p.ins.map Ex.n++qs) (j+1) F7 { dj with ps:=dj.ps.set j { q with kind:=k } } (wr.setCell ⟨g,j*6+4,none⟩ (.int .i64 k))∧aJ F7 F7 w8 (wr.setCell ⟨g,j*6+4,none⟩ (.int .i64 k))∧w8.heap.size≤(wr.setCell ⟨g,j*6+4,none⟩ (.int .i64 k)).heap.size):=by
    refine⟨⟨hset.1,?_,?_⟩,HR.out.2.1.trans hset.2 HR.out.2.2,by rw[size_setCell];exact HR.out.2.2⟩
    ·have h1:=HR.out.1.ps.step (q:=q.q) (by rw[List.getElem?_map,hq];rfl) hk
     show oP _ _ _ ((dj.ps.set j { q with kind:=k }).map aW.q)
     rw[List.map_set]
     exact h1
    ·show _=({ d8 with ps:=dj.ps.set j { q with kind:=k } }:aK)
     rw[HR.out.1.eq]
   have HJ:=aA hjl
   have N4:Hid (wrap64 ((j:Int)+1)=(j:Int)+1):=by have:=HN.out.2.1;have:=HJ.out;unfold Hid wrap64;omega
   clear hk e1 hget hkc hq evp hc hset hj hjl HR
   go_wp2
   exact⟨⟨j+1,_,HJ.out,by (try rw[N4.out]);rfl,HNX.out⟩,by (try rw[N4.out]);have:=HJ.out;simp [intOf];omega⟩
  ·obtain rfl:n=j:=by omega
   have x5:wr.cell? ⟨X,0+5,none⟩=some (.pointer (some ⟨B,0,none⟩)):=by rw[←HRE.out.1,←HRE.out.2.1];exact HR.out.1.pl.iK
   have HE:Hid (Bw w wr∧jV (dF p (aM p f)) ts∧nM wr B (bE p (aM p f) ts qs)):=by
    have hk:=HR.out.1
    have h8:=HD8.out
    have e:=hk.eq
    have hst:=HP8.out.2.2.1.trans HR.out.2.1 HP8.out.2.2.2
    refine⟨HB4.out.2.trans (hk.pl.below.mono HB4.out.2.size),by rw[←HFL.out];exact HP8.out.2.1,?_⟩
    have hva:dj.va=d7.va:=by rw[e];exact h8.2.2.2.2.2.2.2.2.1
    have hvc:dj.vc=d7.vc:=by rw[e];exact h8.2.2.2.2.2.2.2.2.2
    have hpn:=hk.pl.plan (by rw[hva];exact HVA7.out.1.keep hst) (by rw[hvc];exact HVA7.out.2.keep hst)
    have hps:dj.ps.map aW.q=jT (p.ins.map Ex.n++qs) (dF p fl):=by
     rw[←h8.1]
     exact hk.ps.all (by rw[List.length_map,h8.2.2.2.2.2.2.2.1,HN.out.1];exact Nat.le_refl _)
    have e1:dj.is=List.range p.ins.length:=by rw[e];exact h8.2.2.1
    have e2:dj.ts=ts:=by rw[e];exact h8.2.2.2.2.1
    have e3:dj.ks=(eP p fl).ks:=by rw[e];exact h8.2.2.2.1
    have e4:dj.os=p.outs.map (fun x=>dG (bJ p fl).2 x.op):=by rw[e];exact h8.2.1
    rw[HRE.out.2.1,hps,e1,e2,e3,e4] at hpn
    rw[←HFL.out]
    exact hpn
   clear hj hjl HR
   go_wp2
   try simp only[Exit.inBlock,Exit.then]
   refine bodyPost_ret (results_tmp2 rfl _ _ _) rfl ?_
   exact⟨HE.out.1,.inr ⟨d,f,ts,qs,B,HRT.out,HE.out.2.1,HTY.out.1,HTY.out.2,rfl,HE.out.2.2⟩⟩
def uU(f:Int→Option Value)(k:Int)(v:Value):Int→Option Value:=fun x=>if x=k then some v else f x
def Ae:Int→Option Value:=fun _=>none
def jY(w:World)(b n:Nat)(f:Int→Option Value):Prop:=∃D:DataW Value,w.ownsMap Tryz.prog 3 jI b n D∧∀k:Int,Maps.has D (.int .i64 k)=(f k).isSome∧∀v z,f k=some v→D.atKey (.int .i64 k) z=.held v
theorem BP:Keyed Tryz.prog 3:=int_keyed Tryz.underlying3
theorem jY.lt{w:World}{b n:Nat}{f:Int→Option Value}(h:jY w b n f):b<w.heap.size:=by
 obtain⟨D,h,_⟩:=h
 exact h.lt
theorem jY.kept{w w':World}{b n:Nat}{f:Int→Option Value}(h:jY w b n f)(e:w'.heap[b]?=w.heap[b]?):jY w' b n f:=by
 obtain⟨D,⟨es,clock,hb,r⟩,k⟩:=h
 exact⟨D,⟨es,clock,by rw[e];exact hb,r⟩,k⟩
theorem jY.made(w:World):jY (w.alloc (.map #[] 0)) w.heap.size 0 Ae:=
 ⟨.map [],World.ownsMap_made w _ _ _,fun k=>⟨rfl,fun v z h=>by simp [Ae] at h⟩⟩
theorem OY{D:DataW Value}{f:Int→Option Value}(hD:IsMap D)(h:∀k:Int,Maps.has D (.int .i64 k)=(f k).isSome∧∀v z,f k=some v→D.atKey (.int .i64 k) z=.held v)(s:Int)(hs:WideAt.IsKeyLit (.int .i64 s))(val:Value) :
  ∀k:Int,Maps.has (D.put (.int .i64 s) (.held val)) (.int .i64 k)=(uU f s val k).isSome∧∀v z,uU f s val k=some v→(D.put (.int .i64 s) (.held val)).atKey (.int .i64 k) z=.held v:=by
 intro k
 unfold uU
 by_cases e:k=s
 ·subst e
  rw[if_pos rfl]
  exact⟨has_put_same hD hs _,fun v z hv=>by rw[atKey_put_same hD hs];simpa using hv⟩
 ·have hne:Lit.int .i64 k≠Lit.int .i64 s:=fun q=>e (by simpa using q)
  rw[if_neg e,has_put_other hne]
  exact⟨(h k).1,fun v z hv=>by rw[atKey_put_other hne];exact(h k).2 v z hv⟩
theorem jY.put{w:World}{b n:Nat}{f:Int→Option Value}(h:jY w b n f){t e:TypeId}(ht:Tryz.prog.underlying t=some (.map 3 e))(hn:n<maxLen)(s:Int)(hs:(Lit.int .i64 s).wf=true)(val:Value) :
  ∃w',(Instr.mapUpdate t (.map (some b)) (.int .i64 s) val).run Tryz.prog w=.ok () w'∧jY w' b (n+1) (uU f s val)∧w.grownBy w' (some b):=by
 obtain⟨D,h,k⟩:=h
 have hk:=keyOf_int_mk Tryz.underlying3 hs
 obtain⟨w',r1,r2,r3⟩:=h.update BP ht hn hk (show jI val=some (.held val,[]) from rfl)
 exact⟨w',r1,⟨_,r2,OY h.isMap k _ (BP.key hk) _⟩,r3⟩
theorem CW{ops:Array Oper}{rest:List Oper}{o:Oper}{a:Act}{Q:Exit→Act→World→Prop}(w:World)(hg:o.guard=none)(m x v:Operand)(t e:TypeId)(hop:o.op=Op.insert t m x v)(ht:Tryz.prog.underlying t=some (.map 3 e))(b n:Nat)(f:Int→Option Value)
  (hm:a.eval m=.map (some b)) (h:jY w b n f) (hn:n<maxLen) (s:Int) (hs:(Lit.int .i64 s).wf=true) (hx:a.eval x=.int .i64 s) (val:Value) (hv:a.eval v=val)
  (hK:∀w',jY w' b (n+1) (uU f s val)→w.grownBy w' (some b)→wpList Tryz.prog ops Q rest (a.put o.dst undef) w'):wpList Tryz.prog ops Q (o::rest) a w:=by
 refine wpList_plain hg fun K' hK'=>?_
 obtain⟨w',hrun,r1,r2⟩:=h.put ht hn s hs val
 unfold Oper.wp
 simp [execOp,hop,hm,hx,hv,hrun,Result.andThen]
 exact hK' _ _ (hK w' r1 r2)
theorem jY.lW{w:World}{b n:Nat}{f:Int→Option Value}(h:jY w b n f){t e:TypeId}(ht:Tryz.prog.underlying t=some (.map 3 e)){z:Value}(hz:(zeroValue e).run Tryz.prog w=.ok z w)(s:Int)(hs:(Lit.int .i64 s).wf=true) :
  (Instr.lookup t (.map (some b)) (.int .i64 s) false).run Tryz.prog w=.ok ((f s).getD z) w:=by
 obtain⟨D,h,k⟩:=h
 obtain⟨v,ps,r1,r2⟩:=h.lookup BP ht hz (show jI z=some (.held z,[]) from rfl) (keyOf_int_mk Tryz.underlying3 hs)
 obtain⟨k1,k2⟩:=k s
 rw[r1]
 have e1:(DataW.held v:DataW Value)=D.atKey (.int .i64 s) (.held z):=by
  have:some ((DataW.held v:DataW Value),([]:List MemPlace))=some (D.atKey (.int .i64 s) (.held z),ps):=r2
  exact congrArg Prod.fst (Option.some.inj this)
 cases hf:f s with
 | none=>
  rw[hf] at k1
  rw[atKey_of_not_has k1] at e1
  have e2:=DataW.held.inj e1
  rw[e2];rfl
 | some v0=>
  rw[k2 v0 (.held z) hf] at e1
  have e2:=DataW.held.inj e1
  rw[e2];rfl
def zV(b n:Int):Int→Option Value:=uU (uU Ae 1 (.int .i64 b)) 2 (.int .i64 n)
def oQ(w:World)(f:List UInt8→Option Value):Prop:=(∀k v,nU k=some v→∃p,f k=some (l8 116 p)∧w.cell? ⟨p,0,none⟩=some v) ∧
 (∀k v,l7 k=some v→∃p,f k=some (l8 118 p)∧w.cell? ⟨p,0,none⟩=some v)∧(∀k v,kL k=some v→∃p,f k=some (l8 120 p)∧w.cell? ⟨p,0,none⟩=some v) ∧
 ∀k,nU k=none→l7 k=none→kL k=none→f k=pG k
theorem Aw.do{w:World}{B:Nat}(h:Aw w B):∃f n,aO w B n f∧oQ w f:=h
theorem oQ.keep{w w':World}{f:List UInt8→Option Value}(h:oQ w f)(hc:∀p i,w.cell? ⟨p,0,none⟩=some (.func (.func i) #[] #[])→w'.cell? ⟨p,0,none⟩=some (.func (.func i) #[] #[])):oQ w' f:=by
 obtain⟨h1,h2,h3,h4⟩:=h
 refine⟨fun k v hk=>?_,fun k v hk=>?_,fun k v hk=>?_,h4⟩
 ·obtain⟨p,a,b⟩:=h1 k v hk
  obtain⟨i,rfl⟩:=Eb hk
  exact⟨p,a,hc p i b⟩
 ·obtain⟨p,a,b⟩:=h2 k v hk
  obtain⟨i,rfl⟩:=GL hk
  exact⟨p,a,hc p i b⟩
 ·obtain⟨p,a,b⟩:=h3 k v hk
  obtain⟨i,rfl⟩:=Dt hk
  exact⟨p,a,hc p i b⟩
end Go.Proofs.YtmgfakcccfahaaaGreatDoor
