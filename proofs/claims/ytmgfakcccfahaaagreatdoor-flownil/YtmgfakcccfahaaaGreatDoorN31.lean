/-
  package plan: resolve BY CONTRACT: a name's only part is what has its value; outputs have theirs.
-/
import Derived.Test.YtmgfakcccfahaaaGreatDoorN30
import Derived.Laws.OwnMore
namespace Go.Proofs.YtmgfakcccfahaaaGreatDoor
open Go.RowKit Go.Maps
set_option maxRecDepth 100000
set_option maxHeartbeats 4000000

theorem Sep.store{w:World}{base:Nat}{F:Nat→Prop}{cs:List Own}(h:Sep w base F cs){i:Nat}{e:TypeId}{size n g c:Nat}{v:Value}{xs:List Value}(hi:cs[i]?=some (dH base e size v n xs))(hv:v=.slice (some ⟨g,0,none⟩) n c)(j:Nat)(u:Value):Sep (w.setCell ⟨g,j,none⟩ u) base F (cs.set i (dH base e size v n (xs.set j u)))∧w.grownBy (w.setCell ⟨g,j,none⟩ u) v.ownBlock:=by
 subst hv
 have ho:w.ownsRow base e size (.slice (some ⟨g,0,none⟩) n c) n xs:=h.is i _ hi
 obtain⟨h1,h2⟩:=ho.stored j u
 exact⟨h.step hi h2 h1 (fun q hq=>.inl hq),h2⟩
theorem Ed:∀{ps:List aW} {j:Nat} {p:aW} (k:Nat) (v:Value) (p':aW),ps[j]?=some p→k<6→p.cells.set k v=p'.cells→(kP ps).set (j*6+k) v=kP (ps.set j p')
 | [],j,p,k,v,p',h,_,_=>by simp at h
 | x::ps,0,p,k,v,p',h,hk,he=>by
  obtain rfl:x=p:=by simpa using h
  unfold kP
  rw[List.flatMap_cons,Nat.zero_mul,Nat.zero_add,List.set_append_left _ _ (by simpa [aW.cells] using hk),he,List.set_cons_zero,List.flatMap_cons]
 | x::ps,j+1,p,k,v,p',h,hk,he=>by
  have:=Ed (ps:=ps) (j:=j) (p:=p) k v p' (by simpa using h) hk he
  unfold kP at this ⊢
  rw[List.flatMap_cons,List.set_append_right _ _ (by simp [aW.cells];omega),show (j+1)*6+k-x.cells.length=j*6+k from by simp [aW.cells];omega,this,List.set_cons_succ,List.flatMap_cons]
theorem aK.LW(d:aK)(base:Nat)(ex:List Own){j k:Nat}{p p':aW}{v:Value}(hj:d.ps[j]?=some p)(hk:k<6)(he:p.cells.set k v=p'.cells):(d.own base++ex).set 4 (dH base 185 6 d.vp d.ps.length ((kP d.ps).set (j*6+k) v))={ d with ps:=d.ps.set j p' }.own base++ex:=by
 rw[Ed k v p' hj hk he]
 simp only[aK.own,List.length_set]
 rfl
theorem aG.DT{w0 w:World}{F:Nat→Prop}{ex:List Own}{d:aK}(h:aG w0 F ex d w){j k g c:Nat}{p p':aW}{v:Value}(hj:d.ps[j]?=some p)(hk:k<6)(he:p.cells.set k v=p'.cells)(hv:d.vp=.slice (some ⟨g,0,none⟩) d.ps.length c)(hr:aB w F 1 (.slice p'.oo p'.aF.length p'.oc) p'.aF.length (aX p'.aF)):aG w0 F ex { d with ps:=d.ps.set j p' } (w.setCell ⟨g,j*6+k,none⟩ v)∧aJ F F w (w.setCell ⟨g,j*6+k,none⟩ v):=by
 obtain⟨h1,h2⟩:=h.sep.store (i:=4) rfl hv (j*6+k) v
 rw[aK.LW d _ ex hj hk he] at h1
 have hst:=h.sep.stays (i:=4) rfl h2
 refine⟨⟨h1,fun q hq=>?_,h.sep.below (i:=4) rfl h2 h.below⟩,hst⟩
 rcases List.mem_or_eq_of_mem_set hq with hq | rfl
 ·exact(h.aF q hq).keep hst
 ·exact hr.keep hst
def iA(fp:List UInt8→Option Int)(s:ByteArray)(q:Pq):Pq:=if q.op.data.toList=bS then { q with aF:=[((fp s.data.toList).getD 0).toNat] } else q
def pE(ns:List ByteArray)(k:Nat):ByteArray:=ns[k]?.getD ⟨#[]⟩
def lM(fp:List UInt8→Option Int)(ns:List ByteArray)(ps:List Pq)(j:Nat)(qs:List Pq):Prop:=∀k,qs[k]?=ps[k]?.map fun q=>if k<j then iA fp (pE ns k) q else q
theorem lM.zero(fp:List UInt8→Option Int)(ns:List ByteArray)(ps:List Pq):lM fp ns ps 0 ps:=fun k=>by
 cases ps[k]?<;>simp
theorem lM.length{fp:List UInt8→Option Int}{ns:List ByteArray}{ps qs:List Pq}{j:Nat}(h:lM fp ns ps j qs):qs.length=ps.length:=by
 have h1:∀k,qs[k]?=none ↔ ps[k]?=none:=fun k=>by rw[h k];cases ps[k]?<;>simp
 have a:=(h1 qs.length).1 (by simp)
 have b:=(h1 ps.length).2 (by simp)
 rw[List.getElem?_eq_none_iff] at a b
 omega
theorem lM.step{fp:List UInt8→Option Int}{ns:List ByteArray}{ps qs:List Pq}{j:Nat}{q:Pq}(h:lM fp ns ps j qs)(hq:qs[j]?=some q):lM fp ns ps (j+1) (qs.set j (iA fp (pE ns j) q)):=fun k=>by
 have hk:=h k
 by_cases e:j=k
 ·subst e
  rw[List.getElem?_set_self (bA hq).1]
  rw[hq] at hk
  cases hp:ps[j]? with
  | none=>rw[hp] at hk;cases hk
  | some p=>
   rw[hp] at hk
   simp only[Option.map_some,if_neg (Nat.lt_irrefl j)] at hk
   obtain rfl:q=p:=Option.some.inj hk
   simp
 ·rw[List.getElem?_set_ne e,hk]
  cases ps[k]? with
  | none=>rfl
  | some p=>
   simp only[Option.map_some]
   by_cases h1:k<j
   ·rw[if_pos h1,if_pos (by omega)]
   ·rw[if_neg h1,if_neg (by omega)]
theorem lM.same{fp:List UInt8→Option Int}{ns:List ByteArray}{ps qs:List Pq}{j:Nat}{q:Pq}(h:lM fp ns ps j qs)(hq:qs[j]?=some q)(hn:q.op.data.toList≠bS):lM fp ns ps (j+1) qs:=by
 have:=h.step hq
 rw[show iA fp (pE ns j) q=q from if_neg hn] at this
 rwa [show qs.set j q=qs from by
  apply List.ext_getElem?
  intro k
  by_cases e:j=k
  ·subst e;rw[List.getElem?_set_self (bA hq).1,hq]
  ·rw[List.getElem?_set_ne e]] at this
def oI(fp:List UInt8→Option Int)(ns:List ByteArray)(ps:List Pq):List Pq:=ps.mapIdx fun k q=>iA fp (pE ns k) q
theorem lM.all{fp:List UInt8→Option Int}{ns:List ByteArray}{ps qs:List Pq}{j:Nat}(h:lM fp ns ps j qs)(hj:ps.length≤j):qs=oI fp ns ps:=by
 apply List.ext_getElem?
 intro k
 rw[h k,oI,List.getElem?_mapIdx]
 cases hp:ps[k]? with
 | none=>rfl
 | some p=>simp only[Option.map_some,if_pos (Nat.lt_of_lt_of_le (bA hp).1 hj)]
theorem ER{ns:List ByteArray}{k:Nat}{s:ByteArray}(h:ns[k]?=some s):(nD ns)[k]?=some (.string s):=by unfold nD;rw[List.getElem?_map,h];rfl
theorem aG.nameAt{w0 w:World}{F:Nat→Prop}{ex:List Own}{d:aK}(h:aG w0 F ex d w){k:Nat}{s:ByteArray}(hk:d.ns[k]?=some s):∃g c,d.vn=.slice (some ⟨g,0,none⟩) d.ns.length c∧w.cell? ⟨g,k,none⟩=some (.string s):=by
 have hl:=(bA hk).1
 obtain⟨g,c,e,_⟩:=h.names.form (by omega)
 have hp:=h.names
 rw[e] at hp
 have:=hp.cells (g:=g) rfl k _ (ER hk)
 rw[Addr.add_lit,Nat.zero_add] at this
 exact⟨g,c,e,this⟩
theorem aG.Eu{w0 w:World}{F:Nat→Prop}{ex:List Own}{d:aK}(h:aG w0 F ex d w):w.ownsRow w0.heap.size 3 1 d.vo d.os.length (aX d.os):=h.sep.is 9 _ rfl
theorem aK.LY(d:aK)(base:Nat)(ex:List Own)(x:Nat)(v:Value):((d.own base++ex).set 9 (dH base 3 1 v (d.os.length+1) (aX d.os++[.int .i64 (x:Int)]))).set 1 (aP d.B (.cells (#[d.vp,d.vi,d.vt,d.vk,d.vo,d.va,d.vc].setIfInBounds 4 v) 183 (0,0)))={ d with vo:=v,os:=d.os++[x] }.own base++ex:=by
 simp only[aK.own,List.length_append,List.length_singleton,Af]
 rfl
theorem aG.output{w0 w w':World}{F:Nat→Prop}{ex:List Own}{d:aK}(h:aG w0 F ex d w){x g cap:Nat}(ho:w'.ownsRow w0.heap.size 3 1 (.slice (some ⟨g,0,none⟩) (d.os.length+1) cap) (d.os.length+1) (aX d.os++[.int .i64 (x:Int)]))(hg:w.grownBy w' d.vo.ownBlock)(ha:d.vo.ownBlock=some g∨g=w.heap.size):aG w0 F ex { d with vo:=.slice (some ⟨g,0,none⟩) (d.os.length+1) cap,os:=d.os++[x] } (w'.setCell ⟨d.B,4,none⟩ (.slice (some ⟨g,0,none⟩) (d.os.length+1) cap))∧aJ F F w (w'.setCell ⟨d.B,4,none⟩ (.slice (some ⟨g,0,none⟩) (d.os.length+1) cap))∧w.heap.size≤(w'.setCell ⟨d.B,4,none⟩ (.slice (some ⟨g,0,none⟩) (d.os.length+1) cap)).heap.size:=by
 have h4:=h.sep.grow (i:=9) rfl ho hg ha
 have h5:=h4.set (i:=1) (b:=d.B) rfl 4 (.slice (some ⟨g,0,none⟩) (d.os.length+1) cap)
 rw[aK.LY] at h5
 have hs1:=h.sep.stays (i:=9) rfl hg
 have hs2:=h4.stays (i:=1) (c:=aP d.B d.bo) rfl (bW w' d.B 4 (.slice (some ⟨g,0,none⟩) (d.os.length+1) cap))
 exact⟨⟨h5,(h.aF.keep hs1).keep hs2,h4.below (i:=1) (c:=aP d.B d.bo) rfl (bW w' d.B 4 _) (h.sep.below (i:=9) rfl hg h.below)⟩,hs1.trans hs2 hg.size,by rw[size_setCell];exact hg.size⟩
theorem aG.freeze{w0 w:World}{F:Nat→Prop}{ex:List Own}{d:aK}(h:aG w0 F ex d w)(a:Array Value)(t:TypeId):aG w0 (fun x=>F x∨x=w.heap.size) ex d (w.alloc (.cells a t))∧aJ F (fun x=>F x∨x=w.heap.size) w (w.alloc (.cells a t)):=by
 have hb:Bw w (w.alloc (.cells a t)):=(Below.refl w.heap.size w).alloc (Nat.le_refl _) (.cells a t)
 have hst:aJ F (fun x=>F x∨x=w.heap.size) w (w.alloc (.cells a t)):=fun b hF hl=>⟨.inl hF,hb.block b hl⟩
 exact⟨⟨h.sep.froze hb (Nat.le_refl _) (by simp),h.aF.keep hst,h.below.trans (hb.mono h.below.size)⟩,hst⟩
def pQ(fp:List UInt8→Option Int):Prop:=∀s,∃k:Nat,(fp s).getD 0=(k:Int)
def dG(fp:List UInt8→Option Int)(s:ByteArray):Nat:=((fp s.data.toList).getD 0).toNat
theorem pQ.dG{fp:List UInt8→Option Int}(h:pQ fp)(s:ByteArray):(fp s.data.toList).getD 0=(dG fp s:Int):=by
 obtain⟨k,hk⟩:=h s.data.toList
 unfold Go.Proofs.YtmgfakcccfahaaaGreatDoor.dG
 rw[hk];rfl
structure Ih(w0:World)(d:aK)(outs:List ByteArray)(F:Nat→Prop)(d':aK)(w':World):Prop where
 pl:aG w0 F [] d' w'
 ps:d'.ps.map aW.q=oI d.fp d.ns (d.ps.map aW.q)
 os:d'.os=d.os++outs.map (dG d.fp)
 eq:d'={ d with ps:=d'.ps,vo:=d'.vo,os:=d'.os }
structure CF(w0:World)(d:aK)(j:Nat)(F0 F:Nat→Prop)(d':aK)(w w':World):Prop where
 pl:aG w0 F [] d' w'
 ps:lM d.fp d.ns (d.ps.map aW.q) j (d'.ps.map aW.q)
 eq:d'={ d with ps:=d'.ps }
 st:aJ F0 F w w'
 sz:w.heap.size≤w'.heap.size
structure Au(w0:World)(d:aK)(outs:List ByteArray)(j:Nat)(F0 F:Nat→Prop)(d':aK)(w w':World):Prop where
 pl:aG w0 F [] d' w'
 ps:d'.ps.map aW.q=oI d.fp d.ns (d.ps.map aW.q)
 os:d'.os=d.os++(outs.take j).map (dG d.fp)
 eq:d'={ d with ps:=d'.ps,vo:=d'.vo,os:=d'.os }
 st:aJ F0 F w w'
 sz:w.heap.size≤w'.heap.size
theorem Lc(w0 w:World)(S F:Nat→Prop)(d:aK)(outs:List ByteArray)(o2:Option Addr)(c2:Nat)(h:aG w0 F [] d w)(hv:d.v2=.slice o2 outs.length c2)(ho:aB w0 S 1 (.slice o2 outs.length c2) outs.length (nD outs))(hos:∀s∈outs,s.size≤maxLen)(hns:∀s∈d.ns,s.size≤maxLen)(hl:d.ns.length=d.ps.length)(hps:d.ps.length≤50000)(hou:outs.length+d.os.length≤2097152)(hp:pQ d.fp) :
  Calls Tryz.prog 144 #[.pointer (some ⟨d.X,0,none⟩)] w fun e w'=>e=.returned (.tuple #[])∧w.heap.size≤w'.heap.size∧∃F' d',Ih w0 d outs F' d' w'∧aJ F F' w w':=by
 obtain⟨i0,hi0,hz0,hz1,hz2⟩:=info_parts Tryz.kT
 obtain⟨X,hX⟩:∃X,X=d.X:=⟨_,rfl⟩
 obtain⟨B,hB⟩:∃B,B=d.B:=⟨_,rfl⟩
 obtain⟨KP,hKP⟩:∃KP,KP=d.Kp:=⟨_,rfl⟩
 obtain⟨n,hn⟩:∃n,n=d.ps.length:=⟨_,rfl⟩
 have HXB:Hid (X=d.X∧B=d.B∧KP=d.Kp∧n=d.ps.length):=⟨hX,hB,hKP,hn⟩
 have HH:=aA h
 have HOU:Hid (d.v2=.slice o2 outs.length c2∧aB w0 S 1 (.slice o2 outs.length c2) outs.length (nD outs)∧(∀s∈outs,s.size≤maxLen)∧outs.length+d.os.length≤2097152):=⟨hv,ho,hos,hou⟩
 have HNS:Hid ((∀s∈d.ns,s.size≤maxLen)∧d.ns.length=d.ps.length∧d.ps.length≤50000∧pQ d.fp):=⟨hns,hl,hps,hp⟩
 have x5:w.cell? ⟨X,0+5,none⟩=some (.pointer (some ⟨B,0,none⟩)):=by rw[hX,hB];exact h.iK
 obtain⟨o,c,hvp,_⟩:=q9 h.parts
 rw[←hn] at hvp
 have HVP:=aA hvp
 have b0:w.cell? ⟨B,0,none⟩=some (.slice o n c):=by rw[hB,cell_of_row w _ _ _ _ (0,0) h.bb,←hvp];rfl
 rw[←hX]
 clear hv ho hos hns hl hps hou hp h hX hB hKP hn hvp
 go_enter Tryz.func144,Tryz.ntmps144
 go_wp2
 clear x5 b0
 go_loopw [14] (fun t wr=>∃(j:Nat) (Fj:Nat→Prop) (dj:aK),j≤n∧t=.int .i64 j∧Hid (CF w0 d j F Fj dj w wr)) (fun t _=>n-(intOf t).toNat)
 case atStart=>exact⟨0,F,d,Nat.zero_le _,rfl,HH.out,lM.zero _ _ _,rfl,aJ.refl _ _,Nat.le_refl _⟩
 case round=>
  obtain⟨j,Fj,dj,hj,rfl,HR⟩:=hrel
  have HRE:Hid (dj.X=X∧dj.B=B∧dj.Kp=KP∧dj.fp=d.fp∧dj.ns=d.ns∧dj.vp=d.vp∧dj.ps.length=n∧dj.v2=d.v2∧dj.os=d.os):=by
   have e:=HR.out.eq
   have hx:=HXB.out
   have hl:dj.ps.length=n:=by
    have h0:=lM.length HR.out.ps
    simp only[List.length_map] at h0
    rw[h0,hx.2.2.2]
   rw[e]
   exact⟨hx.1.symm,hx.2.1.symm,hx.2.2.1.symm,rfl,rfl,rfl,by rw[←e];exact hl,rfl,rfl⟩
  by_cases hjl:j<n
  ·have hjd:j<dj.ps.length:=by rw[HRE.out.2.2.2.2.2.2.1];exact hjl
   obtain⟨q,hq⟩:∃q,dj.ps[j]?=some q:=⟨_,List.getElem?_eq_getElem hjd⟩
   obtain⟨g,c',evp,hc⟩:=HR.out.pl.cells hq
   rw[HRE.out.2.2.2.2.2.2.1] at evp
   obtain⟨rfl,rfl⟩:o=some ⟨g,0,none⟩∧c=c':=by
    have e1:=HRE.out.2.2.2.2.2.1
    rw[evp,HVP.out] at e1
    simpa using e1.symm
   have a0:wr.cell? ⟨g,j*6,none⟩=some (.string q.op):=hc 0 (by omega)
   have a1:wr.cell? ⟨g,j*6+1,none⟩=some (.int .i64 q.n):=hc 1 (by omega)
   have a2:wr.cell? ⟨g,j*6+2,none⟩=some (.slice q.oo q.aF.length q.oc):=hc 2 (by omega)
   have a3:wr.cell? ⟨g,j*6+3,none⟩=some (.int .i64 q.mem):=hc 3 (by omega)
   have a4:wr.cell? ⟨g,j*6+4,none⟩=some (.int .i64 q.kind):=hc 4 (by omega)
   have a5:wr.cell? ⟨g,j*6+5,none⟩=some (.bool q.late):=hc 5 (by omega)
   have i0':(0:Int)≤(j:Int):=by omega
   have i1':(j:Int)<(n:Int):=by omega
   obtain⟨s,hs⟩:∃s,d.ns[j]?=some s:=⟨_,List.getElem?_eq_getElem (by rw[HNS.out.2.1,←HXB.out.2.2.2];exact hjl)⟩
   obtain⟨w1,hw1⟩:∃w1,w1=wr.alloc (.cells #[.string q.op,.int .i64 q.n,.slice q.oo q.aF.length q.oc,.int .i64 q.mem,.int .i64 q.kind,.bool q.late] 185):=⟨_,rfl⟩
   obtain⟨V,hV⟩:∃V,V=wr.heap.size:=⟨_,rfl⟩
   have hb1:Bw wr w1:=by rw[hw1];exact aH
   have hr1:w1.heap[V]?=some (.cells #[.string q.op,.int .i64 q.n,.slice q.oo q.aF.length q.oc,.int .i64 q.mem,.int .i64 q.kind,.bool q.late] 185 (0,0)):=by rw[hw1,hV];exact heap_alloc_new _ _
   have z0:w1.cell? ⟨V,0,none⟩=some (.string q.op):=cr hr1 rfl
   have HP1:Hid (aG w0 Fj [] dj w1):=HR.out.pl.keep hb1
   have HJ:Hid (j<n∧dj.ps[j]?=some q∧d.ns[j]?=some s∧dj.vp=.slice (some ⟨g,0,none⟩) n c∧s.size≤maxLen):=⟨hjl,hq,hs,evp,HNS.out.1 _ (List.mem_of_getElem? hs)⟩
   have HST:Hid (aJ F Fj w w1∧w.heap.size≤w1.heap.size):=⟨HR.out.st.trans (jZ hb1) HR.out.sz,Nat.le_trans HR.out.sz hb1.size⟩
   have HRP:Hid (lM d.fp d.ns (d.ps.map aW.q) j (dj.ps.map aW.q)∧dj={ d with ps:=dj.ps }):=⟨HR.out.ps,HR.out.eq⟩
   have N4:Hid (wrap64 ((j:Int)+1)=(j:Int)+1):=by have:=HNS.out.2.2.1;have:=HJ.out.1;have:=HXB.out.2.2.2;unfold Hid wrap64;omega
   have HW1:Hid (wr.alloc (.cells #[.string q.op,.int .i64 q.n,.slice q.oo q.aF.length q.oc,.int .i64 q.mem,.int .i64 q.kind,.bool q.late] 185)=w1∧wr.heap.size=V):=⟨hw1.symm,hV.symm⟩
   clear hjd hq evp hc hs hw1 hV hb1 hr1 hj hjl HR
   go_upto_region 3 with fail
   rw[HW1.out.1,HW1.out.2]
   clear a0 a1 a2 a3 a4 a5
   by_cases hnm:q.op.data.toList=bS
   ·have dn:(q.op.toList==[110,97,109,101])=true:=by rw[ByteArray.toList_eq,hnm];rfl
    have HNM:=aA hnm
    clear hnm
    go_upto_region 4 with fail
    clear z0 dn
    have hPd:=HP1.out.keep (Below.refl _ _).drew
    obtain⟨gn,cn,evn,zn⟩:=hPd.nameAt (k:=j) (s:=s) (by rw[HRE.out.2.2.2.2.1];exact HJ.out.2.2.1)
    rw[HRE.out.2.2.2.2.1,HNS.out.2.1,←HXB.out.2.2.2] at evn
    obtain⟨k,hk⟩:∃k,k=dG d.fp s:=⟨_,rfl⟩
    have HSX:Hid (∀(F':Nat→Prop) (dd:aK) (W:World),aG w0 F' [] dd W→(∃ps,dd={ dj with ps:=ps })→(fun w'=>w'.cell? ⟨X,0+5,none⟩=some (.pointer (some ⟨B,0,none⟩))∧w'.cell? ⟨X,0+6,none⟩=some (.map (some KP))∧w'.cell? ⟨X,0+8,none⟩=some (.slice (some ⟨gn,0,none⟩) n cn)∧w'.cell? ⟨B,0,none⟩=some (.slice (some ⟨g,0,none⟩) n c)∧w'.cell? ⟨gn,j,none⟩=some (.string s)∧(Instr.lookup 96 (.map (some KP)) (.string s) false).run Tryz.prog w'=.ok (.int .i64 (k:Int)) w') W):=fun F' dd W hW he=>by
     obtain⟨ps,rfl⟩:=he
     have q5:=hW.iK
     have q6:=hW.tQ
     obtain⟨gn',cn',evn',zn'⟩:=hW.nameAt (k:=j) (s:=s) (by show dj.ns[j]?=_;rw[HRE.out.2.2.2.2.1];exact HJ.out.2.2.1)
     have q8:W.cell? ⟨dj.X,0+8,none⟩=some dj.vn:=cr hW.xb rfl
     have qb:W.cell? ⟨dj.B,0,none⟩=some dj.vp:=cr hW.bb rfl
     have hfn:aO W dj.Kp dj.jB (aY dj.fp):=hW.vI
     have e2:gn=gn':=by
      have e3:dj.vn=_:=evn'
      rw[evn] at e3
      simpa using (Value.slice.inj e3).1
     have e1:(aY d.fp s.data.toList).getD (.int .i64 0)=.int .i64 (k:Int):=(nA _).trans (by rw[HNS.out.2.2.2.dG s,hk])
     have q5':W.cell? ⟨dj.X,0+5,none⟩=some (.pointer (some ⟨dj.B,0,none⟩)):=q5
     have q6':W.cell? ⟨dj.X,0+6,none⟩=some (.map (some dj.Kp)):=q6
     rw[HRE.out.1,HRE.out.2.1] at q5'
     rw[HRE.out.1,HRE.out.2.2.1] at q6'
     rw[HRE.out.1,evn] at q8
     rw[HRE.out.2.1,HJ.out.2.2.2.1] at qb
     rw[HRE.out.2.2.1,HRE.out.2.2.2.1] at hfn
     rw[←e2] at zn'
     refine⟨q5',q6',q8,qb,zn',?_⟩
     rw[←e1]
     exact hfn.lW Tryz.underlying96 (jO W) s HJ.out.2.2.2.2
    obtain⟨w5,hw5⟩:∃w5,w5=(w1.alloc (.cells #[.int .i64 (k:Int)] 3)).drew:=⟨_,rfl⟩
    obtain⟨Q,hQ⟩:∃Q,Q=w1.heap.size:=⟨_,rfl⟩
    have hfz:aG w0 (fun x=>Fj x∨x=Q) [] dj w5∧aJ Fj (fun x=>Fj x∨x=Q) w1 w5:=by
     have h0:=HP1.out.freeze #[.int .i64 (k:Int)] 3
     rw[hw5,hQ]
     exact⟨h0.1.keep (Below.refl _ _).drew,h0.2⟩
    have hb5:Bw w1 w5:=by rw[hw5];exact(aH).drew
    have hr5:w5.heap[Q]?=some (.cells #[.int .i64 (k:Int)] 3 (0,0)):=by rw[hw5,hQ];exact heap_alloc_new w1 _
    obtain⟨q',hq'⟩:∃q':aW,q'={ q with aF:=[k],oo:=some ⟨Q,0,none⟩,oc:=1 }:=⟨_,rfl⟩
    have hrow:aB w5 (fun x=>Fj x∨x=Q) 1 (.slice q'.oo q'.aF.length q'.oc) q'.aF.length (aX q'.aF):=by
     rw[hq']
     exact aB.G7 hr5 (.inr rfl) rfl rfl (by unfold maxLen;simp) (Nat.le_refl _)
    have hset:=hfz.1.DT (j:=j) (k:=2) (g:=g) (c:=c) (p':=q') (v:=.slice (some ⟨Q,0,none⟩) 1 1) HJ.out.2.1 (by omega) (by rw[hq'];rfl) (by rw[HJ.out.2.2.2.1,HRE.out.2.2.2.2.2.2.1]) hrow
    obtain⟨w6,hw6⟩:∃w6,w6=w5.setCell ⟨g,j*6+2,none⟩ (.slice (some ⟨Q,0,none⟩) 1 1):=⟨_,rfl⟩
    obtain⟨d6,hd6⟩:∃d6:aK,d6={ dj with ps:=dj.ps.set j q' }:=⟨_,rfl⟩
    rw[←hw6,←hd6] at hset
    have HNX:Hid (CF w0 d (j+1) F (fun x=>Fj x∨x=Q) d6 w w6):=by
     refine⟨hset.1,?_,?_,?_,?_⟩
     ·have hst:=HRP.out.1.step (q:=q.q) (by rw[List.getElem?_map,HJ.out.2.1];rfl)
      have e2:iA d.fp (pE d.ns j) q.q=q'.q:=by
       have e3:pE d.ns j=s:=by unfold pE;rw[HJ.out.2.2.1];rfl
       rw[e3]
       unfold iA
       rw[if_pos (show q.q.op.data.toList=bS from HNM.out),hq']
       show _=(⟨q.op,q.n,[k],q.mem,q.kind,q.late⟩:Pq)
       rw[hk];rfl
      rw[e2] at hst
      rw[hd6]
      show lM _ _ _ _ ((dj.ps.set j q').map aW.q)
      rw[List.map_set]
      exact hst
     ·rw[hd6,HRP.out.2]
     ·have hs0:aJ F Fj w w1:=HST.out.1
      exact(hs0.trans hfz.2 HST.out.2).trans hset.2 (Nat.le_trans HST.out.2 hb5.size)
     ·rw[hw6,size_setCell];exact Nat.le_trans HST.out.2 hb5.size
    have gc:w5.cell? ⟨g,j*6+2,none⟩=some (.slice q.oo q.aF.length q.oc):=by
     obtain⟨g',c'',e',hc'⟩:=hfz.1.cells HJ.out.2.1
     rw[HJ.out.2.2.2.1] at e'
     obtain rfl:g=g':=by simpa using (Value.slice.inj e').1
     exact hc' 2 (by omega)
    have gf:w5.frozen? ⟨g,j*6+2,none⟩=false:=by
     have hpr:=hfz.1.parts
     rw[HJ.out.2.2.2.1,HRE.out.2.2.2.2.2.2.1] at hpr
     exact hpr.frozenAt _
    have HS5:Hid ((fun w'=>w'.cell? ⟨X,0+5,none⟩=some (.pointer (some ⟨B,0,none⟩))∧w'.cell? ⟨X,0+6,none⟩=some (.map (some KP))∧w'.cell? ⟨X,0+8,none⟩=some (.slice (some ⟨gn,0,none⟩) n cn)∧w'.cell? ⟨B,0,none⟩=some (.slice (some ⟨g,0,none⟩) n c)∧w'.cell? ⟨gn,j,none⟩=some (.string s)∧(Instr.lookup 96 (.map (some KP)) (.string s) false).run Tryz.prog w'=.ok (.int .i64 (k:Int)) w') w5):=HSX.out _ dj w5 hfz.1 ⟨_,rfl⟩
    have HS6:Hid ((fun w'=>w'.cell? ⟨X,0+5,none⟩=some (.pointer (some ⟨B,0,none⟩))∧w'.cell? ⟨X,0+6,none⟩=some (.map (some KP))∧w'.cell? ⟨X,0+8,none⟩=some (.slice (some ⟨gn,0,none⟩) n cn)∧w'.cell? ⟨B,0,none⟩=some (.slice (some ⟨g,0,none⟩) n c)∧w'.cell? ⟨gn,j,none⟩=some (.string s)∧(Instr.lookup 96 (.map (some KP)) (.string s) false).run Tryz.prog w'=.ok (.int .i64 (k:Int)) w') w6):=HSX.out _ d6 w6 hset.1 ⟨_,hd6⟩
    have HB5:Hid (Bw w1 w5∧(w1.alloc (.cells #[.int .i64 (k:Int)] 3)).drew=w5∧w1.heap.size=Q∧w5.setCell ⟨g,j*6+2,none⟩ (.slice (some ⟨Q,0,none⟩) 1 1)=w6):=⟨hb5,hw5.symm,hQ.symm,hw6.symm⟩
    have hS0:=HSX.out _ dj w1.drew hPd ⟨_,rfl⟩
    have i0':(0:Int)≤(j:Int):=by omega
    have i1':(j:Int)<(n:Int):=by have:=HJ.out.1;omega
    clear hPd evn zn hk hw5 hQ hfz hb5 hr5 hq' hrow hset hw6 hd6
    refine fI 23 (fun w'=>w'.cell? ⟨X,0+5,none⟩=some (.pointer (some ⟨B,0,none⟩))∧w'.cell? ⟨X,0+6,none⟩=some (.map (some KP))∧w'.cell? ⟨X,0+8,none⟩=some (.slice (some ⟨gn,0,none⟩) n cn)∧w'.cell? ⟨B,0,none⟩=some (.slice (some ⟨g,0,none⟩) n c)∧w'.cell? ⟨gn,j,none⟩=some (.string s)∧(Instr.lookup 96 (.map (some KP)) (.string s) false).run Tryz.prog w'=.ok (.int .i64 (k:Int)) w') (fun _=>True) (by kernel_rfl) hS0 trivial (fun hh=>?_)
    refine tj 0 22 (.pointer (some ⟨X,0,none⟩)) rfl (by rintro w ⟨b5,b6,b8,b0,bn,bl⟩;go_simp) hh ?_
    refine tj 1 23 (.pointer (some ⟨X,0,none⟩)) rfl (by rintro w ⟨b5,b6,b8,b0,bn,bl⟩;go_simp) hh ?_
    refine tj 2 24 (.pointer (some ⟨X,5,none⟩)) rfl (by rintro w ⟨b5,b6,b8,b0,bn,bl⟩;go_simp) hh ?_
    refine tj 3 25 (.pointer (some ⟨B,0,none⟩)) rfl (by rintro w ⟨b5,b6,b8,b0,bn,bl⟩;go_simp) hh ?_
    refine tj 4 26 (.pointer (some ⟨B,0,none⟩)) rfl (by rintro w ⟨b5,b6,b8,b0,bn,bl⟩;go_simp) hh ?_
    refine tj 5 27 (.pointer (some ⟨B,0,none⟩)) rfl (by rintro w ⟨b5,b6,b8,b0,bn,bl⟩;go_simp) hh ?_
    refine tj 6 28 (.slice (some ⟨g,0,none⟩) n c) rfl (by rintro w ⟨b5,b6,b8,b0,bn,bl⟩;go_simp) hh ?_
    refine tj 7 29 (.int .i64 (j:Nat)) rfl (by rintro w ⟨b5,b6,b8,b0,bn,bl⟩;go_simp) hh ?_
    refine tj 8 30 (.pointer (some ⟨X,0,none⟩)) rfl (by rintro w ⟨b5,b6,b8,b0,bn,bl⟩;go_simp) hh ?_
    refine tj 9 31 (.pointer (some ⟨X,0,none⟩)) rfl (by rintro w ⟨b5,b6,b8,b0,bn,bl⟩;go_simp) hh ?_
    refine tj 10 32 (.pointer (some ⟨X,6,none⟩)) rfl (by rintro w ⟨b5,b6,b8,b0,bn,bl⟩;go_simp) hh ?_
    refine tj 11 33 (.map (some KP)) rfl (by rintro w ⟨b5,b6,b8,b0,bn,bl⟩;go_simp) hh ?_
    refine tj 12 34 (.pointer (some ⟨X,0,none⟩)) rfl (by rintro w ⟨b5,b6,b8,b0,bn,bl⟩;go_simp) hh ?_
    refine tj 13 35 (.pointer (some ⟨X,0,none⟩)) rfl (by rintro w ⟨b5,b6,b8,b0,bn,bl⟩;go_simp) hh ?_
    refine tj 14 36 (.pointer (some ⟨X,8,none⟩)) rfl (by rintro w ⟨b5,b6,b8,b0,bn,bl⟩;go_simp) hh ?_
    refine tj 15 37 (.slice (some ⟨gn,0,none⟩) n cn) rfl (by rintro w ⟨b5,b6,b8,b0,bn,bl⟩;go_simp) hh ?_
    refine tj 16 38 (.int .i64 (j:Nat)) rfl (by rintro w ⟨b5,b6,b8,b0,bn,bl⟩;go_simp) hh ?_
    refine tj 17 39 (.pointer (some ⟨gn,j,none⟩)) rfl (by rintro w ⟨b5,b6,b8,b0,bn,bl⟩;go_simp) hh ?_
    refine tj 18 40 (.string s) rfl (by rintro w ⟨b5,b6,b8,b0,bn,bl⟩;go_simp) hh ?_
    refine tj 19 41 (.int .i64 (k:Int)) rfl (by rintro w ⟨b5,b6,b8,b0,bn,bl⟩;go_simp) hh ?_
    refine aS 20 (some 42) rfl fun K hK=>?_
    go_simp
    rw[HB5.out.2.1,HB5.out.2.2.1]
    refine hK.out _ _ ⟨HS5.out,fun _=>trivial⟩ (fun hh=>?_)
    clear hK K hS0
    try simp only[tp]
    refine tk 21 43 (.pointer (some ⟨g,j*6,none⟩)) rfl (.inl ⟨by rfl,?_⟩) hh ?_
    ·intro w hSw;(try dsimp only at hSw);go_simp
    try simp only[tp]
    refine tk 22 44 (.pointer (some ⟨g,j*6+2,none⟩)) rfl (.inl ⟨by rfl,?_⟩) hh ?_
    ·intro w hSw;(try dsimp only at hSw);go_simp
    try simp only[tp]
    refine aS 23 none rfl fun K hK=>?_
    go_simp
    rw[HB5.out.2.2.2]
    refine hK.out _ _ (Till.last HS6.out) (fun hh=>?_)
    clear hK K
    try simp only[tp]
    refine dU (by kernel_rfl) ?_ _
    clear gc gf hh HS5 HS6 HB5 HSX
    go_wp2
    exact⟨⟨j+1,(fun x=>Fj x∨x=Q),d6,HJ.out.1,by rw[N4.out];rfl,HNX.out⟩,by rw[N4.out];have:=HJ.out.1;simp [intOf];omega⟩
   ·have dn:(q.op.toList==[110,97,109,101])=false:=by rw[ByteArray.toList_eq];exact beq_eq_false_iff_ne.2 hnm
    have HNX:Hid (CF w0 d (j+1) F Fj dj w w1):=⟨HP1.out,HRP.out.1.same (q:=q.q) (by rw[List.getElem?_map,HJ.out.2.1];rfl) hnm,HRP.out.2,HST.out.1,HST.out.2⟩
    clear hnm
    go_wp2
    exact⟨⟨j+1,Fj,dj,HJ.out.1,by rw[N4.out];rfl,HNX.out⟩,by rw[N4.out];have:=HJ.out.1;simp [intOf];omega⟩
  ·obtain rfl:n=j:=by omega
   have HO0:Hid (Au w0 d outs 0 F Fj dj w wr):=by
    have e:=HR.out.eq
    refine⟨HR.out.pl,HR.out.ps.all (by rw[List.length_map,←HXB.out.2.2.2];exact Nat.le_refl _),by rw[HRE.out.2.2.2.2.2.2.2.2];simp,?_,HR.out.st,HR.out.sz⟩
    rw[e]
   have hx2:wr.cell? ⟨X,0+1,none⟩=some (.slice o2 outs.length c2):=by rw[←HRE.out.1,cell_of_row wr _ _ _ _ (0,0) HR.out.pl.xb,←HOU.out.1,←HRE.out.2.2.2.2.2.2.2.1];rfl
   clear hj hjl HR HRE
   go_wp2
   clear hx2
   go_loopw [52] (fun t wr=>∃(j:Nat) (Fj:Nat→Prop) (dj:aK),j≤outs.length∧t=.int .i64 j∧Hid (Au w0 d outs j F Fj dj w wr)) (fun t _=>outs.length-(intOf t).toNat)
   case atStart=>exact⟨0,Fj,dj,Nat.zero_le _,rfl,HO0.out⟩
   case round=>
    obtain⟨j,Fj,dj,hj,rfl,HR⟩:=hrel
    have HRE:Hid (dj.X=X∧dj.B=B∧dj.Kp=KP∧dj.fp=d.fp):=by
     rw[HR.out.eq]
     exact⟨HXB.out.1.symm,HXB.out.2.1.symm,HXB.out.2.2.1.symm,rfl⟩
    by_cases hjl:j<outs.length
    ·obtain⟨s,hs⟩:∃s,outs[j]?=some s:=⟨_,List.getElem?_eq_getElem hjl⟩
     obtain⟨b,off,cp,ev,_,_,gg⟩:=HOU.out.2.1.at (by rw[HOU.out.2.1.1];omega)
     obtain⟨rfl,rfl⟩:o2=some ⟨b,off,none⟩∧c2=cp:=by simpa using ev
     have y0:=aD HR.out.pl.below (gg _ _ (ER hs))
     have i0':(0:Int)≤(j:Int):=by omega
     have i1':(j:Int)<(outs.length:Int):=by omega
     have hsn:s.size≤maxLen:=HOU.out.2.2.1 _ (List.mem_of_getElem? hs)
     obtain⟨k,hk⟩:∃k,k=dG d.fp s:=⟨_,rfl⟩
     have HSX:Hid (∀(F':Nat→Prop) (dd:aK) (W:World),aG w0 F' [] dd W→dd.X=X∧dd.B=B∧dd.Kp=KP∧dd.fp=d.fp→(fun w'=>w'.cell? ⟨X,0+5,none⟩=some (.pointer (some ⟨B,0,none⟩))∧w'.cell? ⟨X,0+6,none⟩=some (.map (some KP))∧(Instr.lookup 96 (.map (some KP)) (.string s) false).run Tryz.prog w'=.ok (.int .i64 (k:Int)) w') W):=fun F' dd W hW he=>by
      have q5:=hW.iK
      have q6:=hW.tQ
      have hfn:=hW.vI
      have e1:(aY d.fp s.data.toList).getD (.int .i64 0)=.int .i64 (k:Int):=(nA _).trans (by rw[HNS.out.2.2.2.dG s,hk])
      rw[he.1,he.2.1] at q5
      rw[he.1,he.2.2.1] at q6
      rw[he.2.2.1,he.2.2.2] at hfn
      refine⟨q5,q6,?_⟩
      rw[←e1]
      exact hfn.lW Tryz.underlying96 (jO W) s hsn
     have HJ:Hid (j<outs.length∧outs[j]?=some s∧k=dG d.fp s):=⟨hjl,hs,hk⟩
     have N4:Hid (wrap64 ((j:Int)+1)=(j:Int)+1):=by have:=HOU.out.2.2.2;have:=HJ.out.1;unfold Hid wrap64;omega
     have HOL:Hid (dj.os.length=d.os.length+j∧dj.os.length+1≤maxLen∧(dj.os.length+1)*8≤140737488355328):=by
      have e:dj.os.length=d.os.length+j:=by rw[HR.out.os,List.length_append,List.length_map,List.length_take];omega
      have:=HOU.out.2.2.2
      have:=HJ.out.1
      unfold Hid maxLen
      omega
     have hPd:=HR.out.pl.keep (Below.refl _ _).drew
     have hS0:=HSX.out _ dj wr.drew hPd HRE.out
     have zb:wr.drew.cell? ⟨B,0+4,none⟩=some dj.vo:=by rw[←HRE.out.2.1,cell_of_row wr.drew _ _ _ _ (0,0) hPd.bb];rfl
     have HRR:Hid (Au w0 d outs j F Fj dj w wr):=HR.out
     clear ev gg hs hsn hk hPd hj hjl HR
     go_upto_region 9 with fail
     clear y0
     refine fI 21 (fun w'=>w'.cell? ⟨X,0+5,none⟩=some (.pointer (some ⟨B,0,none⟩))∧w'.cell? ⟨X,0+6,none⟩=some (.map (some KP))∧(Instr.lookup 96 (.map (some KP)) (.string s) false).run Tryz.prog w'=.ok (.int .i64 (k:Int)) w') (fun w'=>w'.cell? ⟨B,0+4,none⟩=some dj.vo) (by kernel_rfl) hS0 zb (fun hh=>?_)
     refine tj 0 56 (.pointer (some ⟨X,0,none⟩)) rfl (by rintro w ⟨b5,b6,bl⟩;go_simp) hh ?_
     refine tj 1 57 (.pointer (some ⟨X,0,none⟩)) rfl (by rintro w ⟨b5,b6,bl⟩;go_simp) hh ?_
     refine tj 2 58 (.pointer (some ⟨X,5,none⟩)) rfl (by rintro w ⟨b5,b6,bl⟩;go_simp) hh ?_
     refine tj 3 59 (.pointer (some ⟨B,0,none⟩)) rfl (by rintro w ⟨b5,b6,bl⟩;go_simp) hh ?_
     refine tj 4 60 (.pointer (some ⟨X,0,none⟩)) rfl (by rintro w ⟨b5,b6,bl⟩;go_simp) hh ?_
     refine tj 5 61 (.pointer (some ⟨X,0,none⟩)) rfl (by rintro w ⟨b5,b6,bl⟩;go_simp) hh ?_
     refine tj 6 62 (.pointer (some ⟨X,5,none⟩)) rfl (by rintro w ⟨b5,b6,bl⟩;go_simp) hh ?_
     refine tj 7 63 (.pointer (some ⟨B,0,none⟩)) rfl (by rintro w ⟨b5,b6,bl⟩;go_simp) hh ?_
     refine tj 8 64 (.pointer (some ⟨B,0,none⟩)) rfl (by rintro w ⟨b5,b6,bl⟩;go_simp) hh ?_
     refine tj 9 65 (.pointer (some ⟨B,4,none⟩)) rfl (by rintro w ⟨b5,b6,bl⟩;go_simp) hh ?_
     refine oU 18 (i:=10) (oi:=⟨some 66,_,_,_,_,_⟩) (v:=dj.vo) rfl rfl (by kernel_rfl) (by kernel_rfl) (by kernel_rfl) (by kernel_rfl) (by kernel_rfl) (by kernel_rfl) (by kernel_rfl) (fun _ _ _ h=>h) (Or.inl ⟨by rfl,?_⟩) hh ?_
     ·intro w hSw;(try dsimp only at hSw);go_simp
     try simp only[tp]
     refine tj 11 67 (.pointer (some ⟨X,0,none⟩)) rfl (by rintro w ⟨b5,b6,bl⟩;go_simp) hh ?_
     refine tj 12 68 (.pointer (some ⟨X,0,none⟩)) rfl (by rintro w ⟨b5,b6,bl⟩;go_simp) hh ?_
     refine tj 13 69 (.pointer (some ⟨X,6,none⟩)) rfl (by rintro w ⟨b5,b6,bl⟩;go_simp) hh ?_
     refine tj 14 70 (.map (some KP)) rfl (by rintro w ⟨b5,b6,bl⟩;go_simp) hh ?_
     refine tj 15 71 (.string s) rfl (by rintro w ⟨b5,b6,bl⟩;go_simp) hh ?_
     refine tj 16 72 (.int .i64 (k:Int)) rfl (by rintro w ⟨b5,b6,bl⟩;go_simp) hh ?_
     refine aS 17 (some 73) rfl fun K hK=>?_
     go_simp
     obtain⟨wA,hwA⟩:∃wA,wA=(wr.alloc (.cells #[.int .i64 (k:Int)] 3)).drew:=⟨_,rfl⟩
     obtain⟨Q,hQ⟩:∃Q,Q=wr.heap.size:=⟨_,rfl⟩
     have hbA:Bw wr wA:=by rw[hwA];exact(aH).drew
     have HPA:Hid (aG w0 Fj [] dj wA):=HRR.out.pl.keep hbA
     have HNA:Hid (∀q y,[Value.int .i64 (k:Int)][q]?=some y→wA.cell? ((⟨Q,0,none⟩:Addr).add q)=some y):=by unfold Hid;rw[hwA,hQ];exact World.news_of_block (heap_alloc_new wr _)
     have HSA:Hid ((fun w'=>w'.cell? ⟨X,0+5,none⟩=some (.pointer (some ⟨B,0,none⟩))∧w'.cell? ⟨X,0+6,none⟩=some (.map (some KP))∧(Instr.lookup 96 (.map (some KP)) (.string s) false).run Tryz.prog w'=.ok (.int .i64 (k:Int)) w') wA∧wA.cell? ⟨B,0+4,none⟩=some dj.vo):=⟨HSX.out _ dj wA HPA.out HRE.out,aD hbA zb⟩
     have HSTA:Hid (aJ F Fj w wA∧w.heap.size≤wA.heap.size):=⟨HRR.out.st.trans (jZ hbA) HRR.out.sz,Nat.le_trans HRR.out.sz hbA.size⟩
     rw[←hwA,←hQ]
     refine hK.out _ _ ⟨HSA.out.1,fun _=>HSA.out.2⟩ (fun hh=>?_)
     clear hK K hwA hbA hQ
     try simp only[tp]
     refine aS 18 (some 74) rfl fun K hK=>?_
     refine step_append_lies _ rfl (.tmp 66) (.tmp 73) 30 rfl w0.heap.size 3 i0 _ 1 8 Tryz.underlying30 hi0 hz0 hz1 hz2 rfl (by omega) dj.vo dj.os.length _ (by simp [Act.eval]) HPA.out.Eu ⟨Q,0,none⟩ 1 1 [.int .i64 (k:Int)] (by simp [Act.eval]) rfl HNA.out (by simp [Value.oneCell']) (by omega) HOL.out.2.1 HOL.out.2.2 HPA.out.sep.base _ rfl ?_
     intro g cap w7 hown7 hgrow hat hlt7
     have hkp0:=HPA.out.output (x:=k) (g:=g) (cap:=cap) (w':=w7) hown7 hgrow hat
     have hvX:dj.vo.ownBlock≠some dj.X:=HPA.out.ne (i:=0) (j:=9) (by decide) rfl rfl rfl
     have hvB:dj.vo.ownBlock≠some dj.B:=HPA.out.ne (i:=1) (j:=9) (by decide) rfl rfl rfl
     have hvK:dj.vo.ownBlock≠some dj.Kp:=HPA.out.ne (i:=2) (j:=9) (by decide) rfl rfl rfl
     have hx7:=gT hgrow hvX HPA.out.xb
     have hb7:=gT hgrow hvB HPA.out.bb
     have hk7:w7.heap[KP]?=wA.heap[KP]?:=by rw[←HRE.out.2.2.1];exact hgrow.block _ HPA.out.vI.lt (fun e=>hvK e.symm)
     rw[HRE.out.1] at hx7
     rw[HRE.out.2.1] at hb7
     have HS7:Hid ((fun w'=>w'.cell? ⟨X,0+5,none⟩=some (.pointer (some ⟨B,0,none⟩))∧w'.cell? ⟨X,0+6,none⟩=some (.map (some KP))∧(Instr.lookup 96 (.map (some KP)) (.string s) false).run Tryz.prog w'=.ok (.int .i64 (k:Int)) w') w7):=by
      refine⟨by rw[cell_of_row w7 _ _ _ _ (0,0) hx7,←HRE.out.2.1];rfl,by rw[cell_of_row w7 _ _ _ _ (0,0) hx7,←HRE.out.2.2.1];rfl,?_⟩
      have hfn:=HPA.out.vI
      rw[HRE.out.2.2.1,HRE.out.2.2.2] at hfn
      have e1:(aY d.fp s.data.toList).getD (.int .i64 0)=.int .i64 (k:Int):=(nA _).trans (by rw[HNS.out.2.2.2.dG s,HJ.out.2.2])
      rw[←e1]
      exact(hfn.kept hk7).lW Tryz.underlying96 (jO w7) s (HOU.out.2.2.1 _ (List.mem_of_getElem? HJ.out.2.1))
     have bc7:w7.cell? ⟨B,0+4,none⟩=some dj.vo:=cr hb7 rfl
     have fz7:w7.frozen? ⟨B,0+4,none⟩=false:=bR hb7
     refine hK.out _ _ ⟨HS7.out,fun _=>bc7⟩ (fun hh=>?_)
     clear hK K
     try simp only[tp]
     refine tk 19 75 (.pointer (some ⟨B,0,none⟩)) rfl (.inl ⟨by rfl,?_⟩) hh ?_
     ·intro w hSw;(try dsimp only at hSw);go_simp
     try simp only[tp]
     refine tk 20 76 (.pointer (some ⟨B,4,none⟩)) rfl (.inl ⟨by rfl,?_⟩) hh ?_
     ·intro w hSw;(try dsimp only at hSw);go_simp
     try simp only[tp]
     refine aS 21 none rfl fun K hK=>?_
     go_simp
     obtain⟨w9,hw9⟩:∃w9,w9=w7.setCell ⟨B,4,none⟩ (.slice (some ⟨g,0,none⟩) (dj.os.length+1) cap):=⟨_,rfl⟩
     rw[←hw9]
     obtain⟨d4,hd4⟩:∃d4:aK,d4={ dj with vo:=.slice (some ⟨g,0,none⟩) (dj.os.length+1) cap,os:=dj.os++[k] }:=⟨_,rfl⟩
     have hkp:aG w0 Fj [] d4 w9∧aJ Fj Fj wA w9∧wA.heap.size≤w9.heap.size:=by
      rw[hd4,hw9,←HRE.out.2.1]
      exact hkp0
     have HNX:Hid (Au w0 d outs (j+1) F Fj d4 w w9):=by
      refine⟨hkp.1,by rw[hd4];exact HRR.out.ps,?_,?_,HSTA.out.1.trans hkp.2.1 HSTA.out.2,Nat.le_trans HSTA.out.2 hkp.2.2⟩
      ·rw[hd4]
       show dj.os++[k]=_
       rw[HRR.out.os,List.take_add_one,HJ.out.2.1,HJ.out.2.2]
       simp
      ·rw[hd4,HRR.out.eq]
     have HS9:Hid ((fun w'=>w'.cell? ⟨X,0+5,none⟩=some (.pointer (some ⟨B,0,none⟩))∧w'.cell? ⟨X,0+6,none⟩=some (.map (some KP))∧(Instr.lookup 96 (.map (some KP)) (.string s) false).run Tryz.prog w'=.ok (.int .i64 (k:Int)) w') w9):=HSX.out _ d4 w9 hkp.1 (by rw[hd4];exact HRE.out)
     refine hK.out _ _ (Till.last HS9.out) (fun hh=>?_)
     clear hK K
     try simp only[tp]
     refine dU (by kernel_rfl) ?_ _
     clear hkp hkp0 hvX hvB hvK hx7 hb7 hk7 bc7 fz7 hw9 hd4 hown7 hgrow hat hlt7 hh
     go_wp2
     exact⟨⟨j+1,Fj,d4,HJ.out.1,by rw[N4.out];rfl,HNX.out⟩,by rw[N4.out];have:=HJ.out.1;simp [intOf];omega⟩
    ·obtain rfl:outs.length=j:=by omega
     have HE:Hid (Ih w0 d outs Fj dj wr∧w.heap.size≤wr.heap.size∧aJ F Fj w wr):=⟨⟨HR.out.pl,HR.out.ps,by rw[HR.out.os,List.take_of_length_le (Nat.le_refl _)],HR.out.eq⟩,HR.out.sz,HR.out.st⟩
     clear hj hjl HR
     go_wp2
     go_end0
     exact⟨rfl,HE.out.2.1,Fj,dj,HE.out.1,HE.out.2.2⟩
end Go.Proofs.YtmgfakcccfahaaaGreatDoor
