/-
  package plan: a planner in memory; add BY CONTRACT.
-/
import Derived.Test.YtmgfakcccfahaaaGreatDoorN29
import Derived.Laws.OwnMore
namespace Go.Proofs.YtmgfakcccfahaaaGreatDoor
open Go.RowKit Go.Maps
structure jI where
 op:ByteArray
 n:Int
 dO:List Nat
 oo:Option Addr
 oc:Nat
 mem:Int
 kind:Int
 late:Bool
def jI.cells(p:jI):List Value:=[.string p.op,.int .i64 p.n,.slice p.oo p.dO.length p.oc,.int .i64 p.mem,.int .i64 p.kind,.bool p.late]
def xW(l:List jI):List Value:=l.flatMap jI.cells
def K7(l:List ByteArray):List Value:=l.map Value.string
def jY(l:List Nat):List Value:=(cI l).map (Value.int .i64)
structure fM where
 X:Nat
 B:Nat
 Kp:Nat
 mF:Nat
 Kl:Nat
 Lr:Nat
 fp:List UInt8→Option Int
 fl:List UInt8→Option Int
 v1:Value
 v2:Value
 v3:Value
 v4:Value
 v5:Value
 va:Value
 vc:Value
 vp:Value
 vn:Value
 vi:Value
 vt:Value
 vk:Value
 vo:Value
 ps:List jI
 ns:List ByteArray
 is:List Nat
 ts:List Nat
 ks:List Nat
 os:List Nat
def fM.xo(d:fM):Obj:=.cells #[d.v1,d.v2,d.v3,d.v4,d.v5,.pointer (some ⟨d.B,0,none⟩),.map (some d.Kp),.map (some d.Kl),d.vn] 240 (0,0)
def fM.bo(d:fM):Obj:=.cells #[d.vp,d.vi,d.vt,d.vk,d.vo,d.va,d.vc] 183 (0,0)
def fM.own(d:fM)(base:Nat):List Own:=[uY d.X d.xo,uY d.B d.bo,oJ d.Kp d.mF (aS d.fp),oJ d.Kl d.Lr (aS d.fl),jO base 185 6 d.vp d.ps.length (xW d.ps),jO base 9 1 d.vn d.ns.length (K7 d.ns),jO base 3 1 d.vi d.is.length (jY d.is),jO base 3 1 d.vt d.ts.length (jY d.ts),jO base 3 1 d.vk d.ks.length (jY d.ks),jO base 3 1 d.vo d.os.length (jY d.os)]
def tK(w:World)(F:Nat→Prop)(ps:List jI):Prop:=∀p∈ps,aB w F 1 (.slice p.oo p.dO.length p.oc) p.dO.length (jY p.dO)
theorem tK.keep{w w':World}{F F':Nat→Prop}{ps:List jI}(h:tK w F ps)(hs:aP F F' w w'):tK w' F' ps:=fun p hp=>(h p hp).keep hs
structure lM(w0:World)(F:Nat→Prop)(ex:List Own)(d:fM)(w:World):Prop where
 sep:Sep w w0.heap.size F (d.own w0.heap.size++ex)
 dO:tK w F d.ps
 below:Bw w0 w
theorem lM.parts{w0 w:World}{F:Nat→Prop}{ex:List Own}{d:fM}(h:lM w0 F ex d w):w.ownsRow w0.heap.size 185 6 d.vp d.ps.length (xW d.ps):=h.sep.is 4 _ rfl
structure Pq where
 op:ByteArray
 n:Int
 dO:List Nat
 mem:Int
 kind:Int
 late:Bool
def jI.q(p:jI):Pq:=⟨p.op,p.n,p.dO,p.mem,p.kind,p.late⟩
structure Pm where
 ps:List Pq
 ns:List ByteArray
 ks:List Nat
def nT:List UInt8:=[116,114,117,101]
def vL(ps:List Pq)(k:Nat):Bool:=(ps[k]?.map Pq.late).getD false
def vR(fl:List UInt8→Option Int)(ps:List Pq)(op s:ByteArray)(l:List Nat):Bool:=if op.data.toList=bI then decide (0<(fl s.data.toList).getD 0) else if op.data.toList=cZ then true else if op.data.toList=iZ∨op.data.toList=cK then (l.take 1).any (vL ps) else l.any (vL ps)
def BI(fl:List UInt8→Option Int)(op:ByteArray)(n:Int)(s:ByteArray)(l:List Nat)(m:Pm):Pm:=
 if op.data.toList=cZ∨op.data.toList=cK then ⟨m.ps++[⟨op,n,l,(m.ks.length:Nat),0,vR fl m.ps op s l⟩],m.ns++[s],m.ks++[l.getLastD 0]⟩
 else ⟨m.ps++[⟨op,if op.data.toList=nT then 1 else n,l,0,0,vR fl m.ps op s l⟩],m.ns++[s],m.ks⟩
mutual
def pR(fl:List UInt8→Option Int):Ex→Pm→Pm×Nat
 | .mk op n s l,m=>(BI fl op n s (gF fl l m).2 (gF fl l m).1,(gF fl l m).1.ps.length)
def gF(fl:List UInt8→Option Int):List Ex→Pm→Pm×List Nat
 | [],m=>(m,[])
 | e::es,m=>((gF fl es (pR fl e m).1).1,(pR fl e m).2::(gF fl es (pR fl e m).1).2)
end
def fM.m(d:fM):Pm:=⟨d.ps.map jI.q,d.ns,d.ks⟩
theorem aP.trans{F G H:Nat→Prop}{w w' w'':World}(h:aP F G w w')(k:aP G H w' w'')(hs:w.heap.size≤w'.heap.size):aP F H w w'':=fun b hF hl=>by
 obtain⟨h1,h2⟩:=h b hF hl
 obtain⟨h3,h4⟩:=k b h1 (Nat.lt_of_lt_of_le hl hs)
 exact⟨h3,h4.trans h2⟩
def KY(R n:Nat)(g:Nat→Int):Own:=uY R (.cells ((iM n g).map (Value.int .i64)).toArray 3 (0,0))
theorem Sep.nil{w:World}{base:Nat}{F:Nat→Prop}(hF:∀b,F b→b<w.heap.size)(hb:base≤w.heap.size):Sep w base F []:=
 ⟨fun i c h=>by simp at h,fun i c q h=>by simp at h,fun i j c d q _ h=>by simp at h,hF,hb⟩
theorem Sep.head{w:World}{base:Nat}{F:Nat→Prop}{l:List Own}(h:Sep w base F l)(c:Own)(his:c.is w)(hb:∀q,c.blk=some q→base≤q∧q<w.heap.size∧¬F q∧∀d∈l,d.blk≠some q):Sep w base F (c::l):=
 Sep.put (l1:=[]) h c his (fun q hq=>⟨(hb q hq).1,(hb q hq).2.1,(hb q hq).2.2.1,fun _ d hi=>(hb q hq).2.2.2 d (List.mem_of_getElem? hi)⟩)
def yR(fs:List Fw)(g:Nat→Int):Nat→List UInt8→Option Int
 | 0=>fun _=>none
 | j+1=>match fs[j]? with
  | some x=>bM (yR fs g j) (x.name,g j)
  | none=>yR fs g j
theorem lM.place{w0 w w':World}{F:Nat→Prop}{ex:List Own}{d:fM}(h:lM w0 F ex d w){s:ByteArray}{k:Int}(hf:aR w' d.Kp (d.mF+1) (aS (bM d.fp (s,k))))(hg:w.grownBy w' (some d.Kp)):lM w0 F ex { d with fp:=bM d.fp (s,k),mF:=d.mF+1 } w'∧aP F F w w':=by
 have hs:=h.sep.step (i:=2) (c:=oJ d.Kp d.mF (aS d.fp)) (c':=oJ d.Kp (d.mF+1) (aS (bM d.fp (s,k)))) rfl hg hf (fun q hq=>.inl hq)
 have hst:=h.sep.stays (i:=2) (c:=oJ d.Kp d.mF (aS d.fp)) rfl hg
 exact⟨⟨hs,h.dO.keep hst,h.sep.below (i:=2) (c:=oJ d.Kp d.mF (aS d.fp)) rfl hg h.below⟩,hst⟩
def Ev:ByteArray:=⟨#[105,110,112,117,116]⟩
def y7:Pq:=⟨Ev,0,[],0,0,false⟩
def mM(ins:List Ex):Nat→List UInt8→Option Int
 | 0=>fun _=>none
 | j+1=>match ins[j]? with
  | some x=>bM (mM ins j) (x.op,(j:Int))
  | none=>mM ins j
theorem MQ{ins:List Ex}{j:Nat}{x:Ex}(h:ins[j]?=some x):bM (mM ins j) (x.op,(j:Int))=mM ins (j+1):=by
 simp only[mM,h]
structure wQ(d d':fM):Prop where
 X:d'.X=d.X
 B:d'.B=d.B
 Kp:d'.Kp=d.Kp
 fl:d'.fl=d.fl
 v1:d'.v1=d.v1
 v2:d'.v2=d.v2
 v3:d'.v3=d.v3
 v4:d'.v4=d.v4
 v5:d'.v5=d.v5
 ts:d'.ts=d.ts
 os:d'.os=d.os
def pX(fl:List UInt8→Option Int):List Fw→Pm×(List UInt8→Option Int)→Pm×(List UInt8→Option Int)
 | [],s=>s
 | x::l,s=>pX fl l ((pR fl x.e s.1).1,bM s.2 (x.name,((pR fl x.e s.1).2:Nat)))
theorem IV(w:World)(S:Nat→Prop)(size:Nat):aB w S size (.slice none 0 0) 0 []:=⟨by simp,by unfold maxLen;omega,none,0,rfl,fun k x hx=>by simp at hx,Nat.le_refl _⟩
structure PD(w0:World)(ins:List Ex)(d:fM)(j:Nat)(dj:fM)(wr:World):Prop where
 pl:lM w0 (fun _=>False) [] dj wr
 fix:wQ d dj
 m:dj.m=⟨List.replicate j y7,(ins.take j).map Ex.op,[]⟩
 fp:dj.fp=mM ins j
 is:dj.is=List.range j
 nk:dj.mF≤j
structure PG(w0:World)(d:fM)(m0:Pm)(f0:List UInt8→Option Int)(ni:Nat)(fs:List Fw)(j:Nat)(F:Nat→Prop)(dj:fM)(wr:World):Prop where
 pl:lM w0 F [] dj wr
 fix:wQ d dj
 m:dj.m=(pX d.fl (fs.take j) (m0,f0)).1
 fp:dj.fp=(pX d.fl (fs.take j) (m0,f0)).2
 is:dj.is=List.range ni
 nk:dj.mF≤ni+j
def gG(p:Pg)(fl:List UInt8→Option Int):Pm×(List UInt8→Option Int):=pX fl p.fs (⟨List.replicate p.ins.length y7,p.ins.map Ex.op,[]⟩,mM p.ins p.ins.length)
structure PI(w0:World)(p:Pg)(d:fM)(F:Nat→Prop)(dj:fM)(wr:World):Prop where
 pl:lM w0 F [] dj wr
 fix:wQ d dj
 m:dj.m=(gF d.fl p.checks (gF d.fl p.asserts (gG p d.fl).1).1).1
 fp:dj.fp=(gG p d.fl).2
 is:dj.is=List.range p.ins.length
 va:aB wr F 1 dj.va p.asserts.length (jY (gF d.fl p.asserts (gG p d.fl).1).2)
 vc:aB wr F 1 dj.vc p.checks.length (jY (gF d.fl p.checks (gF d.fl p.asserts (gG p d.fl).1).1).2)
structure PE(w0:World)(p:Pg)(d:fM)(m:Pm)(F:Nat→Prop)(dj:fM)(wr:World):Prop where
 pl:lM w0 F [] dj wr
 fix:wQ d dj
 m:dj.m=m
 fp:dj.fp=(gG p d.fl).2
 is:dj.is=List.range p.ins.length
def jT(fp:List UInt8→Option Int)(s:ByteArray)(q:Pq):Pq:=if q.op.data.toList=bI then { q with dO:=[((fp s.data.toList).getD 0).toNat] } else q
def u6(ns:List ByteArray)(k:Nat):ByteArray:=ns[k]?.getD ⟨#[]⟩
def wP(fp:List UInt8→Option Int)(ns:List ByteArray)(ps:List Pq)(j:Nat)(qs:List Pq):Prop:=∀k,qs[k]?=ps[k]?.map fun q=>if k<j then jT fp (u6 ns k) q else q
theorem wP.length{fp:List UInt8→Option Int}{ns:List ByteArray}{ps qs:List Pq}{j:Nat}(h:wP fp ns ps j qs):qs.length=ps.length:=by
 have h1:∀k,qs[k]?=none ↔ ps[k]?=none:=fun k=>by rw[h k];cases ps[k]?<;>simp
 have a:=(h1 qs.length).1 (by simp)
 have b:=(h1 ps.length).2 (by simp)
 rw[List.getElem?_eq_none_iff] at a b
 omega
def pO(fp:List UInt8→Option Int)(ns:List ByteArray)(ps:List Pq):List Pq:=ps.mapIdx fun k q=>jT fp (u6 ns k) q
theorem wP.all{fp:List UInt8→Option Int}{ns:List ByteArray}{ps qs:List Pq}{j:Nat}(h:wP fp ns ps j qs)(hj:ps.length≤j):qs=pO fp ns ps:=by
 apply List.ext_getElem?
 intro k
 rw[h k,pO,List.getElem?_mapIdx]
 cases hp:ps[k]? with
 | none=>rfl
 | some p=>simp only[Option.map_some,if_pos (Nat.lt_of_lt_of_le (aX hp).1 hj)]
def lF(fp:List UInt8→Option Int)(s:ByteArray):Nat:=((fp s.data.toList).getD 0).toNat
structure Pv(w0:World)(d:fM)(outs:List ByteArray)(F:Nat→Prop)(d':fM)(w':World):Prop where
 pl:lM w0 F [] d' w'
 ps:d'.ps.map jI.q=pO d.fp d.ns (d.ps.map jI.q)
 os:d'.os=d.os++outs.map (lF d.fp)
 eq:d'={ d with ps:=d'.ps,vo:=d'.vo,os:=d'.os }
structure Pw(w0:World)(d:fM)(outs:List ByteArray)(j:Nat)(F0 F:Nat→Prop)(d':fM)(w w':World):Prop where
 pl:lM w0 F [] d' w'
 ps:d'.ps.map jI.q=pO d.fp d.ns (d.ps.map jI.q)
 os:d'.os=d.os++(outs.take j).map (lF d.fp)
 eq:d'={ d with ps:=d'.ps,vo:=d'.vo,os:=d'.os }
 st:aP F0 F w w'
 sz:w.heap.size≤w'.heap.size
def Le(q:Pq):List Nat:=if q.op.data.toList=cZ then [] else if q.op.data.toList=cK then q.dO.take 1 else q.dO
def lI(qs:List Pq)(x:Nat):Bool:=match qs[x]? with | some q=>q.op.data.toList==Ev.data.toList | none=>true
def qO(qs:List Pq)(x:Nat):List Nat:=match qs[x]? with | some q=>Le q | none=>[]
structure Pz(qs:List Pq)(G:Nat→Prop)(g:Nat→Bool)(ts:List Nat):Prop where
 nd:ts.Nodup
 t:∀x∈ts,x<qs.length∧lI qs x=false∧g x=true∧¬G x
 k:∀x,x<qs.length→g x=true→G x∨lI qs x=true∨x∈ts
 o:∀(a:List Nat) (x:Nat) (b:List Nat),ts=a++x::b→∀n∈qO qs x,lI qs n=true∨n∈a
structure OZ(qs:List Pq)(ts:List Nat):Prop where
 nd:ts.Nodup
 t:∀x∈ts,x<qs.length∧lI qs x=false
 all:∀x,x<qs.length→lI qs x=true∨x∈ts
 o:∀(a:List Nat) (x:Nat) (b:List Nat),ts=a++x::b→∀n∈qO qs x,lI qs n=true∨n∈a
def jF(f:List UInt8→Option Int)(l:List (ByteArray×Int)):List UInt8→Option Int:=l.foldl bM f
structure wT(w0:World)(K nK:Nat)(f:List UInt8→Option Int)(v:Value)(ks:List Int)(u:Value)(m:Nat)(cs:List Value)(wr:World):Prop where
 sep:Sep wr w0.heap.size (fun _=>False) [oJ K nK (aS f),jO w0.heap.size 3 1 v ks.length (iH ks),jO w0.heap.size 92 4 u m cs]
 below:Bw w0 wr
section
variable {w0 wr w':World} {K nK:Nat} {f:List UInt8→Option Int} {v:Value} {ks:List Int} {u:Value} {m:Nat} {cs:List Value}
theorem wT.fn(h:wT w0 K nK f v ks u m cs wr):aR wr K nK (aS f):=h.sep.is 0 _ rfl
end
theorem wT.start(w1:World):wT w1 w1.heap.size 0 (fun _=>none) (.slice none 0 0) [] (.slice none 0 0) 0 [] (w1.alloc (.map #[] 0)):=by
 have hb:Bw w1 (w1.alloc (.map #[] 0)):=aH
 refine⟨?_,hb⟩
 have s0:Sep (w1.alloc (.map #[] 0)) w1.heap.size (fun _=>False) []:=Sep.nil (fun _ h=>h.elim) hb.size
 have s1:=s0.head (jO w1.heap.size 92 4 (.slice none 0 0) 0 []) (World.ownsRow_nil _ _ _ _) (fun _ h=>by simp [jO,Value.ownBlock] at h)
 have s2:=s1.head (jO w1.heap.size 3 1 (.slice none 0 0) 0 []) (World.ownsRow_nil _ _ _ _) (fun _ h=>by simp [jO,Value.ownBlock] at h)
 refine s2.head (oJ w1.heap.size 0 (aS fun _=>none)) (by rw[sP];exact aR.made w1) (fun _ h=>?_)
 cases h
 refine⟨Nat.le_refl _,by simp,id,fun d hd=>?_⟩
 simp only[List.mem_cons,List.not_mem_nil,or_false] at hd
 rcases hd with rfl | rfl<;>exact fun e=>by simp [jO,Value.ownBlock] at e
end Go.Proofs.YtmgfakcccfahaaaGreatDoor
