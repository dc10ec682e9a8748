/-
  PLANS AS MATHEMATICS: a term's parts in one piece; views of terms in a plan.
-/
import Derived.Test.YtmgfakcccfahaaaGreatDoorN34
namespace Go.Proofs.YtmgfakcccfahaaaGreatDoor
open Go.RowKit Go.Maps
mutual
def jS(fl:List UInt8→Option Int):Ex→Bool
 | .mk op _ s l=>if op.data.toList=bS then decide (0<(fl s.data.toList).getD 0) else if op.data.toList=dD then true else if op.data.toList=fV∨op.data.toList=bQ then ((nH fl l).take 1).any id else (nH fl l).any id
def nH(fl:List UInt8→Option Int):List Ex→List Bool
 | []=>[]
 | e::es=>jS fl e::nH fl es
end
def gI(op:ByteArray):Bool:=op.data.toList==dD||op.data.toList==bQ
mutual
def dZ:Ex→Nat
 | .mk op _ _ l=>bO l+bif gI op then 1 else 0
def bO:List Ex→Nat
 | []=>0
 | e::es=>dZ e+bO es
end
def bU(b:Nat):List Ex→List Nat
 | []=>[]
 | e::es=>(b+aL e-1)::bU (b+aL e) es
def kQ(fl:List UInt8→Option Int)(b c:Nat)(op:ByteArray)(n:Int)(s:ByteArray)(l:List Ex):Pq:=
 if gI op then ⟨op,n,bU b l,((c+bO l:Nat):Int),0,jS fl (.mk op n s l)⟩ else ⟨op,if op.data.toList=oM then 1 else n,bU b l,0,0,jS fl (.mk op n s l)⟩
mutual
def mJ(fl:List UInt8→Option Int)(b c:Nat):Ex→List Pq
 | .mk op n s l=>gP fl b c l++[kQ fl b c op n s l]
def gP(fl:List UInt8→Option Int)(b c:Nat):List Ex→List Pq
 | []=>[]
 | e::es=>mJ fl b c e++gP fl (b+aL e) (c+dZ e) es
end
mutual
def oL:Ex→List ByteArray
 | .mk _ _ s l=>iW l++[s]
def iW:List Ex→List ByteArray
 | []=>[]
 | e::es=>oL e++iW es
end
mutual
def nI(b:Nat):Ex→List Nat
 | .mk op _ _ l=>gQ b l++bif gI op then [(bU b l).getLastD 0] else []
def gQ(b:Nat):List Ex→List Nat
 | []=>[]
 | e::es=>nI b e++gQ (b+aL e) es
end
theorem xE:∀e:Ex,0<aL e
 | .mk op n s l=>by unfold aL;omega
mutual
theorem o6(fl:List UInt8→Option Int):∀(e:Ex) (b c:Nat),(mJ fl b c e).length=aL e
 | .mk op n s l,b,c=>by unfold mJ aL;rw[List.length_append,o7 fl l b c];rfl
theorem o7(fl:List UInt8→Option Int):∀(l:List Ex) (b c:Nat),(gP fl b c l).length=aC l
 | [],b,c=>by simp [gP,aC]
 | e::es,b,c=>by unfold gP aC;rw[List.length_append,o6 fl e b c,o7 fl es]
end
mutual
theorem uN:∀(e:Ex),(oL e).length=aL e
 | .mk op n s l=>by unfold oL aL;rw[List.length_append,vP l];rfl
theorem vP:∀(l:List Ex),(iW l).length=aC l
 | []=>by simp [iW,aC]
 | e::es=>by unfold iW aC;rw[List.length_append,uN e,vP es]
end
mutual
theorem rC:∀(e:Ex) (b:Nat),(nI b e).length=dZ e
 | .mk op n s l,b=>by unfold nI dZ;rw[List.length_append,rD l b];cases gI op<;>rfl
theorem rD:∀(l:List Ex) (b:Nat),(gQ b l).length=bO l
 | [],b=>by simp [gQ,bO]
 | e::es,b=>by unfold gQ bO;rw[List.length_append,rC e b,rD es]
end
theorem oK:∀(l:List Ex) (b:Nat),(bU b l).length=l.length
 | [],b=>rfl
 | e::es,b=>by unfold bU;rw[List.length_cons,oK es,List.length_cons]
def Bg(fl:List UInt8→Option Int)(b c:Nat):Ex→Pq
 | .mk op n s l=>kQ fl b c op n s l
theorem BA(fl:List UInt8→Option Int)(b c:Nat)(op:ByteArray)(n:Int)(s:ByteArray)(l:List Ex):(kQ fl b c op n s l).late=jS fl (.mk op n s l):=by unfold kQ;split<;>rfl
theorem KV(fl:List UInt8→Option Int)(b c:Nat):∀e:Ex,(Bg fl b c e).late=jS fl e
 | .mk op n s l=>BA fl b c op n s l
theorem LC(fl:List UInt8→Option Int):∀(e:Ex) (b c:Nat),(mJ fl b c e)[aL e-1]?=some (Bg fl b c e)
 | .mk op n s l,b,c=>by
  unfold mJ aL Bg
  rw[Nat.add_sub_cancel,List.getElem?_append_right (by rw[o7];exact Nat.le_refl _),o7,Nat.sub_self]
  rfl
theorem FE(fl:List UInt8→Option Int):∀(l:List Ex) (A B:List Pq) (c:Nat),(bU A.length l).map (uP (A++(gP fl A.length c l++B)))=nH fl l
 | [],A,B,c=>by simp [bU,nH]
 | e::es,A,B,c=>by
  have h:=FE fl es (A++mJ fl A.length c e) B (c+dZ e)
  unfold bU nH gP
  rw[List.map_cons]
  have hp:=xE e
  congr 1
  ·unfold uP
   rw[List.append_assoc,List.getElem?_append_right (by omega),List.getElem?_append_left (by rw[o6];omega),show A.length+aL e-1-A.length=aL e-1 from by omega,LC]
   exact KV fl _ _ e
  ·rw[List.length_append,o6] at h
   rw[←h,List.append_assoc,List.append_assoc]
theorem Ac(op:ByteArray):(op.data.toList=dD∨op.data.toList=bQ) ↔ gI op=true:=by unfold gI;simp
mutual
theorem El(fl:List UInt8→Option Int):∀(e:Ex) (m:Pm),bY fl e m=(⟨m.ps++mJ fl m.ps.length m.ks.length e,m.ns++oL e,m.ks++nI m.ps.length e⟩,m.ps.length+aL e-1)
 | .mk op n s l,m=>by
  have h:=zL fl l m
  have hq:rG fl (m.ps++gP fl m.ps.length m.ks.length l) op s (bU m.ps.length l)=jS fl (.mk op n s l):=by
   have hl:=FE fl l m.ps [] m.ks.length
   rw[List.append_nil] at hl
   unfold rG jS
   rw[←hl,←List.map_take]
   simp only[List.any_map,Function.id_comp]
  unfold bY mJ oL nI aL
  rw[h]
  simp only[lC,hq,Ac]
  have e1:(m.ps++gP fl m.ps.length m.ks.length l).length=m.ps.length+(aC l+1)-1:=by rw[List.length_append,o7];omega
  have e2:(m.ks++gQ m.ps.length l).length=m.ks.length+bO l:=by rw[List.length_append,rD]
  rw[e1,e2]
  unfold kQ
  cases gI op<;>simp
theorem zL(fl:List UInt8→Option Int):∀(l:List Ex) (m:Pm),aZ fl l m=(⟨m.ps++gP fl m.ps.length m.ks.length l,m.ns++iW l,m.ks++gQ m.ps.length l⟩,bU m.ps.length l)
 | [],m=>by simp [aZ,gP,iW,gQ,bU]
 | e::es,m=>by
  have h1:=El fl e m
  have h2:=zL fl es ⟨m.ps++mJ fl m.ps.length m.ks.length e,m.ns++oL e,m.ks++nI m.ps.length e⟩
  unfold aZ gP iW gQ bU
  rw[h1]
  simp only
  rw[h2]
  simp only[List.length_append,o6,rC,List.append_assoc]
end
mutual
def pF(N a:Nat):Ex→List Nat
 | .mk op _ _ l=>(if op.data.toList=dD then qI N N l else if op.data.toList=bQ then vR N a l else qI N a l)++[a]
def qI(N a:Nat):List Ex→List Nat
 | []=>[]
 | e::es=>pF N a e++qI N a es
def vR(N a:Nat):List Ex→List Nat
 | []=>[]
 | e::es=>pF N a e++qI N N es
end
mutual
theorem sI(N:Nat):∀(e:Ex) (a:Nat),(pF N a e).length=aL e
 | .mk op n s l,a=>by
  have h1:=sJ N l a
  have h2:=sJ N l N
  have h3:=BH N l a
  unfold pF aL
  rw[List.length_append]
  split
  ·rw[h2];rfl
  split
  ·rw[h3];rfl
  ·rw[h1];rfl
theorem sJ(N:Nat):∀(l:List Ex) (a:Nat),(qI N a l).length=aC l
 | [],a=>by simp [qI,aC]
 | e::es,a=>by unfold qI aC;rw[List.length_append,sI N e a,sJ N es a]
theorem BH(N:Nat):∀(l:List Ex) (a:Nat),(vR N a l).length=aC l
 | [],a=>by simp [vR,aC]
 | e::es,a=>by unfold vR aC;rw[List.length_append,sI N e a,sJ N es N]
end
structure Tb where
 ps:List Pq
 ns:List ByteArray
 ks:List Nat
 kn:List Int
 lv:List Nat
structure Cx where
 fl:List UInt8→Option Int
 kd:List UInt8→Option Int
 H:Ex→Prop
 hH:∀op n s l,fA (.mk op n s l)→H (.mk op n s l)→∀x∈l,H x
 N:Nat
 po:List UInt8→Option Nat
structure Vw(x:Cx)(t:Tb)(a b c:Nat)(e:Ex):Prop where
 p:∀i,i<aL e→t.ps[b+i]?=(mJ x.fl b c e)[i]?
 n:∀i,i<aL e→t.ns[b+i]?=(oL e)[i]?
 k:∀i,i<dZ e→t.ks[c+i]?=(nI b e)[i]?
 ty:∃k q,cO x.kd e=some (k,q)∧q.length=aL e∧∀i,i<aL e→t.kn[b+i]?=q[i]?
 lv:∀i,i<aL e→t.lv[b+i]?=(pF x.N a e)[i]?
 ar:fA e
 h:x.H e
 le:a≤x.N
 on:a<x.N→∀s∈onE e,∀k,x.po s=some k→k<a
structure kE(x:Cx)(t:Tb)(a b c:Nat)(l:List Ex):Prop where
 p:∀i,i<aC l→t.ps[b+i]?=(gP x.fl b c l)[i]?
 n:∀i,i<aC l→t.ns[b+i]?=(iW l)[i]?
 k:∀i,i<bO l→t.ks[c+i]?=(gQ b l)[i]?
 ty:∃k q,aR x.kd l=some (k,q)∧q.length=aC l∧∀i,i<aC l→t.kn[b+i]?=q[i]?
 lv:∀i,i<aC l→t.lv[b+i]?=(qI x.N a l)[i]?
 ar:eT l
 h:∀e∈l,x.H e
 le:a≤x.N
 on:a<x.N→∀s∈eG l,∀k,x.po s=some k→k<a
section
variable {x:Cx} {t:Tb}
theorem gZ{α:Type}{T A B:List α}{b n m:Nat}(hA:A.length=n)(h:∀i,i<n+m→T[b+i]?=(A++B)[i]?):∀i,i<n→T[b+i]?=A[i]?:=fun i hi=>by
 rw[h i (by omega),List.getElem?_append_left (by omega)]
theorem mI{α:Type}{T A B:List α}{b n m:Nat}(hA:A.length=n)(h:∀i,i<n+m→T[b+i]?=(A++B)[i]?):∀i,i<m→T[b+n+i]?=B[i]?:=fun i hi=>by
 rw[Nat.add_assoc,h (n+i) (by omega),List.getElem?_append_right (by omega),hA,Nat.add_sub_cancel_left]
theorem wY(kd:List UInt8→Option Int):∀{e:Ex} {k:Int} {q:List Int},fA e→cO kd e=some (k,q)→q.length=aL e∧q[aL e-1]?=some k:=by
 intro e
 exact(Ex.rec (motive_1:=fun e=>∀{k:Int} {q:List Int},fA e→cO kd e=some (k,q)→q.length=aL e∧q[aL e-1]?=some k) (motive_2:=fun l=>∀{k:List Int} {q:List Int},eT l→aR kd l=some (k,q)→q.length=aC l)
  (fun op n s l ih k q ha h=>by
   unfold cO at h
   unfold aL
   unfold fA at ha
   split at h
   ·rename_i hn
    have hl:=ha.1 hn
    obtain⟨k',_,e⟩:=Option.map_eq_some_iff.1 h
    obtain⟨rfl,rfl⟩:=Prod.mk.inj e
    obtain rfl:=List.eq_nil_of_length_eq_zero hl
    simp [aC]
   ·cases hl:aR kd l with
    | none=>rw[hl] at h;simp at h
    | some r=>
     obtain⟨ks,ps⟩:=r
     rw[hl] at h
     obtain⟨k',_,e⟩:=Option.map_eq_some_iff.1 h
     obtain⟨rfl,rfl⟩:=Prod.mk.inj e
     have:=ih ha.2.2.2.2 hl
     simp [this])
  (fun {k q} _ h=>by
   unfold aR at h
   obtain⟨_,rfl⟩:[]=k∧[]=q:=by simpa using h
   simp [aC])
  (fun e es ihe ihs {k q} ha h=>by
   unfold eT at ha
   unfold aR at h
   cases he:cO kd e with
   | none=>rw[he] at h;simp at h
   | some r=>
    rw[he] at h
    simp only at h
    cases hs:aR kd es with
    | none=>rw[hs] at h;simp at h
    | some u=>
     rw[hs] at h
     obtain⟨_,rfl⟩:r.1::u.1=k∧r.2++u.2=q:=by simpa using h
     have h1:=(ihe ha.1 he).1
     have h2:=ihs ha.2 hs
     unfold aC
     simp [h1,h2]) e)
theorem kE.head{a b c:Nat}{e:Ex}{es:List Ex}(h:kE x t a b c (e::es)):Vw x t a b c e∧kE x t a (b+aL e) (c+dZ e) es:=by
 obtain⟨p,n,k,ty,lv,ar,hh,le,on⟩:=h
 unfold gP aC at p
 unfold iW aC at n
 unfold gQ bO at k
 unfold qI aC at lv
 unfold eT at ar
 unfold eG at on
 obtain⟨ks,q,h1,h2,h3⟩:=ty
 unfold aR at h1
 unfold aC at h2 h3
 cases he:cO x.kd e with
 | none=>rw[he] at h1;simp at h1
 | some r=>
  rw[he] at h1
  simp only at h1
  cases hs:aR x.kd es with
  | none=>rw[hs] at h1;simp at h1
  | some u=>
   rw[hs] at h1
   obtain⟨_,rfl⟩:r.1::u.1=ks∧r.2++u.2=q:=by simpa using h1
   have hq:=(wY x.kd ar.1 (k:=r.1) (q:=r.2) he).1
   have hu:u.2.length=aC es:=by rw[List.length_append] at h2;omega
   exact⟨⟨gZ (o6 ..) p,gZ (uN ..) n,gZ (rC ..) k,⟨r.1,r.2,he,hq,gZ hq h3⟩,gZ (sI ..) lv,ar.1,hh e (List.mem_cons_self ..),le,fun hl s hs=>on hl s (List.mem_append_left _ hs)⟩,
    ⟨mI (o6 ..) p,mI (uN ..) n,mI (rC ..) k,⟨u.1,u.2,hs,hu,mI hq h3⟩,mI (sI ..) lv,ar.2,fun y hy=>hh y (List.mem_cons_of_mem _ hy),le,fun hl s hs=>on hl s (List.mem_append_right _ hs)⟩⟩
structure Root(x:Cx)(t:Tb)(a b c:Nat)(op:ByteArray)(n:Int)(s:ByteArray)(l:List Ex):Prop where
 rp:t.ps[b+aC l]?=some (kQ x.fl b c op n s l)
 rn:t.ns[b+aC l]?=some s
 rk:gI op=true→t.ks[c+bO l]?=some ((bU b l).getLastD 0)
 rl:t.lv[b+aC l]?=some a
 rt:∃k q,cO x.kd (.mk op n s l)=some (k,q)∧t.kn[b+aC l]?=some k
theorem Vw.root{a b c:Nat}{op:ByteArray}{n:Int}{s:ByteArray}{l:List Ex}(h:Vw x t a b c (.mk op n s l)):Root x t a b c op n s l:=by
 have hz:aL (.mk op n s l)=aC l+1:=by unfold aL;rfl
 refine⟨?_,?_,fun hk=>?_,?_,?_⟩
 ·rw[h.p (aC l) (by omega)]
  unfold mJ
  rw[List.getElem?_append_right (by rw[o7];exact Nat.le_refl _),o7,Nat.sub_self];rfl
 ·rw[h.n (aC l) (by omega)]
  unfold oL
  rw[List.getElem?_append_right (by rw[vP];exact Nat.le_refl _),vP,Nat.sub_self];rfl
 ·rw[h.k (bO l) (by unfold dZ;rw[hk];simp)]
  unfold nI
  rw[List.getElem?_append_right (by rw[rD];exact Nat.le_refl _),rD,Nat.sub_self,hk];rfl
 ·rw[h.lv (aC l) (by omega)]
  have hl:∀A:List Nat,A.length=aC l→(A++[a])[aC l]?=some a:=fun A hA=>by
   rw[List.getElem?_append_right (by omega),hA,Nat.sub_self];rfl
  unfold pF
  refine hl _ ?_
  split
  ·exact sJ ..
  split
  ·exact BH ..
  ·exact sJ ..
 ·obtain⟨k,q,h1,h2,h3⟩:=h.ty
  refine⟨k,q,h1,?_⟩
  rw[h3 (aC l) (by omega)]
  have:=(wY x.kd h.ar h1).2
  rwa [hz,Nat.add_sub_cancel] at this
theorem Vw.kids{a b c:Nat}{op:ByteArray}{n:Int}{s:ByteArray}{l:List Ex}(h:Vw x t a b c (.mk op n s l))(hop:op.data.toList≠bQ):kE x t (if op.data.toList=dD then x.N else a) b c l:=by
 have hz:aL (.mk op n s l)=aC l+1:=by unfold aL;rfl
 obtain⟨p,n,k,ty,lv,ar,hh,le,on⟩:=h
 have hH:=x.hH _ _ _ _ ar hh
 unfold mJ at p
 unfold oL at n
 unfold nI dZ at k
 unfold pF at lv
 rw[hz] at p n lv
 refine⟨gZ (o7 ..) p,gZ (vP ..) n,gZ (rD ..) k,?_,?_,by unfold fA at ar;exact ar.2.2.2.2,hH,?_,fun hl s hs=>?_⟩
 ·obtain⟨k,q,h1,h2,h3⟩:=ty
  unfold cO at h1
  split at h1
  ·rename_i hn
   unfold fA at ar
   obtain rfl:=List.eq_nil_of_length_eq_zero (ar.1 hn)
   exact⟨[],[],by simp [aR],by simp [aC],fun i hi=>by simp [aC] at hi⟩
  ·cases hl:aR x.kd l with
   | none=>rw[hl] at h1;simp at h1
   | some r=>
    rw[hl] at h1
    obtain⟨k',_,e⟩:=Option.map_eq_some_iff.1 h1
    obtain⟨rfl,rfl⟩:=Prod.mk.inj e
    rw[hz] at h2 h3
    have hq:r.2.length=aC l:=by simpa using h2
    exact⟨r.1,r.2,rfl,hq,gZ hq h3⟩
 ·by_cases hp:op.data.toList=dD
  ·rw[if_pos hp] at lv ⊢
   exact gZ (sJ ..) lv
  ·rw[if_neg hp,if_neg hop] at lv
   rw[if_neg hp]
   exact gZ (sJ ..) lv
 ·split
  ·exact Nat.le_refl _
  ·exact le
 ·by_cases hp:op.data.toList=dD
  ·rw[if_pos hp] at hl
   omega
  ·rw[if_neg hp] at hl ⊢
   refine on hl s ?_
   unfold onE
   rw[if_neg hp,if_neg hop]
   exact List.mem_append_right _ hs
theorem Vw.xP{a b c:Nat}{op:ByteArray}{n:Int}{s:ByteArray}{l:List Ex}(h:Vw x t a b c (.mk op n s l))(hop:op.data.toList=bQ):∃e0 e1,l=[e0,e1]∧Vw x t a b c e0∧Vw x t x.N (b+aL e0) (c+dZ e0) e1:=by
 have hz:aL (.mk op n s l)=aC l+1:=by unfold aL;rfl
 have hnp:op.data.toList≠dD:=fun e=>by rw[hop] at e;exact absurd e (by decide)
 have hnn:op.data.toList≠bS:=fun e=>by rw[hop] at e;exact absurd e (by decide)
 obtain⟨p,n,k,ty,lv,ar,hh,le,on⟩:=h
 have hH:=x.hH _ _ _ _ ar hh
 have har:=ar
 unfold fA at har
 obtain⟨e0,e1,rfl⟩:∃e0 e1,l=[e0,e1]:=by
  have:=har.2.2.2.1 hop
  match l,this with
  | [e0,e1],_=>exact⟨e0,e1,rfl⟩
 have ha0:fA e0∧fA e1:=by
  have:=har.2.2.2.2
  unfold eT at this
  refine⟨this.1,?_⟩
  have h2:=this.2
  unfold eT at h2
  exact h2.1
 have hs:aC [e0,e1]=aL e0+aL e1:=by simp [aC]
 have hm:bO [e0,e1]=dZ e0+dZ e1:=by simp [bO]
 unfold mJ at p
 unfold oL at n
 unfold nI dZ at k
 unfold pF at lv
 rw[hz] at p n lv
 rw[if_neg hnp,if_pos hop] at lv
 have p':=gZ (o7 ..) p
 have n':=gZ (vP ..) n
 have kz:=gZ (rD ..) k
 have lv':=gZ (BH ..) lv
 have ep:gP x.fl b c [e0,e1]=mJ x.fl b c e0++mJ x.fl (b+aL e0) (c+dZ e0) e1:=by simp [gP]
 have en:iW [e0,e1]=oL e0++oL e1:=by simp [iW]
 have ek:gQ b [e0,e1]=nI b e0++nI (b+aL e0) e1:=by simp [gQ]
 have el:vR x.N a [e0,e1]=pF x.N a e0++pF x.N x.N e1:=by simp [vR,qI]
 rw[ep,hs] at p'
 rw[en,hs] at n'
 rw[ek,hm] at kz
 rw[el,hs] at lv'
 obtain⟨k0,q0,h1,h2,h3⟩:=ty
 unfold cO at h1
 rw[if_neg hnn] at h1
 rw[hz,hs] at h2 h3
 cases t0:cO x.kd e0 with
 | none=>unfold aR at h1;rw[t0] at h1;simp at h1
 | some r0=>
  cases t1:cO x.kd e1 with
  | none=>unfold aR at h1;rw[t0] at h1;unfold aR at h1;rw[t1] at h1;simp at h1
  | some r1=>
   have hl:aR x.kd [e0,e1]=some ([r0.1,r1.1],r0.2++r1.2):=by simp [aR,t0,t1]
   rw[hl] at h1
   obtain⟨k',_,e⟩:=Option.map_eq_some_iff.1 h1
   obtain⟨rfl,rfl⟩:=Prod.mk.inj e
   have q0:=(wY x.kd ha0.1 (k:=r0.1) (q:=r0.2) t0).1
   have q1:=(wY x.kd ha0.2 (k:=r1.1) (q:=r1.2) t1).1
   have h4:=gZ (A:=r0.2++r1.2) (n:=aL e0+aL e1) (by simp [q0,q1]) h3
   refine⟨e0,e1,rfl,⟨gZ (o6 ..) p',gZ (uN ..) n',gZ (rC ..) kz,⟨r0.1,r0.2,t0,q0,gZ q0 h4⟩,gZ (sI ..) lv',ha0.1,hH e0 (by simp),le,fun hl s hs=>on hl s ?_⟩,
    ⟨mI (o6 ..) p',mI (uN ..) n',mI (rC ..) kz,⟨r1.1,r1.2,t1,q1,mI q0 h4⟩,mI (sI ..) lv',ha0.2,hH e1 (by simp),Nat.le_refl _,fun hl=>absurd hl (Nat.lt_irrefl _)⟩⟩
   unfold onE
   rw[if_neg hnp,if_pos hop]
   unfold sF
   exact List.mem_append_right _ hs
theorem kE.at:∀{l:List Ex} {a b c i:Nat} {e:Ex},kE x t a b c l→l[i]?=some e→∃b' c',Vw x t a b' c' e∧(bU b l)[i]?=some (b'+aL e-1)∧b≤b'∧b'+aL e≤b+aC l∧c≤c'∧c'+dZ e≤c+bO l
 | [],a,b,c,i,e,_,h=>by simp at h
 | y::l,a,b,c,0,e,hv,h=>by
  obtain rfl:y=e:=by simpa using h
  exact⟨b,c,hv.head.1,by unfold bU;rfl,Nat.le_refl _,by unfold aC;omega,Nat.le_refl _,by unfold bO;omega⟩
 | y::l,a,b,c,i+1,e,hv,h=>by
  obtain⟨b',c',h1,h2,h3,h4,h5,h6⟩:=kE.at hv.head.2 (i:=i) (e:=e) (by simpa using h)
  exact⟨b',c',h1,by unfold bU;rw[List.getElem?_cons_succ];exact h2,by omega,by unfold aC;omega,by omega,by unfold bO;omega⟩
mutual
theorem Vw.all:∀(e:Ex) {a b c:Nat},Vw x t a b c e→∀j,b≤j→j<b+aL e→∃a' b' c' e',Vw x t a' b' c' e'∧j+1=b'+aL e'∧b≤b'∧c≤c'∧c'+dZ e'≤c+dZ e
 | .mk op n s l,a,b,c,h,j,h1,h2=>by
  have hz:aL (.mk op n s l)=aC l+1:=by unfold aL;rfl
  have hm:bO l≤dZ (.mk op n s l):=by unfold dZ;omega
  by_cases e:j=b+aC l
  ·exact⟨a,b,c,_,h,by omega,Nat.le_refl _,Nat.le_refl _,Nat.le_refl _⟩
  ·by_cases hf:op.data.toList=bQ
   ·obtain⟨e0,e1,rfl,v0,v1⟩:=h.xP hf
    have hs:aC [e0,e1]=aL e0+aL e1:=by simp [aC]
    have hm2:bO [e0,e1]=dZ e0+dZ e1:=by simp [bO]
    by_cases hj:j<b+aL e0
    ·obtain⟨a',b',c',e',r1,r2,r3,r4,r5⟩:=Vw.all e0 v0 j h1 hj
     exact⟨a',b',c',e',r1,r2,r3,r4,by omega⟩
    ·obtain⟨a',b',c',e',r1,r2,r3,r4,r5⟩:=Vw.all e1 v1 j (by omega) (by omega)
     exact⟨a',b',c',e',r1,r2,by omega,by omega,by omega⟩
   ·obtain⟨a',b',c',e',r1,r2,r3,r4,r5⟩:=kE.all l (h.kids hf) j h1 (by omega)
    exact⟨a',b',c',e',r1,r2,r3,r4,by omega⟩
theorem kE.all:∀(l:List Ex) {a b c:Nat},kE x t a b c l→∀j,b≤j→j<b+aC l→∃a' b' c' e',Vw x t a' b' c' e'∧j+1=b'+aL e'∧b≤b'∧c≤c'∧c'+dZ e'≤c+bO l
 | [],a,b,c,h,j,h1,h2=>by simp [aC] at h2;omega
 | e::es,a,b,c,h,j,h1,h2=>by
  have hs:aC (e::es)=aL e+aC es:=by simp [aC]
  have hm:bO (e::es)=dZ e+bO es:=by simp [bO]
  by_cases hj:j<b+aL e
  ·obtain⟨a',b',c',e',r1,r2,r3,r4,r5⟩:=Vw.all e h.head.1 j h1 hj
   exact⟨a',b',c',e',r1,r2,r3,r4,by omega⟩
  ·obtain⟨a',b',c',e',r1,r2,r3,r4,r5⟩:=kE.all es h.head.2 j (by omega) (by omega)
   exact⟨a',b',c',e',r1,r2,by omega,by omega,by omega⟩
end
mutual
theorem Vw.mem:∀(e:Ex) {a b c:Nat},Vw x t a b c e→∀j,c≤j→j<c+dZ e→∃a' b' c' op n s l,Vw x t a' b' c' (.mk op n s l)∧gI op=true∧j=c'+bO l∧b≤b'∧b'+aC l+1≤b+aL e
 | .mk op n s l,a,b,c,h,j,h1,h2=>by
  have hz:aL (.mk op n s l)=aC l+1:=by unfold aL;rfl
  have hm:dZ (.mk op n s l)=bO l+bif gI op then 1 else 0:=by unfold dZ;rfl
  by_cases e:j=c+bO l
  ·refine⟨a,b,c,op,n,s,l,h,?_,e,Nat.le_refl _,by omega⟩
   cases hk:gI op with
   | true=>rfl
   | false=>rw[hm,hk] at h2;simp at h2;omega
  ·have hj:j<c+bO l:=by
    rw[hm] at h2
    cases hk:gI op<;>rw[hk] at h2<;>simp at h2<;>omega
   by_cases hf:op.data.toList=bQ
   ·obtain⟨e0,e1,rfl,v0,v1⟩:=h.xP hf
    have hs:aC [e0,e1]=aL e0+aL e1:=by simp [aC]
    have hm2:bO [e0,e1]=dZ e0+dZ e1:=by simp [bO]
    by_cases hj2:j<c+dZ e0
    ·obtain⟨a',b',c',op',n',s',l',r1,r2,r3,r4,r5⟩:=Vw.mem e0 v0 j h1 hj2
     exact⟨a',b',c',op',n',s',l',r1,r2,r3,r4,by omega⟩
    ·obtain⟨a',b',c',op',n',s',l',r1,r2,r3,r4,r5⟩:=Vw.mem e1 v1 j (by omega) (by omega)
     exact⟨a',b',c',op',n',s',l',r1,r2,r3,by omega,by omega⟩
   ·obtain⟨a',b',c',op',n',s',l',r1,r2,r3,r4,r5⟩:=kE.mem l (h.kids hf) j h1 hj
    exact⟨a',b',c',op',n',s',l',r1,r2,r3,r4,by omega⟩
theorem kE.mem:∀(l:List Ex) {a b c:Nat},kE x t a b c l→∀j,c≤j→j<c+bO l→∃a' b' c' op n s l',Vw x t a' b' c' (.mk op n s l')∧gI op=true∧j=c'+bO l'∧b≤b'∧b'+aC l'+1≤b+aC l
 | [],a,b,c,h,j,h1,h2=>by simp [bO] at h2;omega
 | e::es,a,b,c,h,j,h1,h2=>by
  have hs:aC (e::es)=aL e+aC es:=by simp [aC]
  have hm:bO (e::es)=dZ e+bO es:=by simp [bO]
  by_cases hj:j<c+dZ e
  ·obtain⟨a',b',c',op',n',s',l',r1,r2,r3,r4,r5⟩:=Vw.mem e h.head.1 j h1 hj
   exact⟨a',b',c',op',n',s',l',r1,r2,r3,r4,by omega⟩
  ·obtain⟨a',b',c',op',n',s',l',r1,r2,r3,r4,r5⟩:=kE.mem es h.head.2 j (by omega) (by omega)
   exact⟨a',b',c',op',n',s',l',r1,r2,r3,by omega,by omega⟩
end
end
theorem Bc:∀(A B:List Ex),aC (A++B)=aC A+aC B
 | [],B=>by simp [aC]
 | e::A,B=>by simp [aC,Bc A B];omega
theorem Ee(fl:List UInt8→Option Int):∀(A B:List Ex) (b c:Nat),gP fl b c (A++B)=gP fl b c A++gP fl (b+aC A) (c+bO A) B
 | [],B,b,c=>by simp [gP,aC,bO]
 | e::A,B,b,c=>by simp [gP,aC,bO,Ee fl A B,Nat.add_assoc]
theorem EQ:∀(A B:List Ex),iW (A++B)=iW A++iW B
 | [],B=>by simp [iW]
 | e::A,B=>by simp [iW,EQ A B]
theorem FM:∀(A B:List Ex) (b:Nat),gQ b (A++B)=gQ b A++gQ (b+aC A) B
 | [],B,b=>by simp [gQ,aC]
 | e::A,B,b=>by simp [gQ,aC,FM A B,Nat.add_assoc]
theorem xJ:∀(A B:List Ex) (b:Nat),bU b (A++B)=bU b A++bU (b+aC A) B
 | [],B,b=>by simp [bU,aC]
 | e::A,B,b=>by simp [bU,aC,xJ A B,Nat.add_assoc]
inductive kW(x:Cx)(t:Tb):Nat→Nat→List (Nat×Ex)→Prop
 | nil (b c:Nat):kW x t b c []
 | cons (a b c:Nat) (e:Ex) (l:List (Nat×Ex)):Vw x t a b c e→kW x t (b+aL e) (c+dZ e) l→kW x t b c ((a,e)::l)
def zZ(N:Nat):List (Nat×Ex)→List Nat
 | []=>[]
 | y::l=>pF N y.1 y.2++zZ N l
section
variable {x:Cx} {t:Tb}
theorem kW.at{b c:Nat}{l:List (Nat×Ex)}(h:kW x t b c l):∀{i:Nat} {y:Nat×Ex},l[i]?=some y→∃b' c',Vw x t y.1 b' c' y.2∧(bU b (l.map Prod.snd))[i]?=some (b'+aL y.2-1)∧b≤b'∧b'+aL y.2≤b+aC (l.map Prod.snd):=by
 induction h with
 | nil=>intro i y hi;simp at hi
 | cons a b c e l hv _ ih=>
  intro i y hi
  match i with
  | 0=>
   obtain rfl:(a,e)=y:=by simpa using hi
   exact⟨b,c,hv,by simp [bU],Nat.le_refl _,by simp [aC]⟩
  | i+1=>
   obtain⟨b',c',h1,h2,h3,h4⟩:=ih (i:=i) (y:=y) (by simpa using hi)
   refine⟨b',c',h1,by simpa [bU] using h2,by omega,?_⟩
   simp only[List.map_cons,aC]
   omega
theorem kW.all{b c:Nat}{l:List (Nat×Ex)}(h:kW x t b c l):∀j,b≤j→j<b+aC (l.map Prod.snd)→∃a' b' c' e',Vw x t a' b' c' e'∧j+1=b'+aL e'∧b≤b'∧c'+dZ e'≤c+bO (l.map Prod.snd):=by
 induction h with
 | nil b c=>intro j h1 h2;simp [aC] at h2;omega
 | cons a b c e l hv _ ih=>
  intro j h1 h2
  simp only[List.map_cons,aC,bO] at h2 ⊢
  by_cases hj:j<b+aL e
  ·obtain⟨a',b',c',e',r1,r2,r3,_,r5⟩:=Vw.all e hv j h1 hj
   exact⟨a',b',c',e',r1,r2,r3,by omega⟩
  ·obtain⟨a',b',c',e',r1,r2,r3,r5⟩:=ih j (by omega) (by omega)
   exact⟨a',b',c',e',r1,r2,by omega,by omega⟩
theorem kW.mem{b c:Nat}{l:List (Nat×Ex)}(h:kW x t b c l):∀j,c≤j→j<c+bO (l.map Prod.snd)→∃a' b' c' op n s l',Vw x t a' b' c' (.mk op n s l')∧gI op=true∧j=c'+bO l'∧b≤b'∧b'+aC l'+1≤b+aC (l.map Prod.snd):=by
 induction h with
 | nil b c=>intro j h1 h2;simp [bO] at h2;omega
 | cons a b c e l hv _ ih=>
  intro j h1 h2
  simp only[List.map_cons,aC,bO] at h2 ⊢
  by_cases hj:j<c+dZ e
  ·obtain⟨a',b',c',op',n',s',l',r1,r2,r3,r4,r5⟩:=Vw.mem e hv j h1 hj
   exact⟨a',b',c',op',n',s',l',r1,r2,r3,r4,by omega⟩
  ·obtain⟨a',b',c',op',n',s',l',r1,r2,r3,r4,r5⟩:=ih j (by omega) (by omega)
   exact⟨a',b',c',op',n',s',l',r1,r2,r3,by omega,by omega⟩
theorem kW.made:∀(l:List (Nat×Ex)) (b c:Nat),(∀i,i<aC (l.map Prod.snd)→t.ps[b+i]?=(gP x.fl b c (l.map Prod.snd))[i]?)→(∀i,i<aC (l.map Prod.snd)→t.ns[b+i]?=(iW (l.map Prod.snd))[i]?)→(∀i,i<bO (l.map Prod.snd)→t.ks[c+i]?=(gQ b (l.map Prod.snd))[i]?) →
  (∃k q,aR x.kd (l.map Prod.snd)=some (k,q)∧∀i,i<aC (l.map Prod.snd)→t.kn[b+i]?=q[i]?)→(∀i,i<aC (l.map Prod.snd)→t.lv[b+i]?=(zZ x.N l)[i]?)→eT (l.map Prod.snd)→(∀y∈l,x.H y.2∧y.1≤x.N∧(y.1<x.N→∀s∈onE y.2,∀k,x.po s=some k→k<y.1))→kW x t b c l
 | [],b,c,_,_,_,_,_,_,_=>.nil b c
 | (a,e)::l,b,c,p,n,k,ty,lv,ar,hh=>by
  simp only[List.map_cons,gP,iW,gQ,zZ,eT,aC,bO] at p n k ty lv ar
  obtain⟨ks,q,h1,h3⟩:=ty
  unfold aR at h1
  cases he:cO x.kd e with
  | none=>rw[he] at h1;simp at h1
  | some r=>
   rw[he] at h1
   simp only at h1
   cases hs:aR x.kd (l.map Prod.snd) with
   | none=>rw[hs] at h1;simp at h1
   | some u=>
    rw[hs] at h1
    obtain⟨_,rfl⟩:r.1::u.1=ks∧r.2++u.2=q:=by simpa using h1
    have hq:=(wY x.kd ar.1 (k:=r.1) (q:=r.2) he).1
    obtain⟨y1,y2,y3⟩:=hh (a,e) (List.mem_cons_self ..)
    exact .cons a b c e l ⟨gZ (o6 ..) p,gZ (uN ..) n,gZ (rC ..) k,⟨r.1,r.2,he,hq,gZ hq h3⟩,gZ (sI ..) lv,ar.1,y1,y2,y3⟩
     (kW.made l _ _ (mI (o6 ..) p) (mI (uN ..) n) (mI (rC ..) k) ⟨u.1,u.2,hs,mI hq h3⟩ (mI (sI ..) lv) ar.2 fun y hy=>hh y (List.mem_cons_of_mem _ hy))
end
theorem rF:∀{l:List (ByteArray×Int)} {f g:List UInt8→Option Int},fG f l=some g→(l.map fun v=>v.1.data.toList).Nodup∧∀v∈l,f v.1.data.toList=none∧(v.2=1∨v.2=2)
 | [],f,g,_=>⟨List.nodup_nil,fun v hv=>by cases hv⟩
 | v::l,f,g,h=>by
  unfold fG at h
  split at h
  ·cases h
  ·rename_i hb
   obtain⟨h1,h2⟩:=rF h
   have hb':lX f v=false:=by simpa using hb
   unfold lX at hb'
   simp only[Bool.or_eq_false_iff,Bool.and_eq_false_iff] at hb'
   have hn:f v.1.data.toList=none:=by simpa using hb'.1.1
   have hk:v.2=1∨v.2=2:=by
    rcases hb'.2 with h | h
    ·exact .inl (by simpa using h)
    ·exact .inr (by simpa using h)
   refine⟨List.nodup_cons.2 ⟨fun hm=>?_,h1⟩,fun u hu=>?_⟩
   ·obtain⟨u,hu,e⟩:=List.mem_map.1 hm
    have:=(h2 u hu).1
    unfold bI at this
    rw[if_pos e] at this
    cases this
   ·rcases List.mem_cons.1 hu with rfl | hu
    ·exact⟨hn,hk⟩
    ·have:=h2 u hu
     unfold bI at this
     refine⟨?_,this.2⟩
     have h3:=this.1
     split at h3
     ·cases h3
     ·exact h3
theorem Ad:∀{l:List (ByteArray×Int)} {f:List UInt8→Option Int} {s:List UInt8},(∀v∈l,v.1.data.toList≠s)→cK f l s=f s
 | [],f,s,_=>rfl
 | v::l,f,s,h=>by
  show cK (bI f v) l s=f s
  rw[Ad fun u hu=>h u (List.mem_cons_of_mem _ hu)]
  unfold bI
  rw[if_neg fun e=>h v (List.mem_cons_self ..) e.symm]
theorem vT:∀{l:List (ByteArray×Int)} {f:List UInt8→Option Int} {v:ByteArray×Int},(l.map fun v=>v.1.data.toList).Nodup→v∈l→cK f l v.1.data.toList=some v.2
 | u::l,f,v,hn,hv=>by
  rw[List.map_cons,List.nodup_cons] at hn
  show cK (bI f u) l _=_
  rcases List.mem_cons.1 hv with rfl | hv
  ·rw[Ad fun y hy e=>hn.1 (List.mem_map.2 ⟨y,hy,e⟩)]
   unfold bI
   rw[if_pos rfl]
  ·exact vT hn.2 hv
theorem BM(f:List UInt8→Option Int)(A B:List (ByteArray×Int)):cK f (A++B)=cK (cK f A) B:=by unfold cK;rw[List.foldl_append]
def kU:List Ex→Nat→List (ByteArray×Int)
 | [],_=>[]
 | x::l,j=>(x.op,(j:Int))::kU l (j+1)
def mU:List Fw→Nat→List (ByteArray×Int)
 | [],_=>[]
 | x::l,b=>(x.name,((b+aL x.e-1:Nat):Int))::mU l (b+aL x.e)
theorem F8:∀(l:List Ex) (x:Ex) (j:Nat),kU (l++[x]) j=kU l j++[(x.op,((j+l.length:Nat):Int))]
 | [],x,j=>by simp [kU]
 | y::l,x,j=>by
  simp only[List.cons_append,kU,F8 l x (j+1),List.length_cons]
  rw[show j+1+l.length=j+(l.length+1) from by omega]
theorem Gd(ins:List Ex):∀j,j≤ins.length→fH ins j=cK (fun _=>none) (kU (ins.take j) 0)
 | 0,_=>by simp [fH,kU,cK]
 | j+1,hj=>by
  have hx:ins[j]?=some ins[j]:=List.getElem?_eq_getElem (by omega)
  rw[←Gb hx,Gd ins j (by omega),List.take_add_one,hx]
  show _=cK _ (kU (ins.take j++[ins[j]]) 0)
  rw[F8,BM,List.length_take,Nat.min_eq_left (by omega),Nat.zero_add]
  rfl
theorem BR:∀(l:List Ex) (j:Nat),(kU l j).map (fun v=>v.1)=l.map Ex.op
 | [],_=>rfl
 | x::l,j=>by simp [kU,BR l (j+1)]
theorem Ch:∀(l:List Fw) (b:Nat),(mU l b).map (fun v=>v.1)=l.map Fw.name
 | [],_=>rfl
 | x::l,b=>by simp [mU,Ch l]
theorem F9:∀(l:List Ex) (j i:Nat) (x:Ex),l[i]?=some x→(kU l j)[i]?=some (x.op,((j+i:Nat):Int))
 | [],j,i,x,h=>by simp at h
 | y::l,j,0,x,h=>by
  obtain rfl:y=x:=by simpa using h
  rfl
 | y::l,j,i+1,x,h=>by
  unfold kU
  rw[List.getElem?_cons_succ,F9 l (j+1) i x (by simpa using h),show j+1+i=j+(i+1) from by omega]
theorem GD:∀(l:List Fw) (b i:Nat) (x:Fw),l[i]?=some x→∃k,(bU b (l.map fun f=>f.e))[i]?=some k∧(mU l b)[i]?=some (x.name,(k:Int))
 | [],b,i,x,h=>by simp at h
 | y::l,b,0,x,h=>by
  obtain rfl:y=x:=by simpa using h
  exact⟨b+aL y.e-1,by simp [bU],by unfold mU;rfl⟩
 | y::l,b,i+1,x,h=>by
  obtain⟨k,h1,h2⟩:=GD l (b+aL y.e) i x (by simpa using h)
  exact⟨k,by simpa [bU] using h1,by unfold mU;rw[List.getElem?_cons_succ];exact h2⟩
theorem EO(fl:List UInt8→Option Int):∀(l:List Fw) (s:Pm×(List UInt8→Option Int)),eB fl l s=(⟨s.1.ps++gP fl s.1.ps.length s.1.ks.length (l.map fun f=>f.e),s.1.ns++iW (l.map fun f=>f.e),s.1.ks++gQ s.1.ps.length (l.map fun f=>f.e)⟩,cK s.2 (mU l s.1.ps.length))
 | [],s=>by simp [eB,gP,iW,gQ,cK,mU]
 | x::l,s=>by
  unfold eB
  rw[EO fl l,El]
  simp only[List.length_append,o6,rC,List.map_cons,gP,iW,gQ,mU,List.append_assoc]
  rfl
theorem uG(p:Pg)(fl:List UInt8→Option Int):eP p fl=⟨List.replicate p.ins.length mP++gP fl p.ins.length 0 (aI p),p.ins.map Ex.op++iW (aI p),gQ p.ins.length (aI p)⟩∧(bJ p fl).2=cK (fun _=>none) (kU p.ins 0++mU p.fs p.ins.length) ∧
  (aZ fl p.asserts (bJ p fl).1).2=bU (p.ins.length+aC (p.fs.map fun f=>f.e)) p.asserts∧(aZ fl p.checks (aZ fl p.asserts (bJ p fl).1).1).2=bU (p.ins.length+aC (p.fs.map fun f=>f.e)+aC p.asserts) p.checks:=by
 have h0:bJ p fl=_:=EO fl p.fs _
 simp only[List.length_replicate,List.length_nil,List.nil_append] at h0
 have h1:=zL fl p.asserts (bJ p fl).1
 rw[h0] at h1
 simp only[List.length_append,List.length_replicate,o7,rD] at h1
 have h2:=zL fl p.checks (aZ fl p.asserts (bJ p fl).1).1
 rw[h0,h1] at h2
 simp only[List.length_append,List.length_replicate,o7,rD] at h2
 refine⟨?_,?_,by rw[h0,h1],by rw[h0,h1,h2]⟩
 ·unfold eP aI
  rw[h0,h1,h2]
  simp only[Ee,EQ,FM,List.append_assoc,Nat.add_assoc,Nat.zero_add]
 ·rw[h0,BM]
  show cK (fH p.ins p.ins.length) _=_
  rw[Gd p.ins _ (Nat.le_refl _),List.take_length]
end Go.Proofs.YtmgfakcccfahaaaGreatDoor
