/-
  PLANS AS MATHEMATICS: the views of a right program's terms; a rank by which each part comes behind what it needs.
-/
import Derived.Test.YtmgfakcccfahaaaGreatDoorN42
import Derived.Test.YtmgfakcccfahaaaGreatDoorN41
namespace Go.Proofs.YtmgfakcccfahaaaGreatDoor
open Go.RowKit Go.Maps
theorem gB.before{nd:List (List Nat)}{d:List Nat}(h:gB nd d):∀i∈d,∀k∈bV nd i,d.idxOf k<d.idxOf i:=by
 induction h with
 | nil=>intro i hi;cases hi
 | snoc d i _ hf _ ih=>
  intro j hj k hk
  rw[List.idxOf_append,List.idxOf_append]
  rcases List.mem_append.1 hj with hj | hj
  ·have h1:=ih j hj k hk
   have hkd:k∈d:=by
    refine Classical.byContradiction fun hn=>?_
    rw[List.idxOf_eq_length hn] at h1
    have:=List.idxOf_lt_length_of_mem hj
    omega
   rw[if_pos hkd,if_pos hj]
   exact h1
  ·obtain rfl:=List.mem_singleton.1 hj
   have hkd:=hf.2.2 k hk
   rw[if_pos hkd,if_neg hf.2.1]
   have:=List.idxOf_lt_length_of_mem hkd
   omega
def sZ(d:List Nat):List Fw→Nat→List (Nat×Ex)
 | [],_=>[]
 | x::l,i=>(d.idxOf i,x.e)::sZ d l (i+1)
def p8(p:Pg)(d:List Nat):List (Nat×Ex):=sZ d p.fs 0++(p.asserts++p.checks).map fun e=>(p.fs.length,e)
theorem Gy(d:List Nat):∀(l:List Fw) (i:Nat),(sZ d l i).map Prod.snd=l.map fun f=>f.e
 | [],i=>rfl
 | x::l,i=>by simp [sZ,Gy d l (i+1)]
theorem pY(p:Pg)(d:List Nat):(p8 p d).map Prod.snd=aI p:=by
 unfold p8 aI
 rw[List.map_append,Gy,List.map_map]
 congr 1
 exact List.map_id _
theorem Gz(d:List Nat):∀(l:List Fw) (i:Nat) (y:Nat×Ex),y∈sZ d l i→∃j f,l[j]?=some f∧y=(d.idxOf (i+j),f.e)
 | [],i,y,h=>by cases h
 | x::l,i,y,h=>by
  unfold sZ at h
  rcases List.mem_cons.1 h with rfl | h
  ·exact⟨0,x,rfl,rfl⟩
  ·obtain⟨j,f,h1,rfl⟩:=Gz d l (i+1) y h
   exact⟨j+1,f,by simpa using h1,by rw[show i+1+j=i+(j+1) from by omega]⟩
theorem GA(d:List Nat):∀(l:List Fw) (i j:Nat) (f:Fw),l[j]?=some f→(sZ d l i)[j]?=some (d.idxOf (i+j),f.e)
 | [],i,j,f,h=>by simp at h
 | x::l,i,0,f,h=>by
  obtain rfl:x=f:=by simpa using h
  rfl
 | x::l,i,j+1,f,h=>by
  unfold sZ
  rw[List.getElem?_cons_succ,GA d l (i+1) j f (by simpa using h),show i+1+j=i+(j+1) from by omega]
def rY(p:Pg)(fl:List UInt8→Option Int)(qs:List Int)(d:List Nat):Tb:=⟨(eP p fl).ps,(eP p fl).ns,(eP p fl).ks,p.ins.map Ex.n++qs,List.replicate p.ins.length 0++zZ p.fs.length (p8 p d)⟩
def uZ(p:Pg)(fl:List UInt8→Option Int)(H:Ex→Prop)(hH:∀op n s l,fA (.mk op n s l)→H (.mk op n s l)→∀x∈l,H x)(d:List Nat):Cx:=⟨fl,cK (fun _=>none) (aT p),H,hH,p.fs.length,fun s=>(mO p.fs p.fs.length s).map fun k=>d.idxOf k⟩
theorem Ea{α:Type}(z:α)(n:Nat)(B:List α)(i:Nat):(List.replicate n z++B)[n+i]?=B[i]?:=by
 rw[List.getElem?_append_right (by simp),List.length_replicate,Nat.add_sub_cancel_left]
theorem nP.CZ{p:Pg}{d:List Nat}(h:nP p d)(fl:List UInt8→Option Int)(H:Ex→Prop)(hH:∀op n s l,fA (.mk op n s l)→H (.mk op n s l)→∀x∈l,H x)(ht:∀e∈aI p,H e){ks qs:List Int}(hty:aR (cK (fun _=>none) (aT p)) (aI p)=some (ks,qs)) :
  kW (uZ p fl H hH d) (rY p fl qs d) p.ins.length 0 (p8 p d):=by
 have hm:=(uG p fl).1
 refine kW.made _ _ _ ?_ ?_ ?_ ⟨ks,qs,by rw[pY];exact hty,?_⟩ ?_ (by rw[pY];exact xY h.1) fun y hy=>?_
 ·intro i _
  rw[pY]
  show (eP p fl).ps[p.ins.length+i]?=_
  rw[hm]
  exact Ea _ _ _ _
 ·intro i _
  rw[pY]
  show (eP p fl).ns[p.ins.length+i]?=_
  rw[hm]
  show (p.ins.map Ex.op++_)[_]?=_
  rw[List.getElem?_append_right (by simp),List.length_map,Nat.add_sub_cancel_left]
 ·intro i _
  rw[pY]
  show (eP p fl).ks[0+i]?=_
  rw[hm,Nat.zero_add]
 ·intro i _
  show (p.ins.map Ex.n++qs)[_]?=_
  rw[List.getElem?_append_right (by simp),List.length_map,Nat.add_sub_cancel_left]
 ·intro i _
  exact Ea _ _ _ _
 ·have hlen:d.length=p.fs.length:=h.2.2
  unfold p8 at hy
  rcases List.mem_append.1 hy with hy | hy
  ·obtain⟨j,f,h1,rfl⟩:=Gz d _ _ _ hy
   have hj:=(bA h1).1
   have hjd:0+j∈d:=by rw[Nat.zero_add];exact h.2.1.all (by rw[nW];exact hlen) (by rw[nW];exact hj)
   have hlt:=List.idxOf_lt_length_of_mem hjd
   rw[hlen] at hlt
   refine⟨ht _ ?_,Nat.le_of_lt hlt,fun _ s hs k hk=>?_⟩
   ·unfold aI
    exact List.mem_append_left _ (List.mem_map.2 ⟨f,List.mem_of_getElem? h1,rfl⟩)
   ·obtain⟨m,hm1,rfl⟩:=Option.map_eq_some_iff.1 hk
    refine h.2.1.before _ hjd m ?_
    unfold bV dS
    rw[Nat.zero_add,List.getElem?_map,h1]
    exact List.mem_filterMap.2 ⟨s,hs,hm1⟩
  ·obtain⟨e,he,rfl⟩:=List.mem_map.1 hy
   refine⟨ht _ ?_,Nat.le_refl _,fun hl=>absurd hl (Nat.lt_irrefl _)⟩
   unfold aI
   exact List.mem_append_right _ he
theorem zG(fp:List UInt8→Option Int)(ns:List ByteArray)(ps:List Pq)(k:Nat):(oI fp ns ps)[k]?=ps[k]?.map fun q=>iA fp (pE ns k) q:=by
 unfold oI
 rw[List.getElem?_mapIdx]
theorem zH(p:Pg)(fl:List UInt8→Option Int):(dF p fl).length=p.ins.length+aC (aI p):=by
 unfold dF oI
 rw[List.length_mapIdx]
 exact(Bp p fl).1
theorem Ef{p:Pg}{kd:List UInt8→Option Int}(hk:fG (fun _=>none) (aT p)=some kd)(fl:List UInt8→Option Int){i:Nat}{v:Ex}(hv:p.ins[i]?=some v):dG (bJ p fl).2 v.op=i:=by
 have hn:=(rF hk).1
 have e:(kU p.ins 0++mU p.fs p.ins.length).map (fun v=>v.1.data.toList)=(aT p).map fun v=>v.1.data.toList:=by
  have h1:(kU p.ins 0++mU p.fs p.ins.length).map (fun v=>v.1)=(aT p).map fun v=>v.1:=by
   unfold aT jE gL
   rw[List.map_append,List.map_append,BR,Ch,List.map_map,List.map_map];rfl
  have:=congrArg (List.map fun s:ByteArray=>s.data.toList) h1
  simpa [List.map_map,Function.comp_def] using this
 rw[←e] at hn
 have hm:=F9 p.ins 0 i v hv
 have:=vT (f:=fun _=>none) hn (List.mem_append_left (mU p.fs p.ins.length) (List.mem_of_getElem? hm))
 unfold dG
 rw[(uG p fl).2.1,this]
 simp
theorem Eg{p:Pg}{kd:List UInt8→Option Int}(hk:fG (fun _=>none) (aT p)=some kd)(fl:List UInt8→Option Int){j:Nat}{y:Fw}(hy:p.fs[j]?=some y):(bU p.ins.length (p.fs.map fun f=>f.e))[j]?=some (dG (bJ p fl).2 y.name):=by
 have hn:=(rF hk).1
 have e:(kU p.ins 0++mU p.fs p.ins.length).map (fun v=>v.1.data.toList)=(aT p).map fun v=>v.1.data.toList:=by
  have h1:(kU p.ins 0++mU p.fs p.ins.length).map (fun v=>v.1)=(aT p).map fun v=>v.1:=by
   unfold aT jE gL
   rw[List.map_append,List.map_append,BR,Ch,List.map_map,List.map_map];rfl
  have:=congrArg (List.map fun s:ByteArray=>s.data.toList) h1
  simpa [List.map_map,Function.comp_def] using this
 rw[←e] at hn
 obtain⟨k,h1,h2⟩:=GD p.fs p.ins.length j y hy
 have:=vT (f:=fun _=>none) hn (List.mem_append_right (kU p.ins 0) (List.mem_of_getElem? h2))
 unfold dG
 rw[(uG p fl).2.1,this,h1]
 simp
theorem FU{p:Pg}{s:List UInt8}{k:Int}(h:cK (fun _=>none) (aT p) s=some k):(∃(i:Nat) (v:Ex),p.ins[i]?=some v∧v.op.data.toList=s)∨∃(j:Nat) (y:Fw),p.fs[j]?=some y∧y.name.data.toList=s:=by
 refine Classical.byContradiction fun hn=>?_
 rw[Ad fun v hv e=>hn ?_] at h
 ·cases h
 ·unfold aT jE gL at hv
  rcases List.mem_append.1 hv with hv | hv
  ·obtain⟨x,hx,rfl⟩:=List.mem_map.1 hv
   obtain⟨i,hi⟩:=List.mem_iff_getElem?.1 hx
   exact .inl ⟨i,x,hi,e⟩
  ·obtain⟨x,hx,rfl⟩:=List.mem_map.1 hv
   obtain⟨i,hi⟩:=List.mem_iff_getElem?.1 hx
   exact .inr ⟨i,x,hi,e⟩
theorem EP{α:Type}{l:List α}(h:l.Nodup){i j:Nat}{x:α}(hi:l[i]?=some x)(hj:l[j]?=some x):i=j:=by
 rw[List.nodup_iff_pairwise_ne,List.pairwise_iff_getElem] at h
 obtain⟨h1,e1⟩:=bA hi
 obtain⟨h2,e2⟩:=bA hj
 rcases Nat.lt_trichotomy i j with h3 | h3 | h3
 ·exact absurd (e1.trans e2.symm) (h i j h1 h2 h3)
 ·exact h3
 ·exact absurd (e2.trans e1.symm) (h j i h2 h1 h3)
theorem Na{p:Pg}{kd:List UInt8→Option Int}(hk:fG (fun _=>none) (aT p)=some kd){j:Nat}{y:Fw}(hy:p.fs[j]?=some y):mO p.fs p.fs.length y.name.data.toList=some j:=by
 have hn:=(rF hk).1
 unfold aT at hn
 rw[List.map_append,List.nodup_append] at hn
 have hnf:=hn.2.1
 unfold gL at hnf
 rw[List.map_map] at hnf
 have key:∀m,j<m→m≤p.fs.length→mO p.fs m y.name.data.toList=some j:=by
  intro m
  induction m with
  | zero=>intro h;omega
  | succ m ih=>
   intro h1 h2
   have hx:p.fs[m]?=some p.fs[m]:=List.getElem?_eq_getElem (by omega)
   unfold mO
   rw[hx]
   simp only
   by_cases e:j=m
   ·subst e
    rw[hy] at hx
    obtain rfl:=Option.some.inj hx
    rw[if_pos rfl]
   ·rw[if_neg,ih (by omega) (by omega)]
    intro hs
    refine e (EP hnf (i:=j) (j:=m) (x:=y.name.data.toList) ?_ ?_)
    ·rw[List.getElem?_map,hy];rfl
    ·rw[List.getElem?_map,hx];exact congrArg some hs.symm
 exact key _ (bA hy).1 (Nat.le_refl _)
theorem Ex.eta(e:Ex):∃op n s l,e=.mk op n s l:=by cases e;exact⟨_,_,_,_,rfl⟩
theorem Bh(fp:List UInt8→Option Int)(s:ByteArray)(q:Pq):(iA fp s q).op=q.op∧(iA fp s q).n=q.n∧(iA fp s q).mem=q.mem∧(iA fp s q).kind=q.kind∧(iA fp s q).late=q.late∧(q.op.data.toList=bS→(iA fp s q).aF=[dG fp s])∧(q.op.data.toList≠bS→(iA fp s q).aF=q.aF):=by
 unfold iA
 by_cases h:q.op.data.toList=bS
 ·rw[if_pos h]
  exact⟨rfl,rfl,rfl,rfl,rfl,fun _=>rfl,fun hn=>absurd h hn⟩
 ·rw[if_neg h]
  exact⟨rfl,rfl,rfl,rfl,rfl,fun hn=>absurd hn h,fun _=>rfl⟩
theorem BB(fl:List UInt8→Option Int)(b c:Nat)(op:ByteArray)(n:Int)(s:ByteArray)(l:List Ex):(kQ fl b c op n s l).op=op∧(kQ fl b c op n s l).aF=bU b l:=by unfold kQ;split<;>exact⟨rfl,rfl⟩
structure Rj(x:Cx)(t:Tb)(fp:List UInt8→Option Int)(ps:List Pq)(j:Nat)(a b c:Nat)(op:ByteArray)(n:Int)(s:ByteArray)(l:List Ex)(q:Pq):Prop where
 vw:Vw x t a b c (.mk op n s l)
 ej:j=b+aC l
 at':ps[j]?=some q
 is:q=iA fp s (kQ x.fl b c op n s l)
theorem kW.part{p:Pg}{d:List Nat}{fl:List UInt8→Option Int}{H:Ex→Prop}{hH:∀op n s l,fA (.mk op n s l)→H (.mk op n s l)→∀x∈l,H x}{qs:List Int}(h:kW (uZ p fl H hH d) (rY p fl qs d) p.ins.length 0 (p8 p d)){j:Nat}(h1:p.ins.length≤j)(h2:j<p.ins.length+aC (aI p)) :
  ∃a b c op n s l q,Rj (uZ p fl H hH d) (rY p fl qs d) (bJ p fl).2 (dF p fl) j a b c op n s l q:=by
 obtain⟨a,b,c,e,hv,hj,_⟩:=h.all j h1 (by rw[pY];exact h2)
 obtain⟨op,n,s,l⟩:=e
 have hz:aL (.mk op n s l)=aC l+1:=by unfold aL;rfl
 have hr:=hv.root
 have ej:j=b+aC l:=by omega
 refine⟨a,b,c,op,n,s,l,_,hv,ej,?_,rfl⟩
 unfold dF
 rw[zG,ej]
 have hp:(eP p fl).ps[b+aC l]?=_:=hr.rp
 have hn:(eP p fl).ns[b+aC l]?=_:=hr.rn
 rw[hp]
 unfold pE
 rw[hn]
 rfl
theorem Bo{p:Pg}(fl:List UInt8→Option Int){j:Nat}(h:j<p.ins.length):(dF p fl)[j]?=some mP:=by
 unfold dF
 rw[zG,(uG p fl).1]
 show ((List.replicate p.ins.length mP++_)[j]?).map _=_
 rw[List.getElem?_append_left (by simpa using h),List.getElem?_replicate,if_pos h]
 rfl
theorem kE.off{x:Cx}{t:Tb}{a b c:Nat}{l:List Ex}(h:kE x t a b c l){n:Nat}(hn:n∈bU b l):∃(i:Nat) (e:Ex) (b' c':Nat),l[i]?=some e∧(bU b l)[i]?=some n∧Vw x t a b' c' e∧n+1=b'+aL e∧b≤n∧n<b+aC l∧t.lv[n]?=some a:=by
 obtain⟨i,hi⟩:=List.mem_iff_getElem?.1 hn
 have hlt:=(bA hi).1
 rw[oK] at hlt
 obtain⟨b',c',h1,h2,h3,h4,_⟩:=h.at (qK hlt)
 rw[hi] at h2
 obtain rfl:=Option.some.inj h2
 have hp:=xE l[i]
 refine⟨i,l[i],b',c',List.getElem?_eq_getElem hlt,hi,h1,by omega,by omega,by omega,?_⟩
 obtain⟨op,m,s,l',he⟩:=l[i].eta
 rw[he] at h1 hp ⊢
 have hz:aL (.mk op m s l')=aC l'+1:=by unfold aL;rfl
 rw[show b'+aL (Ex.mk op m s l')-1=b'+aC l' from by omega]
 exact h1.root.rl
theorem Lj{a' a n x M:Nat}(h:a'<a)(hn:n<M):a'*M+n<a*M+x:=by
 have:(a'+1)*M≤a*M:=Nat.mul_le_mul_right M h
 rw[Nat.succ_mul] at this
 omega
theorem Vw.flow{p:Pg}{d:List Nat}{kd:List UInt8→Option Int}(hk:fG (fun _=>none) (aT p)=some kd){fl:List UInt8→Option Int}{H:Ex→Prop}{hH:∀op n s l,fA (.mk op n s l)→H (.mk op n s l)→∀x∈l,H x}{qs:List Int}(hv:kW (uZ p fl H hH d) (rY p fl qs d) p.ins.length 0 (p8 p d))
  {j:Nat} {y:Fw} (hy:p.fs[j]?=some y):∃b' c',Vw (uZ p fl H hH d) (rY p fl qs d) (d.idxOf j) b' c' y.e∧dG (bJ p fl).2 y.name+1=b'+aL y.e∧p.ins.length≤b'∧b'+aL y.e≤p.ins.length+aC (aI p):=by
 have hm:(p8 p d)[j]?=some (d.idxOf j,y.e):=by
  have:=GA d p.fs 0 j y hy
  rw[Nat.zero_add] at this
  unfold p8
  rw[List.getElem?_append_left (bA this).1]
  exact this
 obtain⟨b',c',h1,h2,h3,h4⟩:=hv.at hm
 rw[pY] at h2 h4
 have h5:=Eg hk fl hy
 have hl:j<(bU p.ins.length (p.fs.map fun f=>f.e)).length:=(bA h5).1
 unfold aI at h2
 rw[xJ,List.getElem?_append_left hl,h5] at h2
 have:=Option.some.inj h2
 have hp:=xE y.e
 refine⟨b',c',h1,?_,h3,h4⟩
 show _=b'+aL y.e
 simp only at this
 omega
theorem nP.rank{p:Pg}{d:List Nat}(h:nP p d)(fl:List UInt8→Option Int):∃rk,tJ (dF p fl) rk:=by
 obtain⟨kd,hk,_,_,_,_,_,qs,hty⟩:=uW h.1
 obtain rfl:=xQ hk
 have hv:=h.CZ fl (fun _=>True) (fun _ _ _ _ _ _ _ _=>trivial) (fun _ _=>trivial) hty
 obtain⟨t,ht⟩:∃t,t=rY p fl qs d:=⟨_,rfl⟩
 have hpl:=zH p fl
 have hlv:∀n,n<p.ins.length→t.lv[n]?=some 0:=fun n hn=>by
  rw[ht]
  show (List.replicate p.ins.length 0++_)[n]?=_
  rw[List.getElem?_append_left (by simpa using hn),List.getElem?_replicate,if_pos hn]
 have main:∀x q,(dF p fl)[x]?=some q→(∀n∈dI q,n<(dF p fl).length∧(t.lv[n]?.getD 0)*((dF p fl).length+1)+n<(t.lv[x]?.getD 0)*((dF p fl).length+1)+x)∧(q.op.data.toList=bQ→0<q.aF.length):=by
  intro x q hq
  have hxl:=(bA hq).1
  by_cases hx:x<p.ins.length
  ·rw[Bo fl hx] at hq
   obtain rfl:=Option.some.inj hq
   exact⟨fun n hn=>(by have h0:n∈([]:List Nat):=hn;cases h0),fun e=>absurd e (by decide)⟩
  ·obtain⟨a,b,c,op,m,s,l,q',hp⟩:=hv.part (j:=x) (by omega) (by omega)
   have hvw:=hp.vw
   have hj:=hp.ej
   have hq':=hp.at'
   have his:=hp.is
   rw[←ht] at hvw
   rw[hq] at hq'
   obtain rfl:=Option.some.inj hq'
   have hkeep:=Bh (bJ p fl).2 s (kQ (uZ p fl (fun _=>True) (fun _ _ _ _ _ _ _ _=>trivial) d).fl b c op m s l)
   rw[←his,(BB _ b c op m s l).1,(BB _ b c op m s l).2] at hkeep
   obtain⟨k1,_,_,_,_,k6,k7⟩:=hkeep
   have hlx:t.lv[x]?=some a:=by rw[hj];exact hvw.root.rl
   rw[hlx,Option.getD_some]
   have hsame:∀n,n<x→t.lv[n]?=some a→n<(dF p fl).length∧(t.lv[n]?.getD 0)*((dF p fl).length+1)+n<a*((dF p fl).length+1)+x:=fun n h1 h2=>by
    rw[h2,Option.getD_some]
    omega
   by_cases hnm:op.data.toList=bS
   ·have hn1:op.data.toList≠dD:=fun e=>by rw[hnm] at e;exact absurd e (by decide)
    have hn2:op.data.toList≠bQ:=fun e=>by rw[hnm] at e;exact absurd e (by decide)
    refine⟨fun n hn=>?_,fun e=>absurd (k1 ▸ e) hn2⟩
    unfold dI at hn
    rw[k1,if_neg hn1,if_neg hn2,k6 hnm] at hn
    obtain rfl:=List.mem_singleton.1 hn
    obtain⟨_,_,hkt,_⟩:=hvw.root.rt
    unfold cO at hkt
    rw[if_pos hnm] at hkt
    obtain⟨k0,hk0,_⟩:=Option.map_eq_some_iff.1 hkt
    rcases FU hk0 with⟨i,v,hv1,hv2⟩ | ⟨i,y,hy1,hy2⟩
    ·have e:dG (bJ p fl).2 s=i:=by
      rw[←Ef hk fl hv1]
      unfold dG
      rw[hv2]
     have hi:=(bA hv1).1
     rw[e,hlv i hi,Option.getD_some]
     omega
    ·obtain⟨b',c',f1,f2,f3,f4⟩:=Vw.flow hk hv hy1
     rw[←ht] at f1
     have e:dG (bJ p fl).2 s=dG (bJ p fl).2 y.name:=by unfold dG;rw[hy2]
     obtain⟨r,hr⟩:∃r,r=dG (bJ p fl).2 y.name:=⟨_,rfl⟩
     rw[e,←hr]
     rw[←hr] at f2
     have hlr:t.lv[r]?=some (d.idxOf i):=by
      obtain⟨op2,n2,s2,l2,he⟩:=y.e.eta
      rw[he] at f1 f2
      have hz:aL (.mk op2 n2 s2 l2)=aC l2+1:=by unfold aL;rfl
      rw[show r=b'+aC l2 from by omega]
      exact f1.root.rl
     have hia:d.idxOf i<a:=by
      have hil:=(bA hy1).1
      by_cases hN:a<p.fs.length
      ·refine hvw.on hN s.data.toList ?_ (d.idxOf i) ?_
       ·unfold onE
        rw[if_pos hnm]
        simp
       ·show (mO p.fs p.fs.length s.data.toList).map _=_
        rw[←hy2,Na hk hy1]
        rfl
      ·have hid:i∈d:=h.2.1.all (by rw[nW];exact h.2.2) (by rw[nW];exact hil)
       have:=List.idxOf_lt_length_of_mem hid
       have:=h.2.2
       omega
     rw[hlr,Option.getD_some]
     exact⟨by omega,Lj hia (by omega)⟩
   ·have hof:=k7 hnm
    by_cases hf:op.data.toList=bQ
    ·obtain⟨e0,e1,rfl,v0,_⟩:=hvw.xP hf
     have hn1:op.data.toList≠dD:=fun e=>by rw[hf] at e;exact absurd e (by decide)
     refine⟨fun n hn=>?_,fun _=>by rw[hof,oK];exact Nat.zero_lt_succ _⟩
     unfold dI at hn
     rw[k1,if_neg hn1,if_pos hf,hof] at hn
     have hn':n=b+aL e0-1:=by simpa [bU] using hn
     obtain⟨op2,n2,s2,l2,he⟩:=e0.eta
     have hs:aC [e0,e1]=aL e0+aL e1:=by simp [aC]
     rw[he] at v0 hn' hs hj
     have hz:aL (.mk op2 n2 s2 l2)=aC l2+1:=by unfold aL;rfl
     have hp1:=xE e1
     have hr:=v0.root.rl
     rw[show b+aC l2=n from by omega] at hr
     rw[hs] at hj
     exact hsame n (by omega) hr
    ·refine⟨fun n hn=>?_,fun e=>absurd (k1 ▸ e) hf⟩
     unfold dI at hn
     by_cases hpr:op.data.toList=dD
     ·rw[k1,if_pos hpr] at hn;cases hn
     ·rw[k1,if_neg hpr,if_neg hf,hof] at hn
      have hkids:=hvw.kids hf
      rw[if_neg hpr] at hkids
      obtain⟨_,_,_,_,_,_,_,_,_,h5,h6⟩:=hkids.off hn
      exact hsame n (by omega) h6
 refine⟨fun x=>(t.lv[x]?.getD 0)*((dF p fl).length+1)+x,⟨fun x n hn=>?_,fun x q hq hf=>(main x q hq).2 hf⟩⟩
 unfold dY at hn
 cases hq:(dF p fl)[x]? with
 | none=>rw[hq] at hn;cases hn
 | some q=>rw[hq] at hn;exact(main x q hq).1 n hn
theorem FB:∀(l:List Nat) (a:Nat),a≤l.foldl Nat.max a∧∀x∈l,x≤l.foldl Nat.max a
 | [],a=>⟨Nat.le_refl _,fun x h=>by cases h⟩
 | y::l,a=>by
  have h:=FB l (Nat.max a y)
  rw[List.foldl_cons]
  refine⟨Nat.le_trans (Nat.le_max_left _ _) h.1,fun x hx=>?_⟩
  rcases List.mem_cons.1 hx with rfl | hx
  ·exact Nat.le_trans (Nat.le_max_right _ _) h.1
  ·exact h.2 x hx
theorem wC{l:List Ex}(h:l.length=2):∃a b,l=[a,b]:=match l,h with | [a,b],_=>⟨a,b,rfl⟩
theorem any_max:∀(l:List Nat) (a:Nat),decide (0<l.foldl Nat.max a)=(decide (0<a)||(l.map fun n=>decide (0<n)).any id)
 | [],a=>by rw[Bool.eq_iff_iff];simp;exact⟨of_decide_eq_true,fun h=>decide_eq_true h⟩
 | y::l,a=>by
  rw[List.foldl_cons,any_max l,List.map_cons,List.any_cons,←Bool.or_assoc]
  congr 1
  have:(0<Nat.max a y) ↔ (0<a∨0<y):=by
   show (0<max a y) ↔ _
   omega
  simp [this]
theorem FO{f:List UInt8→Nat}(hf:∀s,f s≤2){op:ByteArray}{n:Int}{s:ByteArray}{l:List Ex}(ha:fA (.mk op n s l))(h:bH f (.mk op n s l)≠2):∀x∈l,bH f x≠2:=by
 unfold fA at ha
 rw[sN] at h
 intro x hx
 by_cases h1:op.data.toList=bS
 ·have h0:=ha.1 h1
  rw[List.length_eq_zero_iff.1 h0] at hx;cases hx
 rw[if_neg h1] at h
 by_cases h2:op.data.toList=dD
 ·rw[if_pos h2] at h
  obtain⟨e0,rfl⟩:=List.length_eq_one_iff.1 (ha.2.1 h2)
  obtain rfl:=List.mem_singleton.1 hx
  simp only[dN,List.getElem?_cons_zero,Option.getD_some] at h
  unfold jM at h
  split at h<;>omega
 rw[if_neg h2] at h
 by_cases h3:op.data.toList=fV
 ·rw[if_pos h3] at h
  obtain⟨e0,e1,rfl⟩:=wC (ha.2.2.1 h3)
  simp only[dN,List.getElem?_cons_zero,List.getElem?_cons_succ,Option.getD_some] at h
  unfold kD at h
  rcases List.mem_cons.1 hx with rfl | hx
  ·split at h<;>omega
  ·obtain rfl:=List.mem_singleton.1 hx
   split at h<;>omega
 rw[if_neg h3] at h
 by_cases h4:op.data.toList=bQ
 ·rw[if_pos h4] at h
  obtain⟨e0,e1,rfl⟩:=wC (ha.2.2.2.1 h4)
  simp only[dN,List.getElem?_cons_zero,List.getElem?_cons_succ,Option.getD_some] at h
  unfold kD jM at h
  by_cases hc:bH f e1+1<2
  ·rw[if_pos hc] at h
   rcases List.mem_cons.1 hx with rfl | hx
   ·split at h<;>omega
   ·obtain rfl:=List.mem_singleton.1 hx
    omega
  ·rw[if_neg hc,if_pos rfl] at h
   exact absurd rfl h
 rw[if_neg h4] at h
 have hm:=(FB (dN f l) 0).2 (bH f x) (by rw[sM];exact List.mem_map_of_mem hx)
 have hl:=Cb (k:=2) (dN f l) 0 (by omega) (fun y hy=>by
  rw[sM] at hy
  obtain⟨z,_,rfl⟩:=List.mem_map.1 hy
  exact uO hf z)
 omega
theorem Oj{f:List UInt8→Nat}{op:ByteArray}{n:Int}{s:ByteArray}{l:List Ex}(ha:fA (.mk op n s l))(hk:gI op=true)(h:bH f (.mk op n s l)≠2):(∃e0,l=[e0]∧op.data.toList=dD∧bH f e0=0)∨∃e0 e1,l=[e0,e1]∧op.data.toList=bQ∧bH f e1=0:=by
 unfold fA at ha
 rw[sN] at h
 have h5:¬dD=bS:=by decide
 have h6:¬bQ=bS:=by decide
 have h7:¬bQ=dD:=by decide
 have h8:¬bQ=fV:=by decide
 rcases (Ac op).2 hk with h2 | h4
 ·rw[if_neg (by rw[h2];exact h5),if_pos h2] at h
  obtain⟨e0,rfl⟩:=List.length_eq_one_iff.1 (ha.2.1 h2)
  simp only[dN,List.getElem?_cons_zero,Option.getD_some] at h
  refine .inl ⟨e0,rfl,h2,?_⟩
  unfold jM at h
  split at h<;>omega
 ·rw[if_neg (by rw[h4];exact h6),if_neg (by rw[h4];exact h7),if_neg (by rw[h4];exact h8),if_pos h4] at h
  obtain⟨e0,e1,rfl⟩:=wC (ha.2.2.2.1 h4)
  simp only[dN,List.getElem?_cons_zero,List.getElem?_cons_succ,Option.getD_some] at h
  refine .inr ⟨e0,e1,rfl,h4,?_⟩
  unfold kD jM at h
  by_cases hc:bH f e1+1<2
  ·omega
  ·rw[if_neg hc,if_pos rfl] at h
   exact absurd rfl h
mutual
theorem FL{fl:List UInt8→Option Int}{f:List UInt8→Nat}(hfl:∀s,(fl s).getD 0=(f s:Int))(hf:∀s,f s≤2):∀e:Ex,fA e→bH f e≠2→jS fl e=decide (0<bH f e)
 | .mk op n s l,ha,h2=>by
  have hl:=FK hfl hf l (by unfold fA at ha;exact ha.2.2.2.2) (FO hf ha h2)
  unfold fA at ha
  rw[sN] at h2 ⊢
  unfold jS
  by_cases c1:op.data.toList=bS
  ·rw[if_pos c1,if_pos c1,hfl]
   simp
  rw[if_neg c1] at h2 ⊢
  rw[if_neg c1]
  by_cases c2:op.data.toList=dD
  ·rw[if_pos c2,if_pos c2]
   unfold jM
   split<;>simp
  rw[if_neg c2] at h2 ⊢
  rw[if_neg c2]
  by_cases c3:op.data.toList=fV
  ·rw[if_pos (.inl c3),if_pos c3]
   rw[if_pos c3] at h2
   obtain⟨e0,e1,rfl⟩:=wC (ha.2.2.1 c3)
   rw[hl]
   simp only[dN,List.getElem?_cons_zero,List.getElem?_cons_succ,Option.getD_some,List.map_cons,List.take_succ_cons,List.take_zero,List.any_cons,List.any_nil,Bool.or_false,id] at h2 ⊢
   unfold kD at h2 ⊢
   split
   ·rename_i hc;rw[if_pos hc] at h2;exact absurd rfl h2
   ·rfl
  rw[if_neg c3] at h2 ⊢
  by_cases c4:op.data.toList=bQ
  ·rw[if_pos (.inr c4),if_pos c4]
   rw[if_pos c4] at h2
   obtain⟨e0,e1,rfl⟩:=wC (ha.2.2.2.1 c4)
   rw[hl]
   simp only[dN,List.getElem?_cons_zero,List.getElem?_cons_succ,Option.getD_some,List.map_cons,List.take_succ_cons,List.take_zero,List.any_cons,List.any_nil,Bool.or_false,id] at h2 ⊢
   unfold kD at h2 ⊢
   split
   ·rename_i hc;rw[if_pos hc] at h2;exact absurd rfl h2
   ·rfl
  rw[if_neg c4] at h2 ⊢
  rw[if_neg (fun h=>h.elim c3 c4),hl,any_max]
  simp
theorem FK{fl:List UInt8→Option Int}{f:List UInt8→Nat}(hfl:∀s,(fl s).getD 0=(f s:Int))(hf:∀s,f s≤2):∀l:List Ex,eT l→(∀x∈l,bH f x≠2)→nH fl l=(dN f l).map fun n=>decide (0<n)
 | [],_,_=>by simp [nH,dN]
 | e::es,ha,h2=>by
  unfold eT at ha
  unfold nH dN
  rw[FL hfl hf e ha.1 (h2 e List.mem_cons_self),FK hfl hf es ha.2 fun x hx=>h2 x (List.mem_cons_of_mem _ hx)]
  rfl
end
theorem kZ.eq{fs:List Fw}{f:List UInt8→Nat}(h:kZ fs f)(hn:(fs.map fun y=>y.name.data.toList).Nodup){x:Fw}(hx:x∈fs):f x.name.data.toList=bH f x.e:=by
 refine Nat.le_antisymm ?_ (h.1.2 x hx)
 have hle:∀s,j5 f x.name.data.toList (bH f x.e) s≤f s:=fun s=>by
  unfold j5
  split
  ·rename_i e;rw[e];exact h.1.2 x hx
  ·exact Nat.le_refl _
 have hg:u7 fs (j5 f x.name.data.toList (bH f x.e)):=by
  refine⟨fun s=>Nat.le_trans (hle s) (h.1.1 s),fun y hy=>Nat.le_trans (Ab hle h.1.1 y.e) ?_⟩
  unfold j5
  split
  ·rename_i e
   obtain⟨i,hi⟩:=List.mem_iff_getElem?.1 hy
   obtain⟨j,hj⟩:=List.mem_iff_getElem?.1 hx
   have e1:(fs.map fun y=>y.name.data.toList)[i]?=some x.name.data.toList:=by rw[List.getElem?_map,hi,←e];rfl
   have e2:(fs.map fun y=>y.name.data.toList)[j]?=some x.name.data.toList:=by rw[List.getElem?_map,hj];rfl
   have:=EP hn e1 e2
   rw[this,hj] at hi
   rw[Option.some.inj hi]
   exact Nat.le_refl _
  ·exact h.1.2 y hy
 have:=h.2 _ hg x.name.data.toList
 unfold j5 at this
 rwa [if_pos rfl] at this
theorem kZ.zero{fs:List Fw}{f:List UInt8→Nat}(h:kZ fs f){s:List UInt8}(hs:∀x∈fs,x.name.data.toList≠s):f s=0:=by
 have hle:∀t,j5 f s 0 t≤f t:=fun t=>by
  unfold j5
  split
  ·exact Nat.zero_le _
  ·exact Nat.le_refl _
 have hg:u7 fs (j5 f s 0):=by
  refine⟨fun t=>Nat.le_trans (hle t) (h.1.1 t),fun y hy=>Nat.le_trans (Ab hle h.1.1 y.e) ?_⟩
  unfold j5
  rw[if_neg (hs y hy)]
  exact h.1.2 y hy
 have:=h.2 _ hg s
 unfold j5 at this
 rw[if_pos rfl] at this
 omega
def sK(f:List UInt8→Nat)(l:List Fw):List (ByteArray×Int):=l.map fun x=>(x.name,(f x.name.data.toList:Int))
theorem FI(p:Pg)(f:List UInt8→Nat):∀j,j≤p.fs.length→nX p.fs (nE p f) j=cK (fun _=>none) (sK f (p.fs.take j))
 | 0,_=>by simp [nX,sK,cK]
 | j+1,hj=>by
  have hx:p.fs[j]?=some p.fs[j]:=List.getElem?_eq_getElem (by omega)
  rw[←FH hx,FI p f j (by omega)]
  have e:sK f (p.fs.take (j+1))=sK f (p.fs.take j)++[(p.fs[j].name,nE p f j)]:=by
   have e2:nE p f j=(f p.fs[j].name.data.toList:Int):=by unfold nE;rw[hx]
   rw[e2,sK,List.take_add_one,hx,List.map_append]
   rfl
  rw[e,BM]
  rfl
theorem Oe{p:Pg}{kd:List UInt8→Option Int}(hk:fG (fun _=>none) (aT p)=some kd){f:List UInt8→Nat}(h:kZ p.fs f)(s:List UInt8):(aM p f s).getD 0=(f s:Int):=by
 have hn:=(rF hk).1
 unfold aT at hn
 rw[List.map_append,List.nodup_append] at hn
 have hn2:((sK f p.fs).map fun v=>v.1.data.toList).Nodup:=by
  have e:((sK f p.fs).map fun v=>v.1.data.toList)=(gL p.fs).map fun v=>v.1.data.toList:=by simp [sK,gL]
  rw[e];exact hn.2.1
 unfold aM
 rw[FI p f _ (Nat.le_refl _),List.take_length]
 by_cases hs:∃x∈p.fs,x.name.data.toList=s
 ·obtain⟨x,hx,rfl⟩:=hs
  rw[vT (v:=(x.name,(f x.name.data.toList:Int))) hn2 (List.mem_map.2 ⟨x,hx,rfl⟩)]
  rfl
 ·have hs':∀x∈p.fs,x.name.data.toList≠s:=fun x hx e=>hs ⟨x,hx,e⟩
  rw[Ad fun v hv=>by
   obtain⟨x,hx,rfl⟩:=List.mem_map.1 hv
   exact hs' x hx,h.zero hs']
  rfl
theorem EZ{p:Pg}{kd:List UInt8→Option Int}(hk:fG (fun _=>none) (aT p)=some kd):(p.fs.map fun y=>y.name.data.toList).Nodup:=by
 have hn:=(rF hk).1
 unfold aT at hn
 rw[List.map_append,List.nodup_append] at hn
 have e:(gL p.fs).map (fun v=>v.1.data.toList)=p.fs.map fun y=>y.name.data.toList:=by simp [gL]
 rw[←e];exact hn.2.1
mutual
theorem NC:∀e:Ex,dZ e≤aL e
 | .mk op n s l=>by have:=BG l;unfold dZ aL;cases gI op<;>simp<;>omega
theorem BG:∀l:List Ex,bO l≤aC l
 | []=>by simp [bO]
 | e::l=>by have:=NC e;have:=BG l;unfold bO aC;omega
end
theorem Bb:∀l:List Ex,l.length≤aC l
 | []=>by simp
 | e::l=>by have:=xE e;have:=Bb l;unfold aC;rw[List.length_cons];omega
mutual
theorem Og:∀(e:Ex) (b:Nat),(nI b e).length=dZ e
 | .mk op n s l,b=>by unfold nI dZ;rw[List.length_append,BL l b];cases gI op<;>rfl
theorem BL:∀(l:List Ex) (b:Nat),(gQ b l).length=bO l
 | [],b=>by simp [gQ,bO]
 | e::l,b=>by unfold gQ bO;rw[List.length_append,Og e b,BL l]
end
theorem EI:∀{l:List Ex} {f g:List UInt8→Option Int},(∀s n,f s=some n→0≤n)→lD f l=some g→∀e∈l,∃n,f e.op.data.toList=some n∧n≤0
 | [],f,g,_,_=>fun e he=>by cases he
 | x::l,f,g,hf,h=>by
  unfold lD at h
  cases h1:f x.op.data.toList with
  | none=>rw[h1] at h;cases h
  | some n=>
   rw[h1] at h
   simp only at h
   split at h
   ·cases h
   ·rename_i hn
    have h0:=hf _ _ h1
    intro e he
    rcases List.mem_cons.1 he with rfl | he
    ·exact⟨n,h1,by omega⟩
    obtain⟨m,h2,h3⟩:=EI (f:=bI f (x.op,n+1)) (fun s m hm=>by
     unfold bI at hm
     split at hm
     ·have:=Option.some.inj hm;simp only at this;omega
     ·exact hf s m hm) h e he
    unfold bI at h2
    split at h2
    ·have:=Option.some.inj h2;simp only at this;omega
    ·exact⟨m,h2,h3⟩
theorem A8:∀{l:List Fw} {f:List UInt8→Option Int} {s:List UInt8} {n:Int},mH f l s=some n→(∃x∈l,x.name.data.toList=s∧n=0)∨f s=some n
 | [],f,s,n,h=>.inr h
 | x::l,f,s,n,h=>by
  unfold mH at h
  rcases A8 h with⟨y,hy,e⟩ | h1
  ·exact .inl ⟨y,List.mem_cons_of_mem _ hy,e⟩
  ·unfold bI at h1
   split at h1
   ·rename_i e
    have:=Option.some.inj h1
    simp only at this
    exact .inl ⟨x,List.mem_cons_self,e.symm,this.symm⟩
   ·exact .inr h1
theorem L9{p:Pg}(h:mM p=true){e:Ex}(he:e∈p.outs):∃x∈p.fs,x.name.data.toList=e.op.data.toList:=by
 unfold mM at h
 obtain⟨g,hg⟩:=Option.isSome_iff_exists.1 h
 obtain⟨n,h1,_⟩:=EI (fun s n hn=>by
  rcases A8 hn with⟨_,_,_,e⟩ | h1
  ·omega
  ·cases h1) hg e he
 rcases A8 h1 with⟨x,hx,e1,_⟩ | h1
 ·exact⟨x,hx,e1⟩
 ·cases h1
structure PV(X:Cx)(T:Tb)(fp:List UInt8→Option Int)(x:Nat)(a b c:Nat)(op:ByteArray)(n:Int)(s:ByteArray)(l:List Ex)(k:Int)(qq:List Int)(pt:Pq):Prop where
 vw:Vw X T a b c (.mk op n s l)
 ex:x=b+aC l
 ty:cO X.kd (.mk op n s l)=some (k,qq)
 op':pt.op=op
 n':pt.n=if gI op=true then n else if op.data.toList=oM then 1 else n
 aF:pt.aF=if op.data.toList=bS then [dG fp s] else bU b l
 mem:pt.mem=if gI op=true then ((c+bO l:Nat):Int) else 0
 kind:pt.kind=k
 late:pt.late=jS X.fl (.mk op n s l)
section
variable {p:Pg} {d:List Nat} {f:List UInt8→Nat} {ts:List Nat} {qs:List Int}
def vV(kd:List UInt8→Option Int)(f:List UInt8→Nat)(e:Ex):Prop:=bH f e≠2∧iI kd e=true
theorem O3(kd:List UInt8→Option Int){f:List UInt8→Nat}(hf:∀s,f s≤2):∀op n s l,fA (.mk op n s l)→vV kd f (.mk op n s l)→∀x∈l,vV kd f x:=fun op n s l ha h x hx=>by
 refine⟨FO hf ha h.1 x hx,?_⟩
 have:=h.2
 unfold iI at this
 rw[Bool.and_eq_true] at this
 exact Gv this.2 hx
structure eX(p:Pg)(d:List Nat)(f:List UInt8→Nat)(ts:List Nat)(qs:List Int)(X:Cx)(T:Tb):Prop where
 rt:oO p d f
 kd:fG (fun _=>none) (aT p)=some X.kd
 vs:kW X T p.ins.length 0 (p8 p d)
 fl:X.fl=aM p f
 tb:T=rY p (aM p f) qs d
 H:X.H=vV X.kd f
 hl:∀s,(X.fl s).getD 0=(f s:Int)
 fm:eD X.kd (aI p)=true
 ob:mM p=true
 li:p.ins.length≤30∧p.fs.length≤400∧aC (aI p)≤4000
 ty:aR X.kd (aI p)=some (fT p,qs)
 kX:∀s k,X.kd s=some k→k=1∨k=2
theorem FT:∀{l:List (ByteArray×Int)} {g:List UInt8→Option Int},(∀v∈l,v.2=1∨v.2=2)→(∀s k,g s=some k→k=1∨k=2)→∀s k,cK g l s=some k→k=1∨k=2
 | [],g,_,hg,s,k,h=>hg s k h
 | v::l,g,hl,hg,s,k,h=>by
  refine FT (l:=l) (g:=bI g v) (fun u hu=>hl u (List.mem_cons_of_mem _ hu)) (fun t k ht=>?_) s k h
  unfold bI at ht
  split at ht
  ·have:=Option.some.inj ht
   rw[←this]
   exact hl v List.mem_cons_self
  ·exact hg t k ht
theorem oO.Ll(h:oO p d f)(hty:aR (cK (fun _=>none) (aT p)) (aI p)=some (fT p,qs)):∃X T,eX p d f ts qs X T:=by
 obtain⟨kd,hk,ho,hfm,l1,l2,l3,qs0,hty0⟩:=uW h.ord.1
 obtain rfl:=xQ hk
 have hf:=h.lt.1.1
 have hH:=O3 (cK (fun _=>none) (aT p)) hf
 have hn:=EZ hk
 have hall:∀e∈aI p,vV (cK (fun _=>none) (aT p)) f e:=fun e he=>by
  refine⟨?_,Gv hfm he⟩
  unfold aI at he
  rcases List.mem_append.1 he with he | he
  ·obtain⟨x,hx,rfl⟩:=List.mem_map.1 he
   obtain⟨j,hj⟩:=List.mem_iff_getElem?.1 hx
   have hb:=h.out j x hj
   unfold lJ at hb
   rw[Bool.or_eq_false_iff] at hb
   rw[←h.lt.eq hn hx]
   simpa using hb.1
  ·rw[h.ask e he];decide
 exact⟨uZ p (aM p f) (vV (cK (fun _=>none) (aT p)) f) hH d,rY p (aM p f) qs d,h,hk,h.ord.CZ (aM p f) _ hH hall hty,rfl,rfl,rfl,fun s=>Oe hk h.lt s,hfm,ho,⟨l1,l2,l3⟩,hty,FT (fun v hv=>((rF hk).2 v hv).2) (fun s k hs=>by cases hs)⟩
variable {X:Cx} {T:Tb}
theorem eX.root(h:eX p d f ts qs X T){a b c:Nat}{e:Ex}(hv:Vw X T a b c e):∃k qq,cO X.kd e=some (k,qq)∧b+aL e-1<(bE p (aM p f) ts qs).ps.length∧bK (bE p (aM p f) ts qs).ps (b+aL e-1)=k∧gH (bE p (aM p f) ts qs).ps (b+aL e-1)=jS X.fl e:=by
 obtain⟨op,n,s,l⟩:=e
 have hr:=hv.root
 have hz:aL (.mk op n s l)=aC l+1:=by unfold aL;rfl
 rw[show b+aL (.mk op n s l)-1=b+aC l from by omega]
 obtain⟨k,qq,h1,h2⟩:=hr.rt
 have hp:=hr.rp
 rw[h.tb] at hp h2
 have h2':(p.ins.map Ex.n++qs)[b+aC l]?=some k:=h2
 have hp':(eP p (aM p f)).ps[b+aC l]?=some (kQ X.fl b c op n s l):=hp
 have hps:(bE p (aM p f) ts qs).ps[b+aC l]?=some (sP k (iA (bJ p (aM p f)).2 (pE (eP p (aM p f)).ns (b+aC l)) (kQ X.fl b c op n s l))):=by
  show (jT (p.ins.map Ex.n++qs) (dF p (aM p f)))[b+aC l]?=_
  rw[uT,h2']
  unfold dF
  rw[zG,hp']
  rfl
 refine⟨k,qq,h1,(bA hps).1,?_,?_⟩
 ·rw[rE hps];rfl
 ·rw[xO hps]
  show (iA _ _ _).late=_
  rw[(Bh _ _ _).2.2.2.2.1,BA]
theorem eX.part(h:eX p d f ts qs X T){x:Nat}{pt:Pq}(hx:(bE p (aM p f) ts qs).ps[x]?=some pt) :
  (x<p.ins.length∧pt=sP ((p.ins.map Ex.n)[x]?.getD 0) mP)∨(p.ins.length≤x∧∃a b c op n s l k qq,PV X T (bJ p (aM p f)).2 x a b c op n s l k qq pt):=by
 have hx':(jT (p.ins.map Ex.n++qs) (dF p (aM p f)))[x]?=some pt:=hx
 have hxl:=(bA hx').1
 rw[uS,zH] at hxl
 by_cases hi:x<p.ins.length
 ·refine .inl ⟨hi,?_⟩
  rw[uT,Bo _ hi] at hx'
  rw[List.getElem?_append_left (by simpa using hi)] at hx'
  exact(Option.some.inj hx').symm
 ·refine .inr ⟨by omega,?_⟩
  obtain⟨a,b,c,e,hv,hj,_⟩:=h.vs.all x (by omega) (by rw[pY];omega)
  obtain⟨op,n,s,l⟩:=e
  have hz:aL (.mk op n s l)=aC l+1:=by unfold aL;rfl
  have ej:x=b+aC l:=by omega
  have hr:=hv.root
  obtain⟨k,qq,h1,h2⟩:=hr.rt
  have hp:=hr.rp
  have hn:=hr.rn
  rw[h.tb,←ej] at hp h2 hn
  have h2':(p.ins.map Ex.n++qs)[x]?=some k:=h2
  have hp':(eP p (aM p f)).ps[x]?=some (kQ X.fl b c op n s l):=hp
  have hn':(eP p (aM p f)).ns[x]?=some s:=hn
  rw[uT,h2'] at hx'
  unfold dF at hx'
  rw[zG,hp'] at hx'
  unfold pE at hx'
  rw[hn'] at hx'
  have hpt:pt=sP k (iA (bJ p (aM p f)).2 s (kQ X.fl b c op n s l)):=(Option.some.inj hx').symm
  have hk:=Bh (bJ p (aM p f)).2 s (kQ X.fl b c op n s l)
  have hkq:=BB X.fl b c op n s l
  rw[hkq.1,hkq.2] at hk
  refine⟨a,b,c,op,n,s,l,k,qq,hv,ej,h1,?_,?_,?_,?_,?_,?_⟩
  ·rw[hpt];exact hk.1
  ·rw[hpt]
   show (iA _ _ _).n=_
   rw[hk.2.1]
   unfold kQ
   split<;>rfl
  ·rw[hpt]
   show (iA _ _ _).aF=_
   split
   ·rename_i e;exact hk.2.2.2.2.2.1 e
   ·rename_i e;exact hk.2.2.2.2.2.2 e
  ·rw[hpt]
   show (iA _ _ _).mem=_
   rw[hk.2.2.1]
   unfold kQ
   split<;>rfl
  ·rw[hpt];rfl
  ·rw[hpt]
   show (iA _ _ _).late=_
   rw[hk.2.2.2.2.1,BA]
end
end Go.Proofs.YtmgfakcccfahaaaGreatDoor
