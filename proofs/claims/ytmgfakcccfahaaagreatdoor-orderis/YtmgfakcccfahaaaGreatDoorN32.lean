/-
  package plan: Of BY CONTRACT.
-/
import Derived.Test.YtmgfakcccfahaaaGreatDoorN30
import Derived.Test.YtmgfakcccfahaaaGreatDoorN31
namespace Go.Proofs.YtmgfakcccfahaaaGreatDoor
open Go.RowKit Go.Maps
def l7(p:Pg)(fl:List UInt8→Option Int):Pm:=(gF fl p.checks (gF fl p.asserts (gG p fl).1).1).1
structure jJ where
 ps:List Pq
 is:List Nat
 ts:List Nat
 ks:List Nat
 os:List Nat
 ax:List Nat
 cx:List Nat
def vM(k:Int)(q:Pq):Pq:={ q with kind:=k }
def wU(ks:List Int)(ps:List Pq)(j:Nat)(qs:List Pq):Prop:=∀k,qs[k]?=ps[k]?.map fun q=>if k<j then vM (ks[k]?.getD 0) q else q
theorem wU.length{ks:List Int}{ps qs:List Pq}{j:Nat}(h:wU ks ps j qs):qs.length=ps.length:=by
 have h1:∀k,qs[k]?=none ↔ ps[k]?=none:=fun k=>by rw[h k];cases ps[k]?<;>simp
 have a:=(h1 qs.length).1 (by simp)
 have b:=(h1 ps.length).2 (by simp)
 rw[List.getElem?_eq_none_iff] at a b
 omega
def qV(ks:List Int)(ps:List Pq):List Pq:=ps.mapIdx fun k q=>vM (ks[k]?.getD 0) q
theorem wU.all{ks:List Int}{ps qs:List Pq}{j:Nat}(h:wU ks ps j qs)(hj:ps.length≤j):qs=qV ks ps:=by
 apply List.ext_getElem?
 intro k
 rw[h k,qV,List.getElem?_mapIdx]
 cases hp:ps[k]? with
 | none=>rfl
 | some p=>simp only[Option.map_some,if_pos (Nat.lt_of_lt_of_le (aX hp).1 hj)]
theorem Mj(ks:List Int)(ps:List Pq)(k:Nat):(qV ks ps)[k]?=ps[k]?.map fun q=>vM (ks[k]?.getD 0) q:=by
 rw[qV,List.getElem?_mapIdx]
def xV(p:Pg)(fl:List UInt8→Option Int):List Pq:=pO (gG p fl).2 (l7 p fl).ns (l7 p fl).ps
def l8(p:Pg)(fl:List UInt8→Option Int)(ts:List Nat)(qs:List Int):jJ:=
 ⟨qV (p.ins.map Ex.n++qs) (xV p fl),List.range p.ins.length,ts,(l7 p fl).ks,p.outs.map fun x=>lF (gG p fl).2 x.op,(gF fl p.asserts (gG p fl).1).2,(gF fl p.checks (gF fl p.asserts (gG p fl).1).1).2⟩
def gZ(p:Pg)(f:List UInt8→Nat):List UInt8→Option Int:=yR p.fs (dP p f) p.fs.length
structure O5(w:World)(B:Nat)(q:jJ):Prop where
 is:∃(vp vi vt vk vo va vc:Value) (ps:List jI),w.heap[B]?=some (.cells #[vp,vi,vt,vk,vo,va,vc] 183 (0,0))∧ps.map jI.q=q.ps∧aB w (fun _=>True) 6 vp ps.length (xW ps)∧tK w (fun _=>True) ps∧aB w (fun _=>True) 1 vi q.is.length (jY q.is)∧aB w (fun _=>True) 1 vt q.ts.length (jY q.ts)∧aB w (fun _=>True) 1 vk q.ks.length (jY q.ks)∧aB w (fun _=>True) 1 vo q.os.length (jY q.os)∧aB w (fun _=>True) 1 va q.ax.length (jY q.ax)∧aB w (fun _=>True) 1 vc q.cx.length (jY q.cx)
theorem aB.wide{w:World}{F:Nat→Prop}{size n:Nat}{v:Value}{xs:List Value}(h:aB w F size v n xs):aB w (fun _=>True) size v n xs:=h.keep (fun _ _ _=>⟨trivial,rfl⟩)
structure O3(p:Pg)(d:List Nat)(f:List UInt8→Nat):Prop where
 ord:iT p d
 lt:gV p.fs f
 out:∀(j:Nat) (y:Fw),p.fs[j]?=some y→dR p f y=false
 ask:∀y∈p.asserts++p.checks,aO f y=0
def Dl(f:Int→Option Value)(k:Int)(v:Value):Int→Option Value:=fun x=>if x=k then some v else f x
def ME:Int→Option Value:=fun _=>none
def Ai(w:World)(b n:Nat)(f:Int→Option Value):Prop:=∃D:DataW Value,w.ownsMap Tryz.prog 3 sU b n D∧∀k:Int,Maps.has D (.int .i64 k)=(f k).isSome∧∀v z,f k=some v→D.atKey (.int .i64 k) z=.held v
theorem Ai.lt{w:World}{b n:Nat}{f:Int→Option Value}(h:Ai w b n f):b<w.heap.size:=by
 obtain⟨D,h,_⟩:=h
 exact h.lt
def K8(b n:Int):Int→Option Value:=Dl (Dl ME 1 (.int .i64 b)) 2 (.int .i64 n)
def Aj(w:World)(f:List UInt8→Option Value):Prop:=(∀k v,xS k=some v→∃p,f k=some (wC 116 p)∧w.cell? ⟨p,0,none⟩=some v) ∧
 (∀k v,zS k=some v→∃p,f k=some (wC 118 p)∧w.cell? ⟨p,0,none⟩=some v)∧(∀k v,xE k=some v→∃p,f k=some (wC 120 p)∧w.cell? ⟨p,0,none⟩=some v) ∧
 ∀k,xS k=none→zS k=none→xE k=none→f k=CB k
def zR(f:List UInt8→Option Value)(q:Pq):Value:=(f q.op.data.toList).getD .nilFunc
theorem Aj.one{w:World}{f:List UInt8→Option Value}(h:Aj w f)(q:Pq):(zR f q).oneCell'=true:=by
 unfold zR
 cases hr:xS q.op.data.toList with
 | some v=>obtain⟨p,e,_⟩:=h.1 _ _ hr;rw[e];rfl
 | none=>
  cases hd:zS q.op.data.toList with
  | some v=>obtain⟨p,e,_⟩:=h.2.1 _ _ hd;rw[e];rfl
  | none=>
   cases ht:xE q.op.data.toList with
   | some v=>obtain⟨p,e,_⟩:=h.2.2.1 _ _ ht;rw[e];rfl
   | none=>
    rw[h.2.2.2 _ hr hd ht]
    unfold CB bC mV
    split
    ·rfl
    ·split
     ·rfl
     ·split<;>rfl
structure Cd(w:World)(C B M:Nat)(dv:Value)(f:List UInt8→Option Value)(q:jJ)(b n:Int):Prop where
 blk:w.heap[C]?=some (.cells #[.pointer (some ⟨B,0,none⟩),dv,.map (some M)] 180 (0,0))
 Pf:O5 w B q
 Pj:Ai w M 2 (K8 b n)
 Po:Aj w f
 row:aB w (fun _=>True) 1 dv q.ps.length (q.ps.map (zR f))
section
variable {w w':World} {C B M:Nat} {dv:Value} {f:List UInt8→Option Value} {q:jJ} {b n:Int}
theorem Cd.c1(h:Cd w C B M dv f q b n):w.cell? ⟨C,0+1,none⟩=some dv:=cr h.blk rfl
theorem Cd.c2(h:Cd w C B M dv f q b n):w.cell? ⟨C,0+2,none⟩=some (.map (some M)):=cr h.blk rfl
end
def gJ(ps:List Pq)(x:Nat):Int:=(ps[x]?.map Pq.kind).getD 0
theorem Dc{ps:List Pq}{x:Nat}{p:Pq}(h:ps[x]?=some p):gJ ps x=p.kind:=by unfold gJ;rw[h];rfl
def oG(l:List (Int×Int)):List Value:=l.flatMap fun x=>[.int .i64 x.1,.int .i64 x.2]
def ET(w:World)(v:Value)(l:List (Int×Int)):Prop:=aB w (fun _=>True) 2 v l.length (oG l)
def O9(w:World)(v:Value)(ll:List (List (Int×Int))):Prop:=ll.length≤maxLen∧∃o c,v=.slice o ll.length c∧∀k l,ll[k]?=some l→∃b off vo vc,o=some ⟨b,off,none⟩∧w.cell? ⟨b,off+k,none⟩=some (.slice vo l.length vc)∧wM w (.slice vo l.length vc) l
def sI(b n k:Int):Int:=if k=2 then n else b
structure qF where
 I:Nat
 R:Nat
 B:Nat
 C:Nat
 fr:Bool
 mo:Option Addr
 ml:Nat
 mc:Nat
 n:Nat
 g:Nat→Int
 a:Int
 b:Int
 c:Int
 tr:Bool
def qF.io(d:qF):Obj:=.cells #[.pointer (some ⟨d.B,0,none⟩),.pointer (some ⟨d.C,0,none⟩),.bool d.fr,.slice d.mo d.ml d.mc,.slice (some ⟨d.R,0,none⟩) d.n d.n,.int .i64 d.a,.int .i64 d.b,.int .i64 d.c,.bool d.tr] 192 (0,0)
structure kT(w0:World)(d:qF)(w:World):Prop where
 sep:Sep w w0.heap.size (fun _=>False) [uY d.I d.io,KY d.R d.n d.g]
 below:Bw w0 w
section
variable {w0 w w':World} {d:qF}
theorem kT.blk(h:kT w0 d w):w.heap[d.I]?=some d.io:=h.sep.is 0 _ rfl
theorem kT.c1(h:kT w0 d w):w.cell? ⟨d.I,0+1,none⟩=some (.pointer (some ⟨d.C,0,none⟩)):=cr h.blk rfl
theorem kT.c2(h:kT w0 d w):w.cell? ⟨d.I,0+2,none⟩=some (.bool d.fr):=cr h.blk rfl
theorem kT.c3(h:kT w0 d w):w.cell? ⟨d.I,0+3,none⟩=some (.slice d.mo d.ml d.mc):=cr h.blk rfl
theorem kT.c4(h:kT w0 d w):w.cell? ⟨d.I,0+4,none⟩=some (.slice (some ⟨d.R,0,none⟩) d.n d.n):=cr h.blk rfl
end
def qU:List UInt8:=[102,97,108,115,101]
def yK(mem:List (Int×Int))(k:Int):Int:=(mem[k.toNat]?.map Prod.snd).getD 0
def BZ(p:Pq)(k:Nat):Nat:=p.dO[k]?.getD 0
structure Py(w:World)(pb z:Nat)(p:Pq)(po:Option Addr)(pc:Nat):Prop where
 c0:w.cell? ⟨pb,z,none⟩=some (.string p.op)
 c1:w.cell? ⟨pb,z+1,none⟩=some (.int .i64 p.n)
 c2:w.cell? ⟨pb,z+2,none⟩=some (.slice po p.dO.length pc)
 c3:w.cell? ⟨pb,z+3,none⟩=some (.int .i64 p.mem)
 c4:w.cell? ⟨pb,z+4,none⟩=some (.int .i64 p.kind)
 c5:w.cell? ⟨pb,z+5,none⟩=some (.bool p.late)
 dO:aB w (fun _=>True) 1 (.slice po p.dO.length pc) p.dO.length (jY p.dO)
def qR:List UInt8:=[105,110,116]
def xX(p:Pq):Prop:=p.op.data.toList=qR∨p.op.data.toList=nT∨p.op.data.toList=qU∨p.op.data.toList=bI∨p.op.data.toList=cZ∨p.op.data.toList=iZ∨p.op.data.toList=cK
def pV:List (List UInt8):=[[105,102],[102,98,121],[45,62],[112,114,101],[60,62],[61],[62,61],[62],[60,61],[60],[109,111,100],[47],[42],[45],[43],[110,101,103],[61,62],[120,111,114],[111,114],[97,110,100],[110,111,116],[102,97,108,115,101],[116,114,117,101],[105,110,116]]
theorem xQ{op:List UInt8}{p:List Int×List Int}(h:eX op=some p):op∈pV:=by
 unfold eX at h
 by_cases e:op=[105,102]
 ·rw[e];decide
 rw[if_neg e] at h;clear e
 by_cases e:op=[102,98,121]
 ·rw[e];decide
 rw[if_neg e] at h;clear e
 by_cases e:op=[45,62]
 ·rw[e];decide
 rw[if_neg e] at h;clear e
 by_cases e:op=[112,114,101]
 ·rw[e];decide
 rw[if_neg e] at h;clear e
 by_cases e:op=[60,62]
 ·rw[e];decide
 rw[if_neg e] at h;clear e
 by_cases e:op=[61]
 ·rw[e];decide
 rw[if_neg e] at h;clear e
 by_cases e:op=[62,61]
 ·rw[e];decide
 rw[if_neg e] at h;clear e
 by_cases e:op=[62]
 ·rw[e];decide
 rw[if_neg e] at h;clear e
 by_cases e:op=[60,61]
 ·rw[e];decide
 rw[if_neg e] at h;clear e
 by_cases e:op=[60]
 ·rw[e];decide
 rw[if_neg e] at h;clear e
 by_cases e:op=[109,111,100]
 ·rw[e];decide
 rw[if_neg e] at h;clear e
 by_cases e:op=[47]
 ·rw[e];decide
 rw[if_neg e] at h;clear e
 by_cases e:op=[42]
 ·rw[e];decide
 rw[if_neg e] at h;clear e
 by_cases e:op=[45]
 ·rw[e];decide
 rw[if_neg e] at h;clear e
 by_cases e:op=[43]
 ·rw[e];decide
 rw[if_neg e] at h;clear e
 by_cases e:op=[110,101,103]
 ·rw[e];decide
 rw[if_neg e] at h;clear e
 by_cases e:op=[61,62]
 ·rw[e];decide
 rw[if_neg e] at h;clear e
 by_cases e:op=[120,111,114]
 ·rw[e];decide
 rw[if_neg e] at h;clear e
 by_cases e:op=[111,114]
 ·rw[e];decide
 rw[if_neg e] at h;clear e
 by_cases e:op=[97,110,100]
 ·rw[e];decide
 rw[if_neg e] at h;clear e
 by_cases e:op=[110,111,116]
 ·rw[e];decide
 rw[if_neg e] at h;clear e
 by_cases e:op=[102,97,108,115,101]
 ·rw[e];decide
 rw[if_neg e] at h;clear e
 by_cases e:op=[116,114,117,101]
 ·rw[e];decide
 rw[if_neg e] at h;clear e
 by_cases e:op=[105,110,116]
 ·rw[e];decide
 rw[if_neg e] at h;clear e
 cases h
def k12:List Int:=[1,2]
theorem bN{k:Int}(h:k=1∨k=2):k∈k12:=by unfold k12;rcases h with rfl | rfl<;>simp
def E5(op:List UInt8)(ks:List Int):Prop:=
 ∀tk gv,eX op=some (tk,gv)→ks.length=tk.length→∀k,aZ op ks=some k→(k=1∨k=2) ∧
  ((op=qR∧ks=[]∧k=2)∨((op=nT∨op=qU)∧ks=[]∧k=1)∨(op=cZ∧ks=[k])∨((op=iZ∨op=cK)∧ks=[k,k]) ∨
   ((op≠qR∧op≠nT∧op≠qU∧op≠bI∧op≠cZ∧op≠iZ∧op≠cK)∧∃t∈xN,t.1=op∧ks.length=t.2.1∧xR op ks=some k))
def pW(op:List UInt8)(ks:List Int):Bool:=
 match eX op,aZ op ks with
 | some r,some k=>ks.length != r.1.length||((k==1||k==2)&&((op==qR&&ks==[]&&k==2)||((op==nT||op==qU)&&ks==[]&&k==1)||(op==cZ&&ks==[k])||((op==iZ||op==cK)&&ks==[k,k]) ||
   ((op != qR&&op != nT&&op != qU&&op != bI&&op != cZ&&op != iZ&&op != cK)&&(xN.any fun t=>t.1==op&&ks.length==t.2.1)&&xR op ks==some k)))
 | _,_=>true
theorem Kb{op:List UInt8}{ks:List Int}(h:pW op ks=true):E5 op ks:=by
 intro tk gv h1 h2 k h3
 unfold pW at h
 rw[h1,h3] at h
 simp only[Bool.and_eq_true,Bool.or_eq_true,bne_iff_ne,beq_iff_eq,ne_eq,List.any_eq_true] at h
 rcases h with h | ⟨hk,h⟩
 ·exact absurd h2 h
 refine⟨hk,?_⟩
 rcases h with(((h | h) | h) | h) | h
 ·exact .inl ⟨h.1.1,h.1.2,h.2⟩
 ·exact .inr (.inl ⟨h.1.1,h.1.2,h.2⟩)
 ·exact .inr (.inr (.inl h))
 ·exact .inr (.inr (.inr (.inl h)))
 ·obtain⟨⟨a,t,ht,b,c⟩,d⟩:=h
  exact .inr (.inr (.inr (.inr ⟨by obtain⟨⟨⟨⟨⟨⟨a1,a2⟩,a3⟩,a4⟩,a5⟩,a6⟩,a7⟩:=a;exact⟨a1,a2,a3,a4,a5,a6,a7⟩,t,ht,b,c,d⟩)))
theorem Kh:∀op∈pV,pW op []=true:=by decide
theorem Kg:∀op∈pV,∀a∈k12,pW op [a]=true:=by decide
theorem Ke:∀op∈pV,∀a∈k12,∀b∈k12,pW op [a,b]=true:=by decide
theorem Kc:∀op∈pV,∀a∈k12,∀b∈k12,∀c∈k12,pW op [a,b,c]=true:=by decide
theorem Bq:∀op∈pV,((eX op).all fun r=>r.1.length≤3)=true:=by decide
theorem Ka{op:List UInt8}{ks:List Int}(hk:∀k∈ks,k=1∨k=2):E5 op ks:=by
 intro tk gv h1 h2 k h3
 have ho:=xQ h1
 have hl:=Bq op ho
 rw[h1] at hl
 simp only[Option.all_some,decide_eq_true_eq] at hl
 have H:pW op ks=true:=by
  match ks,hk,h2 with
  | [],_,_=>exact Kh op ho
  | [a],hk,_=>exact Kg op ho a (bN (hk a (by simp)))
  | [a,b],hk,_=>exact Ke op ho a (bN (hk a (by simp))) b (bN (hk b (by simp)))
  | [a,b,c],hk,_=>exact Kc op ho a (bN (hk a (by simp))) b (bN (hk b (by simp))) c (bN (hk c (by simp)))
  | a::b::c::d::l,_,h2=>simp only[List.length_cons] at h2;omega
 exact Kb H tk gv h1 h2 k h3
theorem uF{kd:List UInt8→Option Int}:∀{l:List Ex} {ks qs:List Int} {i:Nat} {e:Ex},aM kd l=some (ks,qs)→l[i]?=some e→∃k q,bF kd e=some (k,q)∧ks[i]?=some k
 | [],_,_,i,e,_,h=>by simp at h
 | x::l,ks,qs,i,e,ht,h=>by
  unfold aM at ht
  cases h1:bF kd x with
  | none=>rw[h1] at ht;cases ht
  | some u=>
   obtain⟨k,ps⟩:=u
   rw[h1] at ht
   cases h2:aM kd l with
   | none=>rw[h2] at ht;cases ht
   | some v=>
    obtain⟨ks',qs'⟩:=v
    rw[h2] at ht
    obtain⟨rfl,rfl⟩:k::ks'=ks∧ps++qs'=qs:=by simpa using ht
    cases i with
    | zero=>
     obtain rfl:x=e:=by simpa using h
     exact⟨k,ps,h1,rfl⟩
    | succ i=>
     obtain⟨k',q',h3,h4⟩:=uF (i:=i) h2 (by simpa using h)
     exact⟨k',q',h3,by simpa using h4⟩
mutual
theorem AY{kd:List UInt8→Option Int}(hkd:∀s k,kd s=some k→k=1∨k=2):∀{e:Ex} {k:Int} {q:List Int},dG kd e=true→bF kd e=some (k,q)→k=1∨k=2
 | .mk op n s l,k,q,hf,ht=>by
  unfold dG at hf
  rw[Bool.and_eq_true] at hf
  obtain⟨_,hc⟩:=sW hf.1
  unfold bF at ht
  by_cases hn:op.data.toList=bI
  ·rw[if_pos hn] at ht
   obtain⟨k',h1,h2⟩:=Option.map_eq_some_iff.1 ht
   obtain⟨rfl,_⟩:k'=k∧_:=by simpa using h2
   exact hkd _ _ h1
  ·rw[if_neg hn] at ht hc
   obtain⟨tk,gv,hr,hl⟩:=hc
   cases h2:aM kd l with
   | none=>rw[h2] at ht;cases ht
   | some v=>
    obtain⟨ks,qs⟩:=v
    rw[h2] at ht
    obtain⟨k',h3,h4⟩:=Option.map_eq_some_iff.1 ht
    obtain⟨rfl,_⟩:k'=k∧_:=by simpa using h4
    exact(Ka (AV hkd hf.2 h2) tk gv hr (by rw[pG h2,hl]) k' h3).1
theorem AV{kd:List UInt8→Option Int}(hkd:∀s k,kd s=some k→k=1∨k=2):∀{l:List Ex} {ks qs:List Int},bG kd l=true→aM kd l=some (ks,qs)→∀k∈ks,k=1∨k=2
 | [],ks,qs,_,ht=>by
  obtain⟨rfl,rfl⟩:[]=ks∧[]=qs:=by simpa [aM] using ht
  intro k hk;cases hk
 | x::l,ks,qs,hf,ht=>by
  unfold bG at hf
  rw[Bool.and_eq_true] at hf
  unfold aM at ht
  cases h1:bF kd x with
  | none=>rw[h1] at ht;cases ht
  | some u=>
   obtain⟨k,ps⟩:=u
   rw[h1] at ht
   cases h2:aM kd l with
   | none=>rw[h2] at ht;cases ht
   | some v=>
    obtain⟨ks',qs'⟩:=v
    rw[h2] at ht
    obtain⟨rfl,rfl⟩:k::ks'=ks∧ps++qs'=qs:=by simpa using ht
    intro k' hk'
    rcases List.mem_cons.1 hk' with rfl | hk'
    ·exact AY hkd hf.1 h1
    ·exact AV hkd hf.2 h2 k' hk'
end
theorem qB{kd:List UInt8→Option Int}{l:List Ex}(h:bG kd l=true){e:Ex}(he:e∈l):dG kd e=true:=by
 induction l with
 | nil=>cases he
 | cons x l ih=>
  unfold bG at h
  rw[Bool.and_eq_true] at h
  rcases List.mem_cons.1 he with rfl | he
  ·exact h.1
  ·exact ih h.2 he
end Go.Proofs.YtmgfakcccfahaaaGreatDoor
