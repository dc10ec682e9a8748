/-
  package flow: the parts of a right program's plan are worked out, BY CONTRACT.
-/
import Derived.Test.YtmgfakcccfahaaaGreatDoorN43
namespace Go.Proofs.YtmgfakcccfahaaaGreatDoor
open Go.RowKit Go.Maps
instance (p:Pq):Decidable (jF p):=by unfold jF;infer_instance
def jL(q:bC)(g:Nat→Int)(p:Pq):List (Int×Int):=p.aF.map fun y=>(bK q.ps y,g y)
def vL(q:bC)(g:Nat→Int)(p:Pq):Int×Bool:=((fM p.op.data.toList (jL q g p)).1.2,(fM p.op.data.toList (jL q g p)).2)
def jD(nb nn:Int)(fr:Bool)(mem:List (Int×Int))(q:bC)(g:Nat→Int)(p:Pq):Int×Bool:=
 if jF p∨(fr&&p.late)=true then (gK nb nn fr mem g p,false) else vL q g p
def jW(q:bC)(x:Nat)(v:Int):Prop:=gN (bK q.ps x) v (bK q.ps x)=true
structure pU(q:bC)(mem:List (Int×Int)):Prop where
 len:mem.length=q.ks.length
 val:∀(m y:Nat),q.ks[m]?=some y→jW q y (qG mem m)
structure tK(nb nn:Int):Prop where
 b:nb=0∨nb=1
 n:-128≤nn∧nn≤127
theorem ET{nb nn k:Int}(h:tK nb nn)(hk:k=1∨k=2):gN k (jG nb nn k) k=true:=by
 have:=h.b
 have:=h.n
 rcases hk with rfl | rfl
 ·unfold jG gN
  simp
  omega
 ·unfold jG gN
  simp
  omega
theorem Hq{q:bC}{g:Nat→Int}{p:Pq}(h:∀y∈p.aF,jW q y (g y)):aU (jL q g p)=true:=by
 unfold aU jL
 rw[List.all_eq_true]
 intro v hv
 obtain⟨y,hy,rfl⟩:=List.mem_map.1 hv
 exact h y hy
theorem Cr(q:bC)(g:Nat→Int)(p:Pq):(jL q g p).map Prod.fst=p.aF.map (bK q.ps):=by simp [jL]
theorem QG(q:bC)(g:Nat→Int)(p:Pq):(jL q g p).map Prod.snd=p.aF.map g:=by simp [jL]
theorem zW{p:Pq}(h:¬jF p):dI p=p.aF:=by
 unfold dI
 rw[if_neg fun e=>h (.inr (.inr (.inr (.inr (.inl e))))),if_neg fun e=>h (.inr (.inr (.inr (.inr (.inr (.inr e))))))]
theorem Ez{q:bC}(hp:iT q){x:Nat}{p:Pq}(hx:q.ps[x]?=some p)(hb:eZ q.ps x=false)(hpl:¬jF p){g:Nat→Int}(hr:∀y∈p.aF,jW q y (g y)) :
  ∃r tr,vL q g p=(r,tr)∧Iz p.op.data.toList (jL q g p) r tr∧rZ p.op.data.toList (p.aF.map (bK q.ps))=some p.kind∧fM p.op.data.toList (jL q g p)=(if tr=true then ((0,0),true) else ((p.kind,r),false)):=by
 obtain⟨t,ht,t1,t2,_,t4,_⟩:=hp.zP x p hx hb hpl
 have hl:(jL q g p).length=t.2.1:=by unfold jL;rw[List.length_map];exact t2
 rcases Rf t ht _ hl (Hq hr) with⟨_,hn⟩ | ⟨h0,k,r,tr,hk,ha,hd⟩
 ·rw[Cr,t4] at hn;cases hn
 ·rw[Cr,t4] at hk
  obtain rfl:=Option.some.inj hk
  rw[t1] at ha hd t4
  refine⟨r,tr,?_,hd,t4,ha⟩
  unfold vL
  rw[ha]
  cases tr with
  | true=>rw[hd.1 rfl];rfl
  | false=>rfl
theorem N7{l:List (Int×Int)}{t:List UInt8×Nat×Int×Int}(hl:l.length=t.2.1)(ht:t∈oH):(∃a,l=[a])∨(∃a b,l=[a,b])∨∃a b c,l=[a,b,c]:=by
 have h:=(by decide:∀t∈oH,t.2.1=1∨t.2.1=2∨t.2.1=3) t ht
 rcases h with h | h | h<;>rw[h] at hl
 ·exact .inl (NZ hl.symm)
 ·exact .inr (.inl (NV hl.symm))
 ·exact .inr (.inr (NY hl.symm))
theorem pJ{b:Bool}{k r:Int}(h:(((1,bB b),false):(Int×Int)×Bool)=((k,r),false)):gN k r k=true:=by
 obtain⟨h1,h2⟩:=Prod.mk.inj (Prod.mk.inj h).1
 rw[←h1,←h2]
 exact La _
theorem wM{n k r:Int}(h:(((2,cB n),false):(Int×Int)×Bool)=((k,r),false)):gN k r k=true:=by
 obtain⟨h1,h2⟩:=Prod.mk.inj (Prod.mk.inj h).1
 rw[←h1,←h2]
 exact Lb _
theorem qL{fr:Bool}{mem:List (Int×Int)}{g:Nat→Int}{p:Pq}(h:fr=true):lI fr mem g p=g (iN p 0):=by unfold lI;rw[if_pos h]
theorem yI{fr:Bool}{mem:List (Int×Int)}{g:Nat→Int}{p:Pq}(h:¬fr=true)(e:p.op.data.toList=fV):lI fr mem g p=g (iN p 1):=by unfold lI;rw[if_neg h,if_neg (by rw[e];decide)]
theorem yH{fr:Bool}{mem:List (Int×Int)}{g:Nat→Int}{p:Pq}(h:¬fr=true)(e:p.op.data.toList=bQ):lI fr mem g p=qG mem p.mem:=by unfold lI;rw[if_neg h,if_pos e]
theorem uM{p:Pq}{a:Nat}{l:List Nat}(h:p.aF=a::l):iN p 0=a:=by unfold iN;rw[h];rfl
theorem bP{p:Pq}{a b:Nat}{l:List Nat}(h:p.aF=a::b::l):iN p 1=b:=by unfold iN;rw[h];rfl
theorem QO(t:List UInt8×Nat×Int×Int)(ht:t∈oH)(l:List (Int×Int))(hl:l.length=t.2.1)(hr:aU l=true){k r:Int}(hk:rZ t.1 (l.map Prod.fst)=some k)(ha:fM t.1 l=((k,r),false)):gN k r k=true:=by
 have hin:∀v∈l,gN v.1 v.2 v.1=true:=List.all_eq_true.1 hr
 rcases N7 hl ht with⟨a,rfl⟩ | ⟨a,b,rfl⟩ | ⟨a,b,c,rfl⟩
 ·unfold fM at ha
  simp only at ha
  split at ha
  ·exact pJ ha
  ·exact wM ha
 ·unfold fM at ha
  simp only at ha
  by_cases c:t.1=[97,110,100]
  ·rw[if_pos c] at ha;exact pJ ha
  rw[if_neg c] at ha;clear c
  by_cases c:t.1=[111,114]
  ·rw[if_pos c] at ha;exact pJ ha
  rw[if_neg c] at ha;clear c
  by_cases c:t.1=[120,111,114]
  ·rw[if_pos c] at ha;exact pJ ha
  rw[if_neg c] at ha;clear c
  by_cases c:t.1=[61,62]
  ·rw[if_pos c] at ha;exact pJ ha
  rw[if_neg c] at ha;clear c
  by_cases c:t.1=[61]
  ·rw[if_pos c] at ha;exact pJ ha
  rw[if_neg c] at ha;clear c
  by_cases c:t.1=[60,62]
  ·rw[if_pos c] at ha;exact pJ ha
  rw[if_neg c] at ha;clear c
  by_cases c:t.1=[60]
  ·rw[if_pos c] at ha;exact pJ ha
  rw[if_neg c] at ha;clear c
  by_cases c:t.1=[60,61]
  ·rw[if_pos c] at ha;exact pJ ha
  rw[if_neg c] at ha;clear c
  by_cases c:t.1=[62]
  ·rw[if_pos c] at ha;exact pJ ha
  rw[if_neg c] at ha;clear c
  by_cases c:t.1=[62,61]
  ·rw[if_pos c] at ha;exact pJ ha
  rw[if_neg c] at ha;clear c
  by_cases c:t.1=[43]
  ·rw[if_pos c] at ha;exact wM ha
  rw[if_neg c] at ha;clear c
  by_cases c:t.1=[45]
  ·rw[if_pos c] at ha;exact wM ha
  rw[if_neg c] at ha;clear c
  by_cases c:t.1=[42]
  ·rw[if_pos c] at ha;exact wM ha
  rw[if_neg c] at ha;clear c
  by_cases c:b.2=0
  ·rw[if_pos c] at ha;have:=(Prod.mk.inj ha).2;cases this
  rw[if_neg c] at ha;clear c
  split at ha
  ·exact wM ha
  ·exact wM ha
 ·unfold fM at ha
  simp only at ha
  split at ha
  ·have e:b=(k,r):=by simpa using ha
   have:=hin b (by simp)
   rw[e] at this
   exact this
  ·have e:c=(k,r):=by simpa using ha
   have:=hin c (by simp)
   rw[e] at this
   exact this
theorem MN{q:bC}(hp:iT q){x:Nat}{p:Pq}(hx:q.ps[x]?=some p)(hb:eZ q.ps x=false)(hpl:¬jF p){g:Nat→Int}(hr:∀y∈p.aF,jW q y (g y)){r:Int}{tr:Bool}(h1:vL q g p=(r,tr))(h0:tr=true→r=0)(h4:fM p.op.data.toList (jL q g p)=(if tr=true then ((0,0),true) else ((p.kind,r),false))):jW q x r:=by
 unfold jW
 rw[rE hx]
 cases tr with
 | true=>
  rw[h0 rfl]
  rcases hp.kd x p hx with e | e<;>rw[e]<;>rfl
 | false=>
  obtain⟨t,ht,t1,t2,_,t4,_⟩:=hp.zP x p hx hb hpl
  refine QO t ht (jL q g p) (by unfold jL;rw[List.length_map];exact t2) (Hq hr) (by rw[Cr];exact t4) ?_
  rw[t1,h4]
  rfl
theorem Lv{q:bC}(hp:iT q){ml:Nat}(hm:ml=q.ks.length){n:Nat}(hn:n=q.ps.length){x:Nat}{p:Pq}(hx:q.ps[x]?=some p):CG n ml p:=by
 subst hn
 refine⟨fun e=>?_,fun e=>?_,fun e=>?_,fun e=>?_,fun _=>hp.kd x p hx⟩
 ·obtain⟨y,h1,h2,_⟩:=hp.nm x p hx e
  unfold iN
  rw[h1]
  exact⟨by simp,h2⟩
 ·obtain⟨_,m,y,h1,h2,_⟩:=hp.pre x p hx e
  exact⟨m,h1,by rw[hm];exact(bA h2).1⟩
 ·obtain⟨a,b,h1,h2,h3,_⟩:=hp.arr x p hx e
  unfold iN
  rw[h1]
  exact⟨by simp,h2,h3⟩
 ·obtain⟨a,b,m,h1,h2,_,_,_,_,h3,h4⟩:=hp.Aj x p hx e
  unfold iN
  rw[h1]
  exact⟨by simp,h2,m,h3,by rw[hm];exact(bA h4).1⟩
theorem IX{q:bC}(hp:iT q){nb nn:Int}(hnl:tK nb nn){fr:Bool}{mem:List (Int×Int)}(hm:pU q mem){x:Nat}{p:Pq}(hx:q.ps[x]?=some p){g:Nat→Int}(hpl:jF p∨(fr&&p.late)=true)(hr:∀y∈dY q.ps x,jW q y (g y))(hr2:∀(a b:Nat),p.op.data.toList=fV→p.aF=[a,b]→jW q b (g b)):jW q x (gK nb nn fr mem g p):=by
 have hk:=hp.kd x p hx
 unfold jW
 rw[rE hx]
 unfold gK
 split
 ·exact ET hnl hk
 rename_i hfl
 have hpl:=hpl.resolve_right hfl
 have hnd:dY q.ps x=dI p:=by unfold dY;rw[hx]
 rw[hnd] at hr
 split
 ·rename_i h
  rcases h with h | h | h
  ·obtain⟨h1,h2,h3⟩:=hp.int x p hx h
   rw[h1];unfold gN;simp;omega
  ·obtain⟨h1,h2⟩:=hp.oF x p hx h
   rw[h1,h2];rfl
  ·obtain⟨h1,h2⟩:=hp.Py x p hx h
   rw[h1,h2];rfl
 rename_i h3
 split
 ·rename_i h
  obtain⟨y,h1,h2,h4,_⟩:=hp.nm x p hx h
  have:=hr y (by unfold dI;rw[if_neg (by rw[h];decide),if_neg (by rw[h];decide),h1];simp)
  unfold jW at this
  unfold iN
  rw[h1]
  rw[h4] at this
  exact this
 rename_i h4
 split
 ·rename_i h
  obtain⟨_,m,y,h1,h2,h5⟩:=hp.pre x p hx h
  have:=hm.val m y h2
  unfold jW at this
  rw[h5] at this
  rw[h1]
  exact this
 rename_i h5
 have hop:p.op.data.toList=fV∨p.op.data.toList=bQ:=by
  rcases hpl with h | h | h | h | h | h
  ·exact absurd (.inl h) h3
  ·exact absurd (.inr (.inl h)) h3
  ·exact absurd (.inr (.inr h)) h3
  ·exact absurd h h4
  ·exact absurd h h5
  ·exact h
 rcases hop with h | h
 ·obtain⟨a,b,h1,h2,h6,h7,h8,_⟩:=hp.arr x p hx h
  have hb:=hr2 a b h h1
  have ha:=hr a (by unfold dI;rw[if_neg (by rw[h];decide),if_neg (by rw[h];decide),h1];simp)
  unfold jW at ha hb
  rw[h7] at ha
  rw[h8] at hb
  by_cases hfr:fr=true
  ·rw[qL hfr,uM h1];exact ha
  ·rw[yI hfr h,bP h1];exact hb
 ·obtain⟨a,b,m,h1,h2,h6,h7,h8,_,h9,h10⟩:=hp.Aj x p hx h
  have ha:=hr a (by unfold dI;rw[if_neg (by rw[h];decide),if_pos h,h1];simp)
  have hb:=hm.val m b h10
  unfold jW at ha hb
  rw[h7] at ha
  rw[h8] at hb
  by_cases hfr:fr=true
  ·rw[qL hfr,uM h1];exact ha
  ·rw[yH hfr h,h9];exact hb
theorem Same.Ou{w0:World}{M:Nat}{dv:Value}{f:List UInt8→Option Value}{q:bC}{nb nn:Int}{mem:List (Int×Int)}{d d':dW}(hs:vC w0 M dv f q nb nn mem d)(h:Same d d'):vC w0 M dv f q nb nn mem d':=
 ⟨by rw[h.C,h.B];exact hs.cd,by rw[h.mo,h.ml,h.mc];exact hs.mm,by rw[h.ml];exact hs.ml,by rw[h.n];exact hs.n⟩
theorem QC{q:bC}{x:Nat}{p:Pq}(hx:q.ps[x]?=some p){a b:Nat}(h:p.op.data.toList=fV)(h1:p.aF=[a,b]):b∈dY q.ps x:=by
 unfold dY
 rw[hx]
 show b∈dI p
 unfold dI
 rw[if_neg (by rw[h];decide),if_neg (by rw[h];decide),h1]
 simp
theorem IW{nb nn:Int}{fr:Bool}{mem:List (Int×Int)}{q:bC}(hp:iT q){x:Nat}{p:Pq}(hx:q.ps[x]?=some p){g g':Nat→Int}(h:∀y∈dY q.ps x,g y=g' y)(hpl:jF p∨(fr&&p.late)=true):gK nb nn fr mem g p=gK nb nn fr mem g' p:=by
 have hnd:dY q.ps x=dI p:=by unfold dY;rw[hx]
 rw[hnd] at h
 unfold gK
 split
 ·rfl
 rename_i hfl
 have hpl:=hpl.resolve_right hfl
 split
 ·rfl
 rename_i h3
 split
 ·rename_i hn
  obtain⟨y,h1,_⟩:=hp.nm x p hx hn
  unfold iN
  rw[h1]
  exact h y (by unfold dI;rw[if_neg (by rw[hn];decide),if_neg (by rw[hn];decide),h1];simp)
 rename_i h4
 split
 ·rfl
 rename_i h5
 have hop:p.op.data.toList=fV∨p.op.data.toList=bQ:=by
  rcases hpl with h | h | h | h | h | h
  ·exact absurd (.inl h) h3
  ·exact absurd (.inr (.inl h)) h3
  ·exact absurd (.inr (.inr h)) h3
  ·exact absurd h h4
  ·exact absurd h h5
  ·exact h
 rcases hop with e | e
 ·obtain⟨a,b,h1,_⟩:=hp.arr x p hx e
  have e1:dI p=[a,b]:=by unfold dI;rw[if_neg (by rw[e];decide),if_neg (by rw[e];decide),h1]
  rw[e1] at h
  by_cases hfr:fr=true
  ·rw[qL hfr,qL hfr,uM h1];exact h a (by simp)
  ·rw[yI hfr e,yI hfr e,bP h1];exact h b (by simp)
 ·obtain⟨a,b,m,h1,_⟩:=hp.Aj x p hx e
  have e1:dI p=[a]:=by unfold dI;rw[if_neg (by rw[e];decide),if_pos e,h1];rfl
  rw[e1] at h
  by_cases hfr:fr=true
  ·rw[qL hfr,qL hfr,uM h1];exact h a (by simp)
  ·rw[yH hfr e,yH hfr e]
theorem IZ{w0:World}{M:Nat}{dv:Value}{f:List UInt8→Option Value}{q:bC}{nb nn:Int}{mem:List (Int×Int)}{d:dW}(hs:vC w0 M dv f q nb nn mem d)(hp:iT q)(hm:pU q mem)(hnl:tK nb nn):yJ w0 q d (jD nb nn d.fr mem q) (jW q):=by
 refine⟨fun x p hx hb d' w hsm hi hr=>?_,fun x p g hx hb hr=>?_,fun x p g g' hx h=>?_⟩
 ·have hs':=hsm.Ou hs
  have hnd:dY q.ps x=dI p:=by unfold dY;rw[hx]
  rw[←hsm.I,←hsm.fr]
  have hid:∀w',bF w0 d' w'→∃a b c,bF w0 { d' with a:=a,b:=b,c:=c,tr:=d'.tr||false } w':=fun w' h=>⟨d'.a,d'.b,d'.c,by rw[Bool.or_false];exact h⟩
  unfold jD
  by_cases hpl:jF p
  ·rw[if_pos (.inl hpl)]
   refine(Oo hs' hi hx (Lv hp hm.len hs'.n hx) hpl).mono ?_
   rintro e w' ⟨rfl,hb'⟩
   exact⟨rfl,hid w' (hi.keep hb')⟩
  ·by_cases hfl:(d'.fr&&p.late)=true
   ·rw[if_pos (.inr hfl)]
    have hv:gK nb nn d'.fr mem d'.g p=jG nb nn p.kind:=by unfold gK;rw[if_pos hfl]
    refine(FV hs' hi hx hfl (hp.kd x p hx)).mono ?_
    rintro e w' ⟨rfl,hb'⟩
    exact⟨by rw[hv],hid w' (hi.keep hb')⟩
   ·rw[if_neg (fun h=>h.elim hpl hfl)]
    rw[hnd,zW hpl] at hr
    obtain⟨r,tr,h1,hd,_,_⟩:=Ez hp hx hb hpl hr
    obtain⟨fid,cap,h2,h6,hdo⟩:=hd.2 w0 f hs.cd.Gr
    obtain⟨t,ht,t1,t2,t3,_⟩:=hp.zP x p hx hb hpl
    have hl3:p.aF.length≤3:=by
     rw[t2]
     exact(by decide:∀t∈oH,t.2.1≤3) t ht
    have h:=Oq hs' hi hx (by simpa using hfl) hpl h6 (show iQ f p=_ by unfold iQ;rw[h2];rfl) (fun o ho=>by rw[hs'.n];exact t3 o ho) hl3 r tr (fun w' v hb' hk=>hdo w' v hb' (by rw[QG];exact hk))
    refine h.mono ?_
    rintro e w' ⟨rfl,hx'⟩
    rw[h1]
    exact⟨rfl,hx'⟩
 ·unfold jD
  have hnd:dY q.ps x=dI p:=by unfold dY;rw[hx]
  by_cases hpl:jF p∨(d.fr&&p.late)=true
  ·rw[if_pos hpl]
   exact IX hp hnl hm hx hpl hr fun a b h1 h2=>hr b (QC hx h1 h2)
  ·rw[if_neg hpl]
   have hpl1:¬jF p:=fun h=>hpl (.inl h)
   rw[hnd,zW hpl1] at hr
   obtain⟨r,tr,h1,hd,h3,h4⟩:=Ez hp hx hb hpl1 hr
   rw[h1]
   exact MN hp hx hb hpl1 hr h1 hd.1 h4
 ·unfold jD
  have hnd:dY q.ps x=dI p:=by unfold dY;rw[hx]
  by_cases hpl:jF p∨(d.fr&&p.late)=true
  ·rw[if_pos hpl,if_pos hpl,IW hp hx h hpl]
  ·rw[if_neg hpl,if_neg hpl]
   have hpl1:¬jF p:=fun h=>hpl (.inl h)
   rw[hnd,zW hpl1] at h
   have ha:jL q g p=jL q g' p:=by
    unfold jL
    exact List.map_congr_left fun y hy=>by rw[h y hy]
   unfold vL
   rw[ha]
theorem FJ(fl:List UInt8→Option Int):∀l:List Ex,nH fl l=l.map (jS fl)
 | []=>by simp [nH]
 | e::l=>by simp [nH,FJ fl l]
theorem Jq{kd:List UInt8→Option Int}{op:ByteArray}{n:Int}{s:ByteArray}{l:List Ex}{k:Int}{qq:List Int}(h:cO kd (.mk op n s l)=some (k,qq))(hn:op.data.toList≠bS):∃ks q',aR kd l=some (ks,q')∧oJ op.data.toList ks=some k:=by
 unfold cO at h
 rw[if_neg hn] at h
 cases h2:aR kd l with
 | none=>rw[h2] at h;cases h
 | some v=>
  obtain⟨ks,q'⟩:=v
  rw[h2] at h
  obtain⟨k',h3,h4⟩:=Option.map_eq_some_iff.1 h
  obtain⟨rfl,_⟩:k'=k∧_:=by simpa using h4
  exact⟨ks,q',rfl,h3⟩
theorem Gu{kd:List UInt8→Option Int}{op:ByteArray}{n:Int}{s:ByteArray}{l:List Ex}(h:iI kd (.mk op n s l)=true):(op.data.toList=pI→0≤n∧n≤127)∧(op.data.toList≠pI→n=0):=by
 unfold iI at h
 rw[Bool.and_eq_true] at h
 have h1:=h.1
 unfold mR at h1
 simp only[Bool.and_eq_true] at h1
 have h2:=h1.2.2
 unfold gU at h2
 rw[Bool.and_eq_true,ByteArray.toList_eq] at h2
 have h3:=h2.2
 refine⟨fun e=>?_,fun e=>?_⟩
 ·rw[if_pos (by rw[e];decide)] at h3
  simp only[Bool.and_eq_true,decide_eq_true_eq] at h3
  exact h3.1
 ·rw[if_neg (by simpa [xC,pI] using e)] at h3
  split at h3
  ·simp only[beq_iff_eq] at h3
   exact h3
  ·simp only[Bool.and_eq_true,beq_iff_eq] at h3
   exact h3.1
section
variable {p:Pg} {d:List Nat} {f:List UInt8→Nat} {ts:List Nat} {qs:List Int} {X:Cx} {T:Tb}
theorem eX.hp(h:eX p d f ts qs X T){a b c:Nat}{e:Ex}(hv:Vw X T a b c e):vV X.kd f e:=by
 have:=hv.h
 rwa [h.H] at this
theorem eX.late(h:eX p d f ts qs X T){a b c:Nat}{e:Ex}(hv:Vw X T a b c e):jS X.fl e=decide (0<bH f e):=FL h.hl h.rt.lt.1.1 e hv.ar (h.hp hv).1
theorem eX.term(h:eX p d f ts qs X T){i:Nat}{e:Ex}(hi:(aI p)[i]?=some e):∃r,(bU p.ins.length (aI p))[i]?=some r∧r<(bE p (aM p f) ts qs).ps.length∧(fT p)[i]?=some (bK (bE p (aM p f) ts qs).ps r)∧gH (bE p (aM p f) ts qs).ps r=decide (0<bH f e):=by
 have hs:=pY p d
 rw[←hs,List.getElem?_map] at hi
 obtain⟨y,hy,rfl⟩:=Option.map_eq_some_iff.1 hi
 obtain⟨b',c',hv,h2,_,_⟩:=h.vs.at hy
 rw[hs] at h2
 obtain⟨k,qq,h3,h4,h5,h6⟩:=h.root hv
 obtain⟨k2,q2,h7,h8⟩:=vE (i:=i) (e:=y.2) h.ty (by rw[←hs,List.getElem?_map,hy];rfl)
 obtain⟨rfl,_⟩:k=k2∧qq=q2:=by simpa using h3.symm.trans h7
 exact⟨_,h2,h4,by rw[h5];exact h8,by rw[h6,h.late hv]⟩
theorem eX.kid(h:eX p d f ts qs X T){a b c:Nat}{l:List Ex}(hv:kE X T a b c l){i:Nat}{e:Ex}(hi:l[i]?=some e):∃r,(bU b l)[i]?=some r∧r<(bE p (aM p f) ts qs).ps.length∧(∃qq,cO X.kd e=some (bK (bE p (aM p f) ts qs).ps r,qq))∧gH (bE p (aM p f) ts qs).ps r=jS X.fl e:=by
 obtain⟨b',c',h1,h2,_⟩:=hv.at hi
 obtain⟨k,qq,h3,h4,h5,h6⟩:=h.root h1
 exact⟨_,h2,h4,⟨qq,by rw[h5];exact h3⟩,h6⟩
theorem eX.kinds(h:eX p d f ts qs X T){a b c:Nat}{l:List Ex}(hv:kE X T a b c l){ks q':List Int}(ht:aR X.kd l=some (ks,q')):(bU b l).map (bK (bE p (aM p f) ts qs).ps)=ks:=by
 apply List.ext_getElem?
 intro i
 rw[List.getElem?_map]
 cases hi:l[i]? with
 | none=>
  have h1:l.length≤i:=List.getElem?_eq_none_iff.1 hi
  rw[List.getElem?_eq_none (by rw[oK];exact h1),List.getElem?_eq_none (by rw[pX ht];exact h1)]
  rfl
 | some e=>
  obtain⟨r,h1,_,⟨qq,h2⟩,_⟩:=h.kid hv hi
  obtain⟨k,q2,h3,h4⟩:=vE ht hi
  rw[h1,h4]
  have:=h2.symm.trans h3
  simp at this
  simp [this.1]
theorem Dc{p:Pg}{v:Ex}(h:v∈p.ins):(v.op,v.n)∈aT p:=by unfold aT jE;exact List.mem_append_left _ (List.mem_map.2 ⟨v,h,rfl⟩)
theorem I5{p:Pg}{y:Fw}(h:y∈p.fs):(y.name,y.kind)∈aT p:=by unfold aT gL;exact List.mem_append_right _ (List.mem_map.2 ⟨y,h,rfl⟩)
theorem eX.flow(h:eX p d f ts qs X T){j:Nat}{y:Fw}(hy:p.fs[j]?=some y):dG (bJ p (aM p f)).2 y.name<(bE p (aM p f) ts qs).ps.length∧bK (bE p (aM p f) ts qs).ps (dG (bJ p (aM p f)).2 y.name)=y.kind∧gH (bE p (aM p f) ts qs).ps (dG (bJ p (aM p f)).2 y.name)=decide (0<f y.name.data.toList):=by
 have ht:(aI p)[j]?=some y.e:=by
  unfold aI
  rw[List.getElem?_append_left (by rw[List.length_map];exact(bA hy).1),List.getElem?_map,hy];rfl
 obtain⟨r,h1,h2,h3,h4⟩:=h.term ht
 have h5:=Eg h.kd (aM p f) hy
 have hl:j<(bU p.ins.length (p.fs.map fun f=>f.e)).length:=(bA h5).1
 unfold aI at h1
 rw[xJ,List.getElem?_append_left hl,h5] at h1
 obtain rfl:=Option.some.inj h1
 have hk:(fT p)[j]?=some y.kind:=by
  unfold fT
  rw[List.getElem?_append_left (by rw[List.length_map];exact(bA hy).1),List.getElem?_map,hy];rfl
 rw[hk] at h3
 exact⟨h2,(Option.some.inj h3).symm,by rw[h4,h.rt.lt.eq (EZ h.kd) (List.mem_of_getElem? hy)]⟩
theorem eX.input(h:eX p d f ts qs X T){i:Nat}{v:Ex}(hv:p.ins[i]?=some v):(bE p (aM p f) ts qs).ps[i]?=some (sP v.n mP):=by
 have hi:=(bA hv).1
 have:=h.tb
 show (jT (p.ins.map Ex.n++qs) (dF p (aM p f)))[i]?=_
 rw[uT,Bo _ hi,List.getElem?_append_left (by simpa using hi),List.getElem?_map,hv]
 rfl
theorem eX.named(h:eX p d f ts qs X T){s:ByteArray}{k:Int}(hk:X.kd s.data.toList=some k):dG (bJ p (aM p f)).2 s<(bE p (aM p f) ts qs).ps.length∧bK (bE p (aM p f) ts qs).ps (dG (bJ p (aM p f)).2 s)=k∧gH (bE p (aM p f) ts qs).ps (dG (bJ p (aM p f)).2 s)=decide (0<(X.fl s.data.toList).getD 0):=by
 have hkd:=xQ h.kd
 have hn:=(rF h.kd).1
 rw[h.hl]
 rw[hkd] at hk
 rcases FU hk with⟨i,v,hv1,hv2⟩ | ⟨j,y,hy1,hy2⟩
 ·have e:dG (bJ p (aM p f)).2 s=i:=by
   rw[←Ef h.kd (aM p f) hv1]
   unfold dG
   rw[hv2]
  have hps:=h.input hv1
  have hm:=vT (f:=fun _=>none) hn (Dc (List.mem_of_getElem? hv1))
  simp only[hv2] at hm
  rw[hm] at hk
  have hz:f s.data.toList=0:=by
   refine h.rt.lt.zero fun x hx hxe=>?_
   unfold aT at hn
   rw[List.map_append,List.nodup_append] at hn
   exact hn.2.2 v.op.data.toList (List.mem_map.2 ⟨(v.op,v.n),List.mem_map.2 ⟨v,List.mem_of_getElem? hv1,rfl⟩,rfl⟩) x.name.data.toList (List.mem_map.2 ⟨(x.name,x.kind),List.mem_map.2 ⟨x,hx,rfl⟩,rfl⟩) (by rw[hv2,hxe])
  rw[e,hz]
  refine⟨(bA hps).1,?_,?_⟩
  ·rw[rE hps];exact Option.some.inj hk
  ·rw[xO hps];rfl
 ·have e:dG (bJ p (aM p f)).2 s=dG (bJ p (aM p f)).2 y.name:=by unfold dG;rw[hy2]
  have hm:=vT (f:=fun _=>none) hn (I5 (List.mem_of_getElem? hy1))
  simp only[hy2] at hm
  rw[hm] at hk
  obtain⟨h1,h2,h3⟩:=h.flow hy1
  rw[e,←hy2]
  refine⟨h1,h2.trans (Option.some.inj hk),?_⟩
  rw[h3]
  simp
theorem eX.keeps(h:eX p d f ts qs X T){a b c:Nat}{op:ByteArray}{n:Int}{s:ByteArray}{l:List Ex}(hv:Vw X T a b c (.mk op n s l))(hk:gI op=true):∃y e,l.getLast?=some e∧(bU b l).getLast?=some y∧(bE p (aM p f) ts qs).ks[c+bO l]?=some y∧y<(bE p (aM p f) ts qs).ps.length∧gH (bE p (aM p f) ts qs).ps y=false∧∃qq,cO X.kd e=some (bK (bE p (aM p f) ts qs).ps y,qq):=by
 have hr:=hv.root.rk hk
 rw[h.tb] at hr
 have hr':(eP p (aM p f)).ks[c+bO l]?=some ((bU b l).getLastD 0):=hr
 rcases Oj hv.ar hk (h.hp hv).1 with⟨e0,rfl,hop,h0⟩ | ⟨e0,e1,rfl,hop,h0⟩
 ·have hkv:=hv.kids (by rw[hop];decide)
  obtain⟨b',c',hv0,_⟩:=hkv.at (i:=0) (e:=e0) rfl
  obtain⟨r,h1,h2,h3,h4⟩:=h.kid hkv (i:=0) (e:=e0) rfl
  have hb:b+aL e0-1=r:=by simpa [bU] using h1
  refine⟨r,e0,rfl,by simp [bU,hb],?_,h2,?_,h3⟩
  ·show (eP p (aM p f)).ks[c+bO [e0]]?=_
   rw[hr'];simp [bU,hb]
  ·rw[h4,h.late hv0,h0];rfl
 ·obtain⟨f0,f1,he,v0,v1⟩:=hv.xP hop
  obtain⟨rfl,rfl⟩:e0=f0∧e1=f1:=by simpa using he
  obtain⟨k,qq,h3,h4,h5,h6⟩:=h.root v1
  refine⟨b+aL e0+aL e1-1,e1,rfl,rfl,?_,h4,?_,qq,by rw[h5];exact h3⟩
  ·show (eP p (aM p f)).ks[c+bO [e0,e1]]?=_
   rw[hr'];rfl
  ·rw[h6,h.late v1,h0];rfl
end
section
variable {p:Pg} {d:List Nat} {f:List UInt8→Nat} {ts:List Nat} {qs:List Int} {X:Cx} {T:Tb}
theorem sQ:lK.data.toList≠pI∧lK.data.toList≠oM∧lK.data.toList≠sO∧lK.data.toList≠bS∧lK.data.toList≠dD∧lK.data.toList≠fV∧lK.data.toList≠bQ:=by decide
theorem eX.row(h:eX p d f ts qs X T){x a b c:Nat}{op:ByteArray}{n:Int}{s:ByteArray}{l:List Ex}{k:Int}{qq:List Int}{pt:Pq}(hp:PV X T (bJ p (aM p f)).2 x a b c op n s l k qq pt)(hn:op.data.toList≠bS) :
  ∃ks q' tk gv,aR X.kd l=some (ks,q')∧oJ op.data.toList ks=some k∧kM op.data.toList=some (tk,gv)∧ks.length=tk.length∧ks.length=l.length∧(∀k∈ks,k=1∨k=2):=by
 obtain⟨ks,q',h1,h2⟩:=Jq hp.ty hn
 have hf:=(h.hp hp.vw).2
 unfold iI at hf
 rw[Bool.and_eq_true] at hf
 obtain⟨_,hc⟩:=Ah hf.1
 rw[if_neg hn] at hc
 obtain⟨tk,gv,h3,h4⟩:=hc
 exact⟨ks,q',tk,gv,h1,h2,h3,by rw[pX h1,h4],pX h1,A7 h.kX hf.2 h1⟩
theorem eX.Oi(h:eX p d f ts qs X T){x:Nat}{pt:Pq}(hx:(bE p (aM p f) ts qs).ps[x]?=some pt):pt.kind=1∨pt.kind=2:=by
 rcases h.part hx with⟨hi,rfl⟩ | ⟨_,a,b,c,op,n,s,l,k,qq,hp⟩
 ·obtain⟨v,hv⟩:∃v,p.ins[x]?=some v:=⟨_,List.getElem?_eq_getElem hi⟩
  have:=((rF h.kd).2 _ (Dc (List.mem_of_getElem? hv))).2
  show ((p.ins.map Ex.n)[x]?.getD 0)=1∨_
  rw[List.getElem?_map,hv]
  exact this
 ·rw[hp.kind]
  exact Dp h.kX (h.hp hp.vw).2 hp.ty
theorem eX.view(h:eX p d f ts qs X T){x:Nat}{pt:Pq}(hx:(bE p (aM p f) ts qs).ps[x]?=some pt)(hb:pt.op.data.toList≠lK.data.toList):∃a b c op n s l k qq,PV X T (bJ p (aM p f)).2 x a b c op n s l k qq pt:=by
 rcases h.part hx with⟨_,rfl⟩ | ⟨_,hp⟩
 ·exact absurd rfl hb
 ·exact hp
theorem eX.zQ(h:eX p d f ts qs X T){x a b c:Nat}{op:ByteArray}{n:Int}{s:ByteArray}{l:List Ex}{k:Int}{qq:List Int}{pt:Pq}(hp:PV X T (bJ p (aM p f)).2 x a b c op n s l k qq pt):op.data.toList≠lK.data.toList:=by
 intro e
 obtain⟨_,_,tk,gv,_,_,h3,_⟩:=h.row hp (by rw[e];exact sQ.2.2.2.1)
 have h0:kM lK.data.toList=none:=by decide
 rw[e,h0] at h3
 cases h3
theorem eX.Lx(h:eX p d f ts qs X T)(hol:p.outs.length≤2097152):iT (bE p (aM p f) ts qs):=by
 have hlen:(bE p (aM p f) ts qs).ps.length=p.ins.length+aC (aI p):=by
  show (jT _ _).length=_
  rw[uS,zH]
 have hksl:(bE p (aM p f) ts qs).ks.length=bO (aI p):=by
  show (eP p (aM p f)).ks.length=_
  rw[(uG p (aM p f)).1]
  exact BL _ _
 have hax:(bE p (aM p f) ts qs).ax=bU (p.ins.length+aC (p.fs.map fun f=>f.e)) p.asserts:=(uG p (aM p f)).2.2.1
 have hcx:(bE p (aM p f) ts qs).cx=bU (p.ins.length+aC (p.fs.map fun f=>f.e)+aC p.asserts) p.checks:=(uG p (aM p f)).2.2.2
 have hli:=h.li
 have hmc:=BG (aI p)
 have htl:aC (aI p)=aC (p.fs.map fun f=>f.e)+(aC p.asserts+aC p.checks):=by unfold aI;rw[Bc,Bc]
 have htk:∀(i:Nat) (e:Ex),(p.asserts++p.checks)[i]?=some e→∃r,(bU (p.ins.length+aC (p.fs.map fun f=>f.e)) (p.asserts++p.checks))[i]?=some r∧r<(bE p (aM p f) ts qs).ps.length∧gH (bE p (aM p f) ts qs).ps r=false∧bK (bE p (aM p f) ts qs).ps r=1:=by
  intro i e hi
  have ht:(aI p)[p.fs.length+i]?=some e:=by
   unfold aI
   rw[List.getElem?_append_right (by rw[List.length_map];omega),List.length_map,Nat.add_sub_cancel_left]
   exact hi
  obtain⟨r,h1,h2,h3,h4⟩:=h.term ht
  unfold aI at h1
  rw[xJ,List.getElem?_append_right (by rw[oK,List.length_map];omega),oK,List.length_map,Nat.add_sub_cancel_left] at h1
  refine⟨r,h1,h2,?_,?_⟩
  ·rw[h4,h.rt.ask e (List.mem_of_getElem? hi)];rfl
  ·have hil:=(bA hi).1
   rw[List.length_append] at hil
   unfold fT at h3
   rw[List.getElem?_append_right (by rw[List.length_map];omega),List.length_map,Nat.add_sub_cancel_left,List.getElem?_replicate,if_pos hil] at h3
   exact(Option.some.inj h3).symm
 have htk2:∀y,y∈(bE p (aM p f) ts qs).ax∨y∈(bE p (aM p f) ts qs).cx→y<(bE p (aM p f) ts qs).ps.length∧gH (bE p (aM p f) ts qs).ps y=false∧bK (bE p (aM p f) ts qs).ps y=1:=by
  intro y hy
  rw[hax,hcx] at hy
  have hm:y∈bU (p.ins.length+aC (p.fs.map fun f=>f.e)) (p.asserts++p.checks):=by
   rw[xJ]
   exact List.mem_append.2 hy
  obtain⟨i,hi⟩:=List.mem_iff_getElem?.1 hm
  have hil:=(bA hi).1
  rw[oK] at hil
  obtain⟨r,h1,h2,h3,h4⟩:=htk i _ (qK hil)
  rw[hi] at h1
  obtain rfl:=Option.some.inj h1
  exact⟨h2,h3,h4⟩
 refine⟨fun x pt hx=>h.Oi hx,?_,?_,?_,?_,?_,?_,?_,?_,?_,?_,?_,fun y hy=>htk2 y (.inl hy),fun y hy=>htk2 y (.inr hy),?_⟩
 ·intro x pt hx e
  obtain⟨a,b,c,op,n,s,l,k,qq,hp⟩:=h.view hx (by rw[e];exact fun e2=>sQ.1 e2.symm)
  rw[hp.op'] at e
  have hn:op.data.toList≠bS:=by rw[e];decide
  obtain⟨ks,q',tk,gv,h1,h2,h3,h4,h5,h6⟩:=h.row hp hn
  have ho:=(sD h6 tk gv h3 h4 k h2).2
  rw[e] at ho
  have hkp:gI op=false:=by unfold gI;rw[e];decide
  refine⟨?_,?_⟩
  ·rw[hp.kind]
   rcases ho with h | h | h | h | h
   ·exact h.2.2
   ·exact absurd h.1 (by decide)
   ·exact absurd h.1 (by decide)
   ·exact absurd h.1 (by decide)
   ·exact absurd rfl h.1.1
  ·rw[hp.n',hkp,if_neg (by decide),if_neg (by rw[e];decide)]
   exact(Gu (h.hp hp.vw).2).1 e
 ·intro x pt hx e
  obtain⟨a,b,c,op,n,s,l,k,qq,hp⟩:=h.view hx (by rw[e];exact fun e2=>sQ.2.1 e2.symm)
  rw[hp.op'] at e
  have hn:op.data.toList≠bS:=by rw[e];decide
  obtain⟨ks,q',tk,gv,h1,h2,h3,h4,h5,h6⟩:=h.row hp hn
  have ho:=(sD h6 tk gv h3 h4 k h2).2
  rw[e] at ho
  have hkp:gI op=false:=by unfold gI;rw[e];decide
  refine⟨?_,?_⟩
  ·rw[hp.kind]
   rcases ho with h | h | h | h | h
   ·exact absurd h.1 (by decide)
   ·exact h.2.2
   ·exact absurd h.1 (by decide)
   ·exact absurd h.1 (by decide)
   ·exact absurd rfl h.1.2.1
  ·rw[hp.n',hkp,if_neg (by decide),if_pos e]
 ·intro x pt hx e
  obtain⟨a,b,c,op,n,s,l,k,qq,hp⟩:=h.view hx (by rw[e];exact fun e2=>sQ.2.2.1 e2.symm)
  rw[hp.op'] at e
  have hn:op.data.toList≠bS:=by rw[e];decide
  obtain⟨ks,q',tk,gv,h1,h2,h3,h4,h5,h6⟩:=h.row hp hn
  have ho:=(sD h6 tk gv h3 h4 k h2).2
  rw[e] at ho
  have hkp:gI op=false:=by unfold gI;rw[e];decide
  refine⟨?_,?_⟩
  ·rw[hp.kind]
   rcases ho with h | h | h | h | h
   ·exact absurd h.1 (by decide)
   ·exact h.2.2
   ·exact absurd h.1 (by decide)
   ·exact absurd h.1 (by decide)
   ·exact absurd rfl h.1.2.2.1
  ·rw[hp.n',hkp,if_neg (by decide),if_neg (by rw[e];decide)]
   exact(Gu (h.hp hp.vw).2).2 (by rw[e];decide)
 ·intro x pt hx e
  obtain⟨a,b,c,op,n,s,l,k,qq,hp⟩:=h.view hx (by rw[e];exact fun e2=>sQ.2.2.2.1 e2.symm)
  rw[hp.op'] at e
  have ht:=hp.ty
  unfold cO at ht
  rw[if_pos e] at ht
  obtain⟨k',h1,h2⟩:=Option.map_eq_some_iff.1 ht
  obtain⟨rfl,_⟩:k'=k∧_:=by simpa using h2
  obtain⟨h3,h4,h5⟩:=h.named h1
  refine⟨_,by rw[hp.aF,if_pos e],h3,by rw[h4,hp.kind],?_⟩
  rw[h5,hp.late]
  unfold jS
  rw[if_pos e]
 ·intro x pt hx e
  obtain⟨a,b,c,op,n,s,l,k,qq,hp⟩:=h.view hx (by rw[e];exact fun e2=>sQ.2.2.2.2.1 e2.symm)
  rw[hp.op'] at e
  have hn:op.data.toList≠bS:=by rw[e];decide
  obtain⟨ks,q',tk,gv,h1,h2,h3,h4,h5,h6⟩:=h.row hp hn
  have ho:=(sD h6 tk gv h3 h4 k h2).2
  rw[e] at ho
  have hkp:gI op=true:=(Ac op).1 (.inl e)
  have hks:ks=[k]:=by
   rcases ho with h | h | h | h | h
   ·exact absurd h.1 (by decide)
   ·exact absurd h.1 (by decide)
   ·exact h.2
   ·exact absurd h.1 (by decide)
   ·exact absurd rfl h.1.2.2.2.2.1
  obtain⟨y,e0,g1,g2,g3,g4,g5,qq',g6⟩:=h.keeps hp.vw hkp
  refine⟨?_,_,y,by rw[hp.mem,if_pos hkp],g3,?_⟩
  ·rw[hp.late]
   unfold jS
   rw[if_neg hn,if_pos e]
  ·rw[hks] at h1 h5
   obtain⟨z,rfl⟩:=List.length_eq_one_iff.1 (show l.length=1 from h5.symm)
   obtain rfl:z=e0:=by simpa using g1
   obtain⟨k2,q2,h7,h8⟩:=vE (i:=0) (e:=z) h1 rfl
   obtain rfl:k=k2:=by simpa using h8
   rw[hp.kind]
   have:=g6.symm.trans h7
   simp at this
   exact this.1
 ·intro x pt hx e
  obtain⟨a,b,c,op,n,s,l,k,qq,hp⟩:=h.view hx (by rw[e];exact fun e2=>sQ.2.2.2.2.2.1 e2.symm)
  rw[hp.op'] at e
  have hn:op.data.toList≠bS:=by rw[e];decide
  obtain⟨ks,q',tk,gv,h1,h2,h3,h4,h5,h6⟩:=h.row hp hn
  have ho:=(sD h6 tk gv h3 h4 k h2).2
  rw[e] at ho
  have hks:ks=[k,k]:=by
   rcases ho with h | h | h | h | h
   ·exact absurd h.1 (by decide)
   ·exact absurd h.1 (by decide)
   ·exact absurd h.1 (by decide)
   ·exact h.2
   ·exact absurd rfl h.1.2.2.2.2.2.1
  rw[hks] at h1 h5
  obtain⟨e0,e1,rfl⟩:=wC (show l.length=2 from h5.symm)
  have hkv:=hp.vw.kids (by rw[e];decide)
  have hkk:=h.kinds hkv h1
  obtain⟨r0,a1,a2,_,a4⟩:=h.kid hkv (i:=0) (e:=e0) rfl
  obtain⟨r1,b1,b2,_,_⟩:=h.kid hkv (i:=1) (e:=e1) rfl
  have hof:bU b [e0,e1]=[r0,r1]:=by
   simp [bU] at a1 b1
   simp [bU,a1,b1]
  rw[hof] at hkk
  simp at hkk
  refine⟨r0,r1,by rw[hp.aF,if_neg hn,hof],a2,b2,by rw[hp.kind];exact hkk.1,by rw[hp.kind];exact hkk.2,?_⟩
  rw[a4,hp.late]
  conv=>rhs;unfold jS
  rw[if_neg hn,if_neg (by rw[e];decide),if_pos (.inl e)]
  simp [nH]
 ·intro x pt hx e
  obtain⟨a,b,c,op,n,s,l,k,qq,hp⟩:=h.view hx (by rw[e];exact fun e2=>sQ.2.2.2.2.2.2 e2.symm)
  rw[hp.op'] at e
  have hn:op.data.toList≠bS:=by rw[e];decide
  obtain⟨ks,q',tk,gv,h1,h2,h3,h4,h5,h6⟩:=h.row hp hn
  have ho:=(sD h6 tk gv h3 h4 k h2).2
  rw[e] at ho
  have hkp:gI op=true:=(Ac op).1 (.inr e)
  have hks:ks=[k,k]:=by
   rcases ho with h | h | h | h | h
   ·exact absurd h.1 (by decide)
   ·exact absurd h.1 (by decide)
   ·exact absurd h.1 (by decide)
   ·exact h.2
   ·exact absurd rfl h.1.2.2.2.2.2.2
  rw[hks] at h1 h5
  obtain⟨e0,e1,rfl,v0,v1⟩:=hp.vw.xP e
  obtain⟨k0,q0,c1,c2,c3,c4⟩:=h.root v0
  obtain⟨k1,q1,d1,d2,d3,d4⟩:=h.root v1
  obtain⟨y,ey,g1,g2,g3,g4,g5,qq',g6⟩:=h.keeps hp.vw hkp
  have hyr:y=b+aL e0+aL e1-1:=by simpa [bU] using g2.symm
  obtain⟨k2,q2,m1,m2⟩:=vE (i:=0) (e:=e0) h1 rfl
  obtain⟨k3,q3,m3,m4⟩:=vE (i:=1) (e:=e1) h1 rfl
  obtain rfl:k=k2:=by simpa using m2
  obtain rfl:k=k3:=by simpa using m4
  obtain⟨rfl,_⟩:k0=k∧q0=q2:=by simpa using c1.symm.trans m1
  obtain⟨rfl,_⟩:k1=k0∧q1=q3:=by simpa using d1.symm.trans m3
  refine⟨b+aL e0-1,b+aL e0+aL e1-1,c+bO [e0,e1],by rw[hp.aF,if_neg hn];rfl,c2,d2,by rw[c3,hp.kind],by rw[d3,hp.kind],?_,by rw[hp.mem,if_pos hkp],by rw[←hyr];exact g3⟩
  rw[c4,hp.late]
  conv=>rhs;unfold jS
  rw[if_neg hn,if_neg (by rw[e];decide),if_pos (.inr e)]
  simp [nH]
 ·intro x pt hx hb hpl
  have hxl:=hx
  unfold eZ at hb
  rw[hx] at hb
  obtain⟨a,b,c,op,n,s,l,k,qq,hp⟩:=h.view hx (by simpa using hb)
  unfold jF at hpl
  rw[hp.op'] at hpl ⊢
  have hn:op.data.toList≠bS:=fun e=>hpl (.inr (.inr (.inr (.inl e))))
  obtain⟨ks,q',tk,gv,h1,h2,h3,h4,h5,h6⟩:=h.row hp hn
  have ho:=(sD h6 tk gv h3 h4 k h2).2
  have hkv:=hp.vw.kids (fun e=>hpl (.inr (.inr (.inr (.inr (.inr (.inr e)))))))
  obtain⟨t,ht,t1,t2,t3⟩:∃t∈oH,t.1=op.data.toList∧ks.length=t.2.1∧rZ op.data.toList ks=some k:=by
   rcases ho with h | h | h | h | h
   ·exact absurd (.inl h.1) hpl
   ·exact absurd (.inr (h.1.elim (fun e=>.inl e) fun e=>.inr (.inl e))) hpl
   ·exact absurd (.inr (.inr (.inr (.inr (.inl h.1))))) hpl
   ·exact absurd (.inr (.inr (.inr (.inr (.inr h.1))))) hpl
   ·exact h.2
  have hof:pt.aF=bU b l:=by rw[hp.aF,if_neg hn]
  refine⟨t,ht,t1,by rw[hof,oK,←t2,h5],?_,?_,?_⟩
  ·intro y hy
   rw[hof] at hy
   obtain⟨i,hi⟩:=List.mem_iff_getElem?.1 hy
   have hil:=(bA hi).1
   rw[oK] at hil
   obtain⟨r,r1,r2,_⟩:=h.kid hkv (qK hil)
   rw[hi] at r1
   obtain rfl:=Option.some.inj r1
   exact r2
  ·rw[hof,h.kinds hkv h1,t1,hp.kind]
   exact t3
  ·intro hl y hy
   rw[hof] at hy
   obtain⟨i,hi⟩:=List.mem_iff_getElem?.1 hy
   have hil:=(bA hi).1
   rw[oK] at hil
   obtain⟨r,r1,_,_,r4⟩:=h.kid hkv (qK hil)
   rw[hi] at r1
   obtain rfl:=Option.some.inj r1
   rw[r4]
   rw[hp.late] at hl
   unfold jS at hl
   rw[if_neg hn,if_neg (fun e=>hpl (.inr (.inr (.inr (.inr (.inl e)))))),if_neg (fun e=>hpl (.inr (.inr (.inr (.inr (.inr e)))))),FJ,List.any_eq_false] at hl
   simpa using hl (jS X.fl l[i]) (List.mem_map.2 ⟨l[i],List.getElem_mem hil,rfl⟩)
 ·intro x hb
  unfold eZ at hb
  cases hx:(bE p (aM p f) ts qs).ps[x]? with
  | none=>unfold gH;rw[hx];rfl
  | some pt=>
   rw[hx] at hb
   rw[xO hx]
   rcases h.part hx with⟨_,rfl⟩ | ⟨_,a,b,c,op,n,s,l,k,qq,hp⟩
   ·rfl
   ·have hb':pt.op.data.toList=lK.data.toList:=by simpa using hb
    rw[hp.op'] at hb'
    exact absurd hb' (h.zQ hp)
 ·intro y hy
  obtain⟨j,hj⟩:=List.mem_iff_getElem?.1 hy
  have hjl:=(bA hj).1
  rw[hksl] at hjl
  obtain⟨a',b',c',op,n,s,l',hv,hk,e1,_,_⟩:=h.vs.mem j (Nat.zero_le _) (by rw[pY];omega)
  obtain⟨z,_,_,_,g3,g4,g5,_⟩:=h.keeps hv hk
  rw[←e1,hj] at g3
  obtain rfl:=Option.some.inj g3
  exact⟨g4,g5⟩
 ·intro y hy
  have hy':y∈p.outs.map fun x=>dG (bJ p (aM p f)).2 x.op:=hy
  obtain⟨e,he,rfl⟩:=List.mem_map.1 hy'
  obtain⟨x,hx,hxe⟩:=L9 h.ob he
  obtain⟨j,hj⟩:=List.mem_iff_getElem?.1 hx
  obtain⟨f1,_,f3⟩:=h.flow hj
  have ep:dG (bJ p (aM p f)).2 e.op=dG (bJ p (aM p f)).2 x.name:=by unfold dG;rw[hxe]
  rw[ep]
  refine⟨f1,?_⟩
  rw[f3]
  have hb:=h.rt.out j x hj
  unfold lJ at hb
  have hs:nJ p.outs x.name=true:=by
   unfold nJ
   rw[List.any_eq_true]
   exact⟨e,he,by rw[ByteArray.toList_eq,ByteArray.toList_eq,hxe];simp⟩
  rw[hs,Bool.and_true,Bool.or_eq_false_iff] at hb
  have h2:=h.rt.lt.1.1 x.name.data.toList
  have b1:f x.name.data.toList≠2:=by simpa using hb.1
  have b2:f x.name.data.toList≠1:=by simpa using hb.2
  simp
  omega
 ·have h1:(bE p (aM p f) ts qs).os.length=p.outs.length:=by
   show (p.outs.map _).length=_
   rw[List.length_map]
  have h2:=Bb p.asserts
  have h3:=Bb p.checks
  rw[hlen,hksl,h1,hax,hcx,oK,oK]
  omega
end
end Go.Proofs.YtmgfakcccfahaaaGreatDoor
