/-
  package flat: a map by places, found.
-/
import Derived.Test.YtmgfakcccfahaaaGreatDoorN17
import Derived.LaidEqlPtr
import Derived.MapKept
namespace Go.Proofs.YtmgfakcccfahaaaGreatDoor
open Go.RowKit Go.Maps
def nZ(w:World)(a:Addr):Prop:=∃cs t,w.heap[a.block]?=some (.cells cs t (0,0))
theorem NN{P:Program}{w:World}{tp te:TypeId}{j:TypeInfo}{a b:Addr}(hp:P.underlying tp=some (.pointer te))(hte:P.info? te=some j)(hsz:j.size≠0)(ha:nZ w a)(hb:nZ w b) :
  (Op.equal tp (.pointer (some a)) (.pointer (some b))).run P w=.ok (decide (a=b)) w:=by
 obtain⟨ca,ta,ha⟩:=ha
 obtain⟨cb,tb,hb⟩:=hb
 by_cases h:a=b
 ·subst h
  have hh:∀d:Nat,(Op.equalIn (d+1) tp (.pointer (some a)) (.pointer (some a))).run P w=.ok true w:=fun d=>by
   simp [Op.equalIn,run_underlying hp,sizeOf,typeInfo,hte,run_sameAddr_same]
  rw[decide_eq_true rfl]
  exact hh 9999
 ·have hh:∀d:Nat,(Op.equalIn (d+1) tp (.pointer (some a)) (.pointer (some b))).run P w=.ok false w:=fun d=>by
   simp [Op.equalIn,run_underlying hp,sizeOf,typeInfo,hte,hsz,run_sameAddr_other w h ha hb]
  rw[decide_eq_false h]
  exact hh 9999
def Fp(w:World)(es:List MapEntry):Prop:=∀e∈es,∃a,e.key=.pointer (some a)∧nZ w a
theorem Eb{P:Program}{w:World}{tp te:TypeId}{j:TypeInfo}{x:Addr}(hp:P.underlying tp=some (.pointer te))(hte:P.info? te=some j)(hsz:j.size≠0)(hx:nZ w x):∀(es:List MapEntry) (i:Nat),Fp w es →
  ((Instr.findAsking tp (.pointer (some x)) es i).run P w=.ok none w∧∀e∈es,e.key≠.pointer (some x))∨∃k e,(Instr.findAsking tp (.pointer (some x)) es i).run P w=.ok (some (i+k,e.val)) w∧es[k]?=some e∧e.key=.pointer (some x)
 | [],i,_=>.inl ⟨by simp [Instr.findAsking],by simp⟩
 | e::es,i,h=>by
  obtain⟨a,ea,pa⟩:=h e (List.mem_cons_self ..)
  have hq:=NN (P:=P) hp hte hsz hx pa
  rw[←ea] at hq
  by_cases hxa:x=a
  ·right
   refine⟨0,e,?_,rfl,by rw[ea,hxa]⟩
   rw[decide_eq_true hxa] at hq
   simp [Instr.findAsking,hq]
  ·rcases Eb hp hte hsz hx es (i+1) (fun e he=>h e (List.mem_cons_of_mem _ he)) with⟨h1,h2⟩ | ⟨k,e',h1,h2,h3⟩
   ·left
    refine⟨by simp [Instr.findAsking,hq,hxa,h1],fun e' he=>?_⟩
    rcases List.mem_cons.1 he with rfl | he
    ·rw[ea];intro hh;exact hxa (by simpa using hh.symm)
    ·exact h2 e' he
   ·right
    exact⟨k+1,e',by simp [Instr.findAsking,hq,hxa,h1];omega,by simpa using h2,h3⟩
theorem Ea{P:Program}{w:World}{tp te:TypeId}{j:TypeInfo}{x:Addr}(hp:P.underlying tp=some (.pointer te))(hte:P.info? te=some j)(hsz:j.size≠0)(hx:nZ w x)(es:List MapEntry)(h:Fp w es) :
  ((Instr.findKey tp (.pointer (some x)) es).run P w=.ok none w∧∀e∈es,e.key≠.pointer (some x))∨∃k e,(Instr.findKey tp (.pointer (some x)) es).run P w=.ok (some (k,e.val)) w∧es[k]?=some e∧e.key=.pointer (some x):=by
 cases es with
 | nil=>exact .inl ⟨by simp [Instr.findKey,run_underlying hp,Instr.findNow],by simp⟩
 | cons e es=>
  have hnow:Instr.findNow (.pointer te) (.pointer (some x)) (e::es) 0=none:=by simp [Instr.findNow,Instr.sameNow]
  rcases Eb hp hte hsz hx (e::es) 0 h with⟨h1,h2⟩ | ⟨k,e',h1,h2,h3⟩
  ·exact .inl ⟨by simp [Instr.findKey,run_underlying hp,hnow,h1],h2⟩
  ·rw[Nat.zero_add] at h1
   exact .inr ⟨k,e',by simp [Instr.findKey,run_underlying hp,hnow,h1],h2,h3⟩
def fD(w:World)(b:Nat)(I:Addr→Prop)(f:Addr→Int):Prop:=
 ∃es clock,w.heap[b]?=some (.map es clock)∧(∀e∈es.toList,∃a,e.key=.pointer (some a)∧e.val=.int .i64 (f a)∧I a)∧(∀a,(∀e∈es.toList,e.key≠.pointer (some a))→f a=0)∧∀(i i':Nat) (e e':MapEntry),es[i]?=some e→es[i']?=some e'→e.key=e'.key→i=i'
theorem fD.made(w:World)(I:Addr→Prop):fD (w.alloc (.map #[] 0)) w.heap.size I (fun _=>0):=
 ⟨#[],0,heap_alloc_new _ _,fun e he=>by simp at he,fun _ _=>rfl,fun i i' e e' h=>by simp at h⟩
theorem fD.look{P:Program}{w:World}{b:Nat}{I:Addr→Prop}{f:Addr→Int}(h:fD w b I f)(hI:∀a,I a→nZ w a){t tp te ti:TypeId}{j:TypeInfo}(ht:P.underlying t=some (.map tp ti))(hp:P.underlying tp=some (.pointer te))(hte:P.info? te=some j)(hsz:j.size≠0)(hz:(zeroValue ti).run P w=.ok (.int .i64 0) w){x:Addr}(hx:I x) :
  (Instr.lookup t (.map (some b)) (.pointer (some x)) false).run P w=.ok (.int .i64 (f x)) w:=by
 obtain⟨es,clock,hb,h1,h2,_⟩:=h
 have hck:∀em,(Instr.checkKey em 10000 tp (.pointer (some x))).run P w=.ok () w:=fun em=>by
  have:∀d:Nat,(Instr.checkKey em (d+1) tp (.pointer (some x))).run P w=.ok () w:=fun d=>by simp [Instr.checkKey,run_underlying hp]
  exact this 9999
 rcases Ea (P:=P) hp hte hsz (hI x hx) es.toList (fun e he=>by obtain⟨a,e1,_,e3⟩:=h1 e he;exact⟨a,e1,hI a e3⟩) with⟨hf,hn⟩ | ⟨k,e,hf,he,hk⟩
 ·rw[h2 x hn]
  simp [Instr.lookup,run_underlying ht,MapKept.run_getObj_map hb,hck,hf,hz]
 ·obtain⟨a,e1,e2,_⟩:=h1 e (List.mem_of_getElem? he)
  obtain rfl:a=x:=by rw[hk] at e1;simpa using e1.symm
  simp [Instr.lookup,run_underlying ht,MapKept.run_getObj_map hb,hck,hf,e2]
theorem fD.put{P:Program}{w:World}{b:Nat}{I:Addr→Prop}{f:Addr→Int}(h:fD w b I f)(hI:∀a,I a→nZ w a){t tp te ti:TypeId}{j:TypeInfo}(ht:P.underlying t=some (.map tp ti))(hp:P.underlying tp=some (.pointer te))(hte:P.info? te=some j)(hsz:j.size≠0){x:Addr}(hx:I x)(v:Int) :
  ∃w',(Instr.mapUpdate t (.map (some b)) (.pointer (some x)) (.int .i64 v)).run P w=.ok () w'∧fD w' b I (fun y=>if y=x then v else f y)∧w.grownBy w' (some b):=by
 obtain⟨es,clock,hb,h1,h2,h3⟩:=h
 have hlt:b<w.heap.size:=(bE hb).1
 have hck:(Instr.checkKey false 10000 tp (.pointer (some x))).run P w=.ok () w:=by
  have:∀d:Nat,(Instr.checkKey false (d+1) tp (.pointer (some x))).run P w=.ok () w:=fun d=>by simp [Instr.checkKey,run_underlying hp]
  exact this 9999
 have hst:(Instr.keyThatStays (.pointer (some x)) (.pointer (some x))).run P w=.ok (.pointer (some x)) w:=by simp [Instr.keyThatStays,Instr.sameBits]
 have hgr:∀o,w.grownBy { w with heap:=w.heap.setIfInBounds b o } (some b):=fun o=>⟨rfl,rfl,rfl,by simp,fun k _ hk=>by
  have:b≠k:=fun e=>hk (by rw[e])
  simp [this]⟩
 have hat:∀o,({ w with heap:=w.heap.setIfInBounds b o }:World).heap[b]?=some o:=fun o=>by simp [hlt]
 rcases Ea (P:=P) hp hte hsz (hI x hx) es.toList (fun e he=>by obtain⟨a,e1,_,e3⟩:=h1 e he;exact⟨a,e1,hI a e3⟩) with⟨hf,hn⟩ | ⟨k,e,hf,he,hk⟩
 ·refine⟨{ w with heap:=w.heap.setIfInBounds b (.map (es.push ⟨.pointer (some x),.int .i64 v,clock⟩) (clock+1)) },by simp [Instr.mapUpdate,run_underlying ht,MapKept.run_getObj_map hb,hck,hf,MapKept.run_setObj_map _ hb],⟨_,_,hat _,fun e he=>?_,fun a ha=>?_,fun i i' e e' hi hi' hee=>?_⟩,hgr _⟩
  ·rw[Array.toList_push,List.mem_append] at he
   rcases he with he | he
   ·obtain⟨a,e1,e2,e3⟩:=h1 e he
    have hne:a≠x:=fun hh=>hn e he (by rw[e1,hh])
    exact⟨a,e1,by dsimp only;rw[if_neg hne];exact e2,e3⟩
   ·obtain rfl:=List.mem_singleton.1 he
    exact⟨x,rfl,by dsimp only;rw[if_pos rfl],hx⟩
  ·have hne:a≠x:=fun hh=>ha ⟨.pointer (some x),.int .i64 v,clock⟩ (by simp) (by rw[hh])
   dsimp only
   rw[if_neg hne]
   exact h2 a fun e he=>ha e (by rw[Array.toList_push];exact List.mem_append_left _ he)
  ·rw[Array.getElem?_push] at hi hi'
   split at hi<;>split at hi'
   ·omega
   ·obtain rfl:=Option.some.inj hi
    exact absurd hee.symm (hn e' (by rw[←Array.mem_def];exact Array.mem_of_getElem? hi'))
   ·obtain rfl:=Option.some.inj hi'
    exact absurd hee (hn e (by rw[←Array.mem_def];exact Array.mem_of_getElem? hi))
   ·exact h3 i i' e e' hi hi' hee
 ·rw[Array.getElem?_toList] at he
  refine⟨{ w with heap:=w.heap.setIfInBounds b (.map (es.modify k fun e=>{ key:=.pointer (some x),val:=.int .i64 v,born:=e.born }) clock) },by simp [Instr.mapUpdate,run_underlying ht,MapKept.run_getObj_map hb,hck,hf,he,hk,hst,MapKept.run_setObj_map _ hb],⟨_,_,hat _,fun d hd=>?_,fun a ha=>?_,fun i i' d d' hi hi' hee=>?_⟩,hgr _⟩
  ·obtain⟨i,hi⟩:=List.mem_iff_getElem?.1 hd
   rw[Array.getElem?_toList,Array.getElem?_modify] at hi
   split at hi
   ·rename_i hik
    subst hik
    rw[he] at hi
    obtain rfl:=Option.some.inj hi
    exact⟨x,rfl,by dsimp only;rw[if_pos rfl],hx⟩
   ·rename_i hik
    obtain⟨a,e1,e2,e3⟩:=h1 d (by rw[←Array.mem_def];exact Array.mem_of_getElem? hi)
    have hne:a≠x:=fun hh=>hik (h3 _ _ _ _ he hi (by rw[hk,e1,hh]))
    exact⟨a,e1,by dsimp only;rw[if_neg hne];exact e2,e3⟩
  ·have hne:a≠x:=fun hh=>ha _ (List.mem_iff_getElem?.2 ⟨k,by rw[Array.getElem?_toList,Array.getElem?_modify,if_pos rfl,he];rfl⟩) (by rw[hh])
   dsimp only
   rw[if_neg hne]
   refine h2 a fun d hd hda=>?_
   obtain⟨i,hi⟩:=List.mem_iff_getElem?.1 hd
   rw[Array.getElem?_toList] at hi
   have hik:k≠i:=fun hh=>by
    subst hh
    rw[he] at hi
    obtain rfl:=Option.some.inj hi
    rw[hk] at hda
    exact hne (by simpa using hda.symm)
   exact ha d (List.mem_iff_getElem?.2 ⟨i,by rw[Array.getElem?_toList,Array.getElem?_modify,if_neg hik];exact hi⟩) hda
  ·have key:∀(i:Nat) (d:MapEntry),(es.modify k fun e=>{ key:=.pointer (some x),val:=.int .i64 v,born:=e.born })[i]?=some d→∃c,es[i]?=some c∧c.key=d.key:=fun i d hi=>by
    rw[Array.getElem?_modify] at hi
    split at hi
    ·rename_i hik
     subst hik
     rw[he] at hi
     obtain rfl:=Option.some.inj hi
     exact⟨e,he,hk⟩
    ·exact⟨d,hi,rfl⟩
   obtain⟨c,hc,ec⟩:=key i d hi
   obtain⟨c',hc',ec'⟩:=key i' d' hi'
   exact h3 i i' c c' hc hc' (by rw[ec,ec',hee])
structure Nd where
 op:ByteArray
 n:Int
 s:ByteArray
 o:Option Addr
 m:Nat
 c:Nat
def rA(q:Nd):List Value:=[.string q.op,.int .i64 q.n,.string q.s,.slice q.o q.m q.c]
def d9:List Nd→List Value
 | []=>[]
 | q::l=>.string q.op::.int .i64 q.n::.string q.s::.slice q.o q.m q.c::d9 l
theorem zU:∀a b:List Nd,d9 (a++b)=d9 a++d9 b
 | [],b=>rfl
 | q::a,b=>by simp [d9,zU a b]
theorem rC:∀l:List Nd,(d9 l).length=l.length*4
 | []=>rfl
 | q::l=>by have:=rC l;simp only[d9,List.length_cons,this];omega
theorem zT:∀{l:List Nd} {i:Nat} {q:Nd},l[i]?=some q→(d9 l)[i*4]?=some (.string q.op)∧(d9 l)[i*4+1]?=some (.int .i64 q.n)∧(d9 l)[i*4+2]?=some (.string q.s)∧(d9 l)[i*4+3]?=some (.slice q.o q.m q.c)
 | [],i,q,h=>by simp at h
 | x::l,0,q,h=>by
  obtain rfl:x=q:=by simpa using h
  exact⟨rfl,rfl,rfl,rfl⟩
 | x::l,i+1,q,h=>by
  obtain⟨h0,h1,h2,h3⟩:=zT (l:=l) (i:=i) (q:=q) (by simpa using h)
  refine⟨?_,?_,?_,?_⟩
  ·rw[show (i+1)*4=i*4+1+1+1+1 from by omega];simpa [d9] using h0
  ·rw[show (i+1)*4+1=i*4+1+1+1+1+1 from by omega];simpa [d9] using h1
  ·rw[show (i+1)*4+2=i*4+2+1+1+1+1 from by omega];simpa [d9] using h2
  ·rw[show (i+1)*4+3=i*4+3+1+1+1+1 from by omega];simpa [d9] using h3
theorem Oe(l:List Nd):∀u∈d9 l,u.oneCell'=true:=by
 induction l with
 | nil=>intro u hu;simp [d9] at hu
 | cons q l ih=>
  intro u hu
  simp only[d9,List.mem_cons] at hu
  rcases hu with rfl | rfl | rfl | rfl | hu
  ·rfl
  ·rfl
  ·rfl
  ·rfl
  ·exact ih u hu
inductive Cl(w:World)(S:Nat→Prop)(Q:List Addr):List Ex→List Nd→Prop
 | nil:Cl w S Q [] []
 | cons (op:ByteArray) (n:Int) (s:ByteArray) (l es:List Ex) (o:Option Addr) (c:Nat) (ms ns:List Nd):aB w S 4 (.slice o l.length c) l.length (d9 ms)→(∀b off i,o=some ⟨b,off,none⟩→i<l.length→(⟨b,off+i*4,none⟩:Addr)∈Q)→Cl w S Q l ms→Cl w S Q es ns→Cl w S Q (.mk op n s l::es) (⟨op,n,s,o,l.length,c⟩::ns)
theorem Cl.more{w:World}{S:Nat→Prop}{Q Q':List Addr}{l:List Ex}{ns:List Nd}(h:Cl w S Q l ns)(hq:∀a∈Q,a∈Q'):Cl w S Q' l ns:=by
 induction h with
 | nil=>exact .nil
 | cons op n s l es o c ms ns h1 h2 _ _ ih1 ih2=>exact .cons op n s l es o c ms ns h1 (fun b off i e hi=>hq _ (h2 b off i e hi)) ih1 ih2
theorem Cl.length{w:World}{S:Nat→Prop}{Q:List Addr}{l:List Ex}{ns:List Nd}(h:Cl w S Q l ns):l.length=ns.length:=by
 induction h with
 | nil=>rfl
 | cons op n s l es o c ms ns h1 h2 _ _ _ ih2=>simp [ih2]
theorem Cl.append{w:World}{S:Nat→Prop}{Q:List Addr}{l l':List Ex}{ns ns':List Nd}(h:Cl w S Q l ns)(h':Cl w S Q l' ns'):Cl w S Q (l++l') (ns++ns'):=by
 induction h with
 | nil=>exact h'
 | cons op n s l es o c ms ns h1 h2 h3 _ _ ih2=>exact .cons op n s l _ o c ms _ h1 h2 h3 ih2
theorem Cl.at{w:World}{S:Nat→Prop}{Q:List Addr}{l:List Ex}{ns:List Nd}(h:Cl w S Q l ns):∀{i:Nat} {q:Nd},ns[i]?=some q→∃e,l[i]?=some e∧Cl w S Q [e] [q]:=by
 induction h with
 | nil=>intro i q hq;simp at hq
 | cons op n s l es o c ms ns h1 h2 h3 _ _ ih2=>
  intro i q hq
  cases i with
  | zero=>
   obtain rfl:_=q:=by simpa using hq
   exact⟨_,rfl,.cons op n s l [] o c ms [] h1 h2 h3 .nil⟩
  | succ i=>simpa using ih2 (i:=i) (q:=q) (by simpa using hq)
theorem Cl.split{w:World}{S:Nat→Prop}{Q:List Addr}:∀{l:List Ex} {ns:List Nd} {q:Nd},Cl w S Q l (ns++[q])→∃l' e,l=l'++[e]∧Cl w S Q l' ns∧Cl w S Q [e] [q]
 | [],ns,q,h=>by have:=h.length;simp at this
 | x::l,[],q,h=>by
  have hl:=h.length
  obtain rfl:l=[]:=by cases l with
   | nil=>rfl
   | cons y l=>simp at hl
  exact⟨[],x,rfl,.nil,h⟩
 | x::l,y::ns,q,h=>by
  cases h with
  | cons op n s l0 es o c ms ns' h1 h2 h3 h4=>
   obtain⟨l',e,rfl,h5,h6⟩:=Cl.split h4
   exact⟨_::l',e,rfl,.cons op n s l0 l' o c ms ns h1 h2 h3 h5,h6⟩
theorem Cl.one{w:World}{S:Nat→Prop}{Q:List Addr}{e:Ex}{q:Nd}(h:Cl w S Q [e] [q]):∃l ms,e=.mk q.op q.n q.s l∧q.m=l.length∧aB w S 4 (.slice q.o q.m q.c) q.m (d9 ms)∧(∀b off i,q.o=some ⟨b,off,none⟩→i<q.m→(⟨b,off+i*4,none⟩:Addr)∈Q)∧Cl w S Q l ms:=by
 cases h with
 | cons op n s l es o c ms ns h1 h2 h3 _=>exact⟨l,ms,rfl,rfl,h1,h2,h3⟩
theorem aI.cl{w:World}{S:Nat→Prop}{l:List Ex}{xs:List Value}(h:aI w S l xs):∃Q ns,xs=d9 ns∧Cl w S Q l ns∧Q.length+l.length≤aC l:=by
 induction h with
 | nil=>exact⟨[],[],rfl,.nil,by simp [aC]⟩
 | cons op n s l es lv xs ys h1 _ _ ih1 ih2=>
  obtain⟨Q1,ms,rfl,c1,z1⟩:=ih1
  obtain⟨Q2,ns,rfl,c2,z2⟩:=ih2
  obtain⟨o,c,rfl⟩:=h1.form
  refine⟨Q1++Q2++(List.range l.length).map fun i=>(match o with | some a=>⟨a.block,a.off+i*4,none⟩ | none=>⟨0,0,none⟩),⟨op,n,s,o,l.length,c⟩::ns,rfl,.cons op n s l es o c ms ns h1 ?_ (c1.more fun a ha=>?_) (c2.more fun a ha=>?_),?_⟩
  ·rintro b off i rfl hi
   exact List.mem_append_right _ (List.mem_map.2 ⟨i,List.mem_range.2 hi,rfl⟩)
  ·exact List.mem_append_left _ (List.mem_append_left _ ha)
  ·exact List.mem_append_left _ (List.mem_append_right _ ha)
  ·simp only[List.length_append,List.length_map,List.length_range,List.length_cons,aC,aJ]
   omega
def nA(w:World)(a:Addr)(q:Nd):Prop:=∀k x,(rA q)[k]?=some x→w.cell? ⟨a.block,a.off+k,none⟩=some x
theorem nA.same{w:World}{a:Addr}{q r:Nd}(h:nA w a q)(g:nA w a r):q=r:=by
 have h0:=h 0 _ rfl
 have h1:=h 1 _ rfl
 have h2:=h 2 _ rfl
 have h3:=h 3 _ rfl
 have g0:=g 0 _ rfl
 have g1:=g 1 _ rfl
 have g2:=g 2 _ rfl
 have g3:=g 3 _ rfl
 rw[h0] at g0
 rw[h1] at g1
 rw[h2] at g2
 rw[h3] at g3
 obtain⟨a1,a2,a3,a4,a5,a6⟩:=q
 obtain⟨b1,b2,b3,b4,b5,b6⟩:=r
 simp at g0 g1 g2 g3
 obtain⟨rfl,rfl,rfl⟩:=g3
 subst g0 g1 g2
 rfl
theorem nA.BX{w:World}{S:Nat→Prop}{b off n c i:Nat}{ms:List Nd}{q:Nd}(h:aB w S 4 (.slice (some ⟨b,off,none⟩) n c) n (d9 ms))(hq:ms[i]?=some q):nA w ⟨b,off+i*4,none⟩ q:=by
 have hl:0<(d9 ms).length:=by
  rw[rC]
  have:=(aX hq).1
  omega
 obtain⟨b',off',c',e,_,_,hc⟩:=h.at hl
 injection e with e
 injection e with e
 injection e with e1 e2
 subst e1 e2
 obtain⟨x0,x1,x2,x3⟩:=zT hq
 intro k x hx
 match k,hx with
 | 0,hx=>obtain rfl:=Option.some.inj hx;exact hc _ _ x0
 | 1,hx=>obtain rfl:=Option.some.inj hx;have:=hc _ _ x1;rwa [←Nat.add_assoc] at this
 | 2,hx=>obtain rfl:=Option.some.inj hx;have:=hc _ _ x2;rwa [←Nat.add_assoc] at this
 | 3,hx=>obtain rfl:=Option.some.inj hx;have:=hc _ _ x3;rwa [←Nat.add_assoc] at this
 | k+4,hx=>simp [rA] at hx
def eB(kd:List UInt8→Option Int)(f:Addr→Int)(q:Nd)(k:Nat):Prop:=jA kd q.op q.n q.s q.m=true∧∀b off i,q.o=some ⟨b,off,none⟩→i<k→f ⟨b,off+i*4,none⟩≠0
theorem eB.more{kd:List UInt8→Option Int}{f g:Addr→Int}{q:Nd}{k:Nat}(h:eB kd f q k)(hg:∀a,f a≠0→g a≠0):eB kd g q k:=⟨h.1,fun b off i e hi=>hg _ (h.2 b off i e hi)⟩
theorem Cl.formed{w:World}{S:Nat→Prop}{Q:List Addr}{kd:List UInt8→Option Int}{f:Addr→Int}{l:List Ex}{ns:List Nd}(h:Cl w S Q l ns)(hf:∀a,f a≠0→∃q,nA w a q∧eB kd f q q.m):(∀q∈ns,eB kd f q q.m)→bG kd l=true:=by
 induction h with
 | nil=>intro _;unfold bG;rfl
 | cons op n s l es o c ms ns h1 h2 h3 _ ih1 ih2=>
  intro hd
  have hq:=hd _ (List.mem_cons_self ..)
  unfold bG dG
  rw[ih2 (fun q hq=>hd q (List.mem_cons_of_mem _ hq)),ih1 (fun q hq'=>?_),hq.1]
  ·rfl
  ·obtain⟨i,hi⟩:=List.mem_iff_getElem?.1 hq'
   have hil:=(aX hi).1
   have hml:=h3.length
   obtain⟨b,off,c',e,_,_,_⟩:=h1.at (by rw[rC];omega)
   injection e with e e2 e3
   subst e
   obtain⟨r,r1,r2⟩:=hf _ (hq.2 b off i rfl (by simp only;omega))
   have:=nA.BX h1 hi
   rw[r1.same this] at r2
   exact r2
def left(Q:List Addr)(f:Addr→Int):Nat:=Q.countP fun a=>f a==0
theorem LM(Q:List Addr)(f:Addr→Int):left Q f≤Q.length:=List.countP_le_length
theorem CF(Q:List Addr){f g:Addr→Int}(h:∀a,f a≠0→g a≠0):left Q g≤left Q f:=by
 unfold left
 refine List.countP_mono_left fun a _ ha=>?_
 simp only[beq_iff_eq] at ha ⊢
 exact Decidable.byContradiction fun hn=>h a hn ha
theorem CG:∀(Q:List Addr) {f g:Addr→Int} {a:Addr},a∈Q→f a=0→g a≠0→(∀a,f a≠0→g a≠0)→left Q g+1≤left Q f
 | [],f,g,a,h,_,_,_=>by simp at h
 | x::Q,f,g,a,h,h0,h1,h2=>by
  unfold left
  rw[List.countP_cons,List.countP_cons]
  by_cases e:a=x
  ·subst e
   have:=CF Q h2
   unfold left at this
   simp [h0,h1]
   exact this
  ·have hm:a∈Q:=by
    rcases List.mem_cons.1 h with h | h
    ·exact absurd h e
    ·exact h
   have:=CG Q hm h0 h1 h2
   unfold left at this
   by_cases hx:g x=0
   ·have:f x=0:=Decidable.byContradiction fun hn=>h2 x hn hx
    simp [hx,this]
    omega
   ·simp [hx]
    split<;>omega
theorem fD.one{w:World}{b:Nat}{I:Addr→Prop}{f g:Addr→Int}(h:fD w b I f)(h':fD w b I g):f=g:=by
 obtain⟨es,clock,hb,h1,h2,_⟩:=h
 obtain⟨es',clock',hb',h1',h2',_⟩:=h'
 obtain⟨rfl,_⟩:es=es'∧clock=clock':=by rw[hb] at hb';simpa using hb'
 funext a
 by_cases hk:∃e∈es.toList,e.key=.pointer (some a)
 ·obtain⟨e,he,hk⟩:=hk
  obtain⟨x,e1,e2,_⟩:=h1 e he
  obtain⟨y,e1',e2',_⟩:=h1' e he
  obtain rfl:a=x:=by rw[hk] at e1;simpa using e1
  obtain rfl:a=y:=by rw[hk] at e1';simpa using e1'
  rw[e2] at e2'
  simpa using e2'
 ·have hn:∀e∈es.toList,e.key≠.pointer (some a):=fun e he hh=>hk ⟨e,he,hh⟩
  rw[h2 a hn,h2' a hn]
structure Fb(gs gs':List (Int×Int))(k:Nat)(x:Int)(f:List Bool→Bool):Prop where
 ext:Ext gs gs'
 len:gs'.length≤gs.length+k
 has:dU gs' x
 val:∀inp,eF gs' inp x=f inp
theorem Fb.and{gs:List (Int×Int)}(h:Gs gs){a b:Int}(ha:dU gs a)(hb:dU gs b):Fb gs (iI gs a b) 1 (mW gs a b) (fun inp=>eF gs inp a&&eF gs inp b):=
 ⟨EM _ _ _,(OY gs a b).2,OW ha hb,fun inp=>F5 h inp ha hb⟩
def Fe(F:Nat→Prop)(w:World)(v:Value)(l:List Int):Prop:=l.length≤1000∧∃o c,v=.slice o l.length c∧∀k x,l[k]?=some x→∃b off,o=some ⟨b,off,none⟩∧¬F b∧w.cell? ⟨b,off+k,none⟩=some (.int .i64 x)
theorem Oh{w:World}{p:Addr}{v:Value}(hc:w.cell? p=some v):p.block<w.heap.size:=by
 rcases Nat.lt_or_ge p.block w.heap.size with h | h
 ·exact h
 ·simp [World.cell?,Array.getElem?_eq_none h] at hc
theorem Fe.at{F:Nat→Prop}{w:World}{o:Option Addr}{n c:Nat}{l:List Int}(h:Fe F w (.slice o n c) l){j:Nat}{x:Int}(hx:l[j]?=some x):∃b off,o=some ⟨b,off,none⟩∧b<w.heap.size∧∀F' w',aY F F' w w'→¬F' b∧w'.cell? ⟨b,off+j,none⟩=some (.int .i64 x):=by
 obtain⟨_,o',c',e,h⟩:=h
 obtain⟨b,off,rfl,hn,hc⟩:=h j x hx
 obtain⟨rfl,_,_⟩:o=some ⟨b,off,none⟩∧n=l.length∧c=c':=by simpa using e
 exact⟨b,off,rfl,Oh hc,fun F' w' hm=>⟨(hm.cell hc hn).2,(hm.cell hc hn).1⟩⟩
structure Fa(gs gs':List (Int×Int))(k:Nat)(l:List Int)(f:List Bool→Nat→Bool):Prop where
 ext:Ext gs gs'
 len:gs'.length≤gs.length+k
 has:∀x∈l,dU gs' x
 val:∀inp (i:Nat) x,l[i]?=some x→eF gs' inp x=f inp i
theorem dU.one(gs:List (Int×Int)):dU gs 1:=by unfold dU;omega
theorem Fa.nil{gs gs':List (Int×Int)}{k:Nat}(h:Ext gs gs')(hl:gs'.length≤gs.length+k)(f:List Bool→Nat→Bool):Fa gs gs' k [] f:=⟨h,hl,fun x hx=>by simp at hx,fun _ i x hx=>by simp at hx⟩
end Go.Proofs.YtmgfakcccfahaaaGreatDoor
