/-
  A FLAT PROGRAM AND INPUTS THAT ARE HANDED IN, OPENED: what their bulk gives.
-/
import Derived.Test.YtmgfakcccfahaaaGreatDoorN44
import Derived.Deep.Strs
import Derived.SizedLaws
namespace Go.Proofs.YtmgfakcccfahaaaGreatDoor
open Go.RowKit Go.Deep Go.WideShapes Go.ChangeShapes
set_option maxRecDepth 100000

abbrev jK:Nat→Prop:=fun _=>True
theorem zK{g:Nat→List Value}{sz:Nat}:∀{n:Nat},(∀i,i<n→(g i).length=sz)→((List.range n).flatMap g).length=n*sz
 | 0,_=>by simp
 | n+1,hg=>by
  rw[List.range_succ,List.flatMap_append,List.length_append,zK (fun i hi=>hg i (by omega))]
  simp only[List.flatMap_cons,List.flatMap_nil,List.append_nil,hg n (by omega),Nat.add_mul,Nat.one_mul]
theorem DZ{g:Nat→List Value}{sz:Nat}:∀{n:Nat},(∀i,i<n→(g i).length=sz)→∀{k:Nat} {x:Value},((List.range n).flatMap g)[k]?=some x→∃i j,i<n∧k=i*sz+j∧(g i)[j]?=some x
 | 0,_,k,x,h=>by simp at h
 | n+1,hg,k,x,h=>by
  have hl:=zK (n:=n) (fun i hi=>hg i (by omega))
  rw[List.range_succ,List.flatMap_append,List.getElem?_append] at h
  split at h
  ·obtain⟨i,j,h1,h2,h3⟩:=DZ (fun i hi=>hg i (by omega)) h
   exact⟨i,j,by omega,h2,h3⟩
  ·rw[hl] at h
   refine⟨n,k-n*sz,by omega,by omega,?_⟩
   simpa using h
theorem IK{W:World}{a:Addr}{n cap sz:Nat}{g:Nat→List Value}(hsz:0<sz)(hcap:n≤cap)(hn:n≤maxLen)(hg:∀i,i<n→(g i).length=sz)(hc:∀i,i<n→∀j x,(g i)[j]?=some x→W.cell? (a.add (i*sz+j))=some x):aB W jK sz (.slice (some a) n cap) n ((List.range n).flatMap g):=by
 refine⟨zK hg,hn,some a,cap,rfl,fun k x hx=>?_,hcap⟩
 obtain⟨i,j,hi,rfl,hx'⟩:=DZ hg hx
 have h:=hc i hi j x hx'
 obtain⟨b,off,spot⟩:=a
 cases spot with
 | some k=>
  have h0:=hc 0 (by omega) 0 _ (mP (by rw[hg 0 (by omega)];exact hsz))
  simp [Addr.add,World.cell?] at h0
  split at h0<;>simp at h0
 | none=>
  rw[add_plain] at h
  exact⟨b,off,rfl,trivial,h⟩
theorem Oo{H:Type}{d:DataW H}{l:List (DataW H)}(h:d∈l):Rows.uptoBulk d≤Rows.uptoBulkAll l:=by
 induction l with
 | nil=>cases h
 | cons x r ih=>
  simp only[Rows.uptoBulkAll]
  rcases List.mem_cons.1 h with e | e
  ·subst e;omega
  ·have:=ih e;omega
theorem En{H:Type}{D:Nat→DataW H}{m:Nat→Nat}:∀{n:Nat},(∀i,i<n→m i≤Rows.uptoBulk (D i))→((List.range n).map m).sum≤Rows.uptoBulkAll ((List.range n).map D)
 | 0,_=>by simp
 | n+1,h=>by
  have happ:∀l r:List (DataW H),Rows.uptoBulkAll (l++r)=Rows.uptoBulkAll l+Rows.uptoBulkAll r:=fun l r=>by
   induction l with
   | nil=>simp [Rows.uptoBulkAll]
   | cons x l ih=>simp only[List.cons_append,Rows.uptoBulkAll,ih];omega
  have ih:=En (n:=n) (fun i hi=>h i (by omega))
  have hn:=h n (by omega)
  rw[List.range_succ,List.map_append,List.map_append,happ,List.sum_append]
  simp only[List.map_cons,List.map_nil,List.sum_cons,List.sum_nil,Rows.uptoBulkAll]
  omega
theorem aI.range{W:World}{f:Nat→Ex}{g:Nat→List Value}:∀{n:Nat},(∀i,i<n→aI W jK [f i] (g i))→aI W jK ((List.range n).map f) ((List.range n).flatMap g)
 | 0,_=>.nil
 | n+1,h=>by
  rw[List.range_succ,List.map_append,List.flatMap_append]
  exact(aI.range (fun i hi=>h i (by omega))).append (by simpa using h n (by omega))
theorem Ay{f:Nat→Ex}{g:Nat→List Value}:∀{n:Nat},(∀i,i<n→g i=[.string (f i).op,.int .i64 (f i).n])→(List.range n).flatMap g=bR ((List.range n).map f)
 | 0,_=>rfl
 | n+1,h=>by
  have ih:=Ay (n:=n) (fun i hi=>h i (by omega))
  unfold bR at ih ⊢
  rw[List.range_succ,List.map_append,List.flatMap_append,List.flatMap_append,ih]
  simp [h n (by omega)]
theorem Cq{f:Nat→Ex}{g:Nat→List Value}:∀{n:Nat},(∀i,i<n→g i=[.string (f i).op])→(List.range n).flatMap g=gU ((List.range n).map f)
 | 0,_=>rfl
 | n+1,h=>by
  have ih:=Cq (n:=n) (fun i hi=>h i (by omega))
  unfold gU at ih ⊢
  rw[List.range_succ,List.map_append,List.flatMap_append,List.map_append,ih]
  simp [h n (by omega)]
theorem LH{α:Type}{l:List α}(h:l.length=4):∃x y z u,l=[x,y,z,u]:=by
 match l,h with
 | [x,y,z,u],_=>exact⟨x,y,z,u,rfl⟩
theorem LJ{α:Type}{l:List α}(h:l.length=2):∃x y,l=[x,y]:=by
 match l,h with
 | [x,y],_=>exact⟨x,y,rfl⟩
theorem LG{α:Type}{l:List α}(h:l.length=5):∃x y z u v,l=[x,y,z,u,v]:=by
 match l,h with
 | [x,y,z,u,v],_=>exact⟨x,y,z,u,v,rfl⟩
theorem LF{α:Type}{l:List α}(h:l.length=6):∃x y z u v w,l=[x,y,z,u,v,w]:=by
 match l,h with
 | [x,y,z,u,v,w],_=>exact⟨x,y,z,u,v,w,rfl⟩
theorem cE:Tryz.prog.cellsOf 79=4:=by kernel_rfl
theorem cV:Tryz.prog.cellsOf 156=2:=by kernel_rfl
theorem Em:Tryz.prog.cellsOf 90=6:=by kernel_rfl
theorem Oi:Tryz.prog.cellsOf 27=5:=by kernel_rfl
theorem cS:Tryz.prog.cellsOf 9=1:=by kernel_rfl
theorem zW:Tryz.prog.cellsOf 3=1:=by kernel_rfl
theorem El:Tryz.prog.cellsOf 25=1:=by kernel_rfl
theorem Oj:Tryz.prog.cellsOf 22=1:=by kernel_rfl
theorem Ol:Tryz.prog.cellsOf 23=1:=by kernel_rfl
theorem Om:Tryz.prog.cellsOf 24=1:=by kernel_rfl
theorem Fit.append{N:Nat}{a b:List Ex}(h:Fit N a)(g:Fit N b):Fit N (a++b):=by
 induction h with
 | nil=>exact g
 | cons op n s l es h1 h2 _ _ ih=>exact .cons op n s l _ h1 h2 ih
theorem Fit.range{N:Nat}{f:Nat→Ex}:∀{n:Nat},(∀i,i<n→Fit N [f i])→Fit N ((List.range n).map f)
 | 0,_=>.nil
 | n+1,h=>by
  rw[List.range_succ,List.map_append]
  exact(Fit.range (fun i hi=>h i (by omega))).append (by simpa using h n (by omega))
theorem cB.app{w:World}{S:Nat→Prop}{fs gs:List Fw}{xs ys:List Value}(h:cB w S fs xs)(g:cB w S gs ys):cB w S (fs++gs) (xs++ys):=by
 induction h with
 | nil=>exact g
 | cons name kind e fs xs zs h1 _ ih=>
  have:=cB.cons name kind e (fs++gs) xs (zs++ys) h1 ih
  simpa using this
theorem cB.range{W:World}{f:Nat→Fw}{g:Nat→List Value}:∀{n:Nat},(∀i,i<n→cB W jK [f i] (g i))→cB W jK ((List.range n).map f) ((List.range n).flatMap g)
 | 0,_=>.nil
 | n+1,h=>by
  rw[List.range_succ,List.map_append,List.flatMap_append]
  exact(cB.range (fun i hi=>h i (by omega))).app (by simpa using h n (by omega))
theorem FE(e:Ex):1≤fG e:=by
 cases e
 unfold fG
 omega
theorem tX:∀a b:List Ex,bQ (a++b)=bQ a+bQ b
 | [],b=>by simp [bQ]
 | x::a,b=>by rw[List.cons_append,bQ,bQ,tX a b];omega
theorem tV{f:Nat→Ex}:∀n:Nat,bQ ((List.range n).map f)=((List.range n).map fun i=>fG (f i)).sum
 | 0=>by simp [bQ]
 | n+1=>by
  rw[List.range_succ,List.map_append,List.map_append,tX,List.sum_append,tV n]
  simp [bQ]
theorem rU:∀{l:List Ex},(∀e∈l,eG e)→gM l
 | [],_=>trivial
 | e::_,h=>⟨h e List.mem_cons_self,rU fun x hx=>h x (List.mem_cons_of_mem _ hx)⟩
theorem uO:∀{l:List Ex},gM l→∀e∈l,eG e
 | x::l,h,e,he=>by
  rcases List.mem_cons.1 he with rfl | he
  ·exact h.1
  ·exact uO h.2 e he
theorem Bd{n:Nat}{m:Nat→Nat}(h:∀i,i<n→1≤m i):n≤((List.range n).map m).sum:=by
 induction n with
 | zero=>simp
 | succ n ih=>
  have h1:=ih fun i hi=>h i (by omega)
  have h2:=h n (by omega)
  rw[List.range_succ,List.map_append,List.sum_append]
  simp only[List.map_cons,List.map_nil,List.sum_cons,List.sum_nil]
  omega
theorem G5{n:Nat}{m:Nat→Nat}{i:Nat}(h:i<n):m i≤((List.range n).map m).sum:=by
 induction n with
 | zero=>omega
 | succ n ih=>
  rw[List.range_succ,List.map_append,List.sum_append]
  simp only[List.map_cons,List.map_nil,List.sum_cons,List.sum_nil]
  by_cases e:i=n
  ·subst e;omega
  ·have:=ih (by omega);omega
theorem Bg{m k:Nat→Nat}:∀{n:Nat},(∀i,i<n→m i≤k i)→((List.range n).map m).sum≤((List.range n).map k).sum
 | 0,_=>by simp
 | n+1,h=>by
  have h1:=Bg (n:=n) fun i hi=>h i (by omega)
  have h2:=h n (by omega)
  rw[List.range_succ,List.map_append,List.map_append,List.sum_append,List.sum_append]
  simp only[List.map_cons,List.map_nil,List.sum_cons,List.sum_nil]
  omega
theorem Am(l:List Ex):l.length≤bQ l:=Nat.le_trans (uK l) (uI l)
section
variable {H:Type} {enc:TypeId×Value→H} {W:World} {sp:Nat→Bool}
theorem Gq{P:Program}{t:TypeId}{f0 f1:Field}{fuel:Nat}{cs:List Value}{x:DataW H×List MemPlace}(ht:P.underlying t=some (.struct #[f0,f1]))(h:DataW.trod enc P W 0 sp true fuel t cs=some x) :
  ∃y0 y1 n,x.1=.agg [y0.1,y1.1]∧cs.length=P.cellsOf t∧DataW.trod enc P W 0 sp true n f0.type ((cs.drop f0.offset).take (P.cellsOf f0.type))=some y0∧DataW.trod enc P W 0 sp true n f1.type ((cs.drop f1.offset).take (P.cellsOf f1.type))=some y1:=by
 obtain⟨xs,n,_,rfl,hl,hlen,hf⟩:=DataW.trod_struct ht h
 match xs,hlen with
 | [y0,y1],_=>exact⟨y0,y1,n,by simp,hl,by simpa using hf 0 f0 rfl,by simpa using hf 1 f1 rfl⟩
theorem Gp{P:Program}{t:TypeId}{f0 f1 f2:Field}{fuel:Nat}{cs:List Value}{x:DataW H×List MemPlace}(ht:P.underlying t=some (.struct #[f0,f1,f2]))(h:DataW.trod enc P W 0 sp true fuel t cs=some x) :
  ∃y0 y1 y2 n,x.1=.agg [y0.1,y1.1,y2.1]∧cs.length=P.cellsOf t∧DataW.trod enc P W 0 sp true n f0.type ((cs.drop f0.offset).take (P.cellsOf f0.type))=some y0∧DataW.trod enc P W 0 sp true n f1.type ((cs.drop f1.offset).take (P.cellsOf f1.type))=some y1∧DataW.trod enc P W 0 sp true n f2.type ((cs.drop f2.offset).take (P.cellsOf f2.type))=some y2:=by
 obtain⟨xs,n,_,rfl,hl,hlen,hf⟩:=DataW.trod_struct ht h
 match xs,hlen with
 | [y0,y1,y2],_=>exact⟨y0,y1,y2,n,by simp,hl,by simpa using hf 0 f0 rfl,by simpa using hf 1 f1 rfl,by simpa using hf 2 f2 rfl⟩
theorem Gn{P:Program}{t:TypeId}{f0 f1 f2 f3:Field}{fuel:Nat}{cs:List Value}{x:DataW H×List MemPlace}(ht:P.underlying t=some (.struct #[f0,f1,f2,f3]))(h:DataW.trod enc P W 0 sp true fuel t cs=some x) :
  ∃y0 y1 y2 y3 n,x.1=.agg [y0.1,y1.1,y2.1,y3.1]∧cs.length=P.cellsOf t∧DataW.trod enc P W 0 sp true n f0.type ((cs.drop f0.offset).take (P.cellsOf f0.type))=some y0∧DataW.trod enc P W 0 sp true n f1.type ((cs.drop f1.offset).take (P.cellsOf f1.type))=some y1∧DataW.trod enc P W 0 sp true n f2.type ((cs.drop f2.offset).take (P.cellsOf f2.type))=some y2∧DataW.trod enc P W 0 sp true n f3.type ((cs.drop f3.offset).take (P.cellsOf f3.type))=some y3:=by
 obtain⟨xs,n,_,rfl,hl,hlen,hf⟩:=DataW.trod_struct ht h
 match xs,hlen with
 | [y0,y1,y2,y3],_=>exact⟨y0,y1,y2,y3,n,by simp,hl,by simpa using hf 0 f0 rfl,by simpa using hf 1 f1 rfl,by simpa using hf 2 f2 rfl,by simpa using hf 3 f3 rfl⟩
theorem Gm{P:Program}{t:TypeId}{f0 f1 f2 f3 f4:Field}{fuel:Nat}{cs:List Value}{x:DataW H×List MemPlace}(ht:P.underlying t=some (.struct #[f0,f1,f2,f3,f4]))(h:DataW.trod enc P W 0 sp true fuel t cs=some x) :
  ∃y0 y1 y2 y3 y4 n,x.1=.agg [y0.1,y1.1,y2.1,y3.1,y4.1]∧cs.length=P.cellsOf t∧DataW.trod enc P W 0 sp true n f0.type ((cs.drop f0.offset).take (P.cellsOf f0.type))=some y0∧DataW.trod enc P W 0 sp true n f1.type ((cs.drop f1.offset).take (P.cellsOf f1.type))=some y1∧DataW.trod enc P W 0 sp true n f2.type ((cs.drop f2.offset).take (P.cellsOf f2.type))=some y2∧DataW.trod enc P W 0 sp true n f3.type ((cs.drop f3.offset).take (P.cellsOf f3.type))=some y3∧DataW.trod enc P W 0 sp true n f4.type ((cs.drop f4.offset).take (P.cellsOf f4.type))=some y4:=by
 obtain⟨xs,n,_,rfl,hl,hlen,hf⟩:=DataW.trod_struct ht h
 match xs,hlen with
 | [y0,y1,y2,y3,y4],_=>exact⟨y0,y1,y2,y3,y4,n,by simp,hl,by simpa using hf 0 f0 rfl,by simpa using hf 1 f1 rfl,by simpa using hf 2 f2 rfl,by simpa using hf 3 f3 rfl,by simpa using hf 4 f4 rfl⟩
theorem rY{α:Type}(d0:α){t e:TypeId}{sz:Nat}{P:α→List Value→Prop}{M:α→Nat}{R:α→Prop}{N:Nat}(ht:Tryz.prog.underlying t=some (.slice e))(hc:Tryz.prog.cellsOf e=sz)(hsz0:0<sz)
  (elem:∀(fuel:Nat) (cs:List Value) (x:DataW H×List MemPlace),SizeOf.sizeOf x.1<N→DataW.trod enc Tryz.prog W 0 sp true fuel e cs=some x→∃ex,P ex cs∧M ex≤Rows.uptoBulk x.1∧(Rows.uptoBulk x.1≤1048576→R ex))
  {fuel:Nat} {cs:List Value} {x:DataW H×List MemPlace} (h:DataW.trod enc Tryz.prog W 0 sp true fuel t cs=some x) (hN:SizeOf.sizeOf x.1≤N) :
  ∃(o:Option Addr) (n c:Nat) (f:Nat→α) (g:Nat→List Value),cs=[.slice o n c]∧aB W jK sz (.slice o n c) n ((List.range n).flatMap g)∧(∀i,i<n→P (f i) (g i))∧((List.range n).map fun i=>M (f i)).sum≤Rows.uptoBulk x.1∧(Rows.uptoBulk x.1≤1048576→∀i,i<n→R (f i)):=by
 rcases open_slice ht h with⟨rfl,rfl⟩ | ⟨a,len,cap,m,n,D,Pl,rfl,_,hl,hm,hmm,rfl,hx⟩
 ·exact⟨none,0,0,fun _=>d0,fun _=>[],rfl,⟨by simp,by unfold maxLen;omega,none,0,rfl,fun k x hx=>by simp at hx,Nat.le_refl _⟩,fun i hi=>absurd hi (Nat.not_lt_zero _),by simp,fun _ i hi=>absurd hi (Nat.not_lt_zero _)⟩
 have hlm:len≤m:=by rw[hmm];split<;>omega
 have each:∀i,i<len→∃q:α×List Value,q.2.length=sz∧(∀j x,q.2[j]?=some x→W.cell? (a.add (i*sz+j))=some x)∧P q.1 q.2∧M q.1≤Rows.uptoBulk (D i)∧(Rows.uptoBulk (D i)≤1048576→R q.1):=by
  intro i hi
  obtain⟨cs',h1,h2⟩:=hx i (by omega)
  rw[hc] at h1
  obtain⟨_,hlen,hcell⟩:=World.cells?_some h1
  have hmem:D i∈(List.range len).map D:=List.mem_map.2 ⟨i,List.mem_range.2 hi,rfl⟩
  have hsz:SizeOf.sizeOf (D i)<N:=by
   have:=List.sizeOf_lt_of_mem hmem
   simp only[DataW.slice.sizeOf_spec] at hN
   omega
  obtain⟨ex,hP,hM,hR⟩:=elem n cs' (D i,Pl i) hsz h2
  refine⟨(ex,cs'),hlen,fun j x hx=>?_,hP,hM,hR⟩
  have hj:j<sz:=by rw[←hlen];exact(aX hx).1
  have:=hcell j hj
  rw[add_add,hx] at this
  exact this
 have:Inhabited (α×List Value):=⟨(d0,[])⟩
 obtain⟨q,hq⟩:=choose_lt each
 refine⟨some a,len,cap,fun i=>(q i).1,fun i=>(q i).2,rfl,IK hsz0 (by omega) (by omega) (fun i hi=>(hq i hi).1) (fun i hi=>(hq i hi).2.1),fun i hi=>(hq i hi).2.2.1,?_,fun hw i hi=>(hq i hi).2.2.2.2 ?_⟩
 ·have:=En (D:=D) (m:=fun i=>M (q i).1) (fun i hi=>(hq i hi).2.2.2.1)
  simp only[Rows.uptoBulk]
  omega
 ·have:=Oo (List.mem_map.2 ⟨i,List.mem_range.2 hi,rfl⟩:D i∈(List.range len).map D)
  simp only[Rows.uptoBulk] at hw
  omega
theorem size_bytes(s:ByteArray):s.size=s.data.toList.length:=by cases s;rfl
theorem tH{d:DataW H}{bytes:List UInt8}(h:d=.lit (.string bytes)):Rows.uptoBulk d=bytes.length+1:=by
 subst h
 simp [Rows.uptoBulk]
theorem xZ:∀(N fuel:Nat) (cs:List Value) (x:DataW H×List MemPlace),SizeOf.sizeOf x.1<N→DataW.trod enc Tryz.prog W 0 sp true fuel 79 cs=some x→∃ex,aI W jK [ex] cs∧fG ex≤Rows.uptoBulk x.1∧(Rows.uptoBulk x.1≤1048576→eG ex∧Fit 2199023255552 [ex])
 | 0,_,_,_,h,_=>absurd h (Nat.not_lt_zero _)
 | N+1,fuel,cs,x,hN,h=>by
  obtain⟨y0,y1,y2,y3,n,hx,hl,u0,u1,u2,u3⟩:=Gn Tryz.underlying79 h
  rw[cE] at hl
  obtain⟨v0,v1,v2,v3,rfl⟩:=LH hl
  simp only[cS,zW,El,List.drop,List.take] at u0 u1 u2 u3
  rw[hx] at hN
  rw[hx]
  obtain⟨s0,e0,hd0,_⟩:=DataW.trod_string Tryz.underlying9 u0
  obtain⟨n1,e1,_,_⟩:=DataW.trod_int Tryz.underlying3 u1
  obtain⟨s2,e2,hd2,_⟩:=DataW.trod_string Tryz.underlying9 u2
  have h3:SizeOf.sizeOf y3.1≤N:=by
   simp only[DataW.agg.sizeOf_spec,List.cons.sizeOf_spec] at hN
   omega
  obtain⟨o,m,c,f,g,e3,hrow,hP,hM,hR⟩:=rY (Ex.mk ⟨#[]⟩ 0 ⟨#[]⟩ []) (N:=N) (M:=fG) (R:=fun ex=>eG ex∧Fit 2199023255552 [ex]) Tryz.underlying25 cE (by omega) (fun fuel cs x hx h=>xZ N fuel cs x hx h) u3 h3
  simp only[List.cons.injEq,and_true] at e0 e1 e2 e3
  subst e0 e1 e2 e3
  have hm:((List.range m).map f).length=m:=by simp
  have hb0:=tH (congrArg Prod.fst hd0)
  have hb2:=tH (congrArg Prod.fst hd2)
  have hsum:=tV (f:=f) m
  have hmm:=Bd (n:=m) (m:=fun i=>fG (f i)) fun i _=>FE _
  refine⟨.mk s0 n1 s2 ((List.range m).map f),.cons s0 n1 s2 _ [] _ _ [] (by rw[hm];exact hrow) (aI.range hP) .nil,?_,fun hw=>?_⟩
  ·simp only[Rows.uptoBulk,Rows.uptoBulkAll]
   unfold fG
   rw[hsum,size_bytes s2]
   omega
  ·simp only[Rows.uptoBulk,Rows.uptoBulkAll] at hw
   have hRR:=hR (by omega)
   refine⟨⟨by rw[size_bytes];unfold maxLen;omega,by rw[size_bytes];unfold maxLen;omega,rU fun ex hex=>?_⟩,.cons _ _ _ _ _ (by rw[hm];omega) (Fit.range fun i hi=>(hRR i hi).2) .nil⟩
   obtain⟨i,hi,rfl⟩:=List.mem_map.1 hex
   exact(hRR i (List.mem_range.1 hi)).1
theorem J4(N fuel:Nat)(cs:List Value)(x:DataW H×List MemPlace)(_:SizeOf.sizeOf x.1<N)(h:DataW.trod enc Tryz.prog W 0 sp true fuel 156 cs=some x):∃ex:Ex,cs=[.string ex.op,.int .i64 ex.n]∧ex.op.size+1≤Rows.uptoBulk x.1∧(Rows.uptoBulk x.1≤1048576→True):=by
 obtain⟨y0,y1,n,hx,hl,u0,u1⟩:=Gq Tryz.underlying156 h
 rw[cV] at hl
 obtain⟨v0,v1,rfl⟩:=LJ hl
 simp only[cS,zW,List.drop,List.take] at u0 u1
 obtain⟨s0,e0,hd0,_⟩:=DataW.trod_string Tryz.underlying9 u0
 obtain⟨n1,e1,_,_⟩:=DataW.trod_int Tryz.underlying3 u1
 simp only[List.cons.injEq,and_true] at e0 e1
 subst e0 e1
 have hb:=tH (congrArg Prod.fst hd0)
 refine⟨.mk s0 n1 ⟨#[]⟩ [],rfl,?_,fun _=>trivial⟩
 rw[hx]
 simp only[Rows.uptoBulk,Rows.uptoBulkAll]
 show s0.size+1≤_
 rw[size_bytes]
 omega
theorem J7(N fuel:Nat)(cs:List Value)(x:DataW H×List MemPlace)(_:SizeOf.sizeOf x.1<N)(h:DataW.trod enc Tryz.prog W 0 sp true fuel 9 cs=some x):∃ex:Ex,cs=[.string ex.op]∧ex.op.size+1≤Rows.uptoBulk x.1∧(Rows.uptoBulk x.1≤1048576→True):=by
 obtain⟨s0,e0,hd0,_⟩:=DataW.trod_string Tryz.underlying9 h
 have hb:=tH (congrArg Prod.fst hd0)
 exact⟨.mk s0 0 ⟨#[]⟩ [],e0,by show s0.size+1≤_;rw[size_bytes];omega,fun _=>trivial⟩
def mG(vs:List Ex):Nat:=(vs.map fun v=>v.op.size+1).sum
theorem Cs{f:Nat→Ex}{n:Nat}:mG ((List.range n).map f)=((List.range n).map fun i=>(f i).op.size+1).sum:=by
 unfold mG
 rw[List.map_map]
 rfl
theorem Ct{vs:List Ex}{v:Ex}(h:v∈vs):v.op.size+1≤mG vs:=by
 induction vs with
 | nil=>cases h
 | cons a r ih=>
  have e:mG (a::r)=a.op.size+1+mG r:=rfl
  rw[e]
  rcases List.mem_cons.1 h with e | e
  ·subst e;omega
  ·have:=ih e;omega
theorem Cu(vs:List Ex):vs.length≤mG vs:=by
 induction vs with
 | nil=>simp
 | cons a r ih=>
  have e:mG (a::r)=a.op.size+1+mG r:=rfl
  rw[e,List.length_cons]
  omega
theorem J3{fuel:Nat}{cs:List Value}{x:DataW H×List MemPlace}(h:DataW.trod enc Tryz.prog W 0 sp true fuel 22 cs=some x):∃(o:Option Addr) (c:Nat) (vs:List Ex),cs=[.slice o vs.length c]∧aB W jK 2 (.slice o vs.length c) vs.length (bR vs)∧mG vs≤Rows.uptoBulk x.1:=by
 obtain⟨o,n,c,f,g,e,hrow,hP,hM,_⟩:=rY (Ex.mk ⟨#[]⟩ 0 ⟨#[]⟩ []) (N:=SizeOf.sizeOf x.1) (M:=fun ex=>ex.op.size+1) (R:=fun _=>True) Tryz.underlying22 cV (by omega) (fun fuel cs x hx h=>J4 _ fuel cs x hx h) h (Nat.le_refl _)
 have hm:((List.range n).map f).length=n:=by simp
 refine⟨o,c,(List.range n).map f,by rw[hm];exact e,?_,by rw[Cs];exact hM⟩
 rw[hm,←Ay hP];exact hrow
theorem J6{fuel:Nat}{cs:List Value}{x:DataW H×List MemPlace}(h:DataW.trod enc Tryz.prog W 0 sp true fuel 23 cs=some x):∃(o:Option Addr) (c:Nat) (vs:List Ex),cs=[.slice o vs.length c]∧aB W jK 1 (.slice o vs.length c) vs.length (gU vs)∧mG vs≤Rows.uptoBulk x.1:=by
 obtain⟨o,n,c,f,g,e,hrow,hP,hM,_⟩:=rY (Ex.mk ⟨#[]⟩ 0 ⟨#[]⟩ []) (N:=SizeOf.sizeOf x.1) (M:=fun ex=>ex.op.size+1) (R:=fun _=>True) Tryz.underlying23 cS (by omega) (fun fuel cs x hx h=>J7 _ fuel cs x hx h) h (Nat.le_refl _)
 have hm:((List.range n).map f).length=n:=by simp
 refine⟨o,c,(List.range n).map f,by rw[hm];exact e,?_,by rw[Cs];exact hM⟩
 rw[hm,←Cq hP];exact hrow
theorem BR{fuel:Nat}{cs:List Value}{x:DataW H×List MemPlace}(h:DataW.trod enc Tryz.prog W 0 sp true fuel 25 cs=some x):∃(o:Option Addr) (c:Nat) (es:List Ex) (ys:List Value),cs=[.slice o es.length c]∧aB W jK 4 (.slice o es.length c) es.length ys∧aI W jK es ys∧bQ es≤Rows.uptoBulk x.1∧(Rows.uptoBulk x.1≤1048576→gM es∧Fit 2199023255552 es):=by
 obtain⟨o,n,c,f,g,e,hrow,hP,hM,hR⟩:=rY (Ex.mk ⟨#[]⟩ 0 ⟨#[]⟩ []) (N:=SizeOf.sizeOf x.1) (M:=fG) (R:=fun ex=>eG ex∧Fit 2199023255552 [ex]) Tryz.underlying25 cE (by omega) (fun fuel cs x hx h=>xZ _ fuel cs x hx h) h (Nat.le_refl _)
 have hm:((List.range n).map f).length=n:=by simp
 refine⟨o,c,(List.range n).map f,_,by rw[hm];exact e,by rw[hm];exact hrow,aI.range hP,by rw[tV];exact hM,fun hw=>⟨rU fun ex hex=>?_,Fit.range fun i hi=>(hR hw i hi).2⟩⟩
 obtain⟨i,hi,rfl⟩:=List.mem_map.1 hex
 exact(hR hw i (List.mem_range.1 hi)).1
def pE(f:Fw):Nat:=f.name.size+1+fG f.e
theorem J9(N fuel:Nat)(cs:List Value)(x:DataW H×List MemPlace)(_:SizeOf.sizeOf x.1<N)(h:DataW.trod enc Tryz.prog W 0 sp true fuel 90 cs=some x):∃fw:Fw,cB W jK [fw] cs∧pE fw≤Rows.uptoBulk x.1∧(Rows.uptoBulk x.1≤1048576→eG fw.e∧Fit 2199023255552 [fw.e]):=by
 obtain⟨y0,y1,y2,n,hx,hl,u0,u1,u2⟩:=Gp Tryz.underlying90 h
 rw[Em] at hl
 obtain⟨v0,v1,v2,v3,v4,v5,rfl⟩:=LF hl
 simp only[cS,zW,cE,List.drop,List.take] at u0 u1 u2
 rw[hx]
 obtain⟨s0,e0,hd0,_⟩:=DataW.trod_string Tryz.underlying9 u0
 obtain⟨n1,e1,_,_⟩:=DataW.trod_int Tryz.underlying3 u1
 obtain⟨ex,hE,hW,hFE⟩:=xZ _ _ _ _ (Nat.lt_succ_self _) u2
 simp only[List.cons.injEq,and_true] at e0 e1
 subst e0 e1
 have hb0:=tH (congrArg Prod.fst hd0)
 have hfl:=cB.cons s0 n1 ex [] _ [] hE .nil
 refine⟨⟨s0,n1,ex⟩,by simpa using hfl,?_,fun hw=>hFE ?_⟩
 ·simp only[Rows.uptoBulk,Rows.uptoBulkAll]
  show s0.size+1+fG ex≤_
  rw[size_bytes]
  omega
 ·simp only[Rows.uptoBulk,Rows.uptoBulkAll] at hw
  omega
theorem J8{fuel:Nat}{cs:List Value}{x:DataW H×List MemPlace}(h:DataW.trod enc Tryz.prog W 0 sp true fuel 24 cs=some x):∃(o:Option Addr) (c:Nat) (fs:List Fw) (ys:List Value),cs=[.slice o fs.length c]∧aB W jK 6 (.slice o fs.length c) fs.length ys∧cB W jK fs ys∧(fs.length≤Rows.uptoBulk x.1∧bQ (fs.map fun f=>f.e)≤Rows.uptoBulk x.1∧∀f∈fs,f.name.size≤Rows.uptoBulk x.1)∧(Rows.uptoBulk x.1≤1048576→gM (fs.map fun f=>f.e)∧Fit 2199023255552 (fs.map fun f=>f.e)):=by
 obtain⟨o,n,c,f,g,e,hrow,hP,hM,hR⟩:=rY (⟨⟨#[]⟩,0,(Ex.mk ⟨#[]⟩ 0 ⟨#[]⟩ [])⟩:Fw) (N:=SizeOf.sizeOf x.1) (M:=pE) (R:=fun fw=>eG fw.e∧Fit 2199023255552 [fw.e]) Tryz.underlying24 Em (by omega) (fun fuel cs x hx h=>J9 _ fuel cs x hx h) h (Nat.le_refl _)
 have hm:((List.range n).map f).length=n:=by simp
 have hmap:((List.range n).map f).map (fun f=>f.e)=(List.range n).map fun i=>(f i).e:=by rw[List.map_map];rfl
 have h1:=Bd (n:=n) (m:=fun i=>pE (f i)) fun i _=>by unfold pE;omega
 refine⟨o,c,(List.range n).map f,_,by rw[hm];exact e,by rw[hm];exact hrow,cB.range hP,⟨by rw[hm];omega,?_,fun fw hfw=>?_⟩,fun hw=>?_⟩
 ·rw[hmap,tV]
  refine Nat.le_trans (Bg fun i _=>?_) hM
  unfold pE
  omega
 ·obtain⟨i,hi,rfl⟩:=List.mem_map.1 hfw
  have:=G5 (m:=fun i=>pE (f i)) (List.mem_range.1 hi)
  have e:pE (f i)=(f i).name.size+1+fG (f i).e:=rfl
  omega
 ·rw[hmap]
  refine⟨rU fun ex hex=>?_,Fit.range fun i hi=>(hR hw i hi).2⟩
  obtain⟨i,hi,rfl⟩:=List.mem_map.1 hex
  exact(hR hw i (List.mem_range.1 hi)).1
theorem J5{fuel:Nat}{cs:List Value}{x:DataW H×List MemPlace}(h:DataW.trod enc Tryz.prog W 0 sp true fuel 27 cs=some x)(hw:Rows.uptoBulk x.1≤1048576):∃(p:Pg) (o1 o2 o3 o4 o5:Option Addr) (c1 c2 c3 c4 c5:Nat),cs=[.slice o1 p.ins.length c1,.slice o2 p.outs.length c2,.slice o3 p.fs.length c3,.slice o4 p.asserts.length c4,.slice o5 p.checks.length c5]∧fE W jK p (.slice o1 p.ins.length c1) (.slice o2 p.outs.length c2) (.slice o3 p.fs.length c3) (.slice o4 p.asserts.length c4) (.slice o5 p.checks.length c5)∧(p.ins.length≤2097152∧p.outs.length≤2097152∧p.fs.length≤2097152∧p.asserts.length≤2097152∧p.checks.length≤2097152)∧Fit 2199023255552 (aD p)∧(aD p).length≤2097152∧bQ (aD p)≤1152921504606846976∧gM (aD p)∧(∀v∈aK p,v.1.size≤maxLen)∧∀e∈p.outs,e.op.size≤maxLen:=by
 obtain⟨y0,y1,y2,y3,y4,n,hx,hl,u0,u1,u2,u3,u4⟩:=Gm Tryz.underlying27 h
 rw[Oi] at hl
 obtain⟨v0,v1,v2,v3,v4,rfl⟩:=LG hl
 simp only[Oj,Ol,Om,El,List.drop,List.take] at u0 u1 u2 u3 u4
 rw[hx] at hw
 simp only[Rows.uptoBulk,Rows.uptoBulkAll] at hw
 obtain⟨o1,c1,ins,e1,hr1,hw1⟩:=J3 u0
 obtain⟨o2,c2,outs,e2,hr2,hw2⟩:=J6 u1
 obtain⟨o3,c3,fs,x3,e3,hr3,hi3,⟨l3,m3,n3⟩,hs3⟩:=J8 u2
 obtain⟨o4,c4,ax,x4,e4,hr4,hi4,hw4,hs4⟩:=BR u3
 obtain⟨o5,c5,cx,x5,e5,hr5,hi5,hw5,hs5⟩:=BR u4
 simp only[List.cons.injEq,and_true] at e1 e2 e3 e4 e5
 subst e1 e2 e3 e4 e5
 obtain⟨s3,f3⟩:=hs3 (by omega)
 obtain⟨s4,f4⟩:=hs4 (by omega)
 obtain⟨s5,f5⟩:=hs5 (by omega)
 have k1:=Cu ins
 have k2:=Cu outs
 have k4:=Am ax
 have k5:=Am cx
 refine⟨⟨ins,outs,fs,ax,cx⟩,o1,o2,o3,o4,o5,c1,c2,c3,c4,c5,rfl,⟨hr1,hr2,⟨x3,hr3,hi3⟩,⟨x4,hr4,hi4⟩,⟨x5,hr5,hi5⟩⟩,⟨?_,?_,?_,?_,?_⟩,f3.append (f4.append f5),?_,?_,rU fun e he=>?_,fun v hv=>?_,fun e he=>?_⟩
 ·show ins.length≤_;omega
 ·show outs.length≤_;omega
 ·show fs.length≤_;omega
 ·show ax.length≤_;omega
 ·show cx.length≤_;omega
 ·show (fs.map (fun f=>f.e)++(ax++cx)).length≤_
  rw[List.length_append,List.length_append,List.length_map];omega
 ·show bQ (fs.map (fun f=>f.e)++(ax++cx))≤_
  rw[tX,tX];omega
 ·have he':e∈fs.map (fun f=>f.e)++(ax++cx):=he
  rcases List.mem_append.1 he' with he | he
  ·exact uO s3 e he
  ·rcases List.mem_append.1 he with he | he
   ·exact uO s4 e he
   ·exact uO s5 e he
 ·have hv':v∈ins.map (fun e=>(e.op,e.n))++fs.map fun f=>(f.name,f.kind):=hv
  rcases List.mem_append.1 hv' with hv | hv
  ·obtain⟨e,he,rfl⟩:=List.mem_map.1 hv
   have:=Ct he
   show e.op.size≤maxLen
   unfold maxLen;omega
  ·obtain⟨f,hf,rfl⟩:=List.mem_map.1 hv
   have:=n3 f hf
   show f.name.size≤maxLen
   unfold maxLen;omega
 ·have:=Ct (show e∈outs from he)
  unfold maxLen;omega
end
end Go.Proofs.YtmgfakcccfahaaaGreatDoor
