/-
  A FLAT PROGRAM AND INPUTS THAT ARE HANDED IN, OPENED: what their bulk gives.
-/
import Derived.Test.YtmgfakcccfahaaaGreatDoorN49
import Derived.Deep.Strs
import Derived.SizedLaws
namespace Go.Proofs.YtmgfakcccfahaaaGreatDoor
open Go.RowKit Go.Deep Go.WideShapes Go.ChangeShapes
set_option maxRecDepth 100000

abbrev lT:Nat→Prop:=fun _=>True
theorem xX{g:Nat→List Value}{sz:Nat}:∀{n:Nat},(∀i,i<n→(g i).length=sz)→((List.range n).flatMap g).length=n*sz
 | 0,_=>by simp
 | n+1,hg=>by
  rw[List.range_succ,List.flatMap_append,List.length_append,xX (fun i hi=>hg i (by omega))]
  simp only[List.flatMap_cons,List.flatMap_nil,List.append_nil,hg n (by omega),Nat.add_mul,Nat.one_mul]
theorem Gw{g:Nat→List Value}{sz:Nat}:∀{n:Nat},(∀i,i<n→(g i).length=sz)→∀{k:Nat} {x:Value},((List.range n).flatMap g)[k]?=some x→∃i j,i<n∧k=i*sz+j∧(g i)[j]?=some x
 | 0,_,k,x,h=>by simp at h
 | n+1,hg,k,x,h=>by
  have hl:=xX (n:=n) (fun i hi=>hg i (by omega))
  rw[List.range_succ,List.flatMap_append,List.getElem?_append] at h
  split at h
  ·obtain⟨i,j,h1,h2,h3⟩:=Gw (fun i hi=>hg i (by omega)) h
   exact⟨i,j,by omega,h2,h3⟩
  ·rw[hl] at h
   refine⟨n,k-n*sz,by omega,by omega,?_⟩
   simpa using h
theorem KZ{W:World}{a:Addr}{n cap sz:Nat}{g:Nat→List Value}(hsz:0<sz)(hcap:n≤cap)(hn:n≤maxLen)(hg:∀i,i<n→(g i).length=sz)(hc:∀i,i<n→∀j x,(g i)[j]?=some x→W.cell? (a.add (i*sz+j))=some x):aB W lT sz (.slice (some a) n cap) n ((List.range n).flatMap g):=by
 refine⟨xX hg,hn,some a,cap,rfl,fun k x hx=>?_,hcap⟩
 obtain⟨i,j,hi,rfl,hx'⟩:=Gw hg hx
 have h:=hc i hi j x hx'
 obtain⟨b,off,spot⟩:=a
 cases spot with
 | some k=>
  have h0:=hc 0 (by omega) 0 _ (qK (by rw[hg 0 (by omega)];exact hsz))
  simp [Addr.add,World.cell?] at h0
  split at h0<;>simp at h0
 | none=>
  rw[add_plain] at h
  exact⟨b,off,rfl,trivial,h⟩
theorem Ql{H:Type}{d:DataW H}{l:List (DataW H)}(h:d∈l):Rows.uptoBulk d≤Rows.uptoBulkAll l:=by
 induction l with
 | nil=>cases h
 | cons x r ih=>
  simp only[Rows.uptoBulkAll]
  rcases List.mem_cons.1 h with e | e
  ·subst e;omega
  ·have:=ih e;omega
theorem G5{H:Type}{D:Nat→DataW H}{m:Nat→Nat}:∀{n:Nat},(∀i,i<n→m i≤Rows.uptoBulk (D i))→((List.range n).map m).sum≤Rows.uptoBulkAll ((List.range n).map D)
 | 0,_=>by simp
 | n+1,h=>by
  have happ:∀l r:List (DataW H),Rows.uptoBulkAll (l++r)=Rows.uptoBulkAll l+Rows.uptoBulkAll r:=fun l r=>by
   induction l with
   | nil=>simp [Rows.uptoBulkAll]
   | cons x l ih=>simp only[List.cons_append,Rows.uptoBulkAll,ih];omega
  have ih:=G5 (n:=n) (fun i hi=>h i (by omega))
  have hn:=h n (by omega)
  rw[List.range_succ,List.map_append,List.map_append,happ,List.sum_append]
  simp only[List.map_cons,List.map_nil,List.sum_cons,List.sum_nil,Rows.uptoBulkAll]
  omega
theorem aQ.range{W:World}{f:Nat→Ex}{g:Nat→List Value}:∀{n:Nat},(∀i,i<n→aQ W lT [f i] (g i))→aQ W lT ((List.range n).map f) ((List.range n).flatMap g)
 | 0,_=>.nil
 | n+1,h=>by
  rw[List.range_succ,List.map_append,List.flatMap_append]
  exact(aQ.range (fun i hi=>h i (by omega))).append (by simpa using h n (by omega))
theorem Df{f:Nat→Ex}{g:Nat→List Value}:∀{n:Nat},(∀i,i<n→g i=[.string (f i).op,.int .i64 (f i).n])→(List.range n).flatMap g=dQ ((List.range n).map f)
 | 0,_=>rfl
 | n+1,h=>by
  have ih:=Df (n:=n) (fun i hi=>h i (by omega))
  unfold dQ at ih ⊢
  rw[List.range_succ,List.map_append,List.flatMap_append,List.flatMap_append,ih]
  simp [h n (by omega)]
theorem E5{f:Nat→Ex}{g:Nat→List Value}:∀{n:Nat},(∀i,i<n→g i=[.string (f i).op])→(List.range n).flatMap g=kS ((List.range n).map f)
 | 0,_=>rfl
 | n+1,h=>by
  have ih:=E5 (n:=n) (fun i hi=>h i (by omega))
  unfold kS at ih ⊢
  rw[List.range_succ,List.map_append,List.flatMap_append,List.map_append,ih]
  simp [h n (by omega)]
theorem NS{α:Type}{l:List α}(h:l.length=4):∃x y z u,l=[x,y,z,u]:=by
 match l,h with
 | [x,y,z,u],_=>exact⟨x,y,z,u,rfl⟩
theorem Fu{α:Type}{l:List α}(h:l.length=2):∃x y,l=[x,y]:=by
 match l,h with
 | [x,y],_=>exact⟨x,y,rfl⟩
theorem NR{α:Type}{l:List α}(h:l.length=5):∃x y z u v,l=[x,y,z,u,v]:=by
 match l,h with
 | [x,y,z,u,v],_=>exact⟨x,y,z,u,v,rfl⟩
theorem NQ{α:Type}{l:List α}(h:l.length=6):∃x y z u v w,l=[x,y,z,u,v,w]:=by
 match l,h with
 | [x,y,z,u,v,w],_=>exact⟨x,y,z,u,v,w,rfl⟩
theorem cE:Tryz.prog.cellsOf 79=4:=by kernel_rfl
theorem cV:Tryz.prog.cellsOf 156=2:=by kernel_rfl
theorem GY:Tryz.prog.cellsOf 90=6:=by kernel_rfl
theorem GZ:Tryz.prog.cellsOf 66=2:=by kernel_rfl
theorem Qk:Tryz.prog.cellsOf 64=1:=by kernel_rfl
theorem Qg:Tryz.prog.cellsOf 27=5:=by kernel_rfl
theorem cS:Tryz.prog.cellsOf 9=1:=by kernel_rfl
theorem Am:Tryz.prog.cellsOf 3=1:=by kernel_rfl
theorem GX:Tryz.prog.cellsOf 25=1:=by kernel_rfl
theorem Qh:Tryz.prog.cellsOf 22=1:=by kernel_rfl
theorem Qi:Tryz.prog.cellsOf 23=1:=by kernel_rfl
theorem Qj:Tryz.prog.cellsOf 24=1:=by kernel_rfl
theorem Fit.append{N:Nat}{a b:List Ex}(h:Fit N a)(g:Fit N b):Fit N (a++b):=by
 induction h with
 | nil=>exact g
 | cons op n s l es h1 h2 _ _ ih=>exact .cons op n s l _ h1 h2 ih
theorem Fit.range{N:Nat}{f:Nat→Ex}:∀{n:Nat},(∀i,i<n→Fit N [f i])→Fit N ((List.range n).map f)
 | 0,_=>.nil
 | n+1,h=>by
  rw[List.range_succ,List.map_append]
  exact(Fit.range (fun i hi=>h i (by omega))).append (by simpa using h n (by omega))
theorem fC.app{w:World}{S:Nat→Prop}{fs gs:List Fw}{xs ys:List Value}(h:fC w S fs xs)(g:fC w S gs ys):fC w S (fs++gs) (xs++ys):=by
 induction h with
 | nil=>exact g
 | cons name kind e fs xs zs h1 _ ih=>
  have:=fC.cons name kind e (fs++gs) xs (zs++ys) h1 ih
  simpa using this
theorem fC.range{W:World}{f:Nat→Fw}{g:Nat→List Value}:∀{n:Nat},(∀i,i<n→fC W lT [f i] (g i))→fC W lT ((List.range n).map f) ((List.range n).flatMap g)
 | 0,_=>.nil
 | n+1,h=>by
  rw[List.range_succ,List.map_append,List.flatMap_append]
  exact(fC.range (fun i hi=>h i (by omega))).app (by simpa using h n (by omega))
theorem C9{f:Nat→Int×Int}{g:Nat→List Value}:∀{n:Nat},(∀i,i<n→g i=[.int .i64 (f i).1,.int .i64 (f i).2])→(List.range n).flatMap g=bG ((List.range n).map f)
 | 0,_=>rfl
 | n+1,h=>by
  have ih:=C9 (n:=n) (fun i hi=>h i (by omega))
  unfold bG at ih ⊢
  rw[List.range_succ,List.map_append,List.flatMap_append,List.flatMap_append,ih]
  simp [h n (by omega)]
theorem IK(e:Ex):1≤iL e:=by
 cases e
 unfold iL
 omega
theorem yU:∀a b:List Ex,dB (a++b)=dB a+dB b
 | [],b=>by simp [dB]
 | x::a,b=>by rw[List.cons_append,dB,dB,yU a b];omega
theorem yT{f:Nat→Ex}:∀n:Nat,dB ((List.range n).map f)=((List.range n).map fun i=>iL (f i)).sum
 | 0=>by simp [dB]
 | n+1=>by
  rw[List.range_succ,List.map_append,List.map_append,yU,List.sum_append,yT n]
  simp [dB]
theorem xG:∀{l:List Ex},(∀e∈l,fJ e)→dR l
 | [],_=>trivial
 | e::_,h=>⟨h e List.mem_cons_self,xG fun x hx=>h x (List.mem_cons_of_mem _ hx)⟩
theorem zF:∀{l:List Ex},dR l→∀e∈l,fJ e
 | x::l,h,e,he=>by
  rcases List.mem_cons.1 he with rfl | he
  ·exact h.1
  ·exact zF h.2 e he
theorem Dz{n:Nat}{m:Nat→Nat}(h:∀i,i<n→1≤m i):n≤((List.range n).map m).sum:=by
 induction n with
 | zero=>simp
 | succ n ih=>
  have h1:=ih fun i hi=>h i (by omega)
  have h2:=h n (by omega)
  rw[List.range_succ,List.map_append,List.sum_append]
  simp only[List.map_cons,List.map_nil,List.sum_cons,List.sum_nil]
  omega
theorem JY{n:Nat}{m:Nat→Nat}{i:Nat}(h:i<n):m i≤((List.range n).map m).sum:=by
 induction n with
 | zero=>omega
 | succ n ih=>
  rw[List.range_succ,List.map_append,List.sum_append]
  simp only[List.map_cons,List.map_nil,List.sum_cons,List.sum_nil]
  by_cases e:i=n
  ·subst e;omega
  ·have:=ih (by omega);omega
theorem DI{m k:Nat→Nat}:∀{n:Nat},(∀i,i<n→m i≤k i)→((List.range n).map m).sum≤((List.range n).map k).sum
 | 0,_=>by simp
 | n+1,h=>by
  have h1:=DI (n:=n) fun i hi=>h i (by omega)
  have h2:=h n (by omega)
  rw[List.range_succ,List.map_append,List.map_append,List.sum_append,List.sum_append]
  simp only[List.map_cons,List.map_nil,List.sum_cons,List.sum_nil]
  omega
theorem CS(l:List Ex):l.length≤dB l:=Nat.le_trans (zB l) (zA l)
theorem flat_get{g:Nat→List Value}{v:Value}{k:Nat}:∀{n:Nat},(∀i,i<n→(g i).length=1)→k<n→g k=[v]→((List.range n).flatMap g)[k]?=some v
 | 0,_,h,_=>absurd h (Nat.not_lt_zero _)
 | n+1,hg,hk,hv=>by
  have hl:=xX (n:=n) (fun i hi=>hg i (by omega))
  rw[List.range_succ,List.flatMap_append,List.getElem?_append]
  split
  ·rename_i h1
   exact flat_get (fun i hi=>hg i (by omega)) (by omega) hv
  ·rename_i h1
   obtain rfl:k=n:=by omega
   simp [hl,hv]
section
variable {H:Type} {enc:TypeId×Value→H} {W:World} {sp:Nat→Bool}
theorem Du{P:Program}{t:TypeId}{f0 f1:Field}{fuel:Nat}{cs:List Value}{x:DataW H×List MemPlace}(ht:P.underlying t=some (.struct #[f0,f1]))(h:DataW.trod enc P W 0 sp true fuel t cs=some x) :
  ∃y0 y1 n,x.1=.agg [y0.1,y1.1]∧cs.length=P.cellsOf t∧DataW.trod enc P W 0 sp true n f0.type ((cs.drop f0.offset).take (P.cellsOf f0.type))=some y0∧DataW.trod enc P W 0 sp true n f1.type ((cs.drop f1.offset).take (P.cellsOf f1.type))=some y1:=by
 obtain⟨xs,n,_,rfl,hl,hlen,hf⟩:=DataW.trod_struct ht h
 match xs,hlen with
 | [y0,y1],_=>exact⟨y0,y1,n,by simp,hl,by simpa using hf 0 f0 rfl,by simpa using hf 1 f1 rfl⟩
theorem JG{P:Program}{t:TypeId}{f0 f1 f2:Field}{fuel:Nat}{cs:List Value}{x:DataW H×List MemPlace}(ht:P.underlying t=some (.struct #[f0,f1,f2]))(h:DataW.trod enc P W 0 sp true fuel t cs=some x) :
  ∃y0 y1 y2 n,x.1=.agg [y0.1,y1.1,y2.1]∧cs.length=P.cellsOf t∧DataW.trod enc P W 0 sp true n f0.type ((cs.drop f0.offset).take (P.cellsOf f0.type))=some y0∧DataW.trod enc P W 0 sp true n f1.type ((cs.drop f1.offset).take (P.cellsOf f1.type))=some y1∧DataW.trod enc P W 0 sp true n f2.type ((cs.drop f2.offset).take (P.cellsOf f2.type))=some y2:=by
 obtain⟨xs,n,_,rfl,hl,hlen,hf⟩:=DataW.trod_struct ht h
 match xs,hlen with
 | [y0,y1,y2],_=>exact⟨y0,y1,y2,n,by simp,hl,by simpa using hf 0 f0 rfl,by simpa using hf 1 f1 rfl,by simpa using hf 2 f2 rfl⟩
theorem JF{P:Program}{t:TypeId}{f0 f1 f2 f3:Field}{fuel:Nat}{cs:List Value}{x:DataW H×List MemPlace}(ht:P.underlying t=some (.struct #[f0,f1,f2,f3]))(h:DataW.trod enc P W 0 sp true fuel t cs=some x) :
  ∃y0 y1 y2 y3 n,x.1=.agg [y0.1,y1.1,y2.1,y3.1]∧cs.length=P.cellsOf t∧DataW.trod enc P W 0 sp true n f0.type ((cs.drop f0.offset).take (P.cellsOf f0.type))=some y0∧DataW.trod enc P W 0 sp true n f1.type ((cs.drop f1.offset).take (P.cellsOf f1.type))=some y1∧DataW.trod enc P W 0 sp true n f2.type ((cs.drop f2.offset).take (P.cellsOf f2.type))=some y2∧DataW.trod enc P W 0 sp true n f3.type ((cs.drop f3.offset).take (P.cellsOf f3.type))=some y3:=by
 obtain⟨xs,n,_,rfl,hl,hlen,hf⟩:=DataW.trod_struct ht h
 match xs,hlen with
 | [y0,y1,y2,y3],_=>exact⟨y0,y1,y2,y3,n,by simp,hl,by simpa using hf 0 f0 rfl,by simpa using hf 1 f1 rfl,by simpa using hf 2 f2 rfl,by simpa using hf 3 f3 rfl⟩
theorem JE{P:Program}{t:TypeId}{f0 f1 f2 f3 f4:Field}{fuel:Nat}{cs:List Value}{x:DataW H×List MemPlace}(ht:P.underlying t=some (.struct #[f0,f1,f2,f3,f4]))(h:DataW.trod enc P W 0 sp true fuel t cs=some x) :
  ∃y0 y1 y2 y3 y4 n,x.1=.agg [y0.1,y1.1,y2.1,y3.1,y4.1]∧cs.length=P.cellsOf t∧DataW.trod enc P W 0 sp true n f0.type ((cs.drop f0.offset).take (P.cellsOf f0.type))=some y0∧DataW.trod enc P W 0 sp true n f1.type ((cs.drop f1.offset).take (P.cellsOf f1.type))=some y1∧DataW.trod enc P W 0 sp true n f2.type ((cs.drop f2.offset).take (P.cellsOf f2.type))=some y2∧DataW.trod enc P W 0 sp true n f3.type ((cs.drop f3.offset).take (P.cellsOf f3.type))=some y3∧DataW.trod enc P W 0 sp true n f4.type ((cs.drop f4.offset).take (P.cellsOf f4.type))=some y4:=by
 obtain⟨xs,n,_,rfl,hl,hlen,hf⟩:=DataW.trod_struct ht h
 match xs,hlen with
 | [y0,y1,y2,y3,y4],_=>exact⟨y0,y1,y2,y3,y4,n,by simp,hl,by simpa using hf 0 f0 rfl,by simpa using hf 1 f1 rfl,by simpa using hf 2 f2 rfl,by simpa using hf 3 f3 rfl,by simpa using hf 4 f4 rfl⟩
theorem uK{α:Type}(d0:α){t e:TypeId}{sz:Nat}{P:α→List Value→Prop}{M:α→Nat}{R:α→Prop}{N:Nat}(ht:Tryz.prog.underlying t=some (.slice e))(hc:Tryz.prog.cellsOf e=sz)(hsz0:0<sz)
  (elem:∀(fuel:Nat) (cs:List Value) (x:DataW H×List MemPlace),SizeOf.sizeOf x.1<N→DataW.trod enc Tryz.prog W 0 sp true fuel e cs=some x→∃ex,P ex cs∧M ex≤Rows.uptoBulk x.1∧(Rows.uptoBulk x.1≤1048576→R ex))
  {fuel:Nat} {cs:List Value} {x:DataW H×List MemPlace} (h:DataW.trod enc Tryz.prog W 0 sp true fuel t cs=some x) (hN:SizeOf.sizeOf x.1≤N) :
  ∃(o:Option Addr) (n c:Nat) (f:Nat→α) (g:Nat→List Value),cs=[.slice o n c]∧aB W lT sz (.slice o n c) n ((List.range n).flatMap g)∧(∀i,i<n→P (f i) (g i))∧((List.range n).map fun i=>M (f i)).sum≤Rows.uptoBulk x.1∧(Rows.uptoBulk x.1≤1048576→∀i,i<n→R (f i)):=by
 rcases open_slice ht h with⟨rfl,rfl⟩ | ⟨a,len,cap,m,n,D,Pl,rfl,_,hl,hm,hmm,rfl,hx⟩
 ·exact⟨none,0,0,fun _=>d0,fun _=>[],rfl,⟨by simp,by unfold maxLen;omega,none,0,rfl,fun k x hx=>by simp at hx,Nat.le_refl _⟩,fun i hi=>absurd hi (Nat.not_lt_zero _),by simp,fun _ i hi=>absurd hi (Nat.not_lt_zero _)⟩
 have hlm:len≤m:=by rw[hmm];split<;>omega
 have each:∀i,i<len→∃q:α×List Value,q.2.length=sz∧(∀j x,q.2[j]?=some x→W.cell? (a.add (i*sz+j))=some x)∧P q.1 q.2∧M q.1≤Rows.uptoBulk (D i)∧(Rows.uptoBulk (D i)≤1048576→R q.1):=by
  intro i hi
  obtain⟨cs',h1,h2⟩:=hx i (by omega)
  rw[hc] at h1
  obtain⟨_,hlen,hcell⟩:=World.cells?_some h1
  have hmem:D i∈(List.range len).map D:=List.mem_map.2 ⟨i,List.mem_range.2 hi,rfl⟩
  have hsz:SizeOf.sizeOf (D i)<N:=by
   have:=List.sizeOf_lt_of_mem hmem
   simp only[DataW.slice.sizeOf_spec] at hN
   omega
  obtain⟨ex,hP,hM,hR⟩:=elem n cs' (D i,Pl i) hsz h2
  refine⟨(ex,cs'),hlen,fun j x hx=>?_,hP,hM,hR⟩
  have hj:j<sz:=by rw[←hlen];exact(bA hx).1
  have:=hcell j hj
  rw[add_add,hx] at this
  exact this
 have:Inhabited (α×List Value):=⟨(d0,[])⟩
 obtain⟨q,hq⟩:=choose_lt each
 refine⟨some a,len,cap,fun i=>(q i).1,fun i=>(q i).2,rfl,KZ hsz0 (by omega) (by omega) (fun i hi=>(hq i hi).1) (fun i hi=>(hq i hi).2.1),fun i hi=>(hq i hi).2.2.1,?_,fun hw i hi=>(hq i hi).2.2.2.2 ?_⟩
 ·have:=G5 (D:=D) (m:=fun i=>M (q i).1) (fun i hi=>(hq i hi).2.2.2.1)
  simp only[Rows.uptoBulk]
  omega
 ·have:=Ql (List.mem_map.2 ⟨i,List.mem_range.2 hi,rfl⟩:D i∈(List.range len).map D)
  simp only[Rows.uptoBulk] at hw
  omega
theorem size_bytes(s:ByteArray):s.size=s.data.toList.length:=by cases s;rfl
theorem yD{d:DataW H}{bytes:List UInt8}(h:d=.lit (.string bytes)):Rows.uptoBulk d=bytes.length+1:=by
 subst h
 simp [Rows.uptoBulk]
theorem Bq:∀(N fuel:Nat) (cs:List Value) (x:DataW H×List MemPlace),SizeOf.sizeOf x.1<N→DataW.trod enc Tryz.prog W 0 sp true fuel 79 cs=some x→∃ex,aQ W lT [ex] cs∧iL ex≤Rows.uptoBulk x.1∧(Rows.uptoBulk x.1≤1048576→fJ ex∧Fit 2199023255552 [ex])
 | 0,_,_,_,h,_=>absurd h (Nat.not_lt_zero _)
 | N+1,fuel,cs,x,hN,h=>by
  obtain⟨y0,y1,y2,y3,n,hx,hl,u0,u1,u2,u3⟩:=JF Tryz.underlying79 h
  rw[cE] at hl
  obtain⟨v0,v1,v2,v3,rfl⟩:=NS hl
  simp only[cS,Am,GX,List.drop,List.take] at u0 u1 u2 u3
  rw[hx] at hN
  rw[hx]
  obtain⟨s0,e0,hd0,_⟩:=DataW.trod_string Tryz.underlying9 u0
  obtain⟨n1,e1,_,_⟩:=DataW.trod_int Tryz.underlying3 u1
  obtain⟨s2,e2,hd2,_⟩:=DataW.trod_string Tryz.underlying9 u2
  have h3:SizeOf.sizeOf y3.1≤N:=by
   simp only[DataW.agg.sizeOf_spec,List.cons.sizeOf_spec] at hN
   omega
  obtain⟨o,m,c,f,g,e3,hrow,hP,hM,hR⟩:=uK (Ex.mk ⟨#[]⟩ 0 ⟨#[]⟩ []) (N:=N) (M:=iL) (R:=fun ex=>fJ ex∧Fit 2199023255552 [ex]) Tryz.underlying25 cE (by omega) (fun fuel cs x hx h=>Bq N fuel cs x hx h) u3 h3
  simp only[List.cons.injEq,and_true] at e0 e1 e2 e3
  subst e0 e1 e2 e3
  have hm:((List.range m).map f).length=m:=by simp
  have hb0:=yD (congrArg Prod.fst hd0)
  have hb2:=yD (congrArg Prod.fst hd2)
  have hsum:=yT (f:=f) m
  have hmm:=Dz (n:=m) (m:=fun i=>iL (f i)) fun i _=>IK _
  refine⟨.mk s0 n1 s2 ((List.range m).map f),.cons s0 n1 s2 _ [] _ _ [] (by rw[hm];exact hrow) (aQ.range hP) .nil,?_,fun hw=>?_⟩
  ·simp only[Rows.uptoBulk,Rows.uptoBulkAll]
   unfold iL
   rw[hsum,size_bytes s2]
   omega
  ·simp only[Rows.uptoBulk,Rows.uptoBulkAll] at hw
   have hRR:=hR (by omega)
   refine⟨⟨by rw[size_bytes];unfold maxLen;omega,by rw[size_bytes];unfold maxLen;omega,xG fun ex hex=>?_⟩,.cons _ _ _ _ _ (by rw[hm];omega) (Fit.range fun i hi=>(hRR i hi).2) .nil⟩
   obtain⟨i,hi,rfl⟩:=List.mem_map.1 hex
   exact(hRR i (List.mem_range.1 hi)).1
theorem Ml(N fuel:Nat)(cs:List Value)(x:DataW H×List MemPlace)(_:SizeOf.sizeOf x.1<N)(h:DataW.trod enc Tryz.prog W 0 sp true fuel 156 cs=some x):∃ex:Ex,cs=[.string ex.op,.int .i64 ex.n]∧ex.op.size+1≤Rows.uptoBulk x.1∧(Rows.uptoBulk x.1≤1048576→True):=by
 obtain⟨y0,y1,n,hx,hl,u0,u1⟩:=Du Tryz.underlying156 h
 rw[cV] at hl
 obtain⟨v0,v1,rfl⟩:=Fu hl
 simp only[cS,Am,List.drop,List.take] at u0 u1
 obtain⟨s0,e0,hd0,_⟩:=DataW.trod_string Tryz.underlying9 u0
 obtain⟨n1,e1,_,_⟩:=DataW.trod_int Tryz.underlying3 u1
 simp only[List.cons.injEq,and_true] at e0 e1
 subst e0 e1
 have hb:=yD (congrArg Prod.fst hd0)
 refine⟨.mk s0 n1 ⟨#[]⟩ [],rfl,?_,fun _=>trivial⟩
 rw[hx]
 simp only[Rows.uptoBulk,Rows.uptoBulkAll]
 show s0.size+1≤_
 rw[size_bytes]
 omega
theorem Mw(N fuel:Nat)(cs:List Value)(x:DataW H×List MemPlace)(_:SizeOf.sizeOf x.1<N)(h:DataW.trod enc Tryz.prog W 0 sp true fuel 9 cs=some x):∃ex:Ex,cs=[.string ex.op]∧ex.op.size+1≤Rows.uptoBulk x.1∧(Rows.uptoBulk x.1≤1048576→True):=by
 obtain⟨s0,e0,hd0,_⟩:=DataW.trod_string Tryz.underlying9 h
 have hb:=yD (congrArg Prod.fst hd0)
 exact⟨.mk s0 0 ⟨#[]⟩ [],e0,by show s0.size+1≤_;rw[size_bytes];omega,fun _=>trivial⟩
def qH(vs:List Ex):Nat:=(vs.map fun v=>v.op.size+1).sum
theorem Fe{f:Nat→Ex}{n:Nat}:qH ((List.range n).map f)=((List.range n).map fun i=>(f i).op.size+1).sum:=by
 unfold qH
 rw[List.map_map]
 rfl
theorem Ff{vs:List Ex}{v:Ex}(h:v∈vs):v.op.size+1≤qH vs:=by
 induction vs with
 | nil=>cases h
 | cons a r ih=>
  have e:qH (a::r)=a.op.size+1+qH r:=rfl
  rw[e]
  rcases List.mem_cons.1 h with e | e
  ·subst e;omega
  ·have:=ih e;omega
theorem Fg(vs:List Ex):vs.length≤qH vs:=by
 induction vs with
 | nil=>simp
 | cons a r ih=>
  have e:qH (a::r)=a.op.size+1+qH r:=rfl
  rw[e,List.length_cons]
  omega
theorem Mk{fuel:Nat}{cs:List Value}{x:DataW H×List MemPlace}(h:DataW.trod enc Tryz.prog W 0 sp true fuel 22 cs=some x):∃(o:Option Addr) (c:Nat) (vs:List Ex),cs=[.slice o vs.length c]∧aB W lT 2 (.slice o vs.length c) vs.length (dQ vs)∧qH vs≤Rows.uptoBulk x.1:=by
 obtain⟨o,n,c,f,g,e,hrow,hP,hM,_⟩:=uK (Ex.mk ⟨#[]⟩ 0 ⟨#[]⟩ []) (N:=SizeOf.sizeOf x.1) (M:=fun ex=>ex.op.size+1) (R:=fun _=>True) Tryz.underlying22 cV (by omega) (fun fuel cs x hx h=>Ml _ fuel cs x hx h) h (Nat.le_refl _)
 have hm:((List.range n).map f).length=n:=by simp
 refine⟨o,c,(List.range n).map f,by rw[hm];exact e,?_,by rw[Fe];exact hM⟩
 rw[hm,←Df hP];exact hrow
theorem Mt{fuel:Nat}{cs:List Value}{x:DataW H×List MemPlace}(h:DataW.trod enc Tryz.prog W 0 sp true fuel 23 cs=some x):∃(o:Option Addr) (c:Nat) (vs:List Ex),cs=[.slice o vs.length c]∧aB W lT 1 (.slice o vs.length c) vs.length (kS vs)∧qH vs≤Rows.uptoBulk x.1:=by
 obtain⟨o,n,c,f,g,e,hrow,hP,hM,_⟩:=uK (Ex.mk ⟨#[]⟩ 0 ⟨#[]⟩ []) (N:=SizeOf.sizeOf x.1) (M:=fun ex=>ex.op.size+1) (R:=fun _=>True) Tryz.underlying23 cS (by omega) (fun fuel cs x hx h=>Mw _ fuel cs x hx h) h (Nat.le_refl _)
 have hm:((List.range n).map f).length=n:=by simp
 refine⟨o,c,(List.range n).map f,by rw[hm];exact e,?_,by rw[Fe];exact hM⟩
 rw[hm,←E5 hP];exact hrow
theorem Ev{fuel:Nat}{cs:List Value}{x:DataW H×List MemPlace}(h:DataW.trod enc Tryz.prog W 0 sp true fuel 25 cs=some x):∃(o:Option Addr) (c:Nat) (es:List Ex) (ys:List Value),cs=[.slice o es.length c]∧aB W lT 4 (.slice o es.length c) es.length ys∧aQ W lT es ys∧dB es≤Rows.uptoBulk x.1∧(Rows.uptoBulk x.1≤1048576→dR es∧Fit 2199023255552 es):=by
 obtain⟨o,n,c,f,g,e,hrow,hP,hM,hR⟩:=uK (Ex.mk ⟨#[]⟩ 0 ⟨#[]⟩ []) (N:=SizeOf.sizeOf x.1) (M:=iL) (R:=fun ex=>fJ ex∧Fit 2199023255552 [ex]) Tryz.underlying25 cE (by omega) (fun fuel cs x hx h=>Bq _ fuel cs x hx h) h (Nat.le_refl _)
 have hm:((List.range n).map f).length=n:=by simp
 refine⟨o,c,(List.range n).map f,_,by rw[hm];exact e,by rw[hm];exact hrow,aQ.range hP,by rw[yT];exact hM,fun hw=>⟨xG fun ex hex=>?_,Fit.range fun i hi=>(hR hw i hi).2⟩⟩
 obtain⟨i,hi,rfl⟩:=List.mem_map.1 hex
 exact(hR hw i (List.mem_range.1 hi)).1
def tT(f:Fw):Nat:=f.name.size+1+iL f.e
theorem MC(N fuel:Nat)(cs:List Value)(x:DataW H×List MemPlace)(_:SizeOf.sizeOf x.1<N)(h:DataW.trod enc Tryz.prog W 0 sp true fuel 90 cs=some x):∃fw:Fw,fC W lT [fw] cs∧tT fw≤Rows.uptoBulk x.1∧(Rows.uptoBulk x.1≤1048576→fJ fw.e∧Fit 2199023255552 [fw.e]):=by
 obtain⟨y0,y1,y2,n,hx,hl,u0,u1,u2⟩:=JG Tryz.underlying90 h
 rw[GY] at hl
 obtain⟨v0,v1,v2,v3,v4,v5,rfl⟩:=NQ hl
 simp only[cS,Am,cE,List.drop,List.take] at u0 u1 u2
 rw[hx]
 obtain⟨s0,e0,hd0,_⟩:=DataW.trod_string Tryz.underlying9 u0
 obtain⟨n1,e1,_,_⟩:=DataW.trod_int Tryz.underlying3 u1
 obtain⟨ex,hE,hW,hFE⟩:=Bq _ _ _ _ (Nat.lt_succ_self _) u2
 simp only[List.cons.injEq,and_true] at e0 e1
 subst e0 e1
 have hb0:=yD (congrArg Prod.fst hd0)
 have hfl:=fC.cons s0 n1 ex [] _ [] hE .nil
 refine⟨⟨s0,n1,ex⟩,by simpa using hfl,?_,fun hw=>hFE ?_⟩
 ·simp only[Rows.uptoBulk,Rows.uptoBulkAll]
  show s0.size+1+iL ex≤_
  rw[size_bytes]
  omega
 ·simp only[Rows.uptoBulk,Rows.uptoBulkAll] at hw
  omega
theorem MB{fuel:Nat}{cs:List Value}{x:DataW H×List MemPlace}(h:DataW.trod enc Tryz.prog W 0 sp true fuel 24 cs=some x):∃(o:Option Addr) (c:Nat) (fs:List Fw) (ys:List Value),cs=[.slice o fs.length c]∧aB W lT 6 (.slice o fs.length c) fs.length ys∧fC W lT fs ys∧(fs.length≤Rows.uptoBulk x.1∧dB (fs.map fun f=>f.e)≤Rows.uptoBulk x.1∧∀f∈fs,f.name.size≤Rows.uptoBulk x.1)∧(Rows.uptoBulk x.1≤1048576→dR (fs.map fun f=>f.e)∧Fit 2199023255552 (fs.map fun f=>f.e)):=by
 obtain⟨o,n,c,f,g,e,hrow,hP,hM,hR⟩:=uK (⟨⟨#[]⟩,0,(Ex.mk ⟨#[]⟩ 0 ⟨#[]⟩ [])⟩:Fw) (N:=SizeOf.sizeOf x.1) (M:=tT) (R:=fun fw=>fJ fw.e∧Fit 2199023255552 [fw.e]) Tryz.underlying24 GY (by omega) (fun fuel cs x hx h=>MC _ fuel cs x hx h) h (Nat.le_refl _)
 have hm:((List.range n).map f).length=n:=by simp
 have hmap:((List.range n).map f).map (fun f=>f.e)=(List.range n).map fun i=>(f i).e:=by rw[List.map_map];rfl
 have h1:=Dz (n:=n) (m:=fun i=>tT (f i)) fun i _=>by unfold tT;omega
 refine⟨o,c,(List.range n).map f,_,by rw[hm];exact e,by rw[hm];exact hrow,fC.range hP,⟨by rw[hm];omega,?_,fun fw hfw=>?_⟩,fun hw=>?_⟩
 ·rw[hmap,yT]
  refine Nat.le_trans (DI fun i _=>?_) hM
  unfold tT
  omega
 ·obtain⟨i,hi,rfl⟩:=List.mem_map.1 hfw
  have:=JY (m:=fun i=>tT (f i)) (List.mem_range.1 hi)
  have e:tT (f i)=(f i).name.size+1+iL (f i).e:=rfl
  omega
 ·rw[hmap]
  refine⟨xG fun ex hex=>?_,Fit.range fun i hi=>(hR hw i hi).2⟩
  obtain⟨i,hi,rfl⟩:=List.mem_map.1 hex
  exact(hR hw i (List.mem_range.1 hi)).1
theorem Mr(N fuel:Nat)(cs:List Value)(x:DataW H×List MemPlace)(_:SizeOf.sizeOf x.1<N)(h:DataW.trod enc Tryz.prog W 0 sp true fuel 66 cs=some x):∃v:Int×Int,cs=[.int .i64 v.1,.int .i64 v.2]∧0≤Rows.uptoBulk x.1∧(Rows.uptoBulk x.1≤1048576→True):=by
 obtain⟨y0,y1,n,hx,hl,u0,u1⟩:=Du Tryz.underlying66 h
 rw[GZ] at hl
 obtain⟨v0,v1,rfl⟩:=Fu hl
 simp only[Am,List.drop,List.take] at u0 u1
 obtain⟨n0,e0,_,_⟩:=DataW.trod_int Tryz.underlying3 u0
 obtain⟨n1,e1,_,_⟩:=DataW.trod_int Tryz.underlying3 u1
 simp only[List.cons.injEq,and_true] at e0 e1
 subst e0 e1
 exact⟨(n0,n1),rfl,Nat.zero_le _,fun _=>trivial⟩
theorem Mq(N fuel:Nat)(cs:List Value)(x:DataW H×List MemPlace)(_:SizeOf.sizeOf x.1<N)(h:DataW.trod enc Tryz.prog W 0 sp true fuel 64 cs=some x):∃l:List (Int×Int),(∃vo vc,cs=[.slice vo l.length vc]∧aB W lT 2 (.slice vo l.length vc) l.length (bG l))∧0≤Rows.uptoBulk x.1∧(Rows.uptoBulk x.1≤1048576→True):=by
 obtain⟨o,n,c,f,g,e,hrow,hP,_,_⟩:=uK ((0,0):Int×Int) (N:=SizeOf.sizeOf x.1) (M:=fun _=>0) (R:=fun _=>True) Tryz.underlying64 GZ (by omega) (fun fuel cs x hx h=>Mr _ fuel cs x hx h) h (Nat.le_refl _)
 have hm:((List.range n).map f).length=n:=by simp
 refine⟨(List.range n).map f,⟨o,c,by rw[hm];exact e,?_⟩,Nat.zero_le _,fun _=>trivial⟩
 rw[hm,←C9 hP]
 exact hrow
theorem Mx{fuel:Nat}{cs:List Value}{x:DataW H×List MemPlace}(h:DataW.trod enc Tryz.prog W 0 sp true fuel 51 cs=some x):∃(o:Option Addr) (c:Nat) (ll:List (List (Int×Int))),cs=[.slice o ll.length c]∧nQ W (.slice o ll.length c) ll:=by
 obtain⟨o,n,c,f,g,e,hrow,hP,_,_⟩:=uK ([]:List (Int×Int)) (N:=SizeOf.sizeOf x.1) (M:=fun _=>0) (R:=fun _=>True) Tryz.underlying51 Qk (by omega) (fun fuel cs x hx h=>Mq _ fuel cs x hx h) h (Nat.le_refl _)
 have hm:((List.range n).map f).length=n:=by simp
 refine⟨o,c,(List.range n).map f,by rw[hm];exact e,_,by rw[hm];exact hrow,?_⟩
 have hg:∀i,i<n→(g i).length=1:=fun i hi=>by obtain⟨vo,vc,h1,_⟩:=hP i hi;rw[h1];rfl
 refine⟨by rw[hm,xX hg];omega,fun k l hk=>?_⟩
 have hkn:k<n:=by have:=(bA hk).1;omega
 rw[List.getElem?_map,List.getElem?_range hkn] at hk
 obtain rfl:f k=l:=by simpa using hk
 obtain⟨vo,vc,h1,h2⟩:=hP k hkn
 exact⟨vo,vc,flat_get hg hkn h1,h2⟩
theorem Ms{fuel:Nat}{cs:List Value}{x:DataW H×List MemPlace}(h:DataW.trod enc Tryz.prog W 0 sp true fuel 27 cs=some x)(hw:Rows.uptoBulk x.1≤1048576):∃(p:Pg) (o1 o2 o3 o4 o5:Option Addr) (c1 c2 c3 c4 c5:Nat),cs=[.slice o1 p.ins.length c1,.slice o2 p.outs.length c2,.slice o3 p.fs.length c3,.slice o4 p.asserts.length c4,.slice o5 p.checks.length c5]∧iY W lT p (.slice o1 p.ins.length c1) (.slice o2 p.outs.length c2) (.slice o3 p.fs.length c3) (.slice o4 p.asserts.length c4) (.slice o5 p.checks.length c5)∧(p.ins.length≤2097152∧p.outs.length≤2097152∧p.fs.length≤2097152∧p.asserts.length≤2097152∧p.checks.length≤2097152)∧Fit 2199023255552 (aI p)∧(aI p).length≤2097152∧dB (aI p)≤1152921504606846976∧dR (aI p)∧(∀v∈aT p,v.1.size≤maxLen)∧∀e∈p.outs,e.op.size≤maxLen:=by
 obtain⟨y0,y1,y2,y3,y4,n,hx,hl,u0,u1,u2,u3,u4⟩:=JE Tryz.underlying27 h
 rw[Qg] at hl
 obtain⟨v0,v1,v2,v3,v4,rfl⟩:=NR hl
 simp only[Qh,Qi,Qj,GX,List.drop,List.take] at u0 u1 u2 u3 u4
 rw[hx] at hw
 simp only[Rows.uptoBulk,Rows.uptoBulkAll] at hw
 obtain⟨o1,c1,ins,e1,hr1,hw1⟩:=Mk u0
 obtain⟨o2,c2,outs,e2,hr2,hw2⟩:=Mt u1
 obtain⟨o3,c3,fs,x3,e3,hr3,hi3,⟨l3,m3,n3⟩,hs3⟩:=MB u2
 obtain⟨o4,c4,ax,x4,e4,hr4,hi4,hw4,hs4⟩:=Ev u3
 obtain⟨o5,c5,cx,x5,e5,hr5,hi5,hw5,hs5⟩:=Ev u4
 simp only[List.cons.injEq,and_true] at e1 e2 e3 e4 e5
 subst e1 e2 e3 e4 e5
 obtain⟨s3,f3⟩:=hs3 (by omega)
 obtain⟨s4,f4⟩:=hs4 (by omega)
 obtain⟨s5,f5⟩:=hs5 (by omega)
 have k1:=Fg ins
 have k2:=Fg outs
 have k4:=CS ax
 have k5:=CS cx
 refine⟨⟨ins,outs,fs,ax,cx⟩,o1,o2,o3,o4,o5,c1,c2,c3,c4,c5,rfl,⟨hr1,hr2,⟨x3,hr3,hi3⟩,⟨x4,hr4,hi4⟩,⟨x5,hr5,hi5⟩⟩,⟨?_,?_,?_,?_,?_⟩,f3.append (f4.append f5),?_,?_,xG fun e he=>?_,fun v hv=>?_,fun e he=>?_⟩
 ·show ins.length≤_;omega
 ·show outs.length≤_;omega
 ·show fs.length≤_;omega
 ·show ax.length≤_;omega
 ·show cx.length≤_;omega
 ·show (fs.map (fun f=>f.e)++(ax++cx)).length≤_
  rw[List.length_append,List.length_append,List.length_map];omega
 ·show dB (fs.map (fun f=>f.e)++(ax++cx))≤_
  rw[yU,yU];omega
 ·have he':e∈fs.map (fun f=>f.e)++(ax++cx):=he
  rcases List.mem_append.1 he' with he | he
  ·exact zF s3 e he
  ·rcases List.mem_append.1 he with he | he
   ·exact zF s4 e he
   ·exact zF s5 e he
 ·have hv':v∈ins.map (fun e=>(e.op,e.n))++fs.map fun f=>(f.name,f.kind):=hv
  rcases List.mem_append.1 hv' with hv | hv
  ·obtain⟨e,he,rfl⟩:=List.mem_map.1 hv
   have:=Ff he
   show e.op.size≤maxLen
   unfold maxLen;omega
  ·obtain⟨f,hf,rfl⟩:=List.mem_map.1 hv
   have:=n3 f hf
   show f.name.size≤maxLen
   unfold maxLen;omega
 ·have:=Ff (show e∈outs from he)
  unfold maxLen;omega
end
end Go.Proofs.YtmgfakcccfahaaaGreatDoor
