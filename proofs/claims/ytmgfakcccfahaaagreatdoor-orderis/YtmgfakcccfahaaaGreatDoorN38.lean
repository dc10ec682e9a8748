/-
  PLANS AS MATHEMATICS: a program's terms, each with its level; where names are.
-/
import Derived.Test.YtmgfakcccfahaaaGreatDoorN34
import Derived.Test.YtmgfakcccfahaaaGreatDoorN32
namespace Go.Proofs.YtmgfakcccfahaaaGreatDoor
open Go.RowKit Go.Maps
theorem GY:∀(A B:List Ex),aC (A++B)=aC A+aC B
 | [],B=>by simp [aC]
 | e::A,B=>by simp [aC,GY A B];omega
theorem BF(fl:List UInt8→Option Int):∀(A B:List Ex) (b c:Nat),eZ fl b c (A++B)=eZ fl b c A++eZ fl (b+aC A) (c+dV A) B
 | [],B,b,c=>by simp [eZ,aC,dV]
 | e::A,B,b,c=>by simp [eZ,aC,dV,BF fl A B,Nat.add_assoc]
theorem Ck:∀(A B:List Ex),gT (A++B)=gT A++gT B
 | [],B=>by simp [gT]
 | e::A,B=>by simp [gT,Ck A B]
theorem C8:∀(A B:List Ex) (b:Nat),gI b (A++B)=gI b A++gI (b+aC A) B
 | [],B,b=>by simp [gI,aC]
 | e::A,B,b=>by simp [gI,aC,C8 A B,Nat.add_assoc]
theorem yF:∀(A B:List Ex) (b:Nat),dK b (A++B)=dK b A++dK (b+aC A) B
 | [],B,b=>by simp [dK,aC]
 | e::A,B,b=>by simp [dK,aC,yF A B,Nat.add_assoc]
inductive nY(x:Cx)(t:Tb):Nat→Nat→List (Nat×Ex)→Prop
 | nil (b c:Nat):nY x t b c []
 | cons (a b c:Nat) (e:Ex) (l:List (Nat×Ex)):Vw x t a b c e→nY x t (b+aJ e) (c+fB e) l→nY x t b c ((a,e)::l)
def Cw(N:Nat):List (Nat×Ex)→List Nat
 | []=>[]
 | y::l=>lG N y.1 y.2++Cw N l
section
variable {x:Cx} {t:Tb}
theorem nY.at{b c:Nat}{l:List (Nat×Ex)}(h:nY x t b c l):∀{i:Nat} {y:Nat×Ex},l[i]?=some y→∃b' c',Vw x t y.1 b' c' y.2∧(dK b (l.map Prod.snd))[i]?=some (b'+aJ y.2-1)∧b≤b'∧b'+aJ y.2≤b+aC (l.map Prod.snd):=by
 induction h with
 | nil=>intro i y hi;simp at hi
 | cons a b c e l hv _ ih=>
  intro i y hi
  match i with
  | 0=>
   obtain rfl:(a,e)=y:=by simpa using hi
   exact⟨b,c,hv,by simp [dK],Nat.le_refl _,by simp [aC]⟩
  | i+1=>
   obtain⟨b',c',h1,h2,h3,h4⟩:=ih (i:=i) (y:=y) (by simpa using hi)
   refine⟨b',c',h1,by simpa [dK] using h2,by omega,?_⟩
   simp only[List.map_cons,aC]
   omega
theorem nY.all{b c:Nat}{l:List (Nat×Ex)}(h:nY x t b c l):∀j,b≤j→j<b+aC (l.map Prod.snd)→∃a' b' c' e',Vw x t a' b' c' e'∧j+1=b'+aJ e'∧b≤b'∧c'+fB e'≤c+dV (l.map Prod.snd):=by
 induction h with
 | nil b c=>intro j h1 h2;simp [aC] at h2;omega
 | cons a b c e l hv _ ih=>
  intro j h1 h2
  simp only[List.map_cons,aC,dV] at h2 ⊢
  by_cases hj:j<b+aJ e
  ·obtain⟨a',b',c',e',r1,r2,r3,_,r5⟩:=Vw.all e hv j h1 hj
   exact⟨a',b',c',e',r1,r2,r3,by omega⟩
  ·obtain⟨a',b',c',e',r1,r2,r3,r5⟩:=ih j (by omega) (by omega)
   exact⟨a',b',c',e',r1,r2,by omega,by omega⟩
end
theorem vO:∀{l:List (ByteArray×Int)} {f g:List UInt8→Option Int},bA f l=some g→(l.map fun v=>v.1.data.toList).Nodup∧∀v∈l,f v.1.data.toList=none∧(v.2=1∨v.2=2)
 | [],f,g,_=>⟨List.nodup_nil,fun v hv=>by cases hv⟩
 | v::l,f,g,h=>by
  unfold bA at h
  split at h
  ·cases h
  ·rename_i hb
   obtain⟨h1,h2⟩:=vO h
   have hb':fI f v=false:=by simpa using hb
   unfold fI at hb'
   simp only[Bool.or_eq_false_iff,Bool.and_eq_false_iff] at hb'
   have hn:f v.1.data.toList=none:=by simpa using hb'.1.1
   have hk:v.2=1∨v.2=2:=by
    rcases hb'.2 with h | h
    ·exact .inl (by simpa using h)
    ·exact .inr (by simpa using h)
   refine⟨List.nodup_cons.2 ⟨fun hm=>?_,h1⟩,fun u hu=>?_⟩
   ·obtain⟨u,hu,e⟩:=List.mem_map.1 hm
    have:=(h2 u hu).1
    unfold bM at this
    rw[if_pos e] at this
    cases this
   ·rcases List.mem_cons.1 hu with rfl | hu
    ·exact⟨hn,hk⟩
    ·have:=h2 u hu
     unfold bM at this
     refine⟨?_,this.2⟩
     have h3:=this.1
     split at h3
     ·cases h3
     ·exact h3
theorem Dh:∀{l:List (ByteArray×Int)} {f:List UInt8→Option Int} {s:List UInt8},(∀v∈l,v.1.data.toList≠s)→jF f l s=f s
 | [],f,s,_=>rfl
 | v::l,f,s,h=>by
  show jF (bM f v) l s=f s
  rw[Dh fun u hu=>h u (List.mem_cons_of_mem _ hu)]
  unfold bM
  rw[if_neg fun e=>h v (List.mem_cons_self ..) e.symm]
theorem Di:∀{l:List (ByteArray×Int)} {f:List UInt8→Option Int} {v:ByteArray×Int},(l.map fun v=>v.1.data.toList).Nodup→v∈l→jF f l v.1.data.toList=some v.2
 | u::l,f,v,hn,hv=>by
  rw[List.map_cons,List.nodup_cons] at hn
  show jF (bM f u) l _=_
  rcases List.mem_cons.1 hv with rfl | hv
  ·rw[Dh fun y hy e=>hn.1 (List.mem_map.2 ⟨y,hy,e⟩)]
   unfold bM
   rw[if_pos rfl]
  ·exact Di hn.2 hv
theorem Dj(f:List UInt8→Option Int)(A B:List (ByteArray×Int)):jF f (A++B)=jF (jF f A) B:=by unfold jF;rw[List.foldl_append]
def jX:List Ex→Nat→List (ByteArray×Int)
 | [],_=>[]
 | x::l,j=>(x.op,(j:Int))::jX l (j+1)
def kR:List Fw→Nat→List (ByteArray×Int)
 | [],_=>[]
 | x::l,b=>(x.name,((b+aJ x.e-1:Nat):Int))::kR l (b+aJ x.e)
theorem Dp:∀(l:List Ex) (x:Ex) (j:Nat),jX (l++[x]) j=jX l j++[(x.op,((j+l.length:Nat):Int))]
 | [],x,j=>by simp [jX]
 | y::l,x,j=>by
  simp only[List.cons_append,jX,Dp l x (j+1),List.length_cons]
  rw[show j+1+l.length=j+(l.length+1) from by omega]
theorem Dr(ins:List Ex):∀j,j≤ins.length→mM ins j=jF (fun _=>none) (jX (ins.take j) 0)
 | 0,_=>by simp [mM,jX,jF]
 | j+1,hj=>by
  have hx:ins[j]?=some ins[j]:=List.getElem?_eq_getElem (by omega)
  rw[←MQ hx,Dr ins j (by omega),List.take_add_one,hx]
  show _=jF _ (jX (ins.take j++[ins[j]]) 0)
  rw[Dp,Dj,List.length_take,Nat.min_eq_left (by omega),Nat.zero_add]
  rfl
theorem Dq:∀(l:List Ex) (j:Nat),(jX l j).map (fun v=>v.1)=l.map Ex.op
 | [],_=>rfl
 | x::l,j=>by simp [jX,Dq l (j+1)]
theorem D8:∀(l:List Fw) (b:Nat),(kR l b).map (fun v=>v.1)=l.map Fw.name
 | [],_=>rfl
 | x::l,b=>by simp [kR,D8 l]
theorem D9:∀(l:List Fw) (b i:Nat) (x:Fw),l[i]?=some x→∃k,(dK b (l.map fun f=>f.e))[i]?=some k∧(kR l b)[i]?=some (x.name,(k:Int))
 | [],b,i,x,h=>by simp at h
 | y::l,b,0,x,h=>by
  obtain rfl:y=x:=by simpa using h
  exact⟨b+aJ y.e-1,by simp [dK],by unfold kR;rfl⟩
 | y::l,b,i+1,x,h=>by
  obtain⟨k,h1,h2⟩:=D9 l (b+aJ y.e) i x (by simpa using h)
  exact⟨k,by simpa [dK] using h1,by unfold kR;rw[List.getElem?_cons_succ];exact h2⟩
theorem Cf(fl:List UInt8→Option Int):∀(l:List Fw) (s:Pm×(List UInt8→Option Int)),pX fl l s=(⟨s.1.ps++eZ fl s.1.ps.length s.1.ks.length (l.map fun f=>f.e),s.1.ns++gT (l.map fun f=>f.e),s.1.ks++gI s.1.ps.length (l.map fun f=>f.e)⟩,jF s.2 (kR l s.1.ps.length))
 | [],s=>by simp [pX,eZ,gT,gI,jF,kR]
 | x::l,s=>by
  unfold pX
  rw[Cf fl l,BH]
  simp only[List.length_append,nN,p9,List.map_cons,eZ,gT,gI,kR,List.append_assoc]
  rfl
theorem JS(p:Pg)(fl:List UInt8→Option Int):l7 p fl=⟨List.replicate p.ins.length y7++eZ fl p.ins.length 0 (aD p),p.ins.map Ex.op++gT (aD p),gI p.ins.length (aD p)⟩∧(gG p fl).2=jF (fun _=>none) (jX p.ins 0++kR p.fs p.ins.length) ∧
  (gF fl p.asserts (gG p fl).1).2=dK (p.ins.length+aC (p.fs.map fun f=>f.e)) p.asserts∧(gF fl p.checks (gF fl p.asserts (gG p fl).1).1).2=dK (p.ins.length+aC (p.fs.map fun f=>f.e)+aC p.asserts) p.checks:=by
 have h0:gG p fl=_:=Cf fl p.fs _
 simp only[List.length_replicate,List.length_nil,List.nil_append] at h0
 have h1:=uQ fl p.asserts (gG p fl).1
 rw[h0] at h1
 simp only[List.length_append,List.length_replicate,lD,nU] at h1
 have h2:=uQ fl p.checks (gF fl p.asserts (gG p fl).1).1
 rw[h0,h1] at h2
 simp only[List.length_append,List.length_replicate,lD,nU] at h2
 refine⟨?_,?_,by rw[h0,h1],by rw[h0,h1,h2]⟩
 ·unfold l7 aD
  rw[h0,h1,h2]
  simp only[BF,Ck,C8,List.append_assoc,Nat.add_assoc,Nat.zero_add]
 ·rw[h0,Dj]
  show jF (mM p.ins p.ins.length) _=_
  rw[Dr p.ins _ (Nat.le_refl _),List.take_length]
theorem bV.before{nd:List (List Nat)}{d:List Nat}(h:bV nd d):∀i∈d,∀k∈aU nd i,d.idxOf k<d.idxOf i:=by
 induction h with
 | nil=>intro i hi;cases hi
 | snoc d i _ hf _ ih=>
  intro j hj k hk
  rw[List.idxOf_append,List.idxOf_append]
  rcases List.mem_append.1 hj with hj | hj
  ·have h1:=ih j hj k hk
   have hkd:k∈d:=by
    refine Classical.byContradiction fun hn=>?_
    rw[List.idxOf_eq_length hn] at h1
    have:=List.idxOf_lt_length_of_mem hj
    omega
   rw[if_pos hkd,if_pos hj]
   exact h1
  ·obtain rfl:=List.mem_singleton.1 hj
   have hkd:=hf.2.2 k hk
   rw[if_pos hkd,if_neg hf.2.1]
   have:=List.idxOf_lt_length_of_mem hkd
   omega
def oU(d:List Nat):List Fw→Nat→List (Nat×Ex)
 | [],_=>[]
 | x::l,i=>(d.idxOf i,x.e)::oU d l (i+1)
def pI(p:Pg)(d:List Nat):List (Nat×Ex):=oU d p.fs 0++(p.asserts++p.checks).map fun e=>(p.fs.length,e)
theorem D6(d:List Nat):∀(l:List Fw) (i:Nat),(oU d l i).map Prod.snd=l.map fun f=>f.e
 | [],i=>rfl
 | x::l,i=>by simp [oU,D6 d l (i+1)]
theorem AZ(p:Pg)(d:List Nat):(pI p d).map Prod.snd=aD p:=by
 unfold pI aD
 rw[List.map_append,D6,List.map_map]
 congr 1
 exact List.map_id _
theorem Ny(d:List Nat):∀(l:List Fw) (i:Nat) (y:Nat×Ex),y∈oU d l i→∃j f,l[j]?=some f∧y=(d.idxOf (i+j),f.e)
 | [],i,y,h=>by cases h
 | x::l,i,y,h=>by
  unfold oU at h
  rcases List.mem_cons.1 h with rfl | h
  ·exact⟨0,x,rfl,rfl⟩
  ·obtain⟨j,f,h1,rfl⟩:=Ny d l (i+1) y h
   exact⟨j+1,f,by simpa using h1,by rw[show i+1+j=i+(j+1) from by omega]⟩
theorem D7(d:List Nat):∀(l:List Fw) (i j:Nat) (f:Fw),l[j]?=some f→(oU d l i)[j]?=some (d.idxOf (i+j),f.e)
 | [],i,j,f,h=>by simp at h
 | x::l,i,0,f,h=>by
  obtain rfl:x=f:=by simpa using h
  rfl
 | x::l,i,j+1,f,h=>by
  unfold oU
  rw[List.getElem?_cons_succ,D7 d l (i+1) j f (by simpa using h),show i+1+j=i+(j+1) from by omega]
def xH(p:Pg)(fl:List UInt8→Option Int)(qs:List Int)(d:List Nat):Tb:=⟨(l7 p fl).ps,(l7 p fl).ns,(l7 p fl).ks,p.ins.map Ex.n++qs,List.replicate p.ins.length 0++Cw p.fs.length (pI p d)⟩
def Ee(p:Pg)(fl:List UInt8→Option Int)(H:Ex→Prop)(hH:∀op n s l,eO (.mk op n s l)→H (.mk op n s l)→∀x∈l,H x)(d:List Nat):Cx:=⟨fl,jF (fun _=>none) (aK p),H,hH,p.fs.length,fun s=>(fA p.fs p.fs.length s).map fun k=>d.idxOf k⟩
theorem IJ(fp:List UInt8→Option Int)(ns:List ByteArray)(ps:List Pq)(k:Nat):(pO fp ns ps)[k]?=ps[k]?.map fun q=>jT fp (u6 ns k) q:=by
 unfold pO
 rw[List.getElem?_mapIdx]
theorem BG{p:Pg}{kd:List UInt8→Option Int}(hk:bA (fun _=>none) (aK p)=some kd)(fl:List UInt8→Option Int){j:Nat}{y:Fw}(hy:p.fs[j]?=some y):(dK p.ins.length (p.fs.map fun f=>f.e))[j]?=some (lF (gG p fl).2 y.name):=by
 have hn:=(vO hk).1
 have e:(jX p.ins 0++kR p.fs p.ins.length).map (fun v=>v.1.data.toList)=(aK p).map fun v=>v.1.data.toList:=by
  have h1:(jX p.ins 0++kR p.fs p.ins.length).map (fun v=>v.1)=(aK p).map fun v=>v.1:=by
   unfold aK gX dD
   rw[List.map_append,List.map_append,Dq,D8,List.map_map,List.map_map];rfl
  have:=congrArg (List.map fun s:ByteArray=>s.data.toList) h1
  simpa [List.map_map,Function.comp_def] using this
 rw[←e] at hn
 obtain⟨k,h1,h2⟩:=D9 p.fs p.ins.length j y hy
 have:=Di (f:=fun _=>none) hn (List.mem_append_right (jX p.ins 0) (List.mem_of_getElem? h2))
 unfold lF
 rw[(JS p fl).2.1,this,h1]
 simp
theorem Cg{α:Type}{l:List α}(h:l.Nodup){i j:Nat}{x:α}(hi:l[i]?=some x)(hj:l[j]?=some x):i=j:=by
 rw[List.nodup_iff_pairwise_ne,List.pairwise_iff_getElem] at h
 obtain⟨h1,e1⟩:=aX hi
 obtain⟨h2,e2⟩:=aX hj
 rcases Nat.lt_trichotomy i j with h3 | h3 | h3
 ·exact absurd (e1.trans e2.symm) (h i j h1 h2 h3)
 ·exact h3
 ·exact absurd (e2.trans e1.symm) (h j i h2 h1 h3)
theorem uZ{p:Pg}{kd:List UInt8→Option Int}(hk:bA (fun _=>none) (aK p)=some kd){j:Nat}{y:Fw}(hy:p.fs[j]?=some y):fA p.fs p.fs.length y.name.data.toList=some j:=by
 have hn:=(vO hk).1
 unfold aK at hn
 rw[List.map_append,List.nodup_append] at hn
 have hnf:=hn.2.1
 unfold dD at hnf
 rw[List.map_map] at hnf
 have key:∀m,j<m→m≤p.fs.length→fA p.fs m y.name.data.toList=some j:=by
  intro m
  induction m with
  | zero=>intro h;omega
  | succ m ih=>
   intro h1 h2
   have hx:p.fs[m]?=some p.fs[m]:=List.getElem?_eq_getElem (by omega)
   unfold fA
   rw[hx]
   simp only
   by_cases e:j=m
   ·subst e
    rw[hy] at hx
    obtain rfl:=Option.some.inj hx
    rw[if_pos rfl]
   ·rw[if_neg,ih (by omega) (by omega)]
    intro hs
    refine e (Cg hnf (i:=j) (j:=m) (x:=y.name.data.toList) ?_ ?_)
    ·rw[List.getElem?_map,hy];rfl
    ·rw[List.getElem?_map,hx];exact congrArg some hs.symm
 exact key _ (aX hy).1 (Nat.le_refl _)
theorem II(fp:List UInt8→Option Int)(s:ByteArray)(q:Pq):(jT fp s q).op=q.op∧(jT fp s q).n=q.n∧(jT fp s q).mem=q.mem∧(jT fp s q).kind=q.kind∧(jT fp s q).late=q.late∧(q.op.data.toList=bI→(jT fp s q).dO=[lF fp s])∧(q.op.data.toList≠bI→(jT fp s q).dO=q.dO):=by
 unfold jT
 by_cases h:q.op.data.toList=bI
 ·rw[if_pos h]
  exact⟨rfl,rfl,rfl,rfl,rfl,fun _=>rfl,fun hn=>absurd h hn⟩
 ·rw[if_neg h]
  exact⟨rfl,rfl,rfl,rfl,rfl,fun hn=>absurd hn h,fun _=>rfl⟩
structure Px(x:Cx)(t:Tb)(fp:List UInt8→Option Int)(ps:List Pq)(j:Nat)(a b c:Nat)(op:ByteArray)(n:Int)(s:ByteArray)(l:List Ex)(q:Pq):Prop where
 vw:Vw x t a b c (.mk op n s l)
 ej:j=b+aC l
 at':ps[j]?=some q
 is:q=jT fp s (nP x.fl b c op n s l)
theorem Vw.flow{p:Pg}{d:List Nat}{kd:List UInt8→Option Int}(hk:bA (fun _=>none) (aK p)=some kd){fl:List UInt8→Option Int}{H:Ex→Prop}{hH:∀op n s l,eO (.mk op n s l)→H (.mk op n s l)→∀x∈l,H x}{qs:List Int}(hv:nY (Ee p fl H hH d) (xH p fl qs d) p.ins.length 0 (pI p d))
  {j:Nat} {y:Fw} (hy:p.fs[j]?=some y):∃b' c',Vw (Ee p fl H hH d) (xH p fl qs d) (d.idxOf j) b' c' y.e∧lF (gG p fl).2 y.name+1=b'+aJ y.e∧p.ins.length≤b'∧b'+aJ y.e≤p.ins.length+aC (aD p):=by
 have hm:(pI p d)[j]?=some (d.idxOf j,y.e):=by
  have:=D7 d p.fs 0 j y hy
  rw[Nat.zero_add] at this
  unfold pI
  rw[List.getElem?_append_left (aX this).1]
  exact this
 obtain⟨b',c',h1,h2,h3,h4⟩:=hv.at hm
 rw[AZ] at h2 h4
 have h5:=BG hk fl hy
 have hl:j<(dK p.ins.length (p.fs.map fun f=>f.e)).length:=(aX h5).1
 unfold aD at h2
 rw[yF,List.getElem?_append_left hl,h5] at h2
 have:=Option.some.inj h2
 have hp:=Bb y.e
 refine⟨b',c',h1,?_,h3,h4⟩
 show _=b'+aJ y.e
 simp only at this
 omega
theorem CQ:∀(l:List Nat) (a:Nat),a≤l.foldl Nat.max a∧∀x∈l,x≤l.foldl Nat.max a
 | [],a=>⟨Nat.le_refl _,fun x h=>by cases h⟩
 | y::l,a=>by
  have h:=CQ l (Nat.max a y)
  rw[List.foldl_cons]
  refine⟨Nat.le_trans (Nat.le_max_left _ _) h.1,fun x hx=>?_⟩
  rcases List.mem_cons.1 hx with rfl | hx
  ·exact Nat.le_trans (Nat.le_max_right _ _) h.1
  ·exact h.2 x hx
theorem vY{l:List Ex}(h:l.length=2):∃a b,l=[a,b]:=match l,h with | [a,b],_=>⟨a,b,rfl⟩
theorem any_max:∀(l:List Nat) (a:Nat),decide (0<l.foldl Nat.max a)=(decide (0<a)||(l.map fun n=>decide (0<n)).any id)
 | [],a=>by rw[Bool.eq_iff_iff];simp;exact⟨of_decide_eq_true,fun h=>decide_eq_true h⟩
 | y::l,a=>by
  rw[List.foldl_cons,any_max l,List.map_cons,List.any_cons,←Bool.or_assoc]
  congr 1
  have:(0<Nat.max a y) ↔ (0<a∨0<y):=by
   show (0<max a y) ↔ _
   omega
  simp [this]
theorem Mh{f:List UInt8→Nat}(hf:∀s,f s≤2){op:ByteArray}{n:Int}{s:ByteArray}{l:List Ex}(ha:eO (.mk op n s l))(h:aO f (.mk op n s l)≠2):∀x∈l,aO f x≠2:=by
 unfold eO at ha
 rw[oN] at h
 intro x hx
 by_cases h1:op.data.toList=bI
 ·have h0:=ha.1 h1
  rw[List.length_eq_zero_iff.1 h0] at hx;cases hx
 rw[if_neg h1] at h
 by_cases h2:op.data.toList=cZ
 ·rw[if_pos h2] at h
  obtain⟨e0,rfl⟩:=List.length_eq_one_iff.1 (ha.2.1 h2)
  obtain rfl:=List.mem_singleton.1 hx
  simp only[aW,List.getElem?_cons_zero,Option.getD_some] at h
  unfold iJ at h
  split at h<;>omega
 rw[if_neg h2] at h
 by_cases h3:op.data.toList=iZ
 ·rw[if_pos h3] at h
  obtain⟨e0,e1,rfl⟩:=vY (ha.2.2.1 h3)
  simp only[aW,List.getElem?_cons_zero,List.getElem?_cons_succ,Option.getD_some] at h
  unfold iQ at h
  rcases List.mem_cons.1 hx with rfl | hx
  ·split at h<;>omega
  ·obtain rfl:=List.mem_singleton.1 hx
   split at h<;>omega
 rw[if_neg h3] at h
 by_cases h4:op.data.toList=cK
 ·rw[if_pos h4] at h
  obtain⟨e0,e1,rfl⟩:=vY (ha.2.2.2.1 h4)
  simp only[aW,List.getElem?_cons_zero,List.getElem?_cons_succ,Option.getD_some] at h
  unfold iQ iJ at h
  by_cases hc:aO f e1+1<2
  ·rw[if_pos hc] at h
   rcases List.mem_cons.1 hx with rfl | hx
   ·split at h<;>omega
   ·obtain rfl:=List.mem_singleton.1 hx
    omega
  ·rw[if_neg hc,if_pos rfl] at h
   exact absurd rfl h
 rw[if_neg h4] at h
 have hm:=(CQ (aW f l) 0).2 (aO f x) (by rw[kM];exact List.mem_map_of_mem hx)
 have hl:=zF (k:=2) (aW f l) 0 (by omega) (fun y hy=>by
  rw[kM] at hy
  obtain⟨z,_,rfl⟩:=List.mem_map.1 hy
  exact oO hf z)
 omega
mutual
theorem CZ{fl:List UInt8→Option Int}{f:List UInt8→Nat}(hfl:∀s,(fl s).getD 0=(f s:Int))(hf:∀s,f s≤2):∀e:Ex,eO e→aO f e≠2→kN fl e=decide (0<aO f e)
 | .mk op n s l,ha,h2=>by
  have hl:=CW hfl hf l (by unfold eO at ha;exact ha.2.2.2.2) (Mh hf ha h2)
  unfold eO at ha
  rw[oN] at h2 ⊢
  unfold kN
  by_cases c1:op.data.toList=bI
  ·rw[if_pos c1,if_pos c1,hfl]
   simp
  rw[if_neg c1] at h2 ⊢
  rw[if_neg c1]
  by_cases c2:op.data.toList=cZ
  ·rw[if_pos c2,if_pos c2]
   unfold iJ
   split<;>simp
  rw[if_neg c2] at h2 ⊢
  rw[if_neg c2]
  by_cases c3:op.data.toList=iZ
  ·rw[if_pos (.inl c3),if_pos c3]
   rw[if_pos c3] at h2
   obtain⟨e0,e1,rfl⟩:=vY (ha.2.2.1 c3)
   rw[hl]
   simp only[aW,List.getElem?_cons_zero,List.getElem?_cons_succ,Option.getD_some,List.map_cons,List.take_succ_cons,List.take_zero,List.any_cons,List.any_nil,Bool.or_false,id] at h2 ⊢
   unfold iQ at h2 ⊢
   split
   ·rename_i hc;rw[if_pos hc] at h2;exact absurd rfl h2
   ·rfl
  rw[if_neg c3] at h2 ⊢
  by_cases c4:op.data.toList=cK
  ·rw[if_pos (.inr c4),if_pos c4]
   rw[if_pos c4] at h2
   obtain⟨e0,e1,rfl⟩:=vY (ha.2.2.2.1 c4)
   rw[hl]
   simp only[aW,List.getElem?_cons_zero,List.getElem?_cons_succ,Option.getD_some,List.map_cons,List.take_succ_cons,List.take_zero,List.any_cons,List.any_nil,Bool.or_false,id] at h2 ⊢
   unfold iQ at h2 ⊢
   split
   ·rename_i hc;rw[if_pos hc] at h2;exact absurd rfl h2
   ·rfl
  rw[if_neg c4] at h2 ⊢
  rw[if_neg (fun h=>h.elim c3 c4),hl,any_max]
  simp
theorem CW{fl:List UInt8→Option Int}{f:List UInt8→Nat}(hfl:∀s,(fl s).getD 0=(f s:Int))(hf:∀s,f s≤2):∀l:List Ex,iB l→(∀x∈l,aO f x≠2)→nS fl l=(aW f l).map fun n=>decide (0<n)
 | [],_,_=>by simp [nS,aW]
 | e::es,ha,h2=>by
  unfold iB at ha
  unfold nS aW
  rw[CZ hfl hf e ha.1 (h2 e List.mem_cons_self),CW hfl hf es ha.2 fun x hx=>h2 x (List.mem_cons_of_mem _ hx)]
  rfl
end
theorem gV.eq{fs:List Fw}{f:List UInt8→Nat}(h:gV fs f)(hn:(fs.map fun y=>y.name.data.toList).Nodup){x:Fw}(hx:x∈fs):f x.name.data.toList=aO f x.e:=by
 refine Nat.le_antisymm ?_ (h.1.2 x hx)
 have hle:∀s,gH f x.name.data.toList (aO f x.e) s≤f s:=fun s=>by
  unfold gH
  split
  ·rename_i e;rw[e];exact h.1.2 x hx
  ·exact Nat.le_refl _
 have hg:oF fs (gH f x.name.data.toList (aO f x.e)):=by
  refine⟨fun s=>Nat.le_trans (hle s) (h.1.1 s),fun y hy=>Nat.le_trans (vK hle h.1.1 y.e) ?_⟩
  unfold gH
  split
  ·rename_i e
   obtain⟨i,hi⟩:=List.mem_iff_getElem?.1 hy
   obtain⟨j,hj⟩:=List.mem_iff_getElem?.1 hx
   have e1:(fs.map fun y=>y.name.data.toList)[i]?=some x.name.data.toList:=by rw[List.getElem?_map,hi,←e];rfl
   have e2:(fs.map fun y=>y.name.data.toList)[j]?=some x.name.data.toList:=by rw[List.getElem?_map,hj];rfl
   have:=Cg hn e1 e2
   rw[this,hj] at hi
   rw[Option.some.inj hi]
   exact Nat.le_refl _
  ·exact h.1.2 y hy
 have:=h.2 _ hg x.name.data.toList
 unfold gH at this
 rwa [if_pos rfl] at this
theorem Lj{p:Pg}{kd:List UInt8→Option Int}(hk:bA (fun _=>none) (aK p)=some kd):(p.fs.map fun y=>y.name.data.toList).Nodup:=by
 have hn:=(vO hk).1
 unfold aK at hn
 rw[List.map_append,List.nodup_append] at hn
 have e:(dD p.fs).map (fun v=>v.1.data.toList)=p.fs.map fun y=>y.name.data.toList:=by simp [dD]
 rw[←e];exact hn.2.1
set_option maxRecDepth 100000
set_option maxHeartbeats 1000000

theorem aB.block{w:World}{S:Nat→Prop}{size b n c:Nat}{t:TypeId}{cs:Array Value}{xs:List Value}(h:w.heap[b]?=some (.cells cs t (0,0)))(hS:S b)(hx:cs.toList=xs)(hl:xs.length=n*size)(hn:n≤maxLen)(hc:n≤c):aB w S size (.slice (some ⟨b,0,none⟩) n c) n xs:=by
 refine⟨hl,hn,_,c,rfl,fun k x hk=>⟨b,0,rfl,hS,?_⟩,hc⟩
 rw[Nat.zero_add,cell_of_row w b k cs t (0,0) h]
 rw[←hx] at hk
 simpa using hk
theorem aB.u7(w:World)(S:Nat→Prop)(size:Nat):aB w S size (.slice none 0 0) 0 []:=⟨by simp,by unfold maxLen;omega,none,0,rfl,fun k x hx=>by simp at hx,Nat.le_refl _⟩
structure qG(w:World)(E:gW):Prop where
 e3:E3 w E.st E.bt E.tt E.sq E.bq E.tq
 q8:w.cell? ⟨0,0,none⟩=some (.iface E.ct E.cq)
 fst:w.cell? ⟨1,0,none⟩=some (.iface E.ft E.fq)
theorem qG.keep{w w':World}{E:gW}(h:qG w E)(hb:Bw w w'):qG w' E:=⟨h.e3.keep hb,aF hb h.q8,aF hb h.fst⟩
def bX:ByteArray:=⟨#[120]⟩
def wJ:ByteArray:=⟨#[116,114,117,101]⟩
def rE:ByteArray:=⟨#[]⟩
def iV:Pg:=⟨[],[.mk bX 0 rE []],[⟨bX,1,.mk wJ 0 rE []⟩],[],[]⟩
structure nD(w:World)(b1 b2:Nat):Prop where
 out:w.heap[b1]?=some (.cells #[.string ⟨#[120]⟩] 9 (0,0))
 fl:w.heap[b2]?=some (.cells #[.string ⟨#[120]⟩,.int .i64 1,.string ⟨#[116,114,117,101]⟩,.int .i64 0,.string ⟨#[]⟩,.slice none 0 0] 95 (0,0))
theorem Gv(w:World)(o1 o2 o3:Obj):(((w.alloc o1).alloc o2).alloc o3).heap[w.heap.size+1+1]?=some o3:=by
 have:=heap_alloc_new ((w.alloc o1).alloc o2) o3
 rwa [show ((w.alloc o1).alloc o2).heap.size=w.heap.size+1+1 from by simp] at this
theorem Oy(w:World):Calls Tryz.prog 31 #[] w fun e w'=>∃b1 b2,e=.returned (.agg #[.slice none 0 0,.slice (some ⟨b1,0,none⟩) 1 1,.slice (some ⟨b2,0,none⟩) 1 1,.slice none 0 0,.slice none 0 0])∧nD w' b1 b2∧Bw w w':=by
 go_enter Tryz.func31,Tryz.ntmps31
 go_wp2
 go_returns
 refine⟨_,_,rfl,⟨jH _ (dX w _ _),Gv w _ _ _⟩,((aH).alloc (by simp) _).alloc (by simp;omega) _⟩
theorem Ox:aQ iV=0:=by
 have h1:bA (fun _=>none) (aK iV)=some (bM (fun _=>none) (bX,1)):=rfl
 have h2:gQ iV=true:=by decide
 have h3:bG (bM (fun _=>none) (bX,1)) (aD iV)=true:=by
  show bG (bM (fun _=>none) (bX,1)) [.mk wJ 0 rE []]=true
  unfold bG dG bG jA
  rw[ByteArray.toList_eq,ByteArray.toList_eq]
  rfl
 have h4:aM (bM (fun _=>none) (bX,1)) (aD iV)=some (bT iV,[1]):=rfl
 unfold aQ
 rw[h1]
 simp only
 rw[h2,h3,h4]
 rfl
theorem Ov{m k:Nat}:¬bP (aN iV.fs) m k:=by
 have h0:aN iV.fs=[[]]:=rfl
 have h1:∀m,aU (aN iV.fs) m=[]:=fun m=>by
  rw[h0]
  cases m<;>rfl
 intro h
 cases h with
 | one _ _ hk=>rw[h1] at hk;simp at hk
 | more _ _ _ hk _=>rw[h1] at hk;simp at hk
theorem Aa{E:gW}{w:World}{t:TypeId}{x:Value}(h:j4 iV E w t x):False:=by
 rcases h with⟨h,_⟩ | ⟨_,m,b,_,_,_,h,_⟩
 ·exact h Ox
 ·exact Ov h
theorem Ow{d:List Nat}(h:iT iV d):d=[0]:=by
 obtain⟨_,hG,hl⟩:=h
 have hl:d.length=1:=hl
 match d,hl with
 | [x],_=>
  have h1:x<1:=hG.lt x (List.mem_singleton_self _)
  rw[show x=0 from by omega]
theorem Eu{f:List UInt8→Nat}(h:gV iV.fs f)(s:List UInt8):f s=0:=by
 have:=h.2 (fun _=>0) ⟨fun _=>Nat.zero_le _,fun x hx=>by
  obtain rfl:=List.mem_singleton.1 hx
  exact Nat.le_of_eq rfl⟩ s
 omega
theorem nD.pg{w:World}{b1 b2:Nat}(h:nD w b1 b2){E:gW}(he:qG w E):iR w (fun b=>b=b1∨b=b2) iV none (some ⟨b1,0,none⟩) (some ⟨b2,0,none⟩) none none 0 1 1 0 0 E:=by
 refine⟨⟨aB.u7 _ _ _,?_,⟨_,aB.block h.fl (.inr rfl) rfl rfl (by unfold maxLen;exact Nat.le_of_ble_eq_true rfl) (Nat.le_refl _),?_⟩,⟨[],aB.u7 _ _ _,.nil⟩,⟨[],aB.u7 _ _ _,.nil⟩⟩,?_,?_,fun _=>⟨rfl,rfl⟩,?_,he.e3,he.q8,he.fst⟩
 ·exact aB.block h.out (.inl rfl) rfl rfl (by unfold maxLen;exact Nat.le_of_ble_eq_true rfl) (Nat.le_refl _)
 ·exact .cons _ _ _ _ _ _ (.cons _ _ _ _ _ _ _ _ (aB.u7 _ _ _) .nil .nil) .nil
 ·rintro b (rfl | rfl) _
  ·exact⟨_,_,h.out⟩
  ·exact⟨_,_,h.fl⟩
 ·rintro b (rfl | rfl)
  ·exact(bE h.out).1
  ·exact(bE h.fl).1
 ·have hm:∀n:Nat,n≤100→n≤maxLen:=fun n hn=>by unfold maxLen;omega
  refine⟨by decide,by decide,by decide,?_,?_,?_,?_⟩
  ·show aC [.mk wJ 0 rE []]≤100000
   simp [aC,aJ]
  ·show gM [.mk wJ 0 rE []]
   unfold gM eG gM
   exact⟨⟨hm _ (by decide),hm _ (by decide),trivial⟩,trivial⟩
  ·intro v hv
   obtain rfl:v=(bX,1):=List.mem_singleton.1 hv
   exact hm _ (by decide)
  ·intro e he
   obtain rfl:e=.mk bX 0 rE []:=List.mem_singleton.1 he
   exact hm _ (by decide)
theorem NC(w:World)(E:gW)(he:qG w E):Calls Tryz.prog 7 #[] w fun e w'=>e=.returned (.bool true)∧Bw w w':=by
 have HB:Hid (∀w,Calls Tryz.prog 31 #[] w fun e w'=>∃b1 b2,e=.returned (.agg #[.slice none 0 0,.slice (some ⟨b1,0,none⟩) 1 1,.slice (some ⟨b2,0,none⟩) 1 1,.slice none 0 0,.slice none 0 0])∧nD w' b1 b2∧Bw w w'):=Oy
 have HO:Hid (∀W b1 b2,Bw w W→nD W b1 b2→Calls Tryz.prog 9 #[.agg #[.slice none 0 0,.slice (some ⟨b1,0,none⟩) 1 1,.slice (some ⟨b2,0,none⟩) 1 1,.slice none 0 0,.slice none 0 0]] W fun e w'=>Bw W w'∧∃o c,e=.returned (.tuple #[.slice (some ⟨o,0,none⟩) 1 c,.nilIface])∧w'.cell? ⟨o,0,none⟩=some (.int .i64 0)):=fun W b1 b2 hW hb=>by
  refine(xY W _ iV none (some ⟨b1,0,none⟩) (some ⟨b2,0,none⟩) none none 0 1 1 0 0 E (hb.pg (he.keep hW))).mono ?_
  rintro e w' ⟨hb',hr⟩
  refine⟨hb',?_⟩
  rcases hr with⟨d,o,c,hd,rfl,hown⟩ | ⟨t,x,hx,_⟩
  ·obtain rfl:=Ow hd
   obtain⟨gg,cap,es,_⟩:=hown.form (by decide)
   obtain⟨rfl,rfl⟩:o=some ⟨gg,0,none⟩∧c=cap:=by simpa using es
   have y0:=hown.cells (g:=gg) rfl 0 (.int .i64 0) rfl
   rw[Addr.add_lit,Nat.zero_add] at y0
   exact⟨gg,c,rfl,y0⟩
  ·exact(Aa hx).elim
 have HC:Hid (∀W b1 b2,Bw w W→nD W b1 b2→Calls Tryz.prog 14 #[.agg #[.slice none 0 0,.slice (some ⟨b1,0,none⟩) 1 1,.slice (some ⟨b2,0,none⟩) 1 1,.slice none 0 0,.slice none 0 0]] W fun e w'=>Bw W w'∧e=.returned .nilIface):=fun W b1 b2 hW hb=>by
  refine(Cc W _ iV none (some ⟨b1,0,none⟩) (some ⟨b2,0,none⟩) none none 0 1 1 0 0 E (hb.pg (he.keep hW))).mono ?_
  rintro e w' ⟨hb',hr⟩
  refine⟨hb',?_⟩
  rcases hr with⟨t,x,hx,_⟩ | ⟨d,f,_,hf,hr⟩
  ·exact(Aa hx).elim
  ·rcases hr with⟨m,b,x,_,hbad,_⟩ | ⟨_,hr⟩
   ·unfold dR at hbad
    rw[Eu hf] at hbad
    simp at hbad
   ·rcases hr with⟨⟨y,hy,_⟩,_⟩ | ⟨_,rfl⟩
    ·simp [iV] at hy
    ·rfl
 have HL:Hid (∀W b1 b2,Bw w W→nD W b1 b2→Calls Tryz.prog 11 #[.agg #[.slice none 0 0,.slice (some ⟨b1,0,none⟩) 1 1,.slice (some ⟨b2,0,none⟩) 1 1,.slice none 0 0,.slice none 0 0]] W fun e w'=>Bw W w'∧∃o,e=.returned (.tuple #[.slice (some ⟨o,0,none⟩) 1 1,.nilIface])∧w'.cell? ⟨o,0,none⟩=some (.int .i64 0)):=fun W b1 b2 hW hb=>by
  refine(CU W _ iV none (some ⟨b1,0,none⟩) (some ⟨b2,0,none⟩) none none 0 1 1 0 0 E (hb.pg (he.keep hW))).mono ?_
  rintro e w' ⟨hb',hr⟩
  refine⟨hb',?_⟩
  rcases hr with⟨d,f,nb,_,hf,rfl,_,hw⟩ | ⟨t,x,hx,_⟩
  ·refine⟨nb,rfl,?_⟩
   rw[hw.cell (k:=0) (by decide)]
   show some (Value.int .i64 ((f bX.data.toList:Nat):Int))=_
   rw[Eu hf]
   rfl
  ·exact(Aa hx).elim
 clear he
 go_enter Tryz.func7,Tryz.ntmps7
 go_wp2_with fail
 refine(HB.out w).mono ?_
 rintro e w1 ⟨b1,b2,rfl,hba1,hb1⟩
 have HB1:Hid (Bw w w1∧nD w1 b1 b2):=⟨hb1,hba1⟩
 clear hba1 hb1
 go_wp2_with fail
 refine(HO.out w1 b1 b2 HB1.out.1 HB1.out.2).mono ?_
 rintro e w2 ⟨hb2,o,c,rfl,y0⟩
 have HB2:Hid (Bw w w2):=HB1.out.1.trans (hb2.mono HB1.out.1.size)
 clear hb2
 go_wp2_with fail
 refine(HB.out w2).mono ?_
 rintro e w3 ⟨b3,b4,rfl,hba3,hb3⟩
 have HB3:Hid (Bw w w3∧nD w3 b3 b4):=⟨HB2.out.trans (hb3.mono HB2.out.size),hba3⟩
 clear hba3 hb3 y0
 go_wp2_with fail
 refine(HC.out w3 b3 b4 HB3.out.1 HB3.out.2).mono ?_
 rintro e w4 ⟨hb4,rfl⟩
 have HB4:Hid (Bw w w4):=HB3.out.1.trans (hb4.mono HB3.out.1.size)
 clear hb4
 go_wp2_with fail
 refine(HB.out w4).mono ?_
 rintro e w5 ⟨b5,b6,rfl,hba5,hb5⟩
 have HB5:Hid (Bw w w5∧nD w5 b5 b6):=⟨HB4.out.trans (hb5.mono HB4.out.size),hba5⟩
 clear hba5 hb5
 go_wp2_with fail
 refine(HL.out w5 b5 b6 HB5.out.1 HB5.out.2).mono ?_
 rintro e w6 ⟨hb6,o6,rfl,y0⟩
 have HB6:Hid (Bw w w6):=HB5.out.1.trans (hb6.mono HB5.out.1.size)
 clear hb6
 go_wp2
 go_ret
 exact⟨rfl,HB6.out⟩
structure Same(d d':qF):Prop where
 I:d'.I=d.I
 R:d'.R=d.R
 B:d'.B=d.B
 C:d'.C=d.C
 fr:d'.fr=d.fr
 mo:d'.mo=d.mo
 ml:d'.ml=d.ml
 mc:d'.mc=d.mc
 n:d'.n=d.n
structure Pt(w0:World)(q:jJ)(d:qF)(wk:(Nat→Int)→Pq→Int×Bool)(Rd:Nat→Int→Prop):Prop where
 work:∀(x:Nat) (p:Pq),q.ps[x]?=some p→lI q.ps x=false→∀(d':qF) (w:World),Same d d'→kT w0 d' w→(∀y∈qO q.ps x,Rd y (d'.g y))→Calls Tryz.prog 149 #[.pointer (some ⟨d.I,0,none⟩),.int .i64 (x:Int)] w fun e w'=>e=.returned (.int .i64 (wk d'.g p).1)∧∃a b c,kT w0 { d' with a:=a,b:=b,c:=c,tr:=d'.tr||(wk d'.g p).2 } w'
 right:∀(x:Nat) (p:Pq) (g:Nat→Int),q.ps[x]?=some p→lI q.ps x=false→(∀y∈qO q.ps x,Rd y (g y))→Rd x (wk g p).1
 same:∀(x:Nat) (p:Pq) (g g':Nat→Int),q.ps[x]?=some p→(∀y∈qO q.ps x,g y=g' y)→wk g p=wk g' p
def Pb(q:jJ)(inp:List (Int×Int))(g:Nat→Int):Prop:=∀(i x:Nat) (v:Int×Int),q.is[i]?=some x→inp[i]?=some v→g x=v.2
def Au(q:jJ)(wk:(Nat→Int)→Pq→Int×Bool)(g:Nat→Int)(x:Nat):Int×Bool:=match q.ps[x]? with | some p=>wk g p | none=>(0,false)
structure EQ(q:jJ)(inp:List (Int×Int))(wk:(Nat→Int)→Pq→Int×Bool)(Rd:Nat→Int→Prop)(j:Nat)(g:Nat→Int)(tr:Bool):Prop where
 ins:Pb q inp g
 val:∀x∈q.ts.take j,g x=(Au q wk g x).1∧Rd x (g x)
 tr:tr=(q.ts.take j).any fun x=>(Au q wk g x).2
structure O6(q:jJ):Prop where
 Gr:OZ q.ps q.ts
 is:∀(x:Nat),x<q.ps.length→(lI q.ps x=true ↔ x∈q.is)
 Pn:∀x∈q.is,x<q.ps.length
 Pk:q.is.Nodup
 nl:∀x y,y∈qO q.ps x→y<q.ps.length
end Go.Proofs.YtmgfakcccfahaaaGreatDoor
