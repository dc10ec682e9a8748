/-
  package flow: WHAT IS TOLD DOES NOT HANG ON NIL, as mathematics; a run of fewer instants is a beginning.
-/
import Derived.Test.YtmgfakcccfahaaaGreatDoorN49
namespace Go.Proofs.YtmgfakcccfahaaaGreatDoor
open Go.RowKit Go.Maps
theorem IY{q:bC}(hp:iT q){nb nn nb' nn':Int}{fr:Bool}{mem mem':List (Int×Int)}(hm:fr=false→mem=mem'){x:Nat}{p:Pq}(hx:q.ps[x]?=some p)(hb:eZ q.ps x=false){g g':Nat→Int}(hg:∀y∈dY q.ps x,(fr=false∨gH q.ps y=false)→g y=g' y)(hl:fr=false∨p.late=false):jD nb nn fr mem q g p=jD nb' nn' fr mem' q g' p:=by
 have hnd:dY q.ps x=dI p:=by unfold dY;rw[hx]
 have hfl:¬(fr&&p.late)=true:=by rcases hl with h | h<;>rw[h]<;>simp
 unfold jD
 by_cases hpl:jF p
 ·rw[if_pos (.inl hpl),if_pos (.inl hpl)]
  congr 1
  unfold gK
  rw[if_neg hfl,if_neg hfl]
  split
  ·rfl
  rename_i h3
  split
  ·rename_i h
   obtain⟨y,h1,_,_,h4⟩:=hp.nm x p hx h
   rw[uM h1]
   exact hg y (by rw[hnd];unfold dI;rw[if_neg (by rw[h];decide),if_neg (by rw[h];decide),h1];simp) (hl.imp id fun e=>by rw[h4,e])
  rename_i h4
  split
  ·rename_i h
   obtain⟨h5,_⟩:=hp.pre x p hx h
   rcases hl with e | e
   ·rw[hm e]
   ·rw[h5] at e;cases e
  rename_i h5
  have hop:p.op.data.toList=fV∨p.op.data.toList=bQ:=by
   rcases hpl with h | h | h | h | h | h
   ·exact absurd (.inl h) h3
   ·exact absurd (.inr (.inl h)) h3
   ·exact absurd (.inr (.inr h)) h3
   ·exact absurd h h4
   ·exact absurd h h5
   ·exact h
  rcases hop with h | h
  ·obtain⟨a,b,h1,_,_,_,_,h6⟩:=hp.arr x p hx h
   have e1:dI p=[a,b]:=by unfold dI;rw[if_neg (by rw[h];decide),if_neg (by rw[h];decide),h1]
   rw[hnd,e1] at hg
   by_cases hfr:fr=true
   ·rw[qL hfr,qL hfr,uM h1]
    exact hg a (by simp) (hl.imp id fun e=>by rw[h6,e])
   ·rw[yI hfr h,yI hfr h,bP h1]
    exact hg b (by simp) (.inl (by simpa using hfr))
  ·obtain⟨a,b,m,h1,_,_,_,_,h6,_⟩:=hp.Aj x p hx h
   have e1:dI p=[a]:=by unfold dI;rw[if_neg (by rw[h];decide),if_pos h,h1];rfl
   rw[hnd,e1] at hg
   by_cases hfr:fr=true
   ·rw[qL hfr,qL hfr,uM h1]
    exact hg a (by simp) (hl.imp id fun e=>by rw[h6,e])
   ·rw[yH hfr h,yH hfr h,hm (by simpa using hfr)]
 ·rw[if_neg (fun h=>h.elim hpl hfl),if_neg (fun h=>h.elim hpl hfl)]
  obtain⟨t,_,_,_,_,_,h6⟩:=hp.zP x p hx hb hpl
  rw[hnd,zW hpl] at hg
  have ha:jL q g p=jL q g' p:=by
   unfold jL
   exact List.map_congr_left fun y hy=>by rw[hg y hy (hl.imp id fun e=>h6 e y hy)]
  unfold vL
  rw[ha]
theorem JV{α:Type}{l:List α}{j:Nat}{x:α}(h:l[j]?=some x):l=l.take j++x::l.drop (j+1):=by
 obtain⟨hl,rfl⟩:=bA h
 have:=List.take_append_drop j l
 rw[List.drop_eq_getElem_cons hl] at this
 exact this.symm
theorem AU{q:bC}(hp:iT q)(hq:jX q){ts':List Nat}(hq':jV q.ps ts'){nb nn nb' nn':Int}{fr tr tr':Bool}{mem mem' inp:List (Int×Int)}{g g':Nat→Int}(hil:inp.length=q.is.length)(hm:fr=false→mem=mem')(h:rP nb nn q fr mem inp g tr)(h':rP nb' nn' { q with ts:=ts' } fr mem' inp g' tr') :
  tr=tr'∧∀x,x<q.ps.length→(fr=false∨gH q.ps x=false)→g x=g' x:=by
 have hv:=h.val
 have hv':=h'.val
 rw[List.take_length] at hv
 have hv2:∀x∈ts',g' x=(kJ { q with ts:=ts' } (jD nb' nn' fr mem' { q with ts:=ts' }) g' x).1:=fun x hx=>(hv' x (by rw[List.take_length];exact hx)).1
 have hin:∀x,x<q.ps.length→eZ q.ps x=true→g x=g' x:=fun x hx hb=>by
  obtain⟨i,hi⟩:=List.mem_iff_getElem?.1 ((hq.is x hx).1 hb)
  have hl:=(bA hi).1
  obtain⟨v,hv⟩:∃v,inp[i]?=some v:=⟨_,List.getElem?_eq_getElem (by omega)⟩
  rw[h.ins i x v hi hv,h'.ins i x v hi hv]
 have hwk:∀(p:Pq) (g:Nat→Int),jD nb' nn' fr mem' { q with ts:=ts' } g p=jD nb' nn' fr mem' q g p:=fun _ _=>rfl
 have hkey:∀(x:Nat) (p:Pq),q.ps[x]?=some p→eZ q.ps x=false→(∀y∈dY q.ps x,(fr=false∨gH q.ps y=false)→g y=g' y)→(fr=false∨gH q.ps x=false)→kJ q (jD nb nn fr mem q) g x=kJ { q with ts:=ts' } (jD nb' nn' fr mem' { q with ts:=ts' }) g' x:=fun x p hx hb hy hl=>by
  rw[tV hx]
  show _=kJ q _ g' x
  rw[tV hx,hwk]
  exact IY hp hm hx hb hy (hl.imp id fun e=>by rw[xO hx] at e;exact e)
 have hmem:∀x,x<q.ps.length→eZ q.ps x=false→x∈ts':=fun x hx hb=>(hq'.all x hx).resolve_left (by rw[hb];decide)
 have hall:∀j,j≤q.ts.length→∀x∈q.ts.take j,(fr=false∨gH q.ps x=false)→g x=g' x:=by
  intro j
  induction j with
  | zero=>intro _ x hx;simp at hx
  | succ j ih=>
   intro hj x hx hl
   obtain⟨z,hz⟩:∃z,q.ts[j]?=some z:=⟨_,List.getElem?_eq_getElem (by omega)⟩
   rw[List.take_add_one,hz] at hx
   rcases List.mem_append.1 hx with hx | hx
   ·exact ih (by omega) x hx hl
   ·obtain rfl:x=z:=by simpa using hx
    have hzt:=List.mem_of_getElem? hz
    obtain⟨hzl,hzb⟩:=hq.lU.t x hzt
    obtain⟨p,hpx⟩:∃p,q.ps[x]?=some p:=⟨_,List.getElem?_eq_getElem hzl⟩
    rw[(hv x hzt).1,hv2 x (hmem x hzl hzb),hkey x p hpx hzb (fun y hy hly=>?_) hl]
    rcases hq.lU.o _ _ _ (JV hz) y hy with h1 | h1
    ·exact hin y (hq.nl x y hy) h1
    ·exact ih (by omega) y h1 hly
 have hP:∀x,x<q.ps.length→(fr=false∨gH q.ps x=false)→g x=g' x:=fun x hx hl=>by
  rcases hq.lU.all x hx with h1 | h1
  ·exact hin x hx h1
  ·exact hall q.ts.length (Nat.le_refl _) x (by rw[List.take_length];exact h1) hl
 refine⟨?_,hP⟩
 have htr:=h.tr
 have htr':tr'=ts'.any fun x=>(kJ { q with ts:=ts' } (jD nb' nn' fr mem' { q with ts:=ts' }) g' x).2:=by
  have:=h'.tr
  rw[List.take_length] at this
  exact this
 rw[List.take_length] at htr
 have heq:∀x,x<q.ps.length→eZ q.ps x=false→(kJ q (jD nb nn fr mem q) g x).2=(kJ { q with ts:=ts' } (jD nb' nn' fr mem' { q with ts:=ts' }) g' x).2:=fun x hx hb=>by
  obtain⟨p,hpx⟩:∃p,q.ps[x]?=some p:=⟨_,List.getElem?_eq_getElem hx⟩
  by_cases hl:fr=false∨gH q.ps x=false
  ·rw[hkey x p hpx hb (fun y hy=>hP y (hq.nl x y hy)) hl]
  ·rw[xO hpx] at hl
   have hfl:(fr&&p.late)=true:=by
    cases fr<;>cases hpl:p.late<;>simp_all
   rw[tV hpx]
   show _=(kJ q _ g' x).2
   rw[tV hpx]
   unfold jD
   rw[if_pos (.inr hfl),if_pos (.inr hfl)]
 rw[htr,htr',Bool.eq_iff_iff,List.any_eq_true,List.any_eq_true]
 constructor
 ·rintro⟨x,h1,h2⟩
  obtain⟨a,b⟩:=hq.lU.t x h1
  exact⟨x,hmem x a b,by rw[←heq x a b];exact h2⟩
 ·rintro⟨x,h1,h2⟩
  obtain⟨a,b⟩:=hq'.t x h1
  exact⟨x,(hq.lU.all x a).resolve_left (by rw[b];decide),by rw[heq x a b];exact h2⟩
def rQ(nb nn:Int)(q:bC):Bool→List (Int×Int)→List (List (Int×Int))→List Tk→Prop
 | _,_,[],tks=>tks=[]
 | fr,mem,inp::ins,tks=>∃g,(rP nb nn q fr mem inp g true∧tks=[rV])∨(rP nb nn q fr mem inp g false∧∃t',tks=qA q g::t'∧rQ nb nn q false (bM q g q.ks) ins t')
theorem Rp.xA{nb nn:Int}{q:bC}{ins:List (List (Int×Int))}{tks:List Tk}{fr:Bool}{mem:List (Int×Int)}(h:Rp nb nn q ins tks fr mem):∀ins' tks',rQ nb nn q fr mem ins' tks'→rQ nb nn q true (q.ks.map fun x=>(bK q.ps x,jG nb nn (bK q.ps x))) (ins++ins') (tks++tks'):=by
 induction h with
 | zero=>exact fun _ _ h=>h
 | step _ h2 ih=>
  intro ins' tks' h
  rw[List.append_assoc,List.append_assoc]
  exact ih _ _ ⟨_,.inr ⟨h2,_,rfl,h⟩⟩
theorem Rn.xA{nb nn:Int}{q:bC}{ins:List (List (Int×Int))}{tks:List Tk}(h:Rn nb nn q ins tks):rQ nb nn q true (q.ks.map fun x=>(bK q.ps x,jG nb nn (bK q.ps x))) ins tks:=by
 rcases h with⟨fr,mem,h⟩ | ⟨ins0,inp,ins1,tks0,fr,mem,g,rfl,h,h2,rfl⟩
 ·have:=h.xA [] [] rfl
  rwa [List.append_nil,List.append_nil] at this
 ·exact h.xA _ _ ⟨g,.inl ⟨h2,rfl⟩⟩
theorem JK{q:bC}(hp:iT q){g g':Nat→Int}(h:∀x,x<q.ps.length→gH q.ps x=false→g x=g' x):qA q g=qA q g'∧bM q g q.ks=bM q g' q.ks:=by
 have h1:bM q g q.os=bM q g' q.os:=List.map_congr_left fun x hx=>by rw[h x (hp.os x hx).1 (hp.os x hx).2]
 have h2:eF g q.ax=eF g' q.ax:=by
  unfold eF
  have:∀l:List Nat,(∀x∈l,g x=g' x)→(l.all fun x=>g x==1)=l.all fun x=>g' x==1:=fun l=>by
   induction l with
   | nil=>intro _;rfl
   | cons y l ih=>intro hl;rw[List.all_cons,List.all_cons,hl y List.mem_cons_self,ih fun z hz=>hl z (List.mem_cons_of_mem _ hz)]
  exact this _ fun x hx=>h x (hp.ax x hx).1 (hp.ax x hx).2.1
 have h3:iB g q.cx=iB g' q.cx:=List.map_congr_left fun x hx=>by rw[h x (hp.cx x hx).1 (hp.cx x hx).2.1]
 refine⟨?_,List.map_congr_left fun x hx=>by rw[h x (hp.ks x hx).1 (hp.ks x hx).2]⟩
 unfold qA
 rw[h1,h2,h3]
theorem rQ.nil{q:bC}(hp:iT q)(hq:jX q){ts':List Nat}(hq':jV q.ps ts'){nb nn nb' nn':Int}:∀(ins ins' r:List (List (Int×Int))) (fr:Bool) (mem mem':List (Int×Int)) (t t':List Tk),ins=ins'++r→(∀l∈ins,dO q.ps q.is l=true)→(fr=false→mem=mem')→rQ nb nn q fr mem ins t→rQ nb' nn' { q with ts:=ts' } fr mem' ins' t'→∃s,t=t'++s
 | ins,[],r,fr,mem,mem',t,t',_,_,_,_,h'=>⟨t,by have e:t'=[]:=h';rw[e];rfl⟩
 | [],inp::ins',r,fr,mem,mem',t,t',e,_,_,_,_=>by simp at e
 | inp0::ins,inp::ins',r,fr,mem,mem',t,t',e,hf,hm,h,h'=>by
  obtain⟨rfl,rfl⟩:inp0=inp∧ins=ins'++r:=by simpa using e
  obtain⟨g,h⟩:=h
  obtain⟨g',h'⟩:=h'
  have hil:=(yA (hf inp0 List.mem_cons_self)).1
  rcases h with⟨h1,rfl⟩ | ⟨h1,u,rfl,h2⟩
  ·rcases h' with⟨h3,rfl⟩ | ⟨h3,_⟩
   ·exact⟨[],rfl⟩
   ·have:=(AU hp hq hq' hil hm h1 h3).1
    cases this
  ·rcases h' with⟨h3,_⟩ | ⟨h3,u',rfl,h4⟩
   ·have:=(AU hp hq hq' hil hm h1 h3).1
    cases this
   ·have hs:=JK hp fun x hx hl=>(AU hp hq hq' hil hm h1 h3).2 x hx (.inr hl)
    obtain⟨s,rfl⟩:=rQ.nil hp hq hq' _ ins' r false _ _ u u' rfl (fun l hl=>hf l (List.mem_cons_of_mem _ hl)) (fun _=>hs.2) h2 h4
    refine⟨s,?_⟩
    rw[hs.1]
    rfl
theorem Rn.nil{q:bC}(hp:iT q)(hq:jX q){ts':List Nat}(hq':jV q.ps ts'){nb nn nb' nn':Int}{ins ins' r:List (List (Int×Int))}{t t':List Tk}(e:ins=ins'++r)(hf:∀l∈ins,dO q.ps q.is l=true)(h:Rn nb nn q ins t)(h':Rn nb' nn' { q with ts:=ts' } ins' t'):∃s,t=t'++s:=
 rQ.nil hp hq hq' ins ins' r true _ _ t t' e hf (fun h=>by cases h) h.xA h'.xA
end Go.Proofs.YtmgfakcccfahaaaGreatDoor
namespace Go.Proofs.YtmgfakcccfahaaaGreatDoor
open Go.RowKit
theorem nS.not{p:Pg}{E:fD}{w:World}{t:TypeId}{x:Value}{d:List Nat}{f:List UInt8→Nat}(h:nS p E (.returned (.iface t x)) w)(hr:oO p d f):False:=by
 rcases h with⟨t',x',h1,_⟩ | ⟨d',f',_,h2,h3⟩
 ·exact h1.not hr.ord
 ·obtain rfl:=kZ.one h2 hr.lt
  rcases h3 with⟨m,b,y,a1,a2,_⟩ | ⟨_,⟨⟨y,hy,hlt⟩,_⟩ | ⟨_,he⟩⟩
  ·exact absurd (hr.out m y a1) (by rw[a2];decide)
  ·exact absurd (hr.ask y hy) (by omega)
  ·exact absurd he (by simp)
def Rq(e e':Ending):Prop:=∃t x t' x',e=.returned (.tuple #[.slice none 0 0,.iface t x])∧e'=.returned (.tuple #[.slice none 0 0,.iface t' x'])
def Ro(nb nn nb' nn':Int)(ins ins':List (List (Int×Int)))(e:Ending)(w:World)(e':Ending)(w':World):Prop:=
 ∃(q:bC) (ts':List Nat) (t t':List Tk) (o:Option Addr) (c:Nat) (o':Option Addr) (c':Nat),iT q∧jX q∧iT { q with ts:=ts' }∧jX { q with ts:=ts' }∧(∀l∈ins,dO q.ps q.is l=true)∧ins.length≤300∧Rn nb nn q ins t∧Rn nb' nn' { q with ts:=ts' } ins' t' ∧
  e=.returned (.tuple #[.slice o t.length c,.nilIface])∧eU w (.slice o t.length c) t∧e'=.returned (.tuple #[.slice o' t'.length c',.nilIface])∧eU w' (.slice o' t'.length c') t'
theorem DY{p:Pg}{E:fD}{nb nb':Bool}{nn nn':Int}{ins ins' r:List (List (Int×Int))}{e e':Ending}{w w':World}(hi:ins=ins'++r)(hr:r=[]∨∃(o:Option Addr) (n c:Nat),e=.returned (.tuple #[.slice o n c,.nilIface]))(hn:(nn==cB nn)=true)(hn':(nn'==cB nn')=true)(h:tH p E nb nn ins e w)(h':tH p E nb' nn' ins' e' w') :
  Rq e e'∨Ro (bB nb) nn (bB nb') nn' ins ins' e w e' w':=by
 have hlen:ins'.length≤ins.length:=by rw[hi,List.length_append];omega
 have hsub:∀l∈ins',l∈ins:=fun l hl=>by rw[hi];exact List.mem_append_left _ hl
 rcases h with⟨t,x,hc,rfl⟩ | ⟨d,f,hrt,h⟩
 ·rcases h' with⟨t',x',hc',rfl⟩ | ⟨d',f',hrt',_⟩
  ·exact .inl ⟨_,_,_,_,rfl,rfl⟩
  ·exact(hc.not hrt').elim
 ·rcases h' with⟨t',x',hc',rfl⟩ | ⟨d',f',hrt',h'⟩
  ·exact(hc'.not hrt).elim
  ·obtain rfl:=kZ.one hrt'.lt hrt.lt
   rcases h with⟨hb,rfl⟩ | ⟨_,hb,ts,qs,hp,hq,htr,hty,h⟩
   ·rcases hb with hb | hb
    ·rw[hn] at hb;cases hb
    ·rcases hr with rfl | ⟨o,n,c,he⟩
     ·rw[List.append_nil] at hi
      subst hi
      rcases h' with⟨_,rfl⟩ | ⟨_,hb',_⟩
      ·exact .inl ⟨_,_,_,_,rfl,rfl⟩
      ·omega
     ·exact absurd he (by simp)
   ·rcases h' with⟨hb',rfl⟩ | ⟨_,hb',ts',qs',hp',hq',htr',hty',h'⟩
    ·rcases hb' with hb' | hb'
     ·rw[hn'] at hb';cases hb'
     ·omega
    ·obtain rfl:qs=qs':=by
      rw[hty] at hty'
      simpa using hty'
     rcases h with⟨k,l,b,hk,hf,hlo,rfl,_,_⟩ | ⟨hfa,tks,o,c,hrn,rfl,htk⟩
     ·rcases hr with rfl | ⟨o,n,c,he⟩
      ·rw[List.append_nil] at hi
       subst hi
       rcases h' with⟨k',l',b',hk',hf',hlo',rfl,_,_⟩ | ⟨hfa',_⟩
       ·exact .inl ⟨_,_,_,_,rfl,rfl⟩
       ·have:=hfa' l (List.mem_of_getElem? hk)
        rw[show dO (bE p (aM p f') ts' qs).ps (bE p (aM p f') ts' qs).is l=dO (bE p (aM p f') ts qs).ps (bE p (aM p f') ts qs).is l from rfl,hf] at this
        cases this
      ·exact absurd he (by simp)
     ·rcases h' with⟨k',l',b',hk',hf',hlo',rfl,_,_⟩ | ⟨hfa',tks',o',c',hrn',rfl,htk'⟩
      ·have:=hfa l' (hsub l' (List.mem_of_getElem? hk'))
       rw[show dO (bE p (aM p f') ts qs).ps (bE p (aM p f') ts qs).is l'=dO (bE p (aM p f') ts' qs).ps (bE p (aM p f') ts' qs).is l' from rfl,hf'] at this
       cases this
      ·exact .inr ⟨bE p (aM p f') ts qs,ts',tks,tks',o,c,o',c',hp,hq,hp',hq',hfa,hb,hrn,hrn',rfl,htk,rfl,htk'⟩
theorem Rn.len{nb nn:Int}{q:bC}{ins:List (List (Int×Int))}{tks:List Tk}(h:Rn nb nn q ins tks):tks.length≤ins.length:=by
 rcases h with⟨fr,mem,h⟩ | ⟨ins0,inp,ins1,tks0,fr,mem,g,rfl,h,_,rfl⟩
 ·rw[h.len.1];exact Nat.le_refl _
 ·simp [h.len.1]
theorem Qn{q:bC}{ts':List Nat}{nb nn nb' nn':Int}{ins:List (List (Int×Int))}{t t':List Tk}(hp:iT q)(hq:jX q)(hp':iT { q with ts:=ts' })(hq':jX { q with ts:=ts' })(hf:∀l∈ins,dO q.ps q.is l=true)(h:Rn nb nn q ins t)(h':Rn nb' nn' { q with ts:=ts' } ins t'):t=t':=by
 obtain⟨s,e⟩:=Rn.nil hp hq hq'.lU (List.append_nil ins).symm hf h h'
 obtain⟨s',e'⟩:=Rn.nil (q:={ q with ts:=ts' }) (ts':=q.ts) hp' hq' hq.lU (List.append_nil ins).symm hf h' h
 have h1:=congrArg List.length e
 have h2:=congrArg List.length e'
 rw[List.length_append] at h1 h2
 have:s=[]:=List.eq_nil_of_length_eq_zero (by omega)
 rw[e,this,List.append_nil]
theorem Qm{q:bC}{ts':List Nat}{nb nn nb' nn':Int}{ins ins' r:List (List (Int×Int))}{t t':List Tk}(hi:ins=ins'++r)(hp:iT q)(hq:jX q)(hq':jX { q with ts:=ts' })(hf:∀l∈ins,dO q.ps q.is l=true)(h:Rn nb nn q ins t)(h':Rn nb' nn' { q with ts:=ts' } ins' t'):t'.length≤t.length∧t.take t'.length=t':=by
 obtain⟨s,e⟩:=Rn.nil hp hq hq'.lU hi hf h h'
 rw[e]
 simp
end Go.Proofs.YtmgfakcccfahaaaGreatDoor
namespace Go.Proofs.YtmgfakcccfahaaaGreatDoor
open Go.RowKit Go.Maps
set_option maxRecDepth 100000
set_option maxHeartbeats 4000000

def qB:bC:=⟨[⟨rO,1,[],0,1,false⟩],[],[0],[],[0],[],[]⟩
theorem Qv(fl:List UInt8→Option Int):dF gF fl=[⟨rO,1,[],0,0,false⟩]:=by rfl
theorem Qr{fl:List UInt8→Option Int}{ts:List Nat}(h:jV (dF gF fl) ts):ts=[0]:=by
 rw[Qv] at h
 have h0:0∈ts:=by
  rcases h.all 0 (by decide) with h1 | h1
  ·exact absurd h1 (by decide)
  ·exact h1
 have hx:∀x∈ts,x=0:=fun x hx=>by have:=(h.t x hx).1;simp at this;exact this
 match ts,h.nd,h0,hx with
 | [x],_,_,hx=>rw[hx x (List.mem_singleton_self _)]
 | x::y::l,hn,_,hx=>
  have e1:=hx x (by simp)
  have e2:=hx y (by simp)
  rw[e1,e2] at hn
  simp at hn
theorem Qw{f:List UInt8→Nat}{ts:List Nat}{qs:List Int}(ht:jV (dF gF (aM gF f)) ts)(hq:aR (cK (fun _=>none) (aT gF)) (aI gF)=some (fT gF,qs)):bE gF (aM gF f) ts qs=qB:=by
 obtain rfl:=Qr ht
 have h1:aR (cK (fun _=>none) (aT gF)) (aI gF)=some (fT gF,[1]):=rfl
 rw[h1] at hq
 obtain rfl:[1]=qs:=congrArg Prod.snd (Option.some.inj hq)
 rfl
def tB:Tk:=⟨[(1,1)],true,false,[]⟩
theorem Hl{nb nn:Int}{fr:Bool}{mem inp:List (Int×Int)}{g:Nat→Int}{tr:Bool}(h:rP nb nn qB fr mem inp g tr):tr=false∧qA qB g=tB:=by
 have h0:=(h.val 0 (by decide)).1
 refine⟨h.tr.trans rfl,?_⟩
 have h1:(kJ qB (jD nb nn fr mem qB) g 0).1=1:=by
  rw[tV (p:=⟨rO,1,[],0,1,false⟩) rfl]
  unfold jD
  rw[if_pos (.inl (show jF ⟨rO,1,[],0,1,false⟩ from .inr (.inl rfl)))]
  show gK nb nn fr mem g ⟨rO,1,[],0,1,false⟩=1
  unfold gK
  rw[if_neg (by simp),if_pos (.inr (.inl rfl))]
 rw[h1] at h0
 show (⟨[(bK qB.ps 0,g 0)],true,false,[]⟩:Tk)=tB
 rw[h0]
 rfl
theorem Qt{nb nn:Int}{tks:List Tk}(h:Rn nb nn qB [[]] tks):tks=[tB]:=by
 rcases h with⟨fr,mem,h⟩ | ⟨ins0,inp,ins1,tks0,fr,mem,g,_,_,hw,_⟩
 ·generalize hI:([[]]:List (List (Int×Int)))=ins at h
  cases h with
  | zero=>cases hI
  | step h1 hw=>
   rename_i ins' tks' fr' mem' inp' g'
   have hl:=h1.len.1
   have h2:=congrArg List.length hI
   rw[List.length_append,List.length_singleton,List.length_singleton] at h2
   have h3:tks'=[]:=List.eq_nil_of_length_eq_zero (by omega)
   rw[h3,(Hl hw).2]
   rfl
 ·exact absurd (Hl hw).1 (by decide)
theorem Qs{E:fD}{e:Ending}{w:World}(h:tH gF E false 0 [[]] e w):∃(o:Option Addr) (c:Nat),e=.returned (.tuple #[.slice o 1 c,.nilIface])∧eU w (.slice o 1 c) [tB]:=by
 rcases h with⟨t,x,hx,_⟩ | ⟨d,f,_,h⟩
 ·exfalso
  rcases hx with⟨t,x,hx,_⟩ | ⟨d,f,_,hf,hr⟩
  ·exact Qx hx
  ·rcases hr with⟨m,b,x,_,hbad,_⟩ | ⟨_,hr⟩
   ·unfold lJ at hbad
    rw[Qy hf] at hbad
    simp at hbad
   ·rcases hr with⟨⟨y,hy,_⟩,_⟩ | ⟨_,he⟩
    ·simp [gF] at hy
    ·exact absurd he (by simp)
 ·rcases h with⟨hb,_⟩ | ⟨_,_,ts,qs,_,_,htr,hty,h⟩
  ·rcases hb with hb | hb
   ·exact absurd hb (by decide)
   ·exact absurd hb (by decide)
  ·rw[Qw htr hty] at h
   rcases h with⟨k,l,b,hk,hf,_⟩ | ⟨_,tks,o,c,hrn,rfl,htk⟩
   ·match k with
    | 0=>
     obtain rfl:=Option.some.inj hk
     exact absurd hf (by decide)
    | k+1=>cases hk
   ·obtain rfl:=Qt hrn
    exact⟨o,c,rfl,htk⟩
theorem M5(w:World)(E:fD)(he:tL w E):Calls Tryz.prog 18 #[] w fun e w'=>e=.returned (.bool true)∧Bw w w':=by
 have HB:Hid (∀w,Calls Tryz.prog 31 #[] w fun e w'=>∃b1 b2,e=.returned (.agg #[.slice none 0 0,.slice (some ⟨b1,0,none⟩) 1 1,.slice (some ⟨b2,0,none⟩) 1 1,.slice none 0 0,.slice none 0 0])∧wR w' b1 b2∧Bw w w'):=QA
 have HR:Hid (∀W b1 b2 r,Bw w W→wR W b1 b2→W.cell? ⟨r,0,none⟩=some (.slice none 0 0)→Calls Tryz.prog 20 #[.agg #[.slice none 0 0,.slice (some ⟨b1,0,none⟩) 1 1,.slice (some ⟨b2,0,none⟩) 1 1,.slice none 0 0,.slice none 0 0],.slice (some ⟨r,0,none⟩) 1 1,.bool false,.int .i64 0] W fun e w'=>Bw W w'∧tH gF E false 0 [[]] e w'):=fun W b1 b2 r hW hb hr=>DX W _ gF none (some ⟨b1,0,none⟩) (some ⟨b2,0,none⟩) none none 0 1 1 0 0 E (hb.pg (he.keep hW)) false 0 (some ⟨r,0,none⟩) 1 1 [[]] rfl ⟨by unfold maxLen;exact Nat.le_of_ble_eq_true rfl,_,_,rfl,fun k l hk=>by
  match k with
  | 0=>
   obtain rfl:=Option.some.inj hk
   exact⟨r,0,none,0,rfl,hr,Nat.zero_le _,_,_,rfl,fun k x hk=>by simp at hk⟩
  | k+1=>cases hk⟩
 clear he
 go_enter Tryz.func18,Tryz.ntmps18
 go_upto_region 1 with fail
 go_wp2_with fail
 refine(HB.out w).mono ?_
 rintro e w1 ⟨b1,b2,rfl,hba,hb1⟩
 have HB1:Hid (Bw w w1∧wR w1 b1 b2):=⟨hb1,hba⟩
 have HRA:Hid (Calls Tryz.prog 20 #[.agg #[.slice none 0 0,.slice (some ⟨b1,0,none⟩) 1 1,.slice (some ⟨b2,0,none⟩) 1 1,.slice none 0 0,.slice none 0 0],.slice (some ⟨w1.heap.size,0,none⟩) 1 1,.bool false,.int .i64 0] (w1.alloc (.cells #[.slice none 0 0] 64)) fun e w'=>∃(t tf c sb sf sd:Nat),e=.returned (.tuple #[.slice (some ⟨t,tf,none⟩) 1 c,.nilIface])∧w'.cell? ⟨t,tf,none⟩=some (.slice (some ⟨sb,sf,none⟩) 1 sd)∧w'.cell? ⟨t,tf+1,none⟩=some (.bool true)∧w'.cell? ⟨t,tf+2,none⟩=some (.bool false)∧w'.cell? ⟨sb,sf,none⟩=some (.int .i64 1)∧w'.cell? ⟨sb,sf+1,none⟩=some (.int .i64 1)∧Bw w w'):=by
  have hba':Bw w1 (w1.alloc (.cells #[.slice none 0 0] 64)):=aH
  have hr0:(w1.alloc (.cells #[.slice none 0 0] 64)).cell? ⟨w1.heap.size,0,none⟩=some (.slice none 0 0):=by rw[cell_of_row _ _ _ _ _ (0,0) (heap_alloc_new w1 _)];rfl
  have hbw:Bw w (w1.alloc (.cells #[.slice none 0 0] 64)):=hb1.trans (hba'.mono hb1.size)
  refine(HR.out _ b1 b2 w1.heap.size hbw ⟨aN hba' hba.out,aN hba' hba.fl⟩ hr0).mono ?_
  rintro e w' ⟨hb,hr⟩
  obtain⟨o,c,rfl,xs,hx1,hx2⟩:=Qs hr
  obtain⟨so,sc,co,cc,k0,k1,k2,_,h4,_⟩:=hx2.2 0 tB rfl
  obtain⟨t,tf,c',ev,_,_,gg⟩:=hx1.at (by rw[hx1.1];decide)
  obtain⟨rfl,rfl⟩:o=some ⟨t,tf,none⟩∧c=c':=by simpa using ev
  obtain⟨sb,sf,sc',es,_,_,hg⟩:=aB.at h4 (by decide)
  obtain⟨rfl,rfl⟩:so=some ⟨sb,sf,none⟩∧sc=sc':=by simpa using es
  exact⟨t,tf,c,sb,sf,sc,rfl,gg 0 _ k0,gg 1 _ k1,gg 2 _ k2,hg 0 (.int .i64 1) rfl,hg 1 (.int .i64 1) rfl,hbw.trans (hb.mono hbw.size)⟩
 clear hba hb1 HR HB
 go_upto_region 2 with(go_at_call 20;refine HRA.out.mono ?_;rintro e w2 ⟨t,tf,c,sb,sf,sd,rfl,t0,t1,t2,v0,v1,hb2⟩)
 have HB2:=aA hb2
 clear hb2 HRA HB1
 go_wp2
 go_ret
 exact⟨rfl,HB2.out⟩
end Go.Proofs.YtmgfakcccfahaaaGreatDoor
