/-
  TYPES OF TERMS WITHOUT CALLS, AS MATHEMATICS.
-/
import Derived.Test.YtmgfakcccfahaaaGreatDoorN03
import Derived.Test.YtmgfakcccfahaaaGreatDoorProg
import Derived.Deep.RegionHeld3
import Derived.Laws.EntriesVeiled
namespace Go.Proofs.YtmgfakcccfahaaaGreatDoor
def oJ(op:List UInt8)(ps:List Int):Option Int:=
 match kM op with
 | none=>none
 | some (tk,gv)=>(iX tk ps 0).map fun f=>(lY gv f).headD 0
def bS:List UInt8:=[110,97,109,101]
def uQ:List UInt8:=[99,97,108,108]
mutual
def cO(kd:List UInt8→Option Int):Ex→Option (Int×List Int)
 | .mk op _ s l=>
  if op.data.toList=bS then (kd s.data.toList).map fun k=>(k,[k])
  else
   match aR kd l with
   | none=>none
   | some (ks,ps)=>(oJ op.data.toList ks).map fun k=>(k,ps++[k])
def aR(kd:List UInt8→Option Int):List Ex→Option (List Int×List Int)
 | []=>some ([],[])
 | e::es=>
  match cO kd e with
  | none=>none
  | some (k,ps)=>
   match aR kd es with
   | none=>none
   | some (ks,qs)=>some (k::ks,ps++qs)
end
mutual
def o9(kd:List UInt8→Option Int):Ex→Prop
 | .mk op _ s l=>op.size≤maxLen∧s.size≤maxLen∧op.data.toList≠uQ∧(if op.data.toList=bS then (∃k,kd s.data.toList=some k)∧l=[] else ∃tk gv,kM op.data.toList=some (tk,gv)∧l.length=tk.length)∧iV kd l
def iV(kd:List UInt8→Option Int):List Ex→Prop
 | []=>True
 | e::es=>o9 kd e∧iV kd es
end
theorem Bt{kd:List UInt8→Option Int}:∀{l:List Ex} {i:Nat} {e:Ex},iV kd l→l[i]?=some e→o9 kd e
 | [],i,e,_,h=>by simp at h
 | x::l,0,e,hk,h=>by
  obtain rfl:x=e:=by simpa using h
  unfold iV at hk
  exact hk.1
 | x::l,i+1,e,hk,h=>by
  unfold iV at hk
  exact Bt hk.2 (by simpa using h)
theorem AX{kd:List UInt8→Option Int}:∀{l:List Ex} {i:Nat} {e:Ex} {ks ps:List Int},l[i]?=some e→aR kd (l.take i)=some (ks,ps)→aR kd (l.take (i+1))=(cO kd e).map fun x=>(ks++[x.1],ps++x.2)
 | [],i,e,ks,ps,h,_=>by simp at h
 | x::l,0,e,ks,ps,h,ht=>by
  obtain rfl:x=e:=by simpa using h
  simp only[List.take_zero] at ht
  unfold aR at ht
  obtain⟨rfl,rfl⟩:[]=ks∧[]=ps:=by simpa using ht
  simp only[List.take_succ_cons,List.take_zero]
  unfold aR
  cases cO kd x with
  | none=>rfl
  | some r=>simp [aR]
 | x::l,i+1,e,ks,ps,h,ht=>by
  have h':l[i]?=some e:=by simpa using h
  simp only[List.take_succ_cons] at ht ⊢
  unfold aR at ht ⊢
  cases hx:cO kd x with
  | none=>rw[hx] at ht;cases ht
  | some r=>
   rw[hx] at ht
   simp only at ht ⊢
   cases hl:aR kd (l.take i) with
   | none=>rw[hl] at ht;cases ht
   | some q=>
    rw[hl] at ht
    obtain⟨rfl,rfl⟩:r.1::q.1=ks∧r.2++q.2=ps:=by simpa using ht
    rw[AX h' hl]
    cases cO kd e with
    | none=>rfl
    | some y=>simp
theorem AZ{kd:List UInt8→Option Int}:∀{l:List Ex} {i:Nat},aR kd (l.take i)=none→aR kd l=none
 | [],i,h=>by simp [aR] at h
 | x::l,0,h=>by simp [aR] at h
 | x::l,i+1,h=>by
  simp only[List.take_succ_cons] at h
  unfold aR at h ⊢
  cases hx:cO kd x with
  | none=>rfl
  | some r=>
   rw[hx] at h
   simp only at h ⊢
   cases hl:aR kd (l.take i) with
   | none=>rw[AZ hl]
   | some q=>rw[hl] at h;cases h
theorem pX{kd:List UInt8→Option Int}:∀{l:List Ex} {ks ps:List Int},aR kd l=some (ks,ps)→ks.length=l.length
 | [],ks,ps,h=>by
  unfold aR at h
  obtain⟨rfl,_⟩:[]=ks∧[]=ps:=by simpa using h
  rfl
 | x::l,ks,ps,h=>by
  unfold aR at h
  cases hx:cO kd x with
  | none=>rw[hx] at h;cases h
  | some r=>
   rw[hx] at h
   simp only at h
   cases hl:aR kd l with
   | none=>rw[hl] at h;cases h
   | some q=>
    rw[hl] at h
    obtain⟨rfl,_⟩:r.1::q.1=ks∧r.2++q.2=ps:=by simpa using h
    simp [pX hl]
end Go.Proofs.YtmgfakcccfahaaaGreatDoor
namespace Go.Proofs.YtmgfakcccfahaaaGreatDoor
open Go
section
variable {P:Program} {ops:Array Oper} {Q:Exit→Act→World→Prop} {md:Region.Mode} {S T:World→Prop} {c:Nat}

def Till(S T:World→Prop)(c:Nat)(listed:Array Bool)(w:World):Prop:=S w∧(listed.getD c true=false→T w)
def jC(P:Program)(md:Region.Mode)(ops:Array Oper)(Q:Exit→Act→World→Prop)(S T:World→Prop)(c:Nat):Nat→Array Bool→Act→World→Prop
 | 0,listed,a,w=>Region.ready md ops listed=[]∧Q .normal a w
 | fuel+1,listed,a,w=>
  (Region.ready md ops listed=[]→Q .normal a w) ∧
  ∀i∈Region.ready md ops listed,wpOp P ops Q i (fun a' w'=>Till S T c (listed.setIfInBounds i true) w'∧jC P md ops Q S T c fuel (listed.setIfInBounds i true) a' w') a w
theorem CX:∀(fuel:Nat) (listed:Array Bool) (a:Act) (w:World),jC P md ops Q S T c fuel listed a w→wpAny P md ops Q fuel listed a w
 | 0,_,_,_,h=>h
 | fuel+1,_,_,_,h=>⟨h.1,fun i hi=>wpOp_mono (fun a' w' h'=>CX fuel _ a' w' h'.2) (h.2 i hi)⟩
theorem Dl{listed:Array Bool}{i c:Nat}(h:(listed.setIfInBounds i true).getD c true=false):listed.getD c true=false:=by
 by_cases e:i=c
 ·subst e
  rcases Nat.lt_or_ge i listed.size with h' | h'
  ·simp [h'] at h
  ·simp at h
 ·rwa [getD_set_ne true e] at h
theorem Till.back{listed:Array Bool}{i:Nat}{w:World}(h:Till S T c listed w):Till S T c (listed.setIfInBounds i true) w:=⟨h.1,fun hc=>h.2 (Dl hc)⟩
theorem Till.last{listed:Array Bool}{w:World}(h:S w):Till S T c (listed.setIfInBounds c true) w:=⟨h,fun hc=>by
 rcases Nat.lt_or_ge c listed.size with h' | h'
 ·simp [h'] at hc
 ·simp at hc⟩
theorem AR{R:World→Prop}{G:Array Bool→Prop}{i:Nat}{oi:Oper}{v:Value}(hi:ops[i]?=some oi)(hci:i≠c)(hsel:∀(j:Nat) (o:Oper) cs b,ops[j]?=some o→o.op≠.select cs b)
  (hQ:∀c a w,Q (.panic c) (a.put oi.dst v) w→Q (.panic c) a w) (hR:∀l w,G l→Till S T c l w→R w)
  (hG:∀l j,G l→i∈Region.ready md ops l→j∈Region.ready md ops l→j≠i→G (l.setIfInBounds j true)) :
  ∀(fuel:Nat) (listed:Array Bool) (a:Act) (w:World),
   (∀j oj,ops[j]?=some oj→j≠i→listed.getD j true=false→(∀e∈oj.after,Region.binds md e=true→e.on≠i)→oi.apart ops oj=true) →
   i∈Region.ready md ops listed→G listed→YieldsIf P ops R oi v a→Till S T c listed w →
   jC P md ops Q S T c fuel (listed.setIfInBounds i true) (a.put oi.dst v) w→jC P md ops Q S T c (fuel+1) listed a w:=by
 intro fuel
 induction fuel with
 | zero=>
  intro listed a w _ hr hg hy hS H
  refine⟨fun h=>(by rw[h] at hr;cases hr),fun j hj=>?_⟩
  by_cases hji:j=i
  ·subst hji;exact hy.wpOp hi (hR _ _ hg hS) ⟨hS.back,H⟩
  ·have:=ready_mono hj hji
   rw[H.1] at this
   cases this
 | succ fuel ih=>
  intro listed a w hfree hr hg hy hS H
  refine⟨fun h=>(by rw[h] at hr;cases hr),fun j hj=>?_⟩
  by_cases hji:j=i
  ·subst hji;exact hy.wpOp hi (hR _ _ hg hS) ⟨hS.back,H⟩
  ·obtain⟨hjun,oj,hoj,hall⟩:=mem_ready.1 hj
   have hun:=(mem_ready.1 hr).1
   have hnot:∀e∈oj.after,Region.binds md e=true→e.on≠i:=fun e he hb heq=>by
    have h1:=hall e he hb
    rw[heq] at h1
    rcases Nat.lt_or_ge i listed.size with h' | h'
    ·simp [h'] at hun h1;rw[hun] at h1;cases h1
    ·simp [Array.getElem?_eq_none h'] at h1
   have h2:=wpOp_putIf hoj (hfree j oj hoj hji hjun hnot) (fun cs b=>hsel i oi cs b hi) (fun cs b=>hsel j oj cs b hoj) hQ hy (H.2 j (ready_mono hj hji))
   have hcomm:(listed.setIfInBounds i true).setIfInBounds j true=(listed.setIfInBounds j true).setIfInBounds i true:=Array.setIfInBounds_comm _ _ (Ne.symm hji)
   refine wpOp_mono (fun a' w' h3=>?_) h2
   rw[hcomm] at h3
   have hT:Till S T c (listed.setIfInBounds j true) w':=⟨h3.2.1.1,fun hc=>h3.2.1.2 (by rw[getD_set_ne true hci];exact hc)⟩
   refine⟨hT,ih (listed.setIfInBounds j true) a' w' (fun k ok hk hki hunk hno=>hfree k ok hk hki (Dl hunk) hno) (ready_mono hr (Ne.symm hji)) (hG _ _ hg hr hj hji) h3.1 hT h3.2.2⟩
theorem CU{i:Nat}{oi:Oper}{v:Value}{fuel:Nat}{listed:Array Bool}{a:Act}{w:World}(hi:ops[i]?=some oi)(hci:(i==c)=false)
  (hs:Region.noSelect ops=true) (hf:Region.free md ops listed i=true) (hr:(Region.ready md ops listed).contains i=true)
  (hQ:∀c a w,Q (.panic c) (a.put oi.dst v) w→Q (.panic c) a w) (hy:YieldsIf P ops S oi v a) (hS:Till S T c listed w)
  (h:jC P md ops Q S T c fuel (listed.setIfInBounds i true) (a.put oi.dst v) w):jC P md ops Q S T c (fuel+1) listed a w:=
 AR (R:=S) (G:=fun _=>True) hi (by simpa using hci) (Region.noSelect_spec hs) hQ (fun _ _ _ h=>h.1) (fun _ _ _ _ _ _=>trivial) fuel listed a w (Region.free_spec hi hf) (by simpa using hr) trivial hy hS h
theorem tk(i d:Nat)(v:Value){x1 x2 x3 x4 x5}{fuel:Nat}{listed:Array Bool}{a:Act}{w:World}(hi:ops[i]?=some ⟨some d,x1,x2,x3,x4,x5⟩)(hy:YieldsIf P ops S ⟨some d,x1,x2,x3,x4,x5⟩ v a)(hS:Till S T c listed w)
  (h:jC P md ops Q S T c fuel (listed.setIfInBounds i true) (a.put (some d) v) w) (hci:(i==c)=false:=by rfl) (hs:Region.noSelect ops=true:=by kernel_rfl) (hf:Region.free md ops listed i=true:=by kernel_rfl) (hr:(Region.ready md ops listed).contains i=true:=by kernel_rfl)
  (hQ:∀c a w,Q (.panic c) (a.put (some d) v) w→Q (.panic c) a w:=by exact fun _ _ _ h=>h):jC P md ops Q S T c (fuel+1) listed a w:=CU hi hci hs hf hr hQ hy hS h
theorem tp:(∀(a:Act) (i:Nat) (v:Value),a.put (some i) v={ a with tmps:=a.tmps.setIfInBounds i v })∧(∀(a:Act) (v:Value),a.put none v=a)∧(∀(l:List Value) (i:Nat) (x:Value),l.toArray.setIfInBounds i x=(l.set i x).toArray)∧(∀(l:List Bool) (i:Nat) (x:Bool),l.toArray.setIfInBounds i x=(l.set i x).toArray)∧(∀(l:List Value) (y x:Value),(y::l).set 0 x=x::l)∧(∀(l:List Bool) (y x:Bool),(y::l).set 0 x=x::l)∧(∀(l:List Value) (i:Nat) (y x:Value),(y::l).set (i+1) x=y::l.set i x)∧∀(l:List Bool) (i:Nat) (y x:Bool),(y::l).set (i+1) x=y::l.set i x:=
 ⟨fun _ _ _=>rfl,fun _ _=>rfl,fun _ _ _=>List.setIfInBounds_toArray ..,fun _ _ _=>List.setIfInBounds_toArray ..,fun _ _ _=>rfl,fun _ _ _=>rfl,fun _ _ _ _=>rfl,fun _ _ _ _=>rfl⟩
theorem tj(i d:Nat)(v:Value){x1 x2 x3 x4 x5}{fuel:Nat}{listed:Array Bool}{a a':Act}{w:World}(hi:ops[i]?=some ⟨some d,x1,x2,x3,x4,x5⟩)(hy:∀w,S w→(execOp a.eval ⟨some d,x1,x2,x3,x4,x5⟩).run P w=.ok (.value v) w)(hS:Till S T c listed w)
  (h:jC P md ops Q S T c fuel (listed.setIfInBounds i true) a' w) (ha:a.put (some d) v=a':=by simp only[tp];rfl) (hw:Region.wanted ⟨some d,x1,x2,x3,x4,x5⟩ (yielded ops a.tmps)=true:=by rfl) (hci:(i==c)=false:=by rfl) (hs:Region.noSelect ops=true:=by kernel_rfl) (hf:Region.free md ops listed i=true:=by kernel_rfl) (hr:(Region.ready md ops listed).contains i=true:=by kernel_rfl)
  (hQ:∀c a w,Q (.panic c) (a.put (some d) v) w→Q (.panic c) a w:=by exact fun _ _ _ h=>h):jC P md ops Q S T c (fuel+1) listed a w:=CU hi hci hs hf hr hQ (.inl ⟨hw,hy⟩) hS (ha ▸ h)
def waits(md:Region.Mode)(ops:Array Oper)(j i:Nat):Bool:=((ops[j]?).map fun o=>o.after.any fun e=>Region.binds md e&&e.on==i).getD false
theorem wS{i j:Nat}{listed:Array Bool}(h:waits md ops j i=true)(hi:listed.getD i true=false):j ∉ Region.ready md ops listed:=fun hj=>by
 obtain⟨_,o,ho,hall⟩:=mem_ready.1 hj
 simp only[waits,ho,Option.map_some,Option.getD_some] at h
 obtain⟨e,he,hb⟩:=Array.any_eq_true'.1 h
 simp only[Bool.and_eq_true,beq_iff_eq] at hb
 have h1:=hall e he hb.1
 rw[hb.2] at h1
 rcases Nat.lt_or_ge i listed.size with h' | h'
 ·simp [h'] at hi h1;rw[hi] at h1;cases h1
 ·simp [Array.getElem?_eq_none h'] at h1
theorem oU{i:Nat}(d:Nat){oi:Oper}{v:Value}{fuel:Nat}{listed:Array Bool}{a:Act}{w:World}(hi:ops[i]?=some oi)(hci:(i==c)=false)
  (hs:Region.noSelect ops=true) (hf:Region.free md ops listed i=true) (hr:(Region.ready md ops listed).contains i=true)
  (hd:waits md ops d i=true) (hc:waits md ops c d=true) (hdl:listed.getD d true=false) (hcl:listed.getD c true=false)
  (hQ:∀c a w,Q (.panic c) (a.put oi.dst v) w→Q (.panic c) a w) (hy:YieldsIf P ops T oi v a) (hS:Till S T c listed w)
  (h:jC P md ops Q S T c fuel (listed.setIfInBounds i true) (a.put oi.dst v) w):jC P md ops Q S T c (fuel+1) listed a w:=
 AR (R:=T) (G:=fun l=>l.getD d true=false∧l.getD c true=false) hi (by simpa using hci) (Region.noSelect_spec hs) hQ (fun _ _ hg h=>h.2 hg.2)
  (fun l j hg hri hrj _=>by
   have hui:=(mem_ready.1 hri).1
   have n1:j≠d:=fun e=>wS hd hui (by rw[←e];exact hrj)
   have n2:j≠c:=fun e=>wS hc hg.1 (by rw[←e];exact hrj)
   exact⟨by rw[getD_set_ne true n1];exact hg.1,by rw[getD_set_ne true n2];exact hg.2⟩)
  fuel listed a w (Region.free_spec hi hf) (by simpa using hr) ⟨hdl,hcl⟩ hy hS h
def gD(P:Program)(md:Region.Mode)(ops:Array Oper)(Q:Exit→Act→World→Prop)(S T:World→Prop)(c fuel:Nat)(listed:Array Bool)(a:Act)(w:World)(rs:List Nat):Prop:=
 ∀i∈rs,wpOp P ops Q i (fun a' w'=>Till S T c (listed.setIfInBounds i true) w'∧jC P md ops Q S T c fuel (listed.setIfInBounds i true) a' w') a w
theorem gD.nil{fuel:Nat}{listed:Array Bool}{a:Act}{w:World}:gD P md ops Q S T c fuel listed a w []:=fun _ h=>by cases h
theorem gD.cons{fuel:Nat}{listed:Array Bool}{a:Act}{w:World}{i:Nat}{o:Oper}{rs:List Nat}(ho:ops[i]?=some o)
  (h:∀K':Act→World→Prop,Shut (∀a w,Till S T c (listed.setIfInBounds i true) w→(Till S T c (listed.setIfInBounds i true) w→jC P md ops Q S T c fuel (listed.setIfInBounds i true) a w)→K' a w)→if Region.wanted o (yielded ops a.tmps)=true then Oper.wp P o a w K' Q else K' (a.put o.dst undef) w)
  (hs:gD P md ops Q S T c fuel listed a w rs):gD P md ops Q S T c fuel listed a w (i::rs):=fun j hj=>by
 rcases List.mem_cons.1 hj with rfl | hj
 ·exact wpOp_step ho (fun K' hK=>h K' (fun a w hS hW=>hK a w ⟨hS,hW hS⟩))
 ·exact hs j hj
theorem qU{rs:List Nat}{fuel:Nat}{listed:Array Bool}{a:Act}{w:World}(hr:Region.ready md ops listed=rs)(hne:rs≠[])
  (h:gD P md ops Q S T c fuel listed a w rs):jC P md ops Q S T c (fuel+1) listed a w:=⟨fun h0=>absurd (hr ▸ h0) hne,fun i hi=>h i (hr ▸ hi)⟩
theorem aS(i:Nat)(d:Option Nat){x1 x2 x3 x4 x5}{fuel:Nat}{listed:Array Bool}{a:Act}{w:World}(ho:ops[i]?=some ⟨d,x1,x2,x3,x4,x5⟩)
  (h:∀K':Act→World→Prop,Shut (∀a w,Till S T c (listed.setIfInBounds i true) w→(Till S T c (listed.setIfInBounds i true) w→jC P md ops Q S T c fuel (listed.setIfInBounds i true) a w)→K' a w)→if Region.wanted ⟨d,x1,x2,x3,x4,x5⟩ (yielded ops a.tmps)=true then Oper.wp P ⟨d,x1,x2,x3,x4,x5⟩ a w K' Q else K' (a.put d undef) w)
  (hr:Region.ready md ops listed=[i]:=by kernel_rfl):jC P md ops Q S T c (fuel+1) listed a w:=qU hr (by simp) (gD.cons ho h gD.nil)
theorem dU{listed:Array Bool}{a:Act}{w:World}(hr:Region.ready md ops listed=[])(h:Q .normal a w):∀fuel,jC P md ops Q S T c fuel listed a w
 | 0=>⟨hr,h⟩
 | _+1=>⟨fun _=>h,by rw[hr];simp⟩
theorem fI{id:Nat}{a:Act}{w:World}(c:Nat)(S T:World→Prop)(hm:P.follows .mixedOrders=true)(hS:S w.drew)(hT:T w.drew)
  (h:Till S T c (Array.replicate ops.size false) w.drew→jC P .any ops Q S T c ops.size (Array.replicate ops.size false) a w.drew):(Code.region id ops true).wp P Q a w:=
 wp_region_any hm (CX _ _ _ _ (h ⟨hS,fun _=>hT⟩))
end
end Go.Proofs.YtmgfakcccfahaaaGreatDoor
namespace Go.Proofs.YtmgfakcccfahaaaGreatDoor
open Go.RowKit Go.Maps
set_option maxRecDepth 100000

def nU:List UInt8→Option Value:=bL (bL (bL (jJ) [43] (dL 153)) [45] (dL 154)) [42] (dL 155)
theorem Le(w:World):Calls Tryz.prog 115 #[] w fun e w'=>e=.returned (.map (some w.heap.size))∧aO w' w.heap.size 3 nU∧Bw w w':=by
 have hmm:=@run_makeMap Tryz.prog
 have H0:Hid (aO (w.alloc (.map #[] 0)) w.heap.size 0 jJ):=aO.made w
 have hb0:Bw w (w.alloc (.map #[] 0)):=aH
 have HB0:=aA hb0
 clear hb0
 go_enter Tryz.func115,Tryz.ntmps115
 go_wp2_with (first
  | (refine kI _ rfl _ _ _ _ _ rfl Tryz.underlying200 w.heap.size 2 _ rfl H2.out (by decide) _ (by decide) rfl _ rfl ?_;intro w3 h3 g3;have H3:=aA h3;clear h3)
  | (refine kI _ rfl _ _ _ _ _ rfl Tryz.underlying200 w.heap.size 1 _ rfl H1.out (by decide) _ (by decide) rfl _ rfl ?_;intro w2 h2 g2;have H2:=aA h2;clear h2)
  | (refine kI _ rfl _ _ _ _ _ rfl Tryz.underlying200 w.heap.size 0 _ rfl H0.out (by decide) _ (by decide) rfl _ rfl ?_;intro w1 h1 g1;have H1:=aA h1;clear h1)
  | go_in)
 have hb0:=HB0.out
 have hb1:=hb0.grown g1 hb0.size (fun k hk=>by obtain rfl:=Option.some.inj hk;exact Nat.le_refl _)
 have hb2:=hb1.grown g2 hb1.size (fun k hk=>by obtain rfl:=Option.some.inj hk;exact Nat.le_refl _)
 have hb3:=hb2.grown g3 hb2.size (fun k hk=>by obtain rfl:=Option.some.inj hk;exact Nat.le_refl _)
 go_ret
 exact⟨rfl,H3.out,hb3⟩
def l7:List UInt8→Option Value:=bL (bL (jJ) [47] (dL 156)) [109,111,100] (dL 157)
theorem PN(w:World):Calls Tryz.prog 117 #[] w fun e w'=>e=.returned (.map (some w.heap.size))∧aO w' w.heap.size 2 l7∧Bw w w':=by
 have hmm:=@run_makeMap Tryz.prog
 have H0:Hid (aO (w.alloc (.map #[] 0)) w.heap.size 0 jJ):=aO.made w
 have hb0:Bw w (w.alloc (.map #[] 0)):=aH
 have HB0:=aA hb0
 clear hb0
 go_enter Tryz.func117,Tryz.ntmps117
 go_wp2_with (first
  | (refine kI _ rfl _ _ _ _ _ rfl Tryz.underlying200 w.heap.size 1 _ rfl H1.out (by decide) _ (by decide) rfl _ rfl ?_;intro w2 h2 g2;have H2:=aA h2;clear h2)
  | (refine kI _ rfl _ _ _ _ _ rfl Tryz.underlying200 w.heap.size 0 _ rfl H0.out (by decide) _ (by decide) rfl _ rfl ?_;intro w1 h1 g1;have H1:=aA h1;clear h1)
  | go_in)
 have hb0:=HB0.out
 have hb1:=hb0.grown g1 hb0.size (fun k hk=>by obtain rfl:=Option.some.inj hk;exact Nat.le_refl _)
 have hb2:=hb1.grown g2 hb1.size (fun k hk=>by obtain rfl:=Option.some.inj hk;exact Nat.le_refl _)
 go_ret
 exact⟨rfl,H2.out,hb2⟩
def kL:List UInt8→Option Value:=bL (bL (bL (bL (bL (bL (bL (bL (bL (bL (jJ) [97,110,100] (dL 158)) [111,114] (dL 159)) [120,111,114] (dL 160)) [61,62] (dL 161)) [61] (dL 162)) [60,62] (dL 163)) [60] (dL 164)) [60,61] (dL 165)) [62] (dL 166)) [62,61] (dL 167)
theorem Js(w:World):Calls Tryz.prog 119 #[] w fun e w'=>e=.returned (.map (some w.heap.size))∧aO w' w.heap.size 10 kL∧Bw w w':=by
 have hmm:=@run_makeMap Tryz.prog
 have H0:Hid (aO (w.alloc (.map #[] 0)) w.heap.size 0 jJ):=aO.made w
 have hb0:Bw w (w.alloc (.map #[] 0)):=aH
 have HB0:=aA hb0
 clear hb0
 go_enter Tryz.func119,Tryz.ntmps119
 go_wp2_with (first
  | (refine kI _ rfl _ _ _ _ _ rfl Tryz.underlying202 w.heap.size 9 _ rfl H9.out (by decide) _ (by decide) rfl _ rfl ?_;intro w10 h10 g10;have H10:=aA h10;clear h10)
  | (refine kI _ rfl _ _ _ _ _ rfl Tryz.underlying202 w.heap.size 8 _ rfl H8.out (by decide) _ (by decide) rfl _ rfl ?_;intro w9 h9 g9;have H9:=aA h9;clear h9)
  | (refine kI _ rfl _ _ _ _ _ rfl Tryz.underlying202 w.heap.size 7 _ rfl H7.out (by decide) _ (by decide) rfl _ rfl ?_;intro w8 h8 g8;have H8:=aA h8;clear h8)
  | (refine kI _ rfl _ _ _ _ _ rfl Tryz.underlying202 w.heap.size 6 _ rfl H6.out (by decide) _ (by decide) rfl _ rfl ?_;intro w7 h7 g7;have H7:=aA h7;clear h7)
  | (refine kI _ rfl _ _ _ _ _ rfl Tryz.underlying202 w.heap.size 5 _ rfl H5.out (by decide) _ (by decide) rfl _ rfl ?_;intro w6 h6 g6;have H6:=aA h6;clear h6)
  | (refine kI _ rfl _ _ _ _ _ rfl Tryz.underlying202 w.heap.size 4 _ rfl H4.out (by decide) _ (by decide) rfl _ rfl ?_;intro w5 h5 g5;have H5:=aA h5;clear h5)
  | (refine kI _ rfl _ _ _ _ _ rfl Tryz.underlying202 w.heap.size 3 _ rfl H3.out (by decide) _ (by decide) rfl _ rfl ?_;intro w4 h4 g4;have H4:=aA h4;clear h4)
  | (refine kI _ rfl _ _ _ _ _ rfl Tryz.underlying202 w.heap.size 2 _ rfl H2.out (by decide) _ (by decide) rfl _ rfl ?_;intro w3 h3 g3;have H3:=aA h3;clear h3)
  | (refine kI _ rfl _ _ _ _ _ rfl Tryz.underlying202 w.heap.size 1 _ rfl H1.out (by decide) _ (by decide) rfl _ rfl ?_;intro w2 h2 g2;have H2:=aA h2;clear h2)
  | (refine kI _ rfl _ _ _ _ _ rfl Tryz.underlying202 w.heap.size 0 _ rfl H0.out (by decide) _ (by decide) rfl _ rfl ?_;intro w1 h1 g1;have H1:=aA h1;clear h1)
  | go_in)
 have hb0:=HB0.out
 have hb1:=hb0.grown g1 hb0.size (fun k hk=>by obtain rfl:=Option.some.inj hk;exact Nat.le_refl _)
 have hb2:=hb1.grown g2 hb1.size (fun k hk=>by obtain rfl:=Option.some.inj hk;exact Nat.le_refl _)
 have hb3:=hb2.grown g3 hb2.size (fun k hk=>by obtain rfl:=Option.some.inj hk;exact Nat.le_refl _)
 have hb4:=hb3.grown g4 hb3.size (fun k hk=>by obtain rfl:=Option.some.inj hk;exact Nat.le_refl _)
 have hb5:=hb4.grown g5 hb4.size (fun k hk=>by obtain rfl:=Option.some.inj hk;exact Nat.le_refl _)
 have hb6:=hb5.grown g6 hb5.size (fun k hk=>by obtain rfl:=Option.some.inj hk;exact Nat.le_refl _)
 have hb7:=hb6.grown g7 hb6.size (fun k hk=>by obtain rfl:=Option.some.inj hk;exact Nat.le_refl _)
 have hb8:=hb7.grown g8 hb7.size (fun k hk=>by obtain rfl:=Option.some.inj hk;exact Nat.le_refl _)
 have hb9:=hb8.grown g9 hb8.size (fun k hk=>by obtain rfl:=Option.some.inj hk;exact Nat.le_refl _)
 have hb10:=hb9.grown g10 hb9.size (fun k hk=>by obtain rfl:=Option.some.inj hk;exact Nat.le_refl _)
 go_ret
 exact⟨rfl,H10.out,hb10⟩
def l8(c:FuncId)(p:Nat):Value:=.func (.func c) #[] #[.pointer (some ⟨p,0,none⟩)]
def Goes(c:FuncId)(g base f:List UInt8→Option Value)(left:Lit→Bool)(lo:Nat)(wr:World):Prop:=
 (∀k v,g k=some v→left (.string k)=false→∃p,lo≤p∧p<wr.heap.size∧f k=some (l8 c p)∧wr.cell? ⟨p,0,none⟩=some v)∧(∀k,(g k=none∨left (.string k)=true)→f k=base k)
theorem Goes.step{c:FuncId}{g base f:List UInt8→Option Value}{left:Lit→Bool}{lo:Nat}{wr w':World}(h:Goes c g base f left lo wr){k0:List UInt8}{v0:Value}(hg:g k0=some v0)(p0:Nat)(hp:lo≤p0)(hp':p0<w'.heap.size)(hc:w'.cell? ⟨p0,0,none⟩=some v0)
  (keep:∀p,lo≤p→p<wr.heap.size→w'.heap[p]?=wr.heap[p]?) (hs:wr.heap.size≤w'.heap.size):Goes c g base (bL f k0 (l8 c p0)) (fun z=>left z&&!z.sameKey (.string k0)) lo w':=by
 have hne:∀k,k≠k0→(Lit.string k).sameKey (.string k0)=false:=fun k hk=>by
  cases e:(Lit.string k).sameKey (.string k0)
  ·rfl
  ·exact absurd (by simpa using WideAt.sameKey_eq e) hk
 have hsame:(Lit.string k0).sameKey (.string k0)=true:=WideAt.sameKey_self (show WideAt.IsKeyLit (.string k0) from trivial)
 refine⟨fun k v hk hl=>?_,fun k hk=>?_⟩
 ·unfold bL
  by_cases e:k=k0
  ·subst e
   rw[if_pos rfl]
   rw[hg] at hk
   exact⟨p0,hp,hp',rfl,by rw[hc];exact hk⟩
  ·rw[if_neg e]
   simp only[hne k e,Bool.not_false,Bool.and_true] at hl
   obtain⟨p,q1,q2,q3,q4⟩:=h.1 k v hk hl
   exact⟨p,q1,Nat.lt_of_lt_of_le q2 hs,q3,by rw[World.cell?_of_block (keep p q1 q2)];exact q4⟩
 ·have e:k≠k0:=by
   rintro rfl
   rcases hk with hk | hk
   ·rw[hg] at hk;cases hk
   ·simp [hsame] at hk
  unfold bL
  rw[if_neg e]
  refine h.2 k (hk.imp id (fun q=>?_))
  simp only[Bool.and_eq_true] at q
  exact q.1
theorem Goes.start(c:FuncId)(g base:List UInt8→Option Value)(D:DataW Value)(hD:∀k,Maps.has D (.string k)=(g k).isSome)(lo:Nat)(w:World):Goes c g base base (Maps.has D) lo w:=by
 refine⟨fun k v hk hl=>?_,fun k _=>rfl⟩
 rw[hD,hk] at hl
 cases hl
theorem Ce{w:World}{b r n:Nat}{D:DataW Value}{left:Lit→Bool}{cnt:Nat}(h:w.ranges Tryz.prog 9 jI b r n D left cnt){g:List UInt8→Option Value}(hD:∀k,Maps.has D (.string k)=(g k).isSome∧∀v z,g k=some v→D.atKey (.string k) z=.held v)(ty:TypeId) :
  (cnt=0∧(∀kl,left kl=false)∧(Instr.next (.pointer (some ⟨r,0,none⟩)) false ty).run Tryz.prog w=.ok (.tuple #[.bool false]) w) ∨
  ∃(s:ByteArray) (v:Value) (w':World) (cnt':Nat),s.size≤maxLen∧g s.data.toList=some v∧(Instr.next (.pointer (some ⟨r,0,none⟩)) false ty).run Tryz.prog w=.ok (.tuple #[.bool true,.string s,v]) w' ∧
   w'.ranges Tryz.prog 9 jI b r n D (fun x=>left x&&!x.sameKey (.string s.data.toList)) cnt'∧cnt'<cnt∧w.grownBy w' (some r)∧w'.heap.size=w.heap.size∧(Instr.entry (.pointer (some ⟨r,0,none⟩))).run Tryz.prog w'=.ok (.tuple #[.string s,v]) w':=by
 rcases h.next uD ty with h | ⟨key,v,kl,y,w',cnt',hkey,hlk,hv,hat,hrun,hrg,hlt,hgr,hsz,hen⟩
 ·exact .inl h
 ·obtain⟨s,rfl,rfl,hs⟩:=WideMaps.string_of_keyOf Tryz.underlying9 hkey
  obtain rfl:(DataW.held v,[])=y:=Option.some.inj hv
  refine .inr ⟨s,v,w',cnt',hs,?_,hrun,hrg,hlt,hgr,hsz,hen⟩
  cases e:g s.data.toList with
  | none=>
   have h1:=(hD s.data.toList).1
   rw[e] at h1
   have h2:=atKey_of_not_has (show Maps.has D (.string s.data.toList)=false from h1) .nil
   rw[hat .nil] at h2
   cases h2
  | some v'=>
   have h2:=(hD s.data.toList).2 v' .nil e
   rw[hat .nil] at h2
   simp only[DataW.held.injEq] at h2
   rw[h2]
theorem Bl{w4 wr w':World}{B b r m n cnt cnt':Nat}{c:FuncId}{g base f:List UInt8→Option Value}{left:Lit→Bool}{D:DataW Value}{s:ByteArray}{v:Value}(hF:aO wr B n f)(hr:wr.ranges Tryz.prog 9 jI b r m D left cnt)(hG:Goes c g base f left (w4.heap.size+1) wr)(hgw:w4.grownBy wr (some B))
  (hlo:w4.heap.size+1≤wr.heap.size) (hB:B<w4.heap.size) (hbB:b≠B) (hr4:r=w4.heap.size) (hgs:g s.data.toList=some v) (hrg:w'.ranges Tryz.prog 9 jI b r m D (fun x=>left x&&!x.sameKey (.string s.data.toList)) cnt') (hlt:cnt'<cnt) (hgr:wr.grownBy w' (some r)) (hsw:w'.heap.size=wr.heap.size)
  (hsz:s.size≤maxLen) (hn:n<maxLen) {t e:TypeId} (ht:Tryz.prog.underlying t=some (.map 9 e)) (ty:TypeId) :
  ∃w6,(Instr.mapUpdate t (.map (some B)) (.string s) (l8 c w'.heap.size)).run Tryz.prog (w'.alloc (.cells #[v] ty))=.ok () w6∧aO w6 B (n+1) (bL f s.data.toList (l8 c w'.heap.size)) ∧
   w6.ranges Tryz.prog 9 jI b r m D (fun x=>left x&&!x.sameKey (.string s.data.toList)) cnt'∧Goes c g base (bL f s.data.toList (l8 c w'.heap.size)) (fun x=>left x&&!x.sameKey (.string s.data.toList)) (w4.heap.size+1) w6 ∧
   w4.grownBy w6 (some B)∧w4.heap.size+1≤w6.heap.size∧w6.rangeLeft b r<wr.rangeLeft b r:=by
 have hB':B<wr.heap.size:=hF.lt
 have f1:aO w' B n f:=hF.kept (hgr.block B hB' (fun e=>by have:=Option.some.inj e;omega))
 have f2:aO (w'.alloc (.cells #[v] ty)) B n f:=f1.kept (Below.heap_alloc _ _ _ f1.lt)
 obtain⟨w6,hrun,f3,g6⟩:=f2.put ht hn s hsz (l8 c w'.heap.size)
 have ga:w'.grownBy (w'.alloc (.cells #[v] ty)) none:=World.grownBy_alloc w' _ none
 have hsa:(w'.alloc (.cells #[v] ty)).heap.size=w'.heap.size+1:=World.size_alloc _ _
 have hs6:w'.heap.size+1≤w6.heap.size:=by have:=g6.size;omega
 have r1:=hrg.kept ga (by simp) (by simp)
 have r2:=r1.kept g6 (fun e=>hbB (Option.some.inj e)) (fun e=>by have:=Option.some.inj e;omega)
 have hblk:∀p,p<wr.heap.size→p≠r→p≠B→w6.heap[p]?=wr.heap[p]?:=fun p hp h1 h2=>by
  rw[g6.block p (by omega) (fun e=>h2 (Option.some.inj e)),ga.block p (by omega) (by simp),hgr.block p hp (fun e=>h1 (Option.some.inj e))]
 refine⟨w6,hrun,f3,r2,hG.step hgs _ (by omega) (by omega) ?_ (fun p h1 h2=>hblk p h2 (by omega) (by omega)) (by omega),⟨?_,?_,?_,?_,fun p hp h1=>?_⟩,by omega,?_⟩
 ·have e:=g6.block w'.heap.size (by omega) (fun e=>by have:=Option.some.inj e;omega)
  rw[World.cell?_of_block (w:=w'.alloc (.cells #[v] ty)) e]
  exact cell_of_row _ _ 0 _ _ (0,0) (heap_alloc_new _ _)
 ·exact g6.os.trans (ga.os.trans (hgr.os.trans hgw.os))
 ·exact g6.tape.trans (ga.tape.trans (hgr.tape.trans hgw.tape))
 ·exact g6.output.trans (ga.output.trans (hgr.output.trans hgw.output))
 ·have:=hgw.size;omega
 ·rw[hblk p (by omega) (by omega) (fun e=>h1 (by rw[e])),hgw.block p hp h1]
 ·rw[r2.left_eq,hr.left_eq];exact hlt
def Done(B:Nat)(c:FuncId)(g base f:List UInt8→Option Value)(w:World):Prop:=
 (∀k v,g k=some v→∃p,p≠B∧p<w.heap.size∧f k=some (l8 c p)∧w.cell? ⟨p,0,none⟩=some v)∧∀k,g k=none→f k=base k
theorem Goes.done{c:FuncId}{g base f:List UInt8→Option Value}{left:Lit→Bool}{lo:Nat}{w:World}(h:Goes c g base f left lo w)(hl:∀kl,left kl=false){B:Nat}(hB:B<lo) :
  Done B c g base f w:=
 ⟨fun k v hk=>by obtain⟨p,h1,h2,h3,h4⟩:=h.1 k v hk (hl _);exact⟨p,by omega,h2,h3,h4⟩,fun k hk=>h.2 k (.inl hk)⟩
theorem Ck{c:FuncId}{g base f:List UInt8→Option Value}{w w':World}{B:Nat}(h:Done B c g base f w)(hg:w.grownBy w' (some B)) :
  Done B c g base f w':=
 ⟨fun k v hk=>by obtain⟨p,h1,h2,h3,h4⟩:=h.1 k v hk;exact⟨p,h1,Nat.lt_of_lt_of_le h2 hg.size,h3,by rw[World.cell?_of_block (hg.block p h2 (fun e=>h1 (Option.some.inj e)))];exact h4⟩,h.2⟩
end Go.Proofs.YtmgfakcccfahaaaGreatDoor
