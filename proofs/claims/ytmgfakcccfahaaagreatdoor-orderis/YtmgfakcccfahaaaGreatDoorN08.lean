/-
  package types: value BY CONTRACT, of terms without calls.
-/
import Derived.Test.YtmgfakcccfahaaaGreatDoorN07
set_option maxRecDepth 100000
set_option maxHeartbeats 4000000
namespace Go.Proofs.YtmgfakcccfahaaaGreatDoor
open Go.RowKit Go.Maps

theorem uT{w:World}{base size n g:Nat}{e:TypeId}{v:Value}{xs:List Value}(h:w.ownsRow base e size v n xs)(hg:v.ownBlock=some g):∃cur,w.heap[g]?=some (.cells cur e (0,0)):=by
 obtain⟨_,h2⟩:=h
 rcases h2 with⟨rfl,_⟩ | ⟨g',cap,cur,rfl,_,hh,_⟩
 ·simp [Value.ownBlock] at hg
 ·obtain rfl:g'=g:=by simpa [Value.ownBlock] using hg
  exact⟨cur,hh⟩
theorem Ob{X:Nat→Prop}{cb:Nat}{kd:List UInt8→Option Int}{ps:List Int}{F:Nat→Prop}{w:World}{M K nK B C:Nat}{nv uv:Value}{po:Option Addr}{pc:Nat}(h1:w.heap[cb]?=some (.cells #[.map (some M),nv,.map (some K),uv,.slice po ps.length pc] 257 (0,0)))(h2:oZ M K nK B C kd w)(h3:w.ownsRow 0 3 1 (.slice po ps.length pc) ps.length (ps.map (Value.int .i64)))(h4:∀k,F k ↔ k=cb∨(Value.slice po ps.length pc).ownBlock=some k)(h5:∀k,qH M K B C k→¬F k∧X k)(h6:∀k,X k→k<w.heap.size)
  {k:Int} {wa w5:World} {g cap:Nat} (hba:Bw w wa) (hgrow:wa.grownBy w5 (Value.slice po ps.length pc).ownBlock) (hat:(Value.slice po ps.length pc).ownBlock=some g∨g=wa.heap.size) (hlt:g<w5.heap.size) (hown:w5.ownsRow 0 3 1 (.slice (some ⟨g,0,none⟩) (ps.length+1) cap) (ps.length+1) (ps.map (Value.int .i64)++[.int .i64 k])) :
  ∃F',dN X cb kd (ps++[k]) F' (w5.setCell ⟨cb,4,none⟩ (.slice (some ⟨g,0,none⟩) (ps.length+1) cap))∧aY F F' w (w5.setCell ⟨cb,4,none⟩ (.slice (some ⟨g,0,none⟩) (ps.length+1) cap)):=by
 have hcl:cb<w.heap.size:=(bE h1).1
 have hne:(Value.slice po ps.length pc).ownBlock≠some cb:=fun e=>by
  obtain⟨cur,hc⟩:=uT h3 e
  rw[h1] at hc
  have:=(Obj.cells.inj (Option.some.inj hc)).2.1
  exact absurd this (by decide)
 have hgc:g≠cb:=fun e=>by
  rcases hat with h | h
  ·rw[e] at h;exact hne h
  ·have:=hba.size;omega
 have hk5:∀j,j<w.heap.size→(Value.slice po ps.length pc).ownBlock≠some j→w5.heap[j]?=w.heap[j]?:=fun j hj hn=>by
  rw[hgrow.block j (Nat.lt_of_lt_of_le hj hba.size) (fun e=>hn e.symm)]
  exact hba.block j hj
 have hks:∀j,j≠cb→(w5.setCell ⟨cb,4,none⟩ (.slice (some ⟨g,0,none⟩) (ps.length+1) cap)).heap[j]?=w5.heap[j]?:=fun j hj=>Below.heap_setCell w5 ⟨cb,4,none⟩ _ j hj
 have hz5:w.heap.size≤w5.heap.size:=Nat.le_trans hba.size hgrow.size
 have e1:(ps++[k]).length=ps.length+1:=by simp
 refine⟨fun j=>j=cb∨g=j,⟨M,K,nK,B,C,nv,uv,some ⟨g,0,none⟩,cap,?_,h2.kept (fun j hj=>?_),?_,fun j=>?_,fun j hj=>⟨fun hf=>?_,(h5 j hj).2⟩,?_⟩,⟨?_,?_,?_,?_,fun j hj hn=>?_,fun j hj=>?_⟩⟩
 ·rw[e1]
  exact nX (i:=4) ((hk5 cb hcl hne).trans h1) _
 ·have hnf:=(h5 j hj).1
  rw[hks j (fun e=>hnf ((h4 j).2 (.inl e))),hk5 j (h2.lt j hj) (fun e=>hnf ((h4 j).2 (.inr e)))]
 ·rw[e1]
  have h:=gP (w':=w5.setCell ⟨cb,4,none⟩ (.slice (some ⟨g,0,none⟩) (ps.length+1) cap)) hown (fun j hj=>hks j (fun e=>by
   obtain rfl:g=j:=by simpa [Value.ownBlock] using hj
   exact hgc e))
  rw[List.map_append]
  exact h
 ·rw[e1]
  simp [Value.ownBlock]
 ·have hnf:=(h5 j hj).1
  rcases hf with hf | hf
  ·exact hnf ((h4 j).2 (.inl hf))
  ·rcases hat with h | h
   ·exact hnf ((h4 j).2 (.inr (by rw[←hf];exact h)))
   ·have:=h2.lt j hj;have:=hba.size;omega
 ·intro j hj
  have:=h6 j hj
  rw[size_setCell];omega
 ·exact hgrow.os.trans hba.os
 ·exact hgrow.tape.trans hba.tape
 ·exact hgrow.output.trans hba.output
 ·rw[size_setCell];exact hz5
 ·rw[hks j (fun e=>hn ((h4 j).2 (.inl e))),hk5 j hj (fun e=>hn ((h4 j).2 (.inr e)))]
 ·rcases hj with rfl | rfl
  ·exact .inl ((h4 j).2 (.inl rfl))
  ·rcases hat with h | h
   ·exact .inl ((h4 g).2 (.inr h))
   ·exact .inr ⟨by have:=hba.size;omega,by rw[size_setCell];exact hlt⟩
theorem FY(kd:List UInt8→Option Int)(op:ByteArray)(n:Int)(s:ByteArray)(l:List Ex)(IH:EU kd op n s l):wL kd op n s l:=by
 intro hok X cb ps F w o c ys hck hsz hrow hex
 obtain⟨i0,hi0,hz0,hz1,hz2⟩:=info_parts Tryz.lH
 have hb1:Bw w (w.alloc (.cells #[.string op,.int .i64 n,.string s,.slice o l.length c] 92)):=aH
 obtain⟨w1,hw1⟩:∃w1,w1=w.alloc (.cells #[.string op,.int .i64 n,.string s,.slice o l.length c] 92):=⟨_,rfl⟩
 rw[←hw1] at hb1
 have hm1:aY F F w w1:=aY.of_below hb1
 have HV:Hid (Calls Tryz.prog 185 #[.pointer (some ⟨cb,0,none⟩),.agg #[.string op,.int .i64 n,.string s,.slice o l.length c]] w1 (Ad X cb kd ps (jM kd op s l) F w1)):=IH hok X cb ps F w1 o c ys (hck.below hb1) hsz (hrow.keep hm1.stays) (hex.keep hm1.stays)
 have HM1:=aA hm1
 have HW1:Hid (w.alloc (.cells #[.string op,.int .i64 n,.string s,.slice o l.length c] 92)=w1):=hw1.symm
 have HE:Hid (bF kd (.mk op n s l)=(jM kd op s l).map fun x=>(x.1,x.2++[x.1])):=Gh kd op n s l
 have HSZ:Hid (∀k qs,jM kd op s l=some (k,qs)→ps.length+qs.length+1≤1000000):=fun k qs h=>by
  have h2:=AX kd (.mk op n s l) k (qs++[k]) hok (by rw[HE.out,h];rfl)
  rw[List.length_append] at h2
  simp only[List.length_cons,List.length_nil] at h2
  omega
 clear IH hok hck hsz hrow hex hb1 hw1 hm1
 go_enter Tryz.func173,Tryz.ntmps173
 go_wp2_with fail
 rw[HW1.out]
 refine HV.out.mono ?_
 rintro e w2 (⟨k,qs,F2,V,hty,rfl,hV,hFV,hck2,hm2⟩ | ⟨hty,hth,F2,hm2⟩)
 ·obtain⟨M,K,nK,B,C,nv,uv,po,pc,h1,h2,h3,h4,h5,h6⟩:=hck2
  obtain⟨nn,hnn⟩:∃nn,nn=(ps++qs).length:=⟨_,rfl⟩
  have HNN:=aA hnn
  have c4:w2.cell? ⟨cb,0+4,none⟩=some (.slice po nn pc):=by rw[hnn,cell_of_row w2 cb _ _ _ (0,0) h1];rfl
  have f4:w2.frozen? ⟨cb,4,none⟩=false:=dW h1
  have v0:w2.cell? ⟨V,0,none⟩=some (.int .i64 k):=cr hV rfl
  have HO:Hid (∀o',(w2.drew.alloc o').ownsRow 0 3 1 (.slice po nn pc) nn ((ps++qs).map (Value.int .i64))):=fun o'=>by
   have hd:w2.drew.ownsRow 0 3 1 (.slice po (ps++qs).length pc) (ps++qs).length ((ps++qs).map (Value.int .i64)):=h3
   rw[hnn]
   exact hd.alloc o'
  have HNW:Hid _:=World.news_of_block (show (w2.drew.alloc (.cells #[.int .i64 k] 3)).heap[w2.heap.size]?=some (.cells #[.int .i64 k] 3) from by show (w2.heap.push _)[w2.heap.size]?=_;simp)
  have hsz:=HSZ.out k qs hty
  have HMX:Hid (nn+1≤maxLen):=by rw[hnn,List.length_append];unfold Hid maxLen;omega
  have HBY:Hid ((nn+1)*8≤140737488355328):=by rw[hnn,List.length_append];unfold Hid;omega
  have HP:Hid (∀{k:Int} {wa w5:World} {g cap:Nat},Bw w2 wa→wa.grownBy w5 (Value.slice po nn pc).ownBlock→((Value.slice po nn pc).ownBlock=some g∨g=wa.heap.size)→g<w5.heap.size→w5.ownsRow 0 3 1 (.slice (some ⟨g,0,none⟩) (nn+1) cap) (nn+1) ((ps++qs).map (Value.int .i64)++[.int .i64 k])→∃F',dN X cb kd (ps++qs++[k]) F' (w5.setCell ⟨cb,4,none⟩ (.slice (some ⟨g,0,none⟩) (nn+1) cap))∧aY F2 F' w2 (w5.setCell ⟨cb,4,none⟩ (.slice (some ⟨g,0,none⟩) (nn+1) cap))):=by
   rw[hnn]
   exact fun hba hgrow hat hlt hown=>Ob h1 h2 h3 h4 h5 h6 hba hgrow hat hlt hown
  have HCB:Hid (∀wa w3:World,Bw w2 wa→wa.grownBy w3 (Value.slice po nn pc).ownBlock→w3.heap[cb]?=some (.cells #[.map (some M),nv,.map (some K),uv,.slice po nn pc] 257 (0,0))):=fun wa w3 hba hgrow=>by
   have hcl:cb<w2.heap.size:=(bE h1).1
   rw[hgrow.block cb (Nat.lt_of_lt_of_le hcl hba.size) (fun e=>by
    rw[hnn] at e
    obtain⟨cur,hc⟩:=uT h3 e.symm
    rw[h1] at hc
    have:=(Obj.cells.inj (Option.some.inj hc)).2.1
    exact absurd this (by decide)),hba.block cb hcl,hnn]
   exact h1
  have HBA:Hid (Bw w2 (w2.drew.alloc (.cells #[.int .i64 k] 3))):=((Below.refl _ _).drew).alloc (Nat.le_refl _) _
  have HTY:=aA hty
  have HM2:Hid (aY F F2 w w2):=HM1.out.trans hm2
  have HVR:Hid (w2.heap[V]?=some (.cells #[.int .i64 k] 3 (0,0))∧¬F2 V):=⟨hV,hFV⟩
  have hcl:cb<w2.heap.size:=(bE h1).1
  have hvl:V<w2.heap.size:=(bE hV).1
  clear h1 h2 h3 h4 h5 h6 hV hFV hm2 hty hsz hnn
  go_wp2
  go_region_law (refine step_append_lies _ rfl (.tmp 18) (.tmp 22) 30 rfl 0 3 i0 _ 1 8 Tryz.underlying30 hi0 hz0 hz1 hz2 rfl (by omega) (.slice po nn pc) nn _ (by simp [Act.eval]) (HO.out _) ⟨w2.heap.size,0,none⟩ 1 1 [.int .i64 k] (by simp [Act.eval]) rfl HNW.out (by simp [Value.oneCell']) (by omega) HMX.out HBY.out (Nat.zero_le _) _ rfl ?_;intro g cap w3 hown3 hgrow hat hlt3;have hcb3:=HCB.out _ w3 HBA.out hgrow;have q4:w3.cell? ⟨cb,4,none⟩=some (.slice po nn pc):=(cr hcb3 rfl);have qf:w3.frozen? ⟨cb,4,none⟩=false:=dW hcb3)
  all_goals
   obtain⟨F',hck',hm'⟩:=HP.out HBA.out hgrow hat hlt3 hown3
   have hv':=(hm'.jU HVR.out.1 HVR.out.2).1
   obtain⟨w4,hw4⟩:∃w4,w4=w3.setCell ⟨cb,4,none⟩ (.slice (some ⟨g,0,none⟩) (nn+1) cap):=⟨_,rfl⟩
   rw[←hw4] at hck' hm' hv' ⊢
   have y0:w4.cell? ⟨V,0,none⟩=some (.int .i64 k):=cr hv' rfl
   have HEND:Hid (Ae X cb kd ps (bF kd (.mk op n s l)) F w (.returned (.int .i64 k)) w4):=.inl ⟨k,qs++[k],F',by rw[HE.out,HTY.out];rfl,rfl,by rw[←List.append_assoc];exact hck',HM2.out.trans hm'⟩
   clear hck' hm' hv' hw4 hown3 hgrow hat hlt3 hcb3 q4 qf c4 f4 v0 hcl hvl
   go_wp2
   go_ret
   exact HEND.out
 ·unfold lK at hth
  subst hth
  exact⟨rfl,.inr ⟨by rw[HE.out,hty];rfl,rfl,F2,HM1.out.trans hm2⟩⟩
theorem AA(kd:List UInt8→Option Int):∀(m:Nat) (op:ByteArray) (n:Int) (s:ByteArray) (l:List Ex),SizeOf.sizeOf l<m→wL kd op n s l
 | 0,_,_,_,_,h=>absurd h (Nat.not_lt_zero _)
 | m+1,op,n,s,l,hm=>FY kd op n s l (FX kd op n s l (fun op' n' s' l' h=>AA kd m op' n' s' l' (by omega)))

def gY:List Ex→Nat
 | []=>0
 | e::es=>aC e.l+gY es
theorem rT:∀l:List Ex,aC l=l.length+gY l
 | []=>rfl
 | .mk _ _ _ l::es=>by
  have:=rT es
  simp only[aC,aJ,gY,Ex.l,List.length_cons,this]
  omega
theorem Bh:∀(l:List Ex) (i:Nat) (e:Ex),l[i]?=some e→gY (l.take (i+1))=gY (l.take i)+aC e.l
 | [],_,_,h=>by simp at h
 | x::l,0,e,h=>by
  obtain rfl:x=e:=by simpa using h
  simp [gY]
 | x::l,i+1,e,h=>by
  have:=Bh l i e (by simpa using h)
  simp only[List.take_succ_cons,gY,this]
  omega
theorem xL:∀(l:List Ex) (i:Nat),gY (l.take i)≤gY l
 | [],_=>by simp
 | x::l,0=>by simp [gY]
 | x::l,i+1=>by
  have:=xL l i
  simp only[List.take_succ_cons,gY]
  omega
def Left(n:Nat)(x r:Int):Prop:=((n:Int)≤x→r=x-n)∧(x<n→r<0)
theorem Ef:∀(m:Nat) (l:List Ex),SizeOf.sizeOf l<m→∀(x:Int),0≤x→x≤100000→∀(w:World) (S:Nat→Prop) (o:Option Addr) (c:Nat) (ys:List Value),aB w S 4 (.slice o l.length c) l.length ys→aI w S l ys →
  Calls Tryz.prog 131 #[.slice o l.length c,.int .i64 x] w fun e w'=>Bw w w'∧∃r:Int,e=.returned (.int .i64 r)∧Left (aC l) x r
 | 0,_,h=>absurd h (Nat.not_lt_zero _)
 | m+1,l,hm=>by
  intro x hx0 hx1 w S o c ys hrow hex
  have hml:=hrow.2.1
  unfold maxLen at hml
  have HIH:Hid (∀l',SizeOf.sizeOf l'<m→∀(x:Int),0≤x→x≤100000→∀(w:World) (S:Nat→Prop) (o:Option Addr) (c:Nat) (ys:List Value),aB w S 4 (.slice o l'.length c) l'.length ys→aI w S l' ys→Calls Tryz.prog 131 #[.slice o l'.length c,.int .i64 x] w fun e w'=>Bw w w'∧∃r:Int,e=.returned (.int .i64 r)∧Left (aC l') x r):=Ef m
  have HROW:=aA hrow
  have HEX:=aA hex
  have HX:Hid (0≤x∧x≤100000):=⟨hx0,hx1⟩
  have HML:Hid (l.length≤9223372036854775807):=by unfold Hid;omega
  have HM:=aA hm
  have N0:Hid (wrap64 (x-(l.length:Int))=x-(l.length:Int)):=by unfold Hid wrap64;omega
  clear hrow hex hx0 hx1 hml hm
  go_enter Tryz.func131,Tryz.ntmps131
  go_wp2
  rw[N0.out]
  go_loopw [1,13] (fun v t wr=>∃(j:Nat) (r:Int),j≤l.length∧t=.int .i64 j∧v=.int .i64 r∧Hid (Left (l.length+gY (l.take j)) x r∧r≤100000∧Bw w wr)) (fun _ t _=>l.length-(intOf t).toNat)
  case atStart=>exact⟨0,x-l.length,Nat.zero_le _,rfl,rfl,⟨⟨fun _=>by simp [gY],fun h=>by simp [gY] at h;omega⟩,by have:=HX.out;omega,Below.refl _ _⟩⟩
  case round=>
   obtain⟨j,r,hj,rfl,rfl,HR⟩:=hrel
   by_cases hjl:j<l.length
   ·obtain⟨op',n',s',es,oo,cc,zs,e,x0,x1,x2,x3,r1,r2⟩:=HEX.out.at hjl
    obtain⟨p,f,cp,ev,_,_,g⟩:=HROW.out.at (by have:=HROW.out.1;omega)
    obtain⟨rfl,rfl⟩:o=some ⟨p,f,none⟩∧c=cp:=by simpa using ev
    have y0:=aF HR.out.2.2 (g _ _ x0)
    have y1:=aF HR.out.2.2 (g _ _ x1)
    have y2:=aF HR.out.2.2 (g _ _ x2)
    have y3:=aF HR.out.2.2 (g _ _ x3)
    rw[←Nat.add_assoc] at y1 y2 y3
    have i0':(0:Int)≤(j:Int):=by omega
    have i1':(j:Int)<(l.length:Int):=by omega
    have ej:l[j]?=some (.mk op' n' s' es):=by rw[List.getElem?_eq_getElem hjl,e]
    have hst:=Bh l j _ ej
    have hsl:=xL l (j+1)
    have HST:Hid (gY (l.take (j+1))=gY (l.take j)+aC es∧gY (l.take (j+1))≤gY l):=⟨hst,hsl⟩
    have HJ:=aA hjl
    have N4:Hid (wrap64 ((j:Int)+1)=(j:Int)+1):=by have:=HML.out;have:=HJ.out;unfold Hid wrap64;omega
    have hb5:Bw wr (wr.alloc (.cells #[.string op',.int .i64 n',.string s',.slice oo es.length cc] 92)):=aH
    have HSS:Hid (SizeOf.sizeOf es<m):=by have h1:=kC hjl e;have h2:=HM.out;unfold Hid;omega
    by_cases hr0:r<0
    ·have d0:(r<0)=True:=eq_true hr0
     have HEND:Hid (Bw w (wr.alloc (.cells #[.string op',.int .i64 n',.string s',.slice oo es.length cc] 92))∧Left (aC l) x r):=⟨HR.out.2.2.trans (hb5.mono HR.out.2.2.size),by
      have h1:=HR.out.1
      rw[rT]
      refine⟨fun h=>?_,fun _=>hr0⟩
      have h2:=h1.1 (by omega)
      have h3:=xL l j
      omega⟩
     clear x0 x1 x2 x3 r1 r2 g ev e ej hst hsl hj hjl hb5 hr0
     go_wp2
     go_ret
     exact⟨HEND.out.1,r,rfl,HEND.out.2⟩
    ·have d0:(r<0)=False:=eq_false hr0
     obtain⟨w5,hw5⟩:∃w5,w5=wr.alloc (.cells #[.string op',.int .i64 n',.string s',.slice oo es.length cc] 92):=⟨_,rfl⟩
     rw[←hw5] at hb5
     have hb05:=HR.out.2.2.trans (hb5.mono HR.out.2.2.size)
     have hst5:aP S S w w5:=fun b hb hl=>⟨hb,hb05.block b hl⟩
     have HIH5:Hid (Calls Tryz.prog 131 #[.slice oo es.length cc,.int .i64 r] w5 fun e w'=>Bw w5 w'∧∃q:Int,e=.returned (.int .i64 q)∧Left (aC es) r q):=HIH.out es HSS.out r (by omega) HR.out.2.1 w5 S oo cc zs (r1.keep hst5) (r2.keep hst5)
     have HB05:=aA hb05
     have HW5:Hid (wr.alloc (.cells #[.string op',.int .i64 n',.string s',.slice oo es.length cc] 92)=w5):=hw5.symm
     have HR0:Hid (0≤r):=by unfold Hid;omega
     clear x0 x1 x2 x3 r1 r2 g ev e ej hst hsl hj hjl hb5 hr0 hw5 hb05 hst5
     go_wp2_with fail
     rw[HW5.out]
     refine HIH5.out.mono ?_
     rintro e w6 ⟨hb6,q,rfl,hq⟩
     have HB6:Hid (Bw w w6):=HB05.out.trans (hb6.mono HB05.out.size)
     have HQ:=aA hq
     clear hb6 hq y0 y1 y2 y3
     go_wp2
     refine⟨⟨j+1,q,HJ.out,by rw[N4.out];rfl,rfl,⟨?_,?_,HB6.out⟩⟩,by rw[N4.out];have:=HJ.out;simp [intOf];omega⟩
     ·have h1:=HR.out.1
      have h2:=HQ.out
      have h3:=HST.out
      have h4:=HR0.out
      have h5:((l.length+gY (l.take j):Nat):Int)≤x:=by
       rcases Int.lt_or_le x ((l.length+gY (l.take j):Nat):Int) with h | h
       ·have:=h1.2 h;omega
       ·exact h
      have h6:=h1.1 h5
      refine⟨fun h=>?_,fun h=>h2.2 (by omega)⟩
      have:=h2.1 (by omega)
      omega
     ·have h2:=HQ.out
      have h4:=HR.out.2.1
      rcases Int.lt_or_le r (aC es:Int) with h | h
      ·have:=h2.2 h;omega
      ·have:=h2.1 h;omega
   ·obtain rfl:j=l.length:=by omega
    have HEND:Hid (Left (aC l) x r∧Bw w wr):=⟨by have h:=HR.out.1;rw[List.take_length] at h;rw[rT];exact h,HR.out.2.2⟩
    clear hj hjl
    go_wp2
    go_ret
    exact⟨HEND.out.2,r,rfl,HEND.out.1⟩
theorem Eo(l:List Ex)(w:World)(S:Nat→Prop)(o:Option Addr)(c:Nat)(ys:List Value)(hrow:aB w S 4 (.slice o l.length c) l.length ys)(hex:aI w S l ys) :
  Calls Tryz.prog 77 #[.slice o l.length c] w fun e w'=>Bw w w'∧e=.returned (.bool (decide (aC l≤4000))):=by
 have HC:Hid (Calls Tryz.prog 131 #[.slice o l.length c,.int .i64 4000] w fun e w'=>Bw w w'∧∃r:Int,e=.returned (.int .i64 r)∧Left (aC l) 4000 r):=Ef _ l (Nat.lt_succ_self _) 4000 (by omega) (by omega) w S o c ys hrow hex
 clear hrow hex
 go_enter Tryz.func77,Tryz.ntmps77
 go_wp2_with fail
 refine HC.out.mono ?_
 rintro e w2 ⟨hb,r,rfl,hr⟩
 by_cases h:aC l≤4000
 ·have hr':=hr.1 (by omega)
  have d0:(0≤r)=True:=eq_true (by omega)
  have d1:(r<0)=False:=eq_false (by omega)
  have HE:Hid (decide (aC l≤4000)=true):=decide_eq_true h
  clear hr hr' h
  go_wp2
  go_ret
  exact⟨hb,by rw[HE.out];rfl⟩
 ·have hr':=hr.2 (by omega)
  have d0:(0≤r)=False:=eq_false (by omega)
  have d1:(r<0)=True:=eq_true (by omega)
  have HE:Hid (decide (aC l≤4000)=false):=decide_eq_false h
  clear hr hr' h
  go_wp2
  go_ret
  exact⟨hb,by rw[HE.out];rfl⟩
theorem dN.Mi{X:Nat→Prop}{cb:Nat}{kd:List UInt8→Option Int}{ps:List Int}{F:Nat→Prop}{w w':World}(h:dN X cb kd ps F w)(hk:∀k,(F k∨X k)→k<w.heap.size→w'.heap[k]?=w.heap[k]?)(hs:w.heap.size≤w'.heap.size):dN X cb kd ps F w':=by
 have hlt:=h.lt
 obtain⟨M,K,nK,B,C,nv,uv,po,pc,h1,h2,h3,h4,h5,h6⟩:=h
 refine⟨M,K,nK,B,C,nv,uv,po,pc,?_,h2.kept (fun k hb=>hk k (.inr (h5 k hb).2) (h2.lt k hb)),gP h3 (fun k hb=>hk k (.inl ((h4 k).2 (.inr hb))) (h3.lt k hb).2),h4,h5,fun k hx=>by have:=h6 k hx;omega⟩
 rw[hk cb (.inl ((h4 cb).2 (.inl rfl))) (bE h1).1]
 exact h1
theorem aB.less{w:World}{S S':Nat→Prop}{size n:Nat}{v:Value}{xs:List Value}(h:aB w S size v n xs)(hs:∀b,S b→S' b):aB w S' size v n xs:=h.keep (fun b hb _=>⟨hs b hb,rfl⟩)
theorem aI.less{w:World}{S S':Nat→Prop}{es:List Ex}{xs:List Value}(h:aI w S es xs)(hs:∀b,S b→S' b):aI w S' es xs:=h.keep (fun b hb _=>⟨hs b hb,rfl⟩)
def tJ(F:Nat→Prop)(b1:Nat)(v:Value):Nat→Prop:=fun k=>F k∨k=b1∨v.ownBlock=some k
structure mX(X:Nat→Prop)(cb b1:Nat)(kd:List UInt8→Option Int)(w:World)(F0:Nat→Prop)(ks qs:List Int)(ta:Option Addr)(tc:Nat)(F:Nat→Prop)(wr:World):Prop where
 ck:dN X cb kd qs F wr
 cell:wr.heap[b1]?=some (.cells #[.slice ta ks.length tc] 30 (0,0))
 row:wr.ownsRow 0 3 1 (.slice ta ks.length tc) ks.length (ks.map (Value.int .i64))
 nf:¬F b1
 nr:∀k,(Value.slice ta ks.length tc).ownBlock=some k→¬F k
 mv:aY (fun k=>F0 k∨k=b1) (tJ F b1 (.slice ta ks.length tc)) w wr
 nx:∀k,(Value.slice ta ks.length tc).ownBlock=some k→¬X k
 lb:¬X b1
theorem mX.apart{X:Nat→Prop}{cb b1:Nat}{kd:List UInt8→Option Int}{w:World}{F0:Nat→Prop}{ks qs:List Int}{ta:Option Addr}{tc:Nat}{F:Nat→Prop}{wr:World}(h:mX X cb b1 kd w F0 ks qs ta tc F wr):(Value.slice ta ks.length tc).ownBlock≠some b1:=fun e=>by
 obtain⟨cur,hc⟩:=uT h.row e
 rw[h.cell] at hc
 have:=(Obj.cells.inj (Option.some.inj hc)).2.1
 exact absurd this (by decide)
theorem mX.next{X:Nat→Prop}{cb b1:Nat}{kd:List UInt8→Option Int}{w:World}{F0:Nat→Prop}{ks qs rs:List Int}{ta:Option Addr}{tc:Nat}{F F6:Nat→Prop}{wr w6 w7:World}{k:Int}{o:Obj}{g cap:Nat}(h:mX X cb b1 kd w F0 ks qs ta tc F wr)(hm6:aY F F6 wr w6)(hck:dN X cb kd (qs++rs) F6 w6)
  (hgrow:(w6.alloc o).grownBy w7 (Value.slice ta ks.length tc).ownBlock) (hat:(Value.slice ta ks.length tc).ownBlock=some g∨g=(w6.alloc o).heap.size) (hlt:g<w7.heap.size) (hown:w7.ownsRow 0 3 1 (.slice (some ⟨g,0,none⟩) (ks.length+1) cap) (ks.length+1) (ks.map (Value.int .i64)++[.int .i64 k])) :
  mX X cb b1 kd w F0 (ks++[k]) (qs++rs) (some ⟨g,0,none⟩) cap F6 (w7.setCell ⟨b1,0,none⟩ (.slice (some ⟨g,0,none⟩) (ks.length+1) cap)):=by
 have e1:(ks++[k]).length=ks.length+1:=by simp
 have hap:=h.apart
 obtain⟨hc6,hn6⟩:=hm6.jU h.cell h.nf
 have hr6:=BM h.row hm6 h.nr
 have hb1l:b1<w6.heap.size:=(bE hc6).1
 have hsz:(w6.alloc o).heap.size=w6.heap.size+1:=by simp
 have hgb:g≠b1:=fun e=>by
  rcases hat with h1 | h1
  ·rw[e] at h1;exact hap h1
  ·omega
 have hk7:∀j,j<w6.heap.size→(Value.slice ta ks.length tc).ownBlock≠some j→w7.heap[j]?=w6.heap[j]?:=fun j hj hn=>by
  rw[hgrow.block j (by omega) (fun e=>hn e.symm)]
  exact((Below.refl _ _).alloc (Nat.le_refl _) o).block j hj
 have hks:∀j,j≠b1→(w7.setCell ⟨b1,0,none⟩ (.slice (some ⟨g,0,none⟩) (ks.length+1) cap)).heap[j]?=w7.heap[j]?:=fun j hj=>Below.heap_setCell w7 ⟨b1,0,none⟩ _ j hj
 have hz7:w6.heap.size≤w7.heap.size:=by have:=hgrow.size;omega
 have hrl:∀j,(Value.slice ta ks.length tc).ownBlock=some j→¬X j:=h.nx
 have hF6:=hck.lt
 refine⟨?_,?_,?_,hn6,fun j hj hf=>?_,?_,fun j hj hx=>?_,h.lb⟩
 ·refine hck.Mi (fun j hj hl=>?_) (by rw[size_setCell];exact hz7)
  have n1:j≠b1:=fun e=>by
   rcases hj with hj | hj
   ·exact hn6 (by rw[←e];exact hj)
   ·exact h.lb (by rw[←e];exact hj)
  rw[hks j n1,hk7 j hl (fun e=>by
   rcases hj with hj | hj
   ·exact hr6.2 j e hj
   ·exact hrl j e hj)]
 ·rw[e1]
  exact nX (i:=0) ((hk7 b1 hb1l hap).trans hc6) _
 ·rw[e1,List.map_append]
  exact gP (w':=w7.setCell ⟨b1,0,none⟩ (.slice (some ⟨g,0,none⟩) (ks.length+1) cap)) hown (fun j hj=>hks j (fun e=>hgb (by
   obtain rfl:g=j:=by simpa [Value.ownBlock] using hj
   exact e)))
 ·rw[e1] at hj
  obtain rfl:g=j:=by simpa [Value.ownBlock] using hj
  rcases hat with h1 | h1
  ·exact hr6.2 g h1 hf
  ·have:=hF6 g hf;omega
 ·rw[e1]
  have hm:=h.mv
  have hz:=hm.size
  have hz6:=hm6.size
  refine⟨hgrow.os.trans (hm6.os.trans hm.os),hgrow.tape.trans (hm6.tape.trans hm.tape),hgrow.output.trans (hm6.output.trans hm.output),by rw[size_setCell];omega,fun j hj hn=>?_,fun j hj=>?_⟩
  ·have hn':¬tJ F b1 (.slice ta ks.length tc) j:=fun hf=>by
    rcases hm.more j hf with h1 | h1
    ·exact hn h1
    ·omega
   rw[hks j (fun e=>hn (.inr e)),hk7 j (by omega) (fun e=>hn' (.inr (.inr e))),hm6.block j (by omega) (fun hf=>hn' (.inl hf))]
   exact hm.block j hj hn
  ·rw[size_setCell]
   rcases hj with hj | hj | hj
   ·rcases hm6.more j hj with h1 | h1
    ·rcases hm.more j (.inl h1) with h2 | h2
     ·exact .inl h2
     ·exact .inr ⟨h2.1,by omega⟩
    ·exact .inr ⟨by omega,by omega⟩
   ·exact .inl (.inr hj)
   ·obtain rfl:g=j:=by simpa [Value.ownBlock] using hj
    rcases hat with h1 | h1
    ·rcases hm.more g (.inr (.inr h1)) with h2 | h2
     ·exact .inl h2
     ·exact .inr ⟨h2.1,by omega⟩
    ·exact .inr ⟨by omega,hlt⟩
 ·rw[e1] at hj
  obtain rfl:g=j:=by simpa [Value.ownBlock] using hj
  rcases hat with h1 | h1
  ·exact h.nx g h1 hx
  ·have:=hck.base g hx;omega
def EW(X:Nat→Prop)(cb b1:Nat)(kd:List UInt8→Option Int)(l:List Ex)(F:Nat→Prop)(w:World)(e:Ending)(w':World):Prop:=
 (∃ks qs ta tc F',aM kd l=some (ks,qs)∧e=.returned (.tuple #[])∧mX X cb b1 kd w F ks qs ta tc F' w')∨(aM kd l=none∧lK e∧∃F' v,aY (fun k=>F k∨k=b1) F' w w'∧w'.heap[b1]?=some (.cells #[v] 30 (0,0)))
end Go.Proofs.YtmgfakcccfahaaaGreatDoor
