/-
  TYPES OF TERMS WITHOUT CALLS, AS MATHEMATICS.
-/
import Derived.Test.YtmgfakcccfahaaaGreatDoorN05
import Derived.Deep.DeepCutAuto
namespace Go.Proofs.YtmgfakcccfahaaaGreatDoor
def aZ(op:List UInt8)(ps:List Int):Option Int:=
 match eX op with
 | none=>none
 | some (tk,gv)=>(fT tk ps 0).map fun f=>(jG gv f).headD 0
def bI:List UInt8:=[110,97,109,101]
def kD:List UInt8:=[99,97,108,108]
mutual
def bF(kd:List UInt8→Option Int):Ex→Option (Int×List Int)
 | .mk op _ s l=>
  if op.data.toList=bI then (kd s.data.toList).map fun k=>(k,[k])
  else
   match aM kd l with
   | none=>none
   | some (ks,ps)=>(aZ op.data.toList ks).map fun k=>(k,ps++[k])
def aM(kd:List UInt8→Option Int):List Ex→Option (List Int×List Int)
 | []=>some ([],[])
 | e::es=>
  match bF kd e with
  | none=>none
  | some (k,ps)=>
   match aM kd es with
   | none=>none
   | some (ks,qs)=>some (k::ks,ps++qs)
end
mutual
def nO(kd:List UInt8→Option Int):Ex→Prop
 | .mk op _ s l=>op.size≤maxLen∧s.size≤maxLen∧op.data.toList≠kD∧(if op.data.toList=bI then (∃k,kd s.data.toList=some k)∧l=[] else ∃tk gv,eX op.data.toList=some (tk,gv)∧l.length=tk.length)∧iF kd l
def iF(kd:List UInt8→Option Int):List Ex→Prop
 | []=>True
 | e::es=>nO kd e∧iF kd es
end
theorem yD{kd:List UInt8→Option Int}:∀{l:List Ex} {i:Nat} {e:Ex},iF kd l→l[i]?=some e→nO kd e
 | [],i,e,_,h=>by simp at h
 | x::l,0,e,hk,h=>by
  obtain rfl:x=e:=by simpa using h
  unfold iF at hk
  exact hk.1
 | x::l,i+1,e,hk,h=>by
  unfold iF at hk
  exact yD hk.2 (by simpa using h)
theorem xC{kd:List UInt8→Option Int}:∀{l:List Ex} {i:Nat} {e:Ex} {ks ps:List Int},l[i]?=some e→aM kd (l.take i)=some (ks,ps)→aM kd (l.take (i+1))=(bF kd e).map fun x=>(ks++[x.1],ps++x.2)
 | [],i,e,ks,ps,h,_=>by simp at h
 | x::l,0,e,ks,ps,h,ht=>by
  obtain rfl:x=e:=by simpa using h
  simp only[List.take_zero] at ht
  unfold aM at ht
  obtain⟨rfl,rfl⟩:[]=ks∧[]=ps:=by simpa using ht
  simp only[List.take_succ_cons,List.take_zero]
  unfold aM
  cases bF kd x with
  | none=>rfl
  | some r=>simp [aM]
 | x::l,i+1,e,ks,ps,h,ht=>by
  have h':l[i]?=some e:=by simpa using h
  simp only[List.take_succ_cons] at ht ⊢
  unfold aM at ht ⊢
  cases hx:bF kd x with
  | none=>rw[hx] at ht;cases ht
  | some r=>
   rw[hx] at ht
   simp only at ht ⊢
   cases hl:aM kd (l.take i) with
   | none=>rw[hl] at ht;cases ht
   | some q=>
    rw[hl] at ht
    obtain⟨rfl,rfl⟩:r.1::q.1=ks∧r.2++q.2=ps:=by simpa using ht
    rw[xC h' hl]
    cases bF kd e with
    | none=>rfl
    | some y=>simp
theorem xD{kd:List UInt8→Option Int}:∀{l:List Ex} {i:Nat},aM kd (l.take i)=none→aM kd l=none
 | [],i,h=>by simp [aM] at h
 | x::l,0,h=>by simp [aM] at h
 | x::l,i+1,h=>by
  simp only[List.take_succ_cons] at h
  unfold aM at h ⊢
  cases hx:bF kd x with
  | none=>rfl
  | some r=>
   rw[hx] at h
   simp only at h ⊢
   cases hl:aM kd (l.take i) with
   | none=>rw[xD hl]
   | some q=>rw[hl] at h;cases h
theorem pG{kd:List UInt8→Option Int}:∀{l:List Ex} {ks ps:List Int},aM kd l=some (ks,ps)→ks.length=l.length
 | [],ks,ps,h=>by
  unfold aM at h
  obtain⟨rfl,_⟩:[]=ks∧[]=ps:=by simpa using h
  rfl
 | x::l,ks,ps,h=>by
  unfold aM at h
  cases hx:bF kd x with
  | none=>rw[hx] at h;cases h
  | some r=>
   rw[hx] at h
   simp only at h
   cases hl:aM kd l with
   | none=>rw[hl] at h;cases h
   | some q=>
    rw[hl] at h
    obtain⟨rfl,_⟩:r.1::q.1=ks∧r.2++q.2=ps:=by simpa using h
    simp [pG hl]
end Go.Proofs.YtmgfakcccfahaaaGreatDoor
namespace Go.Proofs.YtmgfakcccfahaaaGreatDoor
open Go.RowKit Go.Maps

def noKind(k:Int):Bool:=k != 1&&k != 2
end Go.Proofs.YtmgfakcccfahaaaGreatDoor

/-
 package types: caught,Result BY CONTRACT.
-/
namespace Go.Proofs.YtmgfakcccfahaaaGreatDoor
open Go.RowKit Go.Maps

theorem zV{w:World}{p:Addr}{v:Value}(hc:w.cell? p=some v):p.block<w.heap.size:=by
 rcases Nat.lt_or_ge p.block w.heap.size with h | h
 ·exact h
 ·simp [World.cell?,Array.getElem?_eq_none h] at hc
def xR(op:List UInt8)(ps:List Int):Option Int:=
 match eX op with
 | none=>none
 | some (tk,gv)=>if ps.length=tk.length then (if ps.any noKind=true then none else (fT tk ps 0).map fun f=>(jG gv f).headD 0) else none
theorem Fy(w:World):(zeroValue 206).run Tryz.prog w=.ok (.agg #[.slice none 0 0,.slice none 0 0]) w:=by kernel_rfl
set_option maxRecDepth 100000
set_option maxHeartbeats 1000000

theorem aR.nR{w:World}{b n:Nat}{f:List UInt8→Option Value}(h:aR w b n f){t e:TypeId}(ht:Tryz.prog.underlying t=some (.map 9 e)){z:Value}(hz:(zeroValue e).run Tryz.prog w=.ok z w)(s:ByteArray)(hs:s.size≤maxLen) :
  (Instr.lookup t (.map (some b)) (.string s) false).run Tryz.prog w=.ok ((f s.data.toList).getD z) w:=by
 obtain⟨D,h,k⟩:=h
 obtain⟨v,ps,r1,r2⟩:=h.lookup xK ht hz (show sU z=some (.held z,[]) from rfl) (WideMaps.keyOf_string_mk Tryz.underlying9 hs)
 obtain⟨k1,k2⟩:=k s.data.toList
 rw[r1]
 have e1:(DataW.held v:DataW Value)=D.atKey (.string s.data.toList) (.held z):=by
  have:some ((DataW.held v:DataW Value),([]:List MemPlace))=some (D.atKey (.string s.data.toList) (.held z),ps):=r2
  exact congrArg Prod.fst (Option.some.inj this)
 cases hf:f s.data.toList with
 | none=>
  rw[hf] at k1
  rw[atKey_of_not_has k1] at e1
  have e2:=DataW.held.inj e1
  rw[e2];rfl
 | some v0=>
  rw[k2 v0 (.held z) hf] at e1
  have e2:=DataW.held.inj e1
  rw[e2];rfl
def aS(kd:List UInt8→Option Int):List UInt8→Option Value:=fun s=>(kd s).map (Value.int .i64)
structure oZ(M K nK B C:Nat)(kd:List UInt8→Option Int)(w:World):Prop where
 signs:aR w M 24 (nJ B C)
 rows:oW B C w
 kinds:aR w K nK (aS kd)
def qH(M K B C:Nat):Nat→Prop:=fun k=>k=M∨k=K∨k=C∨(B≤k∧k≤B+5)
theorem oZ.kept{M K nK B C:Nat}{kd:List UInt8→Option Int}{w w':World}(h:oZ M K nK B C kd w)(hk:∀k,qH M K B C k→w'.heap[k]?=w.heap[k]?):oZ M K nK B C kd w':=
 ⟨h.signs.kept (hk _ (.inl rfl)),⟨by rw[hk B (.inr (.inr (.inr ⟨by omega,by omega⟩)))];exact h.rows.r0,by rw[hk (B+1) (.inr (.inr (.inr ⟨by omega,by omega⟩)))];exact h.rows.r1,by rw[hk (B+1+1) (.inr (.inr (.inr ⟨by omega,by omega⟩)))];exact h.rows.r2,by rw[hk (B+1+1+1) (.inr (.inr (.inr ⟨by omega,by omega⟩)))];exact h.rows.r3,by rw[hk (B+1+1+1+1) (.inr (.inr (.inr ⟨by omega,by omega⟩)))];exact h.rows.r4,by rw[hk (B+1+1+1+1+1) (.inr (.inr (.inr ⟨by omega,by omega⟩)))];exact h.rows.r5,by rw[hk C (.inr (.inr (.inl rfl)))];exact h.rows.r6,h.rows.lo⟩,h.kinds.kept (hk _ (.inr (.inl rfl)))⟩
theorem oZ.lt{M K nK B C:Nat}{kd:List UInt8→Option Int}{w:World}(h:oZ M K nK B C kd w):∀k,qH M K B C k→k<w.heap.size:=fun k hk=>by
 have h5:=(bE h.rows.r5).1
 have h6:=(bE h.rows.r6).1
 have hM:=h.signs.lt
 have hK:=h.kinds.lt
 rcases hk with rfl | rfl | rfl | hk<;>omega
def dN(X:Nat→Prop)(cb:Nat)(kd:List UInt8→Option Int)(ps:List Int)(F:Nat→Prop)(w:World):Prop:=
 ∃(M K nK B C:Nat) (nv uv:Value) (po:Option Addr) (pc:Nat),w.heap[cb]?=some (.cells #[.map (some M),nv,.map (some K),uv,.slice po ps.length pc] 257 (0,0))∧oZ M K nK B C kd w∧w.ownsRow 0 3 1 (.slice po ps.length pc) ps.length (ps.map (Value.int .i64))∧(∀k,F k ↔ k=cb∨(Value.slice po ps.length pc).ownBlock=some k)∧(∀k,qH M K B C k→¬F k∧X k)∧(∀k,X k→k<w.heap.size)
theorem dN.lt{X:Nat→Prop}{cb:Nat}{kd:List UInt8→Option Int}{ps:List Int}{F:Nat→Prop}{w:World}(h:dN X cb kd ps F w):∀k,F k→k<w.heap.size:=fun k hk=>by
 obtain⟨M,K,nK,B,C,nv,uv,po,pc,h1,h2,h3,h4,h5,h6⟩:=h
 rcases (h4 k).1 hk with rfl | hk
 ·exact(bE h1).1
 ·exact(h3.lt k hk).2
theorem dN.kept{X:Nat→Prop}{cb:Nat}{kd:List UInt8→Option Int}{ps:List Int}{F:Nat→Prop}{w w':World}(h:dN X cb kd ps F w)(hk:∀k,k<w.heap.size→w'.heap[k]?=w.heap[k]?)(hs:w.heap.size≤w'.heap.size):dN X cb kd ps F w':=by
 have hlt:=h.lt
 obtain⟨M,K,nK,B,C,nv,uv,po,pc,h1,h2,h3,h4,h5,h6⟩:=h
 exact⟨M,K,nK,B,C,nv,uv,po,pc,by rw[hk cb (bE h1).1];exact h1,h2.kept (fun k hb=>hk k (h2.lt k hb)),gP h3 (fun k hb=>hk k (h3.lt k hb).2),h4,h5,fun k hx=>by have:=h6 k hx;omega⟩
theorem dN.below{X:Nat→Prop}{cb:Nat}{kd:List UInt8→Option Int}{ps:List Int}{F:Nat→Prop}{w w':World}(h:dN X cb kd ps F w)(hb:Bw w w'):dN X cb kd ps F w':=h.kept hb.block hb.size
theorem dN.base{X:Nat→Prop}{cb:Nat}{kd:List UInt8→Option Int}{ps:List Int}{F:Nat→Prop}{w:World}(h:dN X cb kd ps F w):∀k,X k→k<w.heap.size:=by
 obtain⟨M,K,nK,B,C,nv,uv,po,pc,h1,h2,h3,h4,h5,h6⟩:=h
 exact h6
theorem dN.set{X:Nat→Prop}{cb:Nat}{kd:List UInt8→Option Int}{ps:List Int}{F:Nat→Prop}{w:World}(h:dN X cb kd ps F w){V i:Nat}(hV:¬F V)(hX:¬X V)(u:Value):dN X cb kd ps F (w.setCell ⟨V,i,none⟩ u):=by
 obtain⟨M,K,nK,B,C,nv,uv,po,pc,h1,h2,h3,h4,h5,h6⟩:=h
 have hk:∀k,k≠V→(w.setCell ⟨V,i,none⟩ u).heap[k]?=w.heap[k]?:=fun k hne=>Below.heap_setCell w ⟨V,i,none⟩ u k hne
 refine⟨M,K,nK,B,C,nv,uv,po,pc,?_,h2.kept (fun k hb=>hk k (fun e=>hX (by rw[←e];exact(h5 k hb).2))),gP h3 (fun k hb=>hk k (fun e=>hV (by rw[←e];exact(h4 k).2 (.inr hb)))),h4,h5,fun k hx=>by have:=h6 k hx;simpa using this⟩
 rw[hk cb (fun e=>hV (by rw[←e];exact(h4 cb).2 (.inl rfl)))]
 exact h1
-- The contract of a name.
theorem jL(w:World):(zeroValue 3).run Tryz.prog w=.ok (.int .i64 0) w:=by kernel_rfl
theorem Ll{X:Nat→Prop}{cb:Nat}{kd:List UInt8→Option Int}{ps:List Int}{F:Nat→Prop}{w:World}(h:dN X cb kd ps F w)(s:ByteArray)(hs:s.size≤maxLen)(k:Int)(hk:kd s.data.toList=some k) :
  Calls Tryz.prog 187 #[.pointer (some ⟨cb,0,none⟩),.string s] w fun e w'=>e=.returned (.int .i64 k)∧w'=w:=by
 obtain⟨M,K,nK,B,C,nv,uv,po,pc,h1,h2,h3,h4,h5,h6⟩:=h
 have hlk:=h2.kinds.look Tryz.underlying96 (jL w) s hs
 have e1:aS kd s.data.toList=some (.int .i64 k):=by unfold aS;rw[hk];rfl
 rw[e1] at hlk
 have hlk':(Instr.lookup 96 (.map (some K)) (.string s) true).run Tryz.prog w=.ok (.tuple #[.int .i64 k,.bool true]) w:=hlk
 have c2:w.cell? ⟨cb,0+2,none⟩=some (.map (some K)):=cr h1 rfl
 clear h1 h2 h3 h4 h5 h6 hk hs hlk e1
 go_enter Tryz.func187,Tryz.ntmps187
 go_wp2
 go_ret
 exact⟨rfl,rfl⟩
-- The contract of a sign,of a term that is no call.
theorem NR{X:Nat→Prop}{cb:Nat}{kd:List UInt8→Option Int}{ps:List Int}{F:Nat→Prop}{w:World}(h:dN X cb kd ps F w)(op s:ByteArray)(n:Int)(lv:Value)(hs:op.size≤maxLen)(hc:op.data.toList≠kD)(tk gv:List Int)(hr:eX op.data.toList=some (tk,gv)) :
  Calls Tryz.prog 188 #[.pointer (some ⟨cb,0,none⟩),.agg #[.string op,.int .i64 n,.string s,lv]] w fun e w'=>Bw w w'∧∃o1 c1 o2 c2,e=.returned (.agg #[.slice o1 tk.length c1,.slice o2 gv.length c2])∧(∀W:World,(∀k,X k→¬F k→W.heap[k]?=w.heap[k]?)→dI W (.slice o1 tk.length c1) tk∧dI W (.slice o2 gv.length c2) gv)∧tk.length≤10∧gv.length=1:=by
 obtain⟨M,K,nK,B,C,nv,uv,po,pc,h1,h2,h3,h4,h5,h6⟩:=h
 have hb1:Bw w (w.alloc (.cells #[.string op,.int .i64 n,.string s,lv] 92)):=aH
 obtain⟨w1,hw1⟩:∃w1,w1=w.alloc (.cells #[.string op,.int .i64 n,.string s,lv] 92):=⟨_,rfl⟩
 have hs1:w1.heap.size=w.heap.size+1:=by rw[hw1];simp
 have hr1:w1.heap[w.heap.size]?=some (.cells #[.string op,.int .i64 n,.string s,lv] 92 (0,0)):=by rw[hw1];exact heap_alloc_new _ _
 rw[←hw1] at hb1
 obtain⟨w2,hw2⟩:∃w2,w2=w1.alloc (.cells #[.slice none 0 0,.slice none 0 0] 206):=⟨_,rfl⟩
 have hb2:Bw w1 w2:=by rw[hw2];exact aH
 have hr2:w2.heap[w.heap.size+1]?=some (.cells #[.slice none 0 0,.slice none 0 0] 206 (0,0)):=by rw[hw2,←hs1];exact heap_alloc_new _ _
 have hb12:=hb1.trans (hb2.mono hb1.size)
 have hf2:=h2.kept (w':=w2) (fun k hk=>hb12.block k (h2.lt k hk))
 have c0:w2.cell? ⟨w.heap.size,0,none⟩=some (.string op):=by rw[cell_of_row w2 _ _ _ _ (0,0) (aG hb2 hr1)];rfl
 have c1:w2.cell? ⟨cb,0,none⟩=some (.map (some M)):=by rw[cell_of_row w2 cb _ _ _ (0,0) (aG hb12 h1)];rfl
 have c2:w2.cell? ⟨w.heap.size+1,0,none⟩=some (.slice none 0 0):=cr hr2 rfl
 have c3:w2.cell? ⟨w.heap.size+1,0+1,none⟩=some (.slice none 0 0):=cr hr2 rfl
 have f2:∀i,w2.frozen? ⟨w.heap.size+1,i,none⟩=false:=fun i=>dW hr2
 rcases Bl h2.rows op.data.toList with⟨_,hn⟩ | ⟨o1,k1,o2,k2,tk',gv',e1,e2,i1,i2,l1,l2⟩
 ·rw[hr] at hn;cases hn
 obtain⟨rfl,rfl⟩:tk=tk'∧gv=gv':=by rw[hr] at e2;simpa using e2
 have hlk:∀W,aR W M 24 (nJ B C)→(Instr.lookup 208 (.map (some M)) (.string op) false).run Tryz.prog W=.ok (.agg #[.slice o1 tk.length k1,.slice o2 gv.length k2]) W:=fun W hW=>by
  have h:=hW.nR Tryz.underlying208 (Fy W) op hs
  rw[e1] at h
  exact h
 have lk0:=hlk w2 hf2.signs
 have lk1:=hlk w2.drew hf2.signs
 have HW1:Hid (w.alloc (.cells #[.string op,.int .i64 n,.string s,lv] 92)=w1):=hw1.symm
 have HW2:Hid (w1.alloc (.cells #[.slice none 0 0,.slice none 0 0] 206)=w2):=hw2.symm
 have HS1:=aA hs1
 have dn:(op.toList==[99,97,108,108])=false:=by rw[ByteArray.toList_eq];exact beq_eq_false_iff_ne.2 hc
 have dn':(op.toList != [99,97,108,108])=true:=by unfold bne;rw[dn];rfl
 have HB12:=aA hb12
 have HII:Hid (∀W:World,(∀k,X k→¬F k→W.heap[k]?=w.heap[k]?)→dI W (.slice o1 tk.length k1) tk∧dI W (.slice o2 gv.length k2) gv):=fun W hW=>by
  have hf:=h2.kept (w':=W) (fun k hk=>hW k (h5 k hk).2 (h5 k hk).1)
  rcases Bl hf.rows op.data.toList with⟨_,hn⟩ | ⟨p1,j1,p2,j2,tk',gv',a1,a2,a3,a4,_,_⟩
  ·rw[hr] at hn;cases hn
  ·obtain⟨rfl,rfl⟩:tk=tk'∧gv=gv':=by rw[hr] at a2;simpa using a2
   rw[e1] at a1
   obtain⟨⟨rfl,rfl⟩,rfl,rfl⟩:(o1=p1∧k1=j1)∧o2=p2∧k2=j2:=by simpa using a1
   exact⟨a3,a4⟩
 have HR2:=aA hr2
 have HLN:Hid (tk.length≤10∧gv.length=1):=⟨l1,l2⟩
 clear h1 h2 h3 h4 h5 h6 hb1 hw1 hr1 hw2 hb2 hr2 hb12 hf2 e1 e2 i1 i2 l1 l2 hlk hs1 hr hc hs
 go_enter Tryz.func188,Tryz.ntmps188
 go_wp2
 rw[HW1.out,HW2.out]
 go_region
 have hB:Bw w ((w2.setCell ⟨w.heap.size+1,0,none⟩ (.slice o1 tk.length k1)).setCell ⟨w.heap.size+1,1,none⟩ (.slice o2 gv.length k2)).drew:=((HB12.out.setCell (by show w.heap.size≤w.heap.size+1;omega) _).setCell (by show w.heap.size≤w.heap.size+1;omega) _).drew
 have hR:((w2.setCell ⟨w.heap.size+1,0,none⟩ (.slice o1 tk.length k1)).setCell ⟨w.heap.size+1,1,none⟩ (.slice o2 gv.length k2)).drew.heap[w.heap.size+1]?=some (.cells #[.slice o1 tk.length k1,.slice o2 gv.length k2] 206 (0,0)):=nX (i:=1) (nX (i:=0) HR2.out _) _
 obtain⟨w3,hw3⟩:∃w3,w3=((w2.setCell ⟨w.heap.size+1,0,none⟩ (.slice o1 tk.length k1)).setCell ⟨w.heap.size+1,1,none⟩ (.slice o2 gv.length k2)).drew:=⟨_,rfl⟩
 rw[←hw3] at hB hR ⊢
 have d0:w3.cell? ⟨w.heap.size+1,0,none⟩=some (.slice o1 tk.length k1):=cr hR rfl
 have d1:w3.cell? ⟨w.heap.size+1,0+1,none⟩=some (.slice o2 gv.length k2):=cr hR rfl
 have HB:=aA hB
 clear hw3 hB hR c0 c1 c2 c3 f2 lk0 lk1 dn dn'
 go_wp2
 exact bodyPost_ret (v:=.agg #[.slice o1 tk.length k1,.slice o2 gv.length k2]) (by simp [results,Tryz.results188,go_sem,d0,d1]) rfl ⟨HB.out,o1,k1,o2,k2,rfl,HII.out,HLN.out.1,HLN.out.2⟩
end Go.Proofs.YtmgfakcccfahaaaGreatDoor
