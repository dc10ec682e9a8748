/-
  package types: Result BY CONTRACT.
-/
import Derived.Test.YtmgfakcccfahaaaGreatDoorN05
set_option maxRecDepth 100000
set_option maxHeartbeats 4000000
namespace Go.Proofs.YtmgfakcccfahaaaGreatDoor
open Go.RowKit Go.Maps
def rZ(op:List UInt8)(ps:List Int):Option Int:=
 match kM op with
 | none=>none
 | some (tk,gv)=>if ps.length=tk.length then (if ps.any noKind=true then none else (iX tk ps 0).map fun f=>(lY gv f).headD 0) else none
theorem IB(w:World):(zeroValue 206).run Tryz.prog w=.ok (.agg #[.slice none 0 0,.slice none 0 0]) w:=by kernel_rfl

theorem aO.lW{w:World}{b n:Nat}{f:List UInt8→Option Value}(h:aO w b n f){t e:TypeId}(ht:Tryz.prog.underlying t=some (.map 9 e)){z:Value}(hz:(zeroValue e).run Tryz.prog w=.ok z w)(s:ByteArray)(hs:s.size≤maxLen) :
  (Instr.lookup t (.map (some b)) (.string s) false).run Tryz.prog w=.ok ((f s.data.toList).getD z) w:=by
 obtain⟨D,h,k⟩:=h
 obtain⟨v,ps,r1,r2⟩:=h.lookup uD ht hz (show jI z=some (.held z,[]) from rfl) (WideMaps.keyOf_string_mk Tryz.underlying9 hs)
 obtain⟨k1,k2⟩:=k s.data.toList
 rw[r1]
 have e1:(DataW.held v:DataW Value)=D.atKey (.string s.data.toList) (.held z):=by
  have:some ((DataW.held v:DataW Value),([]:List MemPlace))=some (D.atKey (.string s.data.toList) (.held z),ps):=r2
  exact congrArg Prod.fst (Option.some.inj this)
 cases hf:f s.data.toList with
 | none=>
  rw[hf] at k1
  rw[atKey_of_not_has k1] at e1
  have e2:=DataW.held.inj e1
  rw[e2];rfl
 | some v0=>
  rw[k2 v0 (.held z) hf] at e1
  have e2:=DataW.held.inj e1
  rw[e2];rfl
def aY(kd:List UInt8→Option Int):List UInt8→Option Value:=fun s=>(kd s).map (Value.int .i64)
structure tN(M K nK B C:Nat)(kd:List UInt8→Option Int)(w:World):Prop where
 signs:aO w M 24 (qW B C)
 rows:tF B C w
 kinds:aO w K nK (aY kd)
def vD(M K B C:Nat):Nat→Prop:=fun k=>k=M∨k=K∨k=C∨(B≤k∧k≤B+5)
theorem tN.kept{M K nK B C:Nat}{kd:List UInt8→Option Int}{w w':World}(h:tN M K nK B C kd w)(hk:∀k,vD M K B C k→w'.heap[k]?=w.heap[k]?):tN M K nK B C kd w':=
 ⟨h.signs.kept (hk _ (.inl rfl)),⟨by rw[hk B (.inr (.inr (.inr ⟨by omega,by omega⟩)))];exact h.rows.r0,by rw[hk (B+1) (.inr (.inr (.inr ⟨by omega,by omega⟩)))];exact h.rows.r1,by rw[hk (B+1+1) (.inr (.inr (.inr ⟨by omega,by omega⟩)))];exact h.rows.r2,by rw[hk (B+1+1+1) (.inr (.inr (.inr ⟨by omega,by omega⟩)))];exact h.rows.r3,by rw[hk (B+1+1+1+1) (.inr (.inr (.inr ⟨by omega,by omega⟩)))];exact h.rows.r4,by rw[hk (B+1+1+1+1+1) (.inr (.inr (.inr ⟨by omega,by omega⟩)))];exact h.rows.r5,by rw[hk C (.inr (.inr (.inl rfl)))];exact h.rows.r6,h.rows.lo⟩,h.kinds.kept (hk _ (.inr (.inl rfl)))⟩
theorem tN.lt{M K nK B C:Nat}{kd:List UInt8→Option Int}{w:World}(h:tN M K nK B C kd w):∀k,vD M K B C k→k<w.heap.size:=fun k hk=>by
 have h5:=(bN h.rows.r5).1
 have h6:=(bN h.rows.r6).1
 have hM:=h.signs.lt
 have hK:=h.kinds.lt
 rcases hk with rfl | rfl | rfl | hk<;>omega
def fQ(X:Nat→Prop)(cb:Nat)(kd:List UInt8→Option Int)(ps:List Int)(F:Nat→Prop)(w:World):Prop:=
 ∃(M K nK B C:Nat) (nv uv:Value) (po:Option Addr) (pc:Nat),w.heap[cb]?=some (.cells #[.map (some M),nv,.map (some K),uv,.slice po ps.length pc] 257 (0,0))∧tN M K nK B C kd w∧w.ownsRow 0 3 1 (.slice po ps.length pc) ps.length (ps.map (Value.int .i64))∧(∀k,F k ↔ k=cb∨(Value.slice po ps.length pc).ownBlock=some k)∧(∀k,vD M K B C k→¬F k∧X k)∧(∀k,X k→k<w.heap.size)
theorem fQ.lt{X:Nat→Prop}{cb:Nat}{kd:List UInt8→Option Int}{ps:List Int}{F:Nat→Prop}{w:World}(h:fQ X cb kd ps F w):∀k,F k→k<w.heap.size:=fun k hk=>by
 obtain⟨M,K,nK,B,C,nv,uv,po,pc,h1,h2,h3,h4,h5,h6⟩:=h
 rcases (h4 k).1 hk with rfl | hk
 ·exact(bN h1).1
 ·exact(h3.lt k hk).2
theorem fQ.kept{X:Nat→Prop}{cb:Nat}{kd:List UInt8→Option Int}{ps:List Int}{F:Nat→Prop}{w w':World}(h:fQ X cb kd ps F w)(hk:∀k,k<w.heap.size→w'.heap[k]?=w.heap[k]?)(hs:w.heap.size≤w'.heap.size):fQ X cb kd ps F w':=by
 have hlt:=h.lt
 obtain⟨M,K,nK,B,C,nv,uv,po,pc,h1,h2,h3,h4,h5,h6⟩:=h
 exact⟨M,K,nK,B,C,nv,uv,po,pc,by rw[hk cb (bN h1).1];exact h1,h2.kept (fun k hb=>hk k (h2.lt k hb)),iM h3 (fun k hb=>hk k (h3.lt k hb).2),h4,h5,fun k hx=>by have:=h6 k hx;omega⟩
theorem fQ.below{X:Nat→Prop}{cb:Nat}{kd:List UInt8→Option Int}{ps:List Int}{F:Nat→Prop}{w w':World}(h:fQ X cb kd ps F w)(hb:Bw w w'):fQ X cb kd ps F w':=h.kept hb.block hb.size
theorem fQ.base{X:Nat→Prop}{cb:Nat}{kd:List UInt8→Option Int}{ps:List Int}{F:Nat→Prop}{w:World}(h:fQ X cb kd ps F w):∀k,X k→k<w.heap.size:=by
 obtain⟨M,K,nK,B,C,nv,uv,po,pc,h1,h2,h3,h4,h5,h6⟩:=h
 exact h6
theorem fQ.set{X:Nat→Prop}{cb:Nat}{kd:List UInt8→Option Int}{ps:List Int}{F:Nat→Prop}{w:World}(h:fQ X cb kd ps F w){V i:Nat}(hV:¬F V)(hX:¬X V)(u:Value):fQ X cb kd ps F (w.setCell ⟨V,i,none⟩ u):=by
 obtain⟨M,K,nK,B,C,nv,uv,po,pc,h1,h2,h3,h4,h5,h6⟩:=h
 have hk:∀k,k≠V→(w.setCell ⟨V,i,none⟩ u).heap[k]?=w.heap[k]?:=fun k hne=>Below.heap_setCell w ⟨V,i,none⟩ u k hne
 refine⟨M,K,nK,B,C,nv,uv,po,pc,?_,h2.kept (fun k hb=>hk k (fun e=>hX (by rw[←e];exact(h5 k hb).2))),iM h3 (fun k hb=>hk k (fun e=>hV (by rw[←e];exact(h4 k).2 (.inr hb)))),h4,h5,fun k hx=>by have:=h6 k hx;simpa using this⟩
 rw[hk cb (fun e=>hV (by rw[←e];exact(h4 cb).2 (.inl rfl)))]
 exact h1
-- The contract of a name.
theorem jO(w:World):(zeroValue 3).run Tryz.prog w=.ok (.int .i64 0) w:=by kernel_rfl
theorem Ny{X:Nat→Prop}{cb:Nat}{kd:List UInt8→Option Int}{ps:List Int}{F:Nat→Prop}{w:World}(h:fQ X cb kd ps F w)(s:ByteArray)(hs:s.size≤maxLen)(k:Int)(hk:kd s.data.toList=some k) :
  Calls Tryz.prog 187 #[.pointer (some ⟨cb,0,none⟩),.string s] w fun e w'=>e=.returned (.int .i64 k)∧w'=w:=by
 obtain⟨M,K,nK,B,C,nv,uv,po,pc,h1,h2,h3,h4,h5,h6⟩:=h
 have hlk:=h2.kinds.look Tryz.underlying96 (jO w) s hs
 have e1:aY kd s.data.toList=some (.int .i64 k):=by unfold aY;rw[hk];rfl
 rw[e1] at hlk
 have hlk':(Instr.lookup 96 (.map (some K)) (.string s) true).run Tryz.prog w=.ok (.tuple #[.int .i64 k,.bool true]) w:=hlk
 have c2:w.cell? ⟨cb,0+2,none⟩=some (.map (some K)):=cr h1 rfl
 clear h1 h2 h3 h4 h5 h6 hk hs hlk e1
 go_enter Tryz.func187,Tryz.ntmps187
 go_wp2
 go_ret
 exact⟨rfl,rfl⟩
-- The contract of a sign,of a term that is no call.
theorem PW{X:Nat→Prop}{cb:Nat}{kd:List UInt8→Option Int}{ps:List Int}{F:Nat→Prop}{w:World}(h:fQ X cb kd ps F w)(op s:ByteArray)(n:Int)(lv:Value)(hs:op.size≤maxLen)(hc:op.data.toList≠uQ)(tk gv:List Int)(hr:kM op.data.toList=some (tk,gv)) :
  Calls Tryz.prog 188 #[.pointer (some ⟨cb,0,none⟩),.agg #[.string op,.int .i64 n,.string s,lv]] w fun e w'=>Bw w w'∧∃o1 c1 o2 c2,e=.returned (.agg #[.slice o1 tk.length c1,.slice o2 gv.length c2])∧(∀W:World,(∀k,X k→¬F k→W.heap[k]?=w.heap[k]?)→dP W (.slice o1 tk.length c1) tk∧dP W (.slice o2 gv.length c2) gv)∧tk.length≤10∧gv.length=1:=by
 obtain⟨M,K,nK,B,C,nv,uv,po,pc,h1,h2,h3,h4,h5,h6⟩:=h
 have hb1:Bw w (w.alloc (.cells #[.string op,.int .i64 n,.string s,lv] 92)):=aH
 obtain⟨w1,hw1⟩:∃w1,w1=w.alloc (.cells #[.string op,.int .i64 n,.string s,lv] 92):=⟨_,rfl⟩
 have hs1:w1.heap.size=w.heap.size+1:=by rw[hw1];simp
 have hr1:w1.heap[w.heap.size]?=some (.cells #[.string op,.int .i64 n,.string s,lv] 92 (0,0)):=by rw[hw1];exact heap_alloc_new _ _
 rw[←hw1] at hb1
 obtain⟨w2,hw2⟩:∃w2,w2=w1.alloc (.cells #[.slice none 0 0,.slice none 0 0] 206):=⟨_,rfl⟩
 have hb2:Bw w1 w2:=by rw[hw2];exact aH
 have hr2:w2.heap[w.heap.size+1]?=some (.cells #[.slice none 0 0,.slice none 0 0] 206 (0,0)):=by rw[hw2,←hs1];exact heap_alloc_new _ _
 have hb12:=hb1.trans (hb2.mono hb1.size)
 have hf2:=h2.kept (w':=w2) (fun k hk=>hb12.block k (h2.lt k hk))
 have c0:w2.cell? ⟨w.heap.size,0,none⟩=some (.string op):=by rw[cell_of_row w2 _ _ _ _ (0,0) (aN hb2 hr1)];rfl
 have c1:w2.cell? ⟨cb,0,none⟩=some (.map (some M)):=by rw[cell_of_row w2 cb _ _ _ (0,0) (aN hb12 h1)];rfl
 have c2:w2.cell? ⟨w.heap.size+1,0,none⟩=some (.slice none 0 0):=cr hr2 rfl
 have c3:w2.cell? ⟨w.heap.size+1,0+1,none⟩=some (.slice none 0 0):=cr hr2 rfl
 have f2:∀i,w2.frozen? ⟨w.heap.size+1,i,none⟩=false:=fun i=>bR hr2
 rcases DN h2.rows op.data.toList with⟨_,hn⟩ | ⟨o1,k1,o2,k2,tk',gv',e1,e2,i1,i2,l1,l2⟩
 ·rw[hr] at hn;cases hn
 obtain⟨rfl,rfl⟩:tk=tk'∧gv=gv':=by rw[hr] at e2;simpa using e2
 have hlk:∀W,aO W M 24 (qW B C)→(Instr.lookup 208 (.map (some M)) (.string op) false).run Tryz.prog W=.ok (.agg #[.slice o1 tk.length k1,.slice o2 gv.length k2]) W:=fun W hW=>by
  have h:=hW.lW Tryz.underlying208 (IB W) op hs
  rw[e1] at h
  exact h
 have lk0:=hlk w2 hf2.signs
 have lk1:=hlk w2.drew hf2.signs
 have HW1:Hid (w.alloc (.cells #[.string op,.int .i64 n,.string s,lv] 92)=w1):=hw1.symm
 have HW2:Hid (w1.alloc (.cells #[.slice none 0 0,.slice none 0 0] 206)=w2):=hw2.symm
 have HS1:=aA hs1
 have dn:(op.toList==[99,97,108,108])=false:=by rw[ByteArray.toList_eq];exact beq_eq_false_iff_ne.2 hc
 have dn':(op.toList != [99,97,108,108])=true:=by unfold bne;rw[dn];rfl
 have HB12:=aA hb12
 have HII:Hid (∀W:World,(∀k,X k→¬F k→W.heap[k]?=w.heap[k]?)→dP W (.slice o1 tk.length k1) tk∧dP W (.slice o2 gv.length k2) gv):=fun W hW=>by
  have hf:=h2.kept (w':=W) (fun k hk=>hW k (h5 k hk).2 (h5 k hk).1)
  rcases DN hf.rows op.data.toList with⟨_,hn⟩ | ⟨p1,j1,p2,j2,tk',gv',a1,a2,a3,a4,_,_⟩
  ·rw[hr] at hn;cases hn
  ·obtain⟨rfl,rfl⟩:tk=tk'∧gv=gv':=by rw[hr] at a2;simpa using a2
   rw[e1] at a1
   obtain⟨⟨rfl,rfl⟩,rfl,rfl⟩:(o1=p1∧k1=j1)∧o2=p2∧k2=j2:=by simpa using a1
   exact⟨a3,a4⟩
 have HR2:=aA hr2
 have HLN:Hid (tk.length≤10∧gv.length=1):=⟨l1,l2⟩
 clear h1 h2 h3 h4 h5 h6 hb1 hw1 hr1 hw2 hb2 hr2 hb12 hf2 e1 e2 i1 i2 l1 l2 hlk hs1 hr hc hs
 go_enter Tryz.func188,Tryz.ntmps188
 go_wp2
 rw[HW1.out,HW2.out]
 go_region
 have hB:Bw w ((w2.setCell ⟨w.heap.size+1,0,none⟩ (.slice o1 tk.length k1)).setCell ⟨w.heap.size+1,1,none⟩ (.slice o2 gv.length k2)).drew:=((HB12.out.setCell (by show w.heap.size≤w.heap.size+1;omega) _).setCell (by show w.heap.size≤w.heap.size+1;omega) _).drew
 have hR:((w2.setCell ⟨w.heap.size+1,0,none⟩ (.slice o1 tk.length k1)).setCell ⟨w.heap.size+1,1,none⟩ (.slice o2 gv.length k2)).drew.heap[w.heap.size+1]?=some (.cells #[.slice o1 tk.length k1,.slice o2 gv.length k2] 206 (0,0)):=rJ (i:=1) (rJ (i:=0) HR2.out _) _
 obtain⟨w3,hw3⟩:∃w3,w3=((w2.setCell ⟨w.heap.size+1,0,none⟩ (.slice o1 tk.length k1)).setCell ⟨w.heap.size+1,1,none⟩ (.slice o2 gv.length k2)).drew:=⟨_,rfl⟩
 rw[←hw3] at hB hR ⊢
 have d0:w3.cell? ⟨w.heap.size+1,0,none⟩=some (.slice o1 tk.length k1):=cr hR rfl
 have d1:w3.cell? ⟨w.heap.size+1,0+1,none⟩=some (.slice o2 gv.length k2):=cr hR rfl
 have HB:=aA hB
 clear hw3 hB hR c0 c1 c2 c3 f2 lk0 lk1 dn dn'
 go_wp2
 exact bodyPost_ret (v:=.agg #[.slice o1 tk.length k1,.slice o2 gv.length k2]) (by simp [results,Tryz.results188,go_sem,d0,d1]) rfl ⟨HB.out,o1,k1,o2,k2,rfl,HII.out,HLN.out.1,HLN.out.2⟩

def mG(kd:List UInt8→Option Int)(op s:ByteArray)(l:List Ex):Option (Int×List Int):=
 if op.data.toList=bS then (kd s.data.toList).map fun k=>(k,[])
 else
  match aR kd l with
  | none=>none
  | some (ks,ps)=>(oJ op.data.toList ks).map fun k=>(k,ps)
theorem Jr(kd:List UInt8→Option Int)(op:ByteArray)(n:Int)(s:ByteArray)(l:List Ex):cO kd (.mk op n s l)=(mG kd op s l).map fun x=>(x.1,x.2++[x.1]):=by
 unfold cO mG
 by_cases hn:op.data.toList=bS
 ·rw[if_pos hn,if_pos hn]
  cases kd s.data.toList<;>rfl
 ·rw[if_neg hn,if_neg hn]
  cases aR kd l with
  | none=>rfl
  | some x=>simp only;cases oJ op.data.toList x.1<;>rfl
mutual
def aL:Ex→Nat
 | .mk _ _ _ l=>aC l+1
def aC:List Ex→Nat
 | []=>0
 | e::es=>aL e+aC es
end
theorem vF:∀(l:List Ex) (i:Nat) (e:Ex),l[i]?=some e→aC (l.take (i+1))=aC (l.take i)+aL e
 | [],_,_,h=>by simp at h
 | x::l,0,e,h=>by
  obtain rfl:x=e:=by simpa using h
  simp [aC]
 | x::l,i+1,e,h=>by
  have:=vF l i e (by simpa using h)
  simp only[List.take_succ_cons,aC,this]
  omega
theorem vG:∀(l:List Ex) (i:Nat),aC (l.take i)≤aC l
 | [],_=>by simp
 | x::l,0=>by simp [aC]
 | x::l,i+1=>by
  have:=vG l i
  simp only[List.take_succ_cons,aC]
  omega
mutual
theorem Dn(kd:List UInt8→Option Int):∀(e:Ex) (k:Int) (ps:List Int),o9 kd e→cO kd e=some (k,ps)→ps.length=aL e
 | .mk op n s l,k,ps,hok,h=>by
  unfold cO at h
  unfold o9 at hok
  by_cases hn:op.data.toList=bS
  ·rw[if_pos hn] at h
   rw[if_pos hn] at hok
   obtain⟨_,_,_,⟨_,rfl⟩,_⟩:=hok
   cases hk:kd s.data.toList with
   | none=>rw[hk] at h;cases h
   | some x=>
    rw[hk] at h
    obtain⟨rfl,rfl⟩:x=k∧[x]=ps:=by simpa using h
    simp [aL,aC]
  ·rw[if_neg hn] at h
   cases hl:aR kd l with
   | none=>rw[hl] at h;cases h
   | some x=>
    rw[hl] at h
    simp only at h
    cases ho:oJ op.data.toList x.1 with
    | none=>rw[ho] at h;cases h
    | some y=>
     rw[ho] at h
     obtain⟨rfl,rfl⟩:y=k∧x.2++[y]=ps:=by simpa using h
     have:=wX kd l x.1 x.2 hok.2.2.2.2 hl
     simp [aL,this]
theorem wX(kd:List UInt8→Option Int):∀(l:List Ex) (ks ps:List Int),iV kd l→aR kd l=some (ks,ps)→ps.length=aC l
 | [],ks,ps,_,h=>by
  unfold aR at h
  obtain⟨_,rfl⟩:[]=ks∧[]=ps:=by simpa using h
  rfl
 | e::l,ks,ps,hok,h=>by
  unfold aR at h
  unfold iV at hok
  cases he:cO kd e with
  | none=>rw[he] at h;cases h
  | some x=>
   rw[he] at h
   simp only at h
   cases hl:aR kd l with
   | none=>rw[hl] at h;cases h
   | some y=>
    rw[hl] at h
    obtain⟨_,rfl⟩:x.1::y.1=ks∧x.2++y.2=ps:=by simpa using h
    have h1:=Dn kd e x.1 x.2 hok.1 he
    have h2:=wX kd l y.1 y.2 hok.2 hl
    simp [aC,h1,h2]
end
theorem Br{kd:List UInt8→Option Int}:∀{l:List Ex} {i:Nat},iV kd l→iV kd (l.take i)
 | [],i,_=>by simp [iV]
 | e::l,0,_=>by simp [iV]
 | e::l,i+1,h=>by
  unfold iV at h
  simp only[List.take_succ_cons]
  unfold iV
  exact⟨h.1,Br h.2⟩
theorem bT.stays{F F':Nat→Prop}{w w':World}(h:bT F F' w w'):aJ (fun b=>¬F b) (fun b=>¬F' b) w w':=fun b hb hl=>⟨fun hf=>by
 rcases h.more b hf with h1 | h1
 ·exact hb h1
 ·omega,h.block b hl hb⟩
def Cz(X:Nat→Prop)(cb:Nat)(kd:List UInt8→Option Int)(ps:List Int)(x:Option (Int×List Int))(F:Nat→Prop)(w:World)(e:Ending)(w':World):Prop:=
 (∃k qs F',x=some (k,qs)∧e=.returned (.int .i64 k)∧fQ X cb kd (ps++qs) F' w'∧bT F F' w w')∨(x=none∧pM e∧∃F',bT F F' w w')
def Cy(X:Nat→Prop)(cb:Nat)(kd:List UInt8→Option Int)(ps:List Int)(x:Option (Int×List Int))(F:Nat→Prop)(w:World)(e:Ending)(w':World):Prop:=
 (∃k qs F' V,x=some (k,qs)∧e=.returned (.slice (some ⟨V,0,none⟩) 1 1)∧w'.heap[V]?=some (.cells #[.int .i64 k] 3 (0,0))∧¬F' V∧fQ X cb kd (ps++qs) F' w'∧bT F F' w w')∨(x=none∧pM e∧∃F',bT F F' w w')
def Aq(kd:List UInt8→Option Int)(op:ByteArray)(n:Int)(s:ByteArray)(l:List Ex):Prop:=
 o9 kd (.mk op n s l)→∀(X:Nat→Prop) (cb:Nat) (ps:List Int) (F:Nat→Prop) (w:World) (o:Option Addr) (c:Nat) (ys:List Value),fQ X cb kd ps F w→ps.length+aL (.mk op n s l)≤1000000→aB w (fun b=>¬F b) 4 (.slice o l.length c) l.length ys→aQ w (fun b=>¬F b) l ys →
  Calls Tryz.prog 173 #[.pointer (some ⟨cb,0,none⟩),.agg #[.string op,.int .i64 n,.string s,.slice o l.length c]] w (Cz X cb kd ps (cO kd (.mk op n s l)) F w)
def Ic(kd:List UInt8→Option Int)(op:ByteArray)(n:Int)(s:ByteArray)(l:List Ex):Prop:=
 o9 kd (.mk op n s l)→∀(X:Nat→Prop) (cb:Nat) (ps:List Int) (F:Nat→Prop) (w:World) (o:Option Addr) (c:Nat) (ys:List Value),fQ X cb kd ps F w→ps.length+aL (.mk op n s l)≤1000000→aB w (fun b=>¬F b) 4 (.slice o l.length c) l.length ys→aQ w (fun b=>¬F b) l ys →
  Calls Tryz.prog 185 #[.pointer (some ⟨cb,0,none⟩),.agg #[.string op,.int .i64 n,.string s,.slice o l.length c]] w (Cy X cb kd ps (mG kd op s l) F w)
theorem I9(kd:List UInt8→Option Int)(op:ByteArray)(n:Int)(s:ByteArray)(l:List Ex)(IH:∀op' n' s' l',SizeOf.sizeOf l'<SizeOf.sizeOf l→Aq kd op' n' s' l'):Ic kd op n s l:=by
 intro hok X cb ps F w o c ys hck hsz hrow hex
 have hok':=hok
 unfold o9 at hok
 obtain⟨hso,hss,hnc,hsig,hol⟩:=hok
 have hb1:Bw w (w.alloc (.cells #[.string op,.int .i64 n,.string s,.slice o l.length c] 92)):=aH
 obtain⟨w1,hw1⟩:∃w1,w1=w.alloc (.cells #[.string op,.int .i64 n,.string s,.slice o l.length c] 92):=⟨_,rfl⟩
 have hr1:w1.heap[w.heap.size]?=some (.cells #[.string op,.int .i64 n,.string s,.slice o l.length c] 92 (0,0)):=by rw[hw1];exact heap_alloc_new _ _
 rw[←hw1] at hb1
 have c0:w1.cell? ⟨w.heap.size,0,none⟩=some (.string op):=cr hr1 rfl
 have c1:w1.cell? ⟨w.heap.size,0+1,none⟩=some (.int .i64 n):=cr hr1 rfl
 have c2:w1.cell? ⟨w.heap.size,0+2,none⟩=some (.string s):=cr hr1 rfl
 have c3:w1.cell? ⟨w.heap.size,0+3,none⟩=some (.slice o l.length c):=cr hr1 rfl
 have HW1:Hid (w.alloc (.cells #[.string op,.int .i64 n,.string s,.slice o l.length c] 92)=w1):=hw1.symm
 have HR1:=aA hr1
 have HB1:=aA hb1
 have HCK1:Hid (fQ X cb kd ps F w1):=hck.below hb1
 have HF:Hid (∀k,F k→k<w.heap.size):=hck.lt
 have HLB:Hid (∀k,X k→k<w.heap.size):=hck.base
 by_cases hn:op.data.toList=bS
 ·rw[if_pos hn] at hsig
  obtain⟨⟨k,hk⟩,rfl⟩:=hsig
  have hV:mG kd op s []=some (k,[]):=by unfold mG;rw[if_pos hn,hk];rfl
  have HNM:Hid (Calls Tryz.prog 187 #[.pointer (some ⟨cb,0,none⟩),.string s] w1 fun e w'=>e=.returned (.int .i64 k)∧w'=w1):=Ny HCK1.out s hss k hk
  have dn:(op.toList==[110,97,109,101])=true:=by rw[ByteArray.toList_eq,hn];rfl
  have HV:=aA hV
  have HL0:Hid (w.alloc (.cells #[.string op,.int .i64 n,.string s,.slice o 0 c] 92)=w1):=HW1.out
  clear hck hsz hrow hex hok' hso hss hnc hol hb1 hw1 hr1 hn hk hV IH c0 c1 c2 c3
  go_enter Tryz.func185,Tryz.ntmps185
  go_wp2_with fail
  rw[HL0.out]
  refine HNM.out.mono ?_
  rintro e w2 ⟨rfl,rfl⟩
  go_wp2
  go_ret
  have hb2:Bw w2 (w2.alloc (.cells #[.int .i64 k] 3)):=aH
  refine .inl ⟨k,[],F,w2.heap.size,HV.out,rfl,heap_alloc_new _ _,fun hf=>?_,by rw[List.append_nil];exact HCK1.out.below hb2,bT.of_below (HB1.out.trans (hb2.mono HB1.out.size))⟩
  have:=HF.out _ hf
  have:=HB1.out.size
  omega
 ·rw[if_neg hn] at hsig
  obtain⟨tk,gv,hsr,hll⟩:=hsig
  have dn:(op.toList==[110,97,109,101])=false:=by rw[ByteArray.toList_eq];exact beq_eq_false_iff_ne.2 hn
  obtain⟨i0,hi0,hz0,hz1,hz2⟩:=info_parts Tryz.kT
  have HSG:Hid (Calls Tryz.prog 188 #[.pointer (some ⟨cb,0,none⟩),.agg #[.string op,.int .i64 n,.string s,.slice o l.length c]] w1 fun e w'=>Bw w1 w'∧∃o1 c1 o2 c2,e=.returned (.agg #[.slice o1 tk.length c1,.slice o2 gv.length c2])∧(∀W:World,(∀k,X k→¬F k→W.heap[k]?=w1.heap[k]?)→dP W (.slice o1 tk.length c1) tk∧dP W (.slice o2 gv.length c2) gv)∧tk.length≤10∧gv.length=1):=PW HCK1.out op s n _ hso hnc tk gv hsr
  have HLL:=aA hll
  have HSZ:=aA hsz
  have HOL:=aA hol
  have HROW:=aA hrow
  have HEX:=aA hex
  have HN:=aA hn
  have HSR:=aA hsr
  have HIH:Hid (∀op' n' s' l',SizeOf.sizeOf l'<SizeOf.sizeOf l→Aq kd op' n' s' l'):=IH
  clear hck hsz hrow hex hok' hso hss hnc hol hb1 hw1 hr1 hn hsr hll IH c0 c1 c2 c3
  go_enter Tryz.func185,Tryz.ntmps185
  go_wp2_with fail
  rw[HW1.out]
  refine HSG.out.mono ?_
  rintro e w2 ⟨hb2,o1,k1,o2,k2,rfl,i1,l1,l2⟩
  obtain⟨w3,hw3⟩:∃w3,w3=w2.alloc (.cells #[.slice o1 tk.length k1,.slice o2 gv.length k2] 206):=⟨_,rfl⟩
  have hb3:Bw w2 w3:=by rw[hw3];exact aH
  have hr3:w3.heap[w2.heap.size]?=some (.cells #[.slice o1 tk.length k1,.slice o2 gv.length k2] 206 (0,0)):=by rw[hw3];exact heap_alloc_new _ _
  have hb13:Bw w1 w3:=hb2.trans (hb3.mono hb2.size)
  have HB13:=aA hb13
  have HR3:=aA hr3
  have HE3:Hid (w3.heap[w.heap.size]?=some (.cells #[.string op,.int .i64 n,.string s,.slice o l.length c] 92 (0,0))):=aN hb13 HR1.out
  have HII:Hid (∀W:World,(∀k,X k→¬F k→W.heap[k]?=w1.heap[k]?)→dP W (.slice o1 tk.length k1) tk∧dP W (.slice o2 gv.length k2) gv):=i1
  have HLN:Hid (tk.length≤10∧gv.length=1):=⟨l1,l2⟩
  have HW3:Hid (w2.alloc (.cells #[.slice o1 tk.length k1,.slice o2 gv.length k2] 206)=w3):=hw3.symm
  have c3:w3.cell? ⟨w.heap.size,0+3,none⟩=some (.slice o l.length c):=cr HE3.out rfl
  have HBY:Hid (i0.bytes*l.length≤281474976710656):=by have:=HLL.out;unfold Hid;rw[hz2];omega
  have HMX:Hid (l.length≤maxLen):=by have:=HLL.out;unfold Hid maxLen;omega
  have HCK3:Hid (fQ X cb kd ps F w3):=HCK1.out.below hb13
  have HS3:Hid (w.heap.size<w3.heap.size∧w2.heap.size<w3.heap.size):=⟨(bN HE3.out).1,(bN HR3.out).1⟩
  have HS12:Hid (w.heap.size≤w1.heap.size∧w1.heap.size≤w2.heap.size):=⟨HB1.out.size,hb2.size⟩
  clear hb2 i1 l1 l2 hw3 hb3 hr3 hb13
  go_upto_region 4 with fail
  rw[HW3.out]
  go_wp2_with (at_make;refine wpList_make_full _ rfl _ _ 30 rfl 0 3 i0 _ 1 Tryz.underlying30 hi0 hz0 hz1 .i64 .i64 _ _ l.length rfl rfl (by simp) (by simp) HBY.out HMX.out (Nat.zero_le _) ?_;intro w4 hown4 hgr4;have HV4:Hid (w4.heap[w3.heap.size]?=some (.cells (kN (rowP [] l.length)) 3 (0,0))):=Fh hown4;have HB4:Hid (Bw w3 w4):=⟨hgr4.os,hgr4.tape,hgr4.output,hgr4.size,fun k hk=>hgr4.block k hk (by simp)⟩;have c4:=aD HB4.out c3;clear hown4 hgr4)
  have HM3:Hid (bT F F w w3):=bT.of_below (HB1.out.trans (HB13.out.mono HB1.out.size))
  have HF4:Hid (¬F w3.heap.size∧¬F w2.heap.size∧¬F w.heap.size):=⟨fun hf=>by have:=HF.out _ hf;have:=HS3.out;omega,fun hf=>by have:=HF.out _ hf;have:=HS12.out;omega,fun hf=>by have:=HF.out _ hf;omega⟩
  clear c3 c4
  go_loopw [27] (fun t wr=>∃(j:Nat) (Fj:Nat→Prop) (ks qs:List Int),j≤l.length∧t=.int .i64 j∧Hid (aR kd (l.take j)=some (ks,qs)∧fQ X cb kd (ps++qs) Fj wr∧bT F Fj w3 wr∧wr.heap[w3.heap.size]?=some (.cells (kN (rowP ks l.length)) 3 (0,0))∧¬Fj w3.heap.size)) (fun t _=>l.length-(intOf t).toNat)
  case atStart=>exact⟨0,F,[],[],Nat.zero_le _,rfl,⟨by simp [aR],by rw[List.append_nil];exact HCK3.out.below HB4.out,bT.of_below HB4.out,HV4.out,HF4.out.1⟩⟩
  case round=>
   obtain⟨j,Fj,ks,qs,hj,rfl,HJR⟩:=hrel
   have HMJ:Hid (bT F Fj w wr):=HM3.out.trans HJR.out.2.2.1
   have HFJ:Hid (¬Fj w3.heap.size∧¬Fj w2.heap.size∧¬Fj w.heap.size):=by
    have h3:=HS3.out
    have key:∀k,k<w3.heap.size→¬F k→¬Fj k:=fun k hk hn hf=>by
     rcases HJR.out.2.2.1.more k hf with h1 | h1
     ·exact hn h1
     ·omega
    exact⟨HJR.out.2.2.2.2,key _ h3.2 HF4.out.2.1,key _ h3.1 HF4.out.2.2⟩
   by_cases hjl:j<l.length
   ·obtain⟨op',n',s',es,oo,cc,zs,e,x0,x1,x2,x3,r1,r2⟩:=HEX.out.at hjl
    obtain⟨p,f,cp,ev,hpF,_,g⟩:=HROW.out.at (by have:=HROW.out.1;omega)
    obtain⟨rfl,rfl⟩:o=some ⟨p,f,none⟩∧c=cp:=by simpa using ev
    have y0:=(HMJ.out.cell (g _ _ x0) hpF).1
    have y1:=(HMJ.out.cell (g _ _ x1) hpF).1
    have y2:=(HMJ.out.cell (g _ _ x2) hpF).1
    have y3:=(HMJ.out.cell (g _ _ x3) hpF).1
    rw[←Nat.add_assoc] at y1 y2 y3
    have i0':(0:Int)≤(j:Int):=by omega
    have i1':(j:Int)<(l.length:Int):=by omega
    have ej:l[j]?=some (.mk op' n' s' es):=by rw[List.getElem?_eq_getElem hjl,e]
    have hb5:Bw wr (wr.alloc (.cells #[.string op',.int .i64 n',.string s',.slice oo es.length cc] 92)):=aH
    obtain⟨w5,hw5⟩:∃w5,w5=wr.alloc (.cells #[.string op',.int .i64 n',.string s',.slice oo es.length cc] 92):=⟨_,rfl⟩
    rw[←hw5] at hb5
    have hm5:bT F Fj w w5:=HMJ.out.trans (bT.of_below hb5)
    have hs1:=wX kd (l.take j) ks qs (Br HOL.out) HJR.out.1
    have hs2:=vF l j _ ej
    have hs3:=vG l (j+1)
    have hIH:=HIH.out op' n' s' es (qV hjl e) (Bt HOL.out ej) X cb (ps++qs) Fj w5 oo cc zs (HJR.out.2.1.below hb5) (by have:=HSZ.out;simp only[aL] at this hs2 ⊢;rw[List.length_append];omega) (r1.keep hm5.stays) (r2.keep hm5.stays)
    have HIH5:=aA hIH
    have HW5:Hid (wr.alloc (.cells #[.string op',.int .i64 n',.string s',.slice oo es.length cc] 92)=w5):=hw5.symm
    have HB5:=aA hb5
    have HTK:=AX ej HJR.out.1
    have HTL:Hid (aR kd (l.take (j+1))=(cO kd (.mk op' n' s' es)).map fun x=>(ks++[x.1],qs++x.2)):=HTK
    have HKL:Hid (ks.length=j):=by have:=pX HJR.out.1;unfold Hid;rw[this,List.length_take];omega
    have HJ:=aA hjl
    have N4:Hid (wrap64 ((j:Int)+1)=(j:Int)+1):=by have:=HLL.out;have:=HLN.out.1;unfold Hid wrap64;omega
    clear x0 x1 x2 x3 r1 r2 g ev e ej hb5 hw5 hm5 hs1 hs2 hs3 hIH HTK hj hjl hpF
    go_wp2_with fail
    rw[HW5.out]
    refine HIH5.out.mono ?_
    rintro e w6 (⟨k,rs,F6,hty,rfl,hck6,hm6⟩ | ⟨hty,hth,F6,hm6⟩)
    ·have hV5:w5.heap[w3.heap.size]?=some (.cells (kN (rowP ks l.length)) 3 (0,0)):=aN HB5.out HJR.out.2.2.2.1
     obtain⟨hV6,hF6⟩:=hm6.nC hV5 HFJ.out.1
     have hkl:=HKL.out
     have q0:w6.cell? ⟨w3.heap.size,j,none⟩=some (.int .i64 0):=by have h:=D6 hV6 (by have:=HJ.out;omega);rw[hkl] at h;exact h
     have qf:w6.frozen? ⟨w3.heap.size,j,none⟩=false:=bR hV6
     have hst:=D5 hV6 (by have:=HJ.out;omega) k
     rw[hkl] at hst
     have HST:Hid ((w6.setCell ⟨w3.heap.size,j,none⟩ (.int .i64 k)).heap[w3.heap.size]?=some (.cells (kN (rowP (ks++[k]) l.length)) 3 (0,0))):=hst
     have HCK6:Hid (fQ X cb kd (ps++qs++rs) F6 (w6.setCell ⟨w3.heap.size,j,none⟩ (.int .i64 k))):=hck6.set hF6 (fun hx=>by have:=HLB.out _ hx;have:=HS3.out;omega) _
     have HM6:Hid (bT F F6 w3 (w6.setCell ⟨w3.heap.size,j,none⟩ (.int .i64 k))∧¬F6 w3.heap.size):=⟨((HJR.out.2.2.1.trans (bT.of_below HB5.out)).trans hm6).set (Nat.le_refl _) _,hF6⟩
     have HTY:=aA hty
     clear hV5 hV6 hF6 hkl hst hck6 hm6 hty y0 y1 y2 y3
     go_wp2
     refine⟨⟨j+1,F6,ks++[k],qs++rs,HJ.out,by rw[N4.out];rfl,⟨?_,by rw[←List.append_assoc];exact HCK6.out,HM6.out.1,HST.out,HM6.out.2⟩⟩,by rw[N4.out];have:=HJ.out;simp [intOf];omega⟩
     rw[HTL.out,HTY.out]
     rfl
    ·unfold pM at hth
     subst hth
     have HN0:Hid (mG kd op s l=none):=by
      have h:=HTL.out
      rw[hty] at h
      unfold Hid mG
      rw[if_neg HN.out,AZ h]
     have HM6:Hid (bT F F6 w w6):=(HMJ.out.trans (bT.of_below HB5.out)).trans hm6
     exact⟨rfl,.inr ⟨HN0.out,rfl,F6,HM6.out⟩⟩
   ·obtain rfl:j=l.length:=by omega
    obtain⟨hty,hckj,hmj,hrv,hfv⟩:=HJR.out
    rw[List.take_length] at hty
    have hkl:ks.length=l.length:=pX hty
    have hII:=HII.out wr (fun k hk hn=>by
     have h1:=HLB.out k hk
     have h2:=HS12.out
     have h3:=HB13.out.size
     rw[hmj.block k (by omega) hn]
     exact HB13.out.block k (by omega))
    have hr2:wr.heap[w2.heap.size]?=some (.cells #[.slice o1 tk.length k1,.slice o2 gv.length k2] 206 (0,0)):=(hmj.nC HR3.out HF4.out.2.1).1
    have d0:wr.cell? ⟨w2.heap.size,0,none⟩=some (.slice o1 tk.length k1):=cr hr2 rfl
    have d1:wr.cell? ⟨w2.heap.size,0+1,none⟩=some (.slice o2 gv.length k2):=cr hr2 rfl
    rw[D7 hkl] at hrv
    have hap:=QK wr o1 o2 (some ⟨w3.heap.size,0,none⟩) k1 k2 l.length tk gv ks hII.1 hII.2 (by have h:=cZ (c:=l.length) hrv (by rw[hkl];exact HMX.out);rw[hkl,HLL.out] at h;rw[HLL.out];exact h) (by rw[hkl,HLL.out]) HLN.out.1 (by rw[HLN.out.2];omega)
    rw[←HLL.out] at hap d0
    have HAP:=aA hap
    have HOK:Hid (oJ op.data.toList ks=(iX tk ks 0).map fun f=>(lY gv f).headD 0):=by unfold Hid oJ;rw[HSR.out]
    have HTV:Hid (mG kd op s l=(oJ op.data.toList ks).map fun k=>(k,qs)):=by unfold Hid mG;rw[if_neg HN.out,hty]
    have HCJ:=aA hckj
    clear hty hckj hmj hrv hfv hkl hII hr2 hap hj hjl
    go_wp2_with fail
    refine HAP.out.mono ?_
    rintro e w6 ⟨hb6,⟨f,V,hf,rfl,hV,hVn⟩ | ⟨hf,hth⟩⟩
    ·obtain⟨g0,hg0⟩:∃g0,lY gv f=[g0]:=by
      have hl1:(lY gv f).length=1:=by unfold lY;rw[List.length_map];exact HLN.out.2
      match hgg:lY gv f,hl1 with
      | [x],_=>exact⟨x,rfl⟩
     have hres:mG kd op s l=some (g0,qs):=by rw[HTV.out,HOK.out,hf,Option.map_some,hg0];rfl
     rw[hg0] at hV
     rw[HLN.out.2]
     have HEND:Hid (Cy X cb kd ps (mG kd op s l) F w (.returned (.slice (some ⟨V,0,none⟩) 1 1)) w6):=.inl ⟨g0,qs,Fj,V,hres,rfl,hV,fun hfv=>by have:=HCJ.out.lt V hfv;omega,HCJ.out.below hb6,HMJ.out.trans (bT.of_below hb6)⟩
     clear hb6 hf hV hVn hg0 hres d0 d1
     go_wp2
     go_ret
     exact HEND.out
    ·unfold pM at hth
     subst hth
     have hres:mG kd op s l=none:=by rw[HTV.out,HOK.out,hf];rfl
     exact⟨rfl,.inr ⟨hres,rfl,Fj,HMJ.out.trans (bT.of_below hb6)⟩⟩
end Go.Proofs.YtmgfakcccfahaaaGreatDoor
