/-
  FROM A ROW's LIST OF VARIABLES TO WHAT THE WALKS ASK: each sentinel's cell, its text, its row; errorType's cell; no two sentinels are one pointer (their texts differ).
-/
import Derived.Test.YtmgfakcccfahaaaGreatDoorRows
import Derived.LaidLaws
import Derived.LaidHandle
import Derived.Stop.LaidErr
import Derived.Test.YtmgfakcccfahaaaGreatDoorN43
namespace Go.Proofs.YtmgfakcccfahaaaGreatDoor
open Go.RowKit Go.ChangeShapes
theorem IC{P:Program}{n nm:String}{text:List UInt8}{W:World}{g:Nat}{ti tp te ts:TypeId}{ms:Array (String×TypeId)}{f:Field}:∀{l:List (String×DataW Unit)},
  laidMet P l W→(n,.iface nm (.ptr (.agg [.lit (.string text)])))∈l →
  P.globalNamed n=some g→(P.globals[g]?).map (·.type)=some ti→P.underlying ti=some (.interface ms)→(∀u,P.typeName? 3 u=some nm→u=tp) →
  P.underlying tp=some (.pointer te)→P.underlying te=some (.struct #[f])→f.type=ts→f.offset=0→P.underlying ts=some .string→P.cellsOf te=1→P.cellsOf ts=1 →
  ∃(a:Addr) (s:ByteArray) (c:Array Value) (t:TypeId),W.cell? ⟨g,0,none⟩=some (.iface tp (.pointer (some a)))∧W.cell? a=some (.string s)∧s.data.toList=text∧W.heap[a.block]?=some (.cells c t (0,0)):=by
 intro l
 induction l with
 | nil=>intro _ hm;cases hm
 | cons x r ih=>
  intro h hm hg ht hi hrow hp he hft hfo hs hc hcs
  rcases List.mem_cons.1 hm with rfl | hm
  ·obtain⟨ps,⟨g0,t0,cs0,f0,p0,q0,hg0,ht0,hv0,hd0,_,e0⟩,_,hrows⟩:=h
   obtain rfl:=Option.some.inj (hg.symm.trans hg0)
   obtain rfl:=Option.some.inj (ht.symm.trans ht0)
   subst e0
   obtain⟨l0⟩:=cs0
   have ok0:∀u v,l0=[.iface u v]→Value.okWide P W .any 0 u v:=fun u v e=>by
    subst e
    exact(hrows g 0 (by simp [MemPlace.row])).2 u v (by simpa using World.var?_cell hg0 hv0 0)
   obtain⟨a0,s0,rfl,hc0,hs0,_,rfl⟩:=errorString_of_trod hi hrow hp he hft hfo hs hc hcs hd0 ok0
   obtain⟨c0,t0,hb0⟩:=(hrows a0.block a0.off (by simp [MemPlace.row])).1
   exact⟨a0,s0,c0,t0,by simpa using World.var?_cell hg0 hv0 0,hc0,hs0,hb0⟩
  ·exact ih h.tail hm hg ht hi hrow hp he hft hfo hs hc hcs

theorem Tryz.own:ownKnob Tryz.prog.godebug=none:=by kernel_rfl
theorem Tryz.Od:Tryz.prog.cellsOf 9=1:=by kernel_rfl
theorem Tryz.Og:Tryz.prog.cellsOf 311=1:=by kernel_rfl
theorem Tryz.MZ:Tryz.prog.globalNamed "errors.errorType"=some 9:=by kernel_rfl
theorem Tryz.rt:(Tryz.prog.cutTypes.find? (·.1== "internal/reflectlite.rtype")).map (·.2)=some 260:=by kernel_rfl
theorem Tryz.Kj:((List.range 323).filter fun t=>Tryz.prog.rowNamed t [101,114,114,111,114])=[32]:=by kernel_rfl
theorem Tryz.Gl:Tryz.prog.types.size=323:=by kernel_rfl
theorem Tryz.star: "*errors.errorString"= "*"++ "errors.errorString":=by decide
theorem Tryz.NH(u:TypeId)(h:Tryz.prog.typeName? 3 u=some "*errors.errorString"):u=289:=
 typeName_ptr_named (nm:= "errors.errorString") (by rw[←Tryz.star];kernel_rfl) (by kernel_rfl) (by decide) u (by rw[←Tryz.star];exact h)
theorem Tryz.handle{l:List (String×DataW Unit)}{W:World}(h:handlesMet Tryz.prog l W)(hm:("errors.errorType",.iface "internal/reflectlite.rtype" (.agg [.ptr (.lit (.string [101,114,114,111,114]))]))∈l) :
  W.cell? ⟨9,0,none⟩=some (.iface 260 (.agg #[.pointer (some ⟨10,32,none⟩)])):=by
 obtain⟨name,u,ty,e1,e2,e3,e4,e5⟩:=h _ hm
 have en:name=[101,114,114,111,114]:=(Option.some.inj e1).symm
 subst en
 obtain rfl:=Option.some.inj (Tryz.rt.symm.trans e2)
 have hm:ty∈(List.range 323).filter fun t=>Tryz.prog.rowNamed t [101,114,114,111,114]:=List.mem_filter.2 ⟨List.mem_range.2 (by rw[←Tryz.Gl];exact e3),e4⟩
 rw[Tryz.Kj] at hm
 obtain rfl:=List.mem_singleton.1 hm
 have hh:typeHandle Tryz.prog 32=.pointer (some ⟨10,32,none⟩):=by kernel_rfl
 rw[hh] at e5
 simpa using World.var?_cell Tryz.MZ e5 0
theorem Tryz.sent{l:List (String×DataW Unit)}{n:String}{text:List UInt8}{W:World}{g:Nat}(h:laidMet Tryz.prog l W)(hm:(n,.iface "*errors.errorString" (.ptr (.agg [.lit (.string text)])))∈l)(hg:Tryz.prog.globalNamed n=some g)(ht:(Tryz.prog.globals[g]?).map (·.type)=some 32) :
  ∃(a:Addr) (s:ByteArray) (c:Array Value) (t:TypeId),W.cell? ⟨g,0,none⟩=some (.iface 289 (.pointer (some a)))∧W.cell? a=some (.string s)∧s.data.toList=text∧W.heap[a.block]?=some (.cells c t (0,0)):=
 IC h hm hg ht Tryz.underlying32 Tryz.NH Tryz.underlying289 Tryz.underlying311 rfl rfl Tryz.underlying9 Tryz.Og Tryz.Od

theorem nI{s:ByteArray}{l:List UInt8}(h:s.data.toList=l):s=⟨l.toArray⟩:=by
 cases s with
 | mk d=>cases d with
  | mk m=>simp at h;subst h;rfl
theorem Tryz.M5:Tryz.prog.globalNamed "lustrum/api.ErrText"=some 5:=by kernel_rfl
theorem Tryz.GJ:(Tryz.prog.globals[(5:Nat)]?).map (·.type)=some 32:=by kernel_rfl
theorem Tryz.Nc:Tryz.prog.globalNamed "lustrum/api.ErrBound"=some 2:=by kernel_rfl
theorem Tryz.GX:(Tryz.prog.globals[(2:Nat)]?).map (·.type)=some 32:=by kernel_rfl
theorem Tryz.M6:Tryz.prog.globalNamed "lustrum/api.ErrShape"=some 4:=by kernel_rfl
theorem Tryz.GK:(Tryz.prog.globals[(4:Nat)]?).map (·.type)=some 32:=by kernel_rfl
theorem Tryz.M9:Tryz.prog.globalNamed "lustrum/api.ErrName"=some 6:=by kernel_rfl
theorem Tryz.GQ:(Tryz.prog.globals[(6:Nat)]?).map (·.type)=some 32:=by kernel_rfl
theorem Tryz.M0:Tryz.prog.globalNamed "lustrum/api.ErrType"=some 3:=by kernel_rfl
theorem Tryz.GI:(Tryz.prog.globals[(3:Nat)]?).map (·.type)=some 32:=by kernel_rfl
theorem Tryz.Nb:Tryz.prog.globalNamed "lustrum/api.ErrCycle"=some 0:=by kernel_rfl
theorem Tryz.GV:(Tryz.prog.globals[(0:Nat)]?).map (·.type)=some 32:=by kernel_rfl
theorem Tryz.Na:Tryz.prog.globalNamed "lustrum/api.ErrFirst"=some 1:=by kernel_rfl
theorem Tryz.GU:(Tryz.prog.globals[(1:Nat)]?).map (·.type)=some 32:=by kernel_rfl
theorem Tryz.M7:Tryz.prog.globalNamed "lustrum/api.ErrProof"=some 7:=by kernel_rfl
theorem Tryz.GL:(Tryz.prog.globals[(7:Nat)]?).map (·.type)=some 32:=by kernel_rfl
theorem Tryz.M8:Tryz.prog.globalNamed "lustrum/api.ErrNone"=some 8:=by kernel_rfl
theorem Tryz.GN:(Tryz.prog.globals[(8:Nat)]?).map (·.type)=some 32:=by kernel_rfl

def BJ(a0 a1 a2 a3 a4 a5 a6 a7 a8:Addr):Nat→Addr
 | 0=>a0 | 1=>a1 | 2=>a2 | 3=>a3 | 4=>a4 | 5=>a5 | 6=>a6 | 7=>a7 | _=>a8
theorem Hf(j k:Nat)(hj:j<9)(hk:k<9)(h:short j=short k):j=k:=by
 have hall:((List.range 9).all fun j=>(List.range 9).all fun k=>!((short j).data.toList==(short k).data.toList)||j==k)=true:=by decide
 have h1:=List.all_eq_true.1 (List.all_eq_true.1 hall j (List.mem_range.2 hj)) k (List.mem_range.2 hk)
 rw[h] at h1
 simpa using h1

theorem IA{l hs:List (String×DataW Unit)}{W:World}(h:laidMet Tryz.prog l W)(hh:handlesMet Tryz.prog hs W)
  (hm:("errors.errorType",.iface "internal/reflectlite.rtype" (.agg [.ptr (.lit (.string [101,114,114,111,114]))]))∈hs)
  (hl:∀x∈[("lustrum/api.ErrText",Rows.laid_lustrum_api_ErrText),("lustrum/api.ErrBound",Rows.laid_lustrum_api_ErrBound),("lustrum/api.ErrShape",Rows.laid_lustrum_api_ErrShape),("lustrum/api.ErrName",Rows.laid_lustrum_api_ErrName),("lustrum/api.ErrType",Rows.laid_lustrum_api_ErrType),("lustrum/api.ErrCycle",Rows.laid_lustrum_api_ErrCycle),("lustrum/api.ErrFirst",Rows.laid_lustrum_api_ErrFirst),("lustrum/api.ErrProof",Rows.laid_lustrum_api_ErrProof),("lustrum/api.ErrNone",Rows.laid_lustrum_api_ErrNone)],x∈l) :
  ∃a:Nat→Addr,jC a W∧∀k,k<9→W.cell? (a k)=some (.string (⟨#[108,117,115,116,114,117,109,58,32]⟩++short k)):=by
 obtain⟨a0,s0,c0,t0,v0,p0,x0,r0⟩:=Tryz.sent h (hl ("lustrum/api.ErrText",Rows.laid_lustrum_api_ErrText) (by simp)) Tryz.M5 Tryz.GJ
 obtain⟨a1,s1,c1,t1,v1,p1,x1,r1⟩:=Tryz.sent h (hl ("lustrum/api.ErrBound",Rows.laid_lustrum_api_ErrBound) (by simp)) Tryz.Nc Tryz.GX
 obtain⟨a2,s2,c2,t2,v2,p2,x2,r2⟩:=Tryz.sent h (hl ("lustrum/api.ErrShape",Rows.laid_lustrum_api_ErrShape) (by simp)) Tryz.M6 Tryz.GK
 obtain⟨a3,s3,c3,t3,v3,p3,x3,r3⟩:=Tryz.sent h (hl ("lustrum/api.ErrName",Rows.laid_lustrum_api_ErrName) (by simp)) Tryz.M9 Tryz.GQ
 obtain⟨a4,s4,c4,t4,v4,p4,x4,r4⟩:=Tryz.sent h (hl ("lustrum/api.ErrType",Rows.laid_lustrum_api_ErrType) (by simp)) Tryz.M0 Tryz.GI
 obtain⟨a5,s5,c5,t5,v5,p5,x5,r5⟩:=Tryz.sent h (hl ("lustrum/api.ErrCycle",Rows.laid_lustrum_api_ErrCycle) (by simp)) Tryz.Nb Tryz.GV
 obtain⟨a6,s6,c6,t6,v6,p6,x6,r6⟩:=Tryz.sent h (hl ("lustrum/api.ErrFirst",Rows.laid_lustrum_api_ErrFirst) (by simp)) Tryz.Na Tryz.GU
 obtain⟨a7,s7,c7,t7,v7,p7,x7,r7⟩:=Tryz.sent h (hl ("lustrum/api.ErrProof",Rows.laid_lustrum_api_ErrProof) (by simp)) Tryz.M7 Tryz.GL
 obtain⟨a8,s8,c8,t8,v8,p8,x8,r8⟩:=Tryz.sent h (hl ("lustrum/api.ErrNone",Rows.laid_lustrum_api_ErrNone) (by simp)) Tryz.M8 Tryz.GN
 have hT:∀k,k<9→W.cell? (BJ a0 a1 a2 a3 a4 a5 a6 a7 a8 k)=some (.string (⟨#[108,117,115,116,114,117,109,58,32]⟩++short k)):=by
  intro k hk
  rcases k with _ | _ | _ | _ | _ | _ | _ | _ | _ | k
  ·refine p0.trans ?_;rw[nI x0];exact congrArg (fun b=>some (Value.string b)) (ByteArray.ext (by decide))
  ·refine p1.trans ?_;rw[nI x1];exact congrArg (fun b=>some (Value.string b)) (ByteArray.ext (by decide))
  ·refine p2.trans ?_;rw[nI x2];exact congrArg (fun b=>some (Value.string b)) (ByteArray.ext (by decide))
  ·refine p3.trans ?_;rw[nI x3];exact congrArg (fun b=>some (Value.string b)) (ByteArray.ext (by decide))
  ·refine p4.trans ?_;rw[nI x4];exact congrArg (fun b=>some (Value.string b)) (ByteArray.ext (by decide))
  ·refine p5.trans ?_;rw[nI x5];exact congrArg (fun b=>some (Value.string b)) (ByteArray.ext (by decide))
  ·refine p6.trans ?_;rw[nI x6];exact congrArg (fun b=>some (Value.string b)) (ByteArray.ext (by decide))
  ·refine p7.trans ?_;rw[nI x7];exact congrArg (fun b=>some (Value.string b)) (ByteArray.ext (by decide))
  ·refine p8.trans ?_;rw[nI x8];exact congrArg (fun b=>some (Value.string b)) (ByteArray.ext (by decide))
  ·omega
 refine⟨BJ a0 a1 a2 a3 a4 a5 a6 a7 a8,⟨v0,v1,v2,v3,v4,v5,v6,v7,v8,Tryz.handle hh hm,?_,?_⟩,hT⟩
 ·intro k hk
  rcases k with _ | _ | _ | _ | _ | _ | _ | _ | _ | k
  ·exact⟨c0,t0,r0⟩
  ·exact⟨c1,t1,r1⟩
  ·exact⟨c2,t2,r2⟩
  ·exact⟨c3,t3,r3⟩
  ·exact⟨c4,t4,r4⟩
  ·exact⟨c5,t5,r5⟩
  ·exact⟨c6,t6,r6⟩
  ·exact⟨c7,t7,r7⟩
  ·exact⟨c8,t8,r8⟩
  ·omega
 ·intro j k hj hk hne he
  have h1:=hT j hj
  rw[he,hT k hk] at h1
  exact hne (Hf j k hj hk (by simpa using h1.symm))
end Go.Proofs.YtmgfakcccfahaaaGreatDoor
namespace Go.Proofs.YtmgfakcccfahaaaGreatDoor
open Go.RowKit
def j5(g:Nat→Nat→Bool)(k:Nat):Nat→Nat→Bool:=fun i j=>g i j||(g i k&&g k j)
def fZ(g:Nat→Nat→Bool):Nat→Nat→Nat→Bool
 | 0=>g
 | k+1=>j5 (fZ g k) k
theorem FH(g:Nat→Nat→Bool)(k j:Nat):j5 g k k j=g k j:=by unfold j5;cases g k j<;>simp
theorem wX(g:Nat→Nat→Bool):∀(K i j:Nat),g i j=true→fZ g K i j=true
 | 0,_,_,h=>h
 | K+1,i,j,h=>by unfold fZ j5;rw[wX g K i j h,Bool.true_or]
theorem Ao(g:Nat→Nat→Bool):∀(K k i j:Nat),k<K→fZ g K i k=true→fZ g K k j=true→fZ g K i j=true
 | 0,k,_,_,h,_,_=>absurd h (Nat.not_lt_zero _)
 | K+1,k,i,j,h,h1,h2=>by
  have ih:=Ao g K
  unfold fZ j5 at h1 h2 ⊢
  simp only[Bool.or_eq_true,Bool.and_eq_true] at h1 h2 ⊢
  by_cases e:k=K
  ·subst e
   have h3:fZ g k i k=true:=by rcases h1 with h | h;exact h;exact h.1
   have h4:fZ g k k j=true:=by rcases h2 with h | h;exact h;exact h.2
   exact .inr ⟨h3,h4⟩
  ·have hk:k<K:=by omega
   rcases h1 with h1 | ⟨h1,h1'⟩<;>rcases h2 with h2 | ⟨h2,h2'⟩
   ·exact .inl (ih k i j hk h1 h2)
   ·exact .inr ⟨ih k i K hk h1 h2,h2'⟩
   ·exact .inr ⟨h1,ih k K j hk h1' h2⟩
   ·exact .inr ⟨h1,h2'⟩
theorem tY{nd:List (List Nat)}{g:Nat→Nat→Bool}(h:∀i j,g i j=true→bP nd i j):∀K i j,fZ g K i j=true→bP nd i j
 | 0,i,j,hg=>h i j hg
 | K+1,i,j,hg=>by
  unfold fZ j5 at hg
  simp only[Bool.or_eq_true,Bool.and_eq_true] at hg
  rcases hg with hg | ⟨h1,h2⟩
  ·exact tY h K i j hg
  ·exact(tY h K i K h1).trans (tY h K K j h2)
def bH(nd:List (List Nat)):Nat→Nat→Bool:=fun i j=>(aU nd i).contains j
theorem FJ{nd:List (List Nat)}(hlt:∀i,∀k∈aU nd i,k<nd.length)(i j:Nat):fZ (bH nd) nd.length i j=true ↔ bP nd i j:=by
 constructor
 ·exact tY (fun i j h=>.one i j (by simpa [bH] using h)) _ i j
 ·intro h
  induction h with
  | one i k hk=>exact wX _ _ _ _ (by simpa [bH] using hk)
  | more i k j hk _ ih=>exact Ao _ _ k _ _ (hlt i k hk) (wX _ _ _ _ (by simpa [bH] using hk)) ih
theorem bV.one{nd:List (List Nat)}{d e:List Nat}(hd:bV nd d)(he:bV nd e)(h:d.length=e.length):d=e:=by
 induction hd generalizing e with
 | nil=>exact(List.eq_nil_of_length_eq_zero h.symm).symm
 | snoc d i hd h1 h2 ih=>
  cases he with
  | nil=>simp at h
  | snoc e k he h3 h4=>
   obtain rfl:=ih he (by simpa using h)
   have hk:i=k:=by
    rcases Nat.lt_trichotomy i k with hl | hl | hl
    ·exact absurd h1 (h4 i hl)
    ·exact hl
    ·exact absurd h3 (h2 k hl)
   rw[hk]
set_option maxHeartbeats 1000000

theorem NE(a:Nat→Addr)(b:Addr)(m:Nat)(c n:Int)(cb:Array Value)(tb:TypeId)(w:World)(S:jC a w)(hrow:w.heap[b.block]?=some (.cells cb tb (0,0)))(hm:m≤9)(hlt:∀j,j<m→b≠a j)(heq:m<9→a m=b)(hc:c=codeOf m)(hn:n=-1) :
  Calls Tryz.prog 13 #[.iface 289 (.pointer (some b)),.agg #[.int .i64 c,.int .i64 n]] w fun e w'=>e=.returned (.bool true)∧Bw w w':=by
 subst hc hn
 have hb0:Bw w (w.alloc (.cells #[.int .i64 (codeOf m),.int .i64 (-1)] 42)):=aH
 go_enter Tryz.func13,Tryz.ntmps13
 go_wp2_with fail
 refine(NV a b m cb tb _ (S.below hb0) (aG hb0 hrow) hm hlt heq).mono ?_
 rintro e w1 ⟨rfl,hb⟩
 have c0:=aF hb (p:=⟨w.heap.size,0,none⟩) (v:=.int .i64 (codeOf m)) (by simp)
 have c1:=aF hb (p:=⟨w.heap.size,1,none⟩) (v:=.int .i64 (-1)) (by simp)
 clear S hrow hlt heq
 go_wp2
 all_goals go_ret
 all_goals exact⟨rfl,hb0.trans (hb.mono (by simp))⟩
theorem NG(a:Nat→Addr)(b:Addr)(m p:Nat)(c n:Int)(cb:Array Value)(tb:TypeId)(w:World)(S:jC a w)(hp0:w.cell? ⟨p,0,none⟩=some (.int .i64 n))(hp1:w.cell? ⟨p,0+1,none⟩=some (.iface 289 (.pointer (some b))))(hrow:w.heap[b.block]?=some (.cells cb tb (0,0)))(hm:m≤9)(hlt:∀j,j<m→b≠a j)(heq:m<9→a m=b)(hc:c=codeOf m) :
  Calls Tryz.prog 13 #[.iface 83 (.pointer (some ⟨p,0,none⟩)),.agg #[.int .i64 c,.int .i64 n]] w fun e w'=>e=.returned (.bool true)∧Bw w w':=by
 subst hc
 have hb0:Bw w (w.alloc (.cells #[.int .i64 (codeOf m),.int .i64 n] 42)):=aH
 go_enter Tryz.func13,Tryz.ntmps13
 go_wp2_with fail
 refine(NZ a b m p n cb tb _ (S.below hb0) (aF hb0 hp0) (aF hb0 hp1) (aG hb0 hrow) hm hlt heq).mono ?_
 rintro e w1 ⟨rfl,hb⟩
 have c0:=aF hb (p:=⟨w.heap.size,0,none⟩) (v:=.int .i64 (codeOf m)) (by simp)
 have c1:=aF hb (p:=⟨w.heap.size,1,none⟩) (v:=.int .i64 n) (by simp)
 clear S hrow hlt heq hp0 hp1
 go_wp2
 all_goals go_ret
 all_goals exact⟨rfl,hb0.trans (hb.mono (by simp))⟩
def Pd(w:World)(F:Nat→Prop)(ll:List (List (Int×Int)))(xs:List Value):Prop:=
 xs.length=ll.length∧∀(k:Nat) (l:List (Int×Int)),ll[k]?=some l→∃vo vc,xs[k]?=some (.slice vo l.length vc)∧aB w F 2 (.slice vo l.length vc) l.length (oG l)
def Fq(w:World)(v:Value)(ll:List (List (Int×Int))):Prop:=∃xs,aB w (fun _=>True) 1 v ll.length xs∧Pd w (fun _=>True) ll xs
theorem Fq.at{w:World}{v:Value}{ll:List (List (Int×Int))}(h:Fq w v ll):O9 w v ll:=by
 obtain⟨xs,h1,h2⟩:=h
 obtain⟨h3,h4,o,c,rfl,h5,h6⟩:=h1
 refine⟨h4,o,c,rfl,fun k l hk=>?_⟩
 obtain⟨vo,vc,h7,h8⟩:=h2.2 k l hk
 obtain⟨b,off,rfl,_,h9⟩:=h5 k _ h7
 exact⟨b,off,vo,vc,rfl,h9,wM.Ko h8⟩
end Go.Proofs.YtmgfakcccfahaaaGreatDoor
