/-
  FROM A ROW's LIST OF VARIABLES TO WHAT THE WALKS ASK: each sentinel's cell, its text, its row; errorType's cell; no two sentinels are one pointer (their texts differ).
-/
import Derived.Test.YtmgfakcccfahaaaGreatDoorRows
import Derived.LaidLaws
import Derived.LaidHandle
import Derived.Stop.LaidErr
import Derived.Laws.CopyRow
import Derived.Deep.CutRange
import Derived.Test.YtmgfakcccfahaaaGreatDoorN38
namespace Go.Proofs.YtmgfakcccfahaaaGreatDoor
open Go.RowKit Go.ChangeShapes
theorem KQ{P:Program}{n nm:String}{text:List UInt8}{W:World}{g:Nat}{ti tp te ts:TypeId}{ms:Array (String×TypeId)}{f:Field}:∀{l:List (String×DataW Unit)},
  laidMet P l W→(n,.iface nm (.ptr (.agg [.lit (.string text)])))∈l →
  P.globalNamed n=some g→(P.globals[g]?).map (·.type)=some ti→P.underlying ti=some (.interface ms)→(∀u,P.typeName? 3 u=some nm→u=tp) →
  P.underlying tp=some (.pointer te)→P.underlying te=some (.struct #[f])→f.type=ts→f.offset=0→P.underlying ts=some .string→P.cellsOf te=1→P.cellsOf ts=1 →
  ∃(a:Addr) (s:ByteArray) (c:Array Value) (t:TypeId),W.cell? ⟨g,0,none⟩=some (.iface tp (.pointer (some a)))∧W.cell? a=some (.string s)∧s.data.toList=text∧W.heap[a.block]?=some (.cells c t (0,0)):=by
 intro l
 induction l with
 | nil=>intro _ hm;cases hm
 | cons x r ih=>
  intro h hm hg ht hi hrow hp he hft hfo hs hc hcs
  rcases List.mem_cons.1 hm with rfl | hm
  ·obtain⟨ps,⟨g0,t0,cs0,f0,p0,q0,hg0,ht0,hv0,hd0,_,e0⟩,_,hrows⟩:=h
   obtain rfl:=Option.some.inj (hg.symm.trans hg0)
   obtain rfl:=Option.some.inj (ht.symm.trans ht0)
   subst e0
   obtain⟨l0⟩:=cs0
   have ok0:∀u v,l0=[.iface u v]→Value.okWide P W .any 0 u v:=fun u v e=>by
    subst e
    exact(hrows g 0 (by simp [MemPlace.row])).2 u v (by simpa using World.var?_cell hg0 hv0 0)
   obtain⟨a0,s0,rfl,hc0,hs0,_,rfl⟩:=errorString_of_trod hi hrow hp he hft hfo hs hc hcs hd0 ok0
   obtain⟨c0,t0,hb0⟩:=(hrows a0.block a0.off (by simp [MemPlace.row])).1
   exact⟨a0,s0,c0,t0,by simpa using World.var?_cell hg0 hv0 0,hc0,hs0,hb0⟩
  ·exact ih h.tail hm hg ht hi hrow hp he hft hfo hs hc hcs

theorem Tryz.own:ownKnob Tryz.prog.godebug=none:=by kernel_rfl
theorem Tryz.Qc:Tryz.prog.cellsOf 9=1:=by kernel_rfl
theorem Tryz.Qe:Tryz.prog.cellsOf 311=1:=by kernel_rfl
theorem Tryz.star: "*errors.errorString"= "*"++ "errors.errorString":=by decide
theorem Tryz.PD(u:TypeId)(h:Tryz.prog.typeName? 3 u=some "*errors.errorString"):u=289:=
 typeName_ptr_named (nm:= "errors.errorString") (by rw[←Tryz.star];kernel_rfl) (by kernel_rfl) (by decide) u (by rw[←Tryz.star];exact h)
theorem Tryz.sent{l:List (String×DataW Unit)}{n:String}{text:List UInt8}{W:World}{g:Nat}(h:laidMet Tryz.prog l W)(hm:(n,.iface "*errors.errorString" (.ptr (.agg [.lit (.string text)])))∈l)(hg:Tryz.prog.globalNamed n=some g)(ht:(Tryz.prog.globals[g]?).map (·.type)=some 32) :
  ∃(a:Addr) (s:ByteArray) (c:Array Value) (t:TypeId),W.cell? ⟨g,0,none⟩=some (.iface 289 (.pointer (some a)))∧W.cell? a=some (.string s)∧s.data.toList=text∧W.heap[a.block]?=some (.cells c t (0,0)):=
 KQ h hm hg ht Tryz.underlying32 Tryz.PD Tryz.underlying289 Tryz.underlying311 rfl rfl Tryz.underlying9 Tryz.Qe Tryz.Qc
end Go.Proofs.YtmgfakcccfahaaaGreatDoor
namespace Go.Proofs.YtmgfakcccfahaaaGreatDoor
open Go.RowKit Go.Maps
inductive fO:FuncId→Array Value→Prop
 | c1:fO 111 #[]
 | c2:fO 112 #[]
 | c3:fO 114 #[]
 | c4 (p:Nat):fO 116 #[.pointer (some ⟨p,0,none⟩)]
 | c5 (p:Nat):fO 118 #[.pointer (some ⟨p,0,none⟩)]
 | c6 (p:Nat):fO 120 #[.pointer (some ⟨p,0,none⟩)]
def Iz(op:List UInt8)(l:List (Int×Int))(r:Int)(tr:Bool):Prop:=
 (tr=true→r=0)∧∀W f,oQ W f→∃fid cap,f op=some (.func (.func fid) #[] cap)∧fO fid cap∧∀w v,Bw W w→jA w v (l.map Prod.snd)→Calls Tryz.prog fid (#[v]++cap) w fun e w'=>e=.returned (.tuple #[.int .i64 r,.bool tr])∧Bw w w'
def kH(op:List UInt8)(l:List (Int×Int)):Prop:=
 (FY op l=5∧rZ op (l.map Prod.fst)=none)∨(FY op l=0∧∃k r tr,rZ op (l.map Prod.fst)=some k∧fM op l=(if tr=true then ((0,0),true) else ((k,r),false))∧Iz op l r tr)
theorem oZ{a:Int}(h:gN 1 a 1=true):a=0∨a=1:=by
 unfold gN at h
 simp at h
 omega
theorem Q7(l:List (Int×Int))(hl:l.length=2)(hr:aU l=true):kH [43] l:=by
 match l,hl with
 | [(k1,a),(k2,b)],_=>
  have r1:=List.all_eq_true.1 hr (k1,a) (by simp)
  have r2:=List.all_eq_true.1 hr (k2,b) (by simp)
  obtain⟨h1,s1⟩:=eH r1
  obtain⟨h2,s2⟩:=eH r2
  rcases h1 with rfl | rfl<;>rcases h2 with rfl | rfl
  ·exact .inl ⟨by show bD (aU _) _=5;rw[hr];rfl,by rfl⟩
  ·exact .inl ⟨by show bD (aU _) _=5;rw[hr];rfl,by rfl⟩
  ·exact .inl ⟨by show bD (aU _) _=5;rw[hr];rfl,by rfl⟩
  ·refine .inr ⟨by show bD (aU _) _=0;rw[hr];rfl,2,cB (a+b),false,by rfl,by first | rfl | simp [fM],⟨by simp,fun W f hO=>?_⟩⟩
   obtain⟨h4,h5,h6,h7⟩:=hO
   obtain⟨p,e1,e2⟩:=h4 [43] (dL 153) (by rfl)
   exact⟨_,_,e1,fO.c4 p,fun w v hb hv=>MQ p a b v w hv (aD hb e2) s1 s2⟩
theorem Q6(l:List (Int×Int))(hl:l.length=2)(hr:aU l=true):kH [45] l:=by
 match l,hl with
 | [(k1,a),(k2,b)],_=>
  have r1:=List.all_eq_true.1 hr (k1,a) (by simp)
  have r2:=List.all_eq_true.1 hr (k2,b) (by simp)
  obtain⟨h1,s1⟩:=eH r1
  obtain⟨h2,s2⟩:=eH r2
  rcases h1 with rfl | rfl<;>rcases h2 with rfl | rfl
  ·exact .inl ⟨by show bD (aU _) _=5;rw[hr];rfl,by rfl⟩
  ·exact .inl ⟨by show bD (aU _) _=5;rw[hr];rfl,by rfl⟩
  ·exact .inl ⟨by show bD (aU _) _=5;rw[hr];rfl,by rfl⟩
  ·refine .inr ⟨by show bD (aU _) _=0;rw[hr];rfl,2,cB (a-b),false,by rfl,by first | rfl | simp [fM],⟨by simp,fun W f hO=>?_⟩⟩
   obtain⟨h4,h5,h6,h7⟩:=hO
   obtain⟨p,e1,e2⟩:=h4 [45] (dL 154) (by rfl)
   exact⟨_,_,e1,fO.c4 p,fun w v hb hv=>MP p a b v w hv (aD hb e2) s1 s2⟩
theorem Q5(l:List (Int×Int))(hl:l.length=2)(hr:aU l=true):kH [42] l:=by
 match l,hl with
 | [(k1,a),(k2,b)],_=>
  have r1:=List.all_eq_true.1 hr (k1,a) (by simp)
  have r2:=List.all_eq_true.1 hr (k2,b) (by simp)
  obtain⟨h1,s1⟩:=eH r1
  obtain⟨h2,s2⟩:=eH r2
  rcases h1 with rfl | rfl<;>rcases h2 with rfl | rfl
  ·exact .inl ⟨by show bD (aU _) _=5;rw[hr];rfl,by rfl⟩
  ·exact .inl ⟨by show bD (aU _) _=5;rw[hr];rfl,by rfl⟩
  ·exact .inl ⟨by show bD (aU _) _=5;rw[hr];rfl,by rfl⟩
  ·refine .inr ⟨by show bD (aU _) _=0;rw[hr];rfl,2,cB (a*b),false,by rfl,by first | rfl | simp [fM],⟨by simp,fun W f hO=>?_⟩⟩
   obtain⟨h4,h5,h6,h7⟩:=hO
   obtain⟨p,e1,e2⟩:=h4 [42] (dL 155) (by rfl)
   exact⟨_,_,e1,fO.c4 p,fun w v hb hv=>MO p a b v w hv (aD hb e2) s1 s2⟩
theorem Q0(l:List (Int×Int))(hl:l.length=2)(hr:aU l=true):kH [97,110,100] l:=by
 match l,hl with
 | [(k1,a),(k2,b)],_=>
  have r1:=List.all_eq_true.1 hr (k1,a) (by simp)
  have r2:=List.all_eq_true.1 hr (k2,b) (by simp)
  obtain⟨h1,s1⟩:=eH r1
  obtain⟨h2,s2⟩:=eH r2
  rcases h1 with rfl | rfl<;>rcases h2 with rfl | rfl
  ·refine .inr ⟨by show bD (aU _) _=0;rw[hr];rfl,1,bB (a+b==2),false,by rfl,by first | rfl | simp [fM],⟨by simp,fun W f hO=>?_⟩⟩
   obtain⟨h4,h5,h6,h7⟩:=hO
   obtain⟨p,e1,e2⟩:=h6 [97,110,100] (dL 158) (by rfl)
   exact⟨_,_,e1,fO.c6 p,fun w v hb hv=>ML p a b v w hv (aD hb e2) (oZ r1) (oZ r2)⟩
  ·exact .inl ⟨by show bD (aU _) _=5;rw[hr];rfl,by rfl⟩
  ·exact .inl ⟨by show bD (aU _) _=5;rw[hr];rfl,by rfl⟩
  ·exact .inl ⟨by show bD (aU _) _=5;rw[hr];rfl,by rfl⟩
theorem QY(l:List (Int×Int))(hl:l.length=2)(hr:aU l=true):kH [111,114] l:=by
 match l,hl with
 | [(k1,a),(k2,b)],_=>
  have r1:=List.all_eq_true.1 hr (k1,a) (by simp)
  have r2:=List.all_eq_true.1 hr (k2,b) (by simp)
  obtain⟨h1,s1⟩:=eH r1
  obtain⟨h2,s2⟩:=eH r2
  rcases h1 with rfl | rfl<;>rcases h2 with rfl | rfl
  ·refine .inr ⟨by show bD (aU _) _=0;rw[hr];rfl,1,bB (decide (0<a+b)),false,by rfl,by first | rfl | simp [fM],⟨by simp,fun W f hO=>?_⟩⟩
   obtain⟨h4,h5,h6,h7⟩:=hO
   obtain⟨p,e1,e2⟩:=h6 [111,114] (dL 159) (by rfl)
   exact⟨_,_,e1,fO.c6 p,fun w v hb hv=>MJ p a b v w hv (aD hb e2) (oZ r1) (oZ r2)⟩
  ·exact .inl ⟨by show bD (aU _) _=5;rw[hr];rfl,by rfl⟩
  ·exact .inl ⟨by show bD (aU _) _=5;rw[hr];rfl,by rfl⟩
  ·exact .inl ⟨by show bD (aU _) _=5;rw[hr];rfl,by rfl⟩
theorem QX(l:List (Int×Int))(hl:l.length=2)(hr:aU l=true):kH [120,111,114] l:=by
 match l,hl with
 | [(k1,a),(k2,b)],_=>
  have r1:=List.all_eq_true.1 hr (k1,a) (by simp)
  have r2:=List.all_eq_true.1 hr (k2,b) (by simp)
  obtain⟨h1,s1⟩:=eH r1
  obtain⟨h2,s2⟩:=eH r2
  rcases h1 with rfl | rfl<;>rcases h2 with rfl | rfl
  ·refine .inr ⟨by show bD (aU _) _=0;rw[hr];rfl,1,bB (a+b==1),false,by rfl,by first | rfl | simp [fM],⟨by simp,fun W f hO=>?_⟩⟩
   obtain⟨h4,h5,h6,h7⟩:=hO
   obtain⟨p,e1,e2⟩:=h6 [120,111,114] (dL 160) (by rfl)
   exact⟨_,_,e1,fO.c6 p,fun w v hb hv=>MI p a b v w hv (aD hb e2) (oZ r1) (oZ r2)⟩
  ·exact .inl ⟨by show bD (aU _) _=5;rw[hr];rfl,by rfl⟩
  ·exact .inl ⟨by show bD (aU _) _=5;rw[hr];rfl,by rfl⟩
  ·exact .inl ⟨by show bD (aU _) _=5;rw[hr];rfl,by rfl⟩
theorem QW(l:List (Int×Int))(hl:l.length=2)(hr:aU l=true):kH [61,62] l:=by
 match l,hl with
 | [(k1,a),(k2,b)],_=>
  have r1:=List.all_eq_true.1 hr (k1,a) (by simp)
  have r2:=List.all_eq_true.1 hr (k2,b) (by simp)
  obtain⟨h1,s1⟩:=eH r1
  obtain⟨h2,s2⟩:=eH r2
  rcases h1 with rfl | rfl<;>rcases h2 with rfl | rfl
  ·refine .inr ⟨by show bD (aU _) _=0;rw[hr];rfl,1,bB (decide (a≤b)),false,by rfl,by first | rfl | simp [fM],⟨by simp,fun W f hO=>?_⟩⟩
   obtain⟨h4,h5,h6,h7⟩:=hO
   obtain⟨p,e1,e2⟩:=h6 [61,62] (dL 161) (by rfl)
   exact⟨_,_,e1,fO.c6 p,fun w v hb hv=>MH p a b v w hv (aD hb e2) (oZ r1) (oZ r2)⟩
  ·exact .inl ⟨by show bD (aU _) _=5;rw[hr];rfl,by rfl⟩
  ·exact .inl ⟨by show bD (aU _) _=5;rw[hr];rfl,by rfl⟩
  ·exact .inl ⟨by show bD (aU _) _=5;rw[hr];rfl,by rfl⟩
theorem QV(l:List (Int×Int))(hl:l.length=2)(hr:aU l=true):kH [61] l:=by
 match l,hl with
 | [(k1,a),(k2,b)],_=>
  have r1:=List.all_eq_true.1 hr (k1,a) (by simp)
  have r2:=List.all_eq_true.1 hr (k2,b) (by simp)
  obtain⟨h1,s1⟩:=eH r1
  obtain⟨h2,s2⟩:=eH r2
  rcases h1 with rfl | rfl<;>rcases h2 with rfl | rfl
  ·refine .inr ⟨by show bD (aU _) _=0;rw[hr];rfl,1,bB (a==b),false,by rfl,by first | rfl | simp [fM],⟨by simp,fun W f hO=>?_⟩⟩
   obtain⟨h4,h5,h6,h7⟩:=hO
   obtain⟨p,e1,e2⟩:=h6 [61] (dL 162) (by rfl)
   exact⟨_,_,e1,fO.c6 p,fun w v hb hv=>Ey p a b v w hv (aD hb e2)⟩
  ·exact .inl ⟨by show bD (aU _) _=5;rw[hr];rfl,by rfl⟩
  ·exact .inl ⟨by show bD (aU _) _=5;rw[hr];rfl,by rfl⟩
  ·refine .inr ⟨by show bD (aU _) _=0;rw[hr];rfl,1,bB (a==b),false,by rfl,by first | rfl | simp [fM],⟨by simp,fun W f hO=>?_⟩⟩
   obtain⟨h4,h5,h6,h7⟩:=hO
   obtain⟨p,e1,e2⟩:=h6 [61] (dL 162) (by rfl)
   exact⟨_,_,e1,fO.c6 p,fun w v hb hv=>Ey p a b v w hv (aD hb e2)⟩
theorem QU(l:List (Int×Int))(hl:l.length=2)(hr:aU l=true):kH [60,62] l:=by
 match l,hl with
 | [(k1,a),(k2,b)],_=>
  have r1:=List.all_eq_true.1 hr (k1,a) (by simp)
  have r2:=List.all_eq_true.1 hr (k2,b) (by simp)
  obtain⟨h1,s1⟩:=eH r1
  obtain⟨h2,s2⟩:=eH r2
  rcases h1 with rfl | rfl<;>rcases h2 with rfl | rfl
  ·refine .inr ⟨by show bD (aU _) _=0;rw[hr];rfl,1,bB (a != b),false,by rfl,by first | rfl | simp [fM],⟨by simp,fun W f hO=>?_⟩⟩
   obtain⟨h4,h5,h6,h7⟩:=hO
   obtain⟨p,e1,e2⟩:=h6 [60,62] (dL 163) (by rfl)
   exact⟨_,_,e1,fO.c6 p,fun w v hb hv=>Ew p a b v w hv (aD hb e2)⟩
  ·exact .inl ⟨by show bD (aU _) _=5;rw[hr];rfl,by rfl⟩
  ·exact .inl ⟨by show bD (aU _) _=5;rw[hr];rfl,by rfl⟩
  ·refine .inr ⟨by show bD (aU _) _=0;rw[hr];rfl,1,bB (a != b),false,by rfl,by first | rfl | simp [fM],⟨by simp,fun W f hO=>?_⟩⟩
   obtain⟨h4,h5,h6,h7⟩:=hO
   obtain⟨p,e1,e2⟩:=h6 [60,62] (dL 163) (by rfl)
   exact⟨_,_,e1,fO.c6 p,fun w v hb hv=>Ew p a b v w hv (aD hb e2)⟩
theorem QT(l:List (Int×Int))(hl:l.length=2)(hr:aU l=true):kH [60] l:=by
 match l,hl with
 | [(k1,a),(k2,b)],_=>
  have r1:=List.all_eq_true.1 hr (k1,a) (by simp)
  have r2:=List.all_eq_true.1 hr (k2,b) (by simp)
  obtain⟨h1,s1⟩:=eH r1
  obtain⟨h2,s2⟩:=eH r2
  rcases h1 with rfl | rfl<;>rcases h2 with rfl | rfl
  ·exact .inl ⟨by show bD (aU _) _=5;rw[hr];rfl,by rfl⟩
  ·exact .inl ⟨by show bD (aU _) _=5;rw[hr];rfl,by rfl⟩
  ·exact .inl ⟨by show bD (aU _) _=5;rw[hr];rfl,by rfl⟩
  ·refine .inr ⟨by show bD (aU _) _=0;rw[hr];rfl,1,bB (decide (a<b)),false,by rfl,by first | rfl | simp [fM],⟨by simp,fun W f hO=>?_⟩⟩
   obtain⟨h4,h5,h6,h7⟩:=hO
   obtain⟨p,e1,e2⟩:=h6 [60] (dL 164) (by rfl)
   exact⟨_,_,e1,fO.c6 p,fun w v hb hv=>MG p a b v w hv (aD hb e2)⟩
theorem QS(l:List (Int×Int))(hl:l.length=2)(hr:aU l=true):kH [60,61] l:=by
 match l,hl with
 | [(k1,a),(k2,b)],_=>
  have r1:=List.all_eq_true.1 hr (k1,a) (by simp)
  have r2:=List.all_eq_true.1 hr (k2,b) (by simp)
  obtain⟨h1,s1⟩:=eH r1
  obtain⟨h2,s2⟩:=eH r2
  rcases h1 with rfl | rfl<;>rcases h2 with rfl | rfl
  ·exact .inl ⟨by show bD (aU _) _=5;rw[hr];rfl,by rfl⟩
  ·exact .inl ⟨by show bD (aU _) _=5;rw[hr];rfl,by rfl⟩
  ·exact .inl ⟨by show bD (aU _) _=5;rw[hr];rfl,by rfl⟩
  ·refine .inr ⟨by show bD (aU _) _=0;rw[hr];rfl,1,bB (decide (a≤b)),false,by rfl,by first | rfl | simp [fM],⟨by simp,fun W f hO=>?_⟩⟩
   obtain⟨h4,h5,h6,h7⟩:=hO
   obtain⟨p,e1,e2⟩:=h6 [60,61] (dL 165) (by rfl)
   exact⟨_,_,e1,fO.c6 p,fun w v hb hv=>MF p a b v w hv (aD hb e2)⟩
theorem QR(l:List (Int×Int))(hl:l.length=2)(hr:aU l=true):kH [62] l:=by
 match l,hl with
 | [(k1,a),(k2,b)],_=>
  have r1:=List.all_eq_true.1 hr (k1,a) (by simp)
  have r2:=List.all_eq_true.1 hr (k2,b) (by simp)
  obtain⟨h1,s1⟩:=eH r1
  obtain⟨h2,s2⟩:=eH r2
  rcases h1 with rfl | rfl<;>rcases h2 with rfl | rfl
  ·exact .inl ⟨by show bD (aU _) _=5;rw[hr];rfl,by rfl⟩
  ·exact .inl ⟨by show bD (aU _) _=5;rw[hr];rfl,by rfl⟩
  ·exact .inl ⟨by show bD (aU _) _=5;rw[hr];rfl,by rfl⟩
  ·refine .inr ⟨by show bD (aU _) _=0;rw[hr];rfl,1,bB (decide (b<a)),false,by rfl,by first | rfl | simp [fM],⟨by simp,fun W f hO=>?_⟩⟩
   obtain⟨h4,h5,h6,h7⟩:=hO
   obtain⟨p,e1,e2⟩:=h6 [62] (dL 166) (by rfl)
   exact⟨_,_,e1,fO.c6 p,fun w v hb hv=>ME p a b v w hv (aD hb e2)⟩
theorem QZ(l:List (Int×Int))(hl:l.length=2)(hr:aU l=true):kH [62,61] l:=by
 match l,hl with
 | [(k1,a),(k2,b)],_=>
  have r1:=List.all_eq_true.1 hr (k1,a) (by simp)
  have r2:=List.all_eq_true.1 hr (k2,b) (by simp)
  obtain⟨h1,s1⟩:=eH r1
  obtain⟨h2,s2⟩:=eH r2
  rcases h1 with rfl | rfl<;>rcases h2 with rfl | rfl
  ·exact .inl ⟨by show bD (aU _) _=5;rw[hr];rfl,by rfl⟩
  ·exact .inl ⟨by show bD (aU _) _=5;rw[hr];rfl,by rfl⟩
  ·exact .inl ⟨by show bD (aU _) _=5;rw[hr];rfl,by rfl⟩
  ·refine .inr ⟨by show bD (aU _) _=0;rw[hr];rfl,1,bB (decide (b≤a)),false,by rfl,by first | rfl | simp [fM],⟨by simp,fun W f hO=>?_⟩⟩
   obtain⟨h4,h5,h6,h7⟩:=hO
   obtain⟨p,e1,e2⟩:=h6 [62,61] (dL 167) (by rfl)
   exact⟨_,_,e1,fO.c6 p,fun w v hb hv=>MK p a b v w hv (aD hb e2)⟩
theorem Rc(l:List (Int×Int))(hl:l.length=2)(hr:aU l=true):kH [47] l:=by
 match l,hl with
 | [(k1,a),(k2,b)],_=>
  have r1:=List.all_eq_true.1 hr (k1,a) (by simp)
  have r2:=List.all_eq_true.1 hr (k2,b) (by simp)
  obtain⟨h1,s1⟩:=eH r1
  obtain⟨h2,s2⟩:=eH r2
  rcases h1 with rfl | rfl<;>rcases h2 with rfl | rfl
  ·exact .inl ⟨by show bD (aU _) _=5;rw[hr];rfl,by rfl⟩
  ·exact .inl ⟨by show bD (aU _) _=5;rw[hr];rfl,by rfl⟩
  ·exact .inl ⟨by show bD (aU _) _=5;rw[hr];rfl,by rfl⟩
  ·by_cases h0:b=0
   ·refine .inr ⟨by show bD (aU _) _=0;rw[hr];rfl,2,0,true,by rfl,by first | rfl | simp [fM,h0],⟨by simp,fun W f hO=>?_⟩⟩
    obtain⟨h4,h5,h6,h7⟩:=hO
    obtain⟨p,e1,e2⟩:=h5 [47] (dL 156) (by rfl)
    exact⟨_,_,e1,fO.c5 p,fun w v hb hv=>EB p a v w (by rw[h0] at hv;exact hv)⟩
   ·refine .inr ⟨by show bD (aU _) _=0;rw[hr];rfl,2,cB (a.tdiv b),false,by rfl,by first | rfl | simp [fM,h0],⟨by simp,fun W f hO=>?_⟩⟩
    obtain⟨h4,h5,h6,h7⟩:=hO
    obtain⟨p,e1,e2⟩:=h5 [47] (dL 156) (by rfl)
    exact⟨_,_,e1,fO.c5 p,fun w v hb hv=>MU p a b v w hv (aD hb e2) s1 h0⟩
theorem Rb(l:List (Int×Int))(hl:l.length=2)(hr:aU l=true):kH [109,111,100] l:=by
 match l,hl with
 | [(k1,a),(k2,b)],_=>
  have r1:=List.all_eq_true.1 hr (k1,a) (by simp)
  have r2:=List.all_eq_true.1 hr (k2,b) (by simp)
  obtain⟨h1,s1⟩:=eH r1
  obtain⟨h2,s2⟩:=eH r2
  rcases h1 with rfl | rfl<;>rcases h2 with rfl | rfl
  ·exact .inl ⟨by show bD (aU _) _=5;rw[hr];rfl,by rfl⟩
  ·exact .inl ⟨by show bD (aU _) _=5;rw[hr];rfl,by rfl⟩
  ·exact .inl ⟨by show bD (aU _) _=5;rw[hr];rfl,by rfl⟩
  ·by_cases h0:b=0
   ·refine .inr ⟨by show bD (aU _) _=0;rw[hr];rfl,2,0,true,by rfl,by first | rfl | simp [fM,h0],⟨by simp,fun W f hO=>?_⟩⟩
    obtain⟨h4,h5,h6,h7⟩:=hO
    obtain⟨p,e1,e2⟩:=h5 [109,111,100] (dL 157) (by rfl)
    exact⟨_,_,e1,fO.c5 p,fun w v hb hv=>EB p a v w (by rw[h0] at hv;exact hv)⟩
   ·refine .inr ⟨by show bD (aU _) _=0;rw[hr];rfl,2,cB (a-a.tdiv b*b),false,by rfl,by first | rfl | simp [fM,h0],⟨by simp,fun W f hO=>?_⟩⟩
    obtain⟨h4,h5,h6,h7⟩:=hO
    obtain⟨p,e1,e2⟩:=h5 [109,111,100] (dL 157) (by rfl)
    exact⟨_,_,e1,fO.c5 p,fun w v hb hv=>MS p a b v w hv (aD hb e2) s1 s2 h0⟩
theorem Q8(l:List (Int×Int))(hl:l.length=1)(hr:aU l=true):kH [110,111,116] l:=by
 match l,hl with
 | [(k1,a)],_=>
  have r1:=List.all_eq_true.1 hr (k1,a) (by simp)
  obtain⟨h1,s1⟩:=eH r1
  rcases h1 with rfl | rfl
  ·refine .inr ⟨by show bD (aU _) _=0;rw[hr];rfl,1,bB (a==0),false,by rfl,by first | rfl | simp [fM],⟨by simp,fun W f hO=>?_⟩⟩
   obtain⟨h4,h5,h6,h7⟩:=hO
   have e1:f [110,111,116]=some (dL 111):=(h7 [110,111,116] (by rfl) (by rfl) (by rfl)).trans (by rfl)
   exact⟨_,_,e1,fO.c1,fun w v hb hv=>zQ a (oZ r1) v w hv⟩
  ·exact .inl ⟨by show bD (aU _) _=5;rw[hr];rfl,by rfl⟩
theorem Q9(l:List (Int×Int))(hl:l.length=1)(hr:aU l=true):kH [110,101,103] l:=by
 match l,hl with
 | [(k1,a)],_=>
  have r1:=List.all_eq_true.1 hr (k1,a) (by simp)
  obtain⟨h1,s1⟩:=eH r1
  rcases h1 with rfl | rfl
  ·exact .inl ⟨by show bD (aU _) _=5;rw[hr];rfl,by rfl⟩
  ·refine .inr ⟨by show bD (aU _) _=0;rw[hr];rfl,2,cB (256-a),false,by rfl,by first | rfl | simp [fM],⟨by simp,fun W f hO=>?_⟩⟩
   obtain⟨h4,h5,h6,h7⟩:=hO
   have e1:f [110,101,103]=some (dL 112):=(h7 [110,101,103] (by rfl) (by rfl) (by rfl)).trans (by rfl)
   exact⟨_,_,e1,fO.c2,fun w v hb hv=>MR a s1 v w hv⟩
theorem Ra(l:List (Int×Int))(hl:l.length=3)(hr:aU l=true):kH [105,102] l:=by
 match l,hl with
 | [(k1,a),(k2,b),(k3,d)],_=>
  have r1:=List.all_eq_true.1 hr (k1,a) (by simp)
  have r2:=List.all_eq_true.1 hr (k2,b) (by simp)
  have r3:=List.all_eq_true.1 hr (k3,d) (by simp)
  obtain⟨h1,s1⟩:=eH r1
  obtain⟨h2,s2⟩:=eH r2
  obtain⟨h3,s3⟩:=eH r3
  rcases h1 with rfl | rfl<;>rcases h2 with rfl | rfl<;>rcases h3 with rfl | rfl
  ·refine .inr ⟨by show bD (aU _) _=0;rw[hr];rfl,1,bif a==1 then b else d,false,by rfl,?_,⟨by simp,fun W f hO=>?_⟩⟩
   ·by_cases h0:a=1
    ·subst h0;rfl
    ·have hb:(a==1)=false:=by simp [h0]
     simp [fM,h0,hb]
   obtain⟨h4,h5,h6,h7⟩:=hO
   have e1:f [105,102]=some (dL 114):=(h7 [105,102] (by rfl) (by rfl) (by rfl)).trans (by rfl)
   exact⟨_,_,e1,fO.c3,fun w v hb hv=>EA a b d (oZ r1) v w hv⟩
  ·exact .inl ⟨by show bD (aU _) _=5;rw[hr];rfl,by rfl⟩
  ·exact .inl ⟨by show bD (aU _) _=5;rw[hr];rfl,by rfl⟩
  ·refine .inr ⟨by show bD (aU _) _=0;rw[hr];rfl,2,bif a==1 then b else d,false,by rfl,?_,⟨by simp,fun W f hO=>?_⟩⟩
   ·by_cases h0:a=1
    ·subst h0;rfl
    ·have hb:(a==1)=false:=by simp [h0]
     simp [fM,h0,hb]
   obtain⟨h4,h5,h6,h7⟩:=hO
   have e1:f [105,102]=some (dL 114):=(h7 [105,102] (by rfl) (by rfl) (by rfl)).trans (by rfl)
   exact⟨_,_,e1,fO.c3,fun w v hb hv=>EA a b d (oZ r1) v w hv⟩
  ·exact .inl ⟨by show bD (aU _) _=5;rw[hr];rfl,by rfl⟩
  ·exact .inl ⟨by show bD (aU _) _=5;rw[hr];rfl,by rfl⟩
  ·exact .inl ⟨by show bD (aU _) _=5;rw[hr];rfl,by rfl⟩
  ·exact .inl ⟨by show bD (aU _) _=5;rw[hr];rfl,by rfl⟩
theorem Ka{t:List UInt8×Nat×Int×Int}(h:t∈oH):t=([110,111,116],1,1,1)∨t=([110,101,103],1,2,2)∨t=([105,102],3,0,0)∨t=([97,110,100],2,1,1)∨t=([111,114],2,1,1)∨t=([120,111,114],2,1,1)∨t=([61,62],2,1,1)∨t=([61],2,0,1)∨t=([60,62],2,0,1)∨t=([60],2,2,1)∨t=([60,61],2,2,1)∨t=([62],2,2,1)∨t=([62,61],2,2,1)∨t=([43],2,2,2)∨t=([45],2,2,2)∨t=([42],2,2,2)∨t=([47],2,2,2)∨t=([109,111,100],2,2,2):=by
 simpa only[oH,List.mem_cons,List.not_mem_nil,or_false] using h
theorem Rf(t:List UInt8×Nat×Int×Int)(h:t∈oH)(l:List (Int×Int))(hl:l.length=t.2.1)(hr:aU l=true):kH t.1 l:=by
 rcases Ka h with rfl | rfl | rfl | rfl | rfl | rfl | rfl | rfl | rfl | rfl | rfl | rfl | rfl | rfl | rfl | rfl | rfl | rfl
 ·exact Q8 l hl hr
 ·exact Q9 l hl hr
 ·exact Ra l hl hr
 ·exact Q0 l hl hr
 ·exact QY l hl hr
 ·exact QX l hl hr
 ·exact QW l hl hr
 ·exact QV l hl hr
 ·exact QU l hl hr
 ·exact QT l hl hr
 ·exact QS l hl hr
 ·exact QR l hl hr
 ·exact QZ l hl hr
 ·exact Q7 l hl hr
 ·exact Q6 l hl hr
 ·exact Q5 l hl hr
 ·exact Rc l hl hr
 ·exact Rb l hl hr
theorem I4{l:List (Int×Int)}{k:Nat}{x:Int×Int}(h:l[k]?=some x):(bG l)[k*2]?=some (.int .i64 x.1)∧(bG l)[k*2+1]?=some (.int .i64 x.2):=by
 induction l generalizing k with
 | nil=>simp at h
 | cons y l ih=>
  cases k with
  | zero=>
   obtain rfl:=Option.some.inj h
   exact⟨rfl,rfl⟩
  | succ k=>
   have:=ih (k:=k) h
   have e1:(k+1)*2=k*2+1+1:=by omega
   have e2:(k+1)*2+1=k*2+1+1+1:=by omega
   have e3:bG (y::l)=.int .i64 y.1::.int .i64 y.2::bG l:=rfl
   rw[e1,e3]
   exact this
theorem kF.EF{w:World}{v:Value}{l:List (Int×Int)}(h:kY w v l):kF w v l:=by
 obtain⟨h1,h2,o,c,rfl,h3,h4⟩:=h
 refine⟨h2,o,c,rfl,fun k x hk=>?_⟩
 obtain⟨y0,y1⟩:=I4 hk
 obtain⟨b,off,rfl,_,c0⟩:=h3 _ _ y0
 obtain⟨b',off',e,_,c1⟩:=h3 _ _ y1
 obtain⟨rfl,rfl⟩:b=b'∧off=off':=by simpa using e
 exact⟨b,off,rfl,c0,c1⟩
theorem aB.block{w:World}{S:Nat→Prop}{size b n c:Nat}{t:TypeId}{cs:Array Value}{xs:List Value}(h:w.heap[b]?=some (.cells cs t (0,0)))(hS:S b)(hx:cs.toList=xs)(hl:xs.length=n*size)(hn:n≤maxLen)(hc:n≤c):aB w S size (.slice (some ⟨b,0,none⟩) n c) n xs:=by
 refine⟨hl,hn,_,c,rfl,fun k x hk=>⟨b,0,rfl,hS,?_⟩,hc⟩
 rw[Nat.zero_add,cell_of_row w b k cs t (0,0) h]
 rw[←hx] at hk
 simpa using hk
theorem aB.vQ(w:World)(S:Nat→Prop)(size:Nat):aB w S size (.slice none 0 0) 0 []:=⟨by simp,by unfold maxLen;omega,none,0,rfl,fun k x hx=>by simp at hx,Nat.le_refl _⟩
structure tL(w:World)(E:fD):Prop where
 e3:E3 w E.st E.bt E.tt E.sq E.bq E.tq
 wD:w.cell? ⟨0,0,none⟩=some (.iface E.ct E.cq)
 fst:w.cell? ⟨1,0,none⟩=some (.iface E.ft E.fq)
theorem tL.keep{w w':World}{E:fD}(h:tL w E)(hb:Bw w w'):tL w' E:=⟨h.e3.keep hb,aD hb h.wD,aD hb h.fst⟩
def bX:ByteArray:=⟨#[120]⟩
def rO:ByteArray:=⟨#[116,114,117,101]⟩
def wK:ByteArray:=⟨#[]⟩
def gF:Pg:=⟨[],[.mk bX 0 wK []],[⟨bX,1,.mk rO 0 wK []⟩],[],[]⟩
structure wR(w:World)(b1 b2:Nat):Prop where
 out:w.heap[b1]?=some (.cells #[.string ⟨#[120]⟩] 9 (0,0))
 fl:w.heap[b2]?=some (.cells #[.string ⟨#[120]⟩,.int .i64 1,.string ⟨#[116,114,117,101]⟩,.int .i64 0,.string ⟨#[]⟩,.slice none 0 0] 95 (0,0))
theorem JM(w:World)(o1 o2 o3:Obj):(((w.alloc o1).alloc o2).alloc o3).heap[w.heap.size+1+1]?=some o3:=by
 have:=heap_alloc_new ((w.alloc o1).alloc o2) o3
 rwa [show ((w.alloc o1).alloc o2).heap.size=w.heap.size+1+1 from by simp] at this
set_option maxRecDepth 100000 in
theorem QA(w:World):Calls Tryz.prog 31 #[] w fun e w'=>∃b1 b2,e=.returned (.agg #[.slice none 0 0,.slice (some ⟨b1,0,none⟩) 1 1,.slice (some ⟨b2,0,none⟩) 1 1,.slice none 0 0,.slice none 0 0])∧wR w' b1 b2∧Bw w w':=by
 go_enter Tryz.func31,Tryz.ntmps31
 go_wp2
 go_returns
 refine⟨_,_,rfl,⟨kV _ (iG w _ _),JM w _ _ _⟩,((aH).alloc (by simp) _).alloc (by simp;omega) _⟩
theorem Qz:gJ gF=0:=by
 have h1:fG (fun _=>none) (aT gF)=some (bI (fun _=>none) (bX,1)):=rfl
 have h2:mM gF=true:=by decide
 have h3:eD (bI (fun _=>none) (bX,1)) (aI gF)=true:=by
  show eD (bI (fun _=>none) (bX,1)) [.mk rO 0 wK []]=true
  unfold eD iI eD mR
  rw[ByteArray.toList_eq,ByteArray.toList_eq]
  rfl
 have h4:aR (bI (fun _=>none) (bX,1)) (aI gF)=some (fT gF,[1]):=rfl
 unfold gJ
 rw[h1]
 simp only
 rw[h2,h3,h4]
 rfl
theorem Qu{m k:Nat}:¬fU (dS gF.fs) m k:=by
 have h0:dS gF.fs=[[]]:=rfl
 have h1:∀m,bV (dS gF.fs) m=[]:=fun m=>by
  rw[h0]
  cases m<;>rfl
 intro h
 cases h with
 | one _ _ hk=>rw[h1] at hk;simp at hk
 | more _ _ _ hk _=>rw[h1] at hk;simp at hk
theorem Qx{E:fD}{w:World}{t:TypeId}{x:Value}(h:pR gF E w t x):False:=by
 rcases h with⟨h,_⟩ | ⟨_,m,b,_,_,_,h,_⟩
 ·exact h Qz
 ·exact Qu h
theorem Qy{f:List UInt8→Nat}(h:kZ gF.fs f)(s:List UInt8):f s=0:=by
 have:=h.2 (fun _=>0) ⟨fun _=>Nat.zero_le _,fun x hx=>by
  obtain rfl:=List.mem_singleton.1 hx
  exact Nat.le_of_eq rfl⟩ s
 omega
theorem wR.pg{w:World}{b1 b2:Nat}(h:wR w b1 b2){E:fD}(he:tL w E):lQ w (fun b=>b=b1∨b=b2) gF none (some ⟨b1,0,none⟩) (some ⟨b2,0,none⟩) none none 0 1 1 0 0 E:=by
 refine⟨⟨aB.vQ _ _ _,?_,⟨_,aB.block h.fl (.inr rfl) rfl rfl (by unfold maxLen;exact Nat.le_of_ble_eq_true rfl) (Nat.le_refl _),?_⟩,⟨[],aB.vQ _ _ _,.nil⟩,⟨[],aB.vQ _ _ _,.nil⟩⟩,?_,?_,fun _=>⟨rfl,rfl⟩,?_,he.e3,he.wD,he.fst⟩
 ·exact aB.block h.out (.inl rfl) rfl rfl (by unfold maxLen;exact Nat.le_of_ble_eq_true rfl) (Nat.le_refl _)
 ·exact .cons _ _ _ _ _ _ (.cons _ _ _ _ _ _ _ _ (aB.vQ _ _ _) .nil .nil) .nil
 ·rintro b (rfl | rfl) _
  ·exact⟨_,_,h.out⟩
  ·exact⟨_,_,h.fl⟩
 ·rintro b (rfl | rfl)
  ·exact(bN h.out).1
  ·exact(bN h.fl).1
 ·have hm:∀n:Nat,n≤100→n≤maxLen:=fun n hn=>by unfold maxLen;omega
  refine⟨by decide,by decide,by decide,?_,?_,?_,?_⟩
  ·show aC [.mk rO 0 wK []]≤100000
   simp [aC,aL]
  ·show dR [.mk rO 0 wK []]
   unfold dR fJ dR
   exact⟨⟨hm _ (by decide),hm _ (by decide),trivial⟩,trivial⟩
  ·intro v hv
   obtain rfl:v=(bX,1):=List.mem_singleton.1 hv
   exact hm _ (by decide)
  ·intro e he
   obtain rfl:e=.mk bX 0 wK []:=List.mem_singleton.1 he
   exact hm _ (by decide)
end Go.Proofs.YtmgfakcccfahaaaGreatDoor
