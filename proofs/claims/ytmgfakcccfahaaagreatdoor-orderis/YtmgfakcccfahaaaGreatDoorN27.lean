/-
  HOW LATE TERMS ARE (mathematics), by how late names are: the least numbers that hold.
-/
import Derived.Test.YtmgfakcccfahaaaGreatDoorN22
import Derived.Deep.RegionWith
namespace Go.Proofs.YtmgfakcccfahaaaGreatDoor
open Go.RowKit Go.Maps
def iZ:List UInt8:=[45,62]
def iJ(n:Nat):Nat:=if n+1<2 then n+1 else 2
def iQ(a b:Nat):Nat:=if b=2 then 2 else a
mutual
def aO(f:List UInt8→Nat):Ex→Nat
 | .mk op _ s l=>if op.data.toList=bI then f s.data.toList else if op.data.toList=cZ then iJ ((aW f l)[0]?.getD 0) else if op.data.toList=iZ then iQ ((aW f l)[0]?.getD 0) ((aW f l)[1]?.getD 0) else if op.data.toList=cK then iQ ((aW f l)[0]?.getD 0) (iJ ((aW f l)[1]?.getD 0)) else (aW f l).foldl Nat.max 0
def aW(f:List UInt8→Nat):List Ex→List Nat
 | []=>[]
 | e::es=>aO f e::aW f es
end
theorem oN(f:List UInt8→Nat)(op:ByteArray)(n:Int)(s:ByteArray)(l:List Ex):aO f (.mk op n s l)=if op.data.toList=bI then f s.data.toList else if op.data.toList=cZ then iJ ((aW f l)[0]?.getD 0) else if op.data.toList=iZ then iQ ((aW f l)[0]?.getD 0) ((aW f l)[1]?.getD 0) else if op.data.toList=cK then iQ ((aW f l)[0]?.getD 0) (iJ ((aW f l)[1]?.getD 0)) else (aW f l).foldl Nat.max 0:=by rw[aO]
theorem kM(f:List UInt8→Nat):∀l:List Ex,aW f l=l.map (aO f)
 | []=>by simp [aW]
 | e::l=>by simp [aW,kM f l]
theorem sK{f:List UInt8→Nat}{l:List Ex}{i:Nat}{e:Ex}(h:l[i]?=some e):(aW f l)[i]?.getD 0=aO f e:=by
 rw[kM,List.getElem?_map,h];rfl
theorem zF{k:Nat}:∀(l:List Nat) (a:Nat),a≤k→(∀x∈l,x≤k)→l.foldl Nat.max a≤k
 | [],a,ha,_=>ha
 | x::l,a,ha,h=>by
  rw[List.foldl_cons]
  refine zF l _ ?_ fun y hy=>h y (List.mem_cons_of_mem _ hy)
  have:=h x (List.mem_cons_self ..)
  exact Nat.max_le.2 ⟨ha,this⟩
theorem DV:∀(l m:List Nat) (a b:Nat),a≤b→l.length=m.length→(∀i:Nat,l[i]?.getD 0≤m[i]?.getD 0)→l.foldl Nat.max a≤m.foldl Nat.max b
 | [],[],a,b,h,_,_=>h
 | [],y::m,a,b,h,hl,_=>by simp at hl
 | x::l,[],a,b,h,hl,_=>by simp at hl
 | x::l,y::m,a,b,h,hl,hi=>by
  rw[List.foldl_cons,List.foldl_cons]
  refine DV l m _ _ ?_ (by simpa using hl) fun i=>by simpa using hi (i+1)
  have:=hi 0
  simp at this
  exact Nat.max_le.2 ⟨Nat.le_trans h (Nat.le_max_left ..),Nat.le_trans this (Nat.le_max_right ..)⟩
theorem Ac(n:Nat):iJ n≤2:=by unfold iJ;split<;>omega
theorem EO{a b:Nat}(h:a≤b):iJ a≤iJ b:=by unfold iJ;split<;>split<;>omega
theorem Et{a b:Nat}(h:a≤2):iQ a b≤2:=by unfold iQ;split<;>omega
theorem Es{a b c d:Nat}(h:a≤b)(h2:c≤d)(hb:a≤2)(hd:d≤2):iQ a c≤iQ b d:=by unfold iQ;split<;>split<;>omega
theorem sV{l:List Nat}{k:Nat}(h:∀x∈l,x≤k)(i:Nat):l[i]?.getD 0≤k:=by
 cases e:l[i]? with
 | none=>exact Nat.zero_le _
 | some x=>exact h x (List.mem_of_getElem? e)
mutual
theorem oO{f:List UInt8→Nat}(hf:∀s,f s≤2):∀e:Ex,aO f e≤2
 | .mk op n s l=>by
  have h:=sJ hf l
  unfold aO
  split
  ·exact hf _
  split
  ·exact Ac _
  split
  ·exact Et (sV h _)
  split
  ·exact Et (sV h _)
  exact zF _ _ (by omega) h
theorem sJ{f:List UInt8→Nat}(hf:∀s,f s≤2):∀l:List Ex,∀x∈aW f l,x≤2
 | [],x,hx=>by simp [aW] at hx
 | e::l,x,hx=>by
  unfold aW at hx
  rcases List.mem_cons.1 hx with rfl | hx
  ·exact oO hf e
  ·exact sJ hf l x hx
end
mutual
theorem vK{f g:List UInt8→Nat}(hf:∀s,f s≤g s)(hg:∀s,g s≤2):∀e:Ex,aO f e≤aO g e
 | .mk op n s l=>by
  have h:=Cy hf hg l
  have h2:=sJ hg l
  have h1:=sJ (fun s=>Nat.le_trans (hf s) (hg s)) l
  unfold aO
  split
  ·exact hf _
  split
  ·exact EO (h _)
  split
  ·exact Es (h _) (h _) (sV h1 _) (sV h2 _)
  split
  ·exact Es (h _) (EO (h _)) (sV h1 _) (Ac _)
  exact DV _ _ _ _ (Nat.le_refl _) (by rw[kM,kM];simp) h
theorem Cy{f g:List UInt8→Nat}(hf:∀s,f s≤g s)(hg:∀s,g s≤2):∀(l:List Ex) (i:Nat),(aW f l)[i]?.getD 0≤(aW g l)[i]?.getD 0
 | [],i=>by simp [aW]
 | e::l,0=>by simpa [aW] using vK hf hg e
 | e::l,i+1=>by simpa [aW] using Cy hf hg l i
end
def oF(fs:List Fw)(f:List UInt8→Nat):Prop:=(∀s,f s≤2)∧∀x∈fs,aO f x.e≤f x.name.data.toList
def kF(fs:List Fw)(f:List UInt8→Nat):Prop:=(∀s,f s≤2)∧∀g,oF fs g→∀s,f s≤g s
def gV(fs:List Fw)(f:List UInt8→Nat):Prop:=oF fs f∧∀g,oF fs g→∀s,f s≤g s
theorem gV.one{fs:List Fw}{f g:List UInt8→Nat}(hf:gV fs f)(hg:gV fs g):f=g:=by
 funext s
 exact Nat.le_antisymm (hf.2 g hg.1 s) (hg.2 f hf.1 s)
theorem kF.start(fs:List Fw):kF fs fun _=>0:=⟨fun _=>Nat.zero_le _,fun _ _ _=>Nat.zero_le _⟩
def gH(f:List UInt8→Nat)(s:List UInt8)(n:Nat):List UInt8→Nat:=fun t=>if t=s then n else f t
theorem kF.put{fs:List Fw}{f:List UInt8→Nat}(h:kF fs f){x:Fw}(hx:x∈fs):kF fs (gH f x.name.data.toList (aO f x.e)):=by
 refine⟨fun s=>?_,fun g hg s=>?_⟩
 ·unfold gH;split
  ·exact oO h.1 _
  ·exact h.1 s
 ·unfold gH;split
  ·rename_i e
   rw[e]
   exact Nat.le_trans (vK (h.2 g hg) hg.1 _) (hg.2 x hx)
  ·exact h.2 g hg s
def iG(fs:List Fw)(f:List UInt8→Nat):Nat:=(fs.map fun x=>2-f x.name.data.toList).sum
theorem Bf:∀(l:List Fw) (a b:Fw→Nat),(∀x,a x≤b x)→(l.map a).sum≤(l.map b).sum
 | [],_,_,_=>by simp
 | x::l,a,b,h=>by
  have:=Bf l a b h
  have:=h x
  simp
  omega
theorem Be:∀(l:List Fw) (a b:Fw→Nat),(∀x,a x≤b x)→∀y∈l,a y<b y→(l.map a).sum<(l.map b).sum
 | [],_,_,_,y,hy,_=>by simp at hy
 | x::l,a,b,h,y,hy,hlt=>by
  have h1:=Bf l a b h
  have h2:=h x
  rcases List.mem_cons.1 hy with rfl | hy
  ·simp;omega
  ·have:=Be l a b h y hy hlt
   simp;omega
theorem LA{fs:List Fw}{f:List UInt8→Nat}{x:Fw}(hx:x∈fs){n:Nat}(hn:n≤2)(hlt:f x.name.data.toList<n):iG fs (gH f x.name.data.toList n)<iG fs f:=by
 refine Be fs _ _ (fun y=>?_) x hx ?_
 ·unfold gH
  split
  ·rename_i e;rw[e];omega
  ·omega
 ·unfold gH
  rw[if_pos rfl]
  omega
set_option maxRecDepth 100000
set_option maxHeartbeats 4000000

mutual
def eO:Ex→Prop
 | .mk op _ _ l=>(op.data.toList=bI→l.length=0)∧(op.data.toList=cZ→l.length=1)∧(op.data.toList=iZ→l.length=2)∧(op.data.toList=cK→l.length=2)∧iB l
def iB:List Ex→Prop
 | []=>True
 | e::es=>eO e∧iB es
end
theorem wK:∀{l:List Ex} {i:Nat} {e:Ex},iB l→l[i]?=some e→eO e
 | [],i,e,_,h=>by simp at h
 | x::l,0,e,hs,h=>by
  obtain rfl:x=e:=by simpa using h
  unfold iB at hs
  exact hs.1
 | x::l,i+1,e,hs,h=>by
  unfold iB at hs
  exact wK hs.2 (by simpa using h)
mutual
theorem OQ:∀e:Ex,eO e→qC e
 | .mk op n s l,h=>by
  unfold eO at h
  unfold qC
  exact⟨fun e=>by rw[h.2.2.2.1 e];omega,Ab l h.2.2.2.2⟩
theorem Ab:∀l:List Ex,iB l→kS l
 | [],_=>by unfold kS;trivial
 | e::l,h=>by
  unfold iB at h
  unfold kS
  exact⟨OQ e h.1,Ab l h.2⟩
end
mutual
theorem DX{kd:List UInt8→Option Int}:∀e:Ex,dG kd e=true→eO e
 | .mk op n s l,h=>by
  unfold dG at h
  rw[Bool.and_eq_true] at h
  have h1:=(sW h.1).2
  unfold eO
  have key:∀t:List UInt8,t≠bI→∀k,(eX t).map (fun q=>q.1.length)=some k→op.data.toList=t→l.length=k:=fun t ht k hk e=>by
   rw[e,if_neg ht] at h1
   obtain⟨tk,gv,hs,hl⟩:=h1
   rw[hs] at hk
   rw[hl]
   simpa using hk
  refine⟨fun e=>?_,key cZ (by decide) 1 (by decide),key iZ (by decide) 2 (by decide),key cK (by decide) 2 (by decide),zI l h.2⟩
  rw[if_pos e] at h1
  rw[h1.2]
  rfl
theorem zI{kd:List UInt8→Option Int}:∀l:List Ex,bG kd l=true→iB l
 | [],_=>by unfold iB;trivial
 | e::l,h=>by
  unfold bG at h
  rw[Bool.and_eq_true] at h
  unfold iB
  exact⟨DX e h.1,zI l h.2⟩
end
def jS(g:List UInt8→Option Int):Prop:=∀s,0≤(g s).getD 0∧(g s).getD 0≤2
def aL(g:List UInt8→Option Int):List UInt8→Nat:=fun s=>((g s).getD 0).toNat
theorem vJ{g:List UInt8→Option Int}(h:jS g)(s:List UInt8):(g s).getD 0=(aL g s:Int):=by
 have:=h s
 unfold aL
 omega
theorem yN{g:List UInt8→Option Int}(h:jS g)(s:List UInt8):aL g s≤2:=by
 have:=h s
 unfold aL
 omega
theorem EN(w:World)(n:Nat)(h:n≤2):Calls Tryz.prog 95 #[.int .i64 (n:Int)] w fun e w'=>e=.returned (.int .i64 (iJ n:Nat))∧w'=w:=by
 have hn:n=0∨n=1∨n=2:=by omega
 rcases hn with rfl | rfl | rfl
 ·go_enter Tryz.func95,Tryz.ntmps95
  go_wp2
  go_ret
  exact⟨rfl,rfl⟩
 ·go_enter Tryz.func95,Tryz.ntmps95
  go_wp2
  go_ret
  exact⟨rfl,rfl⟩
 ·go_enter Tryz.func95,Tryz.ntmps95
  go_wp2
  go_ret
  exact⟨rfl,rfl⟩
theorem Er(w:World)(a b:Nat)(h:b≤2):Calls Tryz.prog 96 #[.int .i64 (a:Int),.int .i64 (b:Int)] w fun e w'=>e=.returned (.int .i64 (iQ a b:Nat))∧w'=w:=by
 have hn:b=0∨b=1∨b=2:=by omega
 rcases hn with rfl | rfl | rfl
 ·go_enter Tryz.func96,Tryz.ntmps96
  go_wp2
  go_ret
  exact⟨rfl,rfl⟩
 ·go_enter Tryz.func96,Tryz.ntmps96
  go_wp2
  go_ret
  exact⟨rfl,rfl⟩
 ·go_enter Tryz.func96,Tryz.ntmps96
  go_wp2
  go_ret
  exact⟨rfl,rfl⟩
def Fg(m:Nat):Prop:=∀(op:ByteArray) (n:Int) (s:ByteArray) (l:List Ex),SizeOf.sizeOf l<m→∀(w:World) (S:Nat→Prop) (o:Option Addr) (c:Nat) (ys:List Value) (K nK:Nat) (g:List UInt8→Option Int),aR w K nK (aS g)→jS g→eG (.mk op n s l)→eO (.mk op n s l)→aB w S 4 (.slice o l.length c) l.length ys→aI w S l ys →
  Calls Tryz.prog 49 #[.agg #[.string op,.int .i64 n,.string s,.slice o l.length c],.map (some K)] w fun e w'=>e=.returned (.int .i64 (aO (aL g) (.mk op n s l):Nat))∧Bw w w'
structure tL(w:World)(S:Nat→Prop)(B1 B2:Nat)(op:ByteArray)(n:Int)(s:ByteArray)(l:List Ex)(o:Option Addr)(c:Nat)(ys:List Value)(K nK:Nat)(g:List UInt8→Option Int):Prop where
 b1:w.heap[B1]?=some (.cells #[.string op,.int .i64 n,.string s,.slice o l.length c] 92 (0,0))
 b2:w.heap[B2]?=some (.cells #[.map (some K)] 96 (0,0))
 fn:aR w K nK (aS g)
 row:aB w S 4 (.slice o l.length c) l.length ys
 ex:aI w S l ys
theorem tL.keep{w w':World}{S:Nat→Prop}{B1 B2:Nat}{op:ByteArray}{n:Int}{s:ByteArray}{l:List Ex}{o:Option Addr}{c:Nat}{ys:List Value}{K nK:Nat}{g:List UInt8→Option Int}(h:tL w S B1 B2 op n s l o c ys K nK g)(hb:Bw w w'):tL w' S B1 B2 op n s l o c ys K nK g:=
 ⟨aG hb h.b1,aG hb h.b2,h.fn.kept (hb.block _ h.fn.lt),h.row.keep (fun b hB hl=>⟨hB,hb.block b hl⟩),h.ex.keep (fun b hB hl=>⟨hB,hb.block b hl⟩)⟩
theorem LU{m:Nat}(IH:Fg m){w:World}{S:Nat→Prop}{B1 B2:Nat}{op:ByteArray}{n:Int}{s:ByteArray}{l:List Ex}{o:Option Addr}{c:Nat}{ys:List Value}{K nK:Nat}{g:List UInt8→Option Int}(h:tL w S B1 B2 op n s l o c ys K nK g)(hg:jS g)(hsm:gM l)(har:iB l)(hm:SizeOf.sizeOf l<m+1){i:Nat}{x:Ex}(hi:l[i]?=some x) :
  Calls Tryz.prog 94 #[.int .i64 (i:Int),.pointer (some ⟨B1,0,none⟩),.pointer (some ⟨B2,0,none⟩)] w fun e w'=>e=.returned (.int .i64 (aO (aL g) x:Nat))∧Bw w w':=by
 have hil:=(aX hi).1
 obtain⟨op',n',s',es,oo,cc,zs,e,x0,x1,x2,x3,r1,r2⟩:=h.ex.at hil
 obtain⟨p,f,cp,ev,_,_,gg⟩:=h.row.at (by have:=h.row.1;omega)
 obtain⟨rfl,rfl⟩:o=some ⟨p,f,none⟩∧c=cp:=by simpa using ev
 have y0:=gg _ _ x0
 have y1:=gg _ _ x1
 have y2:=gg _ _ x2
 have y3:=gg _ _ x3
 rw[←Nat.add_assoc] at y1 y2 y3
 have i0':(0:Int)≤(i:Int):=by omega
 have i1':(i:Int)<(l.length:Int):=by omega
 have hx:x=.mk op' n' s' es:=by rw[List.getElem?_eq_getElem hil,e] at hi;exact(Option.some.inj hi).symm
 subst hx
 have c3:w.cell? ⟨B1,0+3,none⟩=some (.slice (some ⟨p,f,none⟩) l.length c):=cr h.b1 rfl
 have c4:w.cell? ⟨B2,0,none⟩=some (.map (some K)):=cr h.b2 rfl
 have HC:Hid (∀W,Bw w W→Calls Tryz.prog 49 #[.agg #[.string op',.int .i64 n',.string s',.slice oo es.length cc],.map (some K)] W fun e w'=>e=.returned (.int .i64 (aO (aL g) (.mk op' n' s' es):Nat))∧Bw w w'):=fun W hW=>by
  have hst:aP S S w W:=fun b hB hl=>⟨hB,hW.block b hl⟩
  refine(IH op' n' s' es (by have:=kC hil e;omega) W S oo cc zs K nK g (h.fn.kept (hW.block _ h.fn.lt)) hg (lY hsm hi) (wK har hi) (r1.keep hst) (r2.keep hst)).mono ?_
  rintro e w' ⟨rfl,hb⟩
  exact⟨rfl,hW.trans (hb.mono hW.size)⟩
 clear IH h hg hsm har hm hi e x0 x1 x2 x3 r1 r2 ev gg hil
 go_enter Tryz.func94,Tryz.ntmps94
 go_upto_region 1 with fail
 go_region_with (go_at_call 49;refine(HC.out _ (by first | exact Below.refl _ _ | exact(Below.refl _ _).drew)).mono ?_;rintro e w6 ⟨rfl,hb6⟩;have HB6:Hid (Bw w w6):=hb6)
 all_goals go_wp2
 all_goals go_ret
 all_goals exact⟨rfl,HB6.out⟩
theorem yQ:∀m:Nat,Fg m
 | 0=>fun _ _ _ _ h=>absurd h (Nat.not_lt_zero _)
 | m+1=>by
  have IH:=yQ m
  intro op n s l hm w S o c ys K nK g hF hg hsm har hrow hex
  unfold eG at hsm
  unfold eO at har
  obtain⟨a1,a2,a3,a4,a5⟩:=har
  have hml:=hrow.2.1
  unfold maxLen at hml
  obtain⟨w1,hw1⟩:∃w1,w1=w.alloc (.cells #[.string op,.int .i64 n,.string s,.slice o l.length c] 92):=⟨_,rfl⟩
  obtain⟨w2,hw2⟩:∃w2,w2=w1.alloc (.cells #[.map (some K)] 96):=⟨_,rfl⟩
  have hb1:Bw w w1:=by rw[hw1];exact aH
  have hb2:Bw w1 w2:=by rw[hw2];exact aH
  have hs1:w1.heap.size=w.heap.size+1:=by rw[hw1];simp
  have hbb:Bw w w2:=hb1.trans (hb2.mono hb1.size)
  have hst:aP S S w w2:=fun b hB hl=>⟨hB,hbb.block b hl⟩
  have hr1:w1.heap[w.heap.size]?=some (.cells #[.string op,.int .i64 n,.string s,.slice o l.length c] 92 (0,0)):=by rw[hw1];exact heap_alloc_new _ _
  have hr2:w2.heap[w.heap.size+1]?=some (.cells #[.map (some K)] 96 (0,0)):=by rw[hw2,←hs1];exact heap_alloc_new _ _
  obtain⟨B1,hB1⟩:∃B1,B1=w.heap.size:=⟨_,rfl⟩
  obtain⟨B2,hB2⟩:∃B2,B2=w.heap.size+1:=⟨_,rfl⟩
  have hLA:tL w2 S B1 B2 op n s l o c ys K nK g:=⟨by rw[hB1];exact aG hb2 hr1,by rw[hB2];exact hr2,hF.kept (hbb.block _ hF.lt),hrow.keep hst,hex.keep hst⟩
  have c0:w2.cell? ⟨B1,0,none⟩=some (.string op):=cr hLA.b1 rfl
  have c2:w2.cell? ⟨B1,0+2,none⟩=some (.string s):=cr hLA.b1 rfl
  have c3:w2.cell? ⟨B1,0+3,none⟩=some (.slice o l.length c):=cr hLA.b1 rfl
  have c4:w2.cell? ⟨B2,0,none⟩=some (.map (some K)):=cr hLA.b2 rfl
  have HL1:Hid (∀(W:World) (i:Nat) (x:Ex),Bw w2 W→l[i]?=some x→Calls Tryz.prog 94 #[.int .i64 (i:Int),.pointer (some ⟨B1,0,none⟩),.pointer (some ⟨B2,0,none⟩)] W fun e w'=>e=.returned (.int .i64 (aO (aL g) x:Nat))∧Bw w2 w'):=fun W i x hW hi=>by
   refine(LU IH (hLA.keep hW) hg hsm.2.2 a5 hm hi).mono ?_
   rintro e w' ⟨rfl,hb⟩
   exact⟨rfl,hW.trans (hb.mono hW.size)⟩
  have HW:Hid (w.alloc (.cells #[.string op,.int .i64 n,.string s,.slice o l.length c] 92)=w1∧w1.alloc (.cells #[.map (some K)] 96)=w2∧w.heap.size+1=B2∧w.heap.size=B1):=⟨hw1.symm,hw2.symm,hB2.symm,hB1.symm⟩
  have HBB:=aA hbb
  have HML:Hid (l.length≤9223372036854775807):=by unfold Hid;omega
  have HG:Hid (∀s,aL g s≤2):=fun s=>yN hg s
  by_cases ho:op.data.toList=bI
  ·have HE:Hid (aO (aL g) (.mk op n s l)=aL g s.data.toList):=by unfold Hid;rw[oN,if_pos ho]
   have dn:(op.toList==[110,97,109,101])=true:=by rw[ByteArray.toList_eq,ho];rfl
   have hlk:=hLA.fn.nR Tryz.underlying96 (jL w2) s hsm.2.1
   have e1:(aS g s.data.toList).getD (.int .i64 0)=.int .i64 ((g s.data.toList).getD 0):=lT _
   rw[e1,vJ hg] at hlk
   clear IH hm hF hg hsm a1 a2 a3 a4 a5 hrow hex hml hw1 hw2 hb1 hb2 hs1 hbb hst hr1 hr2 hB1 hB2 hLA e1 ho c3
   go_enter Tryz.func49,Tryz.ntmps49
   go_upto_region 1 with fail
   rw[HW.out.1,HW.out.2.2.1,HW.out.2.1,HW.out.2.2.2]
   go_wp2
   go_ret
   exact⟨by rw[HE.out];rfl,HBB.out⟩
  have hn:=ho
  clear ho
  by_cases ho:op.data.toList=cZ
  ·obtain⟨x,hx⟩:∃x,l[0]?=some x:=⟨_,List.getElem?_eq_getElem (by rw[a2 ho];omega)⟩
   have HE:Hid (aO (aL g) (.mk op n s l)=iJ (aO (aL g) x)):=by unfold Hid;rw[oN,if_neg hn,if_pos ho,sK hx]
   have dn:(op.toList==[110,97,109,101])=false:=by rw[ByteArray.toList_eq,ho];rfl
   have dp:(op.toList==[112,114,101])=true:=by rw[ByteArray.toList_eq,ho];rfl
   have HC0:Hid (Calls Tryz.prog 94 #[.int .i64 0,.pointer (some ⟨B1,0,none⟩),.pointer (some ⟨B2,0,none⟩)] w2 fun e w'=>e=.returned (.int .i64 (aO (aL g) x:Nat))∧Bw w2 w'):=HL1.out w2 0 x (Below.refl _ _) hx
   obtain⟨k,hk⟩:∃k,k=aO (aL g) x:=⟨_,rfl⟩
   have HK:Hid (k≤2):=by unfold Hid;rw[hk];exact oO HG.out x
   rw[←hk] at HC0 HE
   have HAG:Hid (∀W,Calls Tryz.prog 95 #[.int .i64 (k:Int)] W fun e w'=>e=.returned (.int .i64 (iJ k:Nat))∧w'=W):=fun W=>EN W k HK.out
   clear IH hm hF hg hsm a1 a2 a3 a4 a5 hrow hex hml hw1 hw2 hb1 hb2 hs1 hbb hst hr1 hr2 hB1 hB2 hLA ho hn hx hk c2 c3 c4
   go_enter Tryz.func49,Tryz.ntmps49
   go_upto_region 1 with fail
   rw[HW.out.1,HW.out.2.2.1,HW.out.2.1,HW.out.2.2.2]
   go_wp2_with fail
   refine HC0.out.mono ?_
   rintro e w3 ⟨rfl,hb3⟩
   have HB3:=aA hb3
   clear hb3 c0
   go_wp2_with fail
   refine(HAG.out w3).mono ?_
   rintro e w4 ⟨rfl,hw4⟩
   subst hw4
   go_wp2
   go_ret
   exact⟨by rw[HE.out];rfl,HBB.out.trans (HB3.out.mono HBB.out.size)⟩
  have hp:=ho
  clear ho
  by_cases ho:op.data.toList=iZ
  ·obtain⟨x,hx⟩:∃x,l[0]?=some x:=⟨_,List.getElem?_eq_getElem (by rw[a3 ho];omega)⟩
   obtain⟨y,hy⟩:∃x,l[1]?=some x:=⟨_,List.getElem?_eq_getElem (by rw[a3 ho];omega)⟩
   have HE:Hid (aO (aL g) (.mk op n s l)=iQ (aO (aL g) x) (aO (aL g) y)):=by unfold Hid;rw[oN,if_neg hn,if_neg hp,if_pos ho,sK hx,sK hy]
   have dn:(op.toList==[110,97,109,101])=false:=by rw[ByteArray.toList_eq,ho];rfl
   have dp:(op.toList==[112,114,101])=false:=by rw[ByteArray.toList_eq,ho];rfl
   have da:(op.toList==[45,62])=true:=by rw[ByteArray.toList_eq,ho];rfl
   have HC0:Hid (Calls Tryz.prog 94 #[.int .i64 0,.pointer (some ⟨B1,0,none⟩),.pointer (some ⟨B2,0,none⟩)] w2 fun e w'=>e=.returned (.int .i64 (aO (aL g) x:Nat))∧Bw w2 w'):=HL1.out w2 0 x (Below.refl _ _) hx
   have HC1:Hid (∀W,Bw w2 W→Calls Tryz.prog 94 #[.int .i64 1,.pointer (some ⟨B1,0,none⟩),.pointer (some ⟨B2,0,none⟩)] W fun e w'=>e=.returned (.int .i64 (aO (aL g) y:Nat))∧Bw w2 w'):=fun W hW=>HL1.out W 1 y hW hy
   obtain⟨k,hk⟩:∃k,k=aO (aL g) x:=⟨_,rfl⟩
   obtain⟨j,hj⟩:∃k,k=aO (aL g) y:=⟨_,rfl⟩
   have HK:Hid (j≤2):=by unfold Hid;rw[hj];exact oO HG.out y
   rw[←hk,←hj] at HE
   rw[←hk] at HC0
   rw[←hj] at HC1
   have HBE:Hid (∀W,Calls Tryz.prog 96 #[.int .i64 (k:Int),.int .i64 (j:Int)] W fun e w'=>e=.returned (.int .i64 (iQ k j:Nat))∧w'=W):=fun W=>Er W k j HK.out
   clear IH hm hF hg hsm a1 a2 a3 a4 a5 hrow hex hml hw1 hw2 hb1 hb2 hs1 hbb hst hr1 hr2 hB1 hB2 hLA ho hn hp hx hy hk hj c2 c3 c4
   go_enter Tryz.func49,Tryz.ntmps49
   go_upto_region 1 with fail
   rw[HW.out.1,HW.out.2.2.1,HW.out.2.1,HW.out.2.2.2]
   go_wp2_with fail
   refine HC0.out.mono ?_
   rintro e w3 ⟨rfl,hb3⟩
   have HB3:=aA hb3
   clear hb3 c0
   go_wp2_with fail
   refine(HC1.out w3 HB3.out).mono ?_
   rintro e w4 ⟨rfl,hb4⟩
   have HB4:=aA hb4
   clear hb4
   go_wp2_with fail
   refine(HBE.out w4).mono ?_
   rintro e w5 ⟨rfl,hw5⟩
   subst hw5
   go_wp2
   go_ret
   exact⟨by rw[HE.out];rfl,HBB.out.trans (HB4.out.mono HBB.out.size)⟩
  have ha:=ho
  clear ho
  by_cases ho:op.data.toList=cK
  ·obtain⟨x,hx⟩:∃x,l[0]?=some x:=⟨_,List.getElem?_eq_getElem (by rw[a4 ho];omega)⟩
   obtain⟨y,hy⟩:∃x,l[1]?=some x:=⟨_,List.getElem?_eq_getElem (by rw[a4 ho];omega)⟩
   have HE:Hid (aO (aL g) (.mk op n s l)=iQ (aO (aL g) x) (iJ (aO (aL g) y))):=by unfold Hid;rw[oN,if_neg hn,if_neg hp,if_neg ha,if_pos ho,sK hx,sK hy]
   have dn:(op.toList==[110,97,109,101])=false:=by rw[ByteArray.toList_eq,ho];rfl
   have dp:(op.toList==[112,114,101])=false:=by rw[ByteArray.toList_eq,ho];rfl
   have da:(op.toList==[45,62])=false:=by rw[ByteArray.toList_eq,ho];rfl
   have df:(op.toList==[102,98,121])=true:=by rw[ByteArray.toList_eq,ho];rfl
   have HC0:Hid (Calls Tryz.prog 94 #[.int .i64 0,.pointer (some ⟨B1,0,none⟩),.pointer (some ⟨B2,0,none⟩)] w2 fun e w'=>e=.returned (.int .i64 (aO (aL g) x:Nat))∧Bw w2 w'):=HL1.out w2 0 x (Below.refl _ _) hx
   have HC1:Hid (∀W,Bw w2 W→Calls Tryz.prog 94 #[.int .i64 1,.pointer (some ⟨B1,0,none⟩),.pointer (some ⟨B2,0,none⟩)] W fun e w'=>e=.returned (.int .i64 (aO (aL g) y:Nat))∧Bw w2 w'):=fun W hW=>HL1.out W 1 y hW hy
   obtain⟨k,hk⟩:∃k,k=aO (aL g) x:=⟨_,rfl⟩
   obtain⟨j,hj⟩:∃k,k=aO (aL g) y:=⟨_,rfl⟩
   have HK:Hid (j≤2):=by unfold Hid;rw[hj];exact oO HG.out y
   rw[←hk,←hj] at HE
   rw[←hk] at HC0
   rw[←hj] at HC1
   have HAG:Hid (∀W,Calls Tryz.prog 95 #[.int .i64 (j:Int)] W fun e w'=>e=.returned (.int .i64 (iJ j:Nat))∧w'=W):=fun W=>EN W j HK.out
   have HBE:Hid (∀W,Calls Tryz.prog 96 #[.int .i64 (k:Int),.int .i64 (iJ j:Nat)] W fun e w'=>e=.returned (.int .i64 (iQ k (iJ j):Nat))∧w'=W):=fun W=>Er W k _ (Ac j)
   clear IH hm hF hg hsm a1 a2 a3 a4 a5 hrow hex hml hw1 hw2 hb1 hb2 hs1 hbb hst hr1 hr2 hB1 hB2 hLA ho hn hp ha hx hy hk hj c2 c3 c4
   go_enter Tryz.func49,Tryz.ntmps49
   go_upto_region 1 with fail
   rw[HW.out.1,HW.out.2.2.1,HW.out.2.1,HW.out.2.2.2]
   go_wp2_with fail
   refine HC0.out.mono ?_
   rintro e w3 ⟨rfl,hb3⟩
   have HB3:=aA hb3
   clear hb3 c0
   go_wp2_with fail
   refine(HC1.out w3 HB3.out).mono ?_
   rintro e w4 ⟨rfl,hb4⟩
   have HB4:=aA hb4
   clear hb4
   go_wp2_with fail
   refine(HAG.out w4).mono ?_
   rintro e w5 ⟨rfl,hw5⟩
   subst hw5
   go_wp2_with fail
   refine(HBE.out w5).mono ?_
   rintro e w6 ⟨rfl,hw6⟩
   subst hw6
   go_wp2
   go_ret
   exact⟨by rw[HE.out];rfl,HBB.out.trans (HB4.out.mono HBB.out.size)⟩
  have hf:=ho
  clear ho
  have HE:Hid (aO (aL g) (.mk op n s l)=(aW (aL g) l).foldl Nat.max 0):=by unfold Hid;rw[oN,if_neg hn,if_neg hp,if_neg ha,if_neg hf]
  have dn:(op.toList==[110,97,109,101])=false:=by rw[ByteArray.toList_eq];exact beq_eq_false_iff_ne.2 hn
  have dp:(op.toList==[112,114,101])=false:=by rw[ByteArray.toList_eq];exact beq_eq_false_iff_ne.2 hp
  have da:(op.toList==[45,62])=false:=by rw[ByteArray.toList_eq];exact beq_eq_false_iff_ne.2 ha
  have df:(op.toList==[102,98,121])=false:=by rw[ByteArray.toList_eq];exact beq_eq_false_iff_ne.2 hf
  clear IH hm hF hg hsm a1 a2 a3 a4 a5 hrow hex hml hw1 hw2 hb1 hb2 hs1 hbb hst hr1 hr2 hB1 hB2 hLA hn hp ha hf c2 c4
  go_enter Tryz.func49,Tryz.ntmps49
  go_upto_region 1 with fail
  rw[HW.out.1,HW.out.2.2.1,HW.out.2.1,HW.out.2.2.2]
  go_wp2
  clear c0 c3
  go_loopw [6,40] (fun v t wr=>∃(j q:Nat),j≤l.length∧t=.int .i64 j∧v=.int .i64 q∧Hid (q=((aW (aL g) l).take j).foldl Nat.max 0∧Bw w2 wr)) (fun _ t _=>l.length-(intOf t).toNat)
  case atStart=>exact⟨0,0,Nat.zero_le _,rfl,rfl,rfl,Below.refl _ _⟩
  case round=>
   obtain⟨j,q,hj,rfl,rfl,HR⟩:=hrel
   by_cases hjl:j<l.length
   ·obtain⟨x,hx⟩:∃x,l[j]?=some x:=⟨_,List.getElem?_eq_getElem hjl⟩
    obtain⟨k,hk⟩:∃k,k=aO (aL g) x:=⟨_,rfl⟩
    have hca:=HL1.out wr j x HR.out.2 hx
    rw[←hk] at hca
    have HCA:=aA hca
    have HQ:Hid (Nat.max q k=((aW (aL g) l).take (j+1)).foldl Nat.max 0):=by
     unfold Hid
     have h1:(aW (aL g) l)[j]?=some k:=by rw[kM,List.getElem?_map,hx,hk];rfl
     rw[List.take_add_one,h1,HR.out.1]
     simp
    have HJ:=aA hjl
    have N4:Hid (wrap64 ((j:Int)+1)=(j:Int)+1):=by have:=HML.out;have:=HJ.out;unfold Hid wrap64;omega
    have i1':(j:Int)<(l.length:Int):=by omega
    clear hca hx hk hj hjl HR
    go_wp2_with fail
    refine HCA.out.mono ?_
    rintro e w4 ⟨rfl,hb4⟩
    have HB4:=aA hb4
    clear hb4
    by_cases hqk:q≤k
    ·have d1:decide ((k:Int)<(q:Int))=false:=by simp;omega
     have d2:((k:Int)<(q:Int))=False:=by simp;omega
     have HQC:=aA hqk
     have HQK:Hid (Nat.max q k=k):=Nat.max_eq_right hqk
     clear hqk
     go_wp2
     exact⟨⟨j+1,k,HJ.out,by rw[N4.out];rfl,by congr 1;have:=HQC.out;split<;>omega,by rw[←HQ.out,HQK.out],HB4.out⟩,by rw[N4.out];have:=HJ.out;simp [intOf];omega⟩
    ·have d1:decide ((k:Int)<(q:Int))=true:=by simp;omega
     have HQC:=aA hqk
     have HQK:Hid (Nat.max q k=q):=Nat.max_eq_left (by omega)
     clear hqk
     go_wp2
     exact⟨⟨j+1,q,HJ.out,by rw[N4.out];rfl,by congr 1;have:=HQC.out;split<;>omega,by rw[←HQ.out,HQK.out],HB4.out⟩,by rw[N4.out];have:=HJ.out;simp [intOf];omega⟩
   ·obtain rfl:j=l.length:=by omega
    have HEE:Hid (q=aO (aL g) (.mk op n s l)∧Bw w wr):=by
     refine⟨?_,HBB.out.trans (HR.out.2.mono HBB.out.size)⟩
     rw[HE.out,HR.out.1,List.take_of_length_le (by rw[kM];simp)]
    clear hj hjl HR
    go_wp2
    go_ret
    exact⟨by rw[HEE.out.1];rfl,HEE.out.2⟩
end Go.Proofs.YtmgfakcccfahaaaGreatDoor
