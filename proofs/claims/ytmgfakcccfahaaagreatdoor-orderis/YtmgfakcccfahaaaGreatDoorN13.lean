/-
  package flat: slices.Clone of terms BY CONTRACT.
-/
import Derived.Test.YtmgfakcccfahaaaGreatDoorN12
import Derived.Lib.AppendZerosOnto
set_option maxRecDepth 100000
set_option maxHeartbeats 4000000
namespace Go.Proofs.YtmgfakcccfahaaaGreatDoor
open Go.RowKit Go.Maps

theorem Tryz.qA:(Tryz.prog.info? 92).map (fun i=>(i.zero,i.size,i.bytes))=some (some (.agg #[.string ⟨#[]⟩,.int .i64 0,.string ⟨#[]⟩,.slice none 0 0]),4,64):=by kernel_rfl
theorem N9(w:World)(b off c:Nat) :
  Calls Tryz.prog 129 #[.slice (some ⟨b,off,none⟩) 0 c] w fun e w'=>∃g cap,e=.returned (.slice g 0 cap)∧w'.ownsRow w.heap.size 92 4 (.slice g 0 cap) 0 []∧Bw w w':=by
 have hnil:=fun (w:World) (a:Option Addr) (n c:Nat)=>Lib.run_eql_slice_nil w 37 92 a n c 0 0 Tryz.underlying37
 go_enter Tryz.func129,Tryz.ntmps129
 go_wp2
 go_ret
 exact⟨_,_,rfl,⟨rfl,.inr ⟨w.heap.size,0,#[],rfl,Nat.le_refl _,heap_alloc_new _ _,Nat.le_refl _,by unfold maxLen;omega,rfl,rfl⟩⟩,aH⟩
theorem Oa(w:World)(S:Nat→Prop)(m:Nat)(xs:List Value)(o:Option Addr)(c:Nat)(h:aB w S 4 (.slice o m c) m xs)(hx:xs.length=m*4)(h1:∀u∈xs,u.oneCell'=true)(hn:m=0→(o=none∧c=0)∨∃b off,o=some ⟨b,off,none⟩)(hs:m≤4000) :
  Calls Tryz.prog 129 #[.slice o m c] w fun e w'=>∃g cap,e=.returned (.slice g m cap)∧w'.ownsRow w.heap.size 92 4 (.slice g m cap) m xs∧Bw w w':=by
 obtain⟨i0,hi0,hz0,hz1,hz2⟩:=info_parts Tryz.qA
 have hnil:=fun (w:World) (a:Option Addr) (n c:Nat)=>Lib.run_eql_slice_nil w 37 92 a n c 0 0 Tryz.underlying37
 by_cases h0:m=0
 ·have hn0:=hn h0
  subst h0
  obtain rfl:xs=[]:=List.eq_nil_of_length_eq_zero (by omega)
  clear h hn hs hx h1
  rcases hn0 with⟨rfl,rfl⟩ | ⟨b,off,rfl⟩
  case inr=>exact N9 w b off c
  go_enter Tryz.func129,Tryz.ntmps129
  go_wp2
  go_ret
  exact⟨none,0,rfl,World.ownsRow_nil _ _ _ _,Below.refl _ _⟩
 ·obtain⟨b,off,c',e,hb,hl,hc⟩:=h.at (by omega)
  obtain⟨rfl,rfl⟩:o=some ⟨b,off,none⟩∧c=c':=by simpa using e
  have HC:=aA hc
  have HS:Hid (m≤4000∧0<m):=⟨hs,by omega⟩
  have HLN:=aA hx
  have HX1:=aA h1
  have HOW:Hid ((w.alloc (.cells #[] 92)).ownsRow w.heap.size 92 4 (.slice (some ⟨w.heap.size,0,none⟩) 0 0) 0 []):=⟨rfl,.inr ⟨w.heap.size,0,#[],rfl,Nat.le_refl _,heap_alloc_new _ _,Nat.le_refl _,by unfold maxLen;omega,rfl,rfl⟩⟩
  have hba:Bw w (w.alloc (.cells #[] 92)):=aH
  have HNW:Hid (∀j u,xs[j]?=some u→(w.alloc (.cells #[] 92)).cell? ((⟨b,off,none⟩:Addr).add j)=some u):=fun j u hj=>by rw[Addr.add_lit];exact aF hba (HC.out j u hj)
  have HBA:=aA hba
  have HM:Hid (0<m∧0+m≤maxLen∧(0+m)*64≤140737488355328):=by have:=HS.out;unfold Hid maxLen;omega
  clear h hn hs h0 e hb hc hba hx h1
  go_enter Tryz.func129,Tryz.ntmps129
  go_wp2_with (at_builtin;refine wpList_append_lies _ rfl _ _ 37 rfl w.heap.size 92 i0 _ 4 64 Tryz.underlying37 hi0 hz0 hz1 hz2 rfl (by omega) (.slice (some ⟨w.heap.size,0,none⟩) 0 0) 0 [] rfl HOW.out ⟨b,off,none⟩ m c xs rfl HLN.out HNW.out HX1.out HM.out.1 HM.out.2.1 HM.out.2.2 HBA.out.size _ rfl ?_;intro g cap w2 hown2 hgrow hat hlt)
  rw[Nat.zero_add,List.nil_append] at hown2
  have hb2:Bw w w2:=HBA.out.grown hgrow HBA.out.size (fun k hk=>by simp [Value.ownBlock] at hk;omega)
  go_ret
  exact⟨_,_,rfl,hown2,hb2⟩

theorem DI(w:World)(n:Nat)(hs:n≤8000) :
  Calls Tryz.prog 93 #[.slice none 0 0,.int .i64 n] w fun e w'=>∃g cap,e=.returned (.slice g 0 cap)∧w'.ownsRow w.heap.size 92 4 (.slice g 0 cap) 0 []∧Bw w w':=by
 obtain⟨i0,hi0,hz0,hz1,hz2⟩:=info_parts Tryz.qA
 by_cases h0:n=0
 ·subst h0
  go_enter Tryz.func93,Tryz.ntmps93
  go_wp2
  go_ret
  exact⟨none,0,rfl,World.ownsRow_nil _ _ _ _,Below.refl _ _⟩
 ·have h1:¬((n:Int)<0):=by omega
  have h3:wrap64 ((n:Int)-0)=(n:Int):=by unfold wrap64;omega
  have h4:(n:Int) > 0:=by omega
  have hold:(Builtin.firstCells i0.size 0 (.slice none 0 0)).run Tryz.prog w.drew=.ok ([]:List Value).toArray w.drew:=run_firstCells_none w.drew i0.size 0 0 0
  have hrz:=fun ty=>Lib.run_append_grow_zeros w 37 3 ty 92 i0 _ .i64 .i64 Tryz.underlying37 Tryz.underlying3 hi0 hz0 none 0 0 [] hold n (by omega) (by omega) (by omega) (by omega) (by rw[hz2];omega) (by rw[hz2];exact growslice_fits (by omega) (by omega))
  rw[Nat.zero_add] at hrz
  obtain⟨G,hG⟩:∃G,G=grownCap w n 0 92:=⟨_,rfl⟩
  have hGn:n≤G:=by rw[hG];exact grownCap_ge w _ _ _
  have hGm:G≤maxLen:=by rw[hG];exact grownCap_le_maxLen w n 0 _ (by unfold maxLen;omega)
  rw[←hG] at hrz
  obtain⟨cs,hcs⟩:∃cs,cs=([]:List Value).toArray++Builtin.zeroCells (Value.cells (.agg #[.string ⟨#[]⟩,.int .i64 0,.string ⟨#[]⟩,.slice none 0 0])) n++Builtin.zeroCells (Value.cells (.agg #[.string ⟨#[]⟩,.int .i64 0,.string ⟨#[]⟩,.slice none 0 0])) (G-n):=⟨_,rfl⟩
  rw[←hcs] at hrz
  have hsz:cs.size=G*4:=by
   rw[hcs]
   simp only[Array.size_append,List.size_toArray,size_zeroCells,List.length_nil]
   have:(Value.cells (.agg #[.string ⟨#[]⟩,.int .i64 0,.string ⟨#[]⟩,.slice none 0 0])).size=4:=rfl
   rw[this]
   omega
  have HF:Hid ((w.drew.alloc (.cells cs 92)).ownsRow w.heap.size 92 4 (.slice (some ⟨w.heap.size,0,none⟩) 0 G) 0 []∧Bw w (w.drew.alloc (.cells cs 92))):=
   ⟨⟨rfl,.inr ⟨w.heap.size,G,cs,rfl,Nat.le_refl _,heap_alloc_new w.drew _,Nat.zero_le _,hGm,hsz,by simp⟩⟩,(Below.drew (Below.refl _ _)).alloc (Nat.le_refl _) _⟩
  have hG63:G≤9223372036854775807:=by unfold maxLen at hGm;omega
  clear hold hcs hsz hG hGm
  go_enter Tryz.func93,Tryz.ntmps93
  go_wp2_with (at_builtin;refine Lib.wpList_append_run _ rfl _ _ _ _ rfl _ _ rfl rfl _ _ (hrz _) ?_)
  all_goals (go_ret;exact⟨_,_,rfl,HF.out.1,HF.out.2⟩)

abbrev mY:=Option Addr×Nat×Nat×List Value
def uN(q:mY):Value:=.slice q.1 q.2.1 q.2.2.1
def O1(w:World)(S:Nat→Prop)(q:mY):Prop:=aB w S 4 (uN q) q.2.1 q.2.2.2∧∀u∈q.2.2.2,u.oneCell'=true
def dF(L:List mY):Nat:=(L.map fun q=>q.2.1).sum
def kY(L:List mY):List Value:=L.flatMap fun q=>q.2.2.2
theorem Bj{L:List mY}{j:Nat}{q:mY}(h:L[j]?=some q):dF (L.take (j+1))=dF (L.take j)+q.2.1:=by
 simp [dF,List.take_add_one,h]
theorem G6{L:List mY}{j:Nat}{q:mY}(h:L[j]?=some q):kY (L.take (j+1))=kY (L.take j)++q.2.2.2:=by
 simp [kY,List.take_add_one,h]
theorem xM:∀(L:List mY) (j:Nat),dF (L.take j)≤dF L
 | [],j=>by simp [dF]
 | q::L,0=>by simp [dF]
 | q::L,j+1=>by have:=xM L j;simp only[dF,List.take_succ_cons,List.map_cons,List.sum_cons] at this ⊢;omega
theorem OV{w:World}{base n:Nat}{v:Value}{xs:List Value}(hown:w.ownsRow base 92 4 v n xs)(p:Option Addr)(c:Nat)(ty:TypeId) :
  (Builtin.append_ #[37,37] ty #[v,.slice p 0 c]).run Tryz.prog w=.ok v w:=by
 obtain⟨i0,hi0,hz0,hz1,hz2⟩:=info_parts Tryz.qA
 have ht:=Tryz.underlying37
 rcases hown.2 with⟨rfl,rfl⟩ | ⟨g,cap,cur,rfl,_,_,hnc,_⟩
 ·cases p<;>simp [Builtin.append_,run_underlying ht,sizeOf,typeInfo,hi0,Builtin.lenOf,Builtin.firstCells,loadCells,loadCellsFrom]
 ·cases p<;>simp [Builtin.append_,run_underlying ht,sizeOf,typeInfo,hi0,Builtin.lenOf,Builtin.firstCells,hnc,loadCells,loadCellsFrom,storeCells]

theorem Eh(w:World)(S:Nat→Prop)(L:List mY)(B C:Nat)(hB:∀j q,L[j]?=some q→w.cell? ⟨B,j,none⟩=some (uN q)∧O1 w S q)(hl:L.length≤100)(hs:dF L≤8000) :
  Calls Tryz.prog 48 #[.slice (some ⟨B,0,none⟩) L.length C] w fun e w'=>∃g cap,e=.returned (.slice g (dF L) cap)∧w'.ownsRow w.heap.size 92 4 (.slice g (dF L) cap) (dF L) (kY L)∧Bw w w':=by
 obtain⟨i0,hi0,hz0,hz1,hz2⟩:=info_parts Tryz.qA
 have HB:=aA hB
 have HL:Hid (L.length≤100∧dF L≤8000):=⟨hl,hs⟩
 have HG:Hid (∀w n,n≤8000→_):=fun w n h=>DI w n h
 clear hB hl hs
 go_enter Tryz.func48,Tryz.ntmps48
 go_wp2
 go_loopw [3,11] (fun v t wr=>wr=w∧∃j:Nat,j≤L.length∧t=.int .i64 j∧v=.int .i64 (dF (L.take j))) (fun _ t _=>L.length-(intOf t).toNat)
 case atStart=>exact⟨rfl,0,Nat.zero_le _,rfl,rfl⟩
 case round=>
  obtain⟨he,j,hj,rfl,rfl⟩:=hrel
  subst wr
  by_cases hjl:j<L.length
  ·obtain⟨q,hq⟩:∃q,L[j]?=some q:=⟨_,List.getElem?_eq_getElem hjl⟩
   have y0:=(HB.out j q hq).1
   unfold uN at y0
   have hle:=xM L (j+1)
   have hst:=Bj hq
   have i0':(0:Int)≤(j:Int):=by omega
   have i1':(j:Int)<(L.length:Int):=by omega
   have hw2:wrap64 ((dF (L.take j):Int)+(q.2.1:Int))=(dF (L.take (j+1)):Int):=by have:=HL.out;rw[hst];unfold wrap64;omega
   have hnn:¬((dF (L.take (j+1)):Int)<0):=by omega
   have N4:Hid (wrap64 ((j:Int)+1)=(j:Int)+1):=by have:=HL.out;unfold Hid wrap64;omega
   have HJ:=aA hjl
   clear hle hst hq hj hjl
   go_wp2
   exact⟨⟨trivial,j+1,HJ.out,by rw[N4.out];rfl,by rw[hw2]⟩,by rw[N4.out];have:=HJ.out;simp [intOf];omega⟩
  ·obtain rfl:j=L.length:=by omega
   rw[List.take_length]
   have hg:=DI w (dF L) HL.out.2
   clear hj hjl
   go_wp2_with fail
   refine hg.mono ?_
   rintro e w1 ⟨g0,cap0,rfl,hown1,hb1⟩
   have HO1:=aA hown1
   have HB1:=aA hb1
   clear hown1 hb1 hg
   go_wp2
   go_loopw [6,27] (fun v t wq=>∃(j:Nat) (so:Option Addr) (sc:Nat),j≤L.length∧t=.int .i64 j∧v=.slice so (dF (L.take j)) sc∧Hid (wq.ownsRow w.heap.size 92 4 (.slice so (dF (L.take j)) sc) (dF (L.take j)) (kY (L.take j))∧Bw w wq)) (fun _ t _=>L.length-(intOf t).toNat)
   case atStart=>exact⟨0,g0,cap0,Nat.zero_le _,rfl,rfl,⟨HO1.out,HB1.out⟩⟩
   case round=>
    obtain⟨j,so,sc,hj,rfl,rfl,HJR⟩:=hrel
    by_cases hjl:j<L.length
    ·obtain⟨⟨o,m,c,xs⟩,hq⟩:∃q,L[j]?=some q:=⟨_,List.getElem?_eq_getElem hjl⟩
     obtain⟨y0,⟨hrow,hone⟩⟩:=HB.out j _ hq
     unfold uN at y0 hrow
     dsimp only at y0 hrow hone
     have y1:=aF HJR.out.2 y0
     have i0':(0:Int)≤(j:Int):=by omega
     have i1':(j:Int)<(L.length:Int):=by omega
     have N4:Hid (wrap64 ((j:Int)+1)=(j:Int)+1):=by have:=HL.out;unfold Hid wrap64;omega
     have HJ:=aA hjl
     have HST:Hid (dF (L.take (j+1))=dF (L.take j)+m∧kY (L.take (j+1))=kY (L.take j)++xs∧dF (L.take (j+1))≤8000):=⟨Bj hq,G6 hq,Nat.le_trans (xM L (j+1)) HL.out.2⟩
     have HLN:Hid (xs.length=m*4):=hrow.1
     have HX1:=aA hone
     by_cases h0:m=0
     ·subst h0
      have hno:=fun ty=>OV HJR.out.1 o c ty
      clear hq hj hjl y0 hrow hone
      go_wp2_with (at_builtin;refine Lib.wpList_append_run _ rfl _ _ _ _ rfl _ _ rfl rfl _ _ (hno _) ?_)
      have hx0:xs=[]:=List.eq_nil_of_length_eq_zero (by have:=HLN.out;omega)
      obtain⟨e1,e2,_⟩:=HST.out
      rw[hx0,List.append_nil] at e2
      exact⟨⟨j+1,so,sc,HJ.out,by rw[N4.out];rfl,by rw[e1];rfl,by rw[e1,e2];exact HJR⟩,by rw[N4.out];have:=HJ.out;simp [intOf];omega⟩
     ·obtain⟨b,off,c',e,hb,hlt,hc⟩:=hrow.at (by rw[HLN.out];omega)
      obtain⟨rfl,rfl⟩:o=some ⟨b,off,none⟩∧c=c':=by simpa using e
      have HNW:Hid (∀k u,xs[k]?=some u→wr.cell? ((⟨b,off,none⟩:Addr).add k)=some u):=fun k u hk=>by rw[Addr.add_lit];exact aF HJR.out.2 (hc k u hk)
      have HM:Hid (0<m∧dF (L.take j)+m≤maxLen∧(dF (L.take j)+m)*64≤140737488355328):=by have:=HST.out.2.2;have:=HST.out.1;unfold Hid maxLen;omega
      clear hq hj hjl y0 hrow hone e hb hlt hc h0
      go_wp2_with (at_builtin;refine wpList_append_lies _ rfl _ _ 37 rfl w.heap.size 92 i0 _ 4 64 Tryz.underlying37 hi0 hz0 hz1 hz2 rfl (by omega) (.slice so (dF (L.take j)) sc) (dF (L.take j)) _ rfl HJR.out.1 ⟨b,off,none⟩ m c xs rfl HLN.out HNW.out HX1.out HM.out.1 HM.out.2.1 HM.out.2.2 HJR.out.2.size _ rfl ?_;intro g cap w2 hown2 hgrow hat hlt)
      have hb2:Bw w w2:=HJR.out.2.grown hgrow HJR.out.2.size (fun k hk=>(HJR.out.1.lt k hk).1)
      obtain⟨e1,e2,_⟩:=HST.out
      exact⟨⟨j+1,some ⟨g,0,none⟩,cap,HJ.out,by rw[N4.out];rfl,by rw[e1],by rw[e1,e2];exact⟨hown2,hb2⟩⟩,by rw[N4.out];have:=HJ.out;simp [intOf];omega⟩
    ·obtain rfl:j=L.length:=by omega
     obtain⟨hown,hbr⟩:=HJR.out
     rw[List.take_length] at hown ⊢
     clear hj hjl HJR
     go_wp2
     go_ret
     exact⟨_,_,rfl,hown,hbr⟩
structure Two(w wr:World)(v:Value)(n:Nat)(xs:List Value)(u:Value)(m:Nat)(ks:List Value):Prop where
 terms:wr.ownsRow w.heap.size 92 4 v n xs
 kinds:wr.ownsRow w.heap.size 3 1 u m ks
 apart:∀k,v.ownBlock=some k→u.ownBlock≠some k
 below:Bw w wr
theorem Two.start(w:World):Two w w (.slice none 0 0) 0 [] (.slice none 0 0) 0 []:=
 ⟨World.ownsRow_nil _ _ _ _,World.ownsRow_nil _ _ _ _,fun k h=>by simp [Value.ownBlock] at h,Below.refl _ _⟩
theorem Two.alloc{w wr:World}{v u:Value}{n m:Nat}{xs ks:List Value}(h:Two w wr v n xs u m ks)(o:Obj):Two w (wr.alloc o) v n xs u m ks:=
 ⟨h.terms.alloc o,h.kinds.alloc o,h.apart,h.below.alloc h.below.size o⟩
theorem Two.vH{w wr w':World}{v u:Value}{n m n':Nat}{xs ks ys:List Value}{g cap:Nat}(h:Two w wr v n xs u m ks)(ho:w'.ownsRow w.heap.size 92 4 (.slice (some ⟨g,0,none⟩) n' cap) n' ys)(hg:wr.grownBy w' v.ownBlock)(ha:v.ownBlock=some g∨g=wr.heap.size):Two w w' (.slice (some ⟨g,0,none⟩) n' cap) n' ys u m ks:=by
 refine⟨ho,h.kinds.kept hg ?_,fun k hk he=>?_,h.below.grown hg h.below.size (fun k hk=>(h.terms.lt k hk).1)⟩
 ·rcases hv:v.ownBlock with _ | k
  ·rcases hu:u.ownBlock with _ | k
   ·exact .inl rfl
   ·exact .inr (by simp)
  ·exact .inr (h.apart k hv)
 ·obtain rfl:g=k:=by simpa [Value.ownBlock] using hk
  rcases ha with ha | rfl
  ·exact h.apart g ha he
  ·have:=(h.kinds.lt _ he).2;omega
theorem Two.vI{w wr w':World}{v u:Value}{n m m':Nat}{xs ks ys:List Value}{g cap:Nat}(h:Two w wr v n xs u m ks)(ho:w'.ownsRow w.heap.size 3 1 (.slice (some ⟨g,0,none⟩) m' cap) m' ys)(hg:wr.grownBy w' u.ownBlock)(ha:u.ownBlock=some g∨g=wr.heap.size):Two w w' v n xs (.slice (some ⟨g,0,none⟩) m' cap) m' ys:=by
 refine⟨h.terms.kept hg ?_,ho,fun k hk he=>?_,h.below.grown hg h.below.size (fun k hk=>(h.kinds.lt k hk).1)⟩
 ·rcases hv:v.ownBlock with _ | k
  ·exact .inl rfl
  ·exact .inr (fun e=>h.apart k hv e.symm)
 ·obtain rfl:g=k:=by simpa [Value.ownBlock] using he
  rcases ha with ha | rfl
  ·exact h.apart g hk ha
  ·have:=(h.terms.lt _ hk).2;omega
theorem Two.beyond{w wr w':World}{v u:Value}{n m:Nat}{xs ks:List Value}(h:Two w wr v n xs u m ks)(hb:Bw wr w'):Two w w' v n xs u m ks:=by
 have hg:wr.grownBy w' none:=⟨hb.os,hb.tape,hb.output,hb.size,fun k hk _=>hb.block k hk⟩
 refine⟨h.terms.kept hg ?_,h.kinds.kept hg ?_,h.apart,h.below.trans (hb.mono h.below.size)⟩
 ·cases hv:v.ownBlock with
  | none=>exact .inl rfl
  | some k=>exact .inr (by simp)
 ·cases hv:u.ownBlock with
  | none=>exact .inl rfl
  | some k=>exact .inr (by simp)
structure kE(w wr:World)(v:Value)(n:Nat)(xs:List Value)(u:Value)(m:Nat)(ks:List Value)(z:Value)(l:Nat)(zs:List Value):Prop where
 two:Two w wr v n xs u m ks
 row:wr.ownsRow w.heap.size 92 4 z l zs
 far:∀k,z.ownBlock=some k→v.ownBlock≠some k∧u.ownBlock≠some k
theorem kE.alloc{w wr:World}{v u z:Value}{n m l:Nat}{xs ks zs:List Value}(h:kE w wr v n xs u m ks z l zs)(o:Obj):kE w (wr.alloc o) v n xs u m ks z l zs:=
 ⟨h.two.alloc o,h.row.alloc o,h.far⟩
theorem kE.vH{w wr w':World}{v u z:Value}{n m n' l:Nat}{xs ks ys zs:List Value}{g cap:Nat}(h:kE w wr v n xs u m ks z l zs)(ho:w'.ownsRow w.heap.size 92 4 (.slice (some ⟨g,0,none⟩) n' cap) n' ys)(hg:wr.grownBy w' v.ownBlock)(ha:v.ownBlock=some g∨g=wr.heap.size):kE w w' (.slice (some ⟨g,0,none⟩) n' cap) n' ys u m ks z l zs:=by
 refine⟨h.two.vH ho hg ha,h.row.kept hg ?_,fun k hk=>⟨fun he=>?_,(h.far k hk).2⟩⟩
 ·cases hz:z.ownBlock with
  | none=>exact .inl rfl
  | some k=>exact .inr fun e=>(h.far k hz).1 e.symm
 ·obtain rfl:g=k:=by simpa [Value.ownBlock] using he
  rcases ha with ha | rfl
  ·exact(h.far g hk).1 ha
  ·have:=(h.row.lt _ hk).2;omega
theorem kE.vI{w wr w':World}{v u z:Value}{n m m' l:Nat}{xs ks ys zs:List Value}{g cap:Nat}(h:kE w wr v n xs u m ks z l zs)(ho:w'.ownsRow w.heap.size 3 1 (.slice (some ⟨g,0,none⟩) m' cap) m' ys)(hg:wr.grownBy w' u.ownBlock)(ha:u.ownBlock=some g∨g=wr.heap.size):kE w w' v n xs (.slice (some ⟨g,0,none⟩) m' cap) m' ys z l zs:=by
 refine⟨h.two.vI ho hg ha,h.row.kept hg ?_,fun k hk=>⟨(h.far k hk).1,fun he=>?_⟩⟩
 ·cases hz:z.ownBlock with
  | none=>exact .inl rfl
  | some k=>exact .inr fun e=>(h.far k hz).2 e.symm
 ·obtain rfl:g=k:=by simpa [Value.ownBlock] using he
  rcases ha with ha | rfl
  ·exact(h.far g hk).2 ha
  ·have:=(h.row.lt _ hk).2;omega
theorem cB.terms{w:World}{S:Nat→Prop}{fs:List Fw}{xs:List Value}(h:cB w S fs xs):∃ys,aI w S (fs.map fun f=>f.e) ys∧∀i k,k<4→i<fs.length→ys[i*4+k]?=xs[i*6+2+k]?:=by
 induction h with
 | nil=>exact⟨[],.nil,fun i k _ h=>by simp at h⟩
 | cons name kind e fs xs ys h1 _ ih=>
  obtain⟨zs,hz,hk⟩:=ih
  have hl:=h1.length
  simp only[List.length_cons,List.length_nil] at hl
  refine⟨xs++zs,h1.append hz,fun i k h4 hi=>?_⟩
  cases i with
  | zero=>
   rw[show 0*4+k=k from by omega,show 0*6+2+k=k+1+1 from by omega,List.getElem?_append_left (by omega),List.cons_append,List.getElem?_cons_succ,List.cons_append,List.getElem?_cons_succ,List.getElem?_append_left (by omega)]
  | succ i=>
   have:=hk i k h4 (by simpa using hi)
   rw[show (i+1)*4+k=i*4+k+xs.length from by omega,show (i+1)*6+2+k=i*6+2+k+xs.length+1+1 from by omega,List.getElem?_append_right (by omega),List.cons_append,List.getElem?_cons_succ,List.cons_append,List.getElem?_cons_succ,List.getElem?_append_right (by omega),Nat.add_sub_cancel,Nat.add_sub_cancel]
   exact this
theorem xI{ys:List Value}{i:Nat}{a b c d:Value}(h0:ys[i*4]?=some a)(h1:ys[i*4+1]?=some b)(h2:ys[i*4+2]?=some c)(h3:ys[i*4+3]?=some d):ys.take ((i+1)*4)=ys.take (i*4)++[a,b,c,d]:=by
 rw[show (i+1)*4=i*4+1+1+1+1 from by omega,List.take_add_one,List.take_add_one,List.take_add_one,List.take_add_one,h0,h1,h2,h3]
 simp
end Go.Proofs.YtmgfakcccfahaaaGreatDoor
