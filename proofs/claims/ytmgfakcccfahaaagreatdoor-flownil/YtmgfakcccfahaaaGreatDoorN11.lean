/-
  package flat: slices.Clone of terms BY CONTRACT.
-/
import Derived.Test.YtmgfakcccfahaaaGreatDoorN10
import Derived.Lib.AppendZerosOnto
set_option maxRecDepth 100000
set_option maxHeartbeats 4000000
namespace Go.Proofs.YtmgfakcccfahaaaGreatDoor
open Go.RowKit Go.Maps

theorem Tryz.sU:(Tryz.prog.info? 92).map (fun i=>(i.zero,i.size,i.bytes))=some (some (.agg #[.string ⟨#[]⟩,.int .i64 0,.string ⟨#[]⟩,.slice none 0 0]),4,64):=by kernel_rfl
theorem P7(w:World)(b off c:Nat) :
  Calls Tryz.prog 129 #[.slice (some ⟨b,off,none⟩) 0 c] w fun e w'=>∃g cap,e=.returned (.slice g 0 cap)∧w'.ownsRow w.heap.size 92 4 (.slice g 0 cap) 0 []∧Bw w w':=by
 have hnil:=fun (w:World) (a:Option Addr) (n c:Nat)=>Lib.run_eql_slice_nil w 37 92 a n c 0 0 Tryz.underlying37
 go_enter Tryz.func129,Tryz.ntmps129
 go_wp2
 go_ret
 exact⟨_,_,rfl,⟨rfl,.inr ⟨w.heap.size,0,#[],rfl,Nat.le_refl _,heap_alloc_new _ _,Nat.le_refl _,by unfold maxLen;omega,rfl,rfl⟩⟩,aH⟩
theorem P8(w:World)(S:Nat→Prop)(m:Nat)(xs:List Value)(o:Option Addr)(c:Nat)(h:aB w S 4 (.slice o m c) m xs)(hx:xs.length=m*4)(h1:∀u∈xs,u.oneCell'=true)(hn:m=0→(o=none∧c=0)∨∃b off,o=some ⟨b,off,none⟩)(hs:m≤4000) :
  Calls Tryz.prog 129 #[.slice o m c] w fun e w'=>∃g cap,e=.returned (.slice g m cap)∧w'.ownsRow w.heap.size 92 4 (.slice g m cap) m xs∧Bw w w':=by
 obtain⟨i0,hi0,hz0,hz1,hz2⟩:=info_parts Tryz.sU
 have hnil:=fun (w:World) (a:Option Addr) (n c:Nat)=>Lib.run_eql_slice_nil w 37 92 a n c 0 0 Tryz.underlying37
 by_cases h0:m=0
 ·have hn0:=hn h0
  subst h0
  obtain rfl:xs=[]:=List.eq_nil_of_length_eq_zero (by omega)
  clear h hn hs hx h1
  rcases hn0 with⟨rfl,rfl⟩ | ⟨b,off,rfl⟩
  case inr=>exact P7 w b off c
  go_enter Tryz.func129,Tryz.ntmps129
  go_wp2
  go_ret
  exact⟨none,0,rfl,World.ownsRow_nil _ _ _ _,Below.refl _ _⟩
 ·obtain⟨b,off,c',e,hb,hl,hc⟩:=h.at (by omega)
  obtain⟨rfl,rfl⟩:o=some ⟨b,off,none⟩∧c=c':=by simpa using e
  have HC:=aA hc
  have HS:Hid (m≤4000∧0<m):=⟨hs,by omega⟩
  have HLN:=aA hx
  have HX1:=aA h1
  have HOW:Hid ((w.alloc (.cells #[] 92)).ownsRow w.heap.size 92 4 (.slice (some ⟨w.heap.size,0,none⟩) 0 0) 0 []):=⟨rfl,.inr ⟨w.heap.size,0,#[],rfl,Nat.le_refl _,heap_alloc_new _ _,Nat.le_refl _,by unfold maxLen;omega,rfl,rfl⟩⟩
  have hba:Bw w (w.alloc (.cells #[] 92)):=aH
  have HNW:Hid (∀j u,xs[j]?=some u→(w.alloc (.cells #[] 92)).cell? ((⟨b,off,none⟩:Addr).add j)=some u):=fun j u hj=>by rw[Addr.add_lit];exact aD hba (HC.out j u hj)
  have HBA:=aA hba
  have HM:Hid (0<m∧0+m≤maxLen∧(0+m)*64≤140737488355328):=by have:=HS.out;unfold Hid maxLen;omega
  clear h hn hs h0 e hb hc hba hx h1
  go_enter Tryz.func129,Tryz.ntmps129
  go_wp2_with (at_builtin;refine wpList_append_lies _ rfl _ _ 37 rfl w.heap.size 92 i0 _ 4 64 Tryz.underlying37 hi0 hz0 hz1 hz2 rfl (by omega) (.slice (some ⟨w.heap.size,0,none⟩) 0 0) 0 [] rfl HOW.out ⟨b,off,none⟩ m c xs rfl HLN.out HNW.out HX1.out HM.out.1 HM.out.2.1 HM.out.2.2 HBA.out.size _ rfl ?_;intro g cap w2 hown2 hgrow hat hlt)
  rw[Nat.zero_add,List.nil_append] at hown2
  have hb2:Bw w w2:=HBA.out.grown hgrow HBA.out.size (fun k hk=>by simp [Value.ownBlock] at hk;omega)
  go_ret
  exact⟨_,_,rfl,hown2,hb2⟩

theorem Gm(w:World)(n:Nat)(hs:n≤8000) :
  Calls Tryz.prog 93 #[.slice none 0 0,.int .i64 n] w fun e w'=>∃g cap,e=.returned (.slice g 0 cap)∧w'.ownsRow w.heap.size 92 4 (.slice g 0 cap) 0 []∧Bw w w':=by
 obtain⟨i0,hi0,hz0,hz1,hz2⟩:=info_parts Tryz.sU
 by_cases h0:n=0
 ·subst h0
  go_enter Tryz.func93,Tryz.ntmps93
  go_wp2
  go_ret
  exact⟨none,0,rfl,World.ownsRow_nil _ _ _ _,Below.refl _ _⟩
 ·have h1:¬((n:Int)<0):=by omega
  have h3:wrap64 ((n:Int)-0)=(n:Int):=by unfold wrap64;omega
  have h4:(n:Int) > 0:=by omega
  have hold:(Builtin.firstCells i0.size 0 (.slice none 0 0)).run Tryz.prog w.drew=.ok ([]:List Value).toArray w.drew:=run_firstCells_none w.drew i0.size 0 0 0
  have hrz:=fun ty=>Lib.run_append_grow_zeros w 37 3 ty 92 i0 _ .i64 .i64 Tryz.underlying37 Tryz.underlying3 hi0 hz0 none 0 0 [] hold n (by omega) (by omega) (by omega) (by omega) (by rw[hz2];omega) (by rw[hz2];exact growslice_fits (by omega) (by omega))
  rw[Nat.zero_add] at hrz
  obtain⟨G,hG⟩:∃G,G=grownCap w n 0 92:=⟨_,rfl⟩
  have hGn:n≤G:=by rw[hG];exact grownCap_ge w _ _ _
  have hGm:G≤maxLen:=by rw[hG];exact grownCap_le_maxLen w n 0 _ (by unfold maxLen;omega)
  rw[←hG] at hrz
  obtain⟨cs,hcs⟩:∃cs,cs=([]:List Value).toArray++Builtin.zeroCells (Value.cells (.agg #[.string ⟨#[]⟩,.int .i64 0,.string ⟨#[]⟩,.slice none 0 0])) n++Builtin.zeroCells (Value.cells (.agg #[.string ⟨#[]⟩,.int .i64 0,.string ⟨#[]⟩,.slice none 0 0])) (G-n):=⟨_,rfl⟩
  rw[←hcs] at hrz
  have hsz:cs.size=G*4:=by
   rw[hcs]
   simp only[Array.size_append,List.size_toArray,size_zeroCells,List.length_nil]
   have:(Value.cells (.agg #[.string ⟨#[]⟩,.int .i64 0,.string ⟨#[]⟩,.slice none 0 0])).size=4:=rfl
   rw[this]
   omega
  have HF:Hid ((w.drew.alloc (.cells cs 92)).ownsRow w.heap.size 92 4 (.slice (some ⟨w.heap.size,0,none⟩) 0 G) 0 []∧Bw w (w.drew.alloc (.cells cs 92))):=
   ⟨⟨rfl,.inr ⟨w.heap.size,G,cs,rfl,Nat.le_refl _,heap_alloc_new w.drew _,Nat.zero_le _,hGm,hsz,by simp⟩⟩,(Below.drew (Below.refl _ _)).alloc (Nat.le_refl _) _⟩
  have hG63:G≤9223372036854775807:=by unfold maxLen at hGm;omega
  clear hold hcs hsz hG hGm
  go_enter Tryz.func93,Tryz.ntmps93
  go_wp2_with (at_builtin;refine Lib.wpList_append_run _ rfl _ _ _ _ rfl _ _ rfl rfl _ _ (hrz _) ?_)
  all_goals (go_ret;exact⟨_,_,rfl,HF.out.1,HF.out.2⟩)

abbrev qN:=Option Addr×Nat×Nat×List Value
def zD(q:qN):Value:=.slice q.1 q.2.1 q.2.2.1
def Ri(w:World)(S:Nat→Prop)(q:qN):Prop:=aB w S 4 (zD q) q.2.1 q.2.2.2∧∀u∈q.2.2.2,u.oneCell'=true
def d9(L:List qN):Nat:=(L.map fun q=>q.2.1).sum
def nT(L:List qN):List Value:=L.flatMap fun q=>q.2.2.2
theorem DL{L:List qN}{j:Nat}{q:qN}(h:L[j]?=some q):d9 (L.take (j+1))=d9 (L.take j)+q.2.1:=by
 simp [d9,List.take_add_one,h]
theorem J5{L:List qN}{j:Nat}{q:qN}(h:L[j]?=some q):nT (L.take (j+1))=nT (L.take j)++q.2.2.2:=by
 simp [nT,List.take_add_one,h]
theorem Be:∀(L:List qN) (j:Nat),d9 (L.take j)≤d9 L
 | [],j=>by simp [d9]
 | q::L,0=>by simp [d9]
 | q::L,j+1=>by have:=Be L j;simp only[d9,List.take_succ_cons,List.map_cons,List.sum_cons] at this ⊢;omega
theorem QN{w:World}{base n:Nat}{v:Value}{xs:List Value}(hown:w.ownsRow base 92 4 v n xs)(p:Option Addr)(c:Nat)(ty:TypeId) :
  (Builtin.append_ #[37,37] ty #[v,.slice p 0 c]).run Tryz.prog w=.ok v w:=by
 obtain⟨i0,hi0,hz0,hz1,hz2⟩:=info_parts Tryz.sU
 have ht:=Tryz.underlying37
 rcases hown.2 with⟨rfl,rfl⟩ | ⟨g,cap,cur,rfl,_,_,hnc,_⟩
 ·cases p<;>simp [Builtin.append_,run_underlying ht,sizeOf,typeInfo,hi0,Builtin.lenOf,Builtin.firstCells,loadCells,loadCellsFrom]
 ·cases p<;>simp [Builtin.append_,run_underlying ht,sizeOf,typeInfo,hi0,Builtin.lenOf,Builtin.firstCells,hnc,loadCells,loadCellsFrom,storeCells]

theorem Cm(w:World)(S:Nat→Prop)(L:List qN)(B C:Nat)(hB:∀j q,L[j]?=some q→w.cell? ⟨B,j,none⟩=some (zD q)∧Ri w S q)(hl:L.length≤100)(hs:d9 L≤8000) :
  Calls Tryz.prog 48 #[.slice (some ⟨B,0,none⟩) L.length C] w fun e w'=>∃g cap,e=.returned (.slice g (d9 L) cap)∧w'.ownsRow w.heap.size 92 4 (.slice g (d9 L) cap) (d9 L) (nT L)∧Bw w w':=by
 obtain⟨i0,hi0,hz0,hz1,hz2⟩:=info_parts Tryz.sU
 have HB:=aA hB
 have HL:Hid (L.length≤100∧d9 L≤8000):=⟨hl,hs⟩
 have HG:Hid (∀w n,n≤8000→_):=fun w n h=>Gm w n h
 clear hB hl hs
 go_enter Tryz.func48,Tryz.ntmps48
 go_wp2
 go_loopw [3,11] (fun v t wr=>wr=w∧∃j:Nat,j≤L.length∧t=.int .i64 j∧v=.int .i64 (d9 (L.take j))) (fun _ t _=>L.length-(intOf t).toNat)
 case atStart=>exact⟨rfl,0,Nat.zero_le _,rfl,rfl⟩
 case round=>
  obtain⟨he,j,hj,rfl,rfl⟩:=hrel
  subst wr
  by_cases hjl:j<L.length
  ·obtain⟨q,hq⟩:∃q,L[j]?=some q:=⟨_,List.getElem?_eq_getElem hjl⟩
   have y0:=(HB.out j q hq).1
   unfold zD at y0
   have hle:=Be L (j+1)
   have hst:=DL hq
   have i0':(0:Int)≤(j:Int):=by omega
   have i1':(j:Int)<(L.length:Int):=by omega
   have hw2:wrap64 ((d9 (L.take j):Int)+(q.2.1:Int))=(d9 (L.take (j+1)):Int):=by have:=HL.out;rw[hst];unfold wrap64;omega
   have hnn:¬((d9 (L.take (j+1)):Int)<0):=by omega
   have N4:Hid (wrap64 ((j:Int)+1)=(j:Int)+1):=by have:=HL.out;unfold Hid wrap64;omega
   have HJ:=aA hjl
   clear hle hst hq hj hjl
   go_wp2
   exact⟨⟨trivial,j+1,HJ.out,by rw[N4.out];rfl,by rw[hw2]⟩,by rw[N4.out];have:=HJ.out;simp [intOf];omega⟩
  ·obtain rfl:j=L.length:=by omega
   rw[List.take_length]
   have hg:=Gm w (d9 L) HL.out.2
   clear hj hjl
   go_wp2_with fail
   refine hg.mono ?_
   rintro e w1 ⟨g0,cap0,rfl,hown1,hb1⟩
   have HO1:=aA hown1
   have HB1:=aA hb1
   clear hown1 hb1 hg
   go_wp2
   go_loopw [6,27] (fun v t wq=>∃(j:Nat) (so:Option Addr) (sc:Nat),j≤L.length∧t=.int .i64 j∧v=.slice so (d9 (L.take j)) sc∧Hid (wq.ownsRow w.heap.size 92 4 (.slice so (d9 (L.take j)) sc) (d9 (L.take j)) (nT (L.take j))∧Bw w wq)) (fun _ t _=>L.length-(intOf t).toNat)
   case atStart=>exact⟨0,g0,cap0,Nat.zero_le _,rfl,rfl,⟨HO1.out,HB1.out⟩⟩
   case round=>
    obtain⟨j,so,sc,hj,rfl,rfl,HJR⟩:=hrel
    by_cases hjl:j<L.length
    ·obtain⟨⟨o,m,c,xs⟩,hq⟩:∃q,L[j]?=some q:=⟨_,List.getElem?_eq_getElem hjl⟩
     obtain⟨y0,⟨hrow,hone⟩⟩:=HB.out j _ hq
     unfold zD at y0 hrow
     dsimp only at y0 hrow hone
     have y1:=aD HJR.out.2 y0
     have i0':(0:Int)≤(j:Int):=by omega
     have i1':(j:Int)<(L.length:Int):=by omega
     have N4:Hid (wrap64 ((j:Int)+1)=(j:Int)+1):=by have:=HL.out;unfold Hid wrap64;omega
     have HJ:=aA hjl
     have HST:Hid (d9 (L.take (j+1))=d9 (L.take j)+m∧nT (L.take (j+1))=nT (L.take j)++xs∧d9 (L.take (j+1))≤8000):=⟨DL hq,J5 hq,Nat.le_trans (Be L (j+1)) HL.out.2⟩
     have HLN:Hid (xs.length=m*4):=hrow.1
     have HX1:=aA hone
     by_cases h0:m=0
     ·subst h0
      have hno:=fun ty=>QN HJR.out.1 o c ty
      clear hq hj hjl y0 hrow hone
      go_wp2_with (at_builtin;refine Lib.wpList_append_run _ rfl _ _ _ _ rfl _ _ rfl rfl _ _ (hno _) ?_)
      have hx0:xs=[]:=List.eq_nil_of_length_eq_zero (by have:=HLN.out;omega)
      obtain⟨e1,e2,_⟩:=HST.out
      rw[hx0,List.append_nil] at e2
      exact⟨⟨j+1,so,sc,HJ.out,by rw[N4.out];rfl,by rw[e1];rfl,by rw[e1,e2];exact HJR⟩,by rw[N4.out];have:=HJ.out;simp [intOf];omega⟩
     ·obtain⟨b,off,c',e,hb,hlt,hc⟩:=hrow.at (by rw[HLN.out];omega)
      obtain⟨rfl,rfl⟩:o=some ⟨b,off,none⟩∧c=c':=by simpa using e
      have HNW:Hid (∀k u,xs[k]?=some u→wr.cell? ((⟨b,off,none⟩:Addr).add k)=some u):=fun k u hk=>by rw[Addr.add_lit];exact aD HJR.out.2 (hc k u hk)
      have HM:Hid (0<m∧d9 (L.take j)+m≤maxLen∧(d9 (L.take j)+m)*64≤140737488355328):=by have:=HST.out.2.2;have:=HST.out.1;unfold Hid maxLen;omega
      clear hq hj hjl y0 hrow hone e hb hlt hc h0
      go_wp2_with (at_builtin;refine wpList_append_lies _ rfl _ _ 37 rfl w.heap.size 92 i0 _ 4 64 Tryz.underlying37 hi0 hz0 hz1 hz2 rfl (by omega) (.slice so (d9 (L.take j)) sc) (d9 (L.take j)) _ rfl HJR.out.1 ⟨b,off,none⟩ m c xs rfl HLN.out HNW.out HX1.out HM.out.1 HM.out.2.1 HM.out.2.2 HJR.out.2.size _ rfl ?_;intro g cap w2 hown2 hgrow hat hlt)
      have hb2:Bw w w2:=HJR.out.2.grown hgrow HJR.out.2.size (fun k hk=>(HJR.out.1.lt k hk).1)
      obtain⟨e1,e2,_⟩:=HST.out
      exact⟨⟨j+1,some ⟨g,0,none⟩,cap,HJ.out,by rw[N4.out];rfl,by rw[e1],by rw[e1,e2];exact⟨hown2,hb2⟩⟩,by rw[N4.out];have:=HJ.out;simp [intOf];omega⟩
    ·obtain rfl:j=L.length:=by omega
     obtain⟨hown,hbr⟩:=HJR.out
     rw[List.take_length] at hown ⊢
     clear hj hjl HJR
     go_wp2
     go_ret
     exact⟨_,_,rfl,hown,hbr⟩
structure Two(w wr:World)(v:Value)(n:Nat)(xs:List Value)(u:Value)(m:Nat)(ks:List Value):Prop where
 terms:wr.ownsRow w.heap.size 92 4 v n xs
 kinds:wr.ownsRow w.heap.size 3 1 u m ks
 apart:∀k,v.ownBlock=some k→u.ownBlock≠some k
 below:Bw w wr
theorem Two.start(w:World):Two w w (.slice none 0 0) 0 [] (.slice none 0 0) 0 []:=
 ⟨World.ownsRow_nil _ _ _ _,World.ownsRow_nil _ _ _ _,fun k h=>by simp [Value.ownBlock] at h,Below.refl _ _⟩
theorem Two.alloc{w wr:World}{v u:Value}{n m:Nat}{xs ks:List Value}(h:Two w wr v n xs u m ks)(o:Obj):Two w (wr.alloc o) v n xs u m ks:=
 ⟨h.terms.alloc o,h.kinds.alloc o,h.apart,h.below.alloc h.below.size o⟩
theorem Two.zX{w wr w':World}{v u:Value}{n m n':Nat}{xs ks ys:List Value}{g cap:Nat}(h:Two w wr v n xs u m ks)(ho:w'.ownsRow w.heap.size 92 4 (.slice (some ⟨g,0,none⟩) n' cap) n' ys)(hg:wr.grownBy w' v.ownBlock)(ha:v.ownBlock=some g∨g=wr.heap.size):Two w w' (.slice (some ⟨g,0,none⟩) n' cap) n' ys u m ks:=by
 refine⟨ho,h.kinds.kept hg ?_,fun k hk he=>?_,h.below.grown hg h.below.size (fun k hk=>(h.terms.lt k hk).1)⟩
 ·rcases hv:v.ownBlock with _ | k
  ·rcases hu:u.ownBlock with _ | k
   ·exact .inl rfl
   ·exact .inr (by simp)
  ·exact .inr (h.apart k hv)
 ·obtain rfl:g=k:=by simpa [Value.ownBlock] using hk
  rcases ha with ha | rfl
  ·exact h.apart g ha he
  ·have:=(h.kinds.lt _ he).2;omega
theorem Two.zY{w wr w':World}{v u:Value}{n m m':Nat}{xs ks ys:List Value}{g cap:Nat}(h:Two w wr v n xs u m ks)(ho:w'.ownsRow w.heap.size 3 1 (.slice (some ⟨g,0,none⟩) m' cap) m' ys)(hg:wr.grownBy w' u.ownBlock)(ha:u.ownBlock=some g∨g=wr.heap.size):Two w w' v n xs (.slice (some ⟨g,0,none⟩) m' cap) m' ys:=by
 refine⟨h.terms.kept hg ?_,ho,fun k hk he=>?_,h.below.grown hg h.below.size (fun k hk=>(h.kinds.lt k hk).1)⟩
 ·rcases hv:v.ownBlock with _ | k
  ·exact .inl rfl
  ·exact .inr (fun e=>h.apart k hv e.symm)
 ·obtain rfl:g=k:=by simpa [Value.ownBlock] using he
  rcases ha with ha | rfl
  ·exact h.apart g hk ha
  ·have:=(h.terms.lt _ hk).2;omega
theorem Two.beyond{w wr w':World}{v u:Value}{n m:Nat}{xs ks:List Value}(h:Two w wr v n xs u m ks)(hb:Bw wr w'):Two w w' v n xs u m ks:=by
 have hg:wr.grownBy w' none:=⟨hb.os,hb.tape,hb.output,hb.size,fun k hk _=>hb.block k hk⟩
 refine⟨h.terms.kept hg ?_,h.kinds.kept hg ?_,h.apart,h.below.trans (hb.mono h.below.size)⟩
 ·cases hv:v.ownBlock with
  | none=>exact .inl rfl
  | some k=>exact .inr (by simp)
 ·cases hv:u.ownBlock with
  | none=>exact .inl rfl
  | some k=>exact .inr (by simp)
structure oC(w wr:World)(v:Value)(n:Nat)(xs:List Value)(u:Value)(m:Nat)(ks:List Value)(z:Value)(l:Nat)(zs:List Value):Prop where
 two:Two w wr v n xs u m ks
 row:wr.ownsRow w.heap.size 92 4 z l zs
 far:∀k,z.ownBlock=some k→v.ownBlock≠some k∧u.ownBlock≠some k
theorem oC.alloc{w wr:World}{v u z:Value}{n m l:Nat}{xs ks zs:List Value}(h:oC w wr v n xs u m ks z l zs)(o:Obj):oC w (wr.alloc o) v n xs u m ks z l zs:=
 ⟨h.two.alloc o,h.row.alloc o,h.far⟩
theorem oC.zX{w wr w':World}{v u z:Value}{n m n' l:Nat}{xs ks ys zs:List Value}{g cap:Nat}(h:oC w wr v n xs u m ks z l zs)(ho:w'.ownsRow w.heap.size 92 4 (.slice (some ⟨g,0,none⟩) n' cap) n' ys)(hg:wr.grownBy w' v.ownBlock)(ha:v.ownBlock=some g∨g=wr.heap.size):oC w w' (.slice (some ⟨g,0,none⟩) n' cap) n' ys u m ks z l zs:=by
 refine⟨h.two.zX ho hg ha,h.row.kept hg ?_,fun k hk=>⟨fun he=>?_,(h.far k hk).2⟩⟩
 ·cases hz:z.ownBlock with
  | none=>exact .inl rfl
  | some k=>exact .inr fun e=>(h.far k hz).1 e.symm
 ·obtain rfl:g=k:=by simpa [Value.ownBlock] using he
  rcases ha with ha | rfl
  ·exact(h.far g hk).1 ha
  ·have:=(h.row.lt _ hk).2;omega
theorem oC.zY{w wr w':World}{v u z:Value}{n m m' l:Nat}{xs ks ys zs:List Value}{g cap:Nat}(h:oC w wr v n xs u m ks z l zs)(ho:w'.ownsRow w.heap.size 3 1 (.slice (some ⟨g,0,none⟩) m' cap) m' ys)(hg:wr.grownBy w' u.ownBlock)(ha:u.ownBlock=some g∨g=wr.heap.size):oC w w' v n xs (.slice (some ⟨g,0,none⟩) m' cap) m' ys z l zs:=by
 refine⟨h.two.zY ho hg ha,h.row.kept hg ?_,fun k hk=>⟨(h.far k hk).1,fun he=>?_⟩⟩
 ·cases hz:z.ownBlock with
  | none=>exact .inl rfl
  | some k=>exact .inr fun e=>(h.far k hz).2 e.symm
 ·obtain rfl:g=k:=by simpa [Value.ownBlock] using he
  rcases ha with ha | rfl
  ·exact(h.far g hk).2 ha
  ·have:=(h.row.lt _ hk).2;omega
theorem fC.terms{w:World}{S:Nat→Prop}{fs:List Fw}{xs:List Value}(h:fC w S fs xs):∃ys,aQ w S (fs.map fun f=>f.e) ys∧∀i k,k<4→i<fs.length→ys[i*4+k]?=xs[i*6+2+k]?:=by
 induction h with
 | nil=>exact⟨[],.nil,fun i k _ h=>by simp at h⟩
 | cons name kind e fs xs ys h1 _ ih=>
  obtain⟨zs,hz,hk⟩:=ih
  have hl:=h1.length
  simp only[List.length_cons,List.length_nil] at hl
  refine⟨xs++zs,h1.append hz,fun i k h4 hi=>?_⟩
  cases i with
  | zero=>
   rw[show 0*4+k=k from by omega,show 0*6+2+k=k+1+1 from by omega,List.getElem?_append_left (by omega),List.cons_append,List.getElem?_cons_succ,List.cons_append,List.getElem?_cons_succ,List.getElem?_append_left (by omega)]
  | succ i=>
   have:=hk i k h4 (by simpa using hi)
   rw[show (i+1)*4+k=i*4+k+xs.length from by omega,show (i+1)*6+2+k=i*6+2+k+xs.length+1+1 from by omega,List.getElem?_append_right (by omega),List.cons_append,List.getElem?_cons_succ,List.cons_append,List.getElem?_cons_succ,List.getElem?_append_right (by omega),Nat.add_sub_cancel,Nat.add_sub_cancel]
   exact this
theorem xB{ys:List Value}{i:Nat}{a b c d:Value}(h0:ys[i*4]?=some a)(h1:ys[i*4+1]?=some b)(h2:ys[i*4+2]?=some c)(h3:ys[i*4+3]?=some d):ys.take ((i+1)*4)=ys.take (i*4)++[a,b,c,d]:=by
 rw[show (i+1)*4=i*4+1+1+1+1 from by omega,List.take_add_one,List.take_add_one,List.take_add_one,List.take_add_one,h0,h1,h2,h3]
 simp

def mH(f:List UInt8→Option Int):List Fw→List UInt8→Option Int
 | []=>f
 | x::l=>mH (bI f (x.name,0)) l
theorem Dy:∀{l:List Fw} {f:List UInt8→Option Int} {i:Nat} {x:Fw},l[i]?=some x→mH f (l.take (i+1))=bI (mH f (l.take i)) (x.name,0)
 | [],f,i,x,h=>by simp at h
 | y::l,f,0,x,h=>by
  obtain rfl:y=x:=by simpa using h
  simp [mH]
 | y::l,f,i+1,x,h=>by
  simp only[List.take_succ_cons,mH]
  exact Dy (by simpa using h)
theorem Dx:∀{l:List Fw} {f:List UInt8→Option Int},(∀s q,f s=some q→q=0)→∀s q,mH f l s=some q→q=0
 | [],f,hf,s,q,h=>hf s q h
 | x::l,f,hf,s,q,h=>by
  refine Dx (l:=l) (f:=bI f (x.name,0)) (fun s q h=>?_) s q h
  unfold bI at h
  by_cases e:s=x.name.data.toList
  ·rw[if_pos e] at h;simpa using h.symm
  ·rw[if_neg e] at h;exact hf s q h
def lD(f:List UInt8→Option Int):List Ex→Option (List UInt8→Option Int)
 | []=>some f
 | e::l=>match f e.op.data.toList with
  | none=>none
  | some n=>if 0<n then none else lD (bI f (e.op,n+1)) l
theorem EH:∀{l:List Ex} {f g:List UInt8→Option Int} {i:Nat} {e:Ex},l[i]?=some e→lD f (l.take i)=some g→lD f (l.take (i+1))=match g e.op.data.toList with
  | none=>none
  | some n=>if 0<n then none else some (bI g (e.op,n+1))
 | [],f,g,i,e,h,_=>by simp at h
 | y::l,f,g,0,e,h,hg=>by
  obtain rfl:y=e:=by simpa using h
  obtain rfl:f=g:=by simpa [lD] using hg
  simp only[List.take_succ_cons,List.take_zero,lD]
 | y::l,f,g,i+1,e,h,hg=>by
  simp only[List.take_succ_cons,lD] at hg ⊢
  cases hf:f y.op.data.toList with
  | none=>rw[hf] at hg;cases hg
  | some n=>
   rw[hf] at hg
   simp only at hg ⊢
   by_cases hn:0<n
   ·rw[if_pos hn] at hg;cases hg
   ·rw[if_neg hn] at hg ⊢
    exact EH (by simpa using h) hg
theorem Bv:∀{l:List Ex} {f:List UInt8→Option Int} {i:Nat},lD f (l.take i)=none→lD f l=none
 | [],f,i,h=>by simp [lD] at h
 | y::l,f,0,h=>by simp [lD] at h
 | y::l,f,i+1,h=>by
  simp only[List.take_succ_cons,lD] at h ⊢
  cases hf:f y.op.data.toList with
  | none=>rfl
  | some n=>
   rw[hf] at h
   simp only at h ⊢
   by_cases hn:0<n
   ·rw[if_pos hn]
   ·rw[if_neg hn] at h ⊢
    exact Bv h
def mM(p:Pg):Bool:=(lD (mH (fun _=>none) p.fs) p.outs).isSome
theorem below_grown{w w4 w5:World}{K:Nat}(h:Bw w w4)(hg:w4.grownBy w5 (some K))(hK:w.heap.size≤K):Bw w w5:=
 ⟨hg.os.trans h.os,hg.tape.trans h.tape,hg.output.trans h.output,Nat.le_trans h.size hg.size,fun x hx=>by
  rw[hg.block x (Nat.lt_of_lt_of_le hx h.size) (fun e=>by
   have h1:x=K:=by simpa using e
   omega)]
  exact h.block x hx⟩
theorem Ma(w:World)(S:Nat→Prop)(p:Pg)(o2 o3:Option Addr)(c2 c3:Nat)(v1 v4 v5:Value)(hp:iY w S p v1 (.slice o2 p.outs.length c2) (.slice o3 p.fs.length c3) v4 v5)(hn:p.outs.length≤2097152∧p.fs.length≤1000)(hs:∀x∈p.fs,x.name.size≤maxLen)(hs2:∀e∈p.outs,e.op.size≤maxLen) :
  Calls Tryz.prog 75 #[.agg #[v1,.slice o2 p.outs.length c2,.slice o3 p.fs.length c3,v4,v5]] w fun e w'=>Bw w w'∧e=.returned (.bool (mM p)):=by
 have hmm:=@run_makeMap Tryz.prog
 obtain⟨_,houts,⟨xs,hfr,hfi⟩,_,_⟩:=hp
 obtain⟨w1,hw1⟩:∃w1,w1=w.alloc (.cells #[v1,.slice o2 p.outs.length c2,.slice o3 p.fs.length c3,v4,v5] 39):=⟨_,rfl⟩
 have hb1:Bw w w1:=by rw[hw1];exact aH
 have hr1:w1.heap[w.heap.size]?=some (.cells #[v1,.slice o2 p.outs.length c2,.slice o3 p.fs.length c3,v4,v5] 39 (0,0)):=by rw[hw1];exact heap_alloc_new _ _
 obtain⟨w2,hw2⟩:∃w2,w2=w1.alloc (.map #[] 0):=⟨_,rfl⟩
 have hb2:Bw w1 w2:=by rw[hw2];exact aH
 have hf2:aO w2 w1.heap.size 0 (aY (fun _=>none)):=by rw[hw2,uR];exact aO.made w1
 have e2:w2.cell? ⟨w.heap.size,0+2,none⟩=some (.slice o3 p.fs.length c3):=by rw[cell_of_row w2 _ _ _ _ (0,0) (aN hb2 hr1)];rfl
 obtain⟨K,hK⟩:∃K,K=w1.heap.size:=⟨_,rfl⟩
 rw[←hK] at hf2
 have HKB:Hid (w.heap.size<K):=by rw[hK,hw1];unfold Hid;simp
 have HF2:=aA hf2
 have HB2:Hid (Bw w w2):=hb1.trans (hb2.mono hb1.size)
 have HR2:Hid (w2.heap[w.heap.size]?=some (.cells #[v1,.slice o2 p.outs.length c2,.slice o3 p.fs.length c3,v4,v5] 39 (0,0))):=aN hb2 hr1
 have HW1:Hid (w.alloc (.cells #[v1,.slice o2 p.outs.length c2,.slice o3 p.fs.length c3,v4,v5] 39)=w1):=hw1.symm
 have HW2:Hid (w1.alloc (.map #[] 0)=w2):=hw2.symm
 have HKE:Hid (w.heap.size+1=K):=by rw[hK,hw1];unfold Hid;simp
 have HOU:=aA houts
 have HFR:=aA hfr
 have HFI:=aA hfi
 have HN:=aA hn
 have HS:Hid ((∀x∈p.fs,x.name.size≤maxLen)∧∀e∈p.outs,e.op.size≤maxLen):=⟨hs,hs2⟩
 clear houts hfr hfi hw1 hb1 hr1 hw2 hb2 hf2 hn hs hs2 hK
 go_enter Tryz.func75,Tryz.ntmps75
 go_upto_region 2 with fail
 rw[HW1.out,HW2.out,HKE.out]
 go_wp2
 clear e2
 go_loopw [14] (fun t wr=>∃(j n:Nat),j≤p.fs.length∧t=.int .i64 j∧Hid (aO wr K n (aY (mH (fun _=>none) (p.fs.take j)))∧n≤j∧Bw w wr∧wr.heap[w.heap.size]?=some (.cells #[v1,.slice o2 p.outs.length c2,.slice o3 p.fs.length c3,v4,v5] 39 (0,0)))) (fun t _=>p.fs.length-(intOf t).toNat)
 case atStart=>exact⟨0,0,Nat.zero_le _,rfl,⟨HF2.out,Nat.le_refl _,HB2.out,HR2.out⟩⟩
 case round=>
  obtain⟨j,n,hj,rfl,HJR⟩:=hrel
  by_cases hjl:j<p.fs.length
  ·obtain⟨name,kind,op',n',s',es,oo,cc,zs,e,x0,x1,x2,x3,x4,x5,_,_⟩:=HFI.out.at hjl
   obtain⟨b,off,cp,ev,_,_,g⟩:=HFR.out.at (by have:=HFR.out.1;omega)
   obtain⟨rfl,rfl⟩:o3=some ⟨b,off,none⟩∧c3=cp:=by simpa using ev
   obtain⟨hfn,hnj,hbr,hpr⟩:=HJR.out
   have y0:=aD hbr (g _ _ x0)
   have y1:=aD hbr (g _ _ x1)
   have y2:=aD hbr (g _ _ x2)
   have y3:=aD hbr (g _ _ x3)
   have y4:=aD hbr (g _ _ x4)
   have y5:=aD hbr (g _ _ x5)
   rw[←Nat.add_assoc] at y1 y2 y3 y4 y5
   have i0':(0:Int)≤(j:Int):=by omega
   have i1':(j:Int)<(p.fs.length:Int):=by omega
   have ej:p.fs[j]?=some ⟨name,kind,.mk op' n' s' es⟩:=by rw[List.getElem?_eq_getElem hjl,e]
   have hsn:name.size≤maxLen:=HS.out.1 _ (List.mem_of_getElem? ej)
   obtain⟨w4,hw4⟩:∃w4,w4=wr.alloc (.cells #[.string name,.int .i64 kind,.string op',.int .i64 n',.string s',.slice oo es.length cc] 95):=⟨_,rfl⟩
   have hb4:Bw wr w4:=by rw[hw4];exact aH
   have hr4:w4.heap[wr.heap.size]?=some (.cells #[.string name,.int .i64 kind,.string op',.int .i64 n',.string s',.slice oo es.length cc] 95 (0,0)):=by rw[hw4];exact heap_alloc_new _ _
   have z0:w4.cell? ⟨wr.heap.size,0,none⟩=some (.string name):=cr hr4 rfl
   have hfn4:aO w4 K n (aY (mH (fun _=>none) (p.fs.take j))):=hfn.kept (hb4.block _ hfn.lt)
   obtain⟨w5,hup,hfn5,hgr5⟩:=hfn4.put Tryz.underlying96 (by have:=HN.out;unfold maxLen;omega) name hsn (.int .i64 0)
   rw[qJ _ (name,0),←Dy ej] at hfn5
   have HB5:Hid (Bw w w5):=below_grown (hbr.trans (hb4.mono hbr.size)) hgr5 (by have:=HKB.out;omega)
   have HP5:Hid (w5.heap[w.heap.size]?=some (.cells #[v1,.slice o2 p.outs.length c2,.slice (some ⟨b,off,none⟩) p.fs.length c3,v4,v5] 39 (0,0))):=gT hgr5 (fun e=>by
    have h1:=HKB.out
    have h2:K=w.heap.size:=by simpa using e
    omega) (aN hb4 hpr)
   have HF5:Hid (aO w5 K (n+1) (aY (mH (fun _=>none) (p.fs.take (j+1))))∧n+1≤j+1):=⟨hfn5,by omega⟩
   have HJ:=aA hjl
   have N4:Hid (wrap64 ((j:Int)+1)=(j:Int)+1):=by have:=HN.out;have:=HJ.out;unfold Hid wrap64;omega
   have HW4:Hid (wr.alloc (.cells #[.string name,.int .i64 kind,.string op',.int .i64 n',.string s',.slice oo es.length cc] 95)=w4):=hw4.symm
   clear hfn hnj hbr hpr g ev x0 x1 x2 x3 x4 x5 e ej hsn hw4 hb4 hr4 hfn4 hfn5 hgr5 hj hjl
   go_upto_region 5 with fail
   rw[HW4.out]
   clear y0 y1 y2 y3 y4 y5
   go_wp2
   exact⟨⟨j+1,n+1,HJ.out,by rw[N4.out];rfl,⟨HF5.out.1,HF5.out.2,HB5.out,HP5.out⟩⟩,by rw[N4.out];have:=HJ.out;simp [intOf];omega⟩
  ·obtain rfl:j=p.fs.length:=by omega
   obtain⟨hfn,hnj,hbr,hpr⟩:=HJR.out
   rw[List.take_length] at hfn
   have e1:wr.cell? ⟨w.heap.size,0+1,none⟩=some (.slice o2 p.outs.length c2):=cr hpr rfl
   have HFN:Hid (aO wr K n (aY (mH (fun _=>none) p.fs))∧n≤1000):=⟨hfn,by have:=HN.out;omega⟩
   have HBR:=aA hbr
   clear hfn hnj hbr hpr hj hjl HJR
   rename World=>wv
   go_wp2
   clear e1
   go_loopw [25] (fun t wr=>∃(j:Nat) (f:List UInt8→Option Int) (n:Nat),j≤p.outs.length∧t=.int .i64 j∧Hid (lD (mH (fun _=>none) p.fs) (p.outs.take j)=some f∧aO wr K n (aY f)∧n≤1000+j∧Bw w wr∧∀s q,f s=some q→q=0∨q=1)) (fun t _=>p.outs.length-(intOf t).toNat)
   case atStart=>exact⟨0,_,n,Nat.zero_le _,rfl,⟨by simp [lD],HFN.out.1,by have:=HFN.out.2;omega,HBR.out,fun s q h=>.inl (Dx (fun _ _ h=>by cases h) s q h)⟩⟩
   case round=>
    obtain⟨j,f,n2,hj,rfl,HJR⟩:=hrel
    by_cases hjl:j<p.outs.length
    ·obtain⟨hrun,hfn,hnj,hbr,hval⟩:=HJR.out
     obtain⟨e,he⟩:∃e,p.outs[j]?=some e:=⟨_,List.getElem?_eq_getElem hjl⟩
     obtain⟨b,off,cp,ev,_,_,g⟩:=HOU.out.at (by rw[E8];omega)
     obtain⟨rfl,rfl⟩:o2=some ⟨b,off,none⟩∧c2=cp:=by simpa using ev
     have hx:(kS p.outs)[j]?=some (.string e.op):=by
      have h1:=E9 hjl
      rw[List.getElem?_eq_getElem hjl] at he
      rw[h1,Option.some.inj he]
     have y0:=aD hbr (g _ _ hx)
     obtain⟨nm,hnm⟩:∃nm,nm=e.op:=⟨_,rfl⟩
     rw[←hnm] at y0
     have hsn:nm.size≤maxLen:=by rw[hnm];exact HS.out.2 _ (List.mem_of_getElem? he)
     have hlk:=hfn.look Tryz.underlying96 (jO wr) nm hsn
     have hlk1:=hfn.lW Tryz.underlying96 (jO wr) nm hsn
     have e1:(aY f nm.data.toList).getD (.int .i64 0)=.int .i64 ((f nm.data.toList).getD 0):=nA _
     have e2:(aY f nm.data.toList).isSome=(f nm.data.toList).isSome:=by unfold aY;cases f nm.data.toList<;>rfl
     rw[e1,e2] at hlk
     rw[e1] at hlk1
     have i0':(0:Int)≤(j:Int):=by omega
     have i1':(j:Int)<(p.outs.length:Int):=by omega
     have htk:=EH he hrun
     rw[←hnm] at htk
     have HJ:=aA hjl
     have N4:Hid (wrap64 ((j:Int)+1)=(j:Int)+1):=by have:=HN.out;have:=HJ.out;unfold Hid wrap64;omega
     have HBE:=aA hbr
     cases hf:f nm.data.toList with
     | none=>
      rw[hf] at htk hlk
      have HE:Hid (mM p=false):=by unfold Hid mM;rw[Bv htk];rfl
      have hlk':(Instr.lookup 96 (.map (some K)) (.string nm) true).run Tryz.prog wr=.ok (.tuple #[.int .i64 0,.bool false]) wr:=hlk
      clear hrun hfn hnj hbr hval he ev g hx hnm hsn hlk hlk1 e1 e2 htk hj hjl hf
      go_wp2
      go_ret
      exact⟨HBE.out,by rw[HE.out];rfl⟩
     | some q=>
      rw[hf] at htk hlk hlk1
      simp only at htk
      have hlk':(Instr.lookup 96 (.map (some K)) (.string nm) true).run Tryz.prog wr=.ok (.tuple #[.int .i64 q,.bool true]) wr:=hlk
      have hlk1':(Instr.lookup 96 (.map (some K)) (.string nm) false).run Tryz.prog wr=.ok (.int .i64 q) wr:=hlk1
      by_cases hq:0<q
      ·rw[if_pos hq] at htk
       have HE:Hid (mM p=false):=by unfold Hid mM;rw[Bv htk];rfl
       have d0:(0<q)=True:=eq_true hq
       clear hrun hfn hnj hbr hval he ev g hx hnm hsn hlk hlk1 hlk1' e1 e2 htk hj hjl hf hq
       go_wp2
       go_ret
       exact⟨HBE.out,by rw[HE.out];rfl⟩
      ·rw[if_neg hq] at htk
       obtain rfl:q=0:=by
        rcases hval _ _ hf with h | h
        ·exact h
        ·omega
       obtain⟨w5,hup,hfn5,hgr5⟩:=hfn.put Tryz.underlying96 (by have:=HN.out;have:=HJ.out;unfold maxLen;omega) nm hsn (.int .i64 1)
       rw[qJ f (nm,1)] at hfn5
       have HB5:Hid (Bw w w5):=below_grown hbr hgr5 (by have:=HKB.out;omega)
       have HF5:Hid (lD (mH (fun _=>none) p.fs) (p.outs.take (j+1))=some (bI f (nm,1))∧aO w5 K (n2+1) (aY (bI f (nm,1)))∧n2+1≤1000+(j+1)∧∀s q,bI f (nm,1) s=some q→q=0∨q=1):=⟨htk,hfn5,by omega,fun s q h=>by
        unfold bI at h
        by_cases e:s=nm.data.toList
        ·rw[if_pos e] at h;exact .inr (by simpa using h.symm)
        ·rw[if_neg e] at h;exact hval s q h⟩
       clear hrun hfn hnj hbr hval he ev g hx hnm hsn hlk hlk1 e1 e2 htk hj hjl hf hq hfn5 hgr5
       go_wp2
       exact⟨⟨j+1,_,n2+1,HJ.out,by rw[N4.out];rfl,⟨HF5.out.1,HF5.out.2.1,HF5.out.2.2.1,HB5.out,HF5.out.2.2.2⟩⟩,by rw[N4.out];have:=HJ.out;simp [intOf];omega⟩
    ·obtain rfl:j=p.outs.length:=by omega
     obtain⟨hrun,_,_,hbr,_⟩:=HJR.out
     rw[List.take_length] at hrun
     have HE:Hid (mM p=true):=by unfold Hid mM;rw[hrun];rfl
     have HBE:=aA hbr
     clear hrun hbr hj hjl
     go_wp2
     go_ret
     exact⟨HBE.out,by rw[HE.out];rfl⟩
end Go.Proofs.YtmgfakcccfahaaaGreatDoor
