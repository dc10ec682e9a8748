/-
  package order: needsItself BY CONTRACT.
-/
import Derived.Test.YtmgfakcccfahaaaGreatDoorN25
import Derived.Deep.RegionWith
set_option maxRecDepth 100000
set_option maxHeartbeats 8000000
namespace Go.Proofs.YtmgfakcccfahaaaGreatDoor
open Go.RowKit Go.Maps
def fF(w:World)(W n:Nat)(g:Nat→Bool):Prop:=w.heap[W]?=some (.cells ((List.range n).map fun k=>Value.bool (g k)).toArray 4 (0,0))
theorem fF.cell{w:World}{W n:Nat}{g:Nat→Bool}(h:fF w W n g){k:Nat}(hk:k<n):w.cell? ⟨W,k,none⟩=some (.bool (g k)):=by
 rw[cell_of_row w W k _ _ (0,0) h]
 simp [hk]
theorem fF.free{w:World}{W n:Nat}{g:Nat→Bool}(h:fF w W n g)(k:Nat):w.frozen? ⟨W,k,none⟩=false:=by
 unfold fF at h
 simp [World.frozen?,h]
theorem fF.lt{w:World}{W n:Nat}{g:Nat→Bool}(h:fF w W n g):W<w.heap.size:=(bE h).1
theorem fF.set{w:World}{W n:Nat}{g:Nat→Bool}(h:fF w W n g)(k:Nat)(v:Bool):fF (w.setCell ⟨W,k,none⟩ (.bool v)) W n (fun j=>if j=k then v else g j):=by
 unfold fF
 rw[heap_setCell_same w W k _ _ _ h]
 congr 2
 apply Array.toList_inj.1
 apply List.ext_getElem?
 intro j
 simp only[Array.toList_setIfInBounds,List.getElem?_map]
 by_cases hj:j<n
 ·by_cases e:k=j
  ·subst e
   rw[List.getElem?_set_self (by simpa using hj)]
   simp [hj]
  ·rw[List.getElem?_set_ne e]
   have:¬j=k:=fun h=>e h.symm
   simp [hj,this]
 ·rw[List.getElem?_eq_none (by simp;omega)]
  simp [hj]
theorem fF.made(w:World)(n:Nat):fF (w.alloc (.cells (Array.replicate n (.bool false)) 4)) w.heap.size n (fun _=>false):=by
 unfold fF
 rw[heap_alloc_new]
 congr 2
 apply Array.toList_inj.1
 apply List.ext_getElem?
 intro j
 simp only[Array.toList_replicate,List.getElem?_replicate,List.getElem?_map]
 by_cases hj:j<n
 ·simp [hj]
 ·simp [hj]
theorem fF.one{w:World}{W n:Nat}{g h:Nat→Bool}(hg:fF w W n g)(hh:fF w W n h){k:Nat}(hk:k<n):g k=h k:=by
 have h1:=hg.cell hk
 rw[hh.cell hk] at h1
 simpa using h1.symm
def eU(n:Nat)(g:Nat→Bool):Nat:=(List.range n).countP fun k=>!g k
theorem Gc(n:Nat)(g:Nat→Bool):eU n g≤n:=by
 have:=List.countP_le_length (p:=fun k=>!g k) (l:=List.range n)
 rwa [List.length_range] at this
theorem AP{n:Nat}{g h:Nat→Bool}(e:∀k,k<n→g k=h k):eU n g=eU n h:=by
 unfold eU
 refine List.countP_congr fun k hk=>?_
 rw[e k (List.mem_range.1 hk)]
theorem Ei{g:Nat→Bool}{x:Nat}(h0:g x=false):∀l:List Nat,x∈l→l.countP (fun k=>!(if k=x then true else g k))+1≤l.countP (fun k=>!g k)
 | [],h=>by simp at h
 | y::l,h=>by
  rw[List.countP_cons,List.countP_cons]
  have hmono:∀l:List Nat,l.countP (fun k=>!(if k=x then true else g k))≤l.countP (fun k=>!g k):=fun l=>List.countP_mono_left fun k _ hk=>by
   by_cases e:k=x
   ·rw[if_pos e] at hk;simp at hk
   ·rw[if_neg e] at hk;exact hk
  by_cases e:y=x
  ·subst e
   have:=hmono l
   simp only[if_pos,h0,Bool.not_true,Bool.not_false,Bool.false_eq_true,if_false]
   omega
  ·have hm:x∈l:=by
    rcases List.mem_cons.1 h with h | h
    ·exact absurd h.symm e
    ·exact h
   have:=Ei h0 l hm
   rw[if_neg e]
   omega
theorem Gb{n x:Nat}{g:Nat→Bool}(hx:x<n)(h0:g x=false):eU n (fun k=>if k=x then true else g k)+1≤eU n g:=Ei h0 _ (List.mem_range.2 hx)
structure Sn(nd:List (List Nat))(i:Nat)(X:Nat→Prop)(ws:List Nat)(sf:Nat→Bool):Prop where
 sound:∀x,sf x=true→bP nd i x
 work:∀x∈ws,x<nd.length∧(x=i∨sf x=true)
 closed:∀x,(x=i∨sf x=true)→x∈ws∨X x∨∀k∈aU nd x,sf k=true
theorem Sn.start(nd:List (List Nat)){i:Nat}(hi:i<nd.length):Sn nd i (fun _=>False) [i] (fun _=>false):=
 ⟨fun x h=>by simp at h,fun x hx=>by rw[List.mem_singleton.1 hx];exact⟨hi,.inl rfl⟩,fun x hx=>by
  rcases hx with rfl | hx
  ·exact .inl (List.mem_singleton_self _)
  ·simp at hx⟩
theorem Sn.pop{nd:List (List Nat)}{i x:Nat}{ws:List Nat}{sf:Nat→Bool}(h:Sn nd i (fun _=>False) (ws++[x]) sf):Sn nd i (fun y=>y=x) ws sf∧x<nd.length∧(x=i∨sf x=true):=by
 refine⟨⟨h.sound,fun y hy=>h.work y (List.mem_append_left _ hy),fun y hy=>?_⟩,h.work x (by simp)⟩
 rcases h.closed y hy with h1 | h1 | h1
 ·rcases List.mem_append.1 h1 with h2 | h2
  ·exact .inl h2
  ·exact .inr (.inl (List.mem_singleton.1 h2))
 ·exact h1.elim
 ·exact .inr (.inr h1)
theorem Sn.see{nd:List (List Nat)}{i x z:Nat}{ws:List Nat}{sf:Nat→Bool}(h:Sn nd i (fun y=>y=x) ws sf)(hx:x=i∨sf x=true)(hz:z∈aU nd x)(hzn:z<nd.length):Sn nd i (fun y=>y=x) (ws++[z]) (fun k=>if k=z then true else sf k):=by
 refine⟨fun y hy=>?_,fun y hy=>?_,fun y hy=>?_⟩
 ·by_cases e:y=z
  ·subst e
   rcases hx with rfl | hx
   ·exact .one _ _ hz
   ·exact(h.sound x hx).snoc hz
  ·rw[if_neg e] at hy
   exact h.sound y hy
 ·rcases List.mem_append.1 hy with hy | hy
  ·obtain⟨h1,h2⟩:=h.work y hy
   refine⟨h1,h2.imp id fun h3=>?_⟩
   split
   ·rfl
   ·exact h3
  ·rw[List.mem_singleton.1 hy]
   exact⟨hzn,.inr (if_pos rfl)⟩
 ·by_cases e:y=z
  ·exact .inl (by rw[e];simp)
  ·have hy':y=i∨sf y=true:=by
    rcases hy with hy | hy
    ·exact .inl hy
    ·rw[if_neg e] at hy
     exact .inr hy
   rcases h.closed y hy' with h1 | h1 | h1
   ·exact .inl (List.mem_append_left _ h1)
   ·exact .inr (.inl h1)
   ·exact .inr (.inr fun k hk=>by
     split
     ·rfl
     ·exact h1 k hk)
theorem Sn.over{nd:List (List Nat)}{i x:Nat}{ws:List Nat}{sf:Nat→Bool}(h:Sn nd i (fun y=>y=x) ws sf)(hx:∀k∈aU nd x,sf k=true):Sn nd i (fun _=>False) ws sf:=
 ⟨h.sound,h.work,fun y hy=>by
  rcases h.closed y hy with h1 | h1 | h1
  ·exact .inl h1
  ·rw[h1];exact .inr (.inr hx)
  ·exact .inr (.inr h1)⟩
theorem Sn.end{nd:List (List Nat)}{i:Nat}{sf:Nat→Bool}(h:Sn nd i (fun _=>False) [] sf):sf i=true ↔ bP nd i i:=by
 have hc:∀x,(x=i∨sf x=true)→∀k∈aU nd x,sf k=true:=fun x hx=>by
  rcases h.closed x hx with h1 | h1 | h1
  ·simp at h1
  ·exact h1.elim
  ·exact h1
 have hr:∀x y,bP nd x y→(x=i∨sf x=true)→sf y=true:=fun x y hr=>by
  induction hr with
  | one x k hk=>intro hx;exact hc x hx k hk
  | more x k j hk _ ih=>intro hx;exact ih (.inr (hc x hx k hk))
 exact⟨fun hs=>h.sound i hs,fun hs=>hr i i hs (.inl rfl)⟩

structure iK(w:World)(W n:Nat)(g:Nat→Bool)(v:Value)(ws:List Nat)(wr:World):Prop where
 j3:fF wr W n g
 row:wr.ownsRow w.heap.size 3 1 v ws.length ((cI ws).map (Value.int .i64))
 ne:v.ownBlock≠some W
 wb:w.heap.size≤W
 below:Bw w wr
theorem iK.alloc{w wr:World}{W n:Nat}{g:Nat→Bool}{v:Value}{ws:List Nat}(h:iK w W n g v ws wr)(o:Obj):iK w W n g v ws (wr.alloc o):=by
 have hb:Bw wr (wr.alloc o):=aH
 exact⟨(hb.block _ h.j3.lt).trans h.j3,h.row.alloc o,h.ne,h.wb,h.below.trans (hb.mono h.below.size)⟩
theorem iK.more{w wr w':World}{W n:Nat}{g:Nat→Bool}{v:Value}{ws:List Nat}{k gg cap:Nat}(h:iK w W n g v ws wr)(ho:w'.ownsRow w.heap.size 3 1 (.slice (some ⟨gg,0,none⟩) (ws.length+1) cap) (ws.length+1) ((cI ws).map (Value.int .i64)++[.int .i64 (k:Int)]))(hg:wr.grownBy w' v.ownBlock)(hat:v.ownBlock=some gg∨gg=wr.heap.size):iK w W n g (.slice (some ⟨gg,0,none⟩) (ws++[k]).length cap) (ws++[k]) w':=by
 refine⟨(hg.block W h.j3.lt (fun e=>h.ne e.symm)).trans h.j3,?_,fun e=>?_,h.wb,h.below.grown hg h.below.size (fun q hq=>(h.row.lt q hq).1)⟩
 ·rw[List.length_append,wG,List.map_append]
  exact ho
 ·have e:gg=W:=Option.some.inj e
  rcases hat with hat | hat
  ·exact h.ne (by rw[hat,e])
  ·have:=h.j3.lt;omega
theorem iK.store{w wr:World}{W n:Nat}{g:Nat→Bool}{v:Value}{ws:List Nat}(h:iK w W n g v ws wr)(k:Nat)(x:Bool):iK w W n (fun j=>if j=k then x else g j) v ws (wr.setCell ⟨W,k,none⟩ (.bool x)):=by
 have hset:∀q,q≠W→(wr.setCell ⟨W,k,none⟩ (.bool x)).heap[q]?=wr.heap[q]?:=fun q hq=>Below.heap_setCell wr ⟨W,k,none⟩ _ q hq
 have h1:=h.below
 refine⟨h.j3.set k x,gP h.row (fun q hq=>hset q (fun e=>h.ne (e ▸ hq))),h.ne,h.wb,?_⟩
 exact⟨h1.os,h1.tape,h1.output,by rw[size_setCell];exact h1.size,fun q hq=>(hset q (by have:=h.wb;omega)).trans (h1.block q hq)⟩
theorem iK.pop{w wr:World}{W n:Nat}{g:Nat→Bool}{gg c x:Nat}{ws:List Nat}(h:iK w W n g (.slice (some ⟨gg,0,none⟩) (ws.length+1) c) (ws++[x]) wr):iK w W n g (.slice (some ⟨gg,0,none⟩) ws.length c) ws wr:=by
 have hr:=h.row
 rw[List.length_append,wG,List.map_append] at hr
 exact⟨h.j3,ownsRow_pop (by simp [cI]) hr,h.ne,h.wb,h.below⟩
theorem Ld(w:World)(base nb:Nat)(F:Nat→Prop)(nd:List (List Nat))(h:bS w base nb F (nd.map cI))(hn:nd.length≤1000)(hk:∀i,∀k∈aU nd i,k<nd.length)(ht:tot nd nd.length≤200000)(i:Nat)(hi:i<nd.length) :
  Calls Tryz.prog 83 #[.slice (some ⟨nb,0,none⟩) nd.length nd.length,.int .i64 (i:Int)] w fun e w'=>∃b:Bool,e=.returned (.bool b)∧(b=true ↔ bP nd i i)∧Bw w w':=by
 obtain⟨i0,hi0,hz0,hz1,hz2⟩:=info_parts Tryz.lH
 obtain⟨n,hnn⟩:∃n,n=nd.length:=⟨_,rfl⟩
 have hmk:=nQ Tryz.underlying103 Tryz.ML rfl n (by omega) (by omega)
 obtain⟨w1,hw1⟩:∃w1,w1=w.alloc (.cells (Array.replicate n (.bool false)) 4):=⟨_,rfl⟩
 obtain⟨w2,hw2⟩:∃w2,w2=w1.alloc (.cells #[.int .i64 i] 3):=⟨_,rfl⟩
 have hs1:w1.heap.size=w.heap.size+1:=by rw[hw1];simp
 have hb1:Bw w w1:=by rw[hw1];exact aH
 have hb2:Bw w1 w2:=by rw[hw2];exact aH
 have h2:iK w w.heap.size n (fun _=>false) (.slice (some ⟨w.heap.size+1,0,none⟩) 1 1) [i] w2:=by
  have hw:fF w1 w.heap.size n (fun _=>false):=by rw[hw1];exact fF.made w n
  refine⟨(hb2.block _ hw.lt).trans hw,?_,fun e=>?_,Nat.le_refl _,hb1.trans (hb2.mono hb1.size)⟩
  ·rw[hw2,←hs1]
   have:=World.ownsRow_lit (base:=w.heap.size) (e:=3) (size:=1) w1 #[.int .i64 (i:Int)] 1 (by omega) (by unfold maxLen;omega) rfl
   simpa [cI] using this
  ·have e2:w.heap.size+1=w.heap.size:=Option.some.inj e
   omega
 obtain⟨W,hW⟩:∃W,W=w.heap.size:=⟨_,rfl⟩
 obtain⟨U,hU⟩:∃U,U=w.heap.size+1:=⟨_,rfl⟩
 rw[←hU,←hW] at h2
 have H2:=aA h2
 have HW:Hid (w.alloc (.cells (Array.replicate n (.bool false)) 4)=w1∧w1.alloc (.cells #[.int .i64 i] 3)=w2∧w.heap.size+1=U∧w.heap.size=W):=⟨hw1.symm,hw2.symm,hU.symm,hW.symm⟩
 have HR:=aA h
 have HN:Hid (n≤1000∧n=nd.length∧i<n):=⟨by omega,hnn,by omega⟩
 have HK:Hid (∀i,∀k∈aU nd i,k<n):=by unfold Hid;rw[hnn];exact hk
 have HT:Hid (tot nd n≤200000):=by unfold Hid;rw[hnn];exact ht
 have HS0:Hid (Sn nd i (fun _=>False) [i] (fun _=>false)):=Sn.start nd hi
 rw[←hnn]
 clear h hn hk ht hnn hw1 hw2 hs1 hb1 hb2 h2 hW hU hi
 go_enter Tryz.func83,Tryz.ntmps83
 go_upto_region 3 with fail
 rw[HW.out.1,HW.out.2.2.1,HW.out.2.1,HW.out.2.2.2]
 clear hmk
 go_wp2
 go_loopw [6] (fun v wr=>∃(ws:List Nat) (g:Nat→Bool) (so:Option Addr) (sc:Nat),v=.slice so ws.length sc∧Hid (iK w W n g (.slice so ws.length sc) ws wr∧Sn nd i (fun _=>False) ws g∧eU n g+ws.length≤n+1)) (fun v wr=>2*eU n (@Classical.epsilon (Nat→Bool) ⟨fun _=>false⟩ (fF wr W n))+pY v)
 case atStart=>exact⟨[i],_,some ⟨U,0,none⟩,1,rfl,H2.out,HS0.out,by have:=Gc n (fun _=>false);simp;omega⟩
 case round=>
  obtain⟨ws0,g,so,sc,rfl,HJ⟩:=hrel
  rcases List.eq_nil_or_concat ws0 with rfl | ⟨ws,x,hq⟩
  ·have hgi:=HJ.out.1.j3.cell HN.out.2.2
   have i0':(0:Int)≤(i:Int):=by omega
   have i1':(i:Int)<(n:Int):=by have:=HN.out;omega
   have HE:Hid ((g i=true ↔ bP nd i i)∧Bw w wr):=⟨HJ.out.2.1.end,HJ.out.1.below⟩
   clear HJ
   simp only[List.length_nil]
   go_wp2
   go_ret
   exact⟨g i,rfl,HE.out.1,HE.out.2⟩
  ·rw[List.concat_eq_append] at hq
   subst hq
   have hle:(ws++[x]).length=ws.length+1:=by simp
   rw[hle] at HJ ⊢
   have hrr:wr.ownsRow w.heap.size 3 1 (.slice so (ws.length+1) sc) (ws.length+1) ((cI (ws++[x])).map (Value.int .i64)):=by have:=HJ.out.1.row;rwa [hle] at this
   obtain⟨gg,cap,es,hbs,_⟩:=hrr.form (by omega)
   obtain⟨rfl,rfl⟩:so=some ⟨gg,0,none⟩∧sc=cap:=by simpa using es
   have hP:=HJ.out.1.pop
   obtain⟨hSn,hxn,hxi⟩:=HJ.out.2.1.pop
   have y0:=hrr.cells (g:=gg) rfl ws.length (.int .i64 (x:Int)) (by rw[List.getElem?_map,wH (x:=x) (by simp)];rfl)
   rw[Addr.add_lit,Nat.zero_add] at y0
   obtain⟨l,hl⟩:∃l,nd[x]?=some l:=⟨_,List.getElem?_eq_getElem hxn⟩
   have hla:=Cn hl
   obtain⟨o,c,hc,hrd⟩:=(HR.out.below (w':=wr) hP.below).read hl
   have HRD:Hid (∀(j x:Nat),l[j]?=some x→∃b,o=some ⟨b,0,none⟩∧w.cell? ⟨b,j,none⟩=some (.int .i64 (x:Int))):=by
    intro j x hj
    obtain⟨o2,c2,hc2,hrd2⟩:=HR.out.read hl
    have:=aF hP.below hc2
    rw[hc] at this
    obtain⟨rfl,rfl⟩:o=o2∧c=c2:=by simpa using this
    exact hrd2 j x hj
   have HLL:Hid (l.length≤200000∧aU nd x=l∧x<n):=by
    have h1:=uH nd (i:=x+1) (j:=n) (by have:=HN.out;omega)
    have h2:=HT.out
    have h3:=HN.out
    simp only[tot,hla] at h1
    exact⟨by omega,hla,by omega⟩
   have HP:Hid (iK w W n g (.slice (some ⟨gg,0,none⟩) ws.length sc) ws wr∧Sn nd i (fun y=>y=x) ws g∧eU n g+(ws.length+1)≤n+1):=⟨hP,hSn,HJ.out.2.2⟩
   have HXI:=aA hxi
   have HGF:Hid (eU n (@Classical.epsilon (Nat→Bool) ⟨fun _=>false⟩ (fF wr W n))=eU n g):=AP fun k hk=>(Classical.epsilon_spec (p:=fF wr W n) ⟨g,hP.j3⟩).one hP.j3 hk
   obtain⟨m,hm⟩:∃m,m=ws.length:=⟨_,rfl⟩
   have HMM:=aA hm
   rw[←hm] at y0 HP ⊢
   have hcm:m≤sc∧sc≠0:=by
    rcases hrr.2 with⟨h,_⟩ | ⟨_,_,_,h,_,_,h2,_⟩
    ·cases h
    ·injection h with h3 h4 h5
     omega
   obtain⟨hcm,hc0⟩:=hcm
   have i0':(0:Int)≤(m:Int):=by omega
   have i1':(m:Int)<(m:Int)+1:=by omega
   have k0':(0:Int)≤(x:Int):=by omega
   have k1':(x:Int)<(n:Int):=by have:=HLL.out;omega
   have N1:wrap64 (m:Int)=(m:Int):=by have:=HP.out.2.2;have:=HN.out;unfold wrap64;omega
   have HXN:Hid ((0:Int)≤(x:Int)∧(x:Int)<(n:Int)):=⟨k0',k1'⟩
   clear HJ hle es hbs hP hSn hxn hxi hl hla hrd hm hrr
   go_upto_region 8 with fail
   clear y0 hc hcm hc0 i0' i1' k0' k1' N1
   go_loopw [6,34] (fun v t wr=>∃(j:Nat) (ws1:List Nat) (g1:Nat→Bool) (so:Option Addr) (sc1:Nat),j≤l.length∧t=.int .i64 j∧v=.slice so ws1.length sc1∧Hid (iK w W n g1 (.slice so ws1.length sc1) ws1 wr∧Sn nd i (fun y=>y=x) ws1 g1∧eU n g1+(ws1.length+1)≤n+1∧(x=i∨g1 x=true)∧(∀q y,q<j→l[q]?=some y→g1 y=true)∧2*eU n g1+ws1.length≤2*eU n g+m)) (fun _ t _=>l.length-(intOf t).toNat)
   case atStart=>exact⟨0,ws,g,some ⟨gg,0,none⟩,sc,Nat.zero_le _,rfl,by rw[HMM.out],by have h:=HP.out;rw[HMM.out] at h ⊢;exact⟨h.1,h.2.1,h.2.2,HXI.out,fun q y hq _=>absurd hq (Nat.not_lt_zero _),Nat.le_refl _⟩⟩
   case round=>
    obtain⟨j,ws1,g1,so1,sc1,hj,rfl,rfl,HJ⟩:=hrel
    by_cases hjl:j<l.length
    ·obtain⟨y,hy⟩:∃y,l[j]?=some y:=⟨_,List.getElem?_eq_getElem hjl⟩
     obtain⟨b,rfl,hcb⟩:=HRD.out j y hy
     obtain⟨hS,hSn,hun,hxg,hseen,hms⟩:=HJ.out
     have y0:=aF hS.below hcb
     have hym:y∈aU nd x:=by rw[HLL.out.2.1];exact List.mem_of_getElem? hy
     have hyn:y<n:=HK.out x y hym
     have cy:=hS.j3.cell hyn
     have fy:=hS.j3.free y
     have i0':(0:Int)≤(j:Int):=by omega
     have i1':(j:Int)<(l.length:Int):=by omega
     have k0':(0:Int)≤(y:Int):=by omega
     have k1':(y:Int)<(n:Int):=by omega
     have HJL:=aA hjl
     have M4:Hid (wrap64 ((j:Int)+1)=(j:Int)+1):=by have:=HLL.out;unfold Hid wrap64;omega
     cases hgy:g1 y with
     | true=>
      rw[hgy] at cy
      have HNX:Hid (iK w W n g1 (.slice so1 ws1.length sc1) ws1 wr∧Sn nd i (fun y=>y=x) ws1 g1∧eU n g1+(ws1.length+1)≤n+1∧(x=i∨g1 x=true)∧(∀q z,q<j+1→l[q]?=some z→g1 z=true)∧2*eU n g1+ws1.length≤2*eU n g+m):=⟨hS,hSn,hun,hxg,fun q z hq hz=>by
       by_cases e:q=j
       ·subst e;rw[hy] at hz;rw[←Option.some.inj hz];exact hgy
       ·exact hseen q z (by omega) hz,hms⟩
      clear hy hcb hS hSn hun hxg hseen hms hym hyn hj hjl HJ hgy
      go_wp2
      exact⟨⟨j+1,ws1,g1,so1,sc1,HJL.out,by rw[M4.out];rfl,rfl,HNX.out⟩,by rw[M4.out];have:=HJL.out;simp [intOf];omega⟩
     | false=>
      rw[hgy] at cy
      obtain⟨w3,hw3⟩:∃w3,w3=wr.setCell ⟨W,y,none⟩ (.bool true):=⟨_,rfl⟩
      have HW3:Hid (wr.setCell ⟨W,y,none⟩ (.bool true)=w3):=hw3.symm
      have hS3:=hS.store y true
      rw[←hw3] at hS3
      have HOA:Hid (iK w W n (fun k=>if k=y then true else g1 k) (.slice so1 ws1.length sc1) ws1 (w3.alloc (.cells #[.int .i64 y] 3))):=hS3.alloc _
      have HNW:Hid (∀k z,[Value.int .i64 (y:Int)][k]?=some z→(w3.alloc (.cells #[.int .i64 y] 3)).cell? ((⟨w3.heap.size,0,none⟩:Addr).add k)=some z):=World.news_of_block (heap_alloc_new w3 _)
      have HMX:Hid (ws1.length+1≤maxLen∧(ws1.length+1)*8≤140737488355328):=by have:=HN.out;unfold Hid maxLen;omega
      have hul:=Gb (g:=g1) hyn hgy
      have HNX:Hid (Sn nd i (fun z=>z=x) (ws1++[y]) (fun k=>if k=y then true else g1 k)∧eU n (fun k=>if k=y then true else g1 k)+((ws1++[y]).length+1)≤n+1∧(x=i∨(if x=y then true else g1 x)=true)∧(∀q z,q<j+1→l[q]?=some z→(if z=y then true else g1 z)=true)∧2*eU n (fun k=>if k=y then true else g1 k)+(ws1++[y]).length≤2*eU n g+m):=by
       refine⟨hSn.see hxg hym (by have:=HN.out;omega),by rw[List.length_append,List.length_singleton];omega,hxg.imp id fun h=>?_,fun q z hq hz=>?_,by rw[List.length_append,List.length_singleton];omega⟩
       ·split
        ·rfl
        ·exact h
       ·by_cases e:q=j
        ·subst e;rw[hy] at hz;rw[if_pos (Option.some.inj hz).symm]
        ·split
         ·rfl
         ·exact hseen q z (by omega) hz
      clear hy hcb hS hSn hun hxg hseen hms hym hyn hj hjl HJ hgy hw3 hS3 hul
      go_upto_region 12 with fail
      rw[HW3.out]
      clear y0 cy fy
      go_wp2_with (at_builtin;refine wpList_append_lies _ rfl _ _ 30 rfl w.heap.size 3 i0 _ 1 8 Tryz.underlying30 hi0 hz0 hz1 hz2 rfl (by omega) (.slice so1 ws1.length sc1) ws1.length _ rfl HOA.out.row ⟨w3.heap.size,0,none⟩ 1 1 _ rfl rfl HNW.out (by simp [Value.oneCell']) (by omega) HMX.out.1 HMX.out.2 HOA.out.below.size _ rfl ?_;intro gq capq w5 hown5 hgrow5 hat5 hlt5)
      have hM:=HOA.out.more (k:=y) hown5 hgrow5 hat5
      have hle:(ws1++[y]).length=ws1.length+1:=by simp
      exact⟨⟨j+1,ws1++[y],_,some ⟨gq,0,none⟩,capq,HJL.out,by rw[M4.out];rfl,by rw[hle],hM,HNX.out⟩,by rw[M4.out];have:=HJL.out;simp [intOf];omega⟩
    ·obtain rfl:j=l.length:=by omega
     obtain⟨hS,hSn,hun,hxg,hseen,hms⟩:=HJ.out
     have HE:Hid (iK w W n g1 (.slice so1 ws1.length sc1) ws1 wr∧Sn nd i (fun _=>False) ws1 g1∧eU n g1+ws1.length≤n+1):=⟨hS,hSn.over fun k hk=>by
      rw[HLL.out.2.1] at hk
      obtain⟨q,hq⟩:=List.mem_iff_getElem?.1 hk
      exact hseen q k (aX hq).1 hq,by omega⟩
     have HLT:Hid (eU n (@Classical.epsilon (Nat→Bool) ⟨fun _=>false⟩ (fF wr W n))=eU n g1∧2*eU n g1+ws1.length≤2*eU n g+m):=⟨AP fun k hk=>(Classical.epsilon_spec (p:=fF wr W n) ⟨g1,hS.j3⟩).one hS.j3 hk,hms⟩
     clear hS hSn hun hxg hseen hms hj hjl HJ
     go_wp2
     exact⟨⟨ws1,g1,so1,sc1,rfl,HE.out⟩,by rw[HGF.out,HLT.out.1];have:=HLT.out.2;simp [pY];omega⟩

theorem LQ(w:World)(base nb:Nat)(F:Nat→Prop)(nd:List (List Nat))(h:bS w base nb F (nd.map cI))(hn:nd.length≤1000)(hk:∀i,∀k∈aU nd i,k<nd.length)(ht:tot nd nd.length≤200000)(m:Nat)(hm:m<nd.length)(hmr:bP nd m m)(hml:∀j,j<m→¬bP nd j j) :
  Calls Tryz.prog 37 #[.slice (some ⟨nb,0,none⟩) nd.length nd.length] w fun e w'=>e=.returned (.int .i64 (m:Int))∧Bw w w':=by
 have HC:Hid (∀(wr:World) (k:Nat),Bw w wr→k≤m→Calls Tryz.prog 83 #[.slice (some ⟨nb,0,none⟩) nd.length nd.length,.int .i64 (k:Int)] wr fun e w'=>e=.returned (.bool (decide (k=m)))∧Bw w w'):=fun wr k hb hkm=>by
  refine(Ld wr base nb F nd (h.below hb) hn hk ht k (by omega)).mono ?_
  rintro e w' ⟨b,rfl,hb1,hb2⟩
  refine⟨?_,hb.trans (hb2.mono hb.size)⟩
  by_cases e:k=m
  ·subst e
   rw[hb1.2 hmr,decide_eq_true rfl]
  ·have:¬b=true:=fun h=>hml k (by omega) (hb1.1 h)
   rw[decide_eq_false e]
   cases b with
   | true=>exact absurd rfl this
   | false=>rfl
 have HN:Hid (m≤1000):=by unfold Hid;omega
 clear h hn hk ht hm hmr hml
 go_enter Tryz.func37,Tryz.ntmps37
 go_wp2
 go_loopw [3] (fun t wr=>∃k:Nat,t=.int .i64 k∧Hid (k≤m∧Bw w wr)) (fun t _=>m-(intOf t).toNat)
 case atStart=>exact⟨0,rfl,Nat.zero_le _,Below.refl _ _⟩
 case round=>
  obtain⟨k,rfl,HJ⟩:=hrel
  have hc:=HC.out wr k HJ.out.2 HJ.out.1
  by_cases hkm:k=m
  ·subst hkm
   rw[decide_eq_true rfl] at hc
   have HCC:=aA hc
   clear hc HC HJ
   go_wp2_with fail
   refine HCC.out.mono ?_
   rintro e w3 ⟨rfl,hb3⟩
   have HB:=aA hb3
   clear hb3 HCC
   go_wp2
   go_ret
   exact⟨rfl,HB.out⟩
  ·rw[decide_eq_false hkm] at hc
   have HCC:=aA hc
   have HKM:Hid (k+1≤m):=by have:=HJ.out.1;unfold Hid;omega
   have N4:Hid (wrap64 ((k:Int)+1)=(k:Int)+1):=by have:=HN.out;have:=HKM.out;unfold Hid wrap64;omega
   clear hc hkm
   go_wp2_with fail
   refine HCC.out.mono ?_
   rintro e w3 ⟨rfl,hb3⟩
   have HB:=aA hb3
   clear hb3 HCC
   go_wp2
   exact⟨⟨k+1,by rw[N4.out];rfl,HKM.out,HB.out⟩,by rw[N4.out];have:=HKM.out;simp [intOf];omega⟩

theorem oL(fs:List Fw):(aN fs).length=fs.length:=by simp [aN]
theorem vB(fs:List Fw)(i:Nat):∀k∈aU (aN fs) i,k<(aN fs).length:=by
 intro k hk
 rw[oL]
 unfold aU aN at hk
 rw[List.getElem?_map] at hk
 cases h:fs[i]? with
 | none=>rw[h] at hk;simp at hk
 | some f=>
  rw[h] at hk
  simp only[Option.map_some,Option.getD_some,List.mem_filterMap] at hk
  obtain⟨s,_,hs⟩:=hk
  exact(oK hs).1
def O7(nd:List (List Nat))(base:Nat)(cv:Value)(e:Ending)(w':World):Prop:=
 (∃(d:List Nat) (o:Option Addr) (c:Nat),e=.returned (.tuple #[.slice o d.length c,.nilIface])∧bV nd d∧d.length=nd.length∧w'.ownsRow base 3 1 (.slice o d.length c) d.length ((cI d).map (Value.int .i64))) ∨
 ∃m b:Nat,e=.returned (.tuple #[.slice none 0 0,.iface 83 (.pointer (some ⟨b,0,none⟩))])∧m<nd.length∧bP nd m m∧(∀j,j<m→¬bP nd j j)∧w'.cell? ⟨b,0,none⟩=some (.int .i64 (m:Int))∧w'.cell? ⟨b,0+1,none⟩=some cv
theorem JZ(w:World)(S:Nat→Prop)(p:Pg)(o1 o2 o3 o4 o5:Option Addr)(c1 c2 c3 c4 c5:Nat)(hp:fE w S p (.slice o1 p.ins.length c1) (.slice o2 p.outs.length c2) (.slice o3 p.fs.length c3) (.slice o4 p.asserts.length c4) (.slice o5 p.checks.length c5))(hS:Plain w S)(hlt:∀b,S b→b<w.heap.size)(hnil:p.ins.length=0→o1=none∧c1=0)(hok:lN p)(st bt tt:TypeId)(sq bq tq:Value)(he:E3 w st bt tt sq bq tq)(h0:aQ p=0)(hfb:kS (aD p))(htot:tot (aN p.fs) (aN p.fs).length≤200000)(ct:TypeId)(cq:Value)(hcv:w.cell? ⟨0,0,none⟩=some (.iface ct cq)) :
  Calls Tryz.prog 9 #[.agg #[.slice o1 p.ins.length c1,.slice o2 p.outs.length c2,.slice o3 p.fs.length c3,.slice o4 p.asserts.length c4,.slice o5 p.checks.length c5]] w fun e w'=>Bw w w'∧O7 (aN p.fs) w.heap.size (.iface ct cq) e w':=by
 obtain⟨w1,hw1⟩:∃w1,w1=w.alloc (.cells #[.slice o1 p.ins.length c1,.slice o2 p.outs.length c2,.slice o3 p.fs.length c3,.slice o4 p.asserts.length c4,.slice o5 p.checks.length c5] 39):=⟨_,rfl⟩
 have hb1:Bw w w1:=by rw[hw1];exact aH
 have hr1:w1.heap[w.heap.size]?=some (.cells #[.slice o1 p.ins.length c1,.slice o2 p.outs.length c2,.slice o3 p.fs.length c3,.slice o4 p.asserts.length c4,.slice o5 p.checks.length c5] 39 (0,0)):=by rw[hw1];exact heap_alloc_new _ _
 have hst:aP S S w w1:=fun b hS hl=>⟨hS,hb1.block b hl⟩
 have hp1:=hp.keep hst
 have hlt1:∀b,S b→b<w1.heap.size:=fun b hb=>Nat.lt_of_lt_of_le (hlt b hb) hb1.size
 have hS1:Plain w1 S:=hS.keep hb1 (fun b hb _=>hlt b hb)
 have HFC:Hid (Calls Tryz.prog 34 #[.agg #[.slice o1 p.ins.length c1,.slice o2 p.outs.length c2,.slice o3 p.fs.length c3,.slice o4 p.asserts.length c4,.slice o5 p.checks.length c5]] w1 fun e w'=>Bw w1 w'∧e=.returned .nilIface):=by
  have:=D5 w1 S p o1 o2 o3 o4 o5 c1 c2 c3 c4 c5 hp1 hS1 hlt1 hnil hok st bt tt sq bq tq (he.keep hb1)
  rw[h0] at this
  exact this
 have HNF:Hid (∀w2,Bw w1 w2→Calls Tryz.prog 35 #[.agg #[.slice o1 p.ins.length c1,.slice o2 p.outs.length c2,.slice o3 p.fs.length c3,.slice o4 p.asserts.length c4,.slice o5 p.checks.length c5]] w2 fun e w'=>∃nb,e=.returned (.slice (some ⟨nb,0,none⟩) p.fs.length p.fs.length)∧bS w' w2.heap.size nb (fun _=>False) ((aN p.fs).map cI)∧Bw w2 w'):=fun w2 hb2=>by
  have hst2:aP S S w1 w2:=fun b hS hl=>⟨hS,hb2.block b hl⟩
  exact Lc w2 S p o3 c3 _ _ _ _ (hp1.keep hst2) hok hfb
 have HR1:Hid (w1.heap[w.heap.size]?=some (.cells #[.slice o1 p.ins.length c1,.slice o2 p.outs.length c2,.slice o3 p.fs.length c3,.slice o4 p.asserts.length c4,.slice o5 p.checks.length c5] 39 (0,0))∧Bw w w1):=⟨hr1,hb1⟩
 have HCV:Hid (w1.cell? ⟨0,0,none⟩=some (.iface ct cq)):=aF hb1 hcv
 have HN:Hid ((aN p.fs).length=p.fs.length∧p.fs.length≤1000∧tot (aN p.fs) (aN p.fs).length≤200000):=⟨oL _,by have:=hok.vars;omega,htot⟩
 have HW1:Hid (w.alloc (.cells #[.slice o1 p.ins.length c1,.slice o2 p.outs.length c2,.slice o3 p.fs.length c3,.slice o4 p.asserts.length c4,.slice o5 p.checks.length c5] 39)=w1):=hw1.symm
 obtain⟨P,hP⟩:∃P,P=w.heap.size:=⟨_,rfl⟩
 have HP:=aA hP
 have cell5:∀w2,Bw w1 w2→w2.cell? ⟨P,0,none⟩=some (.slice o1 p.ins.length c1)∧w2.cell? ⟨P,0+1,none⟩=some (.slice o2 p.outs.length c2)∧w2.cell? ⟨P,0+2,none⟩=some (.slice o3 p.fs.length c3)∧w2.cell? ⟨P,0+3,none⟩=some (.slice o4 p.asserts.length c4)∧w2.cell? ⟨P,0+4,none⟩=some (.slice o5 p.checks.length c5):=fun w2 hb2=>by
  have h2:=aG hb2 (hP ▸ hr1)
  refine⟨?_,?_,?_,?_,?_⟩<;>(rw[cell_of_row w2 _ _ _ _ (0,0) h2];rfl)
 have H5:Hid (∀w2,Bw w1 w2→w2.cell? ⟨P,0,none⟩=some (.slice o1 p.ins.length c1)∧w2.cell? ⟨P,0+1,none⟩=some (.slice o2 p.outs.length c2)∧w2.cell? ⟨P,0+2,none⟩=some (.slice o3 p.fs.length c3)∧w2.cell? ⟨P,0+3,none⟩=some (.slice o4 p.asserts.length c4)∧w2.cell? ⟨P,0+4,none⟩=some (.slice o5 p.checks.length c5)):=cell5
 obtain⟨a1,a2,a3,a4,a5⟩:=cell5 w1 (Below.refl _ _)
 clear hp hS hlt hnil hok he h0 hfb htot hcv hw1 hb1 hr1 hst hp1 hlt1 hS1 hP cell5
 go_enter Tryz.func9,Tryz.ntmps9
 go_upto_region 1 with fail
 rw[HW1.out,←HP.out]
 go_wp2_with fail
 refine HFC.out.mono ?_
 rintro e w2 ⟨hb2,rfl⟩
 have HB2:=aA hb2
 obtain⟨d1,d2,d3,d4,d5⟩:=H5.out w2 hb2
 clear hb2 a1 a2 a3 a4 a5 HFC
 go_wp2_with fail
 refine(HNF.out w2 HB2.out).mono ?_
 rintro e w3 ⟨nb,rfl,hR3,hb3⟩
 have HB3:Hid (Bw w1 w3):=HB2.out.trans (hb3.mono HB2.out.size)
 have HR3:=aA hR3
 have HIO:Hid (Calls Tryz.prog 36 #[.slice (some ⟨nb,0,none⟩) p.fs.length p.fs.length] w3 fun e w'=>∃d o c,e=.returned (.slice o d.length c)∧bV (aN p.fs) d∧(∀i,¬iU (aN p.fs) d i)∧w'.ownsRow w3.heap.size 3 1 (.slice o d.length c) d.length ((cI d).map (Value.int .i64))∧Bw w3 w'):=by
  have:=MP w3 _ nb _ (aN p.fs) hR3 (by have:=HN.out;omega) (vB _) HN.out.2.2
  rwa [HN.out.1] at this
 clear hR3 hb3 d1 d2 d3 d4 d5 HNF
 go_wp2_with fail
 refine HIO.out.mono ?_
 rintro e w4 ⟨d,o,c,rfl,hG,hF,hown,hb4⟩
 have HB4:Hid (Bw w1 w4):=HB3.out.trans (hb4.mono HB3.out.size)
 have HG:Hid (bV (aN p.fs) d∧∀i,¬iU (aN p.fs) d i):=⟨hG,hF⟩
 have HOW:=aA hown
 have HR4:Hid (bS w4 w2.heap.size nb (fun _=>False) ((aN p.fs).map cI)):=HR3.out.below hb4
 obtain⟨d1,d2,d3,d4,d5⟩:=H5.out w4 HB4.out
 have hdl:=hG.len
 rw[HN.out.1] at hdl
 clear hG hF hown hb4 HIO HR3
 by_cases hlen:d.length=p.fs.length
 ·rw[hlen] at HOW ⊢
  have HLE:=aA hlen
  clear hdl hlen
  go_wp2
  refine bodyPost_ret (results_tmp2 rfl _ _ _) rfl ?_
  refine⟨HR1.out.2.trans (HB4.out.mono HR1.out.2.size),.inl ⟨d,o,c,by rw[HLE.out];rfl,HG.out.1,by rw[HLE.out,HN.out.1],?_⟩⟩
  rw[HLE.out]
  exact rX HOW.out (Nat.le_trans HR1.out.2.size HB3.out.size)
 ·have hll:(d.length:Int)<(p.fs.length:Int):=by omega
  obtain⟨m,⟨hm0,hm1⟩,hm2⟩:=CP (P:=fun i=>i<(aN p.fs).length∧bP (aN p.fs) i i) (bV.cycle HG.out.2 (by have:=HN.out;omega) (vB _))
  have HM:Hid (m<(aN p.fs).length∧bP (aN p.fs) m m∧∀j,j<m→¬bP (aN p.fs) j j):=⟨hm0,hm1,fun j hj hr=>hm2 j hj ⟨by omega,hr⟩⟩
  have HLC:Hid (∀W,Bw w4 W→Calls Tryz.prog 37 #[.slice (some ⟨nb,0,none⟩) p.fs.length p.fs.length] W fun e w'=>e=.returned (.int .i64 (m:Int))∧Bw w4 w'):=fun W hW=>by
   have:=LQ W _ nb _ (aN p.fs) (HR4.out.below hW) (by have:=HN.out;omega) (vB _) HN.out.2.2 m HM.out.1 HM.out.2.1 HM.out.2.2
   rw[HN.out.1] at this
   refine this.mono ?_
   rintro e w' ⟨rfl,hb⟩
   exact⟨rfl,hW.trans (hb.mono hW.size)⟩
  have HBW:Hid (Bw w w4):=HR1.out.2.trans (HB4.out.mono HR1.out.2.size)
  have g4:w4.drew.cell? ⟨0,0,none⟩=some (.iface ct cq):=aF HB4.out HCV.out
  have G4:Hid (w4.cell? ⟨0,0,none⟩=some (.iface ct cq)):=aF HB4.out HCV.out
  clear hdl hlen hm0 hm1 hm2 HB4 HCV HR4 HB3 HB2 HOW HG H5
  go_upto_region 7 with fail
  go_region_with (go_at_call 37;refine(HLC.out _ (by first | exact Below.refl _ _ | exact(Below.refl _ _).drew)).mono ?_;rintro e w6 ⟨rfl,hb6⟩;have g6:w6.cell? ⟨0,0,none⟩=some (.iface ct cq):=aF hb6 G4.out)
  all_goals go_wp2
  all_goals refine bodyPost_ret (results_tmp2 rfl _ _ _) rfl ?_
  all_goals exact⟨HBW.out.trans ((hb6.alloc hb6.size _).mono HBW.out.size),.inr ⟨m,w6.heap.size,rfl,HM.out.1,HM.out.2.1,HM.out.2.2,by rw[cell_of_row _ _ _ _ _ (0,0) (heap_alloc_new _ _)];rfl,by rw[cell_of_row _ _ _ _ _ (0,0) (heap_alloc_new _ _)];rfl⟩⟩
end Go.Proofs.YtmgfakcccfahaaaGreatDoor
