/-
  package order: inOrder BY CONTRACT.
-/
import Derived.Test.YtmgfakcccfahaaaGreatDoorN24
namespace Go.Proofs.YtmgfakcccfahaaaGreatDoor
open Go.RowKit Go.Maps
set_option maxRecDepth 100000
set_option maxHeartbeats 8000000

theorem CP{P:Nat→Prop}(h:∃k,P k):∃k,P k∧∀j,j<k→¬P j:=by
 obtain⟨k,hk⟩:=h
 induction k using Nat.strongRecOn with
 | ind k ih=>
  by_cases hx:∃j,j<k∧P j
  ·obtain⟨j,hj,hp⟩:=hx
   exact ih j hj hp
  ·exact⟨k,hk,fun j hj hp=>hx ⟨j,hj,hp⟩⟩
theorem bD.congr{w:World}{W n:Nat}{g h:Nat→Int}(hg:bD w W n g)(e:∀k,k<n→g k=h k):bD w W n h:=by
 unfold bD at hg ⊢
 rw[←IY e]
 exact hg
theorem FD(nd:List (List Nat))(d:List Nat)(x:Nat):-1≤wt nd d x∧wt nd d x≤(aU nd x).length:=by
 unfold wt
 split
 ·exact⟨Int.le_refl _,by omega⟩
 ·have:=List.countP_le_length (p:=fun k=>!d.contains k) (l:=aU nd x)
  omega
structure eD(w w2:World)(W n:Nat)(g:Nat→Int)(d:List Nat)(v:Value)(wr:World):Prop where
 fP:bD wr W n g
 ord:wr.ownsRow w2.heap.size 3 1 v d.length ((cI d).map (Value.int .i64))
 keep:∀k,k<w2.heap.size→k≠W→wr.heap[k]?=w2.heap[k]?
 size:w2.heap.size≤wr.heap.size
 below:Bw w wr
 lU:W<w2.heap.size∧w.heap.size≤W∧w.heap.size≤w2.heap.size
theorem eD.alloc{w w2 wr:World}{W n:Nat}{g:Nat→Int}{d:List Nat}{v:Value}(h:eD w w2 W n g d v wr)(o:Obj):eD w w2 W n g d v (wr.alloc o):=by
 have hb:Bw wr (wr.alloc o):=aH
 exact⟨(hb.block _ h.fP.lt).trans h.fP,h.ord.alloc o,fun k hk hW=>(hb.block k (by have:=h.size;omega)).trans (h.keep k hk hW),Nat.le_trans h.size hb.size,h.below.trans (hb.mono h.below.size),h.lU⟩
theorem eD.beyond{w w2 wr w':World}{W n:Nat}{g:Nat→Int}{d:List Nat}{v:Value}(h:eD w w2 W n g d v wr)(hb:Bw wr w'):eD w w2 W n g d v w':=
 ⟨(hb.block _ h.fP.lt).trans h.fP,gP h.ord (fun k hk=>hb.block k (h.ord.lt k hk).2),fun k hk hW=>(hb.block k (by have:=h.size;omega)).trans (h.keep k hk hW),Nat.le_trans h.size hb.size,h.below.trans (hb.mono h.below.size),h.lU⟩
theorem eD.more{w w2 wr w':World}{W n:Nat}{g:Nat→Int}{d:List Nat}{v:Value}{k gg cap:Nat}(h:eD w w2 W n g d v wr)(ho:w'.ownsRow w2.heap.size 3 1 (.slice (some ⟨gg,0,none⟩) (d.length+1) cap) (d.length+1) ((cI d).map (Value.int .i64)++[.int .i64 (k:Int)]))(hg:wr.grownBy w' v.ownBlock):eD w w2 W n g (d++[k]) (.slice (some ⟨gg,0,none⟩) (d++[k]).length cap) w':=by
 have hne:∀q,q<w2.heap.size→v.ownBlock≠some q:=fun q hq e=>by have:=(h.ord.lt q e).1;omega
 refine⟨(hg.block W h.fP.lt (fun e=>hne W h.lU.1 e.symm)).trans h.fP,?_,fun q hq hW=>(hg.block q (by have:=h.size;omega) (fun e=>hne q hq e.symm)).trans (h.keep q hq hW),Nat.le_trans h.size hg.size,h.below.grown hg h.below.size (fun q hq=>by have:=(h.ord.lt q hq).1;have:=h.lU;omega),h.lU⟩
 rw[List.length_append,wG,List.map_append]
 exact ho
theorem eD.store{w w2 wr:World}{W n:Nat}{g:Nat→Int}{d:List Nat}{v:Value}(h:eD w w2 W n g d v wr)(k:Nat)(x:Int):eD w w2 W n (fun j=>if j=k then x else g j) d v (wr.setCell ⟨W,k,none⟩ (.int .i64 x)):=by
 have hset:∀q,q≠W→(wr.setCell ⟨W,k,none⟩ (.int .i64 x)).heap[q]?=wr.heap[q]?:=fun q hq=>Below.heap_setCell wr ⟨W,k,none⟩ _ q hq
 have h1:=h.below
 refine⟨h.fP.set k x,gP h.ord (fun q hq=>hset q (fun e=>by have:=(h.ord.lt q hq).1;have:=h.lU;omega)),fun q hq hW=>(hset q hW).trans (h.keep q hq hW),by rw[size_setCell];exact h.size,?_,h.lU⟩
 exact⟨h1.os,h1.tape,h1.output,by rw[size_setCell];exact h1.size,fun q hq=>(hset q (by have:=h.lU;omega)).trans (h1.block q hq)⟩
theorem eD.congr{w w2 wr:World}{W n:Nat}{g g':Nat→Int}{d:List Nat}{v:Value}(h:eD w w2 W n g d v wr)(e:∀k,k<n→g k=g' k):eD w w2 W n g' d v wr:=
 ⟨h.fP.congr e,h.ord,h.keep,h.size,h.below,h.lU⟩
theorem eD.rows{w w2 wr:World}{W n base nb:Nat}{g:Nat→Int}{d:List Nat}{v:Value}{ls:List (List Int)}(h:eD w w2 W n g d v wr)(hr:bS w2 base nb (fun k=>k=W) ls)(hn:nb≠W):bS wr base nb (fun k=>k=W) ls:=
 hr.move h.size (fun k _ hF hk=>h.keep k hk hF) (h.keep nb hr.lt hn)
theorem MP(w:World)(base nb:Nat)(F:Nat→Prop)(nd:List (List Nat))(h:bS w base nb F (nd.map cI))(hn:nd.length≤1000)(hk:∀i,∀k∈aU nd i,k<nd.length)(ht:tot nd nd.length≤200000) :
  Calls Tryz.prog 36 #[.slice (some ⟨nb,0,none⟩) nd.length nd.length] w fun e w'=>∃d o c,e=.returned (.slice o d.length c)∧bV nd d∧(∀i,¬iU nd d i)∧w'.ownsRow w.heap.size 3 1 (.slice o d.length c) d.length ((cI d).map (Value.int .i64))∧Bw w w':=by
 obtain⟨i0,hi0,hz0,hz1,hz2⟩:=info_parts Tryz.lH
 obtain⟨n,hnn⟩:∃n,n=nd.length:=⟨_,rfl⟩
 have hmk:=nQ Tryz.underlying80 Tryz.Dm rfl n (by omega) (Nat.le_refl _)
 have hmi:=nQ Tryz.underlying30 Tryz.lH rfl n (by omega) (by omega)
 obtain⟨w1,hw1⟩:∃w1,w1=w.alloc (.cells (Array.replicate n (.int .i64 0)) 3):=⟨_,rfl⟩
 obtain⟨w2,hw2⟩:∃w2,w2=w1.alloc (.cells (Array.replicate n (.slice none 0 0)) 30):=⟨_,rfl⟩
 have hs1:w1.heap.size=w.heap.size+1:=by rw[hw1];simp
 have hb1:Bw w w1:=by rw[hw1];exact aH
 have hb2:Bw w1 w2:=by rw[hw2];exact aH
 have h2:jR w w.heap.size (w.heap.size+1) n (fun _=>0) (List.replicate n []) w2:=by
  have hw:bD w1 w.heap.size n (fun _=>0):=by rw[hw1];exact bD.made w n
  refine⟨(hb2.block _ hw.lt).trans hw,?_,by omega,Nat.le_refl _,hb1.trans (hb2.mono hb1.size)⟩
  rw[hw2,←hs1]
  have:=bS.made (w:=w1) (base:=w.heap.size) (F:=fun k=>k=w.heap.size) n (by omega) (fun k hk=>by omega)
  rwa [show List.map cI (List.replicate n [])=List.replicate n [] from by simp [cI]]
 obtain⟨W,hW⟩:∃W,W=w.heap.size:=⟨_,rfl⟩
 obtain⟨U,hU⟩:∃U,U=w.heap.size+1:=⟨_,rfl⟩
 rw[←hU,←hW] at h2
 have H2:=aA h2
 have HW:Hid (w.alloc (.cells (Array.replicate n (.int .i64 0)) 3)=w1∧w1.alloc (.cells (Array.replicate n (.slice none 0 0)) 30)=w2∧w.heap.size+1=U∧w.heap.size=W):=⟨hw1.symm,hw2.symm,hU.symm,hW.symm⟩
 have HR:=aA h
 have HN:Hid (n≤1000∧n=nd.length):=⟨by omega,hnn⟩
 have HK:Hid (∀i,∀k∈aU nd i,k<n):=by unfold Hid;rw[hnn];exact hk
 have HT:Hid (tot nd n≤200000):=by unfold Hid;rw[hnn];exact ht
 rw[←hnn]
 clear h hn hk ht hnn hw1 hw2 hs1 hb1 hb2 h2 hW hU
 go_enter Tryz.func36,Tryz.ntmps36
 go_upto_region 3 with fail
 rw[HW.out.1,HW.out.2.2.1,HW.out.2.1,HW.out.2.2.2]
 clear hmk hmi
 go_wp2
 go_loopw [21] (fun t wr=>∃(i:Nat) (us:List (List Nat)),i≤n∧t=.int .i64 i∧Hid (jR w W U n (fun k=>if k<i then ((aU nd k).length:Int) else 0) us wr∧jQ nd us i 0∧∀(k:Nat) (l:List Nat),us[k]?=some l→l.length≤tot nd i)) (fun t _=>n-(intOf t).toNat)
 case atStart=>exact⟨0,List.replicate n [],Nat.zero_le _,rfl,⟨by simpa using H2.out,by have:=jQ.start nd;rwa [←HN.out.2] at this,fun k l hl=>by rw[qJ hl];exact Nat.zero_le _⟩⟩
 case round=>
  obtain⟨i,us,hi,rfl,HI⟩:=hrel
  by_cases hil:i<n
  ·obtain⟨l,hl⟩:∃l,nd[i]?=some l:=⟨_,List.getElem?_eq_getElem (by have:=HN.out.2;omega)⟩
   have hla:=Cn hl
   obtain⟨hS,hC,hB⟩:=HI.out
   obtain⟨o,c,hc,hrd⟩:=(HR.out.below (w':=wr) (by have:=hS.below;exact this)).read hl
   have i0':(0:Int)≤(i:Int):=by omega
   have i1':(i:Int)<(n:Int):=by omega
   have fzW:wr.frozen? ⟨W,i,none⟩=false:=hS.fP.free i
   have cW:=hS.fP.cell hil
   have hS1:=hS.store i (l.length:Int)
   have hge:(fun j=>if j=i then (l.length:Int) else if j<i then ((aU nd j).length:Int) else 0)=fun k=>if k<i+1 then ((aU nd k).length:Int) else 0:=by
    funext j
    by_cases e:j=i
    ·rw[if_pos e,if_pos (by omega),e,hla]
    ·rw[if_neg e]
     by_cases e2:j<i
     ·rw[if_pos e2,if_pos (by omega)]
     ·rw[if_neg e2,if_neg (by omega)]
   rw[hge] at hS1
   obtain⟨w3,hw3⟩:∃w3,w3=wr.setCell ⟨W,i,none⟩ (.int .i64 l.length):=⟨_,rfl⟩
   rw[←hw3] at hS1
   have HS1:Hid (jR w W U n (fun k=>if k<i+1 then ((aU nd k).length:Int) else 0) us w3∧jQ nd us i 0∧∀(k:Nat) (m:List Nat),us[k]?=some m→m.length≤tot nd i):=⟨hS1,hC,hB⟩
   have HW3:Hid (wr.setCell ⟨W,i,none⟩ (.int .i64 l.length)=w3):=hw3.symm
   have HL:Hid (nd[i]?=some l∧aU nd i=l):=⟨hl,hla⟩
   have HIL:=aA hil
   have N4:Hid (wrap64 ((i:Int)+1)=(i:Int)+1):=by have:=HN.out;unfold Hid wrap64;omega
   have HRD:Hid (∀(j x:Nat),l[j]?=some x→∃b,o=some ⟨b,0,none⟩∧w.cell? ⟨b,j,none⟩=some (.int .i64 (x:Int))):=by
    intro j x hj
    obtain⟨o2,c2,hc2,hrd2⟩:=HR.out.read hl
    have:=aF hS.below hc2
    rw[hc] at this
    obtain⟨rfl,rfl⟩:o=o2∧c=c2:=by simpa using this
    exact hrd2 j x hj
   have HLL:Hid (l.length≤200000):=by
    have h1:=uH nd (i:=i+1) (j:=n) (by omega)
    have h2:=HT.out
    simp only[tot,hla] at h1
    unfold Hid
    omega
   clear hl hla hS hC hB hrd hS1 hge hw3 hi hil HI
   go_upto_region 7 with fail
   rw[HW3.out]
   clear fzW cW hc
   go_wp2
   go_loopw [33] (fun t wr=>∃(j:Nat) (us1:List (List Nat)),j≤l.length∧t=.int .i64 j∧Hid (jR w W U n (fun k=>if k<i+1 then ((aU nd k).length:Int) else 0) us1 wr∧jQ nd us1 i j∧∀(k:Nat) (m:List Nat),us1[k]?=some m→m.length≤tot nd i+j)) (fun t _=>l.length-(intOf t).toNat)
   case atStart=>exact⟨0,us,Nat.zero_le _,rfl,⟨HS1.out.1,HS1.out.2.1,fun k m hm=>by have:=HS1.out.2.2 k m hm;omega⟩⟩
   case round=>
    obtain⟨j,us1,hj,rfl,HJ⟩:=hrel
    by_cases hjl:j<l.length
    ·obtain⟨x,hx⟩:∃x,l[j]?=some x:=⟨_,List.getElem?_eq_getElem hjl⟩
     obtain⟨b,rfl,hcb⟩:=HRD.out j x hx
     obtain⟨hS,hC,hB⟩:=HJ.out
     have y0:=aF hS.below hcb
     have hxn:x<n:=HK.out i x (by rw[HL.out.2];exact List.mem_of_getElem? hx)
     obtain⟨m,hm⟩:∃m,us1[x]?=some m:=⟨_,List.getElem?_eq_getElem (by rw[hC.len,←HN.out.2];exact hxn)⟩
     have hm':(us1.map cI)[x]?=some (cI m):=by rw[List.getElem?_map,hm];rfl
     obtain⟨ou,cu,hcu,hfu,how,hob⟩:=hS.usr.at hm'
     rw[oV] at hcu how hob
     have hml:=hB x m hm
     have i0':(0:Int)≤(j:Int):=by omega
     have i1':(j:Int)<(l.length:Int):=by omega
     have k0':(0:Int)≤(x:Int):=by omega
     have k1':(x:Int)<(n:Int):=by omega
     have htt:tot nd i+l.length≤200000:=by
      have h1:=uH nd (i:=i+1) (j:=n) (by have:=HIL.out;omega)
      have h2:=HT.out
      simp only[tot,HL.out.2] at h1
      omega
     have hba:Bw wr (wr.alloc (.cells #[.int .i64 i] 3)):=aH
     have HS2:Hid (jR w W U n (fun k=>if k<i+1 then ((aU nd k).length:Int) else 0) us1 (wr.alloc (.cells #[.int .i64 i] 3))):=hS.keep hba
     have HCU:Hid ((wr.alloc (.cells #[.int .i64 i] 3)).cell? ⟨U,x,none⟩=some (.slice ou m.length cu)):=aF hba hcu
     have HOW:Hid ((wr.alloc (.cells #[.int .i64 i] 3)).ownsRow w.heap.size 3 1 (.slice ou m.length cu) m.length ((cI m).map (Value.int .i64))):=how.alloc _
     have HNW:Hid (∀k y,[Value.int .i64 (i:Int)][k]?=some y→(wr.alloc (.cells #[.int .i64 i] 3)).cell? ((⟨wr.heap.size,0,none⟩:Addr).add k)=some y):=World.news_of_block (heap_alloc_new wr _)
     have HMX:Hid (m.length+1≤maxLen∧(m.length+1)*8≤140737488355328):=by unfold Hid maxLen;omega
     have HUS:Hid (jQ nd (us1.set x (m++[i])) i (j+1)∧∀(k:Nat) (q:List Nat),(us1.set x (m++[i]))[k]?=some q→q.length≤tot nd i+(j+1)):=by
      refine⟨hC.step (by rw[←HN.out.2];exact HIL.out) (by rw[HL.out.2];exact hx) hm,fun k q hq=>?_⟩
      by_cases e:x=k
      ·subst e
       rw[List.getElem?_set_self (aX hm).1] at hq
       rw[←Option.some.inj hq,List.length_append,List.length_singleton]
       omega
      ·rw[List.getElem?_set_ne e] at hq
       have:=hB k q hq
       omega
     have HM:=aA hm
     have HOB:=aA hob
     have HJL:=aA hjl
     have M4:Hid (wrap64 ((j:Int)+1)=(j:Int)+1):=by have:=HLL.out;unfold Hid wrap64;omega
     have HUW:Hid (U<(wr.alloc (.cells #[.int .i64 i] 3)).heap.size∧(wr.alloc (.cells #[.int .i64 i] 3)).frozen? ⟨U,x,none⟩=false):=⟨Nat.lt_of_lt_of_le hS.usr.lt hba.size,by obtain⟨_,_,_,h,_⟩:=(hS.keep hba).usr.at hm';exact h⟩
     clear hx hcb hS hC hB hxn hm hm' hfu how hob hml htt hba hj hjl HJ
     go_wp2_with (at_builtin;refine wpList_append_lies _ rfl _ _ 30 rfl w.heap.size 3 i0 _ 1 8 Tryz.underlying30 hi0 hz0 hz1 hz2 rfl (by omega) (.slice ou m.length cu) m.length _ rfl HOW.out ⟨wr.heap.size,0,none⟩ 1 1 _ rfl rfl HNW.out (by simp [Value.oneCell']) (by omega) HMX.out.1 HMX.out.2 HS2.out.below.size _ rfl ?_;intro g cap w5 hown5 hgrow5 hat5 hlt5;have hq5:w5.heap[U]?=_:=hgrow5.block U HUW.out.1 (fun e=>(HOB.out U e.symm).1 rfl);have c5:w5.cell? ⟨U,x,none⟩=some (.slice ou m.length cu):=(World.cell?_of_block (a:=⟨U,x,none⟩) hq5).trans HCU.out;have f5:w5.frozen? ⟨U,x,none⟩=false:=(World.frozen?_of_block (a:=⟨U,x,none⟩) hq5).trans HUW.out.2)
     have hfin:=HS2.out.grown (i:=i) (gg:=g) (cap:=cap) (w':=w5) HM.out HCU.out hgrow5 hat5 hown5
     exact⟨⟨j+1,_,HJL.out,by rw[M4.out];rfl,⟨hfin,HUS.out.1,HUS.out.2⟩⟩,by rw[M4.out];have:=HJL.out;simp [intOf];omega⟩
    ·obtain rfl:j=l.length:=by omega
     have HE:Hid (jR w W U n (fun k=>if k<i+1 then ((aU nd k).length:Int) else 0) us1 wr∧jQ nd us1 (i+1) 0∧∀(k:Nat) (m:List Nat),us1[k]?=some m→m.length≤tot nd (i+1)):=⟨HJ.out.1,by have:=HJ.out.2.1;rw[←HL.out.2] at this;exact this.next,fun k m hm=>by have:=HJ.out.2.2 k m hm;simp only[tot,HL.out.2];exact this⟩
     clear hj hjl HJ
     go_wp2
     exact⟨⟨i+1,us1,HIL.out,by rw[N4.out];rfl,HE.out⟩,by rw[N4.out];have:=HIL.out;simp [intOf];omega⟩
  ·obtain rfl:i=n:=by omega
   obtain⟨hS,hC,hB⟩:=HI.out
   have h0:eD w wr W i (wt nd []) [] (.slice none 0 0) wr:=by
    refine⟨hS.fP.congr (fun k hk=>?_),World.ownsRow_nil _ _ _ _,fun _ _ _=>rfl,Nat.le_refl _,hS.below,hS.fP.lt,hS.wb,hS.below.size⟩
    rw[if_pos hk]
    unfold wt
    rw[if_neg (by simp)]
    congr 1
    rw[List.countP_eq_length.2]
    intro a _
    simp
   obtain⟨w2',hw2'⟩:∃w2',w2'=wr:=⟨_,rfl⟩
   rw[←hw2'] at h0 hS
   have H0:Hid (eD w w2' W i (wt nd []) [] (.slice none 0 0) wr):=by rw[←hw2'];exact h0
   have HUS:Hid (bS w2' w.heap.size U (fun k=>k=W) (us.map cI)∧U≠W):=⟨hS.usr,fun e=>hS.ne e.symm⟩
   have HC:Hid (jQ nd us i 0∧∀(k:Nat) (l:List Nat),us[k]?=some l→l.length≤tot nd i):=⟨hC,hB⟩
   clear h0 hw2' hS hC hB hi hil HI
   obtain⟨n,hn⟩:∃n,n=i:=⟨_,rfl⟩
   rw[←hn] at HN HK HT H0 HC ⊢
   clear hn
   go_wp2
   go_loopw [9] (fun v wr=>∃(d:List Nat) (so:Option Addr) (sc:Nat),v=.slice so d.length sc∧Hid (bV nd d∧eD w w2' W n (wt nd d) d (.slice so d.length sc) wr)) (fun v _=>n-pY v)
   case atStart=>exact⟨[],none,0,rfl,⟨.nil,H0.out⟩⟩
   case round=>
    obtain⟨d,so,sc,rfl,HD⟩:=hrel
    obtain⟨hG,hO⟩:=HD.out
    have hnm:n≤maxLen:=by have:=HN.out;unfold maxLen;omega
    have hix:=MO wr (iM n (wt nd d)) (some ⟨W,0,none⟩) n 0 (by have:=hO.fP.ints hnm;rwa [kJ]) (by rw[kJ];have:=HN.out;omega)
    rw[kJ] at hix
    have HIX:=aA hix
    have HO:Hid (eD w w2' W n (wt nd d) d (.slice so d.length sc) wr∧bV nd d):=⟨hO,hG⟩
    have HFI:Hid (∀k,k<n→(wt nd d k=0 ↔ iU nd d k)):=fun k hk=>FC (by rw[←HN.out.2];exact hk)
    clear hG hO hnm hix HD
    by_cases hex:∃k,iU nd d k
    ·obtain⟨k,hkf,hkl⟩:=CP hex
     have hkn:k<n:=by rw[HN.out.2];exact hkf.1
     have hid:nV (iM n (wt nd d)) 0=(k:Int):=Du (by rw[pQ _ hkn,(HFI.out k hkn).2 hkf]) (fun i hi=>by
      rw[pQ _ (by omega)]
      intro h
      exact hkl i hi ((HFI.out i (by omega)).1 (Option.some.inj h)))
     rw[hid] at HIX
     have HKF:Hid (iU nd d k∧∀j,j<k→¬iU nd d j):=⟨hkf,hkl⟩
     have HKN:=aA hkn
     clear hex hkf hkl hkn hid
     go_wp2_with fail
     refine HIX.out.mono ?_
     rintro e w3 ⟨rfl,hb3⟩
     have HO3:Hid (eD w w2' W n (wt nd d) d (.slice so d.length sc) w3):=HO.out.1.beyond hb3
     have HOA:Hid (eD w w2' W n (wt nd d) d (.slice so d.length sc) (w3.alloc (.cells #[.int .i64 k] 3))):=HO3.out.alloc _
     have HNW:Hid (∀j y,[Value.int .i64 (k:Int)][j]?=some y→(w3.alloc (.cells #[.int .i64 k] 3)).cell? ((⟨w3.heap.size,0,none⟩:Addr).add j)=some y):=World.news_of_block (heap_alloc_new w3 _)
     have hdl:=HO.out.2.len
     rw[←HN.out.2] at hdl
     have HMX:Hid (d.length+1≤maxLen∧(d.length+1)*8≤140737488355328∧w2'.heap.size≤(w3.alloc (.cells #[.int .i64 k] 3)).heap.size):=by have:=HN.out;have:=HOA.out.size;unfold Hid maxLen;omega
     have k0':(0:Int)≤(k:Int):=by omega
     have k1':(k:Int)<(n:Int):=by have:=HKN.out;omega
     have k2':((k:Int)<0)=False:=eq_false (by omega)
     clear hb3 hdl
     go_upto_region 18 with(at_builtin;refine wpList_append_lies _ rfl _ _ 30 rfl w2'.heap.size 3 i0 _ 1 8 Tryz.underlying30 hi0 hz0 hz1 hz2 rfl (by omega) (.slice so d.length sc) d.length _ rfl HOA.out.ord ⟨w3.heap.size,0,none⟩ 1 1 _ rfl rfl HNW.out (by simp [Value.oneCell']) (by omega) HMX.out.1 HMX.out.2.1 HMX.out.2.2 _ rfl ?_;intro g cap w5 hown5 hgrow5 hat5 hlt5)
     have hM:=HOA.out.more (k:=k) hown5 hgrow5
     have hle:(d++[k]).length=d.length+1:=by simp
     have fz5:w5.frozen? ⟨W,k,none⟩=false:=hM.fP.free k
     have cw5:=hM.fP.cell HKN.out
     have hSt:=hM.store k (-1)
     obtain⟨w6,hw6⟩:∃w6,w6=w5.setCell ⟨W,k,none⟩ (.int .i64 (-1)):=⟨_,rfl⟩
     rw[←hw6] at hSt
     have HW6:Hid (w5.setCell ⟨W,k,none⟩ (.int .i64 (-1))=w6):=hw6.symm
     obtain⟨m,hm⟩:∃m,us[k]?=some m:=⟨_,List.getElem?_eq_getElem (by rw[HC.out.1.len,←HN.out.2];exact HKN.out)⟩
     obtain⟨o,c,hc,hrd⟩:=(hSt.rows HUS.out.1 HUS.out.2).read hm
     have HM:Hid (us[k]?=some m∧m.length≤200000∧∀u∈m,u<n):=⟨hm,by have h1:=HC.out.2 k m hm;have h2:=HT.out;omega,fun u hu=>by have:=HC.out.1.lt k m hm u hu;rwa [←HN.out.2] at this⟩
     have HRD:Hid (∀(j x:Nat),m[j]?=some x→∃b,o=some ⟨b,0,none⟩∧b<w2'.heap.size∧b≠W∧w2'.cell? ⟨b,j,none⟩=some (.int .i64 (x:Int))):=by
      intro j x hj
      have hl':(us.map cI)[k]?=some (cI m):=by rw[List.getElem?_map,hm];rfl
      obtain⟨o2,c2,h1,_,h3,h4⟩:=HUS.out.1.at hl'
      rw[oV] at h1 h3 h4
      have hkp:=hSt.keep U HUS.out.1.lt HUS.out.2
      have h5:w6.cell? ⟨U,k,none⟩=some (.slice o2 m.length c2):=(World.cell?_of_block (a:=⟨U,k,none⟩) hkp).trans h1
      rw[hc] at h5
      obtain⟨rfl,rfl⟩:o=o2∧c=c2:=by simpa using h5
      have hjl:=(aX hj).1
      obtain⟨g2,cap2,e,_,_⟩:=h3.form (by omega)
      obtain⟨rfl,rfl⟩:o=some ⟨g2,0,none⟩∧c=cap2:=by simpa using e
      refine⟨g2,rfl,(h3.lt g2 rfl).2,(h4 g2 rfl).2,?_⟩
      have:=h3.cells (g:=g2) rfl j (.int .i64 (x:Int)) (by rw[List.getElem?_map,wH hj];rfl)
      rwa [Addr.add_lit,Nat.zero_add] at this
     have HST:Hid (eD w w2' W n (fun j=>if j=k then -1 else wt nd d j) (d++[k]) (.slice (some ⟨g,0,none⟩) (d.length+1) cap) w6):=by rw[←hle];exact hSt
     have HDL:Hid (d.length+1≤n):=by
      have h1:=(bV.snoc d k HO.out.2 HKF.out.1 HKF.out.2).len
      rw[hle,←HN.out.2] at h1
      exact h1
     clear hown5 hgrow5 hat5 hlt5 hM hSt hw6 hm hrd hle
     go_upto_region 19 with fail
     rw[HW6.out]
     clear fz5 cw5
     go_wp2
     clear hc
     go_loopw [66] (fun t wr=>∃(j:Nat),j≤m.length∧t=.int .i64 j∧Hid (eD w w2' W n (fun u=>(if u=k then -1 else wt nd d u)-((m.take j).count u:Nat)) (d++[k]) (.slice (some ⟨g,0,none⟩) (d.length+1) cap) wr)) (fun t _=>m.length-(intOf t).toNat)
     case atStart=>exact⟨0,Nat.zero_le _,rfl,by unfold Hid;simpa using HST.out⟩
     case round=>
      obtain⟨j,hj,rfl,HJ⟩:=hrel
      by_cases hjl:j<m.length
      ·obtain⟨x,hx⟩:∃x,m[j]?=some x:=⟨_,List.getElem?_eq_getElem hjl⟩
       obtain⟨b,rfl,hbl,hbW,hcb⟩:=HRD.out j x hx
       have hxn:=HM.out.2.2 x (List.mem_of_getElem? hx)
       have y0:wr.cell? ⟨b,j,none⟩=some (.int .i64 (x:Int)):=(World.cell?_of_block (a:=⟨b,j,none⟩) (HJ.out.keep b hbl hbW)).trans hcb
       have cx:=HJ.out.fP.cell hxn
       have fx:=HJ.out.fP.free x
       obtain⟨V,hV⟩:∃V,V=(if x=k then -1 else wt nd d x)-((m.take j).count x:Nat):=⟨_,rfl⟩
       simp only[←hV] at cx
       have hwb:=FD nd d x
       have hct:=List.count_le_length (a:=x) (l:=m.take j)
       have hml:=HM.out.2.1
       have htl:(aU nd x).length≤200000:=by
        have h1:=uH nd (i:=x+1) (j:=n) (by omega)
        have h2:=HT.out
        simp only[tot] at h1
        omega
       have htk:(m.take j).length≤m.length:=by simp;omega
       have hVb:-300000≤V∧V≤300000:=by
        rw[hV]
        split<;>omega
       have i0':(0:Int)≤(j:Int):=by omega
       have i1':(j:Int)<(m.length:Int):=by omega
       have q0':(0:Int)≤(x:Int):=by omega
       have q1':(x:Int)<(n:Int):=by omega
       have V4:Hid (wrap64 (V-1)=V-1):=by unfold Hid wrap64;omega
       have hst:=HJ.out.store x (V-1)
       have HNX:Hid (eD w w2' W n (fun u=>(if u=k then -1 else wt nd d u)-((m.take (j+1)).count u:Nat)) (d++[k]) (.slice (some ⟨g,0,none⟩) (d.length+1) cap) (wr.setCell ⟨W,x,none⟩ (.int .i64 (V-1)))):=hst.congr (fun u _=>by
        rw[List.take_add_one,hx,List.count_append]
        by_cases e:u=x
        ·subst e
         rw[if_pos rfl,hV]
         simp
         omega
        ·rw[if_neg e]
         simp [Ne.symm e])
       have HJL:=aA hjl
       have M4:Hid (wrap64 ((j:Int)+1)=(j:Int)+1):=by unfold Hid wrap64;omega
       clear hx hbl hbW hcb hxn hV hwb hct hml htl htk hVb hst hj hjl HJ
       go_wp2
       rw[V4.out]
       exact⟨⟨j+1,HJL.out,by rw[M4.out];rfl,HNX.out⟩,by rw[M4.out];have:=HJL.out;simp [intOf];omega⟩
      ·obtain rfl:j=m.length:=by omega
       have HEN:Hid (bV nd (d++[k])∧eD w w2' W n (wt nd (d++[k])) (d++[k]) (.slice (some ⟨g,0,none⟩) (d.length+1) cap) wr):=⟨.snoc d k HO.out.2 HKF.out.1 HKF.out.2,HJ.out.congr (fun u hu=>by
        rw[List.take_length,←FB HO.out.2 HKF.out.1 u,HC.out.1.cnt k m HM.out.1 u]
        unfold lV
        rw[if_pos hu])⟩
       clear hj hjl HJ
       go_wp2
       have hle:(d++[k]).length=d.length+1:=by simp
       exact⟨⟨d++[k],some ⟨g,0,none⟩,cap,by rw[hle],HEN.out.1,by rw[hle];exact HEN.out.2⟩,by have:=HDL.out;simp [pY];omega⟩
    ·have hid:nV (iM n (wt nd d)) 0=-1:=Dv (fun i hi=>by
      rw[kJ] at hi
      rw[pQ _ hi]
      intro h
      exact hex ⟨i,(HFI.out i hi).1 (Option.some.inj h)⟩)
     rw[hid] at HIX
     have HEX:Hid (∀i,¬iU nd d i):=fun i hi=>hex ⟨i,hi⟩
     clear hex hid
     go_wp2_with fail
     refine HIX.out.mono ?_
     rintro e w3 ⟨rfl,hb3⟩
     have hO3:=HO.out.1.beyond hb3
     have HE:Hid (w3.ownsRow w.heap.size 3 1 (.slice so d.length sc) d.length ((cI d).map (Value.int .i64))∧Bw w w3):=⟨rX hO3.ord hO3.lU.2.2,hO3.below⟩
     clear hb3 hO3
     go_wp2
     go_ret
     exact⟨d,so,sc,rfl,HO.out.2,HEX.out,HE.out.1,HE.out.2⟩
end Go.Proofs.YtmgfakcccfahaaaGreatDoor
