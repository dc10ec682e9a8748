/-
  package types: typed$1 BY CONTRACT.
-/
import Derived.Test.YtmgfakcccfahaaaGreatDoorN07
set_option maxRecDepth 100000
set_option maxHeartbeats 4000000
namespace Go.Proofs.YtmgfakcccfahaaaGreatDoor
open Go.RowKit Go.Maps

theorem uH{w:World}{base size n b:Nat}{e t:TypeId}{v:Value}{xs:List Value}{cs:Array Value}{fr:Nat×Nat}(h:w.ownsRow base e size v n xs)(hb:w.heap[b]?=some (.cells cs t fr))(ht:t≠e):v.ownBlock≠some b:=fun hv=>by
 obtain⟨cur,hc⟩:=zN h hv
 rw[hb] at hc
 exact ht (Obj.cells.inj (Option.some.inj hc)).2.1
theorem Jo{X:Nat→Prop}{cb b0 b1 b2:Nat}{kd:List UInt8→Option Int}{F:Nat→Prop}{w:World}(l:List Ex)(hok:iV kd l)(hsz:aC l≤4000)(hck:fQ X cb kd [] F w)(o:Option Addr)(c:Nat)(ys:List Value)(hrow:aB w (fun b=>¬(F b∨b=b1)) 4 (.slice o l.length c) l.length ys)(hex:aQ w (fun b=>¬(F b∨b=b1)) l ys)
  (h0:w.heap[b0]?=some (.cells #[.slice o l.length c] 37 (0,0))) (h1:w.heap[b1]?=some (.cells #[.slice none 0 0] 30 (0,0))) (h2:w.heap[b2]?=some (.cells #[.pointer (some ⟨cb,0,none⟩)] 254 (0,0))) (n1:¬F b1) (n2:¬F b2∧b2≠b1) (hL:¬X b1) :
  Calls Tryz.prog 172 #[.pointer (some ⟨b0,0,none⟩),.pointer (some ⟨b1,0,none⟩),.pointer (some ⟨b2,0,none⟩)] w (Ie X cb b1 kd l F w):=by
 obtain⟨i0,hi0,hz0,hz1,hz2⟩:=info_parts Tryz.kT
 have c0:w.cell? ⟨b0,0,none⟩=some (.slice o l.length c):=cr h0 rfl
 have HOK:=aA hok
 have HSZ:=aA hsz
 have HROW:=aA hrow
 have HEX:=aA hex
 have H2:=aA h2
 have HN2:Hid (¬(F b2∨b2=b1)):=fun h=>h.elim n2.1 n2.2
 have HLL:Hid (l.length≤4000):=by have:=tZ l;unfold Hid;omega
 have HS0:Hid (qM X cb b1 kd w F [] [] none 0 F w):=⟨hck,h1,World.ownsRow_nil _ _ _ _,n1,fun k hk=>by simp [Value.ownBlock] at hk,⟨rfl,rfl,rfl,Nat.le_refl _,fun _ _ _=>rfl,fun k hk=>by
  rcases hk with hk | hk | hk
  ·exact .inl (.inl hk)
  ·exact .inl (.inr hk)
  ·simp [Value.ownBlock] at hk⟩,fun k hk=>by simp [Value.ownBlock] at hk,hL⟩
 clear hok hsz hck hrow hex h0 h1 h2 n1 n2 hL
 go_enter Tryz.func172,Tryz.ntmps172
 go_wp2
 clear c0
 go_loopw [7] (fun t wr=>∃(j:Nat) (ks qs:List Int) (ta:Option Addr) (tc:Nat) (Fj:Nat→Prop),j≤l.length∧t=.int .i64 j∧Hid (aR kd (l.take j)=some (ks,qs)∧qM X cb b1 kd w F ks qs ta tc Fj wr)) (fun t _=>l.length-(intOf t).toNat)
 case atStart=>exact⟨0,[],[],none,0,F,Nat.zero_le _,rfl,⟨by simp [aR],HS0.out⟩⟩
 case round=>
  obtain⟨j,ks,qs,ta,tc,Fj,hj,rfl,HJR⟩:=hrel
  by_cases hjl:j<l.length
  ·obtain⟨op',n',s',es,oo,cc,zs,e,x0,x1,x2,x3,r1,r2⟩:=HEX.out.at hjl
   obtain⟨p,f,cp,ev,hpF,_,g⟩:=HROW.out.at (by have:=HROW.out.1;omega)
   obtain⟨rfl,rfl⟩:o=some ⟨p,f,none⟩∧c=cp:=by simpa using ev
   have hmv:=HJR.out.2.mv
   have y0:=(hmv.cell (g _ _ x0) hpF).1
   have y1:=(hmv.cell (g _ _ x1) hpF).1
   have y2:=(hmv.cell (g _ _ x2) hpF).1
   have y3:=(hmv.cell (g _ _ x3) hpF).1
   rw[←Nat.add_assoc] at y1 y2 y3
   have i0':(0:Int)≤(j:Int):=by omega
   have i1':(j:Int)<(l.length:Int):=by omega
   have ej:l[j]?=some (.mk op' n' s' es):=by rw[List.getElem?_eq_getElem hjl,e]
   have hb5:Bw wr (wr.alloc (.cells #[.string op',.int .i64 n',.string s',.slice oo es.length cc] 92)):=aH
   obtain⟨w5,hw5⟩:∃w5,w5=wr.alloc (.cells #[.string op',.int .i64 n',.string s',.slice oo es.length cc] 92):=⟨_,rfl⟩
   have he5:w5.heap[wr.heap.size]?=some (.cells #[.string op',.int .i64 n',.string s',.slice oo es.length cc] 92 (0,0)):=by rw[hw5];exact heap_alloc_new _ _
   rw[←hw5] at hb5
   have hm5:=hmv.trans (bT.of_below hb5)
   have hs1:=wX kd (l.take j) ks qs (Br HOK.out) HJR.out.1
   have hs2:=vF l j _ ej
   have hs3:=vG l (j+1)
   have hwk:∀b,¬yM Fj b1 (.slice ta ks.length tc) b→¬Fj b:=fun b hb hf=>hb (.inl hf)
   have HIH:Hid (Calls Tryz.prog 173 #[.pointer (some ⟨cb,0,none⟩),.agg #[.string op',.int .i64 n',.string s',.slice oo es.length cc]] w5.drew (Cz X cb kd qs (cO kd (.mk op' n' s' es)) Fj w5.drew)):=Dg kd _ op' n' s' es (Nat.lt_succ_self _) (Bt HOK.out ej) X cb qs Fj w5.drew oo cc zs ((HJR.out.2.ck.below hb5).below (Below.refl _ _).drew) (by have:=HSZ.out;simp only[aL] at hs2 ⊢;omega) (((r1.keep hm5.stays).less hwk).keep (fun b hb _=>⟨hb,rfl⟩)) (((r2.keep hm5.stays).less hwk).keep (fun b hb _=>⟨hb,rfl⟩))
   have HTL:Hid (aR kd (l.take (j+1))=(cO kd (.mk op' n' s' es)).map fun x=>(ks++[x.1],qs++x.2)):=AX ej HJR.out.1
   have HKL:Hid (ks.length=j):=by have:=pX HJR.out.1;unfold Hid;rw[this,List.length_take];omega
   have HJ:=aA hjl
   have N4:Hid (wrap64 ((j:Int)+1)=(j:Int)+1):=by have:=HLL.out;have:=HJ.out;unfold Hid wrap64;omega
   have hb25:w5.heap[b2]?=some (.cells #[.pointer (some ⟨cb,0,none⟩)] 254 (0,0)):=(hm5.nC H2.out HN2.out).1
   have hb15:w5.heap[b1]?=some (.cells #[.slice ta ks.length tc] 30 (0,0)):=aN hb5 HJR.out.2.cell
   have z2:w5.drew.cell? ⟨b2,0,none⟩=some (.pointer (some ⟨cb,0,none⟩)):=by rw[cell_of_row _ b2 _ _ _ (0,0) (show w5.drew.heap[b2]?=_ from hb25)];rfl
   have z1:w5.drew.cell? ⟨b1,0,none⟩=some (.slice ta ks.length tc):=by rw[cell_of_row _ b1 _ _ _ (0,0) (show w5.drew.heap[b1]?=_ from hb15)];rfl
   have e0:w5.drew.cell? ⟨wr.heap.size,0,none⟩=some (.string op'):=by rw[cell_of_row _ _ _ _ _ (0,0) (show w5.drew.heap[wr.heap.size]?=_ from he5)];rfl
   have e1:w5.drew.cell? ⟨wr.heap.size,0+1,none⟩=some (.int .i64 n'):=by rw[cell_of_row _ _ _ _ _ (0,0) (show w5.drew.heap[wr.heap.size]?=_ from he5)];rfl
   have e2:w5.drew.cell? ⟨wr.heap.size,0+2,none⟩=some (.string s'):=by rw[cell_of_row _ _ _ _ _ (0,0) (show w5.drew.heap[wr.heap.size]?=_ from he5)];rfl
   have e3:w5.drew.cell? ⟨wr.heap.size,0+3,none⟩=some (.slice oo es.length cc):=by rw[cell_of_row _ _ _ _ _ (0,0) (show w5.drew.heap[wr.heap.size]?=_ from he5)];rfl
   have HNB:Hid (¬Fj b2∧¬Fj wr.heap.size∧¬Fj b1∧b2≠b1∧wr.heap.size≠b1):=⟨fun hf=>(hm5.nC H2.out HN2.out).2 (.inl hf),fun hf=>by have:=HJR.out.2.ck.lt _ hf;omega,HJR.out.2.nf,fun e=>HN2.out (.inr e),fun e=>by have:=(bN HJR.out.2.cell).1;omega⟩
   have HSO:Hid (∀W:World,W.heap[b2]?=some (.cells #[.pointer (some ⟨cb,0,none⟩)] 254 (0,0))→W.heap[wr.heap.size]?=some (.cells #[.string op',.int .i64 n',.string s',.slice oo es.length cc] 92 (0,0))→W.cell? ⟨b2,0,none⟩=some (.pointer (some ⟨cb,0,none⟩))∧W.cell? ⟨wr.heap.size,0,none⟩=some (.string op')∧W.cell? ⟨wr.heap.size,0+1,none⟩=some (.int .i64 n')∧W.cell? ⟨wr.heap.size,0+2,none⟩=some (.string s')∧W.cell? ⟨wr.heap.size,0+3,none⟩=some (.slice oo es.length cc)):=fun W r1 r2=>⟨cr r1 rfl,cr r2 rfl,cr r2 rfl,cr r2 rfl,cr r2 rfl⟩
   have HW5:Hid (wr.alloc (.cells #[.string op',.int .i64 n',.string s',.slice oo es.length cc] 92)=w5):=hw5.symm
   have HB5:=aA hb5
   have HE5:=aA he5
   have HB25:=aA hb25
   clear x0 x1 x2 x3 r1 r2 g ev e ej hb5 hw5 hm5 hs1 hs2 hs3 hwk hmv hj hjl hpF he5 hb25 hb15
   go_wp2
   rw[HW5.out]
   refine fI 6 (fun w'=>w'.cell? ⟨b2,0,none⟩=some (.pointer (some ⟨cb,0,none⟩))∧w'.cell? ⟨wr.heap.size,0,none⟩=some (.string op')∧w'.cell? ⟨wr.heap.size,0+1,none⟩=some (.int .i64 n')∧w'.cell? ⟨wr.heap.size,0+2,none⟩=some (.string s')∧w'.cell? ⟨wr.heap.size,0+3,none⟩=some (.slice oo es.length cc)) (fun w'=>w'.cell? ⟨b1,0,none⟩=some (.slice ta ks.length tc)) (by kernel_rfl) ⟨z2,e0,e1,e2,e3⟩ z1 (fun hh=>?_)
   refine oU 5 (i:=0) (oi:=⟨some 11,_,_,_,_,_⟩) (v:=.slice ta ks.length tc) rfl rfl (by kernel_rfl) (by kernel_rfl) (by kernel_rfl) (by kernel_rfl) (by kernel_rfl) (by kernel_rfl) (by kernel_rfl) (fun _ _ _ h=>h) (Or.inl ⟨by rfl,?_⟩) hh ?_
   ·intro w hSw;(try dsimp only at hSw);go_simp
   try simp only[tp]
   refine tj 1 12 (.pointer (some ⟨cb,0,none⟩)) rfl (by rintro w ⟨a1,a2,a3,a4,a5⟩;go_simp) hh ?_
   refine tj 2 13 (.agg #[.string op',.int .i64 n',.string s',.slice oo es.length cc]) rfl (by rintro w ⟨a1,a2,a3,a4,a5⟩;go_simp) hh ?_
   refine aS 3 (some 14) rfl fun K hK=>?_
   go_simp
   refine HIH.out.mono ?_
   rintro e w6 (⟨k,rs,F6,hty,rfl,hck6,hm6⟩ | ⟨hty,hth,F6,hm6⟩)
   ·have hmr:bT Fj F6 wr w6:=(bT.of_below HB5.out).trans ⟨hm6.os,hm6.tape,hm6.output,hm6.size,hm6.block,hm6.more⟩
    have p2:=(hm6.nC (show w5.drew.heap[b2]?=_ from HB25.out) HNB.out.1).1
    have pe:=(hm6.nC (show w5.drew.heap[wr.heap.size]?=_ from HE5.out) HNB.out.2.1).1
    have p1:=(hmr.nC HJR.out.2.cell HJR.out.2.nf).1
    have hr6:=(Er HJR.out.2.row hmr HJR.out.2.nr).1
    have q1:w6.cell? ⟨b1,0,none⟩=some (.slice ta ks.length tc):=cr p1 rfl
    go_wp2_with fail
    refine hK.out _ _ ⟨HSO.out w6 p2 pe,fun _=>q1⟩ (fun hh=>?_)
    clear hK K
    try simp only[tp]
    refine aS 4 (some 15) rfl fun K hK=>?_
    go_simp
    have hba:Bw w6 (w6.alloc (.cells #[.int .i64 k] 3)):=aH
    refine hK.out _ _ ⟨HSO.out _ (aN hba p2) (aN hba pe),fun _=>aD hba q1⟩ (fun hh=>?_)
    clear hK K
    try simp only[tp]
    refine aS 5 (some 16) rfl fun K hK=>?_
    refine step_append_lies _ rfl (.tmp 11) (.tmp 15) 30 rfl 0 3 i0 _ 1 8 Tryz.underlying30 hi0 hz0 hz1 hz2 rfl (by omega) (.slice ta ks.length tc) ks.length _ (by simp [Act.eval]) (hr6.alloc _) ⟨w6.heap.size,0,none⟩ 1 1 [.int .i64 k] (by simp [Act.eval]) rfl (World.news_of_block (heap_alloc_new w6 (.cells #[.int .i64 k] 3))) (by simp [Value.oneCell']) (by omega) (by have:=HKL.out;have:=HLL.out;have:=HJ.out;unfold maxLen;omega) (by have:=HKL.out;have:=HLL.out;have:=HJ.out;omega) (Nat.zero_le _) _ rfl ?_
    intro g cap w7 hown7 hgrow hat hlt7
    have n2:=uH hr6 p2 (by decide)
    have ne:=uH hr6 pe (by decide)
    have n1:=uH hr6 p1 (by decide)
    have p27:=gT hgrow n2 (aN hba p2)
    have pe7:=gT hgrow ne (aN hba pe)
    have p17:=gT hgrow n1 (aN hba p1)
    have y1:w7.cell? ⟨b1,0,none⟩=some (.slice ta ks.length tc):=cr p17 rfl
    have f1:w7.frozen? ⟨b1,0,none⟩=false:=bR p17
    refine hK.out _ _ ⟨HSO.out w7 p27 pe7,fun _=>y1⟩ (fun hh=>?_)
    clear hK K
    try simp only[tp]
    refine aS 6 none rfl fun K hK=>?_
    go_simp
    have hks:∀q,q≠b1→(w7.setCell ⟨b1,0,none⟩ (.slice (some ⟨g,0,none⟩) (ks.length+1) cap)).heap[q]?=w7.heap[q]?:=fun q hq=>Below.heap_setCell w7 ⟨b1,0,none⟩ _ q hq
    refine hK.out _ _ (Till.last (HSO.out _ ((hks _ HNB.out.2.2.2.1).trans p27) ((hks _ HNB.out.2.2.2.2).trans pe7))) (fun hh=>?_)
    clear hK K
    try simp only[tp]
    refine dU (by kernel_rfl) ?_ _
    have HFIN:Hid (qM X cb b1 kd w F (ks++[k]) (qs++rs) (some ⟨g,0,none⟩) cap F6 (w7.setCell ⟨b1,0,none⟩ (.slice (some ⟨g,0,none⟩) (ks.length+1) cap))):=HJR.out.2.next hmr hck6 hgrow hat hlt7 hown7
    have HTY:=aA hty
    clear hmr p2 pe p1 hr6 q1 hba hown7 hgrow hat hlt7 n2 ne n1 p27 pe7 p17 y1 f1 hks hck6 hm6 hty hh
    go_wp2
    exact⟨⟨j+1,ks++[k],qs++rs,_,_,F6,HJ.out,by rw[N4.out];rfl,⟨by rw[HTL.out,HTY.out];rfl,HFIN.out⟩⟩,by rw[N4.out];have:=HJ.out;simp [intOf];omega⟩
   ·unfold pM at hth
    subst hth
    have hN:aR kd l=none:=by
     have h:=HTL.out
     rw[hty] at h
     exact AZ h
    have hmr:bT (yM Fj b1 (.slice ta ks.length tc)) (yM F6 b1 (.slice ta ks.length tc)) wr w6:=by
     have h1:bT Fj F6 wr w6:=(bT.of_below HB5.out).trans ⟨hm6.os,hm6.tape,hm6.output,hm6.size,hm6.block,hm6.more⟩
     refine⟨h1.os,h1.tape,h1.output,h1.size,fun q hq hn=>h1.block q hq (fun hf=>hn (.inl hf)),fun q hq=>?_⟩
     rcases hq with hq | hq
     ·rcases h1.more q hq with h2 | h2
      ·exact .inl (.inl h2)
      ·exact .inr h2
     ·exact .inl (.inr hq)
    have h1:bT Fj F6 wr w6:=(bT.of_below HB5.out).trans ⟨hm6.os,hm6.tape,hm6.output,hm6.size,hm6.block,hm6.more⟩
    exact⟨rfl,.inr ⟨hN,rfl,_,_,HJR.out.2.mv.trans hmr,(h1.nC HJR.out.2.cell HJR.out.2.nf).1⟩⟩
  ·obtain rfl:j=l.length:=by omega
   have HEND:Hid (Ie X cb b1 kd l F w (.returned (.tuple #[])) wr):=.inl ⟨ks,qs,ta,tc,Fj,by have h:=HJR.out.1;rw[List.take_length] at h;exact h,rfl,HJR.out.2⟩
   clear hj hjl
   go_wp2
   exact bodyPost_ret (v:=.tuple #[]) (by simp [results,Tryz.results172,go_sem]) rfl HEND.out

theorem JR(w:World)(b0 b1 b2:Nat)(et:TypeId)(eq:Value)(P Q:World→Prop)
  (HC:Calls Tryz.prog 172 #[.pointer (some ⟨b0,0,none⟩),.pointer (some ⟨b1,0,none⟩),.pointer (some ⟨b2,0,none⟩)] (w.alloc (.cells #[.nilIface] 32)) fun e w'=>(e=.returned (.tuple #[])∧P w'∧w'.heap[w.heap.size]?=some (.cells #[.nilIface] 32 (0,0)))∨(pM e∧Q w'∧w'.heap[w.heap.size]?=some (.cells #[.nilIface] 32 (0,0))∧w'.cell? ⟨3,0,none⟩=some (.iface et eq))) :
  Calls Tryz.prog 124 #[.func (.func 172) #[] #[.pointer (some ⟨b0,0,none⟩),.pointer (some ⟨b1,0,none⟩),.pointer (some ⟨b2,0,none⟩)]] w fun e w'=>(∃w1,P w1∧e=.returned .nilIface∧w'=w1.setCell ⟨w.heap.size,0,none⟩ .nilIface)∨(∃w1 o,Q w1∧e=.returned (.iface et eq)∧w'=(w1.setCell ⟨w.heap.size,0,none⟩ (.iface et eq)).alloc o):=by
 have hmf:∀(fn:Fn) (first cap:Array Value) (w:World),(Instr.makeFunc fn first cap).run Tryz.prog w=.ok (.func fn first cap) w:=fun _ _ _ _=>rfl
 obtain⟨w0,hw0⟩:∃w0,w0=w.alloc (.cells #[.nilIface] 32):=⟨_,rfl⟩
 rw[←hw0] at HC
 have HC':Hid (Calls Tryz.prog 172 #[.pointer (some ⟨b0,0,none⟩),.pointer (some ⟨b1,0,none⟩),.pointer (some ⟨b2,0,none⟩)] w0 fun e w'=>(e=.returned (.tuple #[])∧P w'∧w'.heap[w.heap.size]?=some (.cells #[.nilIface] 32 (0,0)))∨(pM e∧Q w'∧w'.heap[w.heap.size]?=some (.cells #[.nilIface] 32 (0,0))∧w'.cell? ⟨3,0,none⟩=some (.iface et eq))):=HC
 have HW0:Hid (w.alloc (.cells #[.nilIface] 32)=w0):=hw0.symm
 clear HC hw0
 go_enter_defers Tryz.func124,Tryz.ntmps124
 go_wp2_with fail
 rw[HW0.out]
 refine HC'.out.mono ?_
 rintro e w1 (⟨rfl,hP,hr⟩ | ⟨ht,hQ,hr,he⟩)
 ·have c1:w1.cell? ⟨w.heap.size,0,none⟩=some .nilIface:=cr hr rfl
  have f1:w1.frozen? ⟨w.heap.size,0,none⟩=false:=bR hr
  have HP:=aA hP
  clear hP hr
  go_wp2
  refine leaves_cons (f:=169) (args:=#[.pointer (some ⟨w.heap.size,0,none⟩)]) (by simp) (by simp [go_sem]) ?_
  refine(JU _ _).mono ?_
  rintro e u' w'' ⟨rfl,rfl,rfl⟩
  refine⟨.nilIface,?_,.inl ⟨w1,HP.out,rfl,rfl⟩⟩
  simp [results,Tryz.results124,go_sem,c1]
 ·unfold pM at ht
  subst ht
  have c1:w1.cell? ⟨w.heap.size,0,none⟩=some .nilIface:=cr hr rfl
  have f1:w1.frozen? ⟨w.heap.size,0,none⟩=false:=bR hr
  have hlw:w.heap.size<w1.heap.size:=Cq c1
  have HQ:=aA hQ
  have HE:=aA he
  clear hQ hr he
  go_wp2
  refine leaves_cons (f:=169) (args:=#[.pointer (some ⟨w.heap.size,0,none⟩)]) (by simp) (by simp [go_sem]) ?_
  refine(JS w.heap.size .nilIface (.iface et eq) [] _ c1 f1 HE.out ⟨et,eq,rfl⟩).mono ?_
  rintro e u' w'' ⟨rfl,rfl,o,rfl⟩
  refine⟨.iface et eq,?_,.inr ⟨w1,o,HQ.out,rfl,rfl⟩⟩
  simp [results,Tryz.results124,go_sem,c1,hlw]
theorem Nn(w:World) :
  Calls Tryz.prog 171 #[] w fun e w'=>∃cb M B C nv,e=.returned (.pointer (some ⟨cb,0,none⟩))∧w'.heap[cb]?=some (.cells #[.map (some M),nv,.map none,.map none,.slice none 0 0] 257 (0,0))∧aO w' M 24 (qW B C)∧tF B C w'∧Bw w w'∧w.heap.size≤cb∧w.heap.size≤B∧(M≠cb∧C≠cb∧(cb<B∨B+5<cb)):=by
 have hmm:=@run_makeMap Tryz.prog
 go_enter Tryz.func171,Tryz.ntmps171
 go_wp2_with fail
 refine(J8 w).mono ?_
 rintro e w1 ⟨M,C,rfl,hF,hb,hR⟩
 have hb2:Bw w1 ((w1.alloc (.map #[] 0)).alloc (.cells #[.map (some M),.map (some w1.heap.size),.map none,.map none,.slice none 0 0] 257)):=(aH).alloc (by simp) _
 have hM:=hF.lt
 have h5:=(bN hR.r5).1
 have h6:=(bN hR.r6).1
 have hr:((w1.alloc (.map #[] 0)).alloc (.cells #[.map (some M),.map (some w1.heap.size),.map none,.map none,.slice none 0 0] 257)).heap[w1.heap.size+1]?=some (.cells #[.map (some M),.map (some w1.heap.size),.map none,.map none,.slice none 0 0] 257 (0,0)):=by
  have h:=heap_alloc_new (w1.alloc (.map #[] 0)) (.cells #[.map (some M),.map (some w1.heap.size),.map none,.map none,.slice none 0 0] 257)
  have e:(w1.alloc (.map #[] 0)).heap.size=w1.heap.size+1:=by simp
  rw[e] at h
  exact h
 have HEND:Hid (∃cb M' B C' nv,(.returned (.pointer (some ⟨w1.heap.size+1,0,none⟩)):Ending)=.returned (.pointer (some ⟨cb,0,none⟩))∧((w1.alloc (.map #[] 0)).alloc (.cells #[.map (some M),.map (some w1.heap.size),.map none,.map none,.slice none 0 0] 257)).heap[cb]?=some (.cells #[.map (some M'),nv,.map none,.map none,.slice none 0 0] 257 (0,0))∧aO ((w1.alloc (.map #[] 0)).alloc (.cells #[.map (some M),.map (some w1.heap.size),.map none,.map none,.slice none 0 0] 257)) M' 24 (qW B C')∧tF B C' ((w1.alloc (.map #[] 0)).alloc (.cells #[.map (some M),.map (some w1.heap.size),.map none,.map none,.slice none 0 0] 257))∧Bw w ((w1.alloc (.map #[] 0)).alloc (.cells #[.map (some M),.map (some w1.heap.size),.map none,.map none,.slice none 0 0] 257))∧w.heap.size≤cb∧w.heap.size≤B∧(M'≠cb∧C'≠cb∧(cb<B∨B+5<cb))):=⟨w1.heap.size+1,M,w.heap.size,C,_,rfl,hr,hF.kept (hb2.block M hM),hR.below hb2,hb.trans (hb2.mono hb.size),by have:=hb.size;omega,Nat.le_refl _,by omega,by omega,.inr (by omega)⟩
 clear hb2 hM h5 h6 hr hF hb hR
 go_wp2
 go_ret
 exact HEND.out

def yK(kd:List UInt8→Option Int)(l:List Ex)(et bt:TypeId)(eq bq:Value)(w:World)(e:Ending)(w':World):Prop:=
 Bw w w'∧((4000<aC l∧e=.returned (.tuple #[.slice none 0 0,.slice none 0 0,.iface bt bq]))∨(aC l≤4000∧aR kd l=none∧e=.returned (.tuple #[.slice none 0 0,.slice none 0 0,.iface et eq]))∨(aC l≤4000∧∃ks qs ta tc pa pc,aR kd l=some (ks,qs)∧e=.returned (.tuple #[.slice ta ks.length tc,.slice pa qs.length pc,.nilIface])∧dP w' (.slice ta ks.length tc) ks∧dP w' (.slice pa qs.length pc) qs))
theorem BN{w:World}{base n:Nat}{o:Option Addr}{c:Nat}{l:List Int}(h:w.ownsRow base 3 1 (.slice o n c) n (l.map (Value.int .i64)))(hn:l.length=n)(hm:n≤maxLen):dP w (.slice o n c) l:=by
 subst hn
 refine⟨hm,o,c,rfl,fun k x hk=>?_⟩
 have hlt:=(bA hk).1
 obtain⟨g,cap,e,_,_⟩:=h.form (by omega)
 obtain⟨rfl,rfl⟩:o=some ⟨g,0,none⟩∧c=cap:=by simpa using e
 have hadd':∀j,(⟨g,0,none⟩:Addr).add j=⟨g,0+j,none⟩:=fun j=>by unfold Addr.add;split<;>simp_all
 refine⟨g,0,rfl,?_⟩
 rw[←hadd']
 exact h.cells (g:=g) rfl k _ (by simp [hk])
theorem aO.isMap{w:World}{b n:Nat}{f:List UInt8→Option Value}(h:aO w b n f):∃es clock,w.heap[b]?=some (.map es clock):=by
 obtain⟨D,h,_⟩:=h
 obtain⟨es,clock,hb,_⟩:=h
 exact⟨es,clock,hb⟩
theorem aO.Ng{w:World}{b n k:Nat}{f:List UInt8→Option Value}{cs:Array Value}{t:TypeId}{fr:Nat×Nat}(h:aO w b n f)(hk:w.heap[k]?=some (.cells cs t fr)):k≠b:=fun e=>by
 obtain⟨es,clock,hb⟩:=h.isMap
 rw[←e,hk] at hb
 cases hb
theorem Dm(kd:List UInt8→Option Int)(l:List Ex)(w:World)(K nK:Nat)(hK:aO w K nK (aY kd))(hok:iV kd l)(S:Nat→Prop)(o:Option Addr)(c:Nat)(ys:List Value)(hrow:aB w S 4 (.slice o l.length c) l.length ys)(hex:aQ w S l ys)(et bt:TypeId)(eq bq:Value)(he:w.cell? ⟨3,0,none⟩=some (.iface et eq))(hbd:w.cell? ⟨2,0,none⟩=some (.iface bt bq)) :
  Calls Tryz.prog 132 #[.map (some K),.slice o l.length c] w (yK kd l et bt eq bq w):=by
 obtain⟨w1,hw1⟩:∃w1,w1=w.alloc (.cells #[.slice o l.length c] 37):=⟨_,rfl⟩
 have hb1:Bw w w1:=by rw[hw1];exact aH
 have hs1:w1.heap.size=w.heap.size+1:=by rw[hw1];simp
 have hr0:w1.heap[w.heap.size]?=some (.cells #[.slice o l.length c] 37 (0,0)):=by rw[hw1];exact heap_alloc_new _ _
 obtain⟨w2,hw2⟩:∃w2,w2=w1.alloc (.cells #[.slice none 0 0] 30):=⟨_,rfl⟩
 have hb2:Bw w1 w2:=by rw[hw2];exact aH
 have hs2:w2.heap.size=w.heap.size+2:=by rw[hw2];simp [hs1]
 have hr1:w2.heap[w.heap.size+1]?=some (.cells #[.slice none 0 0] 30 (0,0)):=by rw[hw2,←hs1];exact heap_alloc_new _ _
 have hb02:=hb1.trans (hb2.mono hb1.size)
 have HR0:Hid (w2.heap[w.heap.size]?=some (.cells #[.slice o l.length c] 37 (0,0))):=aN hb2 hr0
 have HR1:=aA hr1
 have HW1:Hid (w.alloc (.cells #[.slice o l.length c] 37)=w1):=hw1.symm
 have HW2:Hid (w1.alloc (.cells #[.slice none 0 0] 30)=w2):=hw2.symm
 have HS12:Hid (w1.heap.size=w.heap.size+1∧w2.heap.size=w.heap.size+2):=⟨hs1,hs2⟩
 have hst2:aJ S S w w2:=fun b hb hl=>⟨hb,hb02.block b hl⟩
 have HBD:Hid (Calls Tryz.prog 77 #[.slice o l.length c] w2 fun e w'=>Bw w2 w'∧e=.returned (.bool (decide (aC l≤4000)))):=G6 l w2 S o c ys (hrow.keep hst2) (hex.keep hst2)
 have HB02:=aA hb02
 have HK:=aA hK
 have HOK:=aA hok
 have HROW:=aA hrow
 have HEX:=aA hex
 have HET:=aA he
 have HEB:=aA hbd
 have c0:w2.cell? ⟨w.heap.size,0,none⟩=some (.slice o l.length c):=cr HR0.out rfl
 clear hK hok hrow hex he hbd hw1 hb1 hs1 hr0 hw2 hb2 hs2 hr1 hb02 hst2
 go_enter Tryz.func132,Tryz.ntmps132
 go_wp2_with fail
 rw[HW1.out,HW2.out]
 refine HBD.out.mono ?_
 rintro e w3 ⟨hb3,rfl⟩
 have hb03:=HB02.out.trans (hb3.mono HB02.out.size)
 have hr13:=aN hb3 HR1.out
 have hr03:=aN hb3 HR0.out
 have d1:w3.cell? ⟨w.heap.size+1,0,none⟩=some (.slice none 0 0):=cr hr13 rfl
 have f1:w3.frozen? ⟨w.heap.size+1,0,none⟩=false:=bR hr13
 have HB03:=aA hb03
 have HR13:=aA hr13
 have HR03:=aA hr03
 by_cases hz:aC l≤4000
 case neg=>
  have hdz:decide (aC l≤4000)=false:=decide_eq_false hz
  have g0:=aD hb03 HEB.out
  have HZ:Hid (4000<aC l):=by unfold Hid;omega
  have hgl:(2:Nat)<w.heap.size:=Cq HEB.out
  have g1:(w3.setCell ⟨w.heap.size+1,0,none⟩ (.slice none 0 0)).cell? ⟨2,0,none⟩=some (.iface bt bq):=by
   have e:(w3.setCell ⟨w.heap.size+1,0,none⟩ (.slice none 0 0)).heap[(2:Nat)]?=w3.heap[(2:Nat)]?:=Below.heap_setCell w3 ⟨w.heap.size+1,0,none⟩ _ _ (by show (2:Nat)≠w.heap.size+1;omega)
   rw[World.cell?_of_block (w:=w3) e]
   exact g0
  rw[hdz]
  clear hz hdz hb3 hb03 hr13 hr03 c0
  go_wp2
  go_region
  have hbe:Bw w (w3.setCell ⟨w.heap.size+1,0,none⟩ (.slice none 0 0)).drew:=(HB03.out.setCell (by show w.heap.size≤w.heap.size+1;omega) _).drew
  have hre:(w3.setCell ⟨w.heap.size+1,0,none⟩ (.slice none 0 0)).drew.heap[w.heap.size+1]?=some (.cells #[.slice none 0 0] 30 (0,0)):=rJ (i:=0) HR13.out _
  obtain⟨we,hwe⟩:∃we,we=(w3.setCell ⟨w.heap.size+1,0,none⟩ (.slice none 0 0)).drew:=⟨_,rfl⟩
  rw[←hwe] at hbe hre ⊢
  have y1:we.cell? ⟨w.heap.size+1,0,none⟩=some (.slice none 0 0):=cr hre rfl
  have HEND:Hid (yK kd l et bt eq bq w (.returned (.tuple #[.slice none 0 0,.slice none 0 0,.iface bt bq])) we):=⟨hbe,.inl ⟨HZ.out,rfl⟩⟩
  clear hwe hbe hre d1 f1 g0 g1 hgl
  go_wp2
  exact bodyPost_ret (v:=.tuple #[.slice none 0 0,.slice none 0 0,.iface bt bq]) (by simp [results,Tryz.results132,go_sem,y1]) rfl HEND.out
 case pos=>
  have hdz:decide (aC l≤4000)=true:=decide_eq_true hz
  have HZ:=aA hz
  rw[hdz]
  clear hz hdz hb3 hb03 hr13 hr03 c0
  go_wp2_with fail
  refine(Nn w3).mono ?_
  rintro e w4 ⟨cb,M,B,C,nv,rfl,hcb,hM,hRw,hb4,hcl,hBl,hne⟩
  have hs3:w.heap.size+2≤w3.heap.size:=by
   have h1:=(bN HR13.out).1
   omega
  obtain⟨w5,hw5⟩:∃w5,w5=w4.alloc (.cells #[.pointer (some ⟨cb,0,none⟩)] 254):=⟨_,rfl⟩
  have hb5:Bw w4 w5:=by rw[hw5];exact aH
  have hr25:w5.heap[w4.heap.size]?=some (.cells #[.pointer (some ⟨cb,0,none⟩)] 254 (0,0)):=by rw[hw5];exact heap_alloc_new _ _
  have hcb5:=aN hb5 hcb
  have hc4:cb<w4.heap.size:=(bN hcb).1
  have e0:w5.cell? ⟨w4.heap.size,0,none⟩=some (.pointer (some ⟨cb,0,none⟩)):=cr hr25 rfl
  have e2:w5.cell? ⟨cb,0+2,none⟩=some (.map none):=cr hcb5 rfl
  have e2f:w5.frozen? ⟨cb,0+2,none⟩=false:=bR hcb5
  obtain⟨w6,hw6⟩:∃w6,w6=w5.setCell ⟨cb,0+2,none⟩ (.map (some K)):=⟨_,rfl⟩
  have hk6:∀q,q≠cb→w6.heap[q]?=w5.heap[q]?:=fun q hq=>by rw[hw6];exact Below.heap_setCell w5 ⟨cb,0+2,none⟩ _ q hq
  have hs6:w6.heap.size=w5.heap.size:=by rw[hw6];exact size_setCell _ _ _
  have hs5:w5.heap.size=w4.heap.size+1:=by rw[hw5];simp
  have hb34:Bw w3 w5:=hb4.trans (hb5.mono hb4.size)
  have hb36:Bw w3 w6:=by rw[hw6];exact hb34.setCell hcl _
  have hb06:Bw w w6:=HB03.out.trans (hb36.mono HB03.out.size)
  have hcb6:w6.heap[cb]?=some (.cells #[.map (some M),nv,.map (some K),.map none,.slice none 0 0] 257 (0,0)):=by rw[hw6];exact rJ (i:=0+2) hcb5 _
  obtain⟨w7,hw7⟩:∃w7,w7=w6.alloc (.cells #[.nilIface] 32):=⟨_,rfl⟩
  have hb7:Bw w6 w7:=by rw[hw7];exact aH
  have hre7:w7.heap[w6.heap.size]?=some (.cells #[.nilIface] 32 (0,0)):=by rw[hw7];exact heap_alloc_new _ _
  have hb07:=hb06.trans (hb7.mono hb06.size)
  have hr17:w7.heap[w.heap.size+1]?=some (.cells #[.slice none 0 0] 30 (0,0)):=aN hb7 (aN hb36 HR13.out)
  have hr07:w7.heap[w.heap.size]?=some (.cells #[.slice o l.length c] 37 (0,0)):=aN hb7 (aN hb36 HR03.out)
  have hr27:w7.heap[w4.heap.size]?=some (.cells #[.pointer (some ⟨cb,0,none⟩)] 254 (0,0)):=aN hb7 ((hk6 _ (by omega)).trans hr25)
  have hcb7:=aN hb7 hcb6
  have hM7:aO w7 M 24 (qW B C):=by
   have hl:=hM.lt
   refine hM.kept ?_
   rw[hb7.block M (by omega),hk6 M hne.1,hb5.block M hl]
  have hR5:=(bN hRw.r5).1
  have hR6:=(bN hRw.r6).1
  have hRk:∀q,q<w4.heap.size→q≠cb→w7.heap[q]?=w4.heap[q]?:=fun q hq hn=>by rw[hb7.block q (by omega),hk6 q hn,hb5.block q hq]
  have hKl:K<w.heap.size:=HK.out.lt
  have hfix:tN M K nK B C kd w7:=⟨hM7,⟨by rw[hRk B (by omega) (by omega)];exact hRw.r0,by rw[hRk (B+1) (by omega) (by omega)];exact hRw.r1,by rw[hRk (B+1+1) (by omega) (by omega)];exact hRw.r2,by rw[hRk (B+1+1+1) (by omega) (by omega)];exact hRw.r3,by rw[hRk (B+1+1+1+1) (by omega) (by omega)];exact hRw.r4,by rw[hRk (B+1+1+1+1+1) (by omega) (by omega)];exact hRw.r5,by rw[hRk C hR6 hne.2.1];exact hRw.r6,hRw.lo⟩,HK.out.kept (hb07.block K hKl)⟩
  have hck:fQ (vD M K B C) cb kd [] (fun k=>k=cb) w7:=⟨M,K,nK,B,C,nv,.map none,none,0,hcb7,hfix,World.ownsRow_nil _ _ _ _,fun k=>by simp [Value.ownBlock],fun k hk=>⟨fun e=>by
   have e':k=cb:=e
   rcases hk with h | h | h | h<;>omega,hk⟩,hfix.lt⟩
  have hnx:¬vD M K B C (w.heap.size+1):=fun hk=>by
   have n1:=hM7.Ng hr17
   have lo:=hRw.lo
   rcases hk with h | h | h | h<;>omega
  have hst7:aJ S (fun b=>¬(b=cb∨b=w.heap.size+1)) w w7:=fun b _ hl=>⟨fun h=>by rcases h with h | h<;>omega,hb07.block b hl⟩
  have hT1:=Jo (b0:=w.heap.size) (b1:=w.heap.size+1) (b2:=w4.heap.size) l HOK.out HZ.out hck o c ys (HROW.out.keep hst7) (HEX.out.keep hst7) hr07 hr17 hr27 (by omega) ⟨by omega,by omega⟩ hnx
  have hgt:(3:Nat)<w.heap.size:=Cq HET.out
  have het7:=aD hb07 HET.out
  have HCT:Hid (Calls Tryz.prog 124 #[.func (.func 172) #[] #[.pointer (some ⟨w.heap.size,0,none⟩),.pointer (some ⟨w.heap.size+1,0,none⟩),.pointer (some ⟨w4.heap.size,0,none⟩)]] w6 fun e w'=>(∃w1,(∃ks qs ta tc F',aR kd l=some (ks,qs)∧qM (vD M K B C) cb (w.heap.size+1) kd w7 (fun k=>k=cb) ks qs ta tc F' w1)∧e=.returned .nilIface∧w'=w1.setCell ⟨w6.heap.size,0,none⟩ .nilIface)∨(∃w1 o,(aR kd l=none∧∃F' v,bT (fun k=>k=cb∨k=w.heap.size+1) F' w7 w1∧w1.heap[w.heap.size+1]?=some (.cells #[v] 30 (0,0)))∧e=.returned (.iface et eq)∧w'=(w1.setCell ⟨w6.heap.size,0,none⟩ (.iface et eq)).alloc o)):=JR w6 _ _ _ et eq _ _ (by
   rw[←hw7]
   refine hT1.mono ?_
   rintro e w8 (⟨ks,qs,ta,tc,F',hty,rfl,hS⟩ | ⟨hty,hth,F',v,hm,hv⟩)
   ·exact .inl ⟨rfl,⟨ks,qs,ta,tc,F',hty,hS⟩,(hS.mv.nC hre7 (by rintro(h | h)<;>omega)).1⟩
   ·exact .inr ⟨hth,⟨hty,F',v,hm,hv⟩,(hm.nC hre7 (by rintro(h | h)<;>omega)).1,(hm.cell het7 (by rintro(h | h)<;>(have h':(3:Nat)=_:=h;omega))).1⟩)
  have HW5:Hid (w4.alloc (.cells #[.pointer (some ⟨cb,0,none⟩)] 254)=w5):=hw5.symm
  have HW6:Hid (w5.setCell ⟨cb,2,none⟩ (.map (some K))=w6):=hw6.symm
  have HB07:=aA hb07
  have HR27:=aA hr27
  have HRE7:=aA hre7
  have HSS:Hid (w.heap.size+2≤w3.heap.size∧w3.heap.size≤cb∧cb<w4.heap.size∧w5.heap.size=w4.heap.size+1∧w6.heap.size=w5.heap.size∧w6.heap.size<w7.heap.size):=⟨hs3,hcl,hc4,hs5,hs6,(bN hre7).1⟩
  clear hcb hM hRw hb4 hcl hBl hne hs3 hw5 hb5 hr25 hcb5 hw6 hk6 hs6 hs5 hb34 hb36 hb06 hcb6 hw7 hb7 hre7 hb07 hr17 hr07 hr27 hcb7 hM7 hR5 hR6 hRk hKl hfix hck hnx hst7 hT1 hgt het7 d1 f1
  go_upto_region 4 with fail
  rw[HW5.out]
  go_wp2_with fail
  rw[HW6.out]
  refine HCT.out.mono ?_
  rintro e w' (⟨w8,⟨ks,qs,ta,tc,F',hty,hS⟩,rfl,rfl⟩ | ⟨w8,o8,⟨hty,F',v8,hm,hv⟩,rfl,rfl⟩)
  ·have hck:=hS.ck
   obtain⟨M',K',nK',B',C',nv',uv',po,pc,h1,h2,h3,h4,h5,h6⟩:=hck
   have hr2:=(hS.mv.nC HR27.out (by have:=HSS.out;rintro(h | h)<;>omega)).1
   have hre:=(hS.mv.nC HRE7.out (by have:=HSS.out;rintro(h | h)<;>omega)).1
   have hB8:Bw w w8:=hS.mv.below HB07.out HB07.out.size (fun k hk=>by have:=HSS.out;rcases hk with h | h<;>omega)
   have hq1:=hS.cell
   have hrow:=hS.row
   have hsE:∀q,q≠w6.heap.size→(w8.setCell ⟨w6.heap.size,0,none⟩ .nilIface).heap[q]?=w8.heap[q]?:=fun q hq=>Below.heap_setCell w8 ⟨w6.heap.size,0,none⟩ _ q hq
   have hlk:=pX hty
   have hlq:=wX kd l ks qs HOK.out hty
   have hll:=tZ l
   have hz:=HZ.out
   have n1:=uH hrow hre (by decide)
   have n2:=uH h3 hre (by decide)
   have hrow9:=iM (w':=w8.setCell ⟨w6.heap.size,0,none⟩ .nilIface) hrow (fun q hq=>hsE q (fun e=>n1 (by rw[←e];exact hq)))
   have hpar9:=iM (w':=w8.setCell ⟨w6.heap.size,0,none⟩ .nilIface) h3 (fun q hq=>hsE q (fun e=>n2 (by rw[←e];exact hq)))
   obtain⟨w9,hw9⟩:∃w9,w9=w8.setCell ⟨w6.heap.size,0,none⟩ .nilIface:=⟨_,rfl⟩
   rw[←hw9] at hsE hrow9 hpar9 ⊢
   have hB9:Bw w w9:=by rw[hw9];exact hB8.setCell (by show w.heap.size≤w6.heap.size;have:=HSS.out;omega) _
   have q1:w9.heap[w.heap.size+1]?=some (.cells #[.slice ta ks.length tc] 30 (0,0)):=(hsE _ (by have:=HSS.out;omega)).trans hq1
   have q2:w9.heap[w4.heap.size]?=some (.cells #[.pointer (some ⟨cb,0,none⟩)] 254 (0,0)):=(hsE _ (by have:=HSS.out;omega)).trans hr2
   have qc:w9.heap[cb]?=some (.cells #[.map (some M'),nv',.map (some K'),uv',.slice po qs.length pc] 257 (0,0)):=(hsE _ (by have:=HSS.out;omega)).trans h1
   have y1:w9.cell? ⟨w.heap.size+1,0,none⟩=some (.slice ta ks.length tc):=cr q1 rfl
   have f1:w9.frozen? ⟨w.heap.size+1,0,none⟩=false:=bR q1
   have y2:w9.cell? ⟨w4.heap.size,0,none⟩=some (.pointer (some ⟨cb,0,none⟩)):=cr q2 rfl
   have y3:w9.cell? ⟨cb,0+4,none⟩=some (.slice po qs.length pc):=cr qc rfl
   have hsX:∀q,q≠w.heap.size+1→(w9.setCell ⟨w.heap.size+1,0,none⟩ (.slice ta ks.length tc)).heap[q]?=w9.heap[q]?:=fun q hq=>Below.heap_setCell w9 ⟨w.heap.size+1,0,none⟩ _ q hq
   have y2':(w9.setCell ⟨w.heap.size+1,0,none⟩ (.slice ta ks.length tc)).cell? ⟨w4.heap.size,0,none⟩=some (.pointer (some ⟨cb,0,none⟩)):=by have hx:=hsX w4.heap.size (by have:=HSS.out;omega);rw[World.cell?_of_block (w:=w9) hx];exact y2
   have y3':(w9.setCell ⟨w.heap.size+1,0,none⟩ (.slice ta ks.length tc)).cell? ⟨cb,0+4,none⟩=some (.slice po qs.length pc):=by have hx:=hsX cb (by have:=HSS.out;omega);rw[World.cell?_of_block (w:=w9) hx];exact y3
   have n3:=uH hrow9 q1 (by decide)
   have n4:=uH hpar9 q1 (by decide)
   have hrow10:=iM (w':=w9.setCell ⟨w.heap.size+1,0,none⟩ (.slice ta ks.length tc)) hrow9 (fun q hq=>hsX q (fun e=>n3 (by rw[←e];exact hq)))
   have hpar10:=iM (w':=w9.setCell ⟨w.heap.size+1,0,none⟩ (.slice ta ks.length tc)) hpar9 (fun q hq=>hsX q (fun e=>n4 (by rw[←e];exact hq)))
   have HI1:Hid (dP (w9.setCell ⟨w.heap.size+1,0,none⟩ (.slice ta ks.length tc)) (.slice ta ks.length tc) ks∧dP (w9.setCell ⟨w.heap.size+1,0,none⟩ (.slice ta ks.length tc)) (.slice po qs.length pc) qs):=⟨BN hrow10 rfl (by unfold maxLen;omega),BN hpar10 rfl (by unfold maxLen;omega)⟩
   have HB9:Hid (Bw w (w9.setCell ⟨w.heap.size+1,0,none⟩ (.slice ta ks.length tc))):=hB9.setCell (by show w.heap.size≤w.heap.size+1;omega) _
   have HTY:=aA hty
   have HQ1:Hid ((w9.setCell ⟨w.heap.size+1,0,none⟩ (.slice ta ks.length tc)).heap[w.heap.size+1]?=some (.cells #[.slice ta ks.length tc] 30 (0,0))):=rJ (i:=0) q1 _
   clear hS h1 h2 h3 h4 h5 h6 hr2 hre hB8 hq1 hrow hsE hlk hlq hll hz n1 n2 hrow9 hpar9 hw9 hB9 q1 q2 qc hsX n3 n4 hrow10 hpar10 hty
   go_wp2
   go_region
   all_goals
    obtain⟨we,hwe⟩:∃we,we=(w9.setCell ⟨w.heap.size+1,0,none⟩ (.slice ta ks.length tc)).drew:=⟨_,rfl⟩
    have hre:we.heap[w.heap.size+1]?=some (.cells #[.slice ta ks.length tc] 30 (0,0)):=by rw[hwe];exact HQ1.out
    have HEND:Hid (yK kd l et bt eq bq w (.returned (.tuple #[.slice ta ks.length tc,.slice po qs.length pc,.nilIface])) we):=by rw[hwe];exact⟨HB9.out.drew,.inr (.inr ⟨HZ.out,ks,qs,ta,tc,po,pc,HTY.out,rfl,HI1.out.1,HI1.out.2⟩)⟩
    rw[←hwe]
    have z1:we.cell? ⟨w.heap.size+1,0,none⟩=some (.slice ta ks.length tc):=cr hre rfl
    clear hwe hre y1 f1 y2 y3 y2' y3'
    go_wp2
    exact bodyPost_ret (v:=.tuple #[.slice ta ks.length tc,.slice po qs.length pc,.nilIface]) (by simp [results,Tryz.results132,go_sem,z1]) rfl HEND.out
  ·have hB8:Bw w w8:=hm.below HB07.out HB07.out.size (fun k hk=>by have:=HSS.out;rcases hk with h | h<;>omega)
   have hsE:∀q,q≠w6.heap.size→(w8.setCell ⟨w6.heap.size,0,none⟩ (.iface et eq)).heap[q]?=w8.heap[q]?:=fun q hq=>Below.heap_setCell w8 ⟨w6.heap.size,0,none⟩ _ q hq
   have hB9:Bw w (w8.setCell ⟨w6.heap.size,0,none⟩ (.iface et eq)):=hB8.setCell (by show w.heap.size≤w6.heap.size;have:=HSS.out;omega) _
   have hz8:=hB9.size
   have hq1:(w8.setCell ⟨w6.heap.size,0,none⟩ (.iface et eq)).heap[w.heap.size+1]?=some (.cells #[v8] 30 (0,0)):=(hsE _ (by have:=HSS.out;omega)).trans hv
   have hl1:=(bN hq1).1
   obtain⟨w9,hw9⟩:∃w9,w9=(w8.setCell ⟨w6.heap.size,0,none⟩ (.iface et eq)).alloc o8:=⟨_,rfl⟩
   have q1:w9.heap[w.heap.size+1]?=some (.cells #[v8] 30 (0,0)):=by rw[hw9,Below.heap_alloc _ o8 _ hl1];exact hq1
   have HB9:Hid (Bw w w9):=by rw[hw9];exact hB9.alloc hz8 _
   rw[←hw9]
   have y1:w9.cell? ⟨w.heap.size+1,0,none⟩=some v8:=cr q1 rfl
   have f1:w9.frozen? ⟨w.heap.size+1,0,none⟩=false:=bR q1
   have HQ1:Hid ((w9.setCell ⟨w.heap.size+1,0,none⟩ (.slice none 0 0)).heap[w.heap.size+1]?=some (.cells #[.slice none 0 0] 30 (0,0))):=rJ (i:=0) q1 _
   have HTY:=aA hty
   clear hB8 hsE hB9 hz8 hq1 hl1 hw9 q1 hty hm hv
   go_wp2
   have hbe:Bw w (w9.setCell ⟨w.heap.size+1,0,none⟩ (.slice none 0 0)):=HB9.out.setCell (by show w.heap.size≤w.heap.size+1;omega) _
   obtain⟨we,hwe⟩:∃we,we=w9.setCell ⟨w.heap.size+1,0,none⟩ (.slice none 0 0):=⟨_,rfl⟩
   have hre:we.heap[w.heap.size+1]?=some (.cells #[.slice none 0 0] 30 (0,0)):=by rw[hwe];exact HQ1.out
   rw[←hwe] at hbe ⊢
   have z1:we.cell? ⟨w.heap.size+1,0,none⟩=some (.slice none 0 0):=cr hre rfl
   exact bodyPost_ret (v:=.tuple #[.slice none 0 0,.slice none 0 0,.iface et eq]) (by simp [results,Tryz.results132,go_sem,z1]) rfl ⟨hbe,.inr (.inl ⟨HZ.out,HTY.out,rfl⟩)⟩
def Ar(kd:List UInt8→Option Int)(l:List Ex)(et bt:TypeId)(eq bq:Value)(w:World)(e:Ending)(w':World):Prop:=
 Bw w w'∧((4000<aC l∧e=.returned (.tuple #[.slice none 0 0,.iface bt bq]))∨(aC l≤4000∧aR kd l=none∧e=.returned (.tuple #[.slice none 0 0,.iface et eq]))∨(aC l≤4000∧∃ks qs ta tc,aR kd l=some (ks,qs)∧e=.returned (.tuple #[.slice ta ks.length tc,.nilIface])∧dP w' (.slice ta ks.length tc) ks))
def Av(kd:List UInt8→Option Int)(l:List Ex)(et bt:TypeId)(eq bq:Value)(w:World)(e:Ending)(w':World):Prop:=
 Bw w w'∧((4000<aC l∧e=.returned (.tuple #[.slice none 0 0,.iface bt bq]))∨(aC l≤4000∧aR kd l=none∧e=.returned (.tuple #[.slice none 0 0,.iface et eq]))∨(aC l≤4000∧∃ks qs ta tc,aR kd l=some (ks,qs)∧e=.returned (.tuple #[.slice ta qs.length tc,.nilIface])∧dP w' (.slice ta qs.length tc) qs))
theorem JO(kd:List UInt8→Option Int)(l:List Ex)(w:World)(K nK:Nat)(hK:aO w K nK (aY kd))(hok:iV kd l)(S:Nat→Prop)(o:Option Addr)(c:Nat)(ys:List Value)(hrow:aB w S 4 (.slice o l.length c) l.length ys)(hex:aQ w S l ys)(et bt:TypeId)(eq bq:Value)(he:w.cell? ⟨3,0,none⟩=some (.iface et eq))(hbd:w.cell? ⟨2,0,none⟩=some (.iface bt bq)) :
  Calls Tryz.prog 78 #[.map (some K),.slice o l.length c] w (Ar kd l et bt eq bq w):=by
 have HC:Hid (Calls Tryz.prog 132 #[.map (some K),.slice o l.length c] w (yK kd l et bt eq bq w)):=Dm kd l w K nK hK hok S o c ys hrow hex et bt eq bq he hbd
 clear hK hok hrow hex he hbd
 go_enter Tryz.func78,Tryz.ntmps78
 go_wp2_with fail
 refine HC.out.mono ?_
 rintro e w1 ⟨hb,⟨hz,rfl⟩ | ⟨hz,hty,rfl⟩ | ⟨hz,ks,qs,ta,tc,pa,pc,hty,rfl,hi,hj⟩⟩
 ·have HEND:Hid (Ar kd l et bt eq bq w (.returned (.tuple #[.slice none 0 0,.iface bt bq])) w1):=⟨hb,.inl ⟨hz,rfl⟩⟩
  clear hb hz
  go_wp2
  go_ret2
  exact HEND.out
 ·have HEND:Hid (Ar kd l et bt eq bq w (.returned (.tuple #[.slice none 0 0,.iface et eq])) w1):=⟨hb,.inr (.inl ⟨hz,hty,rfl⟩)⟩
  clear hb hz hty
  go_wp2
  go_ret2
  exact HEND.out
 ·have HEND:Hid (Ar kd l et bt eq bq w (.returned (.tuple #[.slice ta ks.length tc,.nilIface])) w1):=⟨hb,.inr (.inr ⟨hz,ks,qs,ta,tc,hty,rfl,hi⟩)⟩
  clear hb hz hty hi hj
  go_wp2
  go_ret2
  exact HEND.out
theorem LU(kd:List UInt8→Option Int)(l:List Ex)(w:World)(K nK:Nat)(hK:aO w K nK (aY kd))(hok:iV kd l)(S:Nat→Prop)(o:Option Addr)(c:Nat)(ys:List Value)(hrow:aB w S 4 (.slice o l.length c) l.length ys)(hex:aQ w S l ys)(et bt:TypeId)(eq bq:Value)(he:w.cell? ⟨3,0,none⟩=some (.iface et eq))(hbd:w.cell? ⟨2,0,none⟩=some (.iface bt bq)) :
  Calls Tryz.prog 176 #[.map (some K),.slice o l.length c] w (Av kd l et bt eq bq w):=by
 have HC:Hid (Calls Tryz.prog 132 #[.map (some K),.slice o l.length c] w (yK kd l et bt eq bq w)):=Dm kd l w K nK hK hok S o c ys hrow hex et bt eq bq he hbd
 clear hK hok hrow hex he hbd
 go_enter Tryz.func176,Tryz.ntmps176
 go_wp2_with fail
 refine HC.out.mono ?_
 rintro e w1 ⟨hb,⟨hz,rfl⟩ | ⟨hz,hty,rfl⟩ | ⟨hz,ks,qs,ta,tc,pa,pc,hty,rfl,hi,hj⟩⟩
 ·have HEND:Hid (Av kd l et bt eq bq w (.returned (.tuple #[.slice none 0 0,.iface bt bq])) w1):=⟨hb,.inl ⟨hz,rfl⟩⟩
  clear hb hz
  go_wp2
  go_ret2
  exact HEND.out
 ·have HEND:Hid (Av kd l et bt eq bq w (.returned (.tuple #[.slice none 0 0,.iface et eq])) w1):=⟨hb,.inr (.inl ⟨hz,hty,rfl⟩)⟩
  clear hb hz hty
  go_wp2
  go_ret2
  exact HEND.out
 ·have HEND:Hid (Av kd l et bt eq bq w (.returned (.tuple #[.slice pa qs.length pc,.nilIface])) w1):=⟨hb,.inr (.inr ⟨hz,ks,qs,pa,pc,hty,rfl,hj⟩)⟩
  clear hb hz hty hi hj
  go_wp2
  go_ret2
  exact HEND.out
end Go.Proofs.YtmgfakcccfahaaaGreatDoor
