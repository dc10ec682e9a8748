/-
  package types: typed$1 BY CONTRACT.
-/
import Derived.Test.YtmgfakcccfahaaaGreatDoorN08
set_option maxRecDepth 100000
set_option maxHeartbeats 4000000
namespace Go.Proofs.YtmgfakcccfahaaaGreatDoor
open Go.RowKit Go.Maps

theorem pU{w:World}{base size n b:Nat}{e t:TypeId}{v:Value}{xs:List Value}{cs:Array Value}{fr:Nat×Nat}(h:w.ownsRow base e size v n xs)(hb:w.heap[b]?=some (.cells cs t fr))(ht:t≠e):v.ownBlock≠some b:=fun hv=>by
 obtain⟨cur,hc⟩:=uT h hv
 rw[hb] at hc
 exact ht (Obj.cells.inj (Option.some.inj hc)).2.1
theorem Gf{X:Nat→Prop}{cb b0 b1 b2:Nat}{kd:List UInt8→Option Int}{F:Nat→Prop}{w:World}(l:List Ex)(hok:iF kd l)(hsz:aC l≤4000)(hck:dN X cb kd [] F w)(o:Option Addr)(c:Nat)(ys:List Value)(hrow:aB w (fun b=>¬(F b∨b=b1)) 4 (.slice o l.length c) l.length ys)(hex:aI w (fun b=>¬(F b∨b=b1)) l ys)
  (h0:w.heap[b0]?=some (.cells #[.slice o l.length c] 37 (0,0))) (h1:w.heap[b1]?=some (.cells #[.slice none 0 0] 30 (0,0))) (h2:w.heap[b2]?=some (.cells #[.pointer (some ⟨cb,0,none⟩)] 254 (0,0))) (n1:¬F b1) (n2:¬F b2∧b2≠b1) (hL:¬X b1) :
  Calls Tryz.prog 172 #[.pointer (some ⟨b0,0,none⟩),.pointer (some ⟨b1,0,none⟩),.pointer (some ⟨b2,0,none⟩)] w (EW X cb b1 kd l F w):=by
 obtain⟨i0,hi0,hz0,hz1,hz2⟩:=info_parts Tryz.lH
 have c0:w.cell? ⟨b0,0,none⟩=some (.slice o l.length c):=cr h0 rfl
 have HOK:=aA hok
 have HSZ:=aA hsz
 have HROW:=aA hrow
 have HEX:=aA hex
 have H2:=aA h2
 have HN2:Hid (¬(F b2∨b2=b1)):=fun h=>h.elim n2.1 n2.2
 have HLL:Hid (l.length≤4000):=by have:=rT l;unfold Hid;omega
 have HS0:Hid (mX X cb b1 kd w F [] [] none 0 F w):=⟨hck,h1,World.ownsRow_nil _ _ _ _,n1,fun k hk=>by simp [Value.ownBlock] at hk,⟨rfl,rfl,rfl,Nat.le_refl _,fun _ _ _=>rfl,fun k hk=>by
  rcases hk with hk | hk | hk
  ·exact .inl (.inl hk)
  ·exact .inl (.inr hk)
  ·simp [Value.ownBlock] at hk⟩,fun k hk=>by simp [Value.ownBlock] at hk,hL⟩
 clear hok hsz hck hrow hex h0 h1 h2 n1 n2 hL
 go_enter Tryz.func172,Tryz.ntmps172
 go_wp2
 clear c0
 go_loopw [7] (fun t wr=>∃(j:Nat) (ks qs:List Int) (ta:Option Addr) (tc:Nat) (Fj:Nat→Prop),j≤l.length∧t=.int .i64 j∧Hid (aM kd (l.take j)=some (ks,qs)∧mX X cb b1 kd w F ks qs ta tc Fj wr)) (fun t _=>l.length-(intOf t).toNat)
 case atStart=>exact⟨0,[],[],none,0,F,Nat.zero_le _,rfl,⟨by simp [aM],HS0.out⟩⟩
 case round=>
  obtain⟨j,ks,qs,ta,tc,Fj,hj,rfl,HJR⟩:=hrel
  by_cases hjl:j<l.length
  ·obtain⟨op',n',s',es,oo,cc,zs,e,x0,x1,x2,x3,r1,r2⟩:=HEX.out.at hjl
   obtain⟨p,f,cp,ev,hpF,_,g⟩:=HROW.out.at (by have:=HROW.out.1;omega)
   obtain⟨rfl,rfl⟩:o=some ⟨p,f,none⟩∧c=cp:=by simpa using ev
   have hmv:=HJR.out.2.mv
   have y0:=(hmv.cell (g _ _ x0) hpF).1
   have y1:=(hmv.cell (g _ _ x1) hpF).1
   have y2:=(hmv.cell (g _ _ x2) hpF).1
   have y3:=(hmv.cell (g _ _ x3) hpF).1
   rw[←Nat.add_assoc] at y1 y2 y3
   have i0':(0:Int)≤(j:Int):=by omega
   have i1':(j:Int)<(l.length:Int):=by omega
   have ej:l[j]?=some (.mk op' n' s' es):=by rw[List.getElem?_eq_getElem hjl,e]
   have hb5:Bw wr (wr.alloc (.cells #[.string op',.int .i64 n',.string s',.slice oo es.length cc] 92)):=aH
   obtain⟨w5,hw5⟩:∃w5,w5=wr.alloc (.cells #[.string op',.int .i64 n',.string s',.slice oo es.length cc] 92):=⟨_,rfl⟩
   have he5:w5.heap[wr.heap.size]?=some (.cells #[.string op',.int .i64 n',.string s',.slice oo es.length cc] 92 (0,0)):=by rw[hw5];exact heap_alloc_new _ _
   rw[←hw5] at hb5
   have hm5:=hmv.trans (aY.of_below hb5)
   have hs1:=rR kd (l.take j) ks qs (yC HOK.out) HJR.out.1
   have hs2:=pK l j _ ej
   have hs3:=uL l (j+1)
   have hwk:∀b,¬tJ Fj b1 (.slice ta ks.length tc) b→¬Fj b:=fun b hb hf=>hb (.inl hf)
   have HIH:Hid (Calls Tryz.prog 173 #[.pointer (some ⟨cb,0,none⟩),.agg #[.string op',.int .i64 n',.string s',.slice oo es.length cc]] w5.drew (Ae X cb kd qs (bF kd (.mk op' n' s' es)) Fj w5.drew)):=AA kd _ op' n' s' es (Nat.lt_succ_self _) (yD HOK.out ej) X cb qs Fj w5.drew oo cc zs ((HJR.out.2.ck.below hb5).below (Below.refl _ _).drew) (by have:=HSZ.out;simp only[aJ] at hs2 ⊢;omega) (((r1.keep hm5.stays).less hwk).keep (fun b hb _=>⟨hb,rfl⟩)) (((r2.keep hm5.stays).less hwk).keep (fun b hb _=>⟨hb,rfl⟩))
   have HTL:Hid (aM kd (l.take (j+1))=(bF kd (.mk op' n' s' es)).map fun x=>(ks++[x.1],qs++x.2)):=xC ej HJR.out.1
   have HKL:Hid (ks.length=j):=by have:=pG HJR.out.1;unfold Hid;rw[this,List.length_take];omega
   have HJ:=aA hjl
   have N4:Hid (wrap64 ((j:Int)+1)=(j:Int)+1):=by have:=HLL.out;have:=HJ.out;unfold Hid wrap64;omega
   have hb25:w5.heap[b2]?=some (.cells #[.pointer (some ⟨cb,0,none⟩)] 254 (0,0)):=(hm5.jU H2.out HN2.out).1
   have hb15:w5.heap[b1]?=some (.cells #[.slice ta ks.length tc] 30 (0,0)):=aG hb5 HJR.out.2.cell
   have z2:w5.drew.cell? ⟨b2,0,none⟩=some (.pointer (some ⟨cb,0,none⟩)):=by rw[cell_of_row _ b2 _ _ _ (0,0) (show w5.drew.heap[b2]?=_ from hb25)];rfl
   have z1:w5.drew.cell? ⟨b1,0,none⟩=some (.slice ta ks.length tc):=by rw[cell_of_row _ b1 _ _ _ (0,0) (show w5.drew.heap[b1]?=_ from hb15)];rfl
   have e0:w5.drew.cell? ⟨wr.heap.size,0,none⟩=some (.string op'):=by rw[cell_of_row _ _ _ _ _ (0,0) (show w5.drew.heap[wr.heap.size]?=_ from he5)];rfl
   have e1:w5.drew.cell? ⟨wr.heap.size,0+1,none⟩=some (.int .i64 n'):=by rw[cell_of_row _ _ _ _ _ (0,0) (show w5.drew.heap[wr.heap.size]?=_ from he5)];rfl
   have e2:w5.drew.cell? ⟨wr.heap.size,0+2,none⟩=some (.string s'):=by rw[cell_of_row _ _ _ _ _ (0,0) (show w5.drew.heap[wr.heap.size]?=_ from he5)];rfl
   have e3:w5.drew.cell? ⟨wr.heap.size,0+3,none⟩=some (.slice oo es.length cc):=by rw[cell_of_row _ _ _ _ _ (0,0) (show w5.drew.heap[wr.heap.size]?=_ from he5)];rfl
   have HNB:Hid (¬Fj b2∧¬Fj wr.heap.size∧¬Fj b1∧b2≠b1∧wr.heap.size≠b1):=⟨fun hf=>(hm5.jU H2.out HN2.out).2 (.inl hf),fun hf=>by have:=HJR.out.2.ck.lt _ hf;omega,HJR.out.2.nf,fun e=>HN2.out (.inr e),fun e=>by have:=(bE HJR.out.2.cell).1;omega⟩
   have HSO:Hid (∀W:World,W.heap[b2]?=some (.cells #[.pointer (some ⟨cb,0,none⟩)] 254 (0,0))→W.heap[wr.heap.size]?=some (.cells #[.string op',.int .i64 n',.string s',.slice oo es.length cc] 92 (0,0))→W.cell? ⟨b2,0,none⟩=some (.pointer (some ⟨cb,0,none⟩))∧W.cell? ⟨wr.heap.size,0,none⟩=some (.string op')∧W.cell? ⟨wr.heap.size,0+1,none⟩=some (.int .i64 n')∧W.cell? ⟨wr.heap.size,0+2,none⟩=some (.string s')∧W.cell? ⟨wr.heap.size,0+3,none⟩=some (.slice oo es.length cc)):=fun W r1 r2=>⟨cr r1 rfl,cr r2 rfl,cr r2 rfl,cr r2 rfl,cr r2 rfl⟩
   have HW5:Hid (wr.alloc (.cells #[.string op',.int .i64 n',.string s',.slice oo es.length cc] 92)=w5):=hw5.symm
   have HB5:=aA hb5
   have HE5:=aA he5
   have HB25:=aA hb25
   clear x0 x1 x2 x3 r1 r2 g ev e ej hb5 hw5 hm5 hs1 hs2 hs3 hwk hmv hj hjl hpF he5 hb25 hb15
   go_wp2
   rw[HW5.out]
   refine nG 6 (fun w'=>w'.cell? ⟨b2,0,none⟩=some (.pointer (some ⟨cb,0,none⟩))∧w'.cell? ⟨wr.heap.size,0,none⟩=some (.string op')∧w'.cell? ⟨wr.heap.size,0+1,none⟩=some (.int .i64 n')∧w'.cell? ⟨wr.heap.size,0+2,none⟩=some (.string s')∧w'.cell? ⟨wr.heap.size,0+3,none⟩=some (.slice oo es.length cc)) (fun w'=>w'.cell? ⟨b1,0,none⟩=some (.slice ta ks.length tc)) (by kernel_rfl) ⟨z2,e0,e1,e2,e3⟩ z1 (fun hh=>?_)
   refine wZ 5 (i:=0) (oi:=⟨some 11,_,_,_,_,_⟩) (v:=.slice ta ks.length tc) rfl rfl (by kernel_rfl) (by kernel_rfl) (by kernel_rfl) (by kernel_rfl) (by kernel_rfl) (by kernel_rfl) (by kernel_rfl) (fun _ _ _ h=>h) (Or.inl ⟨by rfl,?_⟩) hh ?_
   ·intro w hSw;(try dsimp only at hSw);go_simp
   try simp only[tp]
   refine tj 1 12 (.pointer (some ⟨cb,0,none⟩)) rfl (by rintro w ⟨a1,a2,a3,a4,a5⟩;go_simp) hh ?_
   refine tj 2 13 (.agg #[.string op',.int .i64 n',.string s',.slice oo es.length cc]) rfl (by rintro w ⟨a1,a2,a3,a4,a5⟩;go_simp) hh ?_
   refine dY 3 (some 14) rfl fun K hK=>?_
   go_simp
   refine HIH.out.mono ?_
   rintro e w6 (⟨k,rs,F6,hty,rfl,hck6,hm6⟩ | ⟨hty,hth,F6,hm6⟩)
   ·have hmr:aY Fj F6 wr w6:=(aY.of_below HB5.out).trans ⟨hm6.os,hm6.tape,hm6.output,hm6.size,hm6.block,hm6.more⟩
    have p2:=(hm6.jU (show w5.drew.heap[b2]?=_ from HB25.out) HNB.out.1).1
    have pe:=(hm6.jU (show w5.drew.heap[wr.heap.size]?=_ from HE5.out) HNB.out.2.1).1
    have p1:=(hmr.jU HJR.out.2.cell HJR.out.2.nf).1
    have hr6:=(BM HJR.out.2.row hmr HJR.out.2.nr).1
    have q1:w6.cell? ⟨b1,0,none⟩=some (.slice ta ks.length tc):=cr p1 rfl
    go_wp2_with fail
    refine hK.out _ _ ⟨HSO.out w6 p2 pe,fun _=>q1⟩ (fun hh=>?_)
    clear hK K
    try simp only[tp]
    refine dY 4 (some 15) rfl fun K hK=>?_
    go_simp
    have hba:Bw w6 (w6.alloc (.cells #[.int .i64 k] 3)):=aH
    refine hK.out _ _ ⟨HSO.out _ (aG hba p2) (aG hba pe),fun _=>aF hba q1⟩ (fun hh=>?_)
    clear hK K
    try simp only[tp]
    refine dY 5 (some 16) rfl fun K hK=>?_
    refine step_append_lies _ rfl (.tmp 11) (.tmp 15) 30 rfl 0 3 i0 _ 1 8 Tryz.underlying30 hi0 hz0 hz1 hz2 rfl (by omega) (.slice ta ks.length tc) ks.length _ (by simp [Act.eval]) (hr6.alloc _) ⟨w6.heap.size,0,none⟩ 1 1 [.int .i64 k] (by simp [Act.eval]) rfl (World.news_of_block (heap_alloc_new w6 (.cells #[.int .i64 k] 3))) (by simp [Value.oneCell']) (by omega) (by have:=HKL.out;have:=HLL.out;have:=HJ.out;unfold maxLen;omega) (by have:=HKL.out;have:=HLL.out;have:=HJ.out;omega) (Nat.zero_le _) _ rfl ?_
    intro g cap w7 hown7 hgrow hat hlt7
    have n2:=pU hr6 p2 (by decide)
    have ne:=pU hr6 pe (by decide)
    have n1:=pU hr6 p1 (by decide)
    have p27:=mO hgrow n2 (aG hba p2)
    have pe7:=mO hgrow ne (aG hba pe)
    have p17:=mO hgrow n1 (aG hba p1)
    have y1:w7.cell? ⟨b1,0,none⟩=some (.slice ta ks.length tc):=cr p17 rfl
    have f1:w7.frozen? ⟨b1,0,none⟩=false:=dW p17
    refine hK.out _ _ ⟨HSO.out w7 p27 pe7,fun _=>y1⟩ (fun hh=>?_)
    clear hK K
    try simp only[tp]
    refine dY 6 none rfl fun K hK=>?_
    go_simp
    have hks:∀q,q≠b1→(w7.setCell ⟨b1,0,none⟩ (.slice (some ⟨g,0,none⟩) (ks.length+1) cap)).heap[q]?=w7.heap[q]?:=fun q hq=>Below.heap_setCell w7 ⟨b1,0,none⟩ _ q hq
    refine hK.out _ _ (Till.last (HSO.out _ ((hks _ HNB.out.2.2.2.1).trans p27) ((hks _ HNB.out.2.2.2.2).trans pe7))) (fun hh=>?_)
    clear hK K
    try simp only[tp]
    refine kH (by kernel_rfl) ?_ _
    have HFIN:Hid (mX X cb b1 kd w F (ks++[k]) (qs++rs) (some ⟨g,0,none⟩) cap F6 (w7.setCell ⟨b1,0,none⟩ (.slice (some ⟨g,0,none⟩) (ks.length+1) cap))):=HJR.out.2.next hmr hck6 hgrow hat hlt7 hown7
    have HTY:=aA hty
    clear hmr p2 pe p1 hr6 q1 hba hown7 hgrow hat hlt7 n2 ne n1 p27 pe7 p17 y1 f1 hks hck6 hm6 hty hh
    go_wp2
    exact⟨⟨j+1,ks++[k],qs++rs,_,_,F6,HJ.out,by rw[N4.out];rfl,⟨by rw[HTL.out,HTY.out];rfl,HFIN.out⟩⟩,by rw[N4.out];have:=HJ.out;simp [intOf];omega⟩
   ·unfold lK at hth
    subst hth
    have hN:aM kd l=none:=by
     have h:=HTL.out
     rw[hty] at h
     exact xD h
    have hmr:aY (tJ Fj b1 (.slice ta ks.length tc)) (tJ F6 b1 (.slice ta ks.length tc)) wr w6:=by
     have h1:aY Fj F6 wr w6:=(aY.of_below HB5.out).trans ⟨hm6.os,hm6.tape,hm6.output,hm6.size,hm6.block,hm6.more⟩
     refine⟨h1.os,h1.tape,h1.output,h1.size,fun q hq hn=>h1.block q hq (fun hf=>hn (.inl hf)),fun q hq=>?_⟩
     rcases hq with hq | hq
     ·rcases h1.more q hq with h2 | h2
      ·exact .inl (.inl h2)
      ·exact .inr h2
     ·exact .inl (.inr hq)
    have h1:aY Fj F6 wr w6:=(aY.of_below HB5.out).trans ⟨hm6.os,hm6.tape,hm6.output,hm6.size,hm6.block,hm6.more⟩
    exact⟨rfl,.inr ⟨hN,rfl,_,_,HJR.out.2.mv.trans hmr,(h1.jU HJR.out.2.cell HJR.out.2.nf).1⟩⟩
  ·obtain rfl:j=l.length:=by omega
   have HEND:Hid (EW X cb b1 kd l F w (.returned (.tuple #[])) wr):=.inl ⟨ks,qs,ta,tc,Fj,by have h:=HJR.out.1;rw[List.take_length] at h;exact h,rfl,HJR.out.2⟩
   clear hj hjl
   go_wp2
   exact bodyPost_ret (v:=.tuple #[]) (by simp [results,Tryz.results172,go_sem]) rfl HEND.out

theorem Gy(w:World)(b0 b1 b2:Nat)(et:TypeId)(eq:Value)(P Q:World→Prop)
  (HC:Calls Tryz.prog 172 #[.pointer (some ⟨b0,0,none⟩),.pointer (some ⟨b1,0,none⟩),.pointer (some ⟨b2,0,none⟩)] (w.alloc (.cells #[.nilIface] 32)) fun e w'=>(e=.returned (.tuple #[])∧P w'∧w'.heap[w.heap.size]?=some (.cells #[.nilIface] 32 (0,0)))∨(lK e∧Q w'∧w'.heap[w.heap.size]?=some (.cells #[.nilIface] 32 (0,0))∧w'.cell? ⟨3,0,none⟩=some (.iface et eq))) :
  Calls Tryz.prog 124 #[.func (.func 172) #[] #[.pointer (some ⟨b0,0,none⟩),.pointer (some ⟨b1,0,none⟩),.pointer (some ⟨b2,0,none⟩)]] w fun e w'=>(∃w1,P w1∧e=.returned .nilIface∧w'=w1.setCell ⟨w.heap.size,0,none⟩ .nilIface)∨(∃w1 o,Q w1∧e=.returned (.iface et eq)∧w'=(w1.setCell ⟨w.heap.size,0,none⟩ (.iface et eq)).alloc o):=by
 have hmf:∀(fn:Fn) (first cap:Array Value) (w:World),(Instr.makeFunc fn first cap).run Tryz.prog w=.ok (.func fn first cap) w:=fun _ _ _ _=>rfl
 obtain⟨w0,hw0⟩:∃w0,w0=w.alloc (.cells #[.nilIface] 32):=⟨_,rfl⟩
 rw[←hw0] at HC
 have HC':Hid (Calls Tryz.prog 172 #[.pointer (some ⟨b0,0,none⟩),.pointer (some ⟨b1,0,none⟩),.pointer (some ⟨b2,0,none⟩)] w0 fun e w'=>(e=.returned (.tuple #[])∧P w'∧w'.heap[w.heap.size]?=some (.cells #[.nilIface] 32 (0,0)))∨(lK e∧Q w'∧w'.heap[w.heap.size]?=some (.cells #[.nilIface] 32 (0,0))∧w'.cell? ⟨3,0,none⟩=some (.iface et eq))):=HC
 have HW0:Hid (w.alloc (.cells #[.nilIface] 32)=w0):=hw0.symm
 clear HC hw0
 go_enter_defers Tryz.func124,Tryz.ntmps124
 go_wp2_with fail
 rw[HW0.out]
 refine HC'.out.mono ?_
 rintro e w1 (⟨rfl,hP,hr⟩ | ⟨ht,hQ,hr,he⟩)
 ·have c1:w1.cell? ⟨w.heap.size,0,none⟩=some .nilIface:=cr hr rfl
  have f1:w1.frozen? ⟨w.heap.size,0,none⟩=false:=dW hr
  have HP:=aA hP
  clear hP hr
  go_wp2
  refine leaves_cons (f:=169) (args:=#[.pointer (some ⟨w.heap.size,0,none⟩)]) (by simp) (by simp [go_sem]) ?_
  refine(GA _ _).mono ?_
  rintro e u' w'' ⟨rfl,rfl,rfl⟩
  refine⟨.nilIface,?_,.inl ⟨w1,HP.out,rfl,rfl⟩⟩
  simp [results,Tryz.results124,go_sem,c1]
 ·unfold lK at ht
  subst ht
  have c1:w1.cell? ⟨w.heap.size,0,none⟩=some .nilIface:=cr hr rfl
  have f1:w1.frozen? ⟨w.heap.size,0,none⟩=false:=dW hr
  have hlw:w.heap.size<w1.heap.size:=zV c1
  have HQ:=aA hQ
  have HE:=aA he
  clear hQ hr he
  go_wp2
  refine leaves_cons (f:=169) (args:=#[.pointer (some ⟨w.heap.size,0,none⟩)]) (by simp) (by simp [go_sem]) ?_
  refine(Gz w.heap.size .nilIface (.iface et eq) [] _ c1 f1 HE.out ⟨et,eq,rfl⟩).mono ?_
  rintro e u' w'' ⟨rfl,rfl,o,rfl⟩
  refine⟨.iface et eq,?_,.inr ⟨w1,o,HQ.out,rfl,rfl⟩⟩
  simp [results,Tryz.results124,go_sem,c1,hlw]
theorem La(w:World) :
  Calls Tryz.prog 171 #[] w fun e w'=>∃cb M B C nv,e=.returned (.pointer (some ⟨cb,0,none⟩))∧w'.heap[cb]?=some (.cells #[.map (some M),nv,.map none,.map none,.slice none 0 0] 257 (0,0))∧aR w' M 24 (nJ B C)∧oW B C w'∧Bw w w'∧w.heap.size≤cb∧w.heap.size≤B∧(M≠cb∧C≠cb∧(cb<B∨B+5<cb)):=by
 have hmm:=@run_makeMap Tryz.prog
 go_enter Tryz.func171,Tryz.ntmps171
 go_wp2_with fail
 refine(G7 w).mono ?_
 rintro e w1 ⟨M,C,rfl,hF,hb,hR⟩
 have hb2:Bw w1 ((w1.alloc (.map #[] 0)).alloc (.cells #[.map (some M),.map (some w1.heap.size),.map none,.map none,.slice none 0 0] 257)):=(aH).alloc (by simp) _
 have hM:=hF.lt
 have h5:=(bE hR.r5).1
 have h6:=(bE hR.r6).1
 have hr:((w1.alloc (.map #[] 0)).alloc (.cells #[.map (some M),.map (some w1.heap.size),.map none,.map none,.slice none 0 0] 257)).heap[w1.heap.size+1]?=some (.cells #[.map (some M),.map (some w1.heap.size),.map none,.map none,.slice none 0 0] 257 (0,0)):=by
  have h:=heap_alloc_new (w1.alloc (.map #[] 0)) (.cells #[.map (some M),.map (some w1.heap.size),.map none,.map none,.slice none 0 0] 257)
  have e:(w1.alloc (.map #[] 0)).heap.size=w1.heap.size+1:=by simp
  rw[e] at h
  exact h
 have HEND:Hid (∃cb M' B C' nv,(.returned (.pointer (some ⟨w1.heap.size+1,0,none⟩)):Ending)=.returned (.pointer (some ⟨cb,0,none⟩))∧((w1.alloc (.map #[] 0)).alloc (.cells #[.map (some M),.map (some w1.heap.size),.map none,.map none,.slice none 0 0] 257)).heap[cb]?=some (.cells #[.map (some M'),nv,.map none,.map none,.slice none 0 0] 257 (0,0))∧aR ((w1.alloc (.map #[] 0)).alloc (.cells #[.map (some M),.map (some w1.heap.size),.map none,.map none,.slice none 0 0] 257)) M' 24 (nJ B C')∧oW B C' ((w1.alloc (.map #[] 0)).alloc (.cells #[.map (some M),.map (some w1.heap.size),.map none,.map none,.slice none 0 0] 257))∧Bw w ((w1.alloc (.map #[] 0)).alloc (.cells #[.map (some M),.map (some w1.heap.size),.map none,.map none,.slice none 0 0] 257))∧w.heap.size≤cb∧w.heap.size≤B∧(M'≠cb∧C'≠cb∧(cb<B∨B+5<cb))):=⟨w1.heap.size+1,M,w.heap.size,C,_,rfl,hr,hF.kept (hb2.block M hM),hR.below hb2,hb.trans (hb2.mono hb.size),by have:=hb.size;omega,Nat.le_refl _,by omega,by omega,.inr (by omega)⟩
 clear hb2 hM h5 h6 hr hF hb hR
 go_wp2
 go_ret
 exact HEND.out
end Go.Proofs.YtmgfakcccfahaaaGreatDoor
