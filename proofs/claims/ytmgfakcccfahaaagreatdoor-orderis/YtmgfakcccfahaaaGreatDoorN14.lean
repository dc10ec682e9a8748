/-
  package flat: termsOf BY CONTRACT.
-/
import Derived.Test.YtmgfakcccfahaaaGreatDoorN13
namespace Go.Proofs.YtmgfakcccfahaaaGreatDoor
open Go.RowKit Go.Maps
set_option maxRecDepth 100000
set_option maxHeartbeats 8000000

def aD(p:Pg):List Ex:=p.fs.map (fun f=>f.e)++(p.asserts++p.checks)
def bT(p:Pg):List Int:=p.fs.map (fun f=>f.kind)++List.replicate (p.asserts.length+p.checks.length) 1
def iH(l:List Int):List Value:=l.map (Value.int .i64)
theorem Ml{l:List Int}{j:Nat}{k:Int}(h:l[j]?=some k):iH (l.take (j+1))=iH (l.take j)++[.int .i64 k]:=by simp [iH,List.take_add_one,h]
theorem qZ{w:World}{S:Nat→Prop}{l:List Ex}{xs:List Value}(h:aI w S l xs):∀u∈xs,u.oneCell'=true:=by
 induction h with
 | nil=>intro u hu;cases hu
 | cons op n s l es lv xs ys h1 _ _ _ ih=>
  obtain⟨o,c,rfl⟩:=h1.form
  intro u hu
  simp only[List.mem_cons] at hu
  rcases hu with rfl | rfl | rfl | rfl | hu
  ·rfl
  ·rfl
  ·rfl
  ·rfl
  ·exact ih u hu

theorem rX{w:World}{base base' size n:Nat}{e:TypeId}{v:Value}{xs:List Value}(h:w.ownsRow base e size v n xs)(hb:base'≤base):w.ownsRow base' e size v n xs:=by
 refine⟨h.1,?_⟩
 rcases h.2 with h0 | ⟨g,cap,cur,h1,h2,h3⟩
 ·exact .inl h0
 ·exact .inr ⟨g,cap,cur,h1,Nat.le_trans hb h2,h3⟩

theorem Gx(w:World)(S:Nat→Prop)(p:Pg)(o3 o4 o5:Option Addr)(c3 c4 c5:Nat)(v1 v2:Value)(hp:fE w S p v1 v2 (.slice o3 p.fs.length c3) (.slice o4 p.asserts.length c4) (.slice o5 p.checks.length c5))(hn:p.fs.length+(p.asserts.length+p.checks.length)≤4000) :
  Calls Tryz.prog 74 #[.agg #[v1,v2,.slice o3 p.fs.length c3,.slice o4 p.asserts.length c4,.slice o5 p.checks.length c5]] w fun e w'=>∃v u n xs,e=.returned (.tuple #[v,u])∧n=(aD p).length∧w'.ownsRow w.heap.size 92 4 v n xs∧aI w S (aD p) xs∧w'.ownsRow w.heap.size 3 1 u n (iH (bT p))∧Bw w w':=by
 obtain⟨i0,hi0,hz0,hz1,hz2⟩:=info_parts Tryz.qA
 obtain⟨k0,hk0,ky0,ky1,ky2⟩:=info_parts Tryz.lH
 obtain⟨_,_,⟨xs,hfr,hfi⟩,⟨x4,h4,g4⟩,⟨x5,h5,g5⟩⟩:=hp
 obtain⟨ys,hys,hyx⟩:=hfi.terms
 obtain⟨w1,hw1⟩:∃w1,w1=w.alloc (.cells #[v1,v2,.slice o3 p.fs.length c3,.slice o4 p.asserts.length c4,.slice o5 p.checks.length c5] 39):=⟨_,rfl⟩
 have hb1:Bw w w1:=by rw[hw1];exact aH
 have hr1:w1.heap[w.heap.size]?=some (.cells #[v1,v2,.slice o3 p.fs.length c3,.slice o4 p.asserts.length c4,.slice o5 p.checks.length c5] 39 (0,0)):=by rw[hw1];exact heap_alloc_new _ _
 have e2:w1.cell? ⟨w.heap.size,0+2,none⟩=some (.slice o3 p.fs.length c3):=cr hr1 rfl
 have HW1:Hid (w.alloc (.cells #[v1,v2,.slice o3 p.fs.length c3,.slice o4 p.asserts.length c4,.slice o5 p.checks.length c5] 39)=w1):=hw1.symm
 have HR1:Hid _:=hr1
 have HB1:=aA hb1
 have HFR:=aA hfr
 have HFI:=aA hfi
 have HYS:Hid (aI w S (p.fs.map fun f=>f.e) ys∧∀i k,k<4→i<p.fs.length→ys[i*4+k]?=xs[i*6+2+k]?):=⟨hys,hyx⟩
 have H4:Hid (aB w S 4 (.slice o4 p.asserts.length c4) p.asserts.length x4∧aI w S p.asserts x4):=⟨h4,g4⟩
 have H5:Hid (aB w S 4 (.slice o5 p.checks.length c5) p.checks.length x5∧aI w S p.checks x5):=⟨h5,g5⟩
 have HN:=aA hn
 clear hfr hfi hys hyx h4 g4 h5 g5 hw1 hb1 hr1 hn
 go_enter Tryz.func74,Tryz.ntmps74
 go_upto_region 1 with fail
 rw[HW1.out]
 go_wp2
 clear e2
 go_loopw [2,3,11] (fun v u t wr=>∃(j:Nat),j≤p.fs.length∧t=.int .i64 j∧Hid (Two w1 wr v j (ys.take (j*4)) u j (iH ((p.fs.map fun f=>f.kind).take j)))) (fun _ _ t _=>p.fs.length-(intOf t).toNat)
 case atStart=>exact⟨0,Nat.zero_le _,rfl,Two.start w1⟩
 case round=>
  obtain⟨j,hj,rfl,HJR⟩:=hrel
  by_cases hjl:j<p.fs.length
  ·obtain⟨name,kind,op',n',s',es,oo,cc,zs,e,x0,x1,x2,x3,x4',x5',_,_⟩:=HFI.out.at hjl
   obtain⟨b,off,cp,ev,_,_,g⟩:=HFR.out.at (by have:=HFR.out.1;omega)
   obtain⟨rfl,rfl⟩:o3=some ⟨b,off,none⟩∧c3=cp:=by simpa using ev
   have hbr:Bw w wr:=HB1.out.trans (HJR.out.below.mono HB1.out.size)
   have y0:=aF hbr (g _ _ x0)
   have y1:=aF hbr (g _ _ x1)
   have y2:=aF hbr (g _ _ x2)
   have y3:=aF hbr (g _ _ x3)
   have y4:=aF hbr (g _ _ x4')
   have y5:=aF hbr (g _ _ x5')
   rw[←Nat.add_assoc] at y1 y2 y3 y4 y5
   have i0':(0:Int)≤(j:Int):=by omega
   have i1':(j:Int)<(p.fs.length:Int):=by omega
   have HT4:Hid (ys.take ((j+1)*4)=ys.take (j*4)++[.string op',.int .i64 n',.string s',.slice oo es.length cc]):=
    xI (by rw[←x2];exact HYS.out.2 j 0 (by omega) hjl) (by rw[←x3];exact HYS.out.2 j 1 (by omega) hjl) (by rw[←x4'];exact HYS.out.2 j 2 (by omega) hjl) (by rw[←x5'];exact HYS.out.2 j 3 (by omega) hjl)
   have HTK:Hid (iH ((p.fs.map fun f=>f.kind).take (j+1))=iH ((p.fs.map fun f=>f.kind).take j)++[.int .i64 kind]):=Ml (by rw[List.getElem?_map,List.getElem?_eq_getElem hjl,e];rfl)
   have HJ:=aA hjl
   have N4:Hid (wrap64 ((j:Int)+1)=(j:Int)+1):=by have:=HN.out;have:=HJ.out;unfold Hid wrap64;omega
   have HMX:Hid (j+1≤maxLen∧(j+1)*64≤140737488355328∧(j+1)*8≤140737488355328):=by have:=HN.out;have:=HJ.out;unfold Hid maxLen;omega
   clear hbr g ev x0 x1 x2 x3 x4' x5' e hj hjl
   obtain⟨w4,hw4⟩:∃w4,w4=wr.alloc (.cells #[.string name,.int .i64 kind,.string op',.int .i64 n',.string s',.slice oo es.length cc] 95):=⟨_,rfl⟩
   have hr4:w4.heap[wr.heap.size]?=some (.cells #[.string name,.int .i64 kind,.string op',.int .i64 n',.string s',.slice oo es.length cc] 95 (0,0)):=by rw[hw4];exact heap_alloc_new _ _
   have z1:w4.cell? ⟨wr.heap.size,0+2,none⟩=some (.string op'):=cr hr4 rfl
   have z2:w4.cell? ⟨wr.heap.size,0+2+1,none⟩=some (.int .i64 n'):=cr hr4 rfl
   have z3:w4.cell? ⟨wr.heap.size,0+2+2,none⟩=some (.string s'):=cr hr4 rfl
   have z4:w4.cell? ⟨wr.heap.size,0+2+3,none⟩=some (.slice oo es.length cc):=cr hr4 rfl
   have HT5:Hid (Two w1 (w4.alloc (.cells #[.string op',.int .i64 n',.string s',.slice oo es.length cc] 92)) u2 j (ys.take (j*4)) u3 j (iH ((p.fs.map fun f=>f.kind).take j))):=by rw[hw4];exact(HJR.out.alloc _).alloc _
   have HNW:Hid (∀k x,#[.string op',.int .i64 n',.string s',.slice oo es.length cc].toList[k]?=some x→(w4.alloc (.cells #[.string op',.int .i64 n',.string s',.slice oo es.length cc] 92)).cell? ((⟨w4.heap.size,0,none⟩:Addr).add k)=some x):=World.news_of_block (heap_alloc_new w4 _)
   have HR4:Hid ((w4.alloc (.cells #[.string op',.int .i64 n',.string s',.slice oo es.length cc] 92)).heap[wr.heap.size]?=some (.cells #[.string name,.int .i64 kind,.string op',.int .i64 n',.string s',.slice oo es.length cc] 95 (0,0))):=by
    refine Eq.trans ?_ hr4
    exact((Below.refl w4.heap.size w4).alloc (Nat.le_refl _) _).block _ (by rw[hw4];simp)
   have HVN:Hid (∀k,u2.ownBlock=some k→k≠wr.heap.size):=fun k hk=>by have:=(HJR.out.terms.lt k hk).2;omega
   have HWZ:Hid (wr.heap.size<(w4.alloc (.cells #[.string op',.int .i64 n',.string s',.slice oo es.length cc] 92)).heap.size):=by rw[hw4];unfold Hid;simp;omega
   have HW4:Hid (wr.alloc (.cells #[.string name,.int .i64 kind,.string op',.int .i64 n',.string s',.slice oo es.length cc] 95)=w4):=hw4.symm
   clear hw4 hr4
   go_upto_region 4 with fail
   rw[HW4.out]
   clear y0 y1 y2 y3 y4 y5
   go_upto_region 5 with(at_builtin;refine wpList_append_lies _ rfl _ _ 37 rfl w1.heap.size 92 i0 _ 4 64 Tryz.underlying37 hi0 hz0 hz1 hz2 rfl (by omega) u2 j _ rfl HT5.out.terms ⟨w4.heap.size,0,none⟩ 1 1 _ rfl rfl HNW.out (by simp [Value.oneCell']) (by omega) HMX.out.1 HMX.out.2.1 HT5.out.below.size _ rfl ?_;intro g cap w5 hown5 hgrow5 hat5 hlt5)
   have HT6:=HT5.out.vH hown5 hgrow5 hat5
   have hr5:w5.heap[wr.heap.size]?=some (.cells #[.string name,.int .i64 kind,.string op',.int .i64 n',.string s',.slice oo es.length cc] 95 (0,0)):=(hgrow5.block _ HWZ.out (fun e=>HVN.out _ e.symm rfl)).trans HR4.out
   have q1:w5.cell? ⟨wr.heap.size,0+1,none⟩=some (.int .i64 kind):=cr hr5 rfl
   have HT7:Hid (Two w1 (w5.alloc (.cells #[.int .i64 kind] 3)) (.slice (some ⟨g,0,none⟩) (j+1) cap) (j+1) (ys.take ((j+1)*4)) u3 j (iH ((p.fs.map fun f=>f.kind).take j))):=by rw[HT4.out];exact HT6.alloc _
   have HNW5:Hid (∀k x,#[Value.int .i64 kind].toList[k]?=some x→(w5.alloc (.cells #[.int .i64 kind] 3)).cell? ((⟨w5.heap.size,0,none⟩:Addr).add k)=some x):=World.news_of_block (heap_alloc_new w5 _)
   clear hown5 hgrow5 hat5 hlt5 HT6 hr5 z1 z2 z3 z4
   go_wp2_with (at_builtin;refine wpList_append_lies _ rfl _ _ 30 rfl w1.heap.size 3 k0 _ 1 8 Tryz.underlying30 hk0 ky0 ky1 ky2 rfl (by omega) u3 j _ rfl HT7.out.kinds ⟨w5.heap.size,0,none⟩ 1 1 _ rfl rfl HNW5.out (by simp [Value.oneCell']) (by omega) HMX.out.1 HMX.out.2.2 HT7.out.below.size _ rfl ?_;intro g' cap' w6 hown6 hgrow6 hat6 hlt6)
   have hT8:=HT7.out.vI hown6 hgrow6 hat6
   exact⟨⟨j+1,HJ.out,by rw[N4.out];rfl,by rw[HTK.out];exact hT8⟩,by rw[N4.out];have:=HJ.out;simp [intOf];omega⟩
  ·obtain rfl:j=p.fs.length:=by omega
   have hyl:ys.take (p.fs.length*4)=ys:=List.take_of_length_le (by have:=HYS.out.1.length;rw[List.length_map] at this;omega)
   have hkl:(p.fs.map fun f=>f.kind).take p.fs.length=p.fs.map fun f=>f.kind:=List.take_of_length_le (by rw[List.length_map];exact Nat.le_refl _)
   rw[hyl,hkl] at HJR
   obtain⟨N,hN⟩:∃N,N=p.asserts.length+p.checks.length:=⟨_,rfl⟩
   have hr:wr.heap[w.heap.size]?=some (.cells #[v1,v2,.slice o3 p.fs.length c3,.slice o4 p.asserts.length c4,.slice o5 p.checks.length c5] 39 (0,0)):=(HJR.out.below.block _ (bE HR1.out).1).trans HR1.out
   have b3:wr.cell? ⟨w.heap.size,0+3,none⟩=some (.slice o4 p.asserts.length c4):=cr hr rfl
   have b4:wr.cell? ⟨w.heap.size,0+4,none⟩=some (.slice o5 p.checks.length c5):=cr hr rfl
   have hbw:Bw w wr:=HB1.out.trans (HJR.out.below.mono HB1.out.size)
   obtain⟨wB,hwB⟩:∃wB,wB=wr.alloc (.cells #[.slice o4 p.asserts.length c4,.slice o5 p.checks.length c5] 37):=⟨_,rfl⟩
   have hbB:Bw w wB:=by rw[hwB];exact hbw.alloc hbw.size _
   have hrB:wB.heap[wr.heap.size]?=some (.cells #[.slice o4 p.asserts.length c4,.slice o5 p.checks.length c5] 37 (0,0)):=by rw[hwB];exact heap_alloc_new _ _
   have hst:aP S S w wB:=fun b hb hl=>⟨hb,hbB.block b hl⟩
   have hcc:=Eh wB S [(o4,p.asserts.length,c4,x4),(o5,p.checks.length,c5,x5)] wr.heap.size 2 (fun i q hq=>by
    match i,hq with
    | 0,hq=>
     obtain rfl:=Option.some.inj hq
     exact⟨cr hrB rfl,H4.out.1.keep hst,qZ H4.out.2⟩
    | 1,hq=>
     obtain rfl:=Option.some.inj hq
     exact⟨cr hrB rfl,H5.out.1.keep hst,qZ H5.out.2⟩
    | i+2,hq=>cases hq) (by simp) (by have:=HN.out;simp [dF];omega)
   rw[show dF [(o4,p.asserts.length,c4,x4),(o5,p.checks.length,c5,x5)]=N from by rw[hN];simp [dF],show kY [(o4,p.asserts.length,c4,x4),(o5,p.checks.length,c5,x5)]=x4++x5 from by simp [kY]] at hcc
   have HTB:Hid (Two w1 wB u2 p.fs.length ys u3 p.fs.length (iH (p.fs.map fun f=>f.kind))):=by rw[hwB];exact HJR.out.alloc _
   have HXE:Hid (aI w S (p.asserts++p.checks) (x4++x5)):=H4.out.2.append H5.out.2
   have HNN:=aA hN
   have HWB:Hid (wr.alloc (.cells #[.slice o4 p.asserts.length c4,.slice o5 p.checks.length c5] 37)=wB):=hwB.symm
   clear hyl hkl hj hjl hN hr hbw hwB hbB hrB hst
   go_wp2_with fail
   rw[HWB.out]
   refine hcc.mono ?_
   rintro e w2 ⟨g0,cap0,rfl,hown2,hb2⟩
   have HT2:Hid (kE w1 w2 u2 p.fs.length ys u3 p.fs.length (iH (p.fs.map fun f=>f.kind)) (.slice g0 N cap0) N (x4++x5)):=
    ⟨HTB.out.beyond hb2,rX hown2 HTB.out.below.size,fun k hk=>⟨fun e=>by have h1:=(hown2.lt k hk).1;have h2:=(HTB.out.terms.lt k e).2;omega,fun e=>by have h1:=(hown2.lt k hk).1;have h2:=(HTB.out.kinds.lt k e).2;omega⟩⟩
   clear hown2 hb2 b3 b4 hcc
   go_wp2
   go_loopw [2,3,33] (fun v u t wr=>∃(j:Nat),j≤N∧t=.int .i64 j∧Hid (kE w1 wr v (p.fs.length+j) (ys++(x4++x5).take (j*4)) u (p.fs.length+j) (iH ((p.fs.map fun f=>f.kind)++List.replicate j 1)) (.slice g0 N cap0) N (x4++x5))) (fun _ _ t _=>N-(intOf t).toNat)
   case atStart=>exact⟨0,Nat.zero_le _,rfl,by unfold Hid;simpa using HT2.out⟩
   case round=>
    obtain⟨j,hj,rfl,HJR⟩:=hrel
    by_cases hjl:j<N
    ·obtain⟨op',n',s',es,oo,cc,zs,e,x0,x1,x2,x3,_,_⟩:=HXE.out.at (i:=j) (by rw[List.length_append,←HNN.out];exact hjl)
     obtain⟨gb,hgb⟩:∃gb,g0=some ⟨gb,0,none⟩:=by
      rcases HJR.out.row.2 with⟨_,h0⟩ | ⟨gb,_,_,ev,_⟩
      ·omega
      ·exact⟨gb,by simpa using (Value.slice.inj ev).1⟩
     subst hgb
     have hce:=HJR.out.row.cells (g:=gb) rfl
     have y0:=hce _ _ x0
     have y1:=hce _ _ x1
     have y2:=hce _ _ x2
     have y3:=hce _ _ x3
     rw[Addr.add_lit,Nat.zero_add] at y0 y1 y2 y3
     have i0':(0:Int)≤(j:Int):=by omega
     have i1':(j:Int)<(N:Int):=by omega
     have HT4:Hid (ys++(x4++x5).take ((j+1)*4)=(ys++(x4++x5).take (j*4))++#[.string op',.int .i64 n',.string s',.slice oo es.length cc].toList):=by rw[xI x0 x1 x2 x3,List.append_assoc];rfl
     have HTK:Hid (iH ((p.fs.map fun f=>f.kind)++List.replicate (j+1) 1)=iH ((p.fs.map fun f=>f.kind)++List.replicate j 1)++#[Value.int .i64 1].toList):=by unfold Hid iH;rw[List.replicate_succ'];simp
     have HJ:=aA hjl
     have N4:Hid (wrap64 ((j:Int)+1)=(j:Int)+1):=by have:=HN.out;have:=HNN.out;unfold Hid wrap64;omega
     have HMX:Hid (p.fs.length+j+1≤maxLen∧(p.fs.length+j+1)*64≤140737488355328∧(p.fs.length+j+1)*8≤140737488355328):=by have:=HN.out;have:=HNN.out;unfold Hid maxLen;omega
     clear hce e x0 x1 x2 x3 hj hjl
     obtain⟨w4,hw4⟩:∃w4,w4=wr.alloc (.cells #[.string op',.int .i64 n',.string s',.slice oo es.length cc] 92):=⟨_,rfl⟩
     have hr4:w4.heap[wr.heap.size]?=some (.cells #[.string op',.int .i64 n',.string s',.slice oo es.length cc] 92 (0,0)):=by rw[hw4];exact heap_alloc_new _ _
     have z1:w4.cell? ⟨wr.heap.size,0,none⟩=some (.string op'):=cr hr4 rfl
     have z2:w4.cell? ⟨wr.heap.size,0+1,none⟩=some (.int .i64 n'):=cr hr4 rfl
     have z3:w4.cell? ⟨wr.heap.size,0+2,none⟩=some (.string s'):=cr hr4 rfl
     have z4:w4.cell? ⟨wr.heap.size,0+3,none⟩=some (.slice oo es.length cc):=cr hr4 rfl
     have HT5:Hid (kE w1 (w4.alloc (.cells #[.string op',.int .i64 n',.string s',.slice oo es.length cc] 92)) u2 (p.fs.length+j) (ys++(x4++x5).take (j*4)) u3 (p.fs.length+j) (iH ((p.fs.map fun f=>f.kind)++List.replicate j 1)) (.slice (some ⟨gb,0,none⟩) N cap0) N (x4++x5)):=by rw[hw4];exact(HJR.out.alloc _).alloc _
     have HNW:Hid (∀k x,#[.string op',.int .i64 n',.string s',.slice oo es.length cc].toList[k]?=some x→(w4.alloc (.cells #[.string op',.int .i64 n',.string s',.slice oo es.length cc] 92)).cell? ((⟨w4.heap.size,0,none⟩:Addr).add k)=some x):=World.news_of_block (heap_alloc_new w4 _)
     have HW4:Hid (wr.alloc (.cells #[.string op',.int .i64 n',.string s',.slice oo es.length cc] 92)=w4):=hw4.symm
     clear hw4 hr4
     go_upto_region 10 with fail
     rw[HW4.out]
     clear y0 y1 y2 y3
     go_upto_region 11 with(at_builtin;refine wpList_append_lies _ rfl _ _ 37 rfl w1.heap.size 92 i0 _ 4 64 Tryz.underlying37 hi0 hz0 hz1 hz2 rfl (by omega) u2 (p.fs.length+j) _ rfl HT5.out.two.terms ⟨w4.heap.size,0,none⟩ 1 1 _ rfl rfl HNW.out (by simp [Value.oneCell']) (by omega) HMX.out.1 HMX.out.2.1 HT5.out.two.below.size _ rfl ?_;intro g cap w5 hown5 hgrow5 hat5 hlt5)
     have HT6:=HT5.out.vH hown5 hgrow5 hat5
     have HT7:Hid (kE w1 (w5.alloc (.cells #[.int .i64 1] 3)) (.slice (some ⟨g,0,none⟩) (p.fs.length+j+1) cap) (p.fs.length+j+1) (ys++(x4++x5).take ((j+1)*4)) u3 (p.fs.length+j) (iH ((p.fs.map fun f=>f.kind)++List.replicate j 1)) (.slice (some ⟨gb,0,none⟩) N cap0) N (x4++x5)):=by rw[HT4.out];exact HT6.alloc _
     have HNW5:Hid (∀k x,#[Value.int .i64 1].toList[k]?=some x→(w5.alloc (.cells #[.int .i64 1] 3)).cell? ((⟨w5.heap.size,0,none⟩:Addr).add k)=some x):=World.news_of_block (heap_alloc_new w5 _)
     clear hown5 hgrow5 hat5 hlt5 HT6 z1 z2 z3 z4
     go_wp2_with (at_builtin;refine wpList_append_lies _ rfl _ _ 30 rfl w1.heap.size 3 k0 _ 1 8 Tryz.underlying30 hk0 ky0 ky1 ky2 rfl (by omega) u3 (p.fs.length+j) _ rfl HT7.out.two.kinds ⟨w5.heap.size,0,none⟩ 1 1 _ rfl rfl HNW5.out (by simp [Value.oneCell']) (by omega) HMX.out.1 HMX.out.2.2 HT7.out.two.below.size _ rfl ?_;intro g' cap' w6 hown6 hgrow6 hat6 hlt6)
     have hT8:=HT7.out.vI hown6 hgrow6 hat6
     exact⟨⟨j+1,HJ.out,by rw[N4.out];rfl,by rw[HTK.out];exact hT8⟩,by rw[N4.out];have:=HJ.out;simp [intOf];omega⟩
    ·obtain rfl:j=N:=by omega
     have hxl:(x4++x5).take (j*4)=x4++x5:=List.take_of_length_le (by have:=HXE.out.length;rw[show (p.asserts++p.checks).length=j from by rw[List.length_append];exact HNN.out.symm] at this;omega)
     obtain⟨hterm,hkind,_,hbel⟩:=HJR.out.two
     rw[hxl] at hterm
     have hfin:Bw w wr:=HB1.out.trans (hbel.mono HB1.out.size)
     clear hj hjl
     go_wp2
     try simp only[Exit.inBlock,Exit.then]
     refine bodyPost_ret (results_tmp2 rfl _ _ _) rfl ?_
     refine⟨_,_,_,_,rfl,?_,rX hterm HB1.out.size,HYS.out.1.append HXE.out,?_,hfin⟩
     ·simp [aD,HNN.out]
     ·have:=rX hkind HB1.out.size
      rw[HNN.out] at this ⊢
      exact this
end Go.Proofs.YtmgfakcccfahaaaGreatDoor
