/-
  package plan: newPlanner BY CONTRACT.
-/
import Derived.Test.YtmgfakcccfahaaaGreatDoorN28
namespace Go.Proofs.YtmgfakcccfahaaaGreatDoor
open Go.RowKit Go.Maps
set_option maxRecDepth 100000
set_option maxHeartbeats 4000000

theorem Sep.nil{w:World}{base:Nat}{F:Nat→Prop}(hF:∀b,F b→b<w.heap.size)(hb:base≤w.heap.size):Sep w base F []:=
 ⟨fun i c h=>by simp at h,fun i c q h=>by simp at h,fun i j c d q _ h=>by simp at h,hF,hb⟩
theorem Sep.head{w:World}{base:Nat}{F:Nat→Prop}{l:List Own}(h:Sep w base F l)(c:Own)(his:c.is w)(hb:∀q,c.blk=some q→base≤q∧q<w.heap.size∧¬F q∧∀d∈l,d.blk≠some q):Sep w base F (c::l):=
 Sep.put (l1:=[]) h c his (fun q hq=>⟨(hb q hq).1,(hb q hq).2.1,(hb q hq).2.2.1,fun _ d hi=>(hb q hq).2.2.2 d (List.mem_of_getElem? hi)⟩)
def nX(fs:List Fw)(g:Nat→Int):Nat→List UInt8→Option Int
 | 0=>fun _=>none
 | j+1=>match fs[j]? with
  | some x=>bI (nX fs g j) (x.name,g j)
  | none=>nX fs g j
theorem FH{fs:List Fw}{g:Nat→Int}{j:Nat}{x:Fw}(h:fs[j]?=some x):bI (nX fs g j) (x.name,g j)=nX fs g (j+1):=by
 simp only[nX,h]
def qZ(X B Kp Kl gG:Nat)(fl:List UInt8→Option Int)(v1 v2 v3 v4 v5:Value):aK:=
 { X:=X,B:=B,Kp:=Kp,jB:=0,Kl:=Kl,gG:=gG,fp:=fun _=>none,fl:=fl,v1:=v1,v2:=v2,v3:=v3,v4:=v4,v5:=v5,va:=.slice none 0 0,vc:=.slice none 0 0,vp:=.slice none 0 0,vn:=.slice none 0 0,vi:=.slice none 0 0,vt:=.slice none 0 0,vk:=.slice none 0 0,vo:=.slice none 0 0,ps:=[],ns:=[],is:=[],ts:=[],ks:=[],os:=[] }
theorem LK{w0 w:World}{X B Kp Kl:Nat}{v1 v2 v3 v4 v5:Value}(hX:w.heap[X]?=some (.cells #[v1,v2,v3,v4,v5,.pointer (some ⟨B,0,none⟩),.map (some Kp),.map (some Kl),.slice none 0 0] 240 (0,0)))(hB:w.heap[B]?=some (.cells #[.slice none 0 0,.slice none 0 0,.slice none 0 0,.slice none 0 0,.slice none 0 0,.slice none 0 0,.slice none 0 0] 183 (0,0)))(hKp:aO w Kp 0 jJ)(hKl:aO w Kl 0 jJ)(h1:w0.heap.size≤X∧w0.heap.size≤B∧w0.heap.size≤Kp∧w0.heap.size≤Kl)(h2:X≠B∧X≠Kp∧X≠Kl∧B≠Kp∧B≠Kl∧Kp≠Kl)(hb:Bw w0 w):aG w0 (fun _=>False) [] (qZ X B Kp Kl 0 (fun _=>none) v1 v2 v3 v4 v5) w:=by
 have hn:∀(e:TypeId) (size:Nat),(dH w0.heap.size e size (.slice none 0 0) 0 []).is w:=fun e size=>World.ownsRow_nil _ _ _ _
 have hq:∀(e:TypeId) (size q:Nat),(dH w0.heap.size e size (.slice none 0 0) 0 []).blk≠some q:=fun e size q h=>by simp [dH,Value.ownBlock] at h
 refine⟨?_,fun p hp=>by simp [qZ] at hp,hb⟩
 have s0:Sep w w0.heap.size (fun _=>False) []:=Sep.nil (fun _ h=>h.elim) hb.size
 have s1:=s0.head (dH w0.heap.size 3 1 (.slice none 0 0) 0 []) (hn _ _) (fun q h=>absurd h (hq _ _ q))
 have s2:=s1.head (dH w0.heap.size 3 1 (.slice none 0 0) 0 []) (hn _ _) (fun q h=>absurd h (hq _ _ q))
 have s3:=s2.head (dH w0.heap.size 3 1 (.slice none 0 0) 0 []) (hn _ _) (fun q h=>absurd h (hq _ _ q))
 have s4:=s3.head (dH w0.heap.size 3 1 (.slice none 0 0) 0 []) (hn _ _) (fun q h=>absurd h (hq _ _ q))
 have s5:=s4.head (dH w0.heap.size 9 1 (.slice none 0 0) 0 []) (hn _ _) (fun q h=>absurd h (hq _ _ q))
 have s6:=s5.head (dH w0.heap.size 185 6 (.slice none 0 0) 0 []) (hn _ _) (fun q h=>absurd h (hq _ _ q))
 have hr:∀{d:Own},d∈[dH w0.heap.size 185 6 (.slice none 0 0) 0 [],dH w0.heap.size 9 1 (.slice none 0 0) 0 [],dH w0.heap.size 3 1 (.slice none 0 0) 0 [],dH w0.heap.size 3 1 (.slice none 0 0) 0 [],dH w0.heap.size 3 1 (.slice none 0 0) 0 [],dH w0.heap.size 3 1 (.slice none 0 0) 0 []]→∀q,d.blk≠some q:=fun {d} hd q=>by
  simp only[List.mem_cons,List.not_mem_nil,or_false] at hd
  rcases hd with rfl | rfl | rfl | rfl | rfl | rfl<;>exact hq _ _ q
 have s7:=s6.head (lF Kl 0 (aY fun _=>none)) (by rw[uR];exact hKl) (fun q h=>by
  obtain rfl:Kl=q:=Option.some.inj h
  exact⟨h1.2.2.2,hKl.lt,id,fun d hd=>hr hd _⟩)
 have s8:=s7.head (lF Kp 0 (aY fun _=>none)) (by rw[uR];exact hKp) (fun q h=>by
  obtain rfl:Kp=q:=Option.some.inj h
  refine⟨h1.2.2.1,hKp.lt,id,fun d hd=>?_⟩
  rcases List.mem_cons.1 hd with rfl | hd
  ·exact fun e=>h2.2.2.2.2.2 (Option.some.inj e).symm
  ·exact hr hd _)
 have s9:=s8.head (aP B (.cells #[.slice none 0 0,.slice none 0 0,.slice none 0 0,.slice none 0 0,.slice none 0 0,.slice none 0 0,.slice none 0 0] 183 (0,0))) hB (fun q h=>by
  obtain rfl:B=q:=Option.some.inj h
  refine⟨h1.2.1,(bN hB).1,id,fun d hd=>?_⟩
  rcases List.mem_cons.1 hd with rfl | hd
  ·exact fun e=>h2.2.2.2.1 (Option.some.inj e).symm
  rcases List.mem_cons.1 hd with rfl | hd
  ·exact fun e=>h2.2.2.2.2.1 (Option.some.inj e).symm
  ·exact hr hd _)
 exact s9.head (aP X (.cells #[v1,v2,v3,v4,v5,.pointer (some ⟨B,0,none⟩),.map (some Kp),.map (some Kl),.slice none 0 0] 240 (0,0))) hX (fun q h=>by
  obtain rfl:X=q:=Option.some.inj h
  refine⟨h1.1,(bN hX).1,id,fun d hd=>?_⟩
  rcases List.mem_cons.1 hd with rfl | hd
  ·exact fun e=>h2.1 (Option.some.inj e).symm
  rcases List.mem_cons.1 hd with rfl | hd
  ·exact fun e=>h2.2.1 (Option.some.inj e).symm
  rcases List.mem_cons.1 hd with rfl | hd
  ·exact fun e=>h2.2.2.1 (Option.some.inj e).symm
  ·exact hr hd _)
theorem aG.CP{w0 w:World}{F:Nat→Prop}{ex:List Own}{d:aK}(h:aG w0 F ex d w):w.cell? ⟨d.X,0+7,none⟩=some (.map (some d.Kl)):=cr h.xb rfl
theorem aG.Oa{w0 w w':World}{F:Nat→Prop}{ex:List Own}{d:aK}(h:aG w0 F ex d w){s:ByteArray}{k:Int}(hf:aO w' d.Kl (d.gG+1) (aY (bI d.fl (s,k))))(hg:w.grownBy w' (some d.Kl)):aG w0 F ex { d with fl:=bI d.fl (s,k),gG:=d.gG+1 } w':=by
 have hs:=h.sep.step (i:=3) (c:=lF d.Kl d.gG (aY d.fl)) (c':=lF d.Kl (d.gG+1) (aY (bI d.fl (s,k)))) rfl hg hf (fun q hq=>.inl hq)
 exact⟨hs,h.aF.keep (h.sep.stays (i:=3) (c:=lF d.Kl d.gG (aY d.fl)) rfl hg),h.sep.below (i:=3) (c:=lF d.Kl d.gG (aY d.fl)) rfl hg h.below⟩
theorem Nk(w:World)(S:Nat→Prop)(p:Pg)(v1 v2:Value)(o3 o4 o5:Option Addr)(c3 c4 c5:Nat)(hp:iY w S p v1 v2 (.slice o3 p.fs.length c3) (.slice o4 p.asserts.length c4) (.slice o5 p.checks.length c5))(o1 o2:Option Addr)(c1 c2:Nat)(hok:nN p)(nb:Nat)(g:Nat→Int)(hw:dV w nb p.fs.length g) :
  Calls Tryz.prog 142 #[.agg #[.slice o1 p.ins.length c1,.slice o2 p.outs.length c2,.slice o3 p.fs.length c3,.slice o4 p.asserts.length c4,.slice o5 p.checks.length c5],.slice (some ⟨nb,0,none⟩) p.fs.length p.fs.length] w fun e w'=>∃X B Kp Kl gG,e=.returned (.pointer (some ⟨X,0,none⟩))∧aG w (fun _=>False) [] (qZ X B Kp Kl gG (nX p.fs g p.fs.length) (.slice o1 p.ins.length c1) (.slice o2 p.outs.length c2) (.slice o3 p.fs.length c3) (.slice o4 p.asserts.length c4) (.slice o5 p.checks.length c5)) w':=by
 have hmm:=@run_makeMap Tryz.prog
 obtain⟨_,_,⟨xs,hfr,hfi⟩,_,_⟩:=hp
 obtain⟨w1,hw1⟩:∃w1,w1=w.alloc (.cells #[.slice o1 p.ins.length c1,.slice o2 p.outs.length c2,.slice o3 p.fs.length c3,.slice o4 p.asserts.length c4,.slice o5 p.checks.length c5] 39):=⟨_,rfl⟩
 obtain⟨w2,hw2⟩:∃w2,w2=w1.alloc (.cells #[.slice none 0 0,.slice none 0 0,.slice none 0 0,.slice none 0 0,.slice none 0 0,.slice none 0 0,.slice none 0 0] 183):=⟨_,rfl⟩
 obtain⟨w3,hw3⟩:∃w3,w3=w2.alloc (.map #[] 0):=⟨_,rfl⟩
 obtain⟨w4,hw4⟩:∃w4,w4=w3.alloc (.map #[] 0):=⟨_,rfl⟩
 have z1:w1.heap.size=w.heap.size+1:=by rw[hw1];simp
 have z2:w2.heap.size=w.heap.size+1+1:=by rw[hw2];simp [z1]
 have z3:w3.heap.size=w.heap.size+1+1+1:=by rw[hw3];simp [z2]
 have z4:w4.heap.size=w.heap.size+1+1+1+1:=by rw[hw4];simp [z3]
 obtain⟨B,hB⟩:∃B,B=w.heap.size+1:=⟨_,rfl⟩
 obtain⟨Kp,hKp⟩:∃B,B=w.heap.size+1+1:=⟨_,rfl⟩
 obtain⟨Kl,hKl⟩:∃B,B=w.heap.size+1+1+1:=⟨_,rfl⟩
 obtain⟨X,hX⟩:∃B,B=w.heap.size+1+1+1+1:=⟨_,rfl⟩
 obtain⟨w5,hw5⟩:∃w5,w5=w4.alloc (.cells #[.slice o1 p.ins.length c1,.slice o2 p.outs.length c2,.slice o3 p.fs.length c3,.slice o4 p.asserts.length c4,.slice o5 p.checks.length c5,.pointer (some ⟨B,0,none⟩),.map (some Kp),.map (some Kl),.slice none 0 0] 240):=⟨_,rfl⟩
 have b1:Bw w w1:=by rw[hw1];exact aH
 have b2:Bw w1 w2:=by rw[hw2];exact aH
 have b3:Bw w2 w3:=by rw[hw3];exact aH
 have b4:Bw w3 w4:=by rw[hw4];exact aH
 have b5:Bw w4 w5:=by rw[hw5];exact aH
 have b45:=b4.trans (b5.mono b4.size)
 have b35:=b3.trans (b45.mono b3.size)
 have b25:=b2.trans (b35.mono b2.size)
 have b15:=b1.trans (b25.mono b1.size)
 have HP0:Hid (aG w (fun _=>False) [] (qZ X B Kp Kl 0 (fun _=>none) (.slice o1 p.ins.length c1) (.slice o2 p.outs.length c2) (.slice o3 p.fs.length c3) (.slice o4 p.asserts.length c4) (.slice o5 p.checks.length c5)) w5):=by
  refine LK ?_ ?_ ?_ ?_ ⟨by omega,by omega,by omega,by omega⟩ ⟨by omega,by omega,by omega,by omega,by omega,by omega⟩ b15
  ·rw[hw5,hX,←z4];exact heap_alloc_new _ _
  ·exact aN b35 (by rw[hw2,hB,←z1];exact heap_alloc_new _ _)
  ·have hf:aO w3 Kp 0 jJ:=by rw[hw3,hKp,←z2];exact aO.made w2
   exact hf.kept (b45.block _ hf.lt)
  ·have hf:aO w4 Kl 0 jJ:=by rw[hw4,hKl,←z3];exact aO.made w3
   exact hf.kept (b5.block _ hf.lt)
 obtain⟨P0,hP0⟩:∃P0,P0=w.heap.size:=⟨_,rfl⟩
 have hr1:w1.heap[P0]?=some (.cells #[.slice o1 p.ins.length c1,.slice o2 p.outs.length c2,.slice o3 p.fs.length c3,.slice o4 p.asserts.length c4,.slice o5 p.checks.length c5] 39 (0,0)):=by rw[hw1,hP0];exact heap_alloc_new _ _
 have f0:w1.cell? ⟨P0,0,none⟩=some (.slice o1 p.ins.length c1):=cr hr1 rfl
 have f1:w1.cell? ⟨P0,0+1,none⟩=some (.slice o2 p.outs.length c2):=cr hr1 rfl
 have f2:w1.cell? ⟨P0,0+2,none⟩=some (.slice o3 p.fs.length c3):=cr hr1 rfl
 have f3:w1.cell? ⟨P0,0+3,none⟩=some (.slice o4 p.asserts.length c4):=cr hr1 rfl
 have f4:w1.cell? ⟨P0,0+4,none⟩=some (.slice o5 p.checks.length c5):=cr hr1 rfl
 have f5:w5.cell? ⟨P0,0+2,none⟩=some (.slice o3 p.fs.length c3):=aD b25 f2
 have HF5:Hid (w5.cell? ⟨P0,0+2,none⟩=some (.slice o3 p.fs.length c3)):=f5
 have HWS:Hid (w.alloc (.cells #[.slice o1 p.ins.length c1,.slice o2 p.outs.length c2,.slice o3 p.fs.length c3,.slice o4 p.asserts.length c4,.slice o5 p.checks.length c5] 39)=w1∧w.heap.size=P0):=⟨hw1.symm,hP0.symm⟩
 have HWT:Hid (w1.alloc (.cells #[.slice none 0 0,.slice none 0 0,.slice none 0 0,.slice none 0 0,.slice none 0 0,.slice none 0 0,.slice none 0 0] 183)=w2∧w2.alloc (.map #[] 0)=w3∧w3.alloc (.map #[] 0)=w4∧w4.alloc (.cells #[.slice o1 p.ins.length c1,.slice o2 p.outs.length c2,.slice o3 p.fs.length c3,.slice o4 p.asserts.length c4,.slice o5 p.checks.length c5,.pointer (some ⟨B,0,none⟩),.map (some Kp),.map (some Kl),.slice none 0 0] 240)=w5∧w1.heap.size=B∧w1.heap.size+1=Kp∧w1.heap.size+1+1=Kl∧w1.heap.size+1+1+1=X):=⟨hw2.symm,hw3.symm,hw4.symm,hw5.symm,by omega,by omega,by omega,by omega⟩
 have HFR:=aA hfr
 have HFI:=aA hfi
 have HOK:Hid (nN p∧p.fs.length≤1000):=⟨hok,by have:=hok.vars;omega⟩
 have HWT0:=aA hw
 clear hfr hfi hok hw hw1 hw2 hw3 hw4 hw5 z1 z2 z3 z4 hB hKp hKl hX b1 b2 b3 b4 b5 b45 b35 b25 b15 hP0 hr1 f5
 go_enter Tryz.func142,Tryz.ntmps142
 go_upto_region 1 with fail
 rw[HWS.out.1,HWS.out.2]
 go_upto_region 2 with fail
 rw[HWT.out.2.2.2.2.2.2.2,HWT.out.2.2.2.2.2.2.1,HWT.out.2.2.2.2.2.1,HWT.out.2.2.2.2.1,HWT.out.1,HWT.out.2.1,HWT.out.2.2.1,HWT.out.2.2.2.1]
 have f5:=HF5.out
 clear f0 f1 f2 f3 f4 hmm
 go_wp2
 clear f5
 go_loopw [18] (fun t wr=>∃(j gG:Nat),j≤p.fs.length∧t=.int .i64 j∧Hid (aG w (fun _=>False) [] (qZ X B Kp Kl gG (nX p.fs g j) (.slice o1 p.ins.length c1) (.slice o2 p.outs.length c2) (.slice o3 p.fs.length c3) (.slice o4 p.asserts.length c4) (.slice o5 p.checks.length c5)) wr∧gG≤j)) (fun t _=>p.fs.length-(intOf t).toNat)
 case atStart=>exact⟨0,0,Nat.zero_le _,rfl,HP0.out,Nat.le_refl _⟩
 case round=>
  obtain⟨j,gG,hj,rfl,HR⟩:=hrel
  by_cases hjl:j<p.fs.length
  ·obtain⟨name,kind,op',n',s',es,oo,cc,zs,e,x0,x1,x2,x3,x4,x5,_,_⟩:=HFI.out.at hjl
   obtain⟨b,off,cp,ev,_,_,gg⟩:=HFR.out.at (by have:=HFR.out.1;omega)
   obtain⟨rfl,rfl⟩:o3=some ⟨b,off,none⟩∧c3=cp:=by simpa using ev
   have hbr:=HR.out.1.below
   have y0:=aD hbr (gg _ _ x0)
   have y1:=aD hbr (gg _ _ x1)
   have y2:=aD hbr (gg _ _ x2)
   have y3:=aD hbr (gg _ _ x3)
   have y4:=aD hbr (gg _ _ x4)
   have y5:=aD hbr (gg _ _ x5)
   rw[←Nat.add_assoc] at y1 y2 y3 y4 y5
   have i0':(0:Int)≤(j:Int):=by omega
   have i1':(j:Int)<(p.fs.length:Int):=by omega
   have ej:p.fs[j]?=some ⟨name,kind,.mk op' n' s' es⟩:=by rw[List.getElem?_eq_getElem hjl,e]
   have hsn:name.size≤maxLen:=HOK.out.1.names (name,kind) (by unfold aT gL;exact List.mem_append_right _ (List.mem_map.2 ⟨_,List.mem_of_getElem? ej,rfl⟩))
   obtain⟨w6,hw6⟩:∃w6,w6=wr.alloc (.cells #[.string name,.int .i64 kind,.string op',.int .i64 n',.string s',.slice oo es.length cc] 95):=⟨_,rfl⟩
   have hb6:Bw wr w6:=by rw[hw6];exact aH
   obtain⟨B7,hB7⟩:∃B7,B7=wr.heap.size:=⟨_,rfl⟩
   have hr6:w6.heap[B7]?=some (.cells #[.string name,.int .i64 kind,.string op',.int .i64 n',.string s',.slice oo es.length cc] 95 (0,0)):=by rw[hw6,hB7];exact heap_alloc_new _ _
   have hP6:=(HR.out.1.keep hb6).keep (Below.refl _ _).drew
   have z0:w6.drew.cell? ⟨B7,0,none⟩=some (.string name):=by rw[cell_of_row w6.drew _ _ _ _ (0,0) (show w6.drew.heap[B7]?=_ from hr6)];rfl
   have z7:w6.drew.cell? ⟨X,0+7,none⟩=some (.map (some Kl)):=hP6.CP
   have zn:w6.drew.cell? ⟨nb,j,none⟩=some (.int .i64 (g j)):=by
    have h1:=aD (hbr.trans (hb6.mono hbr.size)) (HWT0.out.cell hjl)
    exact h1
   have hfn:aO w6.drew Kl gG (aY (nX p.fs g j)):=hP6.sep.is 3 _ rfl
   obtain⟨w7,hup,hfn7,hgr7⟩:=hfn.put Tryz.underlying96 (by have:=HOK.out.2;have:=HR.out.2;unfold maxLen;omega) name hsn (.int .i64 (g j))
   rw[qJ _ (name,g j)] at hfn7
   have HNX:Hid (aG w (fun _=>False) [] (qZ X B Kp Kl (gG+1) (nX p.fs g (j+1)) (.slice o1 p.ins.length c1) (.slice o2 p.outs.length c2) (.slice (some ⟨b,off,none⟩) p.fs.length c3) (.slice o4 p.asserts.length c4) (.slice o5 p.checks.length c5)) w7∧gG+1≤j+1):=by
    refine⟨?_,by have:=HR.out.2;omega⟩
    have:=hP6.Oa (s:=name) (k:=g j) hfn7 hgr7
    rw[←FH ej]
    exact this
   have HJ:=aA hjl
   have N4:Hid (wrap64 ((j:Int)+1)=(j:Int)+1):=by have:=HOK.out.2;have:=HJ.out;unfold Hid wrap64;omega
   have HW6:Hid (wr.alloc (.cells #[.string name,.int .i64 kind,.string op',.int .i64 n',.string s',.slice oo es.length cc] 95)=w6∧wr.heap.size=B7):=⟨hw6.symm,hB7.symm⟩
   have HKN:Hid (Kl≠X∧Kl≠B7):=⟨fun e=>hP6.ne (i:=3) (j:=0) (by decide) rfl rfl (q:=X) (by show some Kl=some X;rw[e]) rfl,by have:=(HR.out.1.sep.lt 3 _ Kl rfl rfl).2.1;omega⟩
   have HZ:Hid (w7.cell? ⟨X,0+7,none⟩=some (.map (some Kl))∧w7.cell? ⟨B7,0,none⟩=some (.string name)∧w7.cell? ⟨nb,j,none⟩=some (.int .i64 (g j))):=by
    have hb7:=HNX.out.1.below
    refine⟨HNX.out.1.CP,?_,aD hb7 (HWT0.out.cell HJ.out)⟩
    have h1:=gT hgr7 (fun e=>HKN.out.2 (Option.some.inj e)) (show w6.drew.heap[B7]?=_ from hr6)
    rw[cell_of_row w7 _ _ _ _ (0,0) h1];rfl
   clear hbr gg ev x0 x1 x2 x3 x4 x5 e ej hsn hw6 hb6 hB7 hr6 hP6 hfn hfn7 hgr7 hj hjl HR
   go_upto_region 5 with fail
   rw[HW6.out.1,HW6.out.2]
   clear y0 y1 y2 y3 y4 y5
   refine fI 10 (fun w'=>w'.cell? ⟨X,0+7,none⟩=some (.map (some Kl))∧w'.cell? ⟨B7,0,none⟩=some (.string name)∧w'.cell? ⟨nb,j,none⟩=some (.int .i64 (g j))) (fun _=>True) (by kernel_rfl) ⟨z7,z0,zn⟩ trivial (fun hh=>?_)
   refine tj 0 23 (.pointer (some ⟨X,0,none⟩)) rfl (by rintro w ⟨b0,b1,b2⟩;go_simp) hh ?_
   refine tj 1 24 (.pointer (some ⟨X,0,none⟩)) rfl (by rintro w ⟨b0,b1,b2⟩;go_simp) hh ?_
   refine tj 2 25 (.pointer (some ⟨X,7,none⟩)) rfl (by rintro w ⟨b0,b1,b2⟩;go_simp) hh ?_
   refine tj 3 26 (.map (some Kl)) rfl (by rintro w ⟨b0,b1,b2⟩;go_simp) hh ?_
   refine tj 4 27 (.pointer (some ⟨B7,0,none⟩)) rfl (by rintro w ⟨b0,b1,b2⟩;go_simp) hh ?_
   refine tj 5 28 (.string name) rfl (by rintro w ⟨b0,b1,b2⟩;go_simp) hh ?_
   refine tj 6 29 (.slice (some ⟨nb,0,none⟩) p.fs.length p.fs.length) rfl (by rintro w ⟨b0,b1,b2⟩;go_simp) hh ?_
   refine tj 7 30 (.int .i64 (j:Int)) rfl (by rintro w ⟨b0,b1,b2⟩;go_simp) hh ?_
   refine tj 8 31 (.pointer (some ⟨nb,j,none⟩)) rfl (by rintro w ⟨b0,b1,b2⟩;go_simp) hh ?_
   refine tj 9 32 (.int .i64 (g j)) rfl (by rintro w ⟨b0,b1,b2⟩;go_simp) hh ?_
   refine aS 10 none rfl fun K hK=>?_
   go_simp
   refine hK.out _ _ (Till.last HZ.out) (fun hh=>?_)
   clear hK K
   try simp only[tp]
   refine dU (by kernel_rfl) ?_ _
   clear z0 z7 zn hup hh
   go_wp2
   exact⟨⟨j+1,gG+1,HJ.out,by rw[N4.out];rfl,HNX.out⟩,by rw[N4.out];have:=HJ.out;simp [intOf];omega⟩
  ·obtain rfl:p.fs.length=j:=by omega
   have HE:Hid (aG w (fun _=>False) [] (qZ X B Kp Kl gG (nX p.fs g p.fs.length) (.slice o1 p.ins.length c1) (.slice o2 p.outs.length c2) (.slice o3 p.fs.length c3) (.slice o4 p.asserts.length c4) (.slice o5 p.checks.length c5)) wr):=HR.out.1
   clear hj hjl HR
   go_wp2
   go_ret
   exact⟨X,B,Kp,Kl,gG,rfl,HE.out⟩
theorem aG.place{w0 w w':World}{F:Nat→Prop}{ex:List Own}{d:aK}(h:aG w0 F ex d w){s:ByteArray}{k:Int}(hf:aO w' d.Kp (d.jB+1) (aY (bI d.fp (s,k))))(hg:w.grownBy w' (some d.Kp)):aG w0 F ex { d with fp:=bI d.fp (s,k),jB:=d.jB+1 } w'∧aJ F F w w':=by
 have hs:=h.sep.step (i:=2) (c:=lF d.Kp d.jB (aY d.fp)) (c':=lF d.Kp (d.jB+1) (aY (bI d.fp (s,k)))) rfl hg hf (fun q hq=>.inl hq)
 have hst:=h.sep.stays (i:=2) (c:=lF d.Kp d.jB (aY d.fp)) rfl hg
 exact⟨⟨hs,h.aF.keep hst,h.sep.below (i:=2) (c:=lF d.Kp d.jB (aY d.fp)) rfl hg h.below⟩,hst⟩
theorem aG.vI{w0 w:World}{F:Nat→Prop}{ex:List Own}{d:aK}(h:aG w0 F ex d w):aO w d.Kp d.jB (aY d.fp):=h.sep.is 2 _ rfl
theorem aG.tQ{w0 w:World}{F:Nat→Prop}{ex:List Own}{d:aK}(h:aG w0 F ex d w):w.cell? ⟨d.X,0+6,none⟩=some (.map (some d.Kp)):=cr h.xb rfl
theorem aG.Ga{w0 w:World}{F:Nat→Prop}{ex:List Own}{d:aK}(h:aG w0 F ex d w):w.ownsRow w0.heap.size 3 1 d.vi d.is.length (aX d.is):=h.sep.is 6 _ rfl
theorem aK.L8(d:aK)(base:Nat)(ex:List Own)(x:Nat)(v:Value):((d.own base++ex).set 6 (dH base 3 1 v (d.is.length+1) (aX d.is++[.int .i64 (x:Int)]))).set 1 (aP d.B (.cells (#[d.vp,d.vi,d.vt,d.vk,d.vo,d.va,d.vc].setIfInBounds 1 v) 183 (0,0)))={ d with vi:=v,is:=d.is++[x] }.own base++ex:=by
 simp only[aK.own,List.length_append,List.length_singleton,Af]
 rfl
theorem aG.input{w0 w w':World}{F:Nat→Prop}{ex:List Own}{d:aK}(h:aG w0 F ex d w){x g cap:Nat}(ho:w'.ownsRow w0.heap.size 3 1 (.slice (some ⟨g,0,none⟩) (d.is.length+1) cap) (d.is.length+1) (aX d.is++[.int .i64 (x:Int)]))(hg:w.grownBy w' d.vi.ownBlock)(ha:d.vi.ownBlock=some g∨g=w.heap.size):aG w0 F ex { d with vi:=.slice (some ⟨g,0,none⟩) (d.is.length+1) cap,is:=d.is++[x] } (w'.setCell ⟨d.B,1,none⟩ (.slice (some ⟨g,0,none⟩) (d.is.length+1) cap))∧aJ F F w (w'.setCell ⟨d.B,1,none⟩ (.slice (some ⟨g,0,none⟩) (d.is.length+1) cap))∧w.heap.size≤(w'.setCell ⟨d.B,1,none⟩ (.slice (some ⟨g,0,none⟩) (d.is.length+1) cap)).heap.size:=by
 have h4:=h.sep.grow (i:=6) rfl ho hg ha
 have h5:=h4.set (i:=1) (b:=d.B) rfl 1 (.slice (some ⟨g,0,none⟩) (d.is.length+1) cap)
 rw[aK.L8] at h5
 have hs1:=h.sep.stays (i:=6) rfl hg
 have hs2:=h4.stays (i:=1) (c:=aP d.B d.bo) rfl (bW w' d.B 1 (.slice (some ⟨g,0,none⟩) (d.is.length+1) cap))
 exact⟨⟨h5,(h.aF.keep hs1).keep hs2,h4.below (i:=1) (c:=aP d.B d.bo) rfl (bW w' d.B 1 _) (h.sep.below (i:=6) rfl hg h.below)⟩,hs1.trans hs2 hg.size,by rw[size_setCell];exact hg.size⟩
theorem aG.told{w0 w:World}{F:Nat→Prop}{ex:List Own}{d:aK}(h:aG w0 F ex d w)(v:Value):(aG w0 F ex { d with va:=v } (w.setCell ⟨d.B,5,none⟩ v)∧aJ F F w (w.setCell ⟨d.B,5,none⟩ v))∧aG w0 F ex { d with vc:=v } (w.setCell ⟨d.B,6,none⟩ v)∧aJ F F w (w.setCell ⟨d.B,6,none⟩ v):=by
 have s1:=h.sep.stays (i:=1) (c:=aP d.B d.bo) rfl (bW w d.B 5 v)
 have s2:=h.sep.stays (i:=1) (c:=aP d.B d.bo) rfl (bW w d.B 6 v)
 exact⟨⟨⟨h.sep.set (i:=1) (b:=d.B) rfl 5 v,h.aF.keep s1,h.sep.below (i:=1) (c:=aP d.B d.bo) rfl (bW w d.B 5 v) h.below⟩,s1⟩,⟨h.sep.set (i:=1) (b:=d.B) rfl 6 v,h.aF.keep s2,h.sep.below (i:=1) (c:=aP d.B d.bo) rfl (bW w d.B 6 v) h.below⟩,s2⟩
def lK:ByteArray:=⟨#[105,110,112,117,116]⟩
def mP:Pq:=⟨lK,0,[],0,0,false⟩
def inT:aW:=⟨lK,0,[],none,0,0,0,false⟩
def fH(ins:List Ex):Nat→List UInt8→Option Int
 | 0=>fun _=>none
 | j+1=>match ins[j]? with
  | some x=>bI (fH ins j) (x.op,(j:Int))
  | none=>fH ins j
theorem Gb{ins:List Ex}{j:Nat}{x:Ex}(h:ins[j]?=some x):bI (fH ins j) (x.op,(j:Int))=fH ins (j+1):=by
 simp only[fH,h]
structure rT(d d':aK):Prop where
 X:d'.X=d.X
 B:d'.B=d.B
 Kp:d'.Kp=d.Kp
 fl:d'.fl=d.fl
 v1:d'.v1=d.v1
 v2:d'.v2=d.v2
 v3:d'.v3=d.v3
 v4:d'.v4=d.v4
 v5:d'.v5=d.v5
 ts:d'.ts=d.ts
 os:d'.os=d.os
def eB(fl:List UInt8→Option Int):List Fw→Pm×(List UInt8→Option Int)→Pm×(List UInt8→Option Int)
 | [],s=>s
 | x::l,s=>eB fl l ((bY fl x.e s.1).1,bI s.2 (x.name,((bY fl x.e s.1).2:Nat)))
theorem EK{fl:List UInt8→Option Int}:∀{l:List Fw} {j:Nat} {x:Fw} {s:Pm×(List UInt8→Option Int)},l[j]?=some x→eB fl (l.take (j+1)) s=((bY fl x.e (eB fl (l.take j) s).1).1,bI (eB fl (l.take j) s).2 (x.name,((bY fl x.e (eB fl (l.take j) s).1).2:Nat)))
 | [],j,x,s,h=>by simp at h
 | y::l,0,x,s,h=>by
  obtain rfl:y=x:=by simpa using h
  simp [eB]
 | y::l,j+1,x,s,h=>by
  have:=EK (fl:=fl) (l:=l) (j:=j) (x:=x) (s:=((bY fl y.e s.1).1,bI s.2 (y.name,((bY fl y.e s.1).2:Nat)))) (by simpa using h)
  simp only[List.take_succ_cons,eB]
  exact this
end Go.Proofs.YtmgfakcccfahaaaGreatDoor
