/-
  lustrumref1.FlatError BY CONTRACT: what is wrong with a flat program, in the document's words.
-/
import Derived.Test.YtmgfakcccfahaaaGreatDoorN37
namespace Go.Proofs.YtmgfakcccfahaaaGreatDoor
open Go.RowKit
set_option maxRecDepth 100000
set_option maxHeartbeats 8000000

theorem Mk{l:List (ByteArray×Int)}{i:Nat}{v:ByteArray×Int}{g:List UInt8→Option Int}(hi:l[i]?=some v)(hg:bA (fun _=>none) (l.take i)=some g)(hb:fI g v=true):bA (fun _=>none) l=none:=by
 refine yU (i:=i+1) ?_
 rw[vN hi hg,if_pos hb]
theorem Lm(l:List Ex)(k:Nat):(gU l).take k=gU (l.take k):=by simp [gU,List.map_take]
theorem FP(p:Pg):(aK p).drop p.ins.length=dD p.fs:=by
 unfold aK
 rw[List.drop_append_of_le_length (by simp [gX])]
 rw[List.drop_of_length_le (by simp [gX]),List.nil_append]
theorem Nq(w:World)(S:Nat→Prop)(p:Pg)(o1 o2 o3 o4 o5:Option Addr)(c1 c2 c3 c4 c5:Nat)(h:fE w S p (.slice o1 p.ins.length c1) (.slice o2 p.outs.length c2) (.slice o3 p.fs.length c3) (.slice o4 p.asserts.length c4) (.slice o5 p.checks.length c5))(hok:lN p) :
  Calls Tryz.prog 42 #[.agg #[.slice o1 p.ins.length c1,.slice o2 p.outs.length c2,.slice o3 p.fs.length c3,.slice o4 p.asserts.length c4,.slice o5 p.checks.length c5]] w fun e w'=>e=.returned (.int .i64 (dL (aQ p)))∧Bw w w':=by
 have hT:(aD p).length≤2097152:=by have:=hok.terms;unfold aD;simp;omega
 obtain⟨I,hI⟩:∃I,I=p.ins.length:=⟨_,rfl⟩
 obtain⟨N,hN⟩:∃N,N=p.fs.length:=⟨_,rfl⟩
 obtain⟨O,hO⟩:∃O,O=p.outs.length:=⟨_,rfl⟩
 obtain⟨T,hTT⟩:∃T,T=(aD p).length:=⟨_,rfl⟩
 obtain⟨w1,hw1⟩:∃w1,w1=w.alloc (.cells #[.slice o1 I c1,.slice o2 O c2,.slice o3 N c3,.slice o4 p.asserts.length c4,.slice o5 p.checks.length c5] 27):=⟨_,rfl⟩
 obtain⟨B,hB⟩:∃B,B=w.heap.size:=⟨_,rfl⟩
 have hb1:Bw w w1:=by rw[hw1];exact aH
 have hr1:w1.heap[B]?=some (.cells #[.slice o1 I c1,.slice o2 O c2,.slice o3 N c3,.slice o4 p.asserts.length c4,.slice o5 p.checks.length c5] 27 (0,0)):=by rw[hw1,hB];exact heap_alloc_new _ _
 have HC:Hid (∀W,Bw w1 W→W.cell? ⟨B,0,none⟩=some (.slice o1 I c1)∧W.cell? ⟨B,0+1,none⟩=some (.slice o2 O c2)∧W.cell? ⟨B,0+2,none⟩=some (.slice o3 N c3)∧W.cell? ⟨B,0+3,none⟩=some (.slice o4 p.asserts.length c4)∧W.cell? ⟨B,0+4,none⟩=some (.slice o5 p.checks.length c5)):=fun W hW=>by
  have hr:=aG hW hr1
  refine⟨?_,?_,?_,?_,?_⟩<;>(rw[cell_of_row W _ _ _ _ (0,0) hr];rfl)
 have HPK:Hid (∀W,Bw w1 W→fE W (fun _=>True) p (.slice o1 p.ins.length c1) (.slice o2 p.outs.length c2) (.slice o3 p.fs.length c3) (.slice o4 p.asserts.length c4) (.slice o5 p.checks.length c5)):=fun W hW=>h.keep (fun b _ hl=>⟨trivial,(hb1.trans (hW.mono hb1.size)).block b hl⟩)
 obtain⟨x3,h3,g3⟩:=(HPK.out w1 (Below.refl _ _)).fs
 have HPF:Hid (aB w1 (fun _=>True) 6 (.slice o3 N c3) N x3∧cB w1 (fun _=>True) p.fs x3):=⟨by rw[hN];exact h3,g3⟩
 clear h3 g3
 have HVO:Hid (Calls Tryz.prog 84 #[.agg #[.slice o1 I c1,.slice o2 O c2,.slice o3 N c3,.slice o4 p.asserts.length c4,.slice o5 p.checks.length c5]] w1 fun e w'=>∃so sc,e=.returned (.slice so (I+N) sc)∧aB w' (fun _=>True) 2 (.slice so (I+N) sc) (I+N) (bB (aK p))∧Bw w1 w'∧((so=none∧sc=0∧I+N=0)∨∃g,so=some ⟨g,0,none⟩)):=by
  rw[hI,hN,hO]
  exact FR w1 (fun _=>True) p o1 o2 o3 o4 o5 c1 c2 c3 c4 c5 (HPK.out w1 (Below.refl _ _)) (by have:=hok.vars;omega)
 have HTM:Hid (∀W,Bw w1 W→Calls Tryz.prog 32 #[.agg #[.slice o1 I c1,.slice o2 O c2,.slice o3 N c3,.slice o4 p.asserts.length c4,.slice o5 p.checks.length c5]] W fun e w'=>∃so sc xs,e=.returned (.slice so T sc)∧aB w' (fun _=>True) 4 (.slice so T sc) T xs∧aI w' (fun _=>True) (aD p) xs∧Bw W w'):=fun W hW=>by
  rw[hI,hN,hO,hTT]
  exact xG W (fun _=>True) p o1 o2 o3 o4 o5 c1 c2 c3 c4 c5 (HPK.out W hW) hT
 have HPO:Hid (∀W,Bw w1 W→Calls Tryz.prog 87 #[.agg #[.slice o1 I c1,.slice o2 O c2,.slice o3 N c3,.slice o4 p.asserts.length c4,.slice o5 p.checks.length c5]] W (oC ((aC (aD p):Nat):Int) W)):=fun W hW=>by
  rw[hI,hN,hO]
  exact JW W (fun _=>True) p o1 o2 o3 o4 o5 c1 c2 c3 c4 c5 (HPK.out W hW) hT (by have:=hok.parts;omega)
 have HB:Hid (Bw w w1∧B=w.heap.size):=⟨hb1,hB⟩
 have HSZ:Hid (I=p.ins.length∧N=p.fs.length∧O=p.outs.length∧T=(aD p).length∧I+N≤1000∧O≤2097152∧T≤4000∧N≤T∧aC (aD p)≤100000):=⟨hI,hN,hO,hTT,by have:=hok.vars;omega,by have:=hok.outs;omega,by have:=hok.terms;rw[hTT];unfold aD;simp;omega,by rw[hTT,hN];unfold aD;simp,hok.parts⟩
 have HW1:Hid (w.alloc (.cells #[.slice o1 I c1,.slice o2 O c2,.slice o3 N c3,.slice o4 p.asserts.length c4,.slice o5 p.checks.length c5] 27)=w1∧w.heap.size=B):=⟨hw1.symm,hB.symm⟩
 obtain⟨a0,a1,a2,a3,a4⟩:=HC.out w1 (Below.refl _ _)
 rw[←hI,←hN,←hO]
 clear h hok hT hI hN hO hTT hw1 hB hb1 hr1
 go_enter Tryz.func42,Tryz.ntmps42
 go_upto_region 1 with fail
 rw[HW1.out.1,HW1.out.2]
 go_wp2_with (first | (go_at_call 84;refine HVO.out.mono ?_;rintro e w2 ⟨so,sc,rfl,hrow,hb2,hso⟩) | fail)
 have HV:Hid (aB w2 (fun _=>True) 2 (.slice so (I+N) sc) (I+N) (bB (aK p))∧Bw w1 w2):=⟨hrow,hb2⟩
 have HSO:=aA hso
 have HKI:Hid (∀(i:Nat) (s:ByteArray) (W:World),i≤I+N→Bw w2 W→Calls Tryz.prog 85 #[.slice so i sc,.string s] W fun e w'=>e=.returned (.int .i64 (bL ((aK p).take i) s.data.toList))∧w'=W):=fun i s W hi hW=>by
  have hl:i=((aK p).take i).length:=by rw[List.length_take,rM,←HSZ.out.1,←HSZ.out.2.1];omega
  refine sN W (fun _=>True) _ so i sc s hl ?_ (by have:=HSZ.out.2.2.2.2.1;omega)
  rw[←AL]
  exact(hrow.keep (fun b _ hl=>⟨trivial,hW.block b hl⟩)).take hi
 clear hrow hb2 hso HVO a0 a1 a2 a3 a4
 go_loopw [4] (fun t wr=>∃i:Nat,i≤I+N∧t=.int .i64 i∧Hid (∃g,bA (fun _=>none) ((aK p).take i)=some g)∧Hid (Bw w2 wr)) (fun t _=>I+N-(intOf t).toNat)
 case atStart=>exact⟨0,Nat.zero_le _,rfl,⟨fun _=>none,by simp [bA]⟩,Below.refl _ _⟩
 case round=>
  obtain⟨i,hi,rfl,HG,HR⟩:=hrel
  by_cases hil:i<I+N
  ·obtain⟨g,hg⟩:=HG.out
   have hvl:i<(aK p).length:=by rw[rM,←HSZ.out.1,←HSZ.out.2.1];omega
   obtain⟨v,hv⟩:∃v,(aK p)[i]?=some v:=⟨_,List.getElem?_eq_getElem hvl⟩
   obtain⟨b,off,c',ev,_,_,gg⟩:=(HV.out.1.keep (S':=fun _=>True) (fun b _ hl=>⟨trivial,HR.out.block b hl⟩)).at (by rw[HV.out.1.1];omega)
   obtain⟨rfl,rfl⟩:so=some ⟨b,off,none⟩∧sc=c':=by simpa using ev
   obtain⟨k0,k1⟩:=rQ hv
   have y0:=gg _ _ k0
   have y1:=gg _ _ k1
   rw[←Nat.add_assoc] at y1
   have hcap:=HV.out.1.cap
   have hc0:(i:Int)≤(sc:Int):=by omega
   have i0':(0:Int)≤(i:Int):=by omega
   have i1':(i:Int)<((I+N:Nat):Int):=by omega
   have HBR:Hid (Bw w wr):=HB.out.1.trans ((HV.out.2.trans (HR.out.mono HV.out.2.size)).mono HB.out.1.size)
   have hkb:=Mq hg v
   have hBad:fI g v=true→dL (aQ p)=3:=fun hb=>by unfold aQ;rw[Mk hv hg hb];rfl
   have hGood:fI g v=false→∃g,bA (fun _=>none) ((aK p).take (i+1))=some g:=fun hb=>⟨_,by rw[vN hv hg,if_neg (by rw[hb];simp)]⟩
   obtain⟨nm,kd⟩:=v
   simp only at y0 y1 hkb
   have N4:Hid (wrap64 ((i:Int)+1)=(i:Int)+1):=by have:=HSZ.out.2.2.2.2.1;unfold Hid wrap64;omega
   have HJ:=aA hil
   by_cases e1:nm.data.toList=[]
   ·have HN:Hid (dL (aQ p)=3):=hBad (by rw[hkb,e1];rfl)
    have d1:(nm.toList==[])=true:=by rw[ByteArray.toList_eq,e1];rfl
    clear hg hv ev gg k0 k1 hkb hBad hGood e1 hil hi hvl HG hcap
    go_wp2
    go_ret
    exact⟨by rw[HN.out];rfl,HBR.out⟩
   ·have d1:(nm.toList==[])=false:=by rw[ByteArray.toList_eq];exact beq_eq_false_iff_ne.2 e1
    have e1':(nm.data.toList==[])=false:=beq_eq_false_iff_ne.2 e1
    by_cases e2:kd=1∨kd=2
    ·have e2':(kd != 1&&kd != 2)=false:=by rcases e2 with rfl | rfl<;>rfl
     rw[e1',e2',Bool.or_false,Bool.false_or] at hkb
     obtain⟨kk,hkk⟩:∃kk,kk=bL ((aK p).take i) nm.data.toList:=⟨_,rfl⟩
     rw[←hkk] at hkb
     have HKW:Hid (∀W,Bw w2 W→Calls Tryz.prog 85 #[.slice (some ⟨b,off,none⟩) i sc,.string nm] W fun e w'=>e=.returned (.int .i64 kk)∧w'=W):=fun W hW=>by rw[hkk];exact HKI.out i nm W (by omega) hW
     have HRR:Hid (∀k,Bw w2 (wr.drewN k)):=fun k=>iA HR.out k
     by_cases e3:0<kk
     ·have HN:Hid (dL (aQ p)=3):=hBad (by rw[hkb];simp [e3])
      clear hg hv ev gg k0 k1 hkb hBad hGood e1 e1' e2' hkk hil hi hvl HG hcap
      rcases e2 with rfl | rfl
      all_goals go_upto_region 7 with fail
      all_goals go_quiet ((go_at_call 85;exact Calls.quiet_of_same (HKW.out _ (HRR.out _))))
      all_goals go_wp2
      all_goals go_ret
      all_goals exact⟨by rw[HN.out];rfl,iA HBR.out _⟩
     ·have HN:Hid (∃g,bA (fun _=>none) ((aK p).take (i+1))=some g):=hGood (by rw[hkb];simp [e3])
      clear hg hv ev gg k0 k1 hkb hBad hGood e1 e1' e2' hkk hil hi hvl HG hcap
      rcases e2 with rfl | rfl
      all_goals go_upto_region 7 with fail
      all_goals go_quiet ((go_at_call 85;exact Calls.quiet_of_same (HKW.out _ (HRR.out _))))
      all_goals go_wp2
      all_goals exact⟨⟨i+1,HJ.out,by rw[N4.out];rfl,HN.out,HRR.out _⟩,by rw[N4.out];have:=HJ.out;simp [intOf];omega⟩
    ·have e3:¬kd=1:=fun e=>e2 (.inl e)
     have e4:¬kd=2:=fun e=>e2 (.inr e)
     have HN:Hid (dL (aQ p)=3):=hBad (by rw[hkb];simp [e3,e4])
     have e5:(kd != 1)=true:=by simpa using e3
     have e6:(kd != 2)=true:=by simpa using e4
     clear hg hv ev gg k0 k1 hkb hBad hGood e1 e1' e2 hil hi hvl HG hcap
     go_wp2
     go_ret
     exact⟨by rw[HN.out];rfl,HBR.out⟩
  ·obtain rfl:i=I+N:=by omega
   obtain⟨kd,hkd⟩:∃kd,bA (fun _=>none) (aK p)=some kd:=by
    obtain⟨g,hg⟩:=HG.out
    rw[List.take_of_length_le (by rw[rM,←HSZ.out.1,←HSZ.out.2.1];omega)] at hg
    exact⟨g,hg⟩
   have HBR:Hid (Bw w1 wr∧Bw w2 wr):=⟨HV.out.2.trans (HR.out.mono HV.out.2.size),HR.out⟩
   have HKD:=aA hkd
   clear hi hil hkd HG HR
   have hk12:=(Df HKD.out)
   have HK12:Hid ((∀x∈p.fs,x.kind=1∨x.kind=2)∧(∀s k,kd s=some k→k=1∨k=2)∧∀s,bL (aK p) s=(kd s).getD 0):=⟨FU hk12.1,hk12.2.1,hk12.2.2⟩
   -- the outputs' slice of the variables
   have HKF:Hid (∃so2 sc2,(∀(s:ByteArray) (W:World),Bw w2 W→Calls Tryz.prog 85 #[.slice so2 N sc2,.string s] W fun e w'=>e=.returned (.int .i64 (bL (dD p.fs) s.data.toList))∧w'=W)∧((so=none∧sc=0∧I=0∧N=0∧so2=none∧sc2=0)∨∃g,so=some ⟨g,0,none⟩∧so2=(if sc=I then some ⟨g,0,none⟩ else some ⟨g,I*2,none⟩)∧sc2=sc-I)):=by
    have hlen:N=(dD p.fs).length:=by unfold dD;rw[List.length_map];exact HSZ.out.2.1
    have hNl:N≤2097152:=by have:=HSZ.out.2.2.2.2.1;omega
    rcases HSO.out with⟨h1,h2,h3⟩ | ⟨g,h1⟩
    ·have hI0:I=0:=by omega
     have hN0:N=0:=by omega
     refine⟨none,0,fun s W hW=>?_,.inl ⟨h1,h2,hI0,hN0,rfl,rfl⟩⟩
     have hfs:dD p.fs=[]:=List.eq_nil_of_length_eq_zero (by omega)
     rw[hfs,hN0]
     exact sN W (fun _=>True) [] none 0 0 s rfl (IV W _ 2) (by omega)
    ·have hr:=HV.out.1
     rw[h1] at hr
     have hd:=hr.drop (k:=I) (by omega)
     rw[F7,HSZ.out.1,FP,←HSZ.out.1,show I+N-I=N from by omega] at hd
     rw[Nat.zero_add] at hd
     refine⟨_,_,fun s W hW=>sN W (fun _=>True) _ _ N _ s hlen ?_ hNl,.inr ⟨g,h1,rfl,rfl⟩⟩
     by_cases hs:sc=I
     ·have hcap:=HV.out.1.cap
      have hN0:N=0:=by omega
      have hfs:dD p.fs=[]:=List.eq_nil_of_length_eq_zero (by omega)
      rw[hfs,hN0,if_pos hs]
      exact⟨rfl,by unfold maxLen;omega,_,_,rfl,fun k x hx=>by simp [bB] at hx,Nat.zero_le _⟩
     ·rw[if_neg hs]
      exact hd.keep (fun b _ hl=>⟨trivial,hW.block b hl⟩)
   obtain⟨so2,sc2,hkf,hso2⟩:=HKF.out
   have HKF2:=aA hkf
   have HSO2:=aA hso2
   clear hk12 hkf hso2 HKF HSO
   obtain⟨a0,a1,a2,a3,a4⟩:=HC.out wr HBR.out.1
   go_wp2
   clear a0 a1 a2 a3 a4
   go_loopw [5] (fun t wr=>∃j:Nat,j≤O∧t=.int .i64 j∧Hid (∃g,fH (gB (fun _=>none) p.fs) (p.outs.take j)=some g)∧Hid (Bw w2 wr)) (fun t _=>O-(intOf t).toNat)
   case atStart=>exact⟨0,Nat.zero_le _,rfl,⟨_,by rw[List.take_zero,fH]⟩,HBR.out.2⟩
   case round=>
    obtain⟨j,hj,rfl,HG,HR⟩:=hrel
    have HBW:Hid (Bw w1 wr∧Bw w wr):=by
     have h1:=HV.out.2.trans (HR.out.mono HV.out.2.size)
     exact⟨h1,HB.out.1.trans (h1.mono HB.out.1.size)⟩
    obtain⟨a0,a1,a2,a3,a4⟩:=HC.out wr HBW.out.1
    by_cases hjl:j<O
    ·obtain⟨g,hg⟩:=HG.out
     have hol:j<p.outs.length:=by have:=HSZ.out.2.2.1;omega
     obtain⟨x,hx⟩:∃x,p.outs[j]?=some x:=⟨_,List.getElem?_eq_getElem hol⟩
     have hpo:=(HPK.out wr HBW.out.1).outs
     rw[←HSZ.out.2.2.1] at hpo
     have hcap2:=hpo.cap
     obtain⟨b,off,c',ev,_,_,gg⟩:=hpo.at (by rw[vC];omega)
     obtain⟨rfl,rfl⟩:o2=some ⟨b,off,none⟩∧c2=c':=by simpa using ev
     have y0:=gg j (.string x.op) (by rw[vD hol];rw[List.getElem?_eq_getElem hol] at hx;rw[Option.some.inj hx])
     obtain⟨hB1,hG1⟩:=JY HK12.out.1 hx hg
     obtain⟨kk,hkk⟩:∃kk,kk=bL (dD p.fs) x.op.data.toList:=⟨_,rfl⟩
     obtain⟨hh,hhh⟩:∃hh,hh=eH (p.outs.take j) x.op:=⟨_,rfl⟩
     rw[←hkk,←hhh] at hB1 hG1
     have HKW:Hid (∀k,Calls Tryz.prog 85 #[.slice so2 N sc2,.string x.op] (wr.drewN k) fun e w'=>e=.returned (.int .i64 kk)∧w'=wr.drewN k):=fun k=>by rw[hkk];exact HKF2.out x.op _ (iA HR.out k)
     have HHW:Hid (∀k,Calls Tryz.prog 50 #[.slice (some ⟨b,off,none⟩) j c2,.string x.op] (wr.drewN k) fun e w'=>e=.returned (.bool hh)∧w'=wr.drewN k):=fun k=>by
      rw[hhh]
      have ht:=(hpo.keep (S':=fun _=>True) (w':=wr.drewN k) (fun b _ hl=>⟨trivial,(iA (Below.refl wr.heap.size wr) k).block b hl⟩)).take (k:=j) (by omega)
      rw[Nat.mul_one,Lm] at ht
      exact Ak _ (fun _=>True) _ _ j c2 x.op (by rw[List.length_take];omega) ht (by have:=HSZ.out.2.2.2.2.2.1;omega)
     have HRR:Hid (∀k,Bw w2 (wr.drewN k)∧Bw w (wr.drewN k)):=fun k=>⟨iA HR.out k,iA HBW.out.2 k⟩
     have hcap:I≤sc:=by
      rcases HSO2.out with⟨_,_,h1,_⟩ | _
      ·omega
      ·have:=HV.out.1.cap;omega
     have hc0:(I:Int)≤(sc:Int):=by omega
     have hc1:(I:Int)≤((I+N:Nat):Int):=by omega
     have hc2:(j:Int)≤(c2:Int):=by omega
     have j0':(0:Int)≤(j:Int):=by omega
     have j1':(j:Int)<(O:Int):=by omega
     have N4:Hid (wrap64 ((j:Int)+1)=(j:Int)+1):=by have:=HSZ.out.2.2.2.2.2.1;unfold Hid wrap64;omega
     have HJ:=aA hjl
     have hf1:(kk==0||hh)=true→Hid (dL (aQ p)=3):=fun hb=>by exact Nv HKD.out (hB1 hb)
     have HF1:=aA hf1
     have HG2:=aA hG1
     clear hg hx hol hpo hcap2 ev gg hB1 hG1 hkk hhh hjl hj HG HR hcap hf1
     rcases HSO2.out with⟨rfl,rfl,hI0,hN0,rfl,rfl⟩ | ⟨g,rfl,rfl,rfl⟩
     ·subst hI0 hN0
      by_cases hk:kk=0
      ·have HN:Hid (dL (aQ p)=3):=HF1.out (by rw[hk];rfl)
       have hd:(kk==0)=true:=by rw[hk];rfl
       subst hk
       go_upto_region 12 with fail
       go_quiet ((first | (go_at_call 85;exact Calls.quiet_of_same (HKW.out _)) | (go_at_call 50;exact Calls.quiet_of_same (HHW.out _))))
       go_wp2
       all_goals go_ret
       all_goals exact⟨by rw[HN.out];rfl,(HRR.out _).2⟩
      ·have hd:(kk==0)=false:=beq_eq_false_iff_ne.2 hk
       cases hh with
       | true=>
        have HN:Hid (dL (aQ p)=3):=HF1.out (by simp)
        go_upto_region 12 with fail
        go_quiet ((first | (go_at_call 85;exact Calls.quiet_of_same (HKW.out _)) | (go_at_call 50;exact Calls.quiet_of_same (HHW.out _))))
        go_wp2
        all_goals go_ret
        all_goals exact⟨by rw[HN.out];rfl,(HRR.out _).2⟩
       | false=>
        have HN:Hid (∃g,fH (gB (fun _=>none) p.fs) (p.outs.take (j+1))=some g):=HG2.out (by rw[hd];rfl)
        go_upto_region 12 with fail
        go_quiet ((first | (go_at_call 85;exact Calls.quiet_of_same (HKW.out _)) | (go_at_call 50;exact Calls.quiet_of_same (HHW.out _))))
        go_wp2
        all_goals exact⟨⟨j+1,HJ.out,by rw[N4.out];rfl,HN.out,(HRR.out _).1⟩,by rw[N4.out];have:=HJ.out;simp [intOf];omega⟩
     ·by_cases hk:kk=0
      ·have HN:Hid (dL (aQ p)=3):=HF1.out (by rw[hk];rfl)
       have hd:(kk==0)=true:=by rw[hk];rfl
       subst hk
       go_upto_region 12 with fail
       go_quiet ((first | (go_at_call 85;exact Calls.quiet_of_same (HKW.out _)) | (go_at_call 50;exact Calls.quiet_of_same (HHW.out _))))
       go_wp2
       all_goals go_ret
       all_goals exact⟨by rw[HN.out];rfl,(HRR.out _).2⟩
      ·have hd:(kk==0)=false:=beq_eq_false_iff_ne.2 hk
       cases hh with
       | true=>
        have HN:Hid (dL (aQ p)=3):=HF1.out (by simp)
        go_upto_region 12 with fail
        go_quiet ((first | (go_at_call 85;exact Calls.quiet_of_same (HKW.out _)) | (go_at_call 50;exact Calls.quiet_of_same (HHW.out _))))
        go_wp2
        all_goals go_ret
        all_goals exact⟨by rw[HN.out];rfl,(HRR.out _).2⟩
       | false=>
        have HN:Hid (∃g,fH (gB (fun _=>none) p.fs) (p.outs.take (j+1))=some g):=HG2.out (by rw[hd];rfl)
        go_upto_region 12 with fail
        go_quiet ((first | (go_at_call 85;exact Calls.quiet_of_same (HKW.out _)) | (go_at_call 50;exact Calls.quiet_of_same (HHW.out _))))
        go_wp2
        all_goals exact⟨⟨j+1,HJ.out,by rw[N4.out];rfl,HN.out,(HRR.out _).1⟩,by rw[N4.out];have:=HJ.out;simp [intOf];omega⟩
    ·obtain rfl:O=j:=by omega
     have hout:gQ p=true:=by
      obtain⟨g,hg⟩:=HG.out
      rw[List.take_of_length_le (by rw[←HSZ.out.2.2.1];exact Nat.le_refl _)] at hg
      unfold gQ
      rw[hg];rfl
     have HOU:=aA hout
     have HBR2:Hid (Bw w2 wr):=HR.out
     clear hout hj hjl HG HR HKF2 HSO2
     go_wp2_with (first | (go_at_call 32;refine(HTM.out wr HBW.out.1).mono ?_;rintro e w3 ⟨tq,tc,xs,rfl,hrow,hex,hb3⟩;clear a0 a1 a2 a3 a4) | fail)
     have HT:Hid (aB w3 (fun _=>True) 4 (.slice tq T tc) T xs∧aI w3 (fun _=>True) (aD p) xs∧Bw wr w3):=⟨hrow,hex,hb3⟩
     have HB3:Hid (Bw w2 w3∧Bw w1 w3∧Bw w w3):=⟨HBR2.out.trans (hb3.mono HBR2.out.size),HBW.out.1.trans (hb3.mono HBW.out.1.size),HBW.out.2.trans (hb3.mono HBW.out.2.size)⟩
     have HFK:Hid (∀l,gK (bL (aK p)) l=bG kd l):=zN HK12.out.2.2
     have HVL:Hid (I+N=(aK p).length∧I+N≤2097152):=⟨by rw[rM,←HSZ.out.1,←HSZ.out.2.1],by have:=HSZ.out.2.2.2.2.1;omega⟩
     clear hrow hex hb3 HTM
     go_loopw [7] (fun t wr=>∃i:Nat,i≤T∧t=.int .i64 i∧Hid (gK (bL (aK p)) ((aD p).take i)=true)∧Hid (Bw w3 wr)) (fun t _=>T-(intOf t).toNat)
     case atStart=>exact⟨0,Nat.zero_le _,rfl,by simp [Hid,gK],Below.refl _ _⟩
     case round=>
      obtain⟨i,hi,rfl,HI,HR⟩:=hrel
      have HBX:Hid (Bw w2 wr∧Bw w1 wr∧Bw w wr):=⟨HB3.out.1.trans (HR.out.mono HB3.out.1.size),HB3.out.2.1.trans (HR.out.mono HB3.out.2.1.size),HB3.out.2.2.trans (HR.out.mono HB3.out.2.2.size)⟩
      by_cases hil:i<T
      ·have hjt:i<(aD p).length:=by have:=HSZ.out.2.2.2.1;omega
       obtain⟨op,n,s,es,oo,cc,zs,ej,x0,x1,x2,x3,r1,r2⟩:=HT.out.2.1.at hjt
       obtain⟨b,off,c',ev,_,_,gg⟩:=(HT.out.1.keep (S':=fun _=>True) (fun b _ hl=>⟨trivial,HR.out.block b hl⟩)).at (by rw[HT.out.1.1];omega)
       obtain⟨rfl,rfl⟩:tq=some ⟨b,off,none⟩∧tc=c':=by simpa using ev
       have y0:=gg _ _ x0
       have y1:=gg _ _ x1
       have y2:=gg _ _ x2
       have y3:=gg _ _ x3
       rw[←Nat.add_assoc] at y1 y2 y3
       obtain⟨v,hv⟩:∃v,v=fU (bL (aK p)) (.mk op n s es):=⟨_,rfl⟩
       have HFI:Hid (Calls Tryz.prog 86 #[.agg #[.string op,.int .i64 n,.string s,.slice oo es.length cc],.slice so (I+N) sc] wr fun e w'=>e=.returned (.bool v)∧Bw wr w'):=by
        rw[hv]
        exact DN (aK p) _ op n s es (Nat.lt_succ_self _) wr (fun _=>True) (fun _=>True) oo so cc (I+N) sc zs (r1.keep (fun b _ hl=>⟨trivial,HR.out.block b hl⟩)) (r2.keep (fun b _ hl=>⟨trivial,HR.out.block b hl⟩)) HVL.out.1 HVL.out.2 (HV.out.1.keep (fun b _ hl=>⟨trivial,HBX.out.1.block b hl⟩))
       have ht1:(aD p)[i]?=some (.mk op n s es):=by rw[List.getElem?_eq_getElem hjt,ej]
       have i0':(0:Int)≤(i:Int):=by omega
       have i1':(i:Int)<(T:Int):=by omega
       have HJ:=aA hil
       have N4:Hid (wrap64 ((i:Int)+1)=(i:Int)+1):=by have:=HSZ.out.2.2.2.2.2.2.1;unfold Hid wrap64;omega
       have HRR:Hid (Bw w3 wr):=HR.out
       cases v with
       | true=>
        have HN:Hid (gK (bL (aK p)) ((aD p).take (i+1))=true):=vW ht1 HI.out hv.symm
        clear ej x0 x1 x2 x3 r1 r2 ev gg hv ht1 hil hi hjt HR
        go_wp2_with (first | (go_at_call 86;refine HFI.out.mono ?_;rintro e w4 ⟨rfl,hb4⟩) | fail)
        exact⟨⟨i+1,HJ.out,by rw[N4.out];rfl,HN.out,HRR.out.trans (hb4.mono HRR.out.size)⟩,by rw[N4.out];have:=HJ.out;simp [intOf];omega⟩
       | false=>
        have HN:Hid (dL (aQ p)=3):=Ns HKD.out (by rw[←HFK.out];exact vX ht1 hv.symm)
        clear ej x0 x1 x2 x3 r1 r2 ev gg hv ht1 hil hi hjt HR
        go_wp2_with (first | (go_at_call 86;refine HFI.out.mono ?_;rintro e w4 ⟨rfl,hb4⟩) | fail)
        go_ret
        exact⟨by rw[HN.out];rfl,HBX.out.2.2.trans (hb4.mono HBX.out.2.2.size)⟩
      ·obtain rfl:T=i:=by omega
       rw[List.take_of_length_le (by rw[←HSZ.out.2.2.2.1];exact Nat.le_refl _)] at HI
       have HFM:Hid (bG kd (aD p)=true):=by unfold Hid;rw[←HFK.out];exact HI.out
       have HRR:Hid (Bw w3 wr):=HR.out
       obtain⟨hf2,hf3⟩:=Nw HKD.out HOU.out HFM.out
       rw[←HSZ.out.1,←HSZ.out.2.1] at hf2 hf3
       have HF2:=aA hf2
       have HF3:Hid (¬(30<I∨400<N∨4000<aC (aD p))→aQ p=(match aM kd (aD p) with
        | none=>3
        | some (ks,_)=>if ks=bT p then 0 else 3)):=hf3
       clear hf2 hf3
       clear hi hil HI HR
       obtain⟨q,hq⟩:∃q,q=aC (aD p):=⟨_,rfl⟩
       have HPW:Hid (Calls Tryz.prog 87 #[.agg #[.slice o1 I c1,.slice o2 O c2,.slice o3 N c3,.slice o4 p.asserts.length c4,.slice o5 p.checks.length c5]] wr (oC ((q:Nat):Int) wr)):=by rw[hq];exact HPO.out wr HBX.out.2.1
       rw[←hq] at HF2 HF3
       clear hq HPO
       obtain⟨a0,a1,a2,a3,a4⟩:=HC.out wr HBX.out.2.1
       by_cases hn:400<N
       ·have HN:Hid (dL (aQ p)=2):=HF2.out (by omega)
        have g1:(400:Int)<(N:Int):=by omega
        clear hn
        go_wp2
        go_ret
        exact⟨by rw[HN.out];rfl,HBX.out.2.2⟩
       ·have g1:¬(400:Int)<(N:Int):=by omega
        by_cases hp:4000<q
        ·have HN:Hid (dL (aQ p)=2):=HF2.out (by omega)
         have g2:(4000:Int)<(q:Int):=by omega
         clear hn hp
         go_wp2_with (first | (go_at_call 87;refine HPW.out.mono ?_;rintro e w5 ⟨rfl,hb5⟩) | fail)
         go_ret
         exact⟨by rw[HN.out];rfl,HBX.out.2.2.trans (hb5.mono HBX.out.2.2.size)⟩
        ·have g2:¬(4000:Int)<(q:Int):=by omega
         by_cases hi:30<I
         ·have HN:Hid (dL (aQ p)=2):=HF2.out (by omega)
          have g3:(30:Int)<(I:Int):=by omega
          clear hn hp hi
          go_wp2_with (first | (go_at_call 87;refine HPW.out.mono ?_;rintro e w5 ⟨rfl,hb5⟩;obtain⟨a0,a1,a2,a3,a4⟩:=HC.out w5 (HBX.out.2.1.trans (hb5.mono HBX.out.2.1.size))) | fail)
          go_ret
          exact⟨by rw[HN.out];rfl,HBX.out.2.2.trans (hb5.mono HBX.out.2.2.size)⟩
         ·have g3:¬(30:Int)<(I:Int):=by omega
          have HF4:Hid (aQ p=(match aM kd (aD p) with
           | none=>3
           | some (ks,_)=>if ks=bT p then 0 else 3)):=HF3.out (by omega)
          clear hn hp hi HF2 HF3
          go_wp2_with (first | (go_at_call 87;refine HPW.out.mono ?_;rintro e w5 ⟨rfl,hb5⟩;have HB5:Hid (Bw w3 w5∧Bw w2 w5∧Bw w1 w5∧Bw w w5):=⟨HRR.out.trans (hb5.mono HRR.out.size),HBX.out.1.trans (hb5.mono HBX.out.1.size),HBX.out.2.1.trans (hb5.mono HBX.out.2.1.size),HBX.out.2.2.trans (hb5.mono HBX.out.2.2.size)⟩;clear hb5 a0 a1 a2 a3 a4;obtain⟨a0,a1,a2,a3,a4⟩:=HC.out w5 HB5.out.2.2.1) | fail)
          clear a0 a1 a2 a3 a4 HPW g1 g2 g3
          go_loopw [9] (fun t wr=>∃i:Nat,i≤T∧t=.int .i64 i∧Hid (∀(k:Nat) (e:Ex),k<i→(aD p)[k]?=some e→(bT p)[k]?=some (fC kd e))∧Hid (Bw w5 wr)) (fun t _=>T-(intOf t).toNat)
          case atStart=>exact⟨0,Nat.zero_le _,rfl,fun k e hk=>by omega,Below.refl _ _⟩
          case round=>
           obtain⟨i,hi,rfl,HI,HR⟩:=hrel
           have HBY:Hid (Bw w3 wr∧Bw w2 wr∧Bw w1 wr∧Bw w wr):=⟨HB5.out.1.trans (HR.out.mono HB5.out.1.size),HB5.out.2.1.trans (HR.out.mono HB5.out.2.1.size),HB5.out.2.2.1.trans (HR.out.mono HB5.out.2.2.1.size),HB5.out.2.2.2.trans (HR.out.mono HB5.out.2.2.2.size)⟩
           obtain⟨a0,a1,a2,a3,a4⟩:=HC.out wr HBY.out.2.2.1
           by_cases hil:i<T
           ·have hjt:i<(aD p).length:=by have:=HSZ.out.2.2.2.1;omega
            obtain⟨op,n,s,es,oo,cc,zs,ej,x0,x1,x2,x3,r1,r2⟩:=HT.out.2.1.at hjt
            obtain⟨b,off,c',ev,_,_,gg⟩:=(HT.out.1.keep (S':=fun _=>True) (fun b _ hl=>⟨trivial,HBY.out.1.block b hl⟩)).at (by rw[HT.out.1.1];omega)
            obtain⟨rfl,rfl⟩:tq=some ⟨b,off,none⟩∧tc=c':=by simpa using ev
            have y0:=gg _ _ x0
            have y1:=gg _ _ x1
            have y2:=gg _ _ x2
            have y3:=gg _ _ x3
            rw[←Nat.add_assoc] at y1 y2 y3
            have ht1:(aD p)[i]?=some (.mk op n s es):=by rw[List.getElem?_eq_getElem hjt,ej]
            have hfe:dG kd (.mk op n s es)=true:=qB HFM.out (List.mem_of_getElem? ht1)
            obtain⟨v,hv⟩:∃v,v=fC kd (.mk op n s es):=⟨_,rfl⟩
            have HFI:Hid (Calls Tryz.prog 88 #[.agg #[.string op,.int .i64 n,.string s,.slice oo es.length cc],.slice so (I+N) sc] wr fun e w'=>e=.returned (.int .i64 v)∧Bw wr w'):=by
             rw[hv]
             exact Db (aK p) kd HK12.out.2.2 HK12.out.2.1 _ op n s es (Nat.lt_succ_self _) hfe wr (fun _=>True) (fun _=>True) oo so cc (I+N) sc zs (r1.keep (fun b _ hl=>⟨trivial,HBY.out.1.block b hl⟩)) (r2.keep (fun b _ hl=>⟨trivial,HBY.out.1.block b hl⟩)) HVL.out.1 HVL.out.2 (HV.out.1.keep (fun b _ hl=>⟨trivial,HBY.out.2.1.block b hl⟩))
            have i0':(0:Int)≤(i:Int):=by omega
            have i1':(i:Int)<(T:Int):=by omega
            have HJ:=aA hil
            have N4:Hid (wrap64 ((i:Int)+1)=(i:Int)+1):=by have:=HSZ.out.2.2.2.2.2.2.1;unfold Hid wrap64;omega
            have HRR5:Hid (Bw w5 wr):=HR.out
            have HG:Hid (∀wt,(bT p)[i]?=some wt→(v=wt→∀(k:Nat) (e:Ex),k<i+1→(aD p)[k]?=some e→(bT p)[k]?=some (fC kd e))∧(v≠wt→dL (aQ p)=5)):=fun wt hwt=>by
             refine⟨fun e k x hk hx=>?_,fun hne=>?_⟩
             ·by_cases ek:k=i
              ·subst ek
               rw[ht1] at hx
               rw[←Option.some.inj hx,←hv,e]
               exact hwt
              ·exact HI.out k x (by omega) hx
             ·exact Nt HF4.out ht1 hwt (by rw[←hv];exact hne)
            by_cases hf:i<N
            ·obtain⟨nm,wt,fop,fn,fs',fes,foo,fcc,fzs,fe,f0,f1,_⟩:=HPF.out.2.at (i:=i) (by have:=HSZ.out.2.1;omega)
             obtain⟨b3,off3,c3',ev3,_,_,gg3⟩:=(HPF.out.1.keep (S':=fun _=>True) (fun b _ hl=>⟨trivial,HBY.out.2.2.1.block b hl⟩)).at (by rw[HPF.out.1.1];omega)
             obtain⟨rfl,rfl⟩:o3=some ⟨b3,off3,none⟩∧c3=c3':=by simpa using ev3
             have z1:=gg3 _ _ f1
             rw[←Nat.add_assoc] at z1
             have hwt:(bT p)[i]?=some wt:=by
              have hx:=Mc (p:=p) (i:=i) (mP (by have:=HSZ.out.2.1;omega))
              rw[fe] at hx
              exact hx
             obtain⟨hg1,hg2⟩:=HG.out wt hwt
             have i2':(i:Int)<(N:Int):=by omega
             by_cases hvw:v=wt
             ·have HN:Hid (∀(k:Nat) (e:Ex),k<i+1→(aD p)[k]?=some e→(bT p)[k]?=some (fC kd e)):=hg1 hvw
              have dvw:(v != wt)=false:=by simpa using hvw
              clear ej x0 x1 x2 x3 r1 r2 ev gg hv ht1 hil hi hjt HR hfe hwt hg1 hg2 hf hvw fe f0 f1 ev3 gg3
              go_wp2_with (first | (go_at_call 88;refine HFI.out.mono ?_;rintro e w6 ⟨rfl,hb6⟩) | fail)
              exact⟨⟨i+1,HJ.out,by rw[N4.out];rfl,HN.out,HRR5.out.trans (hb6.mono HRR5.out.size)⟩,by rw[N4.out];have:=HJ.out;simp [intOf];omega⟩
             ·have HN:Hid (dL (aQ p)=5):=hg2 hvw
              have dvw:(v != wt)=true:=by simpa using hvw
              clear ej x0 x1 x2 x3 r1 r2 ev gg hv ht1 hil hi hjt HR hfe hwt hg1 hg2 hf hvw fe f0 f1 ev3 gg3
              go_wp2_with (first | (go_at_call 88;refine HFI.out.mono ?_;rintro e w6 ⟨rfl,hb6⟩) | fail)
              go_ret
              exact⟨by rw[HN.out];rfl,HBY.out.2.2.2.trans (hb6.mono HBY.out.2.2.2.size)⟩
            ·have hwt:(bT p)[i]?=some 1:=L9 (by have:=HSZ.out.2.1;omega) hjt
             obtain⟨wt,hw1⟩:∃wt:Int,wt=1:=⟨_,rfl⟩
             obtain⟨hg1,hg2⟩:=HG.out 1 hwt
             rw[←hw1] at hg1 hg2
             have i2':¬(i:Int)<(N:Int):=by omega
             subst hw1
             by_cases hvw:v=1
             ·have HN:Hid (∀(k:Nat) (e:Ex),k<i+1→(aD p)[k]?=some e→(bT p)[k]?=some (fC kd e)):=hg1 hvw
              have dvw:(v != 1)=false:=by simpa using hvw
              clear ej x0 x1 x2 x3 r1 r2 ev gg hv ht1 hil hi hjt HR hfe hwt hg1 hg2 hf hvw
              go_wp2_with (first | (go_at_call 88;refine HFI.out.mono ?_;rintro e w6 ⟨rfl,hb6⟩) | fail)
              exact⟨⟨i+1,HJ.out,by rw[N4.out];rfl,HN.out,HRR5.out.trans (hb6.mono HRR5.out.size)⟩,by rw[N4.out];have:=HJ.out;simp [intOf];omega⟩
             ·have HN:Hid (dL (aQ p)=5):=hg2 hvw
              have dvw:(v != 1)=true:=by simpa using hvw
              clear ej x0 x1 x2 x3 r1 r2 ev gg hv ht1 hil hi hjt HR hfe hwt hg1 hg2 hf hvw
              go_wp2_with (first | (go_at_call 88;refine HFI.out.mono ?_;rintro e w6 ⟨rfl,hb6⟩) | fail)
              go_ret
              exact⟨by rw[HN.out];rfl,HBY.out.2.2.2.trans (hb6.mono HBY.out.2.2.2.size)⟩
           ·obtain rfl:T=i:=by omega
            have HN:Hid (dL (aQ p)=0):=Nr HK12.out.1 HF4.out fun k e h=>HI.out k e (by have:=(aX h).1;have:=HSZ.out.2.2.2.1;omega) h
            clear hi hil HI HR
            go_wp2
            go_ret
            exact⟨by rw[HN.out];rfl,HBY.out.2.2.2⟩
end Go.Proofs.YtmgfakcccfahaaaGreatDoor
