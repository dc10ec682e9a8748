/-
  package flow: Run of any program, BY CONTRACT: the walk.
-/
import Derived.Test.YtmgfakcccfahaaaGreatDoorN45
namespace Go.Proofs.YtmgfakcccfahaaaGreatDoor
open Go.RowKit Go.Maps
set_option maxRecDepth 100000
set_option maxHeartbeats 8000000

def Ig(nb:Bool)(nn:Int)(q:bC)(ins:List (List (Int×Int)))(w3:World)(K j:Nat)(lo:Option Addr)(lc:Nat)(so:Option Addr)(sc:Nat)(wr:World):Prop:=
 ∃(tks:List Tk) (fr:Bool) (mem:List (Int×Int)) (xs:List Value),Rp (bB nb) nn q (ins.take j) tks fr mem∧wr.ownsRow w3.heap.size 112 4 (.slice lo j lc) j xs∧mE wr (Off (.slice lo j lc)) tks xs∧aB wr (Off (.slice lo j lc)) 2 (.slice so K sc) K (bG ((1,bB fr)::mem))∧Bw w3 wr
theorem Tryz.OE:(Tryz.prog.info? 112).map (fun i=>(i.zero,i.size,i.bytes))=some (some (.agg #[.slice none 0 0,.bool false,.bool false,.slice none 0 0]),4,56):=by kernel_rfl
theorem DX(w:World)(S:Nat→Prop)(p:Pg)(o1 o2 o3 o4 o5:Option Addr)(c1 c2 c3 c4 c5:Nat)(E:fD)(h:lQ w S p o1 o2 o3 o4 o5 c1 c2 c3 c4 c5 E)(nb:Bool)(nn:Int)(o:Option Addr)(m c:Nat)(ins:List (List (Int×Int)))(hm:m=ins.length)(hI:mF w (.slice o m c) ins) :
  Calls Tryz.prog 20 #[.agg #[.slice o1 p.ins.length c1,.slice o2 p.outs.length c2,.slice o3 p.fs.length c3,.slice o4 p.asserts.length c4,.slice o5 p.checks.length c5],.slice o m c,.bool nb,.int .i64 nn] w fun e w'=>Bw w w'∧tH p E nb nn ins e w':=by
 obtain⟨i0,hi0,hz0,hz1,hz2⟩:=info_parts Tryz.OE
 obtain⟨w1,hw1⟩:∃w1,w1=w.alloc (.cells #[.slice o1 p.ins.length c1,.slice o2 p.outs.length c2,.slice o3 p.fs.length c3,.slice o4 p.asserts.length c4,.slice o5 p.checks.length c5] 39):=⟨_,rfl⟩
 obtain⟨P,hP⟩:∃P,P=w.heap.size:=⟨_,rfl⟩
 have hb1:Bw w w1:=by rw[hw1];exact aH
 have hr1:w1.heap[P]?=some (.cells #[.slice o1 p.ins.length c1,.slice o2 p.outs.length c2,.slice o3 p.fs.length c3,.slice o4 p.asserts.length c4,.slice o5 p.checks.length c5] 39 (0,0)):=by rw[hw1,hP];exact heap_alloc_new _ _
 have a0:w1.cell? ⟨P,0,none⟩=some (.slice o1 p.ins.length c1):=cr hr1 rfl
 have a1:w1.cell? ⟨P,0+1,none⟩=some (.slice o2 p.outs.length c2):=cr hr1 rfl
 have a2:w1.cell? ⟨P,0+2,none⟩=some (.slice o3 p.fs.length c3):=cr hr1 rfl
 have a3:w1.cell? ⟨P,0+3,none⟩=some (.slice o4 p.asserts.length c4):=cr hr1 rfl
 have a4:w1.cell? ⟨P,0+4,none⟩=some (.slice o5 p.checks.length c5):=cr hr1 rfl
 have HB1:Hid (Bw w w1∧m=ins.length∧m≤maxLen):=⟨hb1,hm,by rw[hm];exact hI.1⟩
 have HG:Hid (lQ w S p o1 o2 o3 o4 o5 c1 c2 c3 c4 c5 E∧mF w (.slice o m c) ins):=⟨h,hI⟩
 have HW1:Hid (w.alloc (.cells #[.slice o1 p.ins.length c1,.slice o2 p.outs.length c2,.slice o3 p.fs.length c3,.slice o4 p.asserts.length c4,.slice o5 p.checks.length c5] 39)=w1∧w.heap.size=P):=⟨hw1.symm,hP.symm⟩
 have HCP:Hid (Calls Tryz.prog 52 #[.agg #[.slice o1 p.ins.length c1,.slice o2 p.outs.length c2,.slice o3 p.fs.length c3,.slice o4 p.asserts.length c4,.slice o5 p.checks.length c5],.bool nb,.int .i64 nn] w1 fun e w'=>Bw w1 w'∧IA p E nb nn e w'):=PY w1 S p o1 o2 o3 o4 o5 c1 c2 c3 c4 c5 E (h.keep hb1) (fun d fl ho=>ho.rank fl) nb nn
 have m0:(0:Int)≤(m:Int):=by omega
 clear h hm hI hw1 hP hb1 hr1
 go_enter Tryz.func20,Tryz.ntmps20
 go_upto_region 1 with fail
 rw[HW1.out.1,HW1.out.2]
 go_wp2_with fail
 refine HCP.out.mono ?_
 rintro e w2 ⟨hb2,hcr⟩
 have HB2:Hid (Bw w w2):=HB1.out.1.trans (hb2.mono HB1.out.1.size)
 clear a0 a1 a2 a3 a4 HCP hb2
 rcases hcr with⟨t,x,hck,rfl⟩ | ⟨d,f,hrt,⟨hn,rfl⟩ | ⟨ts,qs,C,htr,hty,_,hn,rfl,hca⟩⟩
 ·have HCK:=aA hck
  clear hck
  go_wp2
  try simp only[Exit.inBlock,Exit.then]
  refine bodyPost_ret (results_tmp2 rfl _ _ _) rfl ?_
  have hba:Bw w2 (w2.alloc (.cells #[.pointer none] 113)):=aH
  exact⟨HB2.out.trans (hba.mono HB2.out.size),.inl ⟨t,x,HCK.out.keep hba,rfl⟩⟩
 ·have HRT:Hid (oO p d f∧(nn==cB nn)=false):=⟨hrt,hn⟩
  clear hrt hn
  go_wp2
  try simp only[Exit.inBlock,Exit.then]
  refine bodyPost_ret (results_tmp2 rfl _ _ _) rfl ?_
  have hba:Bw w2 (w2.alloc (.cells #[.pointer none] 113)):=aH
  exact⟨HB2.out.trans (hba.mono HB2.out.size),.inr ⟨d,f,HRT.out.1,.inl ⟨.inl HRT.out.2,rfl⟩⟩⟩
 obtain⟨q,hq⟩:∃q,q=bE p (aM p f) ts qs:=⟨_,rfl⟩
 obtain⟨X,T,hpx⟩:=oO.Ll (ts:=ts) hrt hty
 have HPR:Hid (iT q∧jX q):=by unfold Hid;rw[hq];exact⟨hpx.Lx HG.out.1.ok.outs,hpx.LF htr⟩
 have HRT:Hid (oO p d f∧(nn==cB nn)=true∧q=bE p (aM p f) ts qs∧jV (dF p (aM p f)) ts∧aR (cK (fun _=>none) (aT p)) (aI p)=some (fT p,qs)):=⟨hrt,hn,hq,htr,hty⟩
 have HNL:Hid (tK (bB nb) nn):=Nj nb hn
 rw[←hq] at hca
 obtain⟨B,M,dv,fo,hcd⟩:=hca.cd
 clear hpx hrt hn hq htr hty hca
 obtain⟨w3,hw3⟩:∃w3,w3=w2.alloc (.cells #[.pointer (some ⟨C,0,none⟩)] 113):=⟨_,rfl⟩
 obtain⟨Q,hQ⟩:∃Q,Q=w2.heap.size:=⟨_,rfl⟩
 have hb3:Bw w2 w3:=by rw[hw3];exact aH
 have hr3:w3.heap[Q]?=some (.cells #[.pointer (some ⟨C,0,none⟩)] 113 (0,0)):=by rw[hw3,hQ];exact heap_alloc_new _ _
 have HW3:Hid (w2.alloc (.cells #[.pointer (some ⟨C,0,none⟩)] 113)=w3∧w2.heap.size=Q):=⟨hw3.symm,hQ.symm⟩
 have HB3:Hid (Bw w w3):=HB2.out.trans (hb3.mono HB2.out.size)
 have HCD:Hid (∀W,Bw w3 W→Cd W C B M dv fo q (bB nb) nn∧W.cell? ⟨Q,0,none⟩=some (.pointer (some ⟨C,0,none⟩))∧mF W (.slice o m c) ins∧E3 W E.st E.bt E.tt E.sq E.bq E.tq):=fun W hW=>by
  have hbW:Bw w W:=HB3.out.trans (hW.mono HB3.out.size)
  exact⟨(hcd.keep hb3).keep hW,aD hW (cr hr3 rfl),HG.out.2.below hbW,(HG.out.1.keep hbW).e3⟩
 have hb33:Bw w3 w3:=Below.refl _ _
 obtain⟨hc3,q3,hi3,he3⟩:=HCD.out w3 hb33
 have HRX:Hid (Calls Tryz.prog 53 #[.slice o m c,.func (.func 54) #[] #[.pointer (some ⟨Q,0,none⟩)]] w3 fun e w'=>∃i:Int,e=.returned (.int .i64 i)∧AJ q ins i∧Bw w3 w'):=K9 hc3 q3 (fun x hx=>HPR.out.2.FX x hx) o m c ins HB1.out.2.1 hi3
 have HST:Hid (∀W,Bw w3 W→Calls Tryz.prog 56 #[.pointer (some ⟨C,0,none⟩)] W fun e w'=>∃o c,e=.returned (.slice o (q.ks.length+1) c)∧kY w' (.slice o (q.ks.length+1) c) (uE q (bB nb) nn)∧Bw W w'):=fun W hW=>J4 (HCD.out W hW).1 (fun x hx=>⟨(HPR.out.1.ks x hx).1,FN HPR.out.1 (HPR.out.1.ks x hx).1⟩) (by have:=HPR.out.1.len;omega)
 have g3:w3.cell? ⟨2,0,none⟩=some (.iface E.bt E.bq):=he3.bound
 clear hcd hw3 hQ hb3 hr3 hb33 hc3 hi3 he3 q3 HG
 by_cases hml:300<m
 ·have n1:(300:Int)<(m:Int):=by omega
  have HML:Hid (300<ins.length):=by have:=HB1.out.2.1;unfold Hid;omega
  clear hml
  go_upto_region 5 with fail
  rw[HW3.out.1,HW3.out.2]
  go_quiet (fail)
  go_wp2
  try simp only[Exit.inBlock,Exit.then]
  refine bodyPost_ret (results_tmp2 rfl _ _ _) rfl ?_
  exact⟨iR HB3.out _,.inr ⟨d,f,HRT.out.1,.inl ⟨.inr HML.out,rfl⟩⟩⟩
 have n1:¬(300:Int)<(m:Int):=by omega
 have n2:(m:Int)≤300:=by omega
 have HML:Hid (ins.length≤300∧m≤300):=by have:=HB1.out.2.1;unfold Hid;omega
 clear hml g3
 go_upto_region 6 with fail
 rw[HW3.out.1,HW3.out.2]
 go_upto_region 7 with(go_at_call 53;refine HRX.out.mono ?_;rintro e w4 ⟨i,rfl,hfit,hb4⟩)
 have HB4:=aA hb4
 clear hb4 HRX
 rcases hfit with⟨rfl,hall⟩ | ⟨k,l,rfl,hk,hl,hlt⟩
 ·have HAL:=aA hall
  clear hall
  have q4:=(HCD.out w4 HB4.out).2.1
  go_upto_region 11 with(go_at_call 56;refine(HST.out w4 HB4.out).mono ?_;rintro e w5 ⟨so,sc,rfl,hv5,hb5⟩)
  have HB5:Hid (Bw w3 w5):=HB4.out.trans (hb5.mono HB4.out.size)
  have HV5:=aA hv5
  clear hv5 hb5 q4 HST HW1 HW3
  obtain⟨K,hK⟩:∃K,K=q.ks.length+1:=⟨_,rfl⟩
  rw[←hK] at HV5 ⊢
  have HK:=aA hK
  clear hK
  go_upto_region 12 with fail
  go_loopw [13,14,47] (fun lv st t wr=>∃(j:Nat) (lo:Option Addr) (lc:Nat) (so:Option Addr) (sc:Nat),j≤m∧lv=.slice lo j lc∧st=.slice so K sc∧t=.int .i64 j∧Hid (Ig nb nn q ins w3 K j lo lc so sc wr)) (fun _ _ t _=>m-(intOf t).toNat)
  case atStart=>
   refine⟨0,none,0,so,sc,Nat.zero_le _,rfl,rfl,rfl,[],true,_,[],Rp.zero,World.ownsRow_nil _ _ _ _,mE.nil _ _,?_,HB5.out⟩
   have h:=HV5.out
   unfold kY at h
   have hl:(uE q (bB nb) nn).length=K:=by rw[HK.out];unfold uE;simp
   rw[hl] at h
   exact aB.less h (fun b _=>by unfold Off;simp [Value.ownBlock])
  case round=>
   obtain⟨j,lo,lc,so,sc,hj,rfl,rfl,rfl,HR⟩:=hrel
   by_cases hjl:j<m
   ·obtain⟨tks,fr,mem,xs,hrp,hown,htk,hst,hbr⟩:=HR.out
    obtain⟨inp,hinp⟩:∃inp,ins[j]?=some inp:=⟨_,List.getElem?_eq_getElem (by have:=HB1.out.2.1;omega)⟩
    have htake:ins.take (j+1)=ins.take j++[inp]:=by rw[List.take_add_one,hinp];rfl
    have hfi:dO q.ps q.is inp=true:=HAL.out inp (List.mem_of_getElem? hinp)
    obtain⟨hcr,qr,hir,_⟩:=HCD.out wr hbr
    obtain⟨_,o',c',eo,hget⟩:=hir
    obtain⟨b,off,vo,vc,eo2,y0,hva⟩:=hget j inp hinp
    obtain⟨rfl,_,rfl⟩:=Value.slice.inj eo
    subst eo2
    have hmem:pU q mem:=hrp.mem HPR.out.1 HPR.out.2 HNL.out (fun l hl=>HAL.out l (List.mem_of_mem_take hl))
    have hsv:kY wr (.slice so (q.ks.length+1) sc) ((1,bB fr)::mem):=by
     have hl:((1,bB fr)::mem).length=q.ks.length+1:=by rw[List.length_cons,hmem.len]
     unfold kY
     rw[hl,←HK.out]
     exact hst.wide
    have HIN:Hid (Calls Tryz.prog 57 #[.pointer (some ⟨C,0,none⟩),.slice so K sc,.slice vo inp.length vc] wr (CO wr q inp (jD (bB nb) nn fr mem q) (jW q))):=by
     have h:=KT hcr HPR.out.1 HPR.out.2 HNL.out so sc fr mem hmem hsv vo inp.length vc inp hva rfl hfi
     rw[←HK.out] at h
     exact h
    have i0':(0:Int)≤(j:Int):=by omega
    have i1':(j:Int)<(m:Int):=by omega
    have HJ:Hid (j<m∧ins[j]?=some inp∧ins.take (j+1)=ins.take j++[inp]):=⟨hjl,hinp,htake⟩
    have N4:Hid (wrap64 ((j:Int)+1)=(j:Int)+1):=by have:=HML.out.2;unfold Hid wrap64;omega
    have HMX:Hid (j+1≤maxLen∧(j+1)*56≤140737488355328):=by have:=HML.out.2;unfold Hid maxLen;omega
    have HRR:Hid (Rp (bB nb) nn q (ins.take j) tks fr mem∧wr.ownsRow w3.heap.size 112 4 (.slice lo j lc) j xs∧mE wr (Off (.slice lo j lc)) tks xs∧Bw w3 wr∧(tks.length=j)):=⟨hrp,hown,htk,hbr,by rw[hrp.len.1,List.length_take];have:=HB1.out.2.1;omega⟩
    have HOB:Hid (∀k,(Value.slice lo j lc).ownBlock=some k→w3.heap.size≤k∧k<wr.heap.size):=fun k hk=>hown.lt k hk
    clear hrp hown htk hst hbr hinp htake hfi hcr eo hget hva hmem hsv hj hjl HR
    go_upto_region 14 with fail
    clear y0
    go_wp2_with fail
    refine HIN.out.mono ?_
    rintro e w6 ⟨hb6,hins⟩
    have HB6:Hid (Bw wr w6∧Bw w3 w6):=⟨hb6,HRR.out.2.2.2.1.trans (hb6.mono HRR.out.2.2.2.1.size)⟩
    clear hb6 qr HIN
    have HO6:Hid (w6.ownsRow w3.heap.size 112 4 (.slice lo j lc) j xs∧mE w6 (Off (.slice lo j lc)) tks xs):=⟨mK HRR.out.2.1 HB6.out.1,HRR.out.2.2.1.keep (fun b hb hl=>⟨hb,HB6.out.1.block b hl⟩)⟩
    have HFR:Hid (∀b,wr.heap.size≤b→Off (.slice lo j lc) b):=fun b hb e=>by have:=(HOB.out b e).2;omega
    rcases hins with⟨g,ta,tn,tc,hwk,rfl⟩ | ⟨g,so2,sc2,co,cc,ta,tc,hwk,rfl,hv,hbl,hst⟩
    ·have HWK:=aA hwk
     clear hwk
     simp only[qC]
     obtain⟨w7,hw7⟩:∃w7,w7=w6.alloc (.cells #[.slice none 0 0,.bool false,.bool true,.slice none 0 0] 112):=⟨_,rfl⟩
     obtain⟨T,hT⟩:∃T,T=w6.heap.size:=⟨_,rfl⟩
     have hb7:Bw w6 w7:=by rw[hw7];exact aH
     have hr7:w7.heap[T]?=some (.cells #[.slice none 0 0,.bool false,.bool true,.slice none 0 0] 112 (0,0)):=by rw[hw7,hT];exact heap_alloc_new _ _
     have t0:w7.cell? ⟨T,0,none⟩=some (.slice none 0 0):=cr hr7 rfl
     have t1:w7.cell? ⟨T,0+1,none⟩=some (.bool false):=cr hr7 rfl
     have t2:w7.cell? ⟨T,0+2,none⟩=some (.bool true):=cr hr7 rfl
     have t3:w7.cell? ⟨T,0+3,none⟩=some (.slice none 0 0):=cr hr7 rfl
     have hb8:Bw w7 (w7.alloc (.cells #[.slice none 0 0,.bool false,.bool true,.slice none 0 0] 112)):=aH
     have hb68:Bw w6 (w7.alloc (.cells #[.slice none 0 0,.bool false,.bool true,.slice none 0 0] 112)):=hb7.trans (hb8.mono hb7.size)
     have HNW:Hid _:=World.news_of_block (heap_alloc_new w7 (.cells #[.slice none 0 0,.bool false,.bool true,.slice none 0 0] 112))
     have HOW:Hid ((w7.alloc (.cells #[.slice none 0 0,.bool false,.bool true,.slice none 0 0] 112)).ownsRow w3.heap.size 112 4 (.slice lo j lc) j xs∧w3.heap.size≤(w7.alloc (.cells #[.slice none 0 0,.bool false,.bool true,.slice none 0 0] 112)).heap.size):=⟨mK HO6.out.1 hb68,Nat.le_trans HB6.out.2.size hb68.size⟩
     have HFIN:Hid (∀(g2 cap:Nat) (w9:World),w9.ownsRow w3.heap.size 112 4 (.slice (some ⟨g2,0,none⟩) (j+1) cap) (j+1) (xs++[.slice none 0 0,.bool false,.bool true,.slice none 0 0])→(w7.alloc (.cells #[.slice none 0 0,.bool false,.bool true,.slice none 0 0] 112)).grownBy w9 (Value.slice lo j lc).ownBlock→((Value.slice lo j lc).ownBlock=some g2∨g2=(w7.alloc (.cells #[.slice none 0 0,.bool false,.bool true,.slice none 0 0] 112)).heap.size)→w9.cell? ⟨T,0+2,none⟩=some (.bool true)∧(Rn (bB nb) nn q ins (tks++[rV])∧(tks++[rV]).length=j+1∧eU w9 (.slice (some ⟨g2,0,none⟩) (j+1) cap) (tks++[rV])∧Bw w3 w9)):=fun g2 cap w9 hown9 hgrow hat=>by
      have hs8:aJ (Off (.slice lo j lc)) (Off (.slice (some ⟨g2,0,none⟩) (j+1) cap)) (w7.alloc (.cells #[.slice none 0 0,.bool false,.bool true,.slice none 0 0] 112)) w9:=vN hgrow hat rfl
      have hs6:aJ (Off (.slice lo j lc)) (Off (.slice lo j lc)) w6 (w7.alloc (.cells #[.slice none 0 0,.bool false,.bool true,.slice none 0 0] 112)):=fun b hb hl=>⟨hb,hb68.block b hl⟩
      have hbW:Bw w3 w9:=by
       have h8:Bw w3 (w7.alloc (.cells #[.slice none 0 0,.bool false,.bool true,.slice none 0 0] 112)):=HB6.out.2.trans (hb68.mono HB6.out.2.size)
       exact h8.grown hgrow h8.size (fun k hk=>(HOB.out k hk).1)
      have hr8:(w7.alloc (.cells #[.slice none 0 0,.bool false,.bool true,.slice none 0 0] 112)).heap[T]?=some (.cells #[.slice none 0 0,.bool false,.bool true,.slice none 0 0] 112 (0,0)):=aN hb8 hr7
      have hr9:w9.heap[T]?=some (.cells #[.slice none 0 0,.bool false,.bool true,.slice none 0 0] 112 (0,0)):=by
       rw[←hr8]
       refine hgrow.block T (bN hr8).1 (fun e=>?_)
       have h1:=(HOB.out T e.symm).2
       have h2:=HB6.out.1.size
       omega
      have htk:=((HO6.out.2.keep hs6).keep hs8).snoc (JI w9 _)
      have hl:(tks++[rV]).length=j+1:=by rw[List.length_append,HRR.out.2.2.2.2];rfl
      refine⟨cr hr9 rfl,.inr ⟨ins.take j,inp,ins.drop (j+1),tks,fr,mem,g,?_,HRR.out.1,HWK.out,rfl⟩,hl,⟨_,by rw[hl];exact(aB.iH hown9).wide,htk.keep (fun _ _ _=>⟨trivial,rfl⟩)⟩,hbW⟩
      have hjl:j<ins.length:=by have:=HJ.out.1;have:=HB1.out.2.1;omega
      have h1:=List.take_append_drop j ins
      rw[List.drop_eq_getElem_cons hjl] at h1
      have h2:=HJ.out.2.1
      rw[List.getElem?_eq_getElem hjl] at h2
      rw[Option.some.inj h2] at h1
      exact h1.symm
     have HW7:Hid (w6.alloc (.cells #[.slice none 0 0,.bool false,.bool true,.slice none 0 0] 112)=w7∧w6.heap.size=T):=⟨hw7.symm,hT.symm⟩
     clear hw7 hT hb7 hr7 hb8 hb68 HFR HO6 HB6
     go_upto_region 15 with fail
     rw[HW7.out.1,HW7.out.2]
     go_wp2_with (first | (at_builtin;refine wpList_append_lies _ rfl _ _ 53 rfl w3.heap.size 112 i0 _ 4 56 Tryz.underlying53 hi0 hz0 hz1 hz2 rfl (by omega) (.slice lo j lc) j xs rfl HOW.out.1 ⟨w7.heap.size,0,none⟩ 1 1 [.slice none 0 0,.bool false,.bool true,.slice none 0 0] rfl rfl HNW.out (by simp [Value.oneCell']) (by omega) HMX.out.1 HMX.out.2 HOW.out.2 _ rfl ?_;intro g2 cap w9 hown9 hgrow hat hlt9;obtain⟨t9,hres⟩:=HFIN.out g2 cap w9 hown9 hgrow hat;have HRES:=aA hres;clear hown9 hgrow hat hlt9 hres t0 t1 t2 t3) | go_in)
     try simp only[Exit.inBlock,Exit.then]
     refine bodyPost_ret (results_tmp2 rfl _ _ _) rfl ?_
     obtain⟨h1,h2,h3,h4⟩:=HRES.out
     rw[←h2] at h3
     exact⟨HB3.out.trans (h4.mono HB3.out.size),.inr ⟨d,f,HRT.out.1,.inr ⟨HRT.out.2.1,HML.out.1,ts,qs,by rw[←HRT.out.2.2.1];exact HPR.out.1,by rw[←HRT.out.2.2.1];exact HPR.out.2,HRT.out.2.2.2.1,HRT.out.2.2.2.2,.inr ⟨by rw[←HRT.out.2.2.1];exact HAL.out,tks++[rV],some ⟨g2,0,none⟩,cap,by rw[←HRT.out.2.2.1];exact h1,by rw[h2];rfl,h3⟩⟩⟩⟩
    ·have HWK:Hid (rP (bB nb) nn q fr mem inp g false∧fB wr.heap.size w6 (.slice so2 q.os.length sc2) (bM q g q.os)∧jN wr.heap.size w6 (.slice co q.cx.length cc) (iB g q.cx)∧fB wr.heap.size w6 (.slice ta (q.ks.length+1) tc) ((1,0)::bM q g q.ks)):=⟨hwk,hv,hbl,hst⟩
     clear hwk hv hbl hst
     simp only[qC]
     rw[←HK.out] at HWK ⊢
     obtain⟨w7,hw7⟩:∃w7,w7=w6.alloc (.cells #[.slice so2 q.os.length sc2,.bool (eF g q.ax),.bool false,.slice co q.cx.length cc] 112):=⟨_,rfl⟩
     obtain⟨T,hT⟩:∃T,T=w6.heap.size:=⟨_,rfl⟩
     have hb7:Bw w6 w7:=by rw[hw7];exact aH
     have hr7:w7.heap[T]?=some (.cells #[.slice so2 q.os.length sc2,.bool (eF g q.ax),.bool false,.slice co q.cx.length cc] 112 (0,0)):=by rw[hw7,hT];exact heap_alloc_new _ _
     have t0:w7.cell? ⟨T,0,none⟩=some (.slice so2 q.os.length sc2):=cr hr7 rfl
     have t1:w7.cell? ⟨T,0+1,none⟩=some (.bool (eF g q.ax)):=cr hr7 rfl
     have t2:w7.cell? ⟨T,0+2,none⟩=some (.bool false):=cr hr7 rfl
     have t3:w7.cell? ⟨T,0+3,none⟩=some (.slice co q.cx.length cc):=cr hr7 rfl
     have hb8:Bw w7 (w7.alloc (.cells #[.slice so2 q.os.length sc2,.bool (eF g q.ax),.bool false,.slice co q.cx.length cc] 112)):=aH
     have hb68:Bw w6 (w7.alloc (.cells #[.slice so2 q.os.length sc2,.bool (eF g q.ax),.bool false,.slice co q.cx.length cc] 112)):=hb7.trans (hb8.mono hb7.size)
     have HNW:Hid _:=World.news_of_block (heap_alloc_new w7 (.cells #[.slice so2 q.os.length sc2,.bool (eF g q.ax),.bool false,.slice co q.cx.length cc] 112))
     have HOW:Hid ((w7.alloc (.cells #[.slice so2 q.os.length sc2,.bool (eF g q.ax),.bool false,.slice co q.cx.length cc] 112)).ownsRow w3.heap.size 112 4 (.slice lo j lc) j xs∧w3.heap.size≤(w7.alloc (.cells #[.slice so2 q.os.length sc2,.bool (eF g q.ax),.bool false,.slice co q.cx.length cc] 112)).heap.size):=⟨mK HO6.out.1 hb68,Nat.le_trans HB6.out.2.size hb68.size⟩
     have HFIN:Hid (∀(g2 cap:Nat) (w9:World),w9.ownsRow w3.heap.size 112 4 (.slice (some ⟨g2,0,none⟩) (j+1) cap) (j+1) (xs++[.slice so2 q.os.length sc2,.bool (eF g q.ax),.bool false,.slice co q.cx.length cc])→(w7.alloc (.cells #[.slice so2 q.os.length sc2,.bool (eF g q.ax),.bool false,.slice co q.cx.length cc] 112)).grownBy w9 (Value.slice lo j lc).ownBlock→((Value.slice lo j lc).ownBlock=some g2∨g2=(w7.alloc (.cells #[.slice so2 q.os.length sc2,.bool (eF g q.ax),.bool false,.slice co q.cx.length cc] 112)).heap.size)→w9.cell? ⟨T,0+2,none⟩=some (.bool false)∧(Ig nb nn q ins w3 K (j+1) (some ⟨g2,0,none⟩) cap ta tc w9)):=fun g2 cap w9 hown9 hgrow hat=>by
      have hs8:aJ (Off (.slice lo j lc)) (Off (.slice (some ⟨g2,0,none⟩) (j+1) cap)) (w7.alloc (.cells #[.slice so2 q.os.length sc2,.bool (eF g q.ax),.bool false,.slice co q.cx.length cc] 112)) w9:=vN hgrow hat rfl
      have hs6:aJ (Off (.slice lo j lc)) (Off (.slice lo j lc)) w6 (w7.alloc (.cells #[.slice so2 q.os.length sc2,.bool (eF g q.ax),.bool false,.slice co q.cx.length cc] 112)):=fun b hb hl=>⟨hb,hb68.block b hl⟩
      have hbW:Bw w3 w9:=by
       have h8:Bw w3 (w7.alloc (.cells #[.slice so2 q.os.length sc2,.bool (eF g q.ax),.bool false,.slice co q.cx.length cc] 112)):=HB6.out.2.trans (hb68.mono HB6.out.2.size)
       exact h8.grown hgrow h8.size (fun k hk=>(HOB.out k hk).1)
      have hr8:(w7.alloc (.cells #[.slice so2 q.os.length sc2,.bool (eF g q.ax),.bool false,.slice co q.cx.length cc] 112)).heap[T]?=some (.cells #[.slice so2 q.os.length sc2,.bool (eF g q.ax),.bool false,.slice co q.cx.length cc] 112 (0,0)):=aN hb8 hr7
      have hr9:w9.heap[T]?=some (.cells #[.slice so2 q.os.length sc2,.bool (eF g q.ax),.bool false,.slice co q.cx.length cc] 112 (0,0)):=by
       rw[←hr8]
       refine hgrow.block T (bN hr8).1 (fun e=>?_)
       have h1:=(HOB.out T e.symm).2
       have h2:=HB6.out.1.size
       omega
      have htc:=JJ (F:=Off (.slice lo j lc)) HFR.out HWK.out.2.1 HWK.out.2.2.1
      have htk:=((HO6.out.2.keep hs6).keep hs8).snoc ((htc.keep hs6).keep hs8)
      have hst:aB w6 (Off (.slice lo j lc)) 2 (.slice ta K tc) K (bG ((1,0)::bM q g q.ks)):=by
       have h:=aB.less (S':=Off (.slice lo j lc)) HWK.out.2.2.2 HFR.out
       have hl:((1,0)::bM q g q.ks).length=K:=by rw[HK.out,List.length_cons,rX]
       rw[hl] at h
       exact h
      refine⟨cr hr9 rfl,tks++[qA q g],false,bM q g q.ks,_,?_,hown9,htk,(hst.keep hs6).keep hs8,hbW⟩
      rw[HJ.out.2.2]
      exact Rp.step HRR.out.1 HWK.out.1
     have HW7:Hid (w6.alloc (.cells #[.slice so2 q.os.length sc2,.bool (eF g q.ax),.bool false,.slice co q.cx.length cc] 112)=w7∧w6.heap.size=T):=⟨hw7.symm,hT.symm⟩
     clear hw7 hT hb7 hr7 hb8 hb68 HFR HO6 HB6
     go_upto_region 15 with fail
     rw[HW7.out.1,HW7.out.2]
     go_wp2_with (first | (at_builtin;refine wpList_append_lies _ rfl _ _ 53 rfl w3.heap.size 112 i0 _ 4 56 Tryz.underlying53 hi0 hz0 hz1 hz2 rfl (by omega) (.slice lo j lc) j xs rfl HOW.out.1 ⟨w7.heap.size,0,none⟩ 1 1 [.slice so2 q.os.length sc2,.bool (eF g q.ax),.bool false,.slice co q.cx.length cc] rfl rfl HNW.out (by simp [Value.oneCell']) (by omega) HMX.out.1 HMX.out.2 HOW.out.2 _ rfl ?_;intro g2 cap w9 hown9 hgrow hat hlt9;obtain⟨t9,hres⟩:=HFIN.out g2 cap w9 hown9 hgrow hat;have HRES:=aA hres;clear hown9 hgrow hat hlt9 hres t0 t1 t2 t3) | go_in)
     exact⟨⟨_,_,_,_,_,_,⟨j+1,by have:=HJ.out.1;have:=HB1.out.2.1;omega,_,_,rfl,_,_,rfl,rfl,HRES.out⟩,rfl,rfl,rfl,rfl,rfl,rfl⟩,by have:=HJ.out.1;have:=HB1.out.2.1;simp [intOf];omega⟩
   ·obtain rfl:m=j:=by omega
    have hE:∃(tks:List Tk),Rn (bB nb) nn q ins tks∧tks.length=m∧eU wr (.slice lo m lc) tks∧Bw w3 wr:=by
     obtain⟨tks,fr,mem,xs,hrp,hown,htk,hst,hbr⟩:=HR.out
     rw[List.take_of_length_le (by have:=HB1.out.2.1;omega)] at hrp
     have hl:tks.length=m:=by rw[hrp.len.1];exact HB1.out.2.1.symm
     exact⟨tks,.inl ⟨fr,mem,hrp⟩,hl,⟨xs,by rw[hl];exact(aB.iH hown).wide,htk.keep (fun _ _ _=>⟨trivial,rfl⟩)⟩,hbr⟩
    have HE:=aA hE
    clear hj hjl HR hE
    go_wp2
    try simp only[Exit.inBlock,Exit.then]
    refine bodyPost_ret (results_tmp2 rfl _ _ _) rfl ?_
    obtain⟨tks,h1,h2,h3,h4⟩:=HE.out
    rw[←h2] at h3
    exact⟨HB3.out.trans (h4.mono HB3.out.size),.inr ⟨d,f,HRT.out.1,.inr ⟨HRT.out.2.1,HML.out.1,ts,qs,by rw[←HRT.out.2.2.1];exact HPR.out.1,by rw[←HRT.out.2.2.1];exact HPR.out.2,HRT.out.2.2.2.1,HRT.out.2.2.2.2,.inr ⟨by rw[←HRT.out.2.2.1];exact HAL.out,tks,lo,lc,by rw[←HRT.out.2.2.1];exact h1,by rw[h2];rfl,h3⟩⟩⟩⟩
 ·have HE:Hid (ins[k]?=some l∧dO q.ps q.is l=false∧∀(j:Nat) (l':List (Int×Int)),j<k→ins[j]?=some l'→dO q.ps q.is l'=true):=⟨hk,hl,hlt⟩
  have gt:w4.cell? ⟨3,0,none⟩=some (.iface E.tt E.tq):=(HCD.out w4 HB4.out).2.2.2.type
  have n3:(0:Int)≤(k:Int):=by omega
  clear hk hl hlt
  go_upto_region 8 with fail
  go_region
  try simp only[Exit.then]
  go_wp2
  try simp only[Exit.then]
  refine bodyPost_ret (results_tmp2 rfl _ _ _) rfl ?_
  have hb:Bw w (w4.alloc (.cells #[.int .i64 (k:Int),.iface E.tt E.tq] 86)).drew:=by
   have h4:Bw w w4:=HB3.out.trans (HB4.out.mono HB3.out.size)
   exact(h4.alloc h4.size _).drew
  have hr:(w4.alloc (.cells #[.int .i64 (k:Int),.iface E.tt E.tq] 86)).drew.heap[w4.heap.size]?=some (.cells #[.int .i64 (k:Int),.iface E.tt E.tq] 86 (0,0)):=heap_alloc_new w4 _
  refine⟨hb,.inr ⟨d,f,HRT.out.1,.inr ⟨HRT.out.2.1,HML.out.1,ts,qs,by rw[←HRT.out.2.2.1];exact HPR.out.1,by rw[←HRT.out.2.2.1];exact HPR.out.2,HRT.out.2.2.2.1,HRT.out.2.2.2.2,.inl ⟨k,l,w4.heap.size,HE.out.1,by rw[←HRT.out.2.2.1];exact HE.out.2.1,by rw[←HRT.out.2.2.1];exact HE.out.2.2,rfl,?_,?_⟩⟩⟩⟩
  ·rw[cell_of_row _ _ _ _ _ (0,0) hr];rfl
  ·rw[cell_of_row _ _ _ _ _ (0,0) hr];rfl
end Go.Proofs.YtmgfakcccfahaaaGreatDoor
