/-
  package flow: an instant of any program, BY CONTRACT: it traps, or what can be seen of it and the state behind it.
-/
import Derived.Test.YtmgfakcccfahaaaGreatDoorN40
import Derived.Test.YtmgfakcccfahaaaGreatDoorN44
namespace Go.Proofs.YtmgfakcccfahaaaGreatDoor
open Go.RowKit Go.Maps
set_option maxRecDepth 100000
set_option maxHeartbeats 8000000

theorem Da(l:List (Int×Int)):∀u∈bG l,u.oneCell'=true:=by
 intro u hu
 unfold bG at hu
 obtain⟨y,_,hy⟩:=List.mem_flatMap.1 hu
 simp at hy
 rcases hy with rfl | rfl<;>rfl
theorem P5(w:World)(l:List (Int×Int))(o:Option Addr)(n c:Nat)(h:kY w (.slice o n c) l)(hl:n=l.length)(h0:0<n)(hs:n≤200000) :
  Calls Tryz.prog 105 #[.slice o n c] w fun e w'=>∃g cap,e=.returned (.slice g n cap)∧Bw w w':=by
 obtain⟨i0,hi0,hz0,hz1,hz2⟩:=info_parts Tryz.uV
 have hnil:=fun (w:World) (a:Option Addr) (n c:Nat)=>Lib.run_eql_slice_nil w 64 66 a n c 0 0 Tryz.underlying64
 obtain⟨b,off,c',e,hb,hl2,hc⟩:=aB.at h (by rw[wT];omega)
 obtain⟨⟨rfl,hnl⟩,rfl⟩:(o=some ⟨b,off,none⟩∧n=l.length)∧c=c':=by simpa [and_assoc] using e
 have HC:=aA hc
 have HLN:Hid ((bG l).length=n*2):=by unfold Hid;rw[wT,hl]
 have HOW:Hid ((w.alloc (.cells #[] 66)).ownsRow w.heap.size 66 2 (.slice (some ⟨w.heap.size,0,none⟩) 0 0) 0 []):=⟨rfl,.inr ⟨w.heap.size,0,#[],rfl,Nat.le_refl _,heap_alloc_new _ _,Nat.le_refl _,by unfold maxLen;omega,rfl,rfl⟩⟩
 have hba:Bw w (w.alloc (.cells #[] 66)):=aH
 have HNW:Hid (∀j u,(bG l)[j]?=some u→(w.alloc (.cells #[] 66)).cell? ((⟨b,off,none⟩:Addr).add j)=some u):=fun j u hj=>by rw[Addr.add_lit];exact aD hba (HC.out j u hj)
 have HBA:=aA hba
 have HM:Hid (0<n∧0+n≤maxLen∧(0+n)*16≤140737488355328):=by unfold Hid maxLen;omega
 clear h hs h0 e hb hc hba hl hl2
 go_enter Tryz.func105,Tryz.ntmps105
 go_wp2_with (at_builtin;refine wpList_append_lies _ rfl _ _ 64 rfl w.heap.size 66 i0 _ 2 16 Tryz.underlying64 hi0 hz0 hz1 hz2 rfl (by omega) (.slice (some ⟨w.heap.size,0,none⟩) 0 0) 0 [] rfl HOW.out ⟨b,off,none⟩ n c (bG l) rfl HLN.out HNW.out (Da l) HM.out.1 HM.out.2.1 HM.out.2.2 HBA.out.size _ rfl ?_;intro g cap w2 hown2 hgrow hat hlt)
 have hb2:Bw w w2:=HBA.out.grown hgrow HBA.out.size (fun k hk=>by simp [Value.ownBlock] at hk;omega)
 go_ret
 exact⟨some ⟨g,0,none⟩,cap,by rw[hnl];rfl,hb2⟩
def CO(w:World)(q:bC)(inp:List (Int×Int))(wk:(Nat→Int)→Pq→Int×Bool)(Rd:Nat→Int→Prop)(e:Ending)(w':World):Prop:=
 Bw w w'∧((∃(g:Nat→Int) (ta:Option Addr) (tn tc:Nat),mD q inp wk Rd q.ts.length g true∧e=.returned (.tuple #[qC none 0 0 false true none 0 0,.slice ta tn tc])) ∨
 ∃(g:Nat→Int) (so:Option Addr) (sc:Nat) (co:Option Addr) (cc:Nat) (ta:Option Addr) (tc:Nat),mD q inp wk Rd q.ts.length g false∧e=.returned (.tuple #[qC so q.os.length sc (eF g q.ax) false co q.cx.length cc,.slice ta (q.ks.length+1) tc])∧fB w.heap.size w' (.slice so q.os.length sc) (bM q g q.os)∧jN w.heap.size w' (.slice co q.cx.length cc) (iB g q.cx)∧fB w.heap.size w' (.slice ta (q.ks.length+1) tc) ((1,0)::bM q g q.ks))
theorem OC{w:World}{C B M:Nat}{dv:Value}{f:List UInt8→Option Value}{q:bC}{nb nn:Int}(hcd:Cd w C B M dv f q nb nn)(hq:jX q)(hn:q.ps.length≤100000)(hos:∀x∈q.os,x<q.ps.length)(hol:q.os.length≤2097152)(ha:∀x∈q.ax,x<q.ps.length)(hc:∀x∈q.cx,x<q.ps.length)(hal:q.ax.length≤2097152)(hcl:q.cx.length≤2097152)(hks:∀x∈q.ks,x<q.ps.length)(hkl:q.ks.length≤2097152)
  (so:Option Addr) (m sc:Nat) (hm1:m≤100000) (s0:Int×Int) (mem:List (Int×Int)) (hs:kY w (.slice so (m+1) sc) (s0::mem)) (io:Option Addr) (il ic:Nat) (inp:List (Int×Int)) (hin:kF w (.slice io il ic) inp) (hil:inp.length=q.is.length) (him:il=inp.length) (wk:(Nat→Int)→Pq→Int×Bool) (Rd:Nat→Int→Prop) (hRi:∀(i x:Nat) (v:Int×Int),q.is[i]?=some x→inp[i]?=some v→Rd x v.2)
  (hw:∀w1 I R,Bw w w1→yJ w1 q ⟨I,R,B,C,s0.2==1,if sc=1 then so else so.map (·.add 2),m,sc-1,q.ps.length,fun _=>0,0,0,0,false⟩ wk Rd) :
  Calls Tryz.prog 57 #[.pointer (some ⟨C,0,none⟩),.slice so (m+1) sc,.slice io il ic] w (CO w q inp wk Rd):=by
 have hsl:m+1=(s0::mem).length:=by
  obtain⟨_,_,o',c',e,_⟩:=hs
  exact(Value.slice.inj e).2.1
 obtain⟨w1,hw1⟩:∃w1,w1=w.alloc (.cells #[.slice none 0 0,.bool false,.bool false,.slice none 0 0] 112):=⟨_,rfl⟩
 obtain⟨T,hT⟩:∃T,T=w.heap.size:=⟨_,rfl⟩
 have hb1:Bw w w1:=by rw[hw1];exact aH
 have hr1:w1.heap[T]?=some (.cells #[.slice none 0 0,.bool false,.bool false,.slice none 0 0] 112 (0,0)):=by rw[hw1,hT];exact heap_alloc_new _ _
 have hcd1:=hcd.keep hb1
 have HNI:Hid (Calls Tryz.prog 103 #[.pointer (some ⟨C,0,none⟩),.slice so (m+1) sc] w1 fun e w'=>∃I,w1.heap.size≤I∧e=.returned (.pointer (some ⟨I,0,none⟩))∧w'.heap[I]?=some (.cells #[.pointer (some ⟨B,0,none⟩),.pointer (some ⟨C,0,none⟩),.bool (s0.2==1),.slice (if sc=1 then so else so.map (·.add 2)) m (sc-1),.slice none 0 0,.int .i64 0,.int .i64 0,.int .i64 0,.bool false] 192 (0,0))∧Bw w1 w'):=Nl hcd1 so m sc s0 mem (hs.keep hb1)
 have HWA:Hid (∀I w2,Cw w1 I B C (s0.2==1) (if sc=1 then so else so.map (·.add 2)) m (sc-1) w2→Calls Tryz.prog 104 #[.pointer (some ⟨I,0,none⟩),.slice io il ic] w2 fun e w'=>e=.returned (.tuple #[])∧∃R d',Cv w1 q inp wk Rd ⟨I,R,B,C,s0.2==1,if sc=1 then so else so.map (·.add 2),m,sc-1,q.ps.length,fun _=>0,0,0,0,false⟩ d' w'):=fun I w2 h2=>IV hcd1 h2 hq hn io il ic inp (hin.below hb1) hil him wk Rd hRi (fun R=>hw w1 I R hb1)
 have HTK:Hid (∀d w2,bF w1 d w2→d.B=B→d.n=q.ps.length→Calls Tryz.prog 106 #[.pointer (some ⟨d.I,0,none⟩)] w2 fun e w'=>∃so sc co cc,e=.returned (qC so q.os.length sc (eF d.g q.ax) false co q.cx.length cc)∧fB w2.heap.size w' (.slice so q.os.length sc) (bM q d.g q.os)∧jN w2.heap.size w' (.slice co q.cx.length cc) (iB d.g q.cx)∧Bw w2 w'):=fun d w2 hi hB hn=>JL (by rw[hB];exact hcd1) hi hn hos hol ha hc hal hcl
 have HSA:Hid (∀d w2,bF w1 d w2→d.B=B→d.n=q.ps.length→Calls Tryz.prog 107 #[.pointer (some ⟨d.I,0,none⟩)] w2 fun e w'=>∃so sc,e=.returned (.slice so (q.ks.length+1) sc)∧fB w2.heap.size w' (.slice so (q.ks.length+1) sc) ((1,0)::bM q d.g q.ks)∧Bw w2 w'):=fun d w2 hi hB hn=>J3 (by rw[hB];exact hcd1) hi hn hks hkl
 have HCL:Hid (∀W,Bw w1 W→Calls Tryz.prog 105 #[.slice so (m+1) sc] W fun e w'=>∃g cap,e=.returned (.slice g (m+1) cap)∧Bw W w'):=fun W hW=>P5 W (s0::mem) so (m+1) sc ((hs.keep hb1).keep hW) hsl (by omega) (by omega)
 have HB1:Hid (Bw w w1∧w1.heap[T]?=some (.cells #[.slice none 0 0,.bool false,.bool false,.slice none 0 0] 112 (0,0))∧w.heap.size≤T):=⟨hb1,hr1,by rw[hT];exact Nat.le_refl _⟩
 have HW1:Hid (w.alloc (.cells #[.slice none 0 0,.bool false,.bool false,.slice none 0 0] 112)=w1∧w.heap.size=T):=⟨hw1.symm,hT.symm⟩
 clear hcd hq hn hos hol ha hc hks hkl hs hin hil him hRi hw hw1 hT hb1 hr1 hcd1 hsl hal hcl hm1
 go_enter Tryz.func57,Tryz.ntmps57
 go_upto_region 1 with fail
 rw[HW1.out.1,HW1.out.2]
 go_upto_region 2 with(go_at_call 103;refine HNI.out.mono ?_;rintro e w2 ⟨I,hI,rfl,hrI,hb2⟩)
 have HWK:Hid (Cw w1 I B C (s0.2==1) (if sc=1 then so else so.map (·.add 2)) m (sc-1) w2):=⟨hrI,hI,hb2⟩
 clear hI hrI hb2
 go_wp2_with fail
 refine(HWA.out I w2 HWK.out).mono ?_
 rintro e w3 ⟨rfl,R,d,he⟩
 have HE:Hid (d.I=I∧d.B=B∧d.n=q.ps.length∧bF w1 d w3∧mD q inp wk Rd q.ts.length d.g d.tr):=⟨he.same.I,he.same.B,he.same.n,he.xR,he.st⟩
 cases htr:d.tr with
 | true=>
  have t8:w3.cell? ⟨I,0+8,none⟩=some (.bool true):=by have:=he.xR.c8;rw[HE.out.1,htr] at this;exact this
  have HST:Hid (mD q inp wk Rd q.ts.length d.g true):=by have:=HE.out.2.2.2.2;rw[htr] at this;exact this
  have HI3:Hid (Bw w1 w3):=he.xR.below
  have hr3:=aN HI3.out HB1.out.2.1
  have HT3:Hid (∀W,Bw w3 W→W.cell? ⟨T,0,none⟩=some (.slice none 0 0)∧W.cell? ⟨T,0+1,none⟩=some (.bool false)∧W.cell? ⟨T,0+2,none⟩=some (.bool false)∧W.cell? ⟨T,0+3,none⟩=some (.slice none 0 0)∧W.frozen? ⟨T,0,none⟩=false∧W.frozen? ⟨T,0+1,none⟩=false∧W.frozen? ⟨T,0+2,none⟩=false∧W.frozen? ⟨T,0+3,none⟩=false∧W.heap[T]?=some (.cells #[.slice none 0 0,.bool false,.bool false,.slice none 0 0] 112 (0,0))):=fun W hb=>by
   have hr5:=aN hb hr3
   refine⟨?_,?_,?_,?_,bR hr5,bR hr5,bR hr5,bR hr5,hr5⟩<;>(rw[cell_of_row W _ _ _ _ (0,0) hr5];rfl)
  clear he htr hr3 HTK HSA HNI HWA
  go_wp2_with (go_at_call 105;refine(HCL.out w3 HI3.out).mono ?_;rintro e w4 ⟨ta,tc,rfl,hb4⟩;obtain⟨t0,t1,t2,t3,f0,f1,f2,f3,hr4⟩:=HT3.out w4 hb4;have H4:Hid (Bw w3 w4∧w4.heap[T]?=some (.cells #[.slice none 0 0,.bool false,.bool false,.slice none 0 0] 112 (0,0))):=⟨hb4,hr4⟩;clear hb4 hr4)
  obtain⟨wE,hwE⟩:∃wE,wE=(((w4.setCell ⟨T,0,none⟩ (.slice none 0 0)).setCell ⟨T,1,none⟩ (.bool false)).setCell ⟨T,2,none⟩ (.bool true)).setCell ⟨T,3,none⟩ (.slice none 0 0):=⟨_,rfl⟩
  rw[←hwE]
  have hrE:wE.heap[T]?=some (.cells #[.slice none 0 0,.bool false,.bool true,.slice none 0 0] 112 (0,0)):=by
   rw[hwE]
   exact heap_setCell_same _ T 3 _ _ _ (heap_setCell_same _ T 2 _ _ _ (heap_setCell_same _ T 1 _ _ _ (heap_setCell_same w4 T 0 _ _ _ H4.out.2)))
  have hg:w4.grownBy wE (some T):=by
   rw[hwE]
   exact dK (dK (dK (bW w4 T 0 _) (bW _ T 1 _)) (bW _ T 2 _)) (bW _ T 3 _)
  have e0:wE.cell? ⟨T,0,none⟩=some (.slice none 0 0):=cr hrE rfl
  have e1:wE.cell? ⟨T,0+1,none⟩=some (.bool false):=cr hrE rfl
  have e2:wE.cell? ⟨T,0+2,none⟩=some (.bool true):=cr hrE rfl
  have e3:wE.cell? ⟨T,0+3,none⟩=some (.slice none 0 0):=cr hrE rfl
  have HF:Hid (Bw w wE):=by
   have hb:Bw w w4:=HB1.out.1.trans ((HI3.out.trans (H4.out.1.mono HI3.out.size)).mono HB1.out.1.size)
   exact hb.grown hg hb.size (fun k hk=>by obtain rfl:=Option.some.inj hk;exact HB1.out.2.2)
  refine bodyPost_ret (v:=.tuple #[qC none 0 0 false true none 0 0,.slice ta (m+1) tc]) ?_ rfl ?_
  ·simp [results,qC,e0,e1,e2,e3,go_sem]
  ·exact⟨HF.out,.inl ⟨d.g,ta,m+1,tc,HST.out,rfl⟩⟩
 | false=>
  have t8:w3.cell? ⟨I,0+8,none⟩=some (.bool false):=by have:=he.xR.c8;rw[HE.out.1,htr] at this;exact this
  have HST:Hid (mD q inp wk Rd q.ts.length d.g false):=by have:=HE.out.2.2.2.2;rw[htr] at this;exact this
  have HTC:=HTK.out d w3 HE.out.2.2.2.1 HE.out.2.1 HE.out.2.2.1
  rw[HE.out.1] at HTC
  have HTC2:Hid (Calls Tryz.prog 106 #[.pointer (some ⟨I,0,none⟩)] w3 fun e w'=>∃so sc co cc,e=.returned (.agg #[.slice so q.os.length sc,.bool (eF d.g q.ax),.bool false,.slice co q.cx.length cc])∧fB w3.heap.size w' (.slice so q.os.length sc) (bM q d.g q.os)∧jN w3.heap.size w' (.slice co q.cx.length cc) (iB d.g q.cx)∧Bw w3 w'):=HTC
  have HTL:Hid (T<w3.heap.size):=by
   have h1:=he.xR.below.size
   have h2:=(bN HB1.out.2.1).1
   unfold Hid;omega
  clear he HTC htr
  go_wp2_with (go_at_call 106;refine HTC2.out.mono ?_;rintro e w4 ⟨tb,tc,co,cc,rfl,hv4,ho4,hb4⟩)
  have HI4:Hid (bF w1 d w4):=HE.out.2.2.2.1.keep hb4
  have HSS:=HSA.out d w4 HI4.out HE.out.2.1 HE.out.2.2.1
  rw[HE.out.1] at HSS
  have HSC:Hid (Calls Tryz.prog 107 #[.pointer (some ⟨I,0,none⟩)] w4 fun e w'=>∃so sc,e=.returned (.slice so (q.ks.length+1) sc)∧fB w4.heap.size w' (.slice so (q.ks.length+1) sc) ((1,0)::bM q d.g q.ks)∧Bw w4 w'):=HSS
  have HV4:Hid (fB w3.heap.size w4 (.slice tb q.os.length tc) (bM q d.g q.os)∧jN w3.heap.size w4 (.slice co q.cx.length cc) (iB d.g q.cx)):=⟨hv4,ho4⟩
  clear HSS hv4 ho4 hb4 t8
  have HT4:Hid (w4.heap[T]?=some (.cells #[.slice none 0 0,.bool false,.bool false,.slice none 0 0] 112 (0,0))):=aN HI4.out.below HB1.out.2.1
  clear HTC2 HWA HNI HTK HSA HCL
  have HAFT:Hid (∀w5,Bw w4 w5→w5.cell? ⟨T,0,none⟩=some (.slice none 0 0)∧w5.cell? ⟨T,0+1,none⟩=some (.bool false)∧w5.cell? ⟨T,0+2,none⟩=some (.bool false)∧w5.cell? ⟨T,0+3,none⟩=some (.slice none 0 0)∧w5.frozen? ⟨T,0,none⟩=false∧w5.frozen? ⟨T,0+1,none⟩=false∧w5.frozen? ⟨T,0+2,none⟩=false∧w5.frozen? ⟨T,0+3,none⟩=false∧w5.heap[T]?=some (.cells #[.slice none 0 0,.bool false,.bool false,.slice none 0 0] 112 (0,0))):=fun w5 hb=>by
   have hr5:=aN hb HT4.out
   refine⟨?_,?_,?_,?_,bR hr5,bR hr5,bR hr5,bR hr5,hr5⟩<;>(rw[cell_of_row w5 _ _ _ _ (0,0) hr5];rfl)
  go_wp2_with (go_at_call 107;refine HSC.out.mono ?_;rintro e w5 ⟨sa,sd,rfl,hv5,hb5⟩;obtain⟨t0,t1,t2,t3,f0,f1,f2,f3,hr5⟩:=HAFT.out w5 hb5;have H5:Hid (fB w4.heap.size w5 (.slice sa (q.ks.length+1) sd) ((1,0)::bM q d.g q.ks)∧Bw w4 w5∧w5.heap[T]?=some (.cells #[.slice none 0 0,.bool false,.bool false,.slice none 0 0] 112 (0,0))):=⟨hv5,hb5,hr5⟩;clear hv5 hb5 hr5)
  obtain⟨A,hA⟩:∃A,A=eF d.g q.ax:=⟨_,rfl⟩
  rw[←hA]
  have HAA:=aA hA
  clear hA
  obtain⟨wE,hwE⟩:∃wE,wE=(((w5.setCell ⟨T,0,none⟩ (.slice tb q.os.length tc)).setCell ⟨T,1,none⟩ (.bool A)).setCell ⟨T,2,none⟩ (.bool false)).setCell ⟨T,3,none⟩ (.slice co q.cx.length cc):=⟨_,rfl⟩
  rw[←hwE]
  have hrE:wE.heap[T]?=some (.cells #[.slice tb q.os.length tc,.bool A,.bool false,.slice co q.cx.length cc] 112 (0,0)):=by
   rw[hwE]
   exact heap_setCell_same _ T 3 _ _ _ (heap_setCell_same _ T 2 _ _ _ (heap_setCell_same _ T 1 _ _ _ (heap_setCell_same w5 T 0 _ _ _ H5.out.2.2)))
  have hg:w5.grownBy wE (some T):=by
   rw[hwE]
   exact dK (dK (dK (bW w5 T 0 _) (bW _ T 1 _)) (bW _ T 2 _)) (bW _ T 3 _)
  have e0:wE.cell? ⟨T,0,none⟩=some (.slice tb q.os.length tc):=cr hrE rfl
  have e1:wE.cell? ⟨T,0+1,none⟩=some (.bool A):=cr hrE rfl
  have e2:wE.cell? ⟨T,0+2,none⟩=some (.bool false):=cr hrE rfl
  have e3:wE.cell? ⟨T,0+3,none⟩=some (.slice co q.cx.length cc):=cr hrE rfl
  have HF:Hid (fB w.heap.size wE (.slice tb q.os.length tc) (bM q d.g q.os)∧jN w.heap.size wE (.slice co q.cx.length cc) (iB d.g q.cx)∧fB w.heap.size wE (.slice sa (q.ks.length+1) sd) ((1,0)::bM q d.g q.ks)∧Bw w wE):=by
   have h:=H5.out
   have h3:w.heap.size≤w3.heap.size:=by have:=HB1.out.2.2;have:=HTL.out;omega
   have h4:T<w4.heap.size:=(bN HT4.out).1
   have h5:w.heap.size≤w4.heap.size:=by have:=HB1.out.2.2;omega
   refine⟨((HV4.out.1.keep h.2.1).apart HTL.out hg).lower h3,((HV4.out.2.keep h.2.1).apart HTL.out hg).lower h3,(h.1.apart h4 hg).lower h5,?_⟩
   ·have hb:Bw w w5:=HB1.out.1.trans ((HI4.out.below.trans (h.2.1.mono HI4.out.below.size)).mono HB1.out.1.size)
    exact hb.grown hg hb.size (fun k hk=>by obtain rfl:=Option.some.inj hk;exact HB1.out.2.2)
  refine bodyPost_ret (v:=.tuple #[qC tb q.os.length tc A false co q.cx.length cc,.slice sa (q.ks.length+1) sd]) ?_ rfl ?_
  ·simp [results,qC,e0,e1,e2,e3,go_sem]
  ·rw[HAA.out]
   exact⟨HF.out.2.2.2,.inr ⟨d.g,tb,tc,co,cc,sa,sd,HST.out,rfl,HF.out.1,HF.out.2.1,HF.out.2.2.1⟩⟩
structure Tk where
 out:List (Int×Int)
 ok:Bool
 tr:Bool
 ch:List Bool
def rV:Tk:=⟨[],false,true,[]⟩
def qA(q:bC)(g:Nat→Int):Tk:=⟨bM q g q.os,eF g q.ax,false,iB g q.cx⟩
def rP(nb nn:Int)(q:bC)(fr:Bool)(mem inp:List (Int×Int))(g:Nat→Int)(tr:Bool):Prop:=mD q inp (jD nb nn fr mem q) (jW q) q.ts.length g tr
inductive Rp(nb nn:Int)(q:bC):List (List (Int×Int))→List Tk→Bool→List (Int×Int)→Prop
 | zero:Rp nb nn q [] [] true (q.ks.map fun x=>(bK q.ps x,jG nb nn (bK q.ps x)))
 | step {ins tks fr mem inp g}:Rp nb nn q ins tks fr mem→rP nb nn q fr mem inp g false→Rp nb nn q (ins++[inp]) (tks++[qA q g]) false (bM q g q.ks)
def Rn(nb nn:Int)(q:bC)(ins:List (List (Int×Int)))(tks:List Tk):Prop:=
 (∃fr mem,Rp nb nn q ins tks fr mem)∨∃ins0 inp ins1 tks0 fr mem g,ins=ins0++inp::ins1∧Rp nb nn q ins0 tks0 fr mem∧rP nb nn q fr mem inp g true∧tks=tks0++[rV]
theorem Rp.len{nb nn:Int}{q:bC}{ins:List (List (Int×Int))}{tks:List Tk}{fr:Bool}{mem:List (Int×Int)}(h:Rp nb nn q ins tks fr mem):tks.length=ins.length∧mem.length=q.ks.length:=by
 induction h with
 | zero=>exact⟨rfl,by rw[List.length_map]⟩
 | step _ _ ih=>exact⟨by simp [ih.1],rX _ _ _⟩
theorem Fb{q:bC}{v:Nat→Int}{m y:Nat}(h:q.ks[m]?=some y):qG (q.ks.map fun x=>(bK q.ps x,v x)) m=v y:=by
 unfold qG
 rw[Int.toNat_natCast,List.getElem?_map,h]
 rfl
theorem mD.right{q:bC}(hq:jX q){inp:List (Int×Int)}{wk:(Nat→Int)→Pq→Int×Bool}{Rd:Nat→Int→Prop}{g:Nat→Int}{tr:Bool}(h:mD q inp wk Rd q.ts.length g tr)(hil:inp.length=q.is.length)(hRi:∀(i x:Nat) (v:Int×Int),q.is[i]?=some x→inp[i]?=some v→Rd x v.2){x:Nat}(hx:x<q.ps.length):Rd x (g x):=by
 rcases hq.lU.all x hx with hb | ht
 ·obtain⟨i,hi⟩:=List.mem_iff_getElem?.1 ((hq.is x hx).1 hb)
  have hl:=(bA hi).1
  obtain⟨v,hv⟩:∃v,inp[i]?=some v:=⟨_,List.getElem?_eq_getElem (by omega)⟩
  rw[h.ins i x v hi hv]
  exact hRi i x v hi hv
 ·exact(h.val x (by rw[List.take_length];exact ht)).2
theorem yA{q:bC}{inp:List (Int×Int)}(h:dO q.ps q.is inp=true):inp.length=q.is.length∧∀(i x:Nat) (v:Int×Int),q.is[i]?=some x→inp[i]?=some v→jW q x v.2:=by
 unfold dO at h
 rw[Bool.and_eq_true,decide_eq_true_eq] at h
 refine⟨h.1.symm,fun i x v h1 h2=>?_⟩
 have hm:(x,v)∈q.is.zip inp:=List.mem_of_getElem? (i:=i) (by rw[List.getElem?_zip_eq_some];exact⟨h1,h2⟩)
 have:=List.all_eq_true.1 h.2 _ hm
 unfold nY at this
 simp only[Bool.and_eq_true,beq_iff_eq] at this
 unfold jW
 rw[←this.1]
 exact this.2
theorem pU.start{q:bC}(hp:iT q){nb nn:Int}(hn:tK nb nn):pU q (q.ks.map fun x=>(bK q.ps x,jG nb nn (bK q.ps x))):=
 ⟨by rw[List.length_map],fun m y h=>by
  rw[Fb (v:=fun x=>jG nb nn (bK q.ps x)) h]
  exact ET hn (FN hp (hp.ks y (List.mem_of_getElem? h)).1)⟩
theorem pU.next{q:bC}(hp:iT q)(hq:jX q){nb nn:Int}{fr tr:Bool}{mem inp:List (Int×Int)}{g:Nat→Int}(h:rP nb nn q fr mem inp g tr)(hf:dO q.ps q.is inp=true):pU q (bM q g q.ks):=
 ⟨rX _ _ _,fun m y hy=>by
  have:=Fb (q:=q) (v:=g) hy
  unfold bM
  rw[this]
  exact h.right hq (yA hf).1 (yA hf).2 (hp.ks y (List.mem_of_getElem? hy)).1⟩
theorem Rp.mem{nb nn:Int}{q:bC}(hp:iT q)(hq:jX q)(hn:tK nb nn){ins:List (List (Int×Int))}{tks:List Tk}{fr:Bool}{mem:List (Int×Int)}(h:Rp nb nn q ins tks fr mem)(hf:∀l∈ins,dO q.ps q.is l=true):pU q mem:=by
 induction h with
 | zero=>exact pU.start hp hn
 | step _ h2 _=>exact pU.next hp hq h2 (hf _ (by simp))
def u6(w:World)(F:Nat→Prop)(t:Tk)(x0 x1 x2 x3:Option Value):Prop:=
 ∃so sc co cc,x0=some (.slice so t.out.length sc)∧x1=some (.bool t.ok)∧x2=some (.bool t.tr)∧x3=some (.slice co t.ch.length cc)∧aB w F 2 (.slice so t.out.length sc) t.out.length (bG t.out)∧aB w F 1 (.slice co t.ch.length cc) t.ch.length (t.ch.map Value.bool)
def mE(w:World)(F:Nat→Prop)(l:List Tk)(xs:List Value):Prop:=
 xs.length=l.length*4∧∀(k:Nat) (t:Tk),l[k]?=some t→u6 w F t xs[k*4]? xs[k*4+1]? xs[k*4+2]? xs[k*4+3]?
theorem u6.keep{w w':World}{F F':Nat→Prop}{t:Tk}{x0 x1 x2 x3:Option Value}(h:u6 w F t x0 x1 x2 x3)(hs:aJ F F' w w'):u6 w' F' t x0 x1 x2 x3:=by
 obtain⟨so,sc,co,cc,h0,h1,h2,h3,h4,h5⟩:=h
 exact⟨so,sc,co,cc,h0,h1,h2,h3,h4.keep hs,h5.keep hs⟩
theorem mE.keep{w w':World}{F F':Nat→Prop}{l:List Tk}{xs:List Value}(h:mE w F l xs)(hs:aJ F F' w w'):mE w' F' l xs:=⟨h.1,fun k t hk=>(h.2 k t hk).keep hs⟩
theorem mE.nil(w:World)(F:Nat→Prop):mE w F [] []:=⟨rfl,fun k t hk=>by simp at hk⟩
theorem mE.snoc{w:World}{F:Nat→Prop}{l:List Tk}{xs:List Value}(h:mE w F l xs){t:Tk}{y0 y1 y2 y3:Value}(ht:u6 w F t (some y0) (some y1) (some y2) (some y3)):mE w F (l++[t]) (xs++[y0,y1,y2,y3]):=by
 refine⟨by simp [h.1];omega,fun k u hk=>?_⟩
 have hl:=(bA hk).1
 rw[List.length_append,List.length_singleton] at hl
 by_cases hkl:k<l.length
 ·rw[List.getElem?_append_left hkl] at hk
  have h1:=h.1
  rw[List.getElem?_append_left (by omega),List.getElem?_append_left (by omega),List.getElem?_append_left (by omega),List.getElem?_append_left (by omega)]
  exact h.2 k u hk
 ·obtain rfl:k=l.length:=by omega
  rw[List.getElem?_append_right (Nat.le_refl _),Nat.sub_self] at hk
  obtain rfl:t=u:=by simpa using hk
  have e:∀j,(xs++[y0,y1,y2,y3])[l.length*4+j]?=[y0,y1,y2,y3][j]?:=fun j=>by
   rw[List.getElem?_append_right (by rw[h.1];omega),h.1,Nat.add_sub_cancel_left]
  have e0:=e 0
  rw[Nat.add_zero] at e0
  rw[e0,e 1,e 2,e 3]
  exact ht
def eU(w:World)(v:Value)(l:List Tk):Prop:=∃xs,aB w (fun _=>True) 4 v l.length xs∧mE w (fun _=>True) l xs
theorem eU.keep{w w':World}{v:Value}{l:List Tk}(h:eU w v l)(hb:Bw w w'):eU w' v l:=by
 obtain⟨xs,h1,h2⟩:=h
 exact⟨xs,h1.keep (dX hb),h2.keep (dX hb)⟩
def Off(v:Value):Nat→Prop:=fun b=>v.ownBlock≠some b
theorem vN{w w':World}{v v':Value}{g n c:Nat}(hg:w.grownBy w' v.ownBlock)(ha:v.ownBlock=some g∨g=w.heap.size)(hv:v'=.slice (some ⟨g,0,none⟩) n c):aJ (Off v) (Off v') w w':=by
 subst hv
 intro b hb hl
 refine⟨fun e=>?_,hg.block b hl (fun e=>hb e.symm)⟩
 have e':g=b:=by simpa [Value.ownBlock] using e
 rcases ha with ha | ha
 ·exact hb (by rw[ha,e'])
 ·omega
theorem eX.LF{p:Pg}{d:List Nat}{f:List UInt8→Nat}{ts:List Nat}{qs:List Int}{X:Cx}{T:Tb}(h:eX p d f ts qs X T)(htr:jV (dF p (aM p f)) ts):jX (bE p (aM p f) ts qs):=by
 have hlen:(bE p (aM p f) ts qs).ps.length=p.ins.length+aC (aI p):=by
  show (jT _ _).length=_
  rw[uS,zH]
 refine⟨htr.kd _,fun x hx=>?_,fun x hx=>?_,List.nodup_range,fun x y hy=>?_⟩
 ·show eZ (bE p (aM p f) ts qs).ps x=true ↔ x∈List.range p.ins.length
  obtain⟨pt,hpt⟩:∃pt,(bE p (aM p f) ts qs).ps[x]?=some pt:=⟨_,List.getElem?_eq_getElem hx⟩
  rw[List.mem_range]
  unfold eZ
  rw[hpt]
  rcases h.part hpt with⟨hi,rfl⟩ | ⟨hi,a,b,c,op,n,s,l,k,qq,hp⟩
  ·exact⟨fun _=>hi,fun _=>rfl⟩
  ·refine⟨fun e=>?_,fun e=>by omega⟩
   have e':pt.op.data.toList=lK.data.toList:=by simpa using e
   rw[hp.op'] at e'
   exact absurd e' (h.zQ hp)
 ·have:x∈List.range p.ins.length:=hx
  rw[List.mem_range] at this
  rw[hlen];omega
 ·obtain⟨rk,hr⟩:=h.rt.ord.rank (aM p f)
  have hy':y∈dY (jT (p.ins.map Ex.n++qs) (dF p (aM p f))) x:=hy
  rw[EW] at hy'
  have:=(hr.nd x y hy').1
  show y<(jT _ _).length
  rw[uS];exact this
theorem Nj(b:Bool){n:Int}(h:(n==cB n)=true):tK (bB b) n:=by
 refine⟨by cases b<;>simp [bB],?_⟩
 have e:n=cB n:=by simpa using h
 unfold cB at e
 omega
def tH(p:Pg)(E:fD)(nb:Bool)(nn:Int)(ins:List (List (Int×Int)))(e:Ending)(w':World):Prop:=
 (∃t x,nS p E (.returned (.iface t x)) w'∧e=.returned (.tuple #[.slice none 0 0,.iface t x])) ∨
 ∃d f,oO p d f∧(((nn==cB nn)=false∨300<ins.length)∧e=.returned (.tuple #[.slice none 0 0,.iface E.bt E.bq]) ∨
  ((nn==cB nn)=true∧ins.length≤300∧∃ts qs,iT (bE p (aM p f) ts qs)∧jX (bE p (aM p f) ts qs)∧jV (dF p (aM p f)) ts∧aR (cK (fun _=>none) (aT p)) (aI p)=some (fT p,qs) ∧
   ((∃(k:Nat) (l:List (Int×Int)) (b:Nat),ins[k]?=some l∧dO (bE p (aM p f) ts qs).ps (bE p (aM p f) ts qs).is l=false∧(∀(j:Nat) (l':List (Int×Int)),j<k→ins[j]?=some l'→dO (bE p (aM p f) ts qs).ps (bE p (aM p f) ts qs).is l'=true)∧e=.returned (.tuple #[.slice none 0 0,.iface 83 (.pointer (some ⟨b,0,none⟩))])∧w'.cell? ⟨b,0,none⟩=some (.int .i64 (k:Int))∧w'.cell? ⟨b,0+1,none⟩=some (.iface E.tt E.tq)) ∨
    ((∀l∈ins,dO (bE p (aM p f) ts qs).ps (bE p (aM p f) ts qs).is l=true)∧∃(tks:List Tk) (o:Option Addr) (c:Nat),Rn (bB nb) nn (bE p (aM p f) ts qs) ins tks∧e=.returned (.tuple #[.slice o tks.length c,.nilIface])∧eU w' (.slice o tks.length c) tks))))
theorem nS.keep{p:Pg}{E:fD}{t:TypeId}{x:Value}{w w':World}(h:nS p E (.returned (.iface t x)) w)(hb:Bw w w'):nS p E (.returned (.iface t x)) w':=by
 rcases h with⟨t',x',h1,h2⟩ | ⟨d,f,h1,h2,h3⟩
 ·exact .inl ⟨t',x',h1.keep hb,h2⟩
 ·refine .inr ⟨d,f,h1,h2,?_⟩
  rcases h3 with⟨m,b,y,a1,a2,a3,a4,a5,a6⟩ | h3
  ·exact .inl ⟨m,b,y,a1,a2,a3,a4,aD hb a5,aD hb a6⟩
  ·exact .inr h3
theorem JI(w:World)(F:Nat→Prop):u6 w F rV (some (.slice none 0 0)) (some (.bool false)) (some (.bool true)) (some (.slice none 0 0)):=
 ⟨none,0,none,0,rfl,rfl,rfl,rfl,aB.vQ w F 2,aB.vQ w F 1⟩
theorem JJ{w:World}{base:Nat}{F:Nat→Prop}(hF:∀b,base≤b→F b){q:bC}{g:Nat→Int}{so co:Option Addr}{sc cc:Nat}(h1:fB base w (.slice so q.os.length sc) (bM q g q.os))(h2:jN base w (.slice co q.cx.length cc) (iB g q.cx)) :
  u6 w F (qA q g) (some (.slice so q.os.length sc)) (some (.bool (eF g q.ax))) (some (.bool false)) (some (.slice co q.cx.length cc)):=by
 have e1:(qA q g).out.length=q.os.length:=rX _ _ _
 have e2:(qA q g).ch.length=q.cx.length:=by show (iB g q.cx).length=_;unfold iB;rw[List.length_map]
 have l1:(bM q g q.os).length=q.os.length:=rX _ _ _
 have l2:(iB g q.cx).length=q.cx.length:=by unfold iB;rw[List.length_map]
 refine⟨so,sc,co,cc,by rw[e1],rfl,rfl,by rw[e2],?_,?_⟩
 ·rw[e1]
  have h:=aB.less (S':=F) h1 hF
  rw[l1] at h
  exact h
 ·rw[e2]
  have h:=aB.less (S':=F) h2 hF
  rw[l2] at h
  exact h
theorem KT{w:World}{C B M:Nat}{dv:Value}{f:List UInt8→Option Value}{q:bC}{nb nn:Int}(hcd:Cd w C B M dv f q nb nn)(hp:iT q)(hq:jX q)(hn:tK nb nn)(so:Option Addr)(sc:Nat)(fr:Bool)(mem:List (Int×Int))(hm:pU q mem)(hs:kY w (.slice so (q.ks.length+1) sc) ((1,bB fr)::mem))(io:Option Addr)(il ic:Nat)(inp:List (Int×Int))(hin:kF w (.slice io il ic) inp)(him:il=inp.length)(hf:dO q.ps q.is inp=true) :
  Calls Tryz.prog 57 #[.pointer (some ⟨C,0,none⟩),.slice so (q.ks.length+1) sc,.slice io il ic] w (CO w q inp (jD nb nn fr mem q) (jW q)):=by
 obtain⟨hl,hks,hol,hal,hcl⟩:=hp.len
 have hfr:(((1,bB fr):Int×Int).2==1)=fr:=by cases fr<;>rfl
 refine OC hcd hq (by omega) (fun x hx=>(hp.os x hx).1) (by omega) (fun x hx=>(hp.ax x hx).1) (fun x hx=>(hp.cx x hx).1) (by omega) (by omega) (fun x hx=>(hp.ks x hx).1) (by omega) so q.ks.length sc (by omega) (1,bB fr) mem hs io il ic inp hin (yA hf).1 him _ _ (yA hf).2 (fun w1 I R hb=>?_)
 have hv:=(hs.keep hb).rest
 have h:=IZ (w0:=w1) (q:=q) (nb:=nb) (nn:=nn) (mem:=mem) (d:=⟨I,R,B,C,(((1,bB fr):Int×Int).2==1),if sc=1 then so else so.map (·.add 2),q.ks.length,sc-1,q.ps.length,fun _=>0,0,0,0,false⟩) ⟨hcd.keep hb,kF.EF hv.2,hv.1,rfl⟩ hp hm hn
 simp only[hfr] at h ⊢
 exact h
end Go.Proofs.YtmgfakcccfahaaaGreatDoor
