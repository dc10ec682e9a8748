/-
  package flow: told, state BY CONTRACT; tick of a program without asserts and checks.
-/
import Derived.Test.YtmgfakcccfahaaaGreatDoorN37
namespace Go.Proofs.YtmgfakcccfahaaaGreatDoor
open Go.RowKit Go.Maps
set_option maxRecDepth 100000
set_option maxHeartbeats 4000000

def bM(q:bC)(g:Nat→Int)(l:List Nat):List (Int×Int):=l.map fun x=>(bK q.ps x,g x)
theorem Dw{w0 w:World}{C M:Nat}{dv:Value}{f:List UInt8→Option Value}{q:bC}{nb nn:Int}{d:dW}(hcd:Cd w0 C d.B M dv f q nb nn)(hi:bF w0 d w)(hn:d.n=q.ps.length)(o:Option Addr)(c m:Nat)(l:List Nat)(hm:m=l.length)(hl:aB w (fun _=>True) 1 (.slice o m c) m (aX l))(hin:∀x∈l,x<q.ps.length)(hll:l.length≤2097152) :
  Calls Tryz.prog 150 #[.pointer (some ⟨d.I,0,none⟩),.slice o m c] w fun e w'=>∃so sc,e=.returned (.slice so m sc)∧w'.ownsRow w.heap.size 66 2 (.slice so m sc) m (bG (bM q d.g l))∧Bw w w':=by
 obtain⟨i0,hi0,hz0,hz1,hz2⟩:=info_parts Tryz.uV
 have HC:Hid (Cd w0 C d.B M dv f q nb nn∧bF w0 d w∧d.n=q.ps.length):=⟨hcd,hi,hn⟩
 have HL:Hid (aB w (fun _=>True) 1 (.slice o m c) m (aX l)∧(∀x∈l,x<q.ps.length)∧m≤2097152∧m=l.length):=⟨hl,hin,by omega,hm⟩
 clear hcd hi hn hl hin hll hm
 go_enter Tryz.func150,Tryz.ntmps150
 go_wp2
 go_loopw [5,10] (fun v t wr=>∃(j:Nat) (so:Option Addr) (sc:Nat),j≤m∧t=.int .i64 j∧v=.slice so j sc∧Hid (wr.ownsRow w.heap.size 66 2 (.slice so j sc) j (bG (bM q d.g (l.take j)))∧Bw w wr)) (fun _ t _=>m-(intOf t).toNat)
 case atStart=>exact⟨0,none,0,Nat.zero_le _,rfl,rfl,World.ownsRow_nil _ _ _ _,Below.refl _ _⟩
 case round=>
  obtain⟨j,so,sc,hj,rfl,rfl,HR⟩:=hrel
  by_cases hjl:j<m
  ·obtain⟨x,hx⟩:∃x,l[j]?=some x:=⟨_,List.getElem?_eq_getElem (by have:=HL.out.2.2.2;omega)⟩
   have hxl:=HL.out.2.1 x (List.mem_of_getElem? hx)
   obtain⟨p,hp⟩:∃p,q.ps[x]?=some p:=⟨_,List.getElem?_eq_getElem hxl⟩
   have hir:=HC.out.2.1
   have hcr:=HC.out.1.keep hir.below
   obtain⟨pb,off,c',po,pc,pB,hpt,_⟩:=hcr.nV.pt hp
   obtain⟨b1,bP,c1,ev,_,_,gg⟩:=(HL.out.1.keep (dX HR.out.2)).at (by rw[HL.out.1.1];omega)
   obtain⟨rfl,rfl⟩:o=some ⟨b1,bP,none⟩∧c=c1:=by simpa using ev
   have y0:=gg j (.int .i64 (x:Int)) (by unfold aX;rw[List.getElem?_map,lH hx];rfl)
   have c0:=hir.c0
   have c4:=hir.c4
   have p4:=hpt.c4
   have r0:=hir.wt.cell (k:=x) (by rw[HC.out.2.2];exact hxl)
   obtain⟨kd,hkd⟩:∃kd,kd=p.kind:=⟨_,rfl⟩
   rw[←hkd] at p4
   obtain⟨gx,hgx⟩:∃gx,gx=d.g x:=⟨_,rfl⟩
   rw[←hgx] at r0
   have i0':(0:Int)≤(j:Int):=by omega
   have i1':(j:Int)<(m:Int):=by omega
   have i2':(0:Int)≤(x:Int):=by omega
   have i3':(x:Int)<(q.ps.length:Int):=by omega
   have i4':(x:Int)<(d.n:Int):=by have:=HC.out.2.2;omega
   have HJ:Hid (j<m∧l[j]?=some x∧bK q.ps x=kd∧gx=d.g x):=⟨hjl,hx,by rw[rE hp,hkd],hgx⟩
   have HRR:Hid (wr.ownsRow w.heap.size 66 2 (.slice so j sc) j (bG (bM q d.g (l.take j)))∧Bw w wr):=HR.out
   have HS:Hid (∀W,Bw w W→W.cell? ⟨d.I,0,none⟩=some (.pointer (some ⟨d.B,0,none⟩))∧W.cell? ⟨d.B,0,none⟩=some (.slice (some ⟨pb,off,none⟩) q.ps.length c')∧W.cell? ⟨pb,off+x*6+4,none⟩=some (.int .i64 kd)∧W.cell? ⟨d.I,0+4,none⟩=some (.slice (some ⟨d.R,0,none⟩) d.n d.n)∧W.cell? ⟨d.R,x,none⟩=some (.int .i64 gx)):=fun W hW=>⟨aD hW c0,aD hW pB,aD hW p4,aD hW c4,aD hW r0⟩
   have HMX:Hid (j+1≤maxLen∧(j+1)*16≤140737488355328):=by have:=HL.out.2.2.1;have:=HJ.out.1;unfold Hid maxLen;omega
   have N4:Hid (wrap64 ((j:Int)+1)=(j:Int)+1):=by have:=HL.out.2.2.1;have:=HJ.out.1;unfold Hid wrap64;omega
   have hS0:=HS.out wr.drew HRR.out.2.drew
   clear hx hxl hp hir hcr hpt pB ev gg c0 c4 p4 r0 hkd hgx hj hjl HR
   go_upto_region 5 with fail
   clear y0
   refine fI 22 (fun W=>W.cell? ⟨d.I,0,none⟩=some (.pointer (some ⟨d.B,0,none⟩))∧W.cell? ⟨d.B,0,none⟩=some (.slice (some ⟨pb,off,none⟩) q.ps.length c')∧W.cell? ⟨pb,off+x*6+4,none⟩=some (.int .i64 kd)∧W.cell? ⟨d.I,0+4,none⟩=some (.slice (some ⟨d.R,0,none⟩) d.n d.n)∧W.cell? ⟨d.R,x,none⟩=some (.int .i64 gx)) (fun _=>True) (by kernel_rfl) hS0 trivial (fun hh=>?_)
   refine tj 0 14 (.slice so j sc) rfl (by rintro w ⟨b0,bb,bk,b4,br⟩;go_simp) hh ?_
   refine tj 1 15 (.pointer (some ⟨d.I,0,none⟩)) rfl (by rintro w ⟨b0,bb,bk,b4,br⟩;go_simp) hh ?_
   refine tj 2 16 (.pointer (some ⟨d.I,0,none⟩)) rfl (by rintro w ⟨b0,bb,bk,b4,br⟩;go_simp) hh ?_
   refine tj 3 17 (.pointer (some ⟨d.I,0,none⟩)) rfl (by rintro w ⟨b0,bb,bk,b4,br⟩;go_simp) hh ?_
   refine tj 4 18 (.pointer (some ⟨d.B,0,none⟩)) rfl (by rintro w ⟨b0,bb,bk,b4,br⟩;go_simp) hh ?_
   refine tj 5 19 (.pointer (some ⟨d.B,0,none⟩)) rfl (by rintro w ⟨b0,bb,bk,b4,br⟩;go_simp) hh ?_
   refine tj 6 20 (.pointer (some ⟨d.B,0,none⟩)) rfl (by rintro w ⟨b0,bb,bk,b4,br⟩;go_simp) hh ?_
   refine tj 7 21 (.slice (some ⟨pb,off,none⟩) q.ps.length c') rfl (by rintro w ⟨b0,bb,bk,b4,br⟩;go_simp) hh ?_
   refine tj 8 22 (.int .i64 (x:Nat)) rfl (by rintro w ⟨b0,bb,bk,b4,br⟩;go_simp) hh ?_
   refine tj 9 23 (.pointer (some ⟨pb,off+x*6,none⟩)) rfl (by rintro w ⟨b0,bb,bk,b4,br⟩;go_simp) hh ?_
   refine tj 10 24 (.pointer (some ⟨pb,off+x*6+4,none⟩)) rfl (by rintro w ⟨b0,bb,bk,b4,br⟩;go_simp) hh ?_
   refine tj 11 25 (.int .i64 kd) rfl (by rintro w ⟨b0,bb,bk,b4,br⟩;go_simp) hh ?_
   refine tj 12 26 (.pointer (some ⟨d.I,0,none⟩)) rfl (by rintro w ⟨b0,bb,bk,b4,br⟩;go_simp) hh ?_
   refine tj 13 27 (.pointer (some ⟨d.I,0,none⟩)) rfl (by rintro w ⟨b0,bb,bk,b4,br⟩;go_simp) hh ?_
   refine tj 14 28 (.pointer (some ⟨d.I,4,none⟩)) rfl (by rintro w ⟨b0,bb,bk,b4,br⟩;go_simp) hh ?_
   refine tj 15 29 (.slice (some ⟨d.R,0,none⟩) d.n d.n) rfl (by rintro w ⟨b0,bb,bk,b4,br⟩;go_simp) hh ?_
   refine tj 16 30 (.int .i64 (x:Nat)) rfl (by rintro w ⟨b0,bb,bk,b4,br⟩;go_simp) hh ?_
   refine tj 17 31 (.pointer (some ⟨d.R,x,none⟩)) rfl (by rintro w ⟨b0,bb,bk,b4,br⟩;go_simp) hh ?_
   refine tj 18 32 (.int .i64 gx) rfl (by rintro w ⟨b0,bb,bk,b4,br⟩;go_simp) hh ?_
   refine tj 19 33 (.agg #[.int .i64 kd,.int .i64 gx]) rfl (by rintro w ⟨b0,bb,bk,b4,br⟩;go_simp) hh ?_
   refine aS 20 (some 34) rfl fun K hK=>?_
   go_simp
   obtain⟨wA,hwA⟩:∃wA,wA=(wr.alloc (.cells #[.int .i64 kd,.int .i64 gx] 66)).drew:=⟨_,rfl⟩
   obtain⟨Q,hQ⟩:∃Q,Q=wr.heap.size:=⟨_,rfl⟩
   have hbA:Bw wr wA:=by rw[hwA];exact(aH).drew
   have HBA:=aA hbA
   have HOA:Hid (wA.ownsRow w.heap.size 66 2 (.slice so j sc) j (bG (bM q d.g (l.take j)))∧Bw w wA):=⟨mK HRR.out.1 hbA,HRR.out.2.trans (hbA.mono HRR.out.2.size)⟩
   have HNA:Hid (∀k y,[Value.int .i64 kd,.int .i64 gx][k]?=some y→wA.cell? ((⟨Q,0,none⟩:Addr).add k)=some y):=by unfold Hid;rw[hwA,hQ];exact World.news_of_block (heap_alloc_new wr _)
   rw[←hwA,←hQ]
   refine hK.out _ _ ⟨HS.out wA HOA.out.2,fun _=>trivial⟩ (fun hh=>?_)
   clear hK K hwA hbA hQ hS0
   try simp only[tp]
   refine aS 21 (some 35) rfl fun K hK=>?_
   refine step_append_lies _ rfl (.tmp 14) (.tmp 34) 64 rfl w.heap.size 66 i0 _ 2 16 Tryz.underlying64 hi0 hz0 hz1 hz2 rfl (by omega) (.slice so j sc) j _ (by simp [Act.eval]) HOA.out.1 ⟨Q,0,none⟩ 1 1 [.int .i64 kd,.int .i64 gx] (by simp [Act.eval]) rfl HNA.out (by simp [Value.oneCell']) (by omega) HMX.out.1 HMX.out.2 HOA.out.2.size _ rfl ?_
   intro g cap w7 hown7 hgrow hat hlt7
   have hbw7:Bw w w7:=HOA.out.2.grown hgrow HOA.out.2.size (fun k hk=>(HOA.out.1.lt k hk).1)
   have HNX:Hid (w7.ownsRow w.heap.size 66 2 (.slice (some ⟨g,0,none⟩) (j+1) cap) (j+1) (bG (bM q d.g (l.take (j+1))))∧Bw w w7):=by
    refine⟨?_,hbw7⟩
    have e:bM q d.g (l.take (j+1))=bM q d.g (l.take j)++[(kd,gx)]:=by
     unfold bM
     rw[List.take_add_one,HJ.out.2.1,List.map_append,HJ.out.2.2.2,←HJ.out.2.2.1]
     rfl
    rw[e,C8]
    exact hown7
   refine hK.out _ _ ⟨HS.out w7 hbw7,fun _=>trivial⟩ (fun hh=>?_)
   clear hK K
   try simp only[tp]
   refine aS 22 (some 5) rfl fun K hK=>?_
   go_simp
   refine hK.out _ _ (Till.last (HS.out w7 HNX.out.2)) (fun hh=>?_)
   clear hK K
   try simp only[tp]
   refine dU (by kernel_rfl) ?_ _
   clear hh hown7 hgrow hat hlt7 hbw7 HS HOA HNA HBA
   go_wp2
   exact⟨⟨j+1,_,_,HJ.out.1,by (try rw[N4.out]);rfl,rfl,HNX.out⟩,by (try rw[N4.out]);have:=HJ.out.1;simp [intOf];omega⟩
  ·obtain rfl:m=j:=by omega
   have HE:Hid (wr.ownsRow w.heap.size 66 2 (.slice so m sc) m (bG (bM q d.g l))∧Bw w wr):=by
    have h:=HR.out
    rw[List.take_of_length_le (by have:=HL.out.2.2.2;omega)] at h
    exact h
   clear hj hjl HR
   go_wp2
   go_ret
   exact⟨so,sc,rfl,HE.out⟩
theorem rX(q:bC)(g:Nat→Int)(l:List Nat):(bM q g l).length=l.length:=List.length_map _
theorem Ht{w:World}{base n:Nat}{v:Value}{xs:List Value}(hown:w.ownsRow base 66 2 v n xs)(p:Option Addr)(c:Nat)(ty:TypeId) :
  (Builtin.append_ #[64,64] ty #[v,.slice p 0 c]).run Tryz.prog w=.ok v w:=by
 obtain⟨i0,hi0,hz0,hz1,hz2⟩:=info_parts Tryz.uV
 have ht:=Tryz.underlying64
 rcases hown.2 with⟨rfl,rfl⟩ | ⟨g,cap,cur,rfl,_,_,hnc,_⟩
 ·cases p<;>simp [Builtin.append_,run_underlying ht,sizeOf,typeInfo,hi0,Builtin.lenOf,Builtin.firstCells,loadCells,loadCellsFrom]
 ·cases p<;>simp [Builtin.append_,run_underlying ht,sizeOf,typeInfo,hi0,Builtin.lenOf,Builtin.firstCells,hnc,loadCells,loadCellsFrom,storeCells]
theorem DJ{P:Program}{ops:Array Oper}{w:World}{o:Oper}{a:Act}{K:Act→World→Prop}{Q:Exit→Act→World→Prop}{E:Prop}(hgd:o.guard=none)(s x:Operand)(t tn:TypeId)
  (ho:o.op=.call { callee:=.builtin .append,args:=#[s,x],argTypes:=#[t,tn] }) (vs vx:Value) (hs:a.eval s=vs) (hx:a.eval x=vx)
  (v':Value) (w':World) (hr:(Builtin.append_ #[t,tn] o.type #[vs,vx]).run P w=.ok v' w') (h:K (a.put o.dst v') w'):if Region.wanted o (yielded ops a.tmps)=true then Oper.wp P o a w K Q else E:=by
 have hw:Region.wanted o (yielded ops a.tmps)=true:=by simp [Region.wanted,hgd]
 rw[if_pos hw]
 exact Lib.wp_append_run w s x t tn ho vs vx hs hx v' w' hr h
def qC(so:Option Addr)(sn sc:Nat)(av tr:Bool)(co:Option Addr)(cn cc:Nat):Value:=.agg #[.slice so sn sc,.bool av,.bool tr,.slice co cn cc]
def fB(base:Nat)(w:World)(v:Value)(l:List (Int×Int)):Prop:=aB w (From base) 2 v l.length (bG l)
theorem fB.at{base:Nat}{w:World}{v:Value}{l:List (Int×Int)}(h:fB base w v l):kY w v l:=aB.wide h
theorem fB.keep{base:Nat}{w w':World}{v:Value}{l:List (Int×Int)}(h:fB base w v l)(hb:Bw w w'):fB base w' v l:=aB.keep h (fun b hB hl=>⟨hB,hb.block b hl⟩)
theorem fB.apart{base:Nat}{w w':World}{v:Value}{l:List (Int×Int)}{T:Nat}(h:fB base w v l)(hT:T<base)(hg:w.grownBy w' (some T)):fB base w' v l:=aB.keep h (fun b hB hl=>⟨hB,hg.block b hl (fun e=>by have:=Option.some.inj e;have:base≤b:=hB;omega)⟩)
theorem fB.lower{base base':Nat}{w:World}{v:Value}{l:List (Int×Int)}(h:fB base w v l)(hb:base'≤base):fB base' w v l:=aB.keep h (fun _ hB _=>⟨Nat.le_trans hb hB,rfl⟩)
theorem J3{w0 w:World}{C M:Nat}{dv:Value}{f:List UInt8→Option Value}{q:bC}{nb nn:Int}{d:dW}(hcd:Cd w0 C d.B M dv f q nb nn)(hi:bF w0 d w)(hn:d.n=q.ps.length)(hks:∀x∈q.ks,x<q.ps.length)(hkl:q.ks.length≤2097152) :
  Calls Tryz.prog 107 #[.pointer (some ⟨d.I,0,none⟩)] w fun e w'=>∃so sc,e=.returned (.slice so (q.ks.length+1) sc)∧fB w.heap.size w' (.slice so (q.ks.length+1) sc) ((1,0)::bM q d.g q.ks)∧Bw w w':=by
 obtain⟨i0,hi0,hz0,hz1,hz2⟩:=info_parts Tryz.uV
 obtain⟨vi,vt,vk,vo,va,vc,⟨_,_,l3,_⟩,_,_,hvk,_⟩:=hcd.nV.list
 obtain⟨ok,ck,ek,_⟩:=hvk.2.2
 subst ek
 obtain⟨m,hm⟩:∃m,m=q.ks.length:=⟨_,rfl⟩
 rw[←hm] at l3 hvk hkl ⊢
 have HM:Hid (m=q.ks.length∧m≤2097152):=⟨hm,hkl⟩
 have HTC:Hid (∀W,Bw w W→Calls Tryz.prog 150 #[.pointer (some ⟨d.I,0,none⟩),.slice ok m ck] W fun e w'=>∃so sc,e=.returned (.slice so m sc)∧w'.ownsRow W.heap.size 66 2 (.slice so m sc) m (bG (bM q d.g q.ks))∧Bw W w'):=fun W hW=>Dw hcd (hi.keep hW) hn ok ck m q.ks hm (hvk.keep (dX (hi.below.trans (hW.mono hi.below.size)))) hks (by rw[←hm];exact hkl)
 have HS:Hid (∀W,Bw w W→W.cell? ⟨d.I,0,none⟩=some (.pointer (some ⟨d.B,0,none⟩))∧W.cell? ⟨d.B,0+3,none⟩=some (.slice ok m ck)):=fun W hW=>⟨(hi.keep hW).c0,aD hW (aD hi.below l3)⟩
 have HEND:Hid (∀(W:World) (Q:Nat) (so:Option Addr) (sc:Nat),Bw w W→w.heap.size≤Q→W.heap[Q]?=some (.cells #[.int .i64 1,.int .i64 (bB false)] 66 (0,0))→aB W (fun _=>True) 2 (.slice so m sc) m (bG (bM q d.g q.ks)) →
   W.ownsRow w.heap.size 66 2 (.slice (some ⟨Q,0,none⟩) 1 1) 1 (bG [(1,0)])):=fun W Q so sc _ hQ hr _=>⟨rfl,.inr ⟨Q,1,_,rfl,hQ,hr,Nat.le_refl _,by unfold maxLen;omega,rfl,rfl⟩⟩
 have hS0:=HS.out w.drew (Below.refl _ _).drew
 clear hcd hi hn hks hkl hvk l3 hm
 go_enter Tryz.func107,Tryz.ntmps107
 go_upto_region 1 with fail
 refine fI 13 (fun W=>W.cell? ⟨d.I,0,none⟩=some (.pointer (some ⟨d.B,0,none⟩))∧W.cell? ⟨d.B,0+3,none⟩=some (.slice ok m ck)) (fun _=>True) (by kernel_rfl) hS0 trivial (fun hh=>?_)
 refine tj 3 6 (.pointer (some ⟨d.I,0,none⟩)) rfl (by rintro w ⟨b0,b3⟩;go_simp) hh ?_
 refine tj 4 7 (.pointer (some ⟨d.I,0,none⟩)) rfl (by rintro w ⟨b0,b3⟩;go_simp) hh ?_
 refine tj 5 8 (.pointer (some ⟨d.I,0,none⟩)) rfl (by rintro w ⟨b0,b3⟩;go_simp) hh ?_
 refine tj 6 9 (.pointer (some ⟨d.I,0,none⟩)) rfl (by rintro w ⟨b0,b3⟩;go_simp) hh ?_
 refine tj 7 10 (.pointer (some ⟨d.B,0,none⟩)) rfl (by rintro w ⟨b0,b3⟩;go_simp) hh ?_
 refine tj 8 11 (.pointer (some ⟨d.B,0,none⟩)) rfl (by rintro w ⟨b0,b3⟩;go_simp) hh ?_
 refine tj 9 12 (.pointer (some ⟨d.B,3,none⟩)) rfl (by rintro w ⟨b0,b3⟩;go_simp) hh ?_
 refine tj 10 13 (.slice ok m ck) rfl (by rintro w ⟨b0,b3⟩;go_simp) hh ?_
 refine aS 0 (some 3) rfl fun K hK=>?_
 go_simp
 refine(lZ false _).mono ?_
 rintro e w2 ⟨rfl,hw⟩
 have hw2:=hw.symm
 subst hw2
 go_wp2_with fail
 refine hK.out _ _ ⟨hS0,fun _=>trivial⟩ (fun hh=>?_)
 clear hK K hw
 try simp only[tp]
 refine tj 1 4 (.agg #[.int .i64 1,.int .i64 (bB false)]) rfl (by rintro w ⟨b0,b3⟩;go_simp) hh ?_
 refine qU (rs:=[2,11]) (by kernel_rfl) (by simp) ?_
 refine gD.cons (o:=⟨some 5,_,_,_,_,_⟩) rfl (fun K hK=>?_) (gD.cons (o:=⟨some 14,_,_,_,_,_⟩) rfl (fun K hK=>?_) gD.nil)
 ·go_simp
  obtain⟨wA,hwA⟩:∃wA,wA=(w.alloc (.cells #[.int .i64 1,.int .i64 (bB false)] 66)).drew:=⟨_,rfl⟩
  obtain⟨Q,hQ⟩:∃Q,Q=w.heap.size:=⟨_,rfl⟩
  have hbA:Bw w wA:=by rw[hwA];exact(aH).drew
  have hrA:wA.heap[Q]?=some (.cells #[.int .i64 1,.int .i64 (bB false)] 66 (0,0)):=by rw[hwA,hQ];exact heap_alloc_new w _
  have HA:Hid (Bw w wA∧w.heap.size≤Q∧wA.heap[Q]?=some (.cells #[.int .i64 1,.int .i64 (bB false)] 66 (0,0))):=⟨hbA,by rw[hQ];exact Nat.le_refl _,hrA⟩
  rw[←hwA,←hQ]
  refine hK.out _ _ ⟨HS.out wA hbA,fun _=>trivial⟩ (fun hh=>?_)
  clear hK K hwA hQ hbA hrA hS0
  try simp only[tp]
  refine aS 11 (some 14) rfl fun K hK=>?_
  go_simp
  refine(HTC.out wA HA.out.1).mono ?_
  rintro e w3 ⟨so,sc,rfl,hown,hb3⟩
  have HB3:Hid (Bw w w3):=HA.out.1.trans (hb3.mono HA.out.1.size)
  have HTR:Hid (aB w3 (fun _=>True) 2 (.slice so m sc) m (bG (bM q d.g q.ks))):=(aB.iH hown).wide
  have HQ:Hid (w.heap.size≤Q∧w3.heap[Q]?=some (.cells #[.int .i64 1,.int .i64 (bB false)] 66 (0,0))):=⟨HA.out.2.1,aN hb3 HA.out.2.2⟩
  clear hown hb3
  go_wp2_with fail
  refine hK.out _ _ ⟨HS.out w3 HB3.out,fun _=>trivial⟩ (fun hh=>?_)
  clear hK K
  try simp only[tp]
  have HOW:Hid (w3.ownsRow w.heap.size 66 2 (.slice (some ⟨Q,0,none⟩) 1 1) 1 (bG [(1,0)])):=HEND.out w3 Q so sc HB3.out HQ.out.1 HQ.out.2 HTR.out
  by_cases hm0:m=0
  ·have hno:=Ht (v:=.slice (some ⟨Q,0,none⟩) 1 1) HOW.out so sc
   have HF:Hid (fB w.heap.size w3 (.slice (some ⟨Q,0,none⟩) (m+1) 1) ((1,0)::bM q d.g q.ks)):=by
    have hk:q.ks=[]:=List.eq_nil_of_length_eq_zero (by rw[←HM.out.1];exact hm0)
    rw[hk,hm0]
    exact aB.iH HOW.out
   subst hm0
   refine aS 12 (some 15) rfl fun K hK=>?_
   refine DJ rfl (.tmp 5) (.tmp 14) 64 64 rfl _ _ (by simp [Act.eval]) (by simp [Act.eval]) _ _ (hno _) ?_
   refine hK.out _ _ ⟨HS.out w3 HB3.out,fun _=>trivial⟩ (fun hh=>?_)
   clear hK K
   try simp only[tp]
   refine aS 13 (some 2) rfl fun K hK=>?_
   go_simp
   refine hK.out _ _ (Till.last (HS.out w3 HB3.out)) (fun hh=>?_)
   clear hK K
   try simp only[tp]
   refine dU (by kernel_rfl) ?_ _
   clear hh hno
   go_wp2
   go_ret
   exact⟨_,_,rfl,HF.out,HB3.out⟩
  ·have hmp:0<m:=by omega
   obtain⟨sb,soff,sc',es,_,_,hsc⟩:=HTR.out.at (by rw[HTR.out.1];omega)
   obtain⟨rfl,rfl⟩:so=some ⟨sb,soff,none⟩∧sc=sc':=by simpa using es
   have HNQ:Hid (∀j u,(bG (bM q d.g q.ks))[j]?=some u→w3.cell? ((⟨sb,soff,none⟩:Addr).add j)=some u):=fun j u hj=>by rw[Addr.add_lit];exact hsc j u hj
   have HQL:Hid ((bG (bM q d.g q.ks)).length=m*2∧(∀u∈bG (bM q d.g q.ks),u.oneCell'=true)∧0<m):=⟨HTR.out.1,fun u hu=>by unfold bG at hu;obtain⟨x,_,hx⟩:=List.mem_flatMap.1 hu;simp at hx;rcases hx with rfl | rfl<;>rfl,hmp⟩
   have HMX:Hid (1+m≤maxLen∧(1+m)*16≤140737488355328):=by have:=HM.out.2;unfold Hid maxLen;omega
   clear es hsc hmp hm0
   refine aS 12 (some 15) rfl fun K hK=>?_
   refine step_append_lies _ rfl (.tmp 5) (.tmp 14) 64 rfl w.heap.size 66 i0 _ 2 16 Tryz.underlying64 hi0 hz0 hz1 hz2 rfl (by omega) (.slice (some ⟨Q,0,none⟩) 1 1) 1 _ (by simp [Act.eval]) HOW.out ⟨sb,soff,none⟩ m _ _ (by simp [Act.eval];rfl) HQL.out.1 HNQ.out HQL.out.2.1 HQL.out.2.2 HMX.out.1 HMX.out.2 (HB3.out).size _ rfl ?_
   intro g cap w7 hown7 hgrow hat hlt7
   have hbw7:Bw w w7:=(HB3.out).grown hgrow (HB3.out).size (fun k hk=>(HOW.out.lt k hk).1)
   have HF:Hid (fB w.heap.size w7 (.slice (some ⟨g,0,none⟩) (m+1) cap) ((1,0)::bM q d.g q.ks)∧Bw w w7):=by
    refine⟨?_,hbw7⟩
    have hr:=aB.iH hown7
    have e:((1,0)::bM q d.g q.ks).length=m+1:=by rw[List.length_cons,rX,HM.out.1]
    unfold fB
    rw[e]
    rw[Nat.add_comm 1 m] at hr
    exact hr
   refine hK.out _ _ ⟨HS.out w7 hbw7,fun _=>trivial⟩ (fun hh=>?_)
   clear hK K
   try simp only[tp]
   refine aS 13 (some 2) rfl fun K hK=>?_
   go_simp
   refine hK.out _ _ (Till.last (HS.out w7 HF.out.2)) (fun hh=>?_)
   clear hK K
   try simp only[tp]
   refine dU (by kernel_rfl) ?_ _
   clear hh hown7 hgrow hat hlt7 hbw7
   go_wp2
   go_ret
   exact⟨_,_,by rw[Nat.add_comm 1 m];rfl,HF.out⟩
 ·go_simp
  refine(HTC.out w.drew (Below.refl _ _).drew).mono ?_
  rintro e w3 ⟨so,sc,rfl,hown,hb3⟩
  have HB3:Hid (Bw w w3):=(Below.refl w.heap.size w).drew.trans hb3
  have HTR3:Hid (aB w3 (fun _=>True) 2 (.slice so m sc) m (bG (bM q d.g q.ks))):=(aB.iH hown).wide
  clear hown hb3
  go_wp2_with fail
  refine hK.out _ _ ⟨HS.out w3 HB3.out,fun _=>trivial⟩ (fun hh=>?_)
  clear hK K hS0
  try simp only[tp]
  refine aS 2 (some 5) rfl fun K hK=>?_
  go_simp
  obtain⟨wA,hwA⟩:∃wA,wA=w3.alloc (.cells #[.int .i64 1,.int .i64 (bB false)] 66):=⟨_,rfl⟩
  obtain⟨Q,hQQ⟩:∃Q,Q=w3.heap.size:=⟨_,rfl⟩
  have hbA:Bw w3 wA:=by rw[hwA];exact aH
  have HBA:Hid (Bw w wA):=HB3.out.trans (hbA.mono HB3.out.size)
  have HQ:Hid (w.heap.size≤Q∧wA.heap[Q]?=some (.cells #[.int .i64 1,.int .i64 (bB false)] 66 (0,0))):=⟨by rw[hQQ];exact HB3.out.size,by rw[hwA,hQQ];exact heap_alloc_new w3 _⟩
  have HTR:Hid (aB wA (fun _=>True) 2 (.slice so m sc) m (bG (bM q d.g q.ks))):=HTR3.out.keep (dX hbA)
  rw[←hwA,←hQQ]
  clear hwA hQQ hbA
  refine hK.out _ _ ⟨HS.out wA HBA.out,fun _=>trivial⟩ (fun hh=>?_)
  clear hK K
  try simp only[tp]
  have HOW:Hid (wA.ownsRow w.heap.size 66 2 (.slice (some ⟨Q,0,none⟩) 1 1) 1 (bG [(1,0)])):=HEND.out wA Q so sc HBA.out HQ.out.1 HQ.out.2 HTR.out
  by_cases hm0:m=0
  ·have hno:=Ht (v:=.slice (some ⟨Q,0,none⟩) 1 1) HOW.out so sc
   have HF:Hid (fB w.heap.size wA (.slice (some ⟨Q,0,none⟩) (m+1) 1) ((1,0)::bM q d.g q.ks)):=by
    have hk:q.ks=[]:=List.eq_nil_of_length_eq_zero (by rw[←HM.out.1];exact hm0)
    rw[hk,hm0]
    exact aB.iH HOW.out
   subst hm0
   refine aS 12 (some 15) rfl fun K hK=>?_
   refine DJ rfl (.tmp 5) (.tmp 14) 64 64 rfl _ _ (by simp [Act.eval]) (by simp [Act.eval]) _ _ (hno _) ?_
   refine hK.out _ _ ⟨HS.out wA HBA.out,fun _=>trivial⟩ (fun hh=>?_)
   clear hK K
   try simp only[tp]
   refine aS 13 (some 2) rfl fun K hK=>?_
   go_simp
   refine hK.out _ _ (Till.last (HS.out wA HBA.out)) (fun hh=>?_)
   clear hK K
   try simp only[tp]
   refine dU (by kernel_rfl) ?_ _
   clear hh hno
   go_wp2
   go_ret
   exact⟨_,_,rfl,HF.out,HBA.out⟩
  ·have hmp:0<m:=by omega
   obtain⟨sb,soff,sc',es,_,_,hsc⟩:=HTR.out.at (by rw[HTR.out.1];omega)
   obtain⟨rfl,rfl⟩:so=some ⟨sb,soff,none⟩∧sc=sc':=by simpa using es
   have HNQ:Hid (∀j u,(bG (bM q d.g q.ks))[j]?=some u→wA.cell? ((⟨sb,soff,none⟩:Addr).add j)=some u):=fun j u hj=>by rw[Addr.add_lit];exact hsc j u hj
   have HQL:Hid ((bG (bM q d.g q.ks)).length=m*2∧(∀u∈bG (bM q d.g q.ks),u.oneCell'=true)∧0<m):=⟨HTR.out.1,fun u hu=>by unfold bG at hu;obtain⟨x,_,hx⟩:=List.mem_flatMap.1 hu;simp at hx;rcases hx with rfl | rfl<;>rfl,hmp⟩
   have HMX:Hid (1+m≤maxLen∧(1+m)*16≤140737488355328):=by have:=HM.out.2;unfold Hid maxLen;omega
   clear es hsc hmp hm0
   refine aS 12 (some 15) rfl fun K hK=>?_
   refine step_append_lies _ rfl (.tmp 5) (.tmp 14) 64 rfl w.heap.size 66 i0 _ 2 16 Tryz.underlying64 hi0 hz0 hz1 hz2 rfl (by omega) (.slice (some ⟨Q,0,none⟩) 1 1) 1 _ (by simp [Act.eval]) HOW.out ⟨sb,soff,none⟩ m _ _ (by simp [Act.eval];rfl) HQL.out.1 HNQ.out HQL.out.2.1 HQL.out.2.2 HMX.out.1 HMX.out.2 (HBA.out).size _ rfl ?_
   intro g cap w7 hown7 hgrow hat hlt7
   have hbw7:Bw w w7:=(HBA.out).grown hgrow (HBA.out).size (fun k hk=>(HOW.out.lt k hk).1)
   have HF:Hid (fB w.heap.size w7 (.slice (some ⟨g,0,none⟩) (m+1) cap) ((1,0)::bM q d.g q.ks)∧Bw w w7):=by
    refine⟨?_,hbw7⟩
    have hr:=aB.iH hown7
    have e:((1,0)::bM q d.g q.ks).length=m+1:=by rw[List.length_cons,rX,HM.out.1]
    unfold fB
    rw[e]
    rw[Nat.add_comm 1 m] at hr
    exact hr
   refine hK.out _ _ ⟨HS.out w7 hbw7,fun _=>trivial⟩ (fun hh=>?_)
   clear hK K
   try simp only[tp]
   refine aS 13 (some 2) rfl fun K hK=>?_
   go_simp
   refine hK.out _ _ (Till.last (HS.out w7 HF.out.2)) (fun hh=>?_)
   clear hK K
   try simp only[tp]
   refine dU (by kernel_rfl) ?_ _
   clear hh hown7 hgrow hat hlt7 hbw7
   go_wp2
   go_ret
   exact⟨_,_,by rw[Nat.add_comm 1 m];rfl,HF.out⟩
end Go.Proofs.YtmgfakcccfahaaaGreatDoor
