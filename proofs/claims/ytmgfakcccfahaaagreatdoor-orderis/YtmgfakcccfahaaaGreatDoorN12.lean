/-
  package flat: kindsOf BY CONTRACT.
-/
import Derived.Test.YtmgfakcccfahaaaGreatDoorN11
import Derived.Lib.SliceRun
namespace Go.Proofs.YtmgfakcccfahaaaGreatDoor
open Go.RowKit Go.Maps
set_option maxRecDepth 100000
set_option maxHeartbeats 4000000

def bB(l:List (ByteArray×Int)):List Value:=l.flatMap fun v=>[.string v.1,.int .i64 v.2]
def gX(l:List Ex):List (ByteArray×Int):=l.map fun e=>(e.op,e.n)
def dD(l:List Fw):List (ByteArray×Int):=l.map fun f=>(f.name,f.kind)
theorem xB(l:List Ex):bR l=bB (gX l):=by simp [bR,bB,gX,List.flatMap_map]
theorem rP:∀l:List (ByteArray×Int),(bB l).length=l.length*2
 | []=>rfl
 | v::l=>by have:=rP l;simp only[bB,List.flatMap_cons,List.length_append,List.length_cons,List.length_nil] at this ⊢;omega
theorem rQ:∀{l:List (ByteArray×Int)} {i:Nat} {v:ByteArray×Int},l[i]?=some v→(bB l)[i*2]?=some (.string v.1)∧(bB l)[i*2+1]?=some (.int .i64 v.2)
 | [],i,v,h=>by simp at h
 | x::l,0,v,h=>by
  obtain rfl:x=v:=by simpa using h
  exact⟨rfl,rfl⟩
 | x::l,i+1,v,h=>by
  have:=rQ (l:=l) (i:=i) (v:=v) (by simpa using h)
  have e:bB (x::l)=.string x.1::.int .i64 x.2::bB l:=rfl
  rw[e,show (i+1)*2=i*2+1+1 from by omega,List.getElem?_cons_succ,List.getElem?_cons_succ,List.getElem?_cons_succ,List.getElem?_cons_succ]
  exact this
theorem AO(l:List (ByteArray×Int)):∀u∈bB l,u.oneCell'=true:=fun u hu=>by
 simp only[bB,List.mem_flatMap] at hu
 obtain⟨v,_,hv⟩:=hu
 simp at hv
 rcases hv with rfl | rfl<;>rfl
def bM(f:List UInt8→Option Int)(v:ByteArray×Int):List UInt8→Option Int:=fun s=>if s=v.1.data.toList then some v.2 else f s
def fI(f:List UInt8→Option Int)(v:ByteArray×Int):Bool:=(f v.1.data.toList).isSome||v.1.data.toList==[]||(v.2 != 1&&v.2 != 2)
def bA(f:List UInt8→Option Int):List (ByteArray×Int)→Option (List UInt8→Option Int)
 | []=>some f
 | v::l=>if fI f v then none else bA (bM f v) l
theorem sO(f:List UInt8→Option Int)(v:ByteArray×Int):bC (aS f) v.1.data.toList (.int .i64 v.2)=aS (bM f v):=by
 funext s
 unfold bC aS bM
 by_cases h:s=v.1.data.toList
 ·rw[if_pos h,if_pos h];rfl
 ·rw[if_neg h,if_neg h]
theorem vN:∀{l:List (ByteArray×Int)} {f:List UInt8→Option Int} {i:Nat} {v:ByteArray×Int} {g:List UInt8→Option Int},l[i]?=some v→bA f (l.take i)=some g→bA f (l.take (i+1))=if fI g v then none else some (bM g v)
 | [],f,i,v,g,h,_=>by simp at h
 | x::l,f,0,v,g,h,hg=>by
  obtain rfl:x=v:=by simpa using h
  obtain rfl:f=g:=by simpa [bA] using hg
  simp [bA]
 | x::l,f,i+1,v,g,h,hg=>by
  simp only[List.take_succ_cons,bA] at hg ⊢
  by_cases hb:fI f x=true
  ·rw[if_pos hb] at hg;cases hg
  ·rw[if_neg hb] at hg ⊢
   exact vN (by simpa using h) hg
theorem yU:∀{l:List (ByteArray×Int)} {f:List UInt8→Option Int} {i:Nat},bA f (l.take i)=none→bA f l=none
 | [],f,i,h=>by simp [bA] at h
 | x::l,f,0,h=>by simp [bA] at h
 | x::l,f,i+1,h=>by
  simp only[List.take_succ_cons,bA] at h ⊢
  by_cases hb:fI f x=true
  ·rw[if_pos hb]
  ·rw[if_neg hb] at h ⊢
   exact yU h
theorem N8(w:World)(S:Nat→Prop)(l:List (ByteArray×Int))(o:Option Addr)(c:Nat)(h:aB w S 2 (.slice o l.length c) l.length (bB l))(hn:l.length=0→o=none∧c=0)(hs:l.length≤1000) :
  Calls Tryz.prog 128 #[.slice o l.length c] w fun e w'=>∃g cap,e=.returned (.slice g l.length cap)∧w'.ownsRow w.heap.size 157 2 (.slice g l.length cap) l.length (bB l)∧Bw w w':=by
 obtain⟨i0,hi0,hz0,hz1,hz2⟩:=info_parts Tryz.yY
 have hnil:=fun (w:World) (a:Option Addr) (n c:Nat)=>Lib.run_eql_slice_nil w 35 157 a n c 0 0 Tryz.underlying35
 by_cases h0:l.length=0
 ·obtain⟨rfl,rfl⟩:=hn h0
  obtain rfl:l=[]:=List.eq_nil_of_length_eq_zero h0
  clear h hn hs h0
  go_enter Tryz.func128,Tryz.ntmps128
  go_wp2
  go_ret
  exact⟨none,0,rfl,World.ownsRow_nil _ _ _ _,Below.refl _ _⟩
 ·obtain⟨b,off,c',e,hb,hl,hc⟩:=h.at (by rw[rP];omega)
  obtain⟨rfl,rfl⟩:o=some ⟨b,off,none⟩∧c=c':=by simpa using e
  have HC:=aA hc
  have HS:Hid (l.length≤1000∧0<l.length):=⟨hs,by omega⟩
  have HLN:Hid ((bB l).length=l.length*2):=rP l
  have HOW:Hid ((w.alloc (.cells #[] 157)).ownsRow w.heap.size 157 2 (.slice (some ⟨w.heap.size,0,none⟩) 0 0) 0 []):=⟨rfl,.inr ⟨w.heap.size,0,#[],rfl,Nat.le_refl _,heap_alloc_new _ _,Nat.le_refl _,by unfold maxLen;omega,rfl,rfl⟩⟩
  have hba:Bw w (w.alloc (.cells #[] 157)):=aH
  have HNW:Hid (∀j u,(bB l)[j]?=some u→(w.alloc (.cells #[] 157)).cell? ((⟨b,off,none⟩:Addr).add j)=some u):=fun j u hj=>by rw[Addr.add_lit];exact aF hba (HC.out j u hj)
  have HBA:=aA hba
  have HM:Hid (0<l.length∧0+l.length≤maxLen∧(0+l.length)*24≤140737488355328):=by have:=HS.out;unfold Hid maxLen;omega
  clear h hn hs h0 e hb hc hba
  go_enter Tryz.func128,Tryz.ntmps128
  go_wp2_with (at_builtin;refine wpList_append_lies _ rfl _ _ 35 rfl w.heap.size 157 i0 _ 2 24 Tryz.underlying35 hi0 hz0 hz1 hz2 rfl (by omega) (.slice (some ⟨w.heap.size,0,none⟩) 0 0) 0 [] rfl HOW.out ⟨b,off,none⟩ l.length c (bB l) rfl HLN.out HNW.out (AO l) HM.out.1 HM.out.2.1 HM.out.2.2 HBA.out.size _ rfl ?_;intro g cap w2 hown2 hgrow hat hlt)
  rw[Nat.zero_add,List.nil_append] at hown2
  have hb2:Bw w w2:=HBA.out.grown hgrow HBA.out.size (fun k hk=>by simp [Value.ownBlock] at hk;omega)
  go_ret
  exact⟨_,_,rfl,hown2,hb2⟩
def rJ(l:List (ByteArray×Int))(w:World)(e:Ending)(w':World):Prop:=
 Bw w w'∧((∃kd K n,bA (fun _=>none) l=some kd∧e=.returned (.tuple #[.map (some K),.bool true])∧aR w' K n (aS kd)∧w.heap.size≤K)∨(bA (fun _=>none) l=none∧e=.returned (.tuple #[.map none,.bool false])))
def aK(p:Pg):List (ByteArray×Int):=gX p.ins++dD p.fs
theorem sP:aS (fun _=>none)=mV:=by funext s;rfl
theorem Me(w:World)(S:Nat→Prop)(p:Pg)(o1 o3:Option Addr)(c1 c3:Nat)(v2 v4 v5:Value)(hp:fE w S p (.slice o1 p.ins.length c1) v2 (.slice o3 p.fs.length c3) v4 v5)(hnil:p.ins.length=0→o1=none∧c1=0)(hn:p.ins.length+p.fs.length≤1000)(hs:∀v∈aK p,v.1.size≤maxLen) :
  Calls Tryz.prog 73 #[.agg #[.slice o1 p.ins.length c1,v2,.slice o3 p.fs.length c3,v4,v5]] w (rJ (aK p) w):=by
 obtain⟨i0,hi0,hz0,hz1,hz2⟩:=info_parts Tryz.yY
 have hmm:=@run_makeMap Tryz.prog
 obtain⟨hins,_,⟨xs,hfr,hfi⟩,_,_⟩:=hp
 obtain⟨w1,hw1⟩:∃w1,w1=w.alloc (.cells #[.slice o1 p.ins.length c1,v2,.slice o3 p.fs.length c3,v4,v5] 39):=⟨_,rfl⟩
 have hb1:Bw w w1:=by rw[hw1];exact aH
 have hr1:w1.heap[w.heap.size]?=some (.cells #[.slice o1 p.ins.length c1,v2,.slice o3 p.fs.length c3,v4,v5] 39 (0,0)):=by rw[hw1];exact heap_alloc_new _ _
 have c0:w1.cell? ⟨w.heap.size,0,none⟩=some (.slice o1 p.ins.length c1):=cr hr1 rfl
 have hst1:aP S S w w1:=fun b hb hl=>⟨hb,hb1.block b hl⟩
 have hle:(gX p.ins).length=p.ins.length:=by simp [gX]
 have hcl:=N8 w1 S (gX p.ins) o1 c1 (by rw[←xB,hle];exact hins.keep hst1) (by rw[hle];exact hnil) (by rw[hle];omega)
 rw[hle] at hcl
 have HCL:=aA hcl
 have HW1:Hid (w.alloc (.cells #[.slice o1 p.ins.length c1,v2,.slice o3 p.fs.length c3,v4,v5] 39)=w1):=hw1.symm
 have HR1:=aA hr1
 have HB1:=aA hb1
 have HFR:=aA hfr
 have HFI:=aA hfi
 have HN:=aA hn
 have HS:=aA hs
 clear hins hfr hfi hw1 hb1 hr1 hst1 hle hcl hnil hn hs
 go_enter Tryz.func73,Tryz.ntmps73
 go_wp2_with fail
 rw[HW1.out]
 refine HCL.out.mono ?_
 rintro e w2 ⟨g0,cap0,rfl,hown2,hb2⟩
 have hr2:=aG hb2 HR1.out
 have e2:w2.cell? ⟨w.heap.size,0+2,none⟩=some (.slice o3 p.fs.length c3):=cr hr2 rfl
 have HO2:=aA hown2
 have HB2:Hid (Bw w w2):=HB1.out.trans (hb2.mono HB1.out.size)
 have HZ1:Hid (w1.heap.size≤w2.heap.size):=hb2.size
 clear hown2 hb2 hr2 c0
 go_wp2
 clear e2
 go_loopw [4,18] (fun v t wr=>∃(j:Nat) (so:Option Addr) (sc:Nat),j≤p.fs.length∧t=.int .i64 j∧v=.slice so (p.ins.length+j) sc∧Hid (wr.ownsRow w1.heap.size 157 2 (.slice so (p.ins.length+j) sc) (p.ins.length+j) (bB (gX p.ins++dD (p.fs.take j)))∧Bw w wr∧w1.heap.size≤wr.heap.size)) (fun _ t _=>p.fs.length-(intOf t).toNat)
 case atStart=>exact⟨0,g0,cap0,Nat.zero_le _,rfl,rfl,⟨by simpa [dD] using HO2.out,HB2.out,HZ1.out⟩⟩
 case round=>
  obtain⟨j,so,sc,hj,rfl,rfl,HJR⟩:=hrel
  by_cases hjl:j<p.fs.length
  ·obtain⟨name,kind,op',n',s',es,oo,cc,zs,e,x0,x1,x2,x3,x4,x5,_,_⟩:=HFI.out.at hjl
   obtain⟨b,off,cp,ev,_,_,g⟩:=HFR.out.at (by have:=HFR.out.1;omega)
   obtain⟨rfl,rfl⟩:o3=some ⟨b,off,none⟩∧c3=cp:=by simpa using ev
   have hbr:=HJR.out.2.1
   have y0:=aF hbr (g _ _ x0)
   have y1:=aF hbr (g _ _ x1)
   have y2:=aF hbr (g _ _ x2)
   have y3:=aF hbr (g _ _ x3)
   have y4:=aF hbr (g _ _ x4)
   have y5:=aF hbr (g _ _ x5)
   rw[←Nat.add_assoc] at y1 y2 y3 y4 y5
   have i0':(0:Int)≤(j:Int):=by omega
   have i1':(j:Int)<(p.fs.length:Int):=by omega
   have etk:bB (gX p.ins++dD (p.fs.take (j+1)))=bB (gX p.ins++dD (p.fs.take j))++[.string name,.int .i64 kind]:=by
    rw[List.take_add_one,List.getElem?_eq_getElem hjl,e]
    simp [dD,bB]
   have ETK:Hid _:=etk
   have HJ:=aA hjl
   have N4:Hid (wrap64 ((j:Int)+1)=(j:Int)+1):=by have:=HN.out;have:=HJ.out;unfold Hid wrap64;omega
   have hd:∀o1 o2,((wr.alloc o1).alloc o2).ownsRow w1.heap.size 157 2 (.slice so (p.ins.length+j) sc) (p.ins.length+j) (bB (gX p.ins++dD (p.fs.take j))):=fun o1 o2=>(HJR.out.1.alloc o1).alloc o2
   have HO:=aA hd
   have HMX:Hid (p.ins.length+j+1≤maxLen∧(p.ins.length+j+1)*24≤140737488355328):=by have:=HN.out;have:=HJ.out;unfold Hid maxLen;omega
   have HSZ:Hid (∀o1 o2,w1.heap.size≤((wr.alloc o1).alloc o2).heap.size):=fun o1 o2=>by have:=HJR.out.2.2;simp;omega
   have HRW:Hid (∀k,(Value.slice so (p.ins.length+j) sc).ownBlock=some k→w.heap.size≤k):=fun k hk=>by have h1:=(HJR.out.1.lt k hk).1;have h2:=HB1.out.size;omega
   clear hbr g ev x0 x1 x2 x3 x4 x5 e etk hj hjl hd
   obtain⟨w4,hw4⟩:∃w4,w4=wr.alloc (.cells #[.string name,.int .i64 kind,.string op',.int .i64 n',.string s',.slice oo es.length cc] 95):=⟨_,rfl⟩
   have hs4:w4.heap.size=wr.heap.size+1:=by rw[hw4];simp
   have hb4:Bw wr w4:=by rw[hw4];exact aH
   have hr4:w4.heap[wr.heap.size]?=some (.cells #[.string name,.int .i64 kind,.string op',.int .i64 n',.string s',.slice oo es.length cc] 95 (0,0)):=by rw[hw4];exact heap_alloc_new _ _
   have z0:w4.cell? ⟨wr.heap.size,0,none⟩=some (.string name):=cr hr4 rfl
   have z1:w4.cell? ⟨wr.heap.size,0+1,none⟩=some (.int .i64 kind):=cr hr4 rfl
   have HNW:Hid (∀j u,[Value.string name,.int .i64 kind][j]?=some u→(w4.alloc (.cells #[.string name,.int .i64 kind] 157)).cell? ((⟨w4.heap.size,0,none⟩:Addr).add j)=some u):=World.news_of_block (heap_alloc_new w4 _)
   have HO4:Hid ((w4.alloc (.cells #[.string name,.int .i64 kind] 157)).ownsRow w1.heap.size 157 2 (.slice so (p.ins.length+j) sc) (p.ins.length+j) (bB (gX p.ins++dD (p.fs.take j)))):=by rw[hw4];exact HO.out _ _
   have HSZ4:Hid (w1.heap.size≤(w4.alloc (.cells #[.string name,.int .i64 kind] 157)).heap.size):=by rw[hw4];exact HSZ.out _ _
   have HB4:Hid (Bw w (w4.alloc (.cells #[.string name,.int .i64 kind] 157))):=(HJR.out.2.1.trans (hb4.mono HJR.out.2.1.size)).alloc (by have h1:=HJR.out.2.1.size;omega) _
   have HW4:Hid (wr.alloc (.cells #[.string name,.int .i64 kind,.string op',.int .i64 n',.string s',.slice oo es.length cc] 95)=w4):=hw4.symm
   clear hw4 hs4 hb4 hr4
   go_upto_region 5 with fail
   rw[HW4.out]
   clear y0 y1 y2 y3 y4 y5
   go_wp2_with (at_builtin;refine wpList_append_lies _ rfl _ _ 35 rfl w1.heap.size 157 i0 _ 2 24 Tryz.underlying35 hi0 hz0 hz1 hz2 rfl (by omega) (.slice so (p.ins.length+j) sc) (p.ins.length+j) _ rfl HO4.out ⟨w4.heap.size,0,none⟩ 1 1 [.string name,.int .i64 kind] rfl rfl HNW.out (by simp [Value.oneCell']) (by omega) HMX.out.1 HMX.out.2 HSZ4.out _ rfl ?_;intro g cap w5 hown5 hgrow hat hlt)
   have hb5:Bw w w5:=HB4.out.grown hgrow HB4.out.size HRW.out
   rw[←ETK.out] at hown5
   have hz5:w1.heap.size≤w5.heap.size:=Nat.le_trans HSZ4.out hgrow.size
   exact⟨⟨j+1,_,_,HJ.out,by rw[N4.out];rfl,rfl,⟨hown5,hb5,hz5⟩⟩,by rw[N4.out];have:=HJ.out;simp [intOf];omega⟩
  ·obtain rfl:j=p.fs.length:=by omega
   obtain⟨hown,hbr,hzr⟩:=HJR.out
   rw[List.take_length] at hown
   have hown':wr.ownsRow w1.heap.size 157 2 (.slice so (p.ins.length+p.fs.length) sc) (p.ins.length+p.fs.length) (bB (aK p)):=hown
   have hvl:(aK p).length=p.ins.length+p.fs.length:=by simp [aK,gX,dD]
   obtain⟨m,hm⟩:∃m,m=p.ins.length+p.fs.length:=⟨_,rfl⟩
   obtain⟨w3,hw3⟩:∃w3,w3=wr.alloc (.map #[] 0):=⟨_,rfl⟩
   rw[←hm] at hown' hvl ⊢
   have HVL:Hid ((aK p).length=m∧m≤1000):=⟨hvl,by rw[hm];exact HN.out⟩
   have HO3:Hid (w3.ownsRow w1.heap.size 157 2 (.slice so m sc) m (bB (aK p))):=by rw[hw3];exact hown'.alloc _
   have HF3:Hid (aR w3 wr.heap.size 0 (aS (fun _=>none))):=by rw[hw3,sP];exact aR.made wr
   have HB3:Hid (Bw w w3):=by rw[hw3];exact hbr.alloc hbr.size _
   have HK3:Hid (w.heap.size≤wr.heap.size):=hbr.size
   have HW3:Hid (wr.alloc (.map #[] 0)=w3):=hw3.symm
   have HKN:Hid (∀k,(Value.slice so m sc).ownBlock=some k→k≠wr.heap.size):=fun k hk=>by have:=(hown'.lt k hk).2;omega
   obtain⟨K,hK⟩:∃K,K=wr.heap.size:=⟨_,rfl⟩
   clear hown hown' hbr hzr hvl hm hw3 hj hjl HJR
   go_wp2
   rw[HW3.out,←hK]
   rw[←hK] at HF3 HKN HK3
   clear HW3 hK
   go_loopw [34] (fun t wr=>∃(j:Nat) (f:List UInt8→Option Int) (n:Nat),j≤m∧t=.int .i64 j∧Hid (bA (fun _=>none) ((aK p).take j)=some f∧aR wr K n (aS f)∧n≤j∧wr.ownsRow w1.heap.size 157 2 (.slice so m sc) m (bB (aK p))∧Bw w wr)) (fun t _=>m-(intOf t).toNat)
   case atStart=>exact⟨0,fun _=>none,0,Nat.zero_le _,rfl,⟨by simp [bA],HF3.out,Nat.le_refl _,HO3.out,HB3.out⟩⟩
   case round=>
    obtain⟨j,f,n,hj,rfl,HJR⟩:=hrel
    by_cases hjl:j<m
    ·obtain⟨⟨nm,k⟩,hv⟩:∃v,(aK p)[j]?=some v:=⟨_,List.getElem?_eq_getElem (by have:=HVL.out.1;omega)⟩
     obtain⟨hrun,hfn,hnj,hown,hbr⟩:=HJR.out
     obtain⟨gg,cap,es,_,_⟩:=hown.form (by omega)
     obtain⟨rfl,rfl⟩:so=some ⟨gg,0,none⟩∧sc=cap:=by simpa using es
     obtain⟨x0,x1⟩:=rQ hv
     have y0:=hown.cells (g:=gg) rfl _ _ x0
     have y1:=hown.cells (g:=gg) rfl _ _ x1
     rw[Addr.add_lit,Nat.zero_add] at y0 y1
     simp only at y0 y1
     have hszn:nm.size≤maxLen:=HS.out (nm,k) (List.mem_of_getElem? hv)
     obtain⟨w4,hw4⟩:∃w4,w4=wr.alloc (.cells #[.string nm,.int .i64 k] 157):=⟨_,rfl⟩
     have hb4:Bw wr w4:=by rw[hw4];exact aH
     have hr4:w4.heap[wr.heap.size]?=some (.cells #[.string nm,.int .i64 k] 157 (0,0)):=by rw[hw4];exact heap_alloc_new _ _
     have z0:w4.cell? ⟨wr.heap.size,0,none⟩=some (.string nm):=cr hr4 rfl
     have z1:w4.cell? ⟨wr.heap.size,0+1,none⟩=some (.int .i64 k):=cr hr4 rfl
     have hfn4:aR w4 K n (aS f):=hfn.kept (hb4.block _ hfn.lt)
     have hlk:=hfn4.look Tryz.underlying96 (jL w4) nm hszn
     have e1:(aS f nm.data.toList).getD (.int .i64 0)=.int .i64 ((f nm.data.toList).getD 0):=lT _
     have e2:(aS f nm.data.toList).isSome=(f nm.data.toList).isSome:=by unfold aS;cases f nm.data.toList<;>rfl
     rw[e1,e2] at hlk
     obtain⟨q,hq⟩:∃q,q=(f nm.data.toList).getD 0:=⟨_,rfl⟩
     obtain⟨tw,htw⟩:∃tw,tw=(f nm.data.toList).isSome:=⟨_,rfl⟩
     rw[←hq,←htw] at hlk
     have HTW:=aA htw
     have i0':(0:Int)≤(j:Int):=by omega
     have i1':(j:Int)<(m:Int):=by omega
     have HJ:=aA hjl
     have N4:Hid (wrap64 ((j:Int)+1)=(j:Int)+1):=by have:=HVL.out;have:=HJ.out;unfold Hid wrap64;omega
     have HW4:Hid (wr.alloc (.cells #[.string nm,.int .i64 k] 157)=w4):=hw4.symm
     have HB4:Hid (Bw w w4):=hbr.trans (hb4.mono hbr.size)
     have HTK:Hid (bA (fun _=>none) ((aK p).take (j+1))=if fI f (nm,k) then none else some (bM f (nm,k))):=vN hv hrun
     have HBAD:Hid (fI f (nm,k)=true→rJ (aK p) w (.returned (.tuple #[.map none,.bool false])) w4):=fun hb=>⟨HB4.out,.inr ⟨yU (i:=j+1) (by rw[HTK.out,if_pos hb]),rfl⟩⟩
     have HO4:Hid (w4.ownsRow w1.heap.size 157 2 (.slice (some ⟨gg,0,none⟩) m sc) m (bB (aK p))):=gP hown (fun q hq=>hb4.block q (hown.lt q hq).2)
     have HF4:Hid (aR w4 K n (aS f)∧n≤j∧nm.size≤maxLen):=⟨hfn4,hnj,hszn⟩
     clear hv hrun hfn hnj hown hbr es x0 x1 hszn hw4 hb4 hr4 hfn4 e1 e2 hq htw hj hjl
     cases tw with
     | true=>
      have hb:fI f (nm,k)=true:=by unfold fI;rw[←HTW.out];rfl
      have HEND:=HBAD.out hb
      have HEND':Hid (rJ (aK p) w (.returned (.tuple #[.map none,.bool false])) w4):=HEND
      clear hb HEND
      go_upto_region 11 with fail
      rw[HW4.out]
      go_wp2
      go_ret2
      exact HEND'.out
     | false=>
      by_cases hnm:nm.data.toList=[]
      ·have hb:fI f (nm,k)=true:=by unfold fI;rw[←HTW.out,hnm];rfl
       have dn:(nm.toList==[])=true:=by rw[ByteArray.toList_eq,hnm];rfl
       have HEND':Hid (rJ (aK p) w (.returned (.tuple #[.map none,.bool false])) w4):=HBAD.out hb
       clear hb hnm
       go_upto_region 11 with fail
       rw[HW4.out]
       go_wp2
       go_ret2
       exact HEND'.out
      ·have dn:(nm.toList==[])=false:=by rw[ByteArray.toList_eq];exact beq_eq_false_iff_ne.2 hnm
       have dnn:(nm.data.toList==[])=false:=beq_eq_false_iff_ne.2 hnm
       by_cases hk:k=1∨k=2
       ·have hb:fI f (nm,k)=false:=by
         unfold fI
         rw[←HTW.out]
         simp only[dnn,Bool.false_or]
         rcases hk with rfl | rfl<;>rfl
        obtain⟨w5,hup,hfn5,hgr5⟩:=HF4.out.1.put Tryz.underlying96 (by have:=HF4.out.2.1;have:=HVL.out;have:=HJ.out;unfold maxLen;omega) nm HF4.out.2.2 (.int .i64 k)
        rw[sO f (nm,k)] at hfn5
        have HB5:Hid (Bw w w5):=⟨hgr5.os.trans HB4.out.os,hgr5.tape.trans HB4.out.tape,hgr5.output.trans HB4.out.output,Nat.le_trans HB4.out.size hgr5.size,fun x hx=>by
         rw[hgr5.block x (Nat.lt_of_lt_of_le hx HB4.out.size) (fun e=>by have h1:x=K:=(by simpa using e);have:=HK3.out;omega)]
         exact HB4.out.block x hx⟩
        have HO5:Hid (w5.ownsRow w1.heap.size 157 2 (.slice (some ⟨gg,0,none⟩) m sc) m (bB (aK p))):=gP HO4.out (fun x hx=>hgr5.block x (HO4.out.lt x hx).2 (fun e=>HKN.out x hx (by simpa using e)))
        have HF5:=aA hfn5
        have HT5:Hid (bA (fun _=>none) ((aK p).take (j+1))=some (bM f (nm,k))):=by unfold Hid;rw[HTK.out,hb];rfl
        have HNJ:Hid (n+1≤j+1):=by have:=HF4.out.2.1;unfold Hid;omega
        clear hfn5 hgr5 hb hnm dnn
        rcases hk with rfl | rfl
        ·go_upto_region 11 with fail
         rw[HW4.out]
         go_wp2
         exact⟨⟨j+1,_,n+1,HJ.out,by rw[N4.out];rfl,⟨HT5.out,HF5.out,HNJ.out,HO5.out,HB5.out⟩⟩,by rw[N4.out];have:=HJ.out;simp [intOf];omega⟩
        ·go_upto_region 11 with fail
         rw[HW4.out]
         go_wp2
         exact⟨⟨j+1,_,n+1,HJ.out,by rw[N4.out];rfl,⟨HT5.out,HF5.out,HNJ.out,HO5.out,HB5.out⟩⟩,by rw[N4.out];have:=HJ.out;simp [intOf];omega⟩
       ·have k1:k≠1:=fun e=>hk (.inl e)
        have k2:k≠2:=fun e=>hk (.inr e)
        have hb:fI f (nm,k)=true:=by unfold fI;rw[←HTW.out];simp [dnn,k1,k2]
        have d1:(k != 1)=true:=bne_iff_ne.2 k1
        have d2:(k != 2)=true:=bne_iff_ne.2 k2
        have d3:(k==1)=false:=beq_eq_false_iff_ne.2 k1
        have d4:(k==2)=false:=beq_eq_false_iff_ne.2 k2
        have HEND':Hid (rJ (aK p) w (.returned (.tuple #[.map none,.bool false])) w4):=HBAD.out hb
        clear hb hnm dnn hk k1 k2
        go_upto_region 11 with fail
        rw[HW4.out]
        go_wp2
        go_ret2
        exact HEND'.out
    ·obtain rfl:j=m:=by omega
     obtain⟨hrun,hfn,_,_,hbr⟩:=HJR.out
     rw[List.take_of_length_le (by rw[HVL.out.1];exact Nat.le_refl _)] at hrun
     have HEND':Hid (rJ (aK p) w (.returned (.tuple #[.map (some K),.bool true])) wr):=⟨hbr,.inl ⟨f,K,n,hrun,rfl,hfn,HK3.out⟩⟩
     clear hrun hfn hbr hj hjl
     go_wp2
     go_ret2
     exact HEND'.out
end Go.Proofs.YtmgfakcccfahaaaGreatDoor
