/-
  package flat: outsAreFlows BY CONTRACT.
-/
import Derived.Test.YtmgfakcccfahaaaGreatDoorN12
namespace Go.Proofs.YtmgfakcccfahaaaGreatDoor
open Go.RowKit Go.Maps
set_option maxRecDepth 100000
set_option maxHeartbeats 4000000

def gB(f:List UInt8→Option Int):List Fw→List UInt8→Option Int
 | []=>f
 | x::l=>gB (bM f (x.name,0)) l
theorem A9:∀{l:List Fw} {f:List UInt8→Option Int} {i:Nat} {x:Fw},l[i]?=some x→gB f (l.take (i+1))=bM (gB f (l.take i)) (x.name,0)
 | [],f,i,x,h=>by simp at h
 | y::l,f,0,x,h=>by
  obtain rfl:y=x:=by simpa using h
  simp [gB]
 | y::l,f,i+1,x,h=>by
  simp only[List.take_succ_cons,gB]
  exact A9 (by simpa using h)
theorem A8:∀{l:List Fw} {f:List UInt8→Option Int},(∀s q,f s=some q→q=0)→∀s q,gB f l s=some q→q=0
 | [],f,hf,s,q,h=>hf s q h
 | x::l,f,hf,s,q,h=>by
  refine A8 (l:=l) (f:=bM f (x.name,0)) (fun s q h=>?_) s q h
  unfold bM at h
  by_cases e:s=x.name.data.toList
  ·rw[if_pos e] at h;simpa using h.symm
  ·rw[if_neg e] at h;exact hf s q h
def fH(f:List UInt8→Option Int):List Ex→Option (List UInt8→Option Int)
 | []=>some f
 | e::l=>match f e.op.data.toList with
  | none=>none
  | some n=>if 0<n then none else fH (bM f (e.op,n+1)) l
theorem yG:∀{l:List Ex} {f g:List UInt8→Option Int} {i:Nat} {e:Ex},l[i]?=some e→fH f (l.take i)=some g→fH f (l.take (i+1))=match g e.op.data.toList with
  | none=>none
  | some n=>if 0<n then none else some (bM g (e.op,n+1))
 | [],f,g,i,e,h,_=>by simp at h
 | y::l,f,g,0,e,h,hg=>by
  obtain rfl:y=e:=by simpa using h
  obtain rfl:f=g:=by simpa [fH] using hg
  simp only[List.take_succ_cons,List.take_zero,fH]
 | y::l,f,g,i+1,e,h,hg=>by
  simp only[List.take_succ_cons,fH] at hg ⊢
  cases hf:f y.op.data.toList with
  | none=>rw[hf] at hg;cases hg
  | some n=>
   rw[hf] at hg
   simp only at hg ⊢
   by_cases hn:0<n
   ·rw[if_pos hn] at hg;cases hg
   ·rw[if_neg hn] at hg ⊢
    exact yG (by simpa using h) hg
theorem sF:∀{l:List Ex} {f:List UInt8→Option Int} {i:Nat},fH f (l.take i)=none→fH f l=none
 | [],f,i,h=>by simp [fH] at h
 | y::l,f,0,h=>by simp [fH] at h
 | y::l,f,i+1,h=>by
  simp only[List.take_succ_cons,fH] at h ⊢
  cases hf:f y.op.data.toList with
  | none=>rfl
  | some n=>
   rw[hf] at h
   simp only at h ⊢
   by_cases hn:0<n
   ·rw[if_pos hn]
   ·rw[if_neg hn] at h ⊢
    exact sF h
def gQ(p:Pg):Bool:=(fH (gB (fun _=>none) p.fs) p.outs).isSome
theorem below_grown{w w4 w5:World}{K:Nat}(h:Bw w w4)(hg:w4.grownBy w5 (some K))(hK:w.heap.size≤K):Bw w w5:=
 ⟨hg.os.trans h.os,hg.tape.trans h.tape,hg.output.trans h.output,Nat.le_trans h.size hg.size,fun x hx=>by
  rw[hg.block x (Nat.lt_of_lt_of_le hx h.size) (fun e=>by
   have h1:x=K:=by simpa using e
   omega)]
  exact h.block x hx⟩
theorem JX(w:World)(S:Nat→Prop)(p:Pg)(o2 o3:Option Addr)(c2 c3:Nat)(v1 v4 v5:Value)(hp:fE w S p v1 (.slice o2 p.outs.length c2) (.slice o3 p.fs.length c3) v4 v5)(hn:p.outs.length≤2097152∧p.fs.length≤1000)(hs:∀x∈p.fs,x.name.size≤maxLen)(hs2:∀e∈p.outs,e.op.size≤maxLen) :
  Calls Tryz.prog 75 #[.agg #[v1,.slice o2 p.outs.length c2,.slice o3 p.fs.length c3,v4,v5]] w fun e w'=>Bw w w'∧e=.returned (.bool (gQ p)):=by
 have hmm:=@run_makeMap Tryz.prog
 obtain⟨_,houts,⟨xs,hfr,hfi⟩,_,_⟩:=hp
 obtain⟨w1,hw1⟩:∃w1,w1=w.alloc (.cells #[v1,.slice o2 p.outs.length c2,.slice o3 p.fs.length c3,v4,v5] 39):=⟨_,rfl⟩
 have hb1:Bw w w1:=by rw[hw1];exact aH
 have hr1:w1.heap[w.heap.size]?=some (.cells #[v1,.slice o2 p.outs.length c2,.slice o3 p.fs.length c3,v4,v5] 39 (0,0)):=by rw[hw1];exact heap_alloc_new _ _
 obtain⟨w2,hw2⟩:∃w2,w2=w1.alloc (.map #[] 0):=⟨_,rfl⟩
 have hb2:Bw w1 w2:=by rw[hw2];exact aH
 have hf2:aR w2 w1.heap.size 0 (aS (fun _=>none)):=by rw[hw2,sP];exact aR.made w1
 have e2:w2.cell? ⟨w.heap.size,0+2,none⟩=some (.slice o3 p.fs.length c3):=by rw[cell_of_row w2 _ _ _ _ (0,0) (aG hb2 hr1)];rfl
 obtain⟨K,hK⟩:∃K,K=w1.heap.size:=⟨_,rfl⟩
 rw[←hK] at hf2
 have HKB:Hid (w.heap.size<K):=by rw[hK,hw1];unfold Hid;simp
 have HF2:=aA hf2
 have HB2:Hid (Bw w w2):=hb1.trans (hb2.mono hb1.size)
 have HR2:Hid (w2.heap[w.heap.size]?=some (.cells #[v1,.slice o2 p.outs.length c2,.slice o3 p.fs.length c3,v4,v5] 39 (0,0))):=aG hb2 hr1
 have HW1:Hid (w.alloc (.cells #[v1,.slice o2 p.outs.length c2,.slice o3 p.fs.length c3,v4,v5] 39)=w1):=hw1.symm
 have HW2:Hid (w1.alloc (.map #[] 0)=w2):=hw2.symm
 have HKE:Hid (w.heap.size+1=K):=by rw[hK,hw1];unfold Hid;simp
 have HOU:=aA houts
 have HFR:=aA hfr
 have HFI:=aA hfi
 have HN:=aA hn
 have HS:Hid ((∀x∈p.fs,x.name.size≤maxLen)∧∀e∈p.outs,e.op.size≤maxLen):=⟨hs,hs2⟩
 clear houts hfr hfi hw1 hb1 hr1 hw2 hb2 hf2 hn hs hs2 hK
 go_enter Tryz.func75,Tryz.ntmps75
 go_upto_region 2 with fail
 rw[HW1.out,HW2.out,HKE.out]
 go_wp2
 clear e2
 go_loopw [14] (fun t wr=>∃(j n:Nat),j≤p.fs.length∧t=.int .i64 j∧Hid (aR wr K n (aS (gB (fun _=>none) (p.fs.take j)))∧n≤j∧Bw w wr∧wr.heap[w.heap.size]?=some (.cells #[v1,.slice o2 p.outs.length c2,.slice o3 p.fs.length c3,v4,v5] 39 (0,0)))) (fun t _=>p.fs.length-(intOf t).toNat)
 case atStart=>exact⟨0,0,Nat.zero_le _,rfl,⟨HF2.out,Nat.le_refl _,HB2.out,HR2.out⟩⟩
 case round=>
  obtain⟨j,n,hj,rfl,HJR⟩:=hrel
  by_cases hjl:j<p.fs.length
  ·obtain⟨name,kind,op',n',s',es,oo,cc,zs,e,x0,x1,x2,x3,x4,x5,_,_⟩:=HFI.out.at hjl
   obtain⟨b,off,cp,ev,_,_,g⟩:=HFR.out.at (by have:=HFR.out.1;omega)
   obtain⟨rfl,rfl⟩:o3=some ⟨b,off,none⟩∧c3=cp:=by simpa using ev
   obtain⟨hfn,hnj,hbr,hpr⟩:=HJR.out
   have y0:=aF hbr (g _ _ x0)
   have y1:=aF hbr (g _ _ x1)
   have y2:=aF hbr (g _ _ x2)
   have y3:=aF hbr (g _ _ x3)
   have y4:=aF hbr (g _ _ x4)
   have y5:=aF hbr (g _ _ x5)
   rw[←Nat.add_assoc] at y1 y2 y3 y4 y5
   have i0':(0:Int)≤(j:Int):=by omega
   have i1':(j:Int)<(p.fs.length:Int):=by omega
   have ej:p.fs[j]?=some ⟨name,kind,.mk op' n' s' es⟩:=by rw[List.getElem?_eq_getElem hjl,e]
   have hsn:name.size≤maxLen:=HS.out.1 _ (List.mem_of_getElem? ej)
   obtain⟨w4,hw4⟩:∃w4,w4=wr.alloc (.cells #[.string name,.int .i64 kind,.string op',.int .i64 n',.string s',.slice oo es.length cc] 95):=⟨_,rfl⟩
   have hb4:Bw wr w4:=by rw[hw4];exact aH
   have hr4:w4.heap[wr.heap.size]?=some (.cells #[.string name,.int .i64 kind,.string op',.int .i64 n',.string s',.slice oo es.length cc] 95 (0,0)):=by rw[hw4];exact heap_alloc_new _ _
   have z0:w4.cell? ⟨wr.heap.size,0,none⟩=some (.string name):=cr hr4 rfl
   have hfn4:aR w4 K n (aS (gB (fun _=>none) (p.fs.take j))):=hfn.kept (hb4.block _ hfn.lt)
   obtain⟨w5,hup,hfn5,hgr5⟩:=hfn4.put Tryz.underlying96 (by have:=HN.out;unfold maxLen;omega) name hsn (.int .i64 0)
   rw[sO _ (name,0),←A9 ej] at hfn5
   have HB5:Hid (Bw w w5):=below_grown (hbr.trans (hb4.mono hbr.size)) hgr5 (by have:=HKB.out;omega)
   have HP5:Hid (w5.heap[w.heap.size]?=some (.cells #[v1,.slice o2 p.outs.length c2,.slice (some ⟨b,off,none⟩) p.fs.length c3,v4,v5] 39 (0,0))):=mO hgr5 (fun e=>by
    have h1:=HKB.out
    have h2:K=w.heap.size:=by simpa using e
    omega) (aG hb4 hpr)
   have HF5:Hid (aR w5 K (n+1) (aS (gB (fun _=>none) (p.fs.take (j+1))))∧n+1≤j+1):=⟨hfn5,by omega⟩
   have HJ:=aA hjl
   have N4:Hid (wrap64 ((j:Int)+1)=(j:Int)+1):=by have:=HN.out;have:=HJ.out;unfold Hid wrap64;omega
   have HW4:Hid (wr.alloc (.cells #[.string name,.int .i64 kind,.string op',.int .i64 n',.string s',.slice oo es.length cc] 95)=w4):=hw4.symm
   clear hfn hnj hbr hpr g ev x0 x1 x2 x3 x4 x5 e ej hsn hw4 hb4 hr4 hfn4 hfn5 hgr5 hj hjl
   go_upto_region 5 with fail
   rw[HW4.out]
   clear y0 y1 y2 y3 y4 y5
   go_wp2
   exact⟨⟨j+1,n+1,HJ.out,by rw[N4.out];rfl,⟨HF5.out.1,HF5.out.2,HB5.out,HP5.out⟩⟩,by rw[N4.out];have:=HJ.out;simp [intOf];omega⟩
  ·obtain rfl:j=p.fs.length:=by omega
   obtain⟨hfn,hnj,hbr,hpr⟩:=HJR.out
   rw[List.take_length] at hfn
   have e1:wr.cell? ⟨w.heap.size,0+1,none⟩=some (.slice o2 p.outs.length c2):=cr hpr rfl
   have HFN:Hid (aR wr K n (aS (gB (fun _=>none) p.fs))∧n≤1000):=⟨hfn,by have:=HN.out;omega⟩
   have HBR:=aA hbr
   clear hfn hnj hbr hpr hj hjl HJR
   rename World=>wv
   go_wp2
   clear e1
   go_loopw [25] (fun t wr=>∃(j:Nat) (f:List UInt8→Option Int) (n:Nat),j≤p.outs.length∧t=.int .i64 j∧Hid (fH (gB (fun _=>none) p.fs) (p.outs.take j)=some f∧aR wr K n (aS f)∧n≤1000+j∧Bw w wr∧∀s q,f s=some q→q=0∨q=1)) (fun t _=>p.outs.length-(intOf t).toNat)
   case atStart=>exact⟨0,_,n,Nat.zero_le _,rfl,⟨by simp [fH],HFN.out.1,by have:=HFN.out.2;omega,HBR.out,fun s q h=>.inl (A8 (fun _ _ h=>by cases h) s q h)⟩⟩
   case round=>
    obtain⟨j,f,n2,hj,rfl,HJR⟩:=hrel
    by_cases hjl:j<p.outs.length
    ·obtain⟨hrun,hfn,hnj,hbr,hval⟩:=HJR.out
     obtain⟨e,he⟩:∃e,p.outs[j]?=some e:=⟨_,List.getElem?_eq_getElem hjl⟩
     obtain⟨b,off,cp,ev,_,_,g⟩:=HOU.out.at (by rw[vC];omega)
     obtain⟨rfl,rfl⟩:o2=some ⟨b,off,none⟩∧c2=cp:=by simpa using ev
     have hx:(gU p.outs)[j]?=some (.string e.op):=by
      have h1:=vD hjl
      rw[List.getElem?_eq_getElem hjl] at he
      rw[h1,Option.some.inj he]
     have y0:=aF hbr (g _ _ hx)
     obtain⟨nm,hnm⟩:∃nm,nm=e.op:=⟨_,rfl⟩
     rw[←hnm] at y0
     have hsn:nm.size≤maxLen:=by rw[hnm];exact HS.out.2 _ (List.mem_of_getElem? he)
     have hlk:=hfn.look Tryz.underlying96 (jL wr) nm hsn
     have hlk1:=hfn.nR Tryz.underlying96 (jL wr) nm hsn
     have e1:(aS f nm.data.toList).getD (.int .i64 0)=.int .i64 ((f nm.data.toList).getD 0):=lT _
     have e2:(aS f nm.data.toList).isSome=(f nm.data.toList).isSome:=by unfold aS;cases f nm.data.toList<;>rfl
     rw[e1,e2] at hlk
     rw[e1] at hlk1
     have i0':(0:Int)≤(j:Int):=by omega
     have i1':(j:Int)<(p.outs.length:Int):=by omega
     have htk:=yG he hrun
     rw[←hnm] at htk
     have HJ:=aA hjl
     have N4:Hid (wrap64 ((j:Int)+1)=(j:Int)+1):=by have:=HN.out;have:=HJ.out;unfold Hid wrap64;omega
     have HBE:=aA hbr
     cases hf:f nm.data.toList with
     | none=>
      rw[hf] at htk hlk
      have HE:Hid (gQ p=false):=by unfold Hid gQ;rw[sF htk];rfl
      have hlk':(Instr.lookup 96 (.map (some K)) (.string nm) true).run Tryz.prog wr=.ok (.tuple #[.int .i64 0,.bool false]) wr:=hlk
      clear hrun hfn hnj hbr hval he ev g hx hnm hsn hlk hlk1 e1 e2 htk hj hjl hf
      go_wp2
      go_ret
      exact⟨HBE.out,by rw[HE.out];rfl⟩
     | some q=>
      rw[hf] at htk hlk hlk1
      simp only at htk
      have hlk':(Instr.lookup 96 (.map (some K)) (.string nm) true).run Tryz.prog wr=.ok (.tuple #[.int .i64 q,.bool true]) wr:=hlk
      have hlk1':(Instr.lookup 96 (.map (some K)) (.string nm) false).run Tryz.prog wr=.ok (.int .i64 q) wr:=hlk1
      by_cases hq:0<q
      ·rw[if_pos hq] at htk
       have HE:Hid (gQ p=false):=by unfold Hid gQ;rw[sF htk];rfl
       have d0:(0<q)=True:=eq_true hq
       clear hrun hfn hnj hbr hval he ev g hx hnm hsn hlk hlk1 hlk1' e1 e2 htk hj hjl hf hq
       go_wp2
       go_ret
       exact⟨HBE.out,by rw[HE.out];rfl⟩
      ·rw[if_neg hq] at htk
       obtain rfl:q=0:=by
        rcases hval _ _ hf with h | h
        ·exact h
        ·omega
       obtain⟨w5,hup,hfn5,hgr5⟩:=hfn.put Tryz.underlying96 (by have:=HN.out;have:=HJ.out;unfold maxLen;omega) nm hsn (.int .i64 1)
       rw[sO f (nm,1)] at hfn5
       have HB5:Hid (Bw w w5):=below_grown hbr hgr5 (by have:=HKB.out;omega)
       have HF5:Hid (fH (gB (fun _=>none) p.fs) (p.outs.take (j+1))=some (bM f (nm,1))∧aR w5 K (n2+1) (aS (bM f (nm,1)))∧n2+1≤1000+(j+1)∧∀s q,bM f (nm,1) s=some q→q=0∨q=1):=⟨htk,hfn5,by omega,fun s q h=>by
        unfold bM at h
        by_cases e:s=nm.data.toList
        ·rw[if_pos e] at h;exact .inr (by simpa using h.symm)
        ·rw[if_neg e] at h;exact hval s q h⟩
       clear hrun hfn hnj hbr hval he ev g hx hnm hsn hlk hlk1 e1 e2 htk hj hjl hf hq hfn5 hgr5
       go_wp2
       exact⟨⟨j+1,_,n2+1,HJ.out,by rw[N4.out];rfl,⟨HF5.out.1,HF5.out.2.1,HF5.out.2.2.1,HB5.out,HF5.out.2.2.2⟩⟩,by rw[N4.out];have:=HJ.out;simp [intOf];omega⟩
    ·obtain rfl:j=p.outs.length:=by omega
     obtain⟨hrun,_,_,hbr,_⟩:=HJR.out
     rw[List.take_length] at hrun
     have HE:Hid (gQ p=true):=by unfold Hid gQ;rw[hrun];rfl
     have HBE:=aA hbr
     clear hrun hbr hj hjl
     go_wp2
     go_ret
     exact⟨HBE.out,by rw[HE.out];rfl⟩
end Go.Proofs.YtmgfakcccfahaaaGreatDoor
