/-
  package order: needsOf BY CONTRACT.
-/
import Derived.Test.YtmgfakcccfahaaaGreatDoorN17
namespace Go.Proofs.YtmgfakcccfahaaaGreatDoor
open Go.RowKit Go.Maps
def mO(fs:List Fw):Nat→List UInt8→Option Nat
 | 0=>fun _=>none
 | j+1=>match fs[j]? with
  | some x=>fun s=>if s=x.name.data.toList then some j else mO fs j s
  | none=>mO fs j
def lV(fs:List Fw)(j:Nat):List UInt8→Option Int:=fun s=>(mO fs j s).map (fun k:Nat=>(k:Int))
theorem Nb{fs:List Fw}{j:Nat}{x:Fw}(h:fs[j]?=some x):bI (lV fs j) (x.name,(j:Int))=lV fs (j+1):=by
 funext s
 unfold bI lV
 simp only[mO,h]
 by_cases e:s=x.name.data.toList
 ·rw[if_pos e,if_pos e];rfl
 ·rw[if_neg e,if_neg e]
theorem Bz{fs:List Fw}:∀{j:Nat} {s:List UInt8} {k:Nat},mO fs j s=some k→k<j∧∃x,fs[k]?=some x∧x.name.data.toList=s
 | 0,s,k,h=>by simp [mO] at h
 | j+1,s,k,h=>by
  unfold mO at h
  cases hx:fs[j]? with
  | none=>
   rw[hx] at h
   obtain⟨h1,h2⟩:=Bz h
   exact⟨by omega,h2⟩
  | some x=>
   rw[hx] at h
   simp only at h
   by_cases e:s=x.name.data.toList
   ·rw[if_pos e] at h
    obtain rfl:=Option.some.inj h
    exact⟨by omega,x,hx,e.symm⟩
   ·rw[if_neg e] at h
    obtain⟨h1,h2⟩:=Bz h
    exact⟨by omega,h2⟩
def dS(fs:List Fw):List (List Nat):=fs.map fun f=>(onE f.e).filterMap (mO fs fs.length)
def kR(fs:List Fw)(j:Nat):List (List Int):=((fs.take j).map fun f=>(onE f.e).filterMap (lV fs fs.length))++List.replicate (fs.length-j) []
theorem EX{fs:List Fw}{j:Nat}(h:j≤fs.length):(kR fs j).length=fs.length:=by
 simp [kR]
 omega
theorem Nu{fs:List Fw}{j:Nat}(h:j<fs.length):(kR fs j)[j]?=some []:=by
 unfold kR
 have e1:((fs.take j).map fun f=>(onE f.e).filterMap (lV fs fs.length)).length=j:=by simp;omega
 rw[List.getElem?_append_right (by omega),e1,Nat.sub_self,List.getElem?_replicate,if_pos (by omega)]
theorem Nt{fs:List Fw}{j:Nat}{x:Fw}(h:fs[j]?=some x):(kR fs j).set j ([]++(onE x.e).filterMap (lV fs fs.length))=kR fs (j+1):=by
 have hj:=(bA h).1
 unfold kR
 rw[List.set_append_right _ _ (by simp;omega)]
 have e1:j-((fs.take j).map fun f=>(onE f.e).filterMap (lV fs fs.length)).length=0:=by simp;omega
 rw[e1,show fs.length-j=(fs.length-(j+1))+1 from by omega,List.replicate_succ,List.set_cons_zero,List.take_add_one,h]
 simp
theorem Nv(fs:List Fw):kR fs fs.length=(dS fs).map fun l=>l.map fun k=>((k:Nat):Int):=by
 unfold kR dS lV
 rw[List.take_length,Nat.sub_self,List.replicate_zero,List.append_nil,List.map_map]
 refine List.map_congr_left fun f _=>?_
 simp only[Function.comp_apply,List.map_filterMap]
theorem dM.add{w:World}{base nb:Nat}{F:Nat→Prop}{ls:List (List Int)}(h:dM w base nb F ls)(o:Obj):dM (w.alloc o) base nb (fun k=>F k∨k=w.heap.size) ls:=by
 have h':=h.alloc o
 obtain⟨vs,h1,h2,h3,h4,h5,h6⟩:=h'
 obtain⟨us,g1,g2,g3,g4,g5,g6⟩:=h
 have hn:(w.alloc o).heap[nb]?=w.heap[nb]?:=((Below.refl w.heap.size w).alloc (Nat.le_refl _) o).block nb (bN g1).1
 have he:vs=us:=by
  rw[hn,g1] at h1
  have:=Option.some.inj h1
  injection this with e1
  exact(List.toArray_inj e1).symm
 subst he
 refine⟨vs,h1,h2,h3,fun k hk=>?_,fun i v l hv hl=>⟨(h5 i v l hv hl).1,fun k hk=>⟨((h5 i v l hv hl).2 k hk).1,fun hF=>?_⟩⟩,h6⟩
 ·rcases hk with hk | rfl
  ·exact h4 k hk
  ·simp
 ·rcases hF with hF | rfl
  ·exact((h5 i v l hv hl).2 k hk).2 hF
  ·have:=((g5 i v l hv hl).1.lt _ hk).2
   omega
theorem vH{α:Type}{n i:Nat}{x y:α}(h:(List.replicate n x)[i]?=some y):y=x:=by
 rw[List.getElem?_replicate] at h
 split at h
 ·exact(Option.some.inj h).symm
 ·cases h
theorem dM.made{w:World}{base:Nat}{F:Nat→Prop}(n:Nat)(hb:base≤w.heap.size)(hF:∀k,F k→k<w.heap.size):dM (w.alloc (.cells (Array.replicate n (.slice none 0 0)) 30)) base w.heap.size F (List.replicate n []):=by
 refine⟨List.replicate n (.slice none 0 0),?_,by simp,hb,fun k hk=>by have:=hF k hk;simp;omega,fun i v l hv hl=>?_,fun i j v u _ hv _ k hk=>?_⟩
 ·rw[heap_alloc_new]
  simp
 ·obtain rfl:=vH hv
  obtain rfl:=vH hl
  exact⟨World.ownsRow_nil _ _ _ _,fun k hk=>by simp [Value.ownBlock] at hk⟩
 ·obtain rfl:=vH hv
  simp [Value.ownBlock] at hk
theorem Tryz.FZ:(Tryz.prog.info? 30).map (fun i=>(i.zero,i.size,i.bytes))=some (some (.slice none 0 0),1,24):=by kernel_rfl
theorem Tryz.OT:(Tryz.prog.info? 4).map (fun i=>(i.zero,i.size,i.bytes))=some (some (.bool false),1,1):=by kernel_rfl
theorem ND(z:Value)(n:Nat)(h:z.cells=#[z]):madeCells z.cells (n*1)=Array.replicate n z:=by
 apply Array.toList_inj.1
 rw[Nat.mul_one,h]
 simpa using toList_madeCells_one z n
theorem sH{t e:TypeId}{z:Value}{by':Nat}(ht:Tryz.prog.underlying t=some (.slice e))(hi:(Tryz.prog.info? e).map (fun i=>(i.zero,i.size,i.bytes))=some (some z,1,by'))(hz:z.cells=#[z])(n:Nat)(hn:n≤100000)(hb:by'≤24)(w:World) :
  (Instr.makeSlice t (.int .i64 n) (.int .i64 n)).run Tryz.prog w=.ok (.slice (some ⟨w.heap.size,0,none⟩) n n) (w.alloc (.cells (Array.replicate n z) e)):=by
 obtain⟨i0,hi0,hz0,hz1,hz2⟩:=info_parts hi
 have h2:i0.bytes*n≤24*100000:=Nat.mul_le_mul (by omega) hn
 have:=run_makeSlice w t e i0 z ht hi0 hz0 .i64 .i64 n n (by omega) (Int.le_refl _) (by rw[hz1];simp;omega) (by
  have h3:((i0.bytes*n:Nat):Int)≤281474976710656:=by omega
  rwa [Int.natCast_mul] at h3) (by omega)
 rw[hz1,Int.toNat_natCast,ND z n hz] at this
 exact this
set_option maxRecDepth 100000
set_option maxHeartbeats 4000000

mutual
theorem zT:∀e:Ex,(onE e).length≤aL e
 | .mk op n s l=>by
  have h1:=ED l
  have h2:=M7 l
  unfold onE aL
  rw[List.length_append]
  split<;>split<;>(try split)<;>rename_i a b<;>simp_all<;>(try omega)
  all_goals (simp [bS,dD,bQ] at *)
theorem ED:∀l:List Ex,(eG l).length≤aC l
 | []=>by simp [eG,aC]
 | e::l=>by
  have h1:=zT e
  have h2:=ED l
  simp only[eG,aC,List.length_append]
  omega
theorem M7:∀l:List Ex,(sF l).length≤aC l
 | []=>by simp [sF,aC]
 | e::l=>by
  have h1:=zT e
  simp only[sF,aC]
  omega
end
structure wO(w0:World)(p3 p6 K nK nb:Nat)(num:List UInt8→Option Int)(ls:List (List Int))(wr:World):Prop where
 c3:wr.heap[p3]?=some (.cells #[.map (some K)] 96 (0,0))
 c6:wr.heap[p6]?=some (.cells #[.slice (some ⟨nb,0,none⟩) ls.length ls.length] 80 (0,0))
 fn:aO wr K nK (aY num)
 rows:dM wr w0.heap.size nb (fun k=>k=p3∨k=p6∨k=K) ls
 ne:p3≠nb∧p6≠nb∧K≠nb
 below:Bw w0 wr
theorem wO.with{w0 wr:World}{p3 p6 K nK nb i:Nat}{num:List UInt8→Option Int}{ls:List (List Int)}(h:wO w0 p3 p6 K nK nb num ls wr):fZ w0 p3 p6 wr.heap.size K nK nb num i ls (wr.alloc (.cells #[.int .i64 i] 3)):=by
 have hb:Bw wr (wr.alloc (.cells #[.int .i64 i] 3)):=aH
 have hlt:=h.rows.lt
 exact⟨aN hb h.c3,aN hb h.c6,heap_alloc_new _ _,h.fn.kept (hb.block _ h.fn.lt),(h.rows.add _).fewer (fun k hk=>by
  rcases hk with h | h | h | h
  ·exact .inl (.inl h)
  ·exact .inl (.inr (.inl h))
  ·exact .inr h
  ·exact .inl (.inr (.inr h))),⟨h.ne.1,h.ne.2.1,by omega,h.ne.2.2⟩,h.below.trans (hb.mono h.below.size)⟩
theorem fZ.without{w0 wr:World}{p3 p6 p7 K nK nb i:Nat}{num:List UInt8→Option Int}{ls:List (List Int)}(h:fZ w0 p3 p6 p7 K nK nb num i ls wr):wO w0 p3 p6 K nK nb num ls wr:=
 ⟨h.c3,h.c6,h.fn,h.rows.fewer (fun k hk=>by
  rcases hk with h | h | h
  ·exact .inl h
  ·exact .inr (.inl h)
  ·exact .inr (.inr (.inr h))),⟨h.ne.1,h.ne.2.1,h.ne.2.2.2⟩,h.below⟩
theorem Nq(w:World)(S:Nat→Prop)(p:Pg)(o3:Option Addr)(c3:Nat)(v1 v2 v4 v5:Value)(hp:iY w S p v1 v2 (.slice o3 p.fs.length c3) v4 v5)(hok:nN p)(hfb:oN (aI p)) :
  Calls Tryz.prog 35 #[.agg #[v1,v2,.slice o3 p.fs.length c3,v4,v5]] w fun e w'=>∃nb,e=.returned (.slice (some ⟨nb,0,none⟩) p.fs.length p.fs.length)∧dM w' w.heap.size nb (fun _=>False) ((dS p.fs).map fun l=>l.map fun k=>((k:Nat):Int))∧Bw w w':=by
 have hmm:=@run_makeMap Tryz.prog
 obtain⟨_,_,⟨xs,hfr,hfi⟩,_,_⟩:=hp
 obtain⟨w1,hw1⟩:∃w1,w1=w.alloc (.cells #[v1,v2,.slice o3 p.fs.length c3,v4,v5] 39):=⟨_,rfl⟩
 have hb1:Bw w w1:=by rw[hw1];exact aH
 have hr1:w1.heap[w.heap.size]?=some (.cells #[v1,v2,.slice o3 p.fs.length c3,v4,v5] 39 (0,0)):=by rw[hw1];exact heap_alloc_new _ _
 obtain⟨w2,hw2⟩:∃w2,w2=w1.alloc (.map #[] 0):=⟨_,rfl⟩
 have hb2:Bw w1 w2:=by rw[hw2];exact aH
 have hf2:aO w2 w1.heap.size 0 (aY (fun _=>none)):=by rw[hw2,uR];exact aO.made w1
 obtain⟨K,hK⟩:∃K,K=w1.heap.size:=⟨_,rfl⟩
 rw[←hK] at hf2
 obtain⟨w3,hw3⟩:∃w3,w3=w2.alloc (.cells #[.map (some K)] 96):=⟨_,rfl⟩
 have hb3:Bw w2 w3:=by rw[hw3];exact aH
 obtain⟨p3,hp3⟩:∃p3,p3=w2.heap.size:=⟨_,rfl⟩
 have hr3:w3.heap[p3]?=some (.cells #[.map (some K)] 96 (0,0)):=by rw[hw3,hp3];exact heap_alloc_new _ _
 have hs1:w1.heap.size=w.heap.size+1:=by rw[hw1];simp
 have hs2:w2.heap.size=w1.heap.size+1:=by rw[hw2];simp
 have hb13:=(hb2.trans (hb3.mono hb2.size))
 have e2:w3.cell? ⟨w.heap.size,0+2,none⟩=some (.slice o3 p.fs.length c3):=by rw[cell_of_row w3 _ _ _ _ (0,0) (aN hb13 hr1)];rfl
 have HF3:Hid (aO w3 K 0 (aY (fun _=>none))):=hf2.kept (hb3.block _ hf2.lt)
 have HB3:Hid (Bw w w3):=hb1.trans (hb13.mono hb1.size)
 have HR3:=aA hr3
 have HP3:Hid (w3.heap[w.heap.size]?=some (.cells #[v1,v2,.slice o3 p.fs.length c3,v4,v5] 39 (0,0))):=aN hb13 hr1
 have HW1:Hid (w.alloc (.cells #[v1,v2,.slice o3 p.fs.length c3,v4,v5] 39)=w1):=hw1.symm
 have HW2:Hid (w1.alloc (.map #[] 0)=w2):=hw2.symm
 have HW3:Hid (w2.alloc (.cells #[.map (some K)] 96)=w3):=hw3.symm
 have HKE:Hid (w.heap.size+1=K∧w.heap.size+1+1=p3):=by unfold Hid;omega
 have HFR:=aA hfr
 have HFI:=aA hfi
 have HOK:Hid (nN p∧oN (aI p)∧p.fs.length≤1000):=⟨hok,hfb,by have:=hok.vars;omega⟩
 clear hfr hfi hok hfb hb1 hr1 hw2 hb2 hf2 hw3 hb3 hr3 hs2 hb13 hw1 hs1 hK hp3
 go_enter Tryz.func35,Tryz.ntmps35
 go_upto_region 1 with fail
 go_upto_region 2 with fail
 rw[HKE.out.2,HKE.out.1,HW1.out,HW2.out,HW3.out]
 go_wp2
 clear e2
 go_loopw [13] (fun t wr=>∃(j n:Nat),j≤p.fs.length∧t=.int .i64 j∧Hid (aO wr K n (aY (lV p.fs j))∧n≤j∧Bw w wr∧wr.heap[w.heap.size]?=some (.cells #[v1,v2,.slice o3 p.fs.length c3,v4,v5] 39 (0,0))∧wr.heap[p3]?=some (.cells #[.map (some K)] 96 (0,0)))) (fun t _=>p.fs.length-(intOf t).toNat)
 case atStart=>exact⟨0,0,Nat.zero_le _,rfl,⟨HF3.out,Nat.le_refl _,HB3.out,HP3.out,HR3.out⟩⟩
 case round=>
  obtain⟨j,n,hj,rfl,HJR⟩:=hrel
  by_cases hjl:j<p.fs.length
  ·obtain⟨name,kind,op',n',s',es,oo,cc,zs,e,x0,x1,x2,x3,x4,x5,_,_⟩:=HFI.out.at hjl
   obtain⟨b,off,cp,ev,_,_,g⟩:=HFR.out.at (by have:=HFR.out.1;omega)
   obtain⟨rfl,rfl⟩:o3=some ⟨b,off,none⟩∧c3=cp:=by simpa using ev
   obtain⟨hfn,hnj,hbr,hpr,hp3⟩:=HJR.out
   have y0:=aD hbr (g _ _ x0)
   have y1:=aD hbr (g _ _ x1)
   have y2:=aD hbr (g _ _ x2)
   have y3:=aD hbr (g _ _ x3)
   have y4:=aD hbr (g _ _ x4)
   have y5:=aD hbr (g _ _ x5)
   rw[←Nat.add_assoc] at y1 y2 y3 y4 y5
   have i0':(0:Int)≤(j:Int):=by omega
   have i1':(j:Int)<(p.fs.length:Int):=by omega
   have ej:p.fs[j]?=some ⟨name,kind,.mk op' n' s' es⟩:=by rw[List.getElem?_eq_getElem hjl,e]
   have hsn:name.size≤maxLen:=HOK.out.1.names (name,kind) (by unfold aT gL;exact List.mem_append_right _ (List.mem_map.2 ⟨_,List.mem_of_getElem? ej,rfl⟩))
   obtain⟨w4,hw4⟩:∃w4,w4=wr.alloc (.cells #[.string name,.int .i64 kind,.string op',.int .i64 n',.string s',.slice oo es.length cc] 95):=⟨_,rfl⟩
   have hb4:Bw wr w4:=by rw[hw4];exact aH
   have hr4:w4.heap[wr.heap.size]?=some (.cells #[.string name,.int .i64 kind,.string op',.int .i64 n',.string s',.slice oo es.length cc] 95 (0,0)):=by rw[hw4];exact heap_alloc_new _ _
   have z0:w4.cell? ⟨wr.heap.size,0,none⟩=some (.string name):=cr hr4 rfl
   have q3:w4.cell? ⟨p3,0,none⟩=some (.map (some K)):=by rw[cell_of_row w4 _ _ _ _ (0,0) (aN hb4 hp3)];rfl
   have hfn4:aO w4 K n (aY (lV p.fs j)):=hfn.kept (hb4.block _ hfn.lt)
   obtain⟨w5,hup,hfn5,hgr5⟩:=hfn4.put Tryz.underlying96 (by have:=HOK.out.2.2;unfold maxLen;omega) name hsn (.int .i64 j)
   rw[qJ _ (name,(j:Int)),Nb ej] at hfn5
   have hKe:=HKE.out
   have HB5:Hid (Bw w w5):=below_grown (hbr.trans (hb4.mono hbr.size)) hgr5 (by omega)
   have HP5:Hid (w5.heap[w.heap.size]?=some (.cells #[v1,v2,.slice (some ⟨b,off,none⟩) p.fs.length c3,v4,v5] 39 (0,0))):=gT hgr5 (fun e=>by
    have h2:K=w.heap.size:=by simpa using e
    omega) (aN hb4 hpr)
   have HR5:Hid (w5.heap[p3]?=some (.cells #[.map (some K)] 96 (0,0))):=gT hgr5 (fun e=>by
    have h2:K=p3:=by simpa using e
    omega) (aN hb4 hp3)
   have HF5:Hid (aO w5 K (n+1) (aY (lV p.fs (j+1)))∧n+1≤j+1):=⟨hfn5,by omega⟩
   have HJ:=aA hjl
   have N4:Hid (wrap64 ((j:Int)+1)=(j:Int)+1):=by have:=HOK.out.2.2;have:=HJ.out;unfold Hid wrap64;omega
   have HW4:Hid (wr.alloc (.cells #[.string name,.int .i64 kind,.string op',.int .i64 n',.string s',.slice oo es.length cc] 95)=w4):=hw4.symm
   clear hfn hnj hbr hpr hp3 g ev x0 x1 x2 x3 x4 x5 e ej hsn hw4 hb4 hr4 hfn4 hfn5 hgr5 hj hjl hKe
   go_upto_region 5 with fail
   rw[HW4.out]
   clear y0 y1 y2 y3 y4 y5
   go_wp2
   exact⟨⟨j+1,n+1,HJ.out,by rw[N4.out];rfl,⟨HF5.out.1,HF5.out.2,HB5.out,HP5.out,HR5.out⟩⟩,by rw[N4.out];have:=HJ.out;simp [intOf];omega⟩
  ·obtain rfl:j=p.fs.length:=by omega
   obtain⟨hfn,hnj,hbr,hpr,hp3⟩:=HJR.out
   have e2:wr.cell? ⟨w.heap.size,0+2,none⟩=some (.slice o3 p.fs.length c3):=cr hpr rfl
   have hmk:=sH Tryz.underlying80 Tryz.FZ rfl p.fs.length (by have:=HOK.out.2.2;omega) (Nat.le_refl _)
   obtain⟨nb,hnb⟩:∃nb,nb=wr.heap.size:=⟨_,rfl⟩
   obtain⟨W1,hW1⟩:∃W1,W1=wr.alloc (.cells (Array.replicate p.fs.length (.slice none 0 0)) 30):=⟨_,rfl⟩
   obtain⟨W2,hW2⟩:∃W2,W2=W1.alloc (.cells #[.slice (some ⟨nb,0,none⟩) p.fs.length p.fs.length] 80):=⟨_,rfl⟩
   have hbW1:Bw wr W1:=by rw[hW1];exact aH
   have hbW2:Bw W1 W2:=by rw[hW2];exact aH
   have hbW:Bw wr W2:=hbW1.trans (hbW2.mono hbW1.size)
   have hsW1:W1.heap.size=nb+1:=by rw[hW1,hnb];simp
   have hlt3:p3<wr.heap.size:=(bN hp3).1
   have hltK:=hfn.lt
   have hKe:=HKE.out
   have hP:wO w p3 (nb+1) K n nb (lV p.fs p.fs.length) (kR p.fs 0) W2:=by
    have hl0:(kR p.fs 0).length=p.fs.length:=EX (Nat.zero_le _)
    have hj0:kR p.fs 0=List.replicate p.fs.length []:=by simp [kR]
    refine⟨aN hbW hp3,?_,hfn.kept (hbW.block _ hltK),?_,⟨by omega,by omega,by omega⟩,hbr.trans (hbW.mono hbr.size)⟩
    ·rw[hl0,hW2,←hsW1];exact heap_alloc_new _ _
    ·have h1:dM W1 w.heap.size nb (fun k=>k=p3∨k=K) (kR p.fs 0):=by
      rw[hj0,hW1,hnb]
      exact dM.made p.fs.length hbr.size (fun k hk=>by rcases hk with rfl | rfl<;>omega)
     have h2:=h1.add (.cells #[.slice (some ⟨nb,0,none⟩) p.fs.length p.fs.length] 80)
     rw[←hW2] at h2
     refine h2.fewer (fun k hk=>?_)
     rcases hk with h | h | h
     ·exact .inl (.inl h)
     ·exact .inr (by omega)
     ·exact .inl (.inr h)
   have e8:W2.cell? ⟨w.heap.size,0+2,none⟩=some (.slice o3 p.fs.length c3):=aD hbW e2
   have HP:=aA hP
   have HWS:Hid (wr.alloc (.cells (Array.replicate p.fs.length (.slice none 0 0)) 30)=W1∧W1.alloc (.cells #[.slice (some ⟨nb,0,none⟩) p.fs.length p.fs.length] 80)=W2∧wr.heap.size=nb):=⟨hW1.symm,hW2.symm,hnb.symm⟩
   clear hj hjl HJR hfn hnj hbr hpr hp3 hW1 hW2 hbW1 hbW2 hbW hsW1 hlt3 hltK hP hnb hKe
   go_upto_region 8 with fail
   rw[HWS.out.2.2,HWS.out.1,HWS.out.2.1]
   clear e2 hmk
   go_wp2
   clear e8
   go_loopw [30] (fun t wr=>∃(j:Nat),j≤p.fs.length∧t=.int .i64 j∧Hid (wO w p3 (nb+1) K n nb (lV p.fs p.fs.length) (kR p.fs j) wr)) (fun t _=>p.fs.length-(intOf t).toNat)
   case atStart=>exact⟨0,Nat.zero_le _,rfl,HP⟩
   case round=>
    obtain⟨j,hj,rfl,HJR⟩:=hrel
    by_cases hjl:j<p.fs.length
    ·obtain⟨name,kind,op',n',s',es,oo,cc,zs,e,x0,x1,x2,x3,x4,x5,r1,r2⟩:=HFI.out.at hjl
     obtain⟨b,off,cp,ev,_,_,g⟩:=HFR.out.at (by have:=HFR.out.1;omega)
     obtain⟨rfl,rfl⟩:o3=some ⟨b,off,none⟩∧c3=cp:=by simpa using ev
     have hbr:=HJR.out.below
     have y0:=aD hbr (g _ _ x0)
     have y1:=aD hbr (g _ _ x1)
     have y2:=aD hbr (g _ _ x2)
     have y3:=aD hbr (g _ _ x3)
     have y4:=aD hbr (g _ _ x4)
     have y5:=aD hbr (g _ _ x5)
     rw[←Nat.add_assoc] at y1 y2 y3 y4 y5
     have i0':(0:Int)≤(j:Int):=by omega
     have i1':(j:Int)<(p.fs.length:Int):=by omega
     have ej:p.fs[j]?=some ⟨name,kind,.mk op' n' s' es⟩:=by rw[List.getElem?_eq_getElem hjl,e]
     have et:(aI p)[j]?=some (.mk op' n' s' es):=by
      unfold aI
      rw[List.getElem?_append_left (by simpa using hjl),List.getElem?_map,ej]
      rfl
     obtain⟨w4,hw4⟩:∃w4,w4=wr.alloc (.cells #[.int .i64 j] 3):=⟨_,rfl⟩
     obtain⟨w5,hw5⟩:∃w5,w5=w4.alloc (.cells #[.string name,.int .i64 kind,.string op',.int .i64 n',.string s',.slice oo es.length cc] 95):=⟨_,rfl⟩
     have hb5:Bw w4 w5:=by rw[hw5];exact aH
     have hs4:w4.heap.size=wr.heap.size+1:=by rw[hw4];simp
     have hr5:w5.heap[wr.heap.size+1]?=some (.cells #[.string name,.int .i64 kind,.string op',.int .i64 n',.string s',.slice oo es.length cc] 95 (0,0)):=by rw[hw5,←hs4];exact heap_alloc_new _ _
     have z2:w5.cell? ⟨wr.heap.size+1,0+2,none⟩=some (.string op'):=cr hr5 rfl
     have z3:w5.cell? ⟨wr.heap.size+1,0+2+1,none⟩=some (.int .i64 n'):=cr hr5 rfl
     have z4:w5.cell? ⟨wr.heap.size+1,0+2+2,none⟩=some (.string s'):=cr hr5 rfl
     have z5:w5.cell? ⟨wr.heap.size+1,0+2+3,none⟩=some (.slice oo es.length cc):=cr hr5 rfl
     have hN4:fZ w p3 (nb+1) wr.heap.size K n nb (lV p.fs p.fs.length) j (kR p.fs j) w4:=by rw[hw4];exact HJR.out.with
     have hca:=Ho (SizeOf.sizeOf es+1) op' n' s' es (Nat.lt_succ_self _) w w5 p3 (nb+1) wr.heap.size K n nb j (lV p.fs p.fs.length) (kR p.fs j) [] S oo cc zs (hN4.keep hb5) (Nu hjl) (oG HOK.out.1.small et) (yB HOK.out.2.1 et) r1 r2 (by
      have h1:=zT (.mk op' n' s' es)
      have h2:=zC et
      have h3:=HOK.out.1.parts
      simp only[List.length_nil]
      omega)
     rw[Nt ej] at hca
     have HCA:=aA hca
     have hmf:∀(fn:Fn) (first cap:Array Value) (w:World),(Instr.makeFunc fn first cap).run Tryz.prog w=.ok (.func fn first cap) w:=fun _ _ _ _=>rfl
     have HJ:=aA hjl
     have N4:Hid (wrap64 ((j:Int)+1)=(j:Int)+1):=by have:=HOK.out.2.2;have:=HJ.out;unfold Hid wrap64;omega
     have HW45:Hid (wr.alloc (.cells #[.int .i64 j] 3)=w4∧w4.alloc (.cells #[.string name,.int .i64 kind,.string op',.int .i64 n',.string s',.slice oo es.length cc] 95)=w5):=⟨hw4.symm,hw5.symm⟩
     clear hbr g ev x0 x1 x2 x3 x4 x5 r1 r2 e ej et hw4 hw5 hb5 hs4 hr5 hN4 hca hj hjl
     go_upto_region 11 with fail
     rw[HW45.out.1,HW45.out.2]
     clear y0 y1 y2 y3 y4 y5
     go_wp2_with fail
     refine HCA.out.mono ?_
     rintro e w6 ⟨rfl,h6⟩
     have HN6:Hid (wO w p3 (nb+1) K n nb (lV p.fs p.fs.length) (kR p.fs (j+1)) w6):=h6.without
     clear h6 z2 z3 z4 z5
     go_wp2
     exact⟨⟨j+1,HJ.out,by rw[N4.out];rfl,HN6.out⟩,by rw[N4.out];have:=HJ.out;simp [intOf];omega⟩
    ·obtain rfl:j=p.fs.length:=by omega
     have hfin:=HJR.out
     have e6:wr.cell? ⟨nb+1,0,none⟩=some (.slice (some ⟨nb,0,none⟩) p.fs.length p.fs.length):=by
      have h1:=hfin.c6
      rw[EX (Nat.le_refl _)] at h1
      rw[cell_of_row wr _ _ _ _ (0,0) h1]
      rfl
     have HE:Hid (dM wr w.heap.size nb (fun _=>False) ((dS p.fs).map fun l=>l.map fun k=>((k:Nat):Int))∧Bw w wr):=⟨by have:=hfin.rows;rw[Nv] at this;exact this.fewer (fun _ h=>h.elim),hfin.below⟩
     clear hfin hj hjl
     go_wp2
     go_ret
     exact⟨nb,rfl,HE.out.1,HE.out.2⟩
end Go.Proofs.YtmgfakcccfahaaaGreatDoor
