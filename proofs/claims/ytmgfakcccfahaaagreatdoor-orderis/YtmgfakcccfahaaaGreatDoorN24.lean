/-
  package order: needsOf BY CONTRACT.
-/
import Derived.Test.YtmgfakcccfahaaaGreatDoorN22
import Derived.Test.YtmgfakcccfahaaaGreatDoorN23
set_option maxRecDepth 100000
set_option maxHeartbeats 4000000
namespace Go.Proofs.YtmgfakcccfahaaaGreatDoor
open Go.RowKit Go.Maps
def fA(fs:List Fw):Nat→List UInt8→Option Nat
 | 0=>fun _=>none
 | j+1=>match fs[j]? with
  | some x=>fun s=>if s=x.name.data.toList then some j else fA fs j s
  | none=>fA fs j
def jE(fs:List Fw)(j:Nat):List UInt8→Option Int:=fun s=>(fA fs j s).map (fun k:Nat=>(k:Int))
theorem K4{fs:List Fw}{j:Nat}{x:Fw}(h:fs[j]?=some x):bM (jE fs j) (x.name,(j:Int))=jE fs (j+1):=by
 funext s
 unfold bM jE
 simp only[fA,h]
 by_cases e:s=x.name.data.toList
 ·rw[if_pos e,if_pos e];rfl
 ·rw[if_neg e,if_neg e]
theorem oK{fs:List Fw}:∀{j:Nat} {s:List UInt8} {k:Nat},fA fs j s=some k→k<j∧∃x,fs[k]?=some x∧x.name.data.toList=s
 | 0,s,k,h=>by simp [fA] at h
 | j+1,s,k,h=>by
  unfold fA at h
  cases hx:fs[j]? with
  | none=>
   rw[hx] at h
   obtain⟨h1,h2⟩:=oK h
   exact⟨by omega,h2⟩
  | some x=>
   rw[hx] at h
   simp only at h
   by_cases e:s=x.name.data.toList
   ·rw[if_pos e] at h
    obtain rfl:=Option.some.inj h
    exact⟨by omega,x,hx,e.symm⟩
   ·rw[if_neg e] at h
    obtain⟨h1,h2⟩:=oK h
    exact⟨by omega,h2⟩
def aN(fs:List Fw):List (List Nat):=fs.map fun f=>(onE f.e).filterMap (fA fs fs.length)
def iO(fs:List Fw)(j:Nat):List (List Int):=((fs.take j).map fun f=>(onE f.e).filterMap (jE fs fs.length))++List.replicate (fs.length-j) []
theorem Cm{fs:List Fw}{j:Nat}(h:j≤fs.length):(iO fs j).length=fs.length:=by
 simp [iO]
 omega
theorem Lg{fs:List Fw}{j:Nat}(h:j<fs.length):(iO fs j)[j]?=some []:=by
 unfold iO
 have e1:((fs.take j).map fun f=>(onE f.e).filterMap (jE fs fs.length)).length=j:=by simp;omega
 rw[List.getElem?_append_right (by omega),e1,Nat.sub_self,List.getElem?_replicate,if_pos (by omega)]
theorem Lf{fs:List Fw}{j:Nat}{x:Fw}(h:fs[j]?=some x):(iO fs j).set j ([]++(onE x.e).filterMap (jE fs fs.length))=iO fs (j+1):=by
 have hj:=(aX h).1
 unfold iO
 rw[List.set_append_right _ _ (by simp;omega)]
 have e1:j-((fs.take j).map fun f=>(onE f.e).filterMap (jE fs fs.length)).length=0:=by simp;omega
 rw[e1,show fs.length-j=(fs.length-(j+1))+1 from by omega,List.replicate_succ,List.set_cons_zero,List.take_add_one,h]
 simp
theorem Lh(fs:List Fw):iO fs fs.length=(aN fs).map fun l=>l.map fun k=>((k:Nat):Int):=by
 unfold iO aN jE
 rw[List.take_length,Nat.sub_self,List.replicate_zero,List.append_nil,List.map_map]
 refine List.map_congr_left fun f _=>?_
 simp only[Function.comp_apply,List.map_filterMap]
theorem bS.add{w:World}{base nb:Nat}{F:Nat→Prop}{ls:List (List Int)}(h:bS w base nb F ls)(o:Obj):bS (w.alloc o) base nb (fun k=>F k∨k=w.heap.size) ls:=by
 have h':=h.alloc o
 obtain⟨vs,h1,h2,h3,h4,h5,h6⟩:=h'
 obtain⟨us,g1,g2,g3,g4,g5,g6⟩:=h
 have hn:(w.alloc o).heap[nb]?=w.heap[nb]?:=((Below.refl w.heap.size w).alloc (Nat.le_refl _) o).block nb (bE g1).1
 have he:vs=us:=by
  rw[hn,g1] at h1
  have:=Option.some.inj h1
  injection this with e1
  exact(List.toArray_inj e1).symm
 subst he
 refine⟨vs,h1,h2,h3,fun k hk=>?_,fun i v l hv hl=>⟨(h5 i v l hv hl).1,fun k hk=>⟨((h5 i v l hv hl).2 k hk).1,fun hF=>?_⟩⟩,h6⟩
 ·rcases hk with hk | rfl
  ·exact h4 k hk
  ·simp
 ·rcases hF with hF | rfl
  ·exact((h5 i v l hv hl).2 k hk).2 hF
  ·have:=((g5 i v l hv hl).1.lt _ hk).2
   omega
theorem qJ{α:Type}{n i:Nat}{x y:α}(h:(List.replicate n x)[i]?=some y):y=x:=by
 rw[List.getElem?_replicate] at h
 split at h
 ·exact(Option.some.inj h).symm
 ·cases h
theorem bS.made{w:World}{base:Nat}{F:Nat→Prop}(n:Nat)(hb:base≤w.heap.size)(hF:∀k,F k→k<w.heap.size):bS (w.alloc (.cells (Array.replicate n (.slice none 0 0)) 30)) base w.heap.size F (List.replicate n []):=by
 refine⟨List.replicate n (.slice none 0 0),?_,by simp,hb,fun k hk=>by have:=hF k hk;simp;omega,fun i v l hv hl=>?_,fun i j v u _ hv _ k hk=>?_⟩
 ·rw[heap_alloc_new]
  simp
 ·obtain rfl:=qJ hv
  obtain rfl:=qJ hl
  exact⟨World.ownsRow_nil _ _ _ _,fun k hk=>by simp [Value.ownBlock] at hk⟩
 ·obtain rfl:=qJ hv
  simp [Value.ownBlock] at hk
theorem Tryz.Dm:(Tryz.prog.info? 30).map (fun i=>(i.zero,i.size,i.bytes))=some (some (.slice none 0 0),1,24):=by kernel_rfl
theorem Tryz.ML:(Tryz.prog.info? 4).map (fun i=>(i.zero,i.size,i.bytes))=some (some (.bool false),1,1):=by kernel_rfl
theorem Lv(z:Value)(n:Nat)(h:z.cells=#[z]):madeCells z.cells (n*1)=Array.replicate n z:=by
 apply Array.toList_inj.1
 rw[Nat.mul_one,h]
 simpa using toList_madeCells_one z n
theorem nQ{t e:TypeId}{z:Value}{by':Nat}(ht:Tryz.prog.underlying t=some (.slice e))(hi:(Tryz.prog.info? e).map (fun i=>(i.zero,i.size,i.bytes))=some (some z,1,by'))(hz:z.cells=#[z])(n:Nat)(hn:n≤100000)(hb:by'≤24)(w:World) :
  (Instr.makeSlice t (.int .i64 n) (.int .i64 n)).run Tryz.prog w=.ok (.slice (some ⟨w.heap.size,0,none⟩) n n) (w.alloc (.cells (Array.replicate n z) e)):=by
 obtain⟨i0,hi0,hz0,hz1,hz2⟩:=info_parts hi
 have h2:i0.bytes*n≤24*100000:=Nat.mul_le_mul (by omega) hn
 have:=run_makeSlice w t e i0 z ht hi0 hz0 .i64 .i64 n n (by omega) (Int.le_refl _) (by rw[hz1];simp;omega) (by
  have h3:((i0.bytes*n:Nat):Int)≤281474976710656:=by omega
  rwa [Int.natCast_mul] at h3) (by omega)
 rw[hz1,Int.toNat_natCast,Lv z n hz] at this
 exact this

mutual
theorem uV:∀e:Ex,(onE e).length≤aJ e
 | .mk op n s l=>by
  have h1:=BV l
  have h2:=Km l
  unfold onE aJ
  rw[List.length_append]
  split<;>split<;>(try split)<;>rename_i a b<;>simp_all<;>(try omega)
  all_goals (simp [bI,cZ,cK] at *)
theorem BV:∀l:List Ex,(bZ l).length≤aC l
 | []=>by simp [bZ,aC]
 | e::l=>by
  have h1:=uV e
  have h2:=BV l
  simp only[bZ,aC,List.length_append]
  omega
theorem Km:∀l:List Ex,(mD l).length≤aC l
 | []=>by simp [mD,aC]
 | e::l=>by
  have h1:=uV e
  simp only[mD,aC]
  omega
end
structure rH(w0:World)(p3 p6 K nK nb:Nat)(num:List UInt8→Option Int)(ls:List (List Int))(wr:World):Prop where
 c3:wr.heap[p3]?=some (.cells #[.map (some K)] 96 (0,0))
 c6:wr.heap[p6]?=some (.cells #[.slice (some ⟨nb,0,none⟩) ls.length ls.length] 80 (0,0))
 fn:aR wr K nK (aS num)
 rows:bS wr w0.heap.size nb (fun k=>k=p3∨k=p6∨k=K) ls
 ne:p3≠nb∧p6≠nb∧K≠nb
 below:Bw w0 wr
theorem rH.with{w0 wr:World}{p3 p6 K nK nb i:Nat}{num:List UInt8→Option Int}{ls:List (List Int)}(h:rH w0 p3 p6 K nK nb num ls wr):dS w0 p3 p6 wr.heap.size K nK nb num i ls (wr.alloc (.cells #[.int .i64 i] 3)):=by
 have hb:Bw wr (wr.alloc (.cells #[.int .i64 i] 3)):=aH
 have hlt:=h.rows.lt
 exact⟨aG hb h.c3,aG hb h.c6,heap_alloc_new _ _,h.fn.kept (hb.block _ h.fn.lt),(h.rows.add _).fewer (fun k hk=>by
  rcases hk with h | h | h | h
  ·exact .inl (.inl h)
  ·exact .inl (.inr (.inl h))
  ·exact .inr h
  ·exact .inl (.inr (.inr h))),⟨h.ne.1,h.ne.2.1,by omega,h.ne.2.2⟩,h.below.trans (hb.mono h.below.size)⟩
theorem dS.without{w0 wr:World}{p3 p6 p7 K nK nb i:Nat}{num:List UInt8→Option Int}{ls:List (List Int)}(h:dS w0 p3 p6 p7 K nK nb num i ls wr):rH w0 p3 p6 K nK nb num ls wr:=
 ⟨h.c3,h.c6,h.fn,h.rows.fewer (fun k hk=>by
  rcases hk with h | h | h
  ·exact .inl h
  ·exact .inr (.inl h)
  ·exact .inr (.inr (.inr h))),⟨h.ne.1,h.ne.2.1,h.ne.2.2.2⟩,h.below⟩
theorem Lc(w:World)(S:Nat→Prop)(p:Pg)(o3:Option Addr)(c3:Nat)(v1 v2 v4 v5:Value)(hp:fE w S p v1 v2 (.slice o3 p.fs.length c3) v4 v5)(hok:lN p)(hfb:kS (aD p)) :
  Calls Tryz.prog 35 #[.agg #[v1,v2,.slice o3 p.fs.length c3,v4,v5]] w fun e w'=>∃nb,e=.returned (.slice (some ⟨nb,0,none⟩) p.fs.length p.fs.length)∧bS w' w.heap.size nb (fun _=>False) ((aN p.fs).map fun l=>l.map fun k=>((k:Nat):Int))∧Bw w w':=by
 have hmm:=@run_makeMap Tryz.prog
 obtain⟨_,_,⟨xs,hfr,hfi⟩,_,_⟩:=hp
 obtain⟨w1,hw1⟩:∃w1,w1=w.alloc (.cells #[v1,v2,.slice o3 p.fs.length c3,v4,v5] 39):=⟨_,rfl⟩
 have hb1:Bw w w1:=by rw[hw1];exact aH
 have hr1:w1.heap[w.heap.size]?=some (.cells #[v1,v2,.slice o3 p.fs.length c3,v4,v5] 39 (0,0)):=by rw[hw1];exact heap_alloc_new _ _
 obtain⟨w2,hw2⟩:∃w2,w2=w1.alloc (.map #[] 0):=⟨_,rfl⟩
 have hb2:Bw w1 w2:=by rw[hw2];exact aH
 have hf2:aR w2 w1.heap.size 0 (aS (fun _=>none)):=by rw[hw2,sP];exact aR.made w1
 obtain⟨K,hK⟩:∃K,K=w1.heap.size:=⟨_,rfl⟩
 rw[←hK] at hf2
 obtain⟨w3,hw3⟩:∃w3,w3=w2.alloc (.cells #[.map (some K)] 96):=⟨_,rfl⟩
 have hb3:Bw w2 w3:=by rw[hw3];exact aH
 obtain⟨p3,hp3⟩:∃p3,p3=w2.heap.size:=⟨_,rfl⟩
 have hr3:w3.heap[p3]?=some (.cells #[.map (some K)] 96 (0,0)):=by rw[hw3,hp3];exact heap_alloc_new _ _
 have hs1:w1.heap.size=w.heap.size+1:=by rw[hw1];simp
 have hs2:w2.heap.size=w1.heap.size+1:=by rw[hw2];simp
 have hb13:=(hb2.trans (hb3.mono hb2.size))
 have e2:w3.cell? ⟨w.heap.size,0+2,none⟩=some (.slice o3 p.fs.length c3):=by rw[cell_of_row w3 _ _ _ _ (0,0) (aG hb13 hr1)];rfl
 have HF3:Hid (aR w3 K 0 (aS (fun _=>none))):=hf2.kept (hb3.block _ hf2.lt)
 have HB3:Hid (Bw w w3):=hb1.trans (hb13.mono hb1.size)
 have HR3:=aA hr3
 have HP3:Hid (w3.heap[w.heap.size]?=some (.cells #[v1,v2,.slice o3 p.fs.length c3,v4,v5] 39 (0,0))):=aG hb13 hr1
 have HW1:Hid (w.alloc (.cells #[v1,v2,.slice o3 p.fs.length c3,v4,v5] 39)=w1):=hw1.symm
 have HW2:Hid (w1.alloc (.map #[] 0)=w2):=hw2.symm
 have HW3:Hid (w2.alloc (.cells #[.map (some K)] 96)=w3):=hw3.symm
 have HKE:Hid (w.heap.size+1=K∧w.heap.size+1+1=p3):=by unfold Hid;omega
 have HFR:=aA hfr
 have HFI:=aA hfi
 have HOK:Hid (lN p∧kS (aD p)∧p.fs.length≤1000):=⟨hok,hfb,by have:=hok.vars;omega⟩
 clear hfr hfi hok hfb hb1 hr1 hw2 hb2 hf2 hw3 hb3 hr3 hs2 hb13 hw1 hs1 hK hp3
 go_enter Tryz.func35,Tryz.ntmps35
 go_upto_region 1 with fail
 go_upto_region 2 with fail
 rw[HKE.out.2,HKE.out.1,HW1.out,HW2.out,HW3.out]
 go_wp2
 clear e2
 go_loopw [13] (fun t wr=>∃(j n:Nat),j≤p.fs.length∧t=.int .i64 j∧Hid (aR wr K n (aS (jE p.fs j))∧n≤j∧Bw w wr∧wr.heap[w.heap.size]?=some (.cells #[v1,v2,.slice o3 p.fs.length c3,v4,v5] 39 (0,0))∧wr.heap[p3]?=some (.cells #[.map (some K)] 96 (0,0)))) (fun t _=>p.fs.length-(intOf t).toNat)
 case atStart=>exact⟨0,0,Nat.zero_le _,rfl,⟨HF3.out,Nat.le_refl _,HB3.out,HP3.out,HR3.out⟩⟩
 case round=>
  obtain⟨j,n,hj,rfl,HJR⟩:=hrel
  by_cases hjl:j<p.fs.length
  ·obtain⟨name,kind,op',n',s',es,oo,cc,zs,e,x0,x1,x2,x3,x4,x5,_,_⟩:=HFI.out.at hjl
   obtain⟨b,off,cp,ev,_,_,g⟩:=HFR.out.at (by have:=HFR.out.1;omega)
   obtain⟨rfl,rfl⟩:o3=some ⟨b,off,none⟩∧c3=cp:=by simpa using ev
   obtain⟨hfn,hnj,hbr,hpr,hp3⟩:=HJR.out
   have y0:=aF hbr (g _ _ x0)
   have y1:=aF hbr (g _ _ x1)
   have y2:=aF hbr (g _ _ x2)
   have y3:=aF hbr (g _ _ x3)
   have y4:=aF hbr (g _ _ x4)
   have y5:=aF hbr (g _ _ x5)
   rw[←Nat.add_assoc] at y1 y2 y3 y4 y5
   have i0':(0:Int)≤(j:Int):=by omega
   have i1':(j:Int)<(p.fs.length:Int):=by omega
   have ej:p.fs[j]?=some ⟨name,kind,.mk op' n' s' es⟩:=by rw[List.getElem?_eq_getElem hjl,e]
   have hsn:name.size≤maxLen:=HOK.out.1.names (name,kind) (by unfold aK dD;exact List.mem_append_right _ (List.mem_map.2 ⟨_,List.mem_of_getElem? ej,rfl⟩))
   obtain⟨w4,hw4⟩:∃w4,w4=wr.alloc (.cells #[.string name,.int .i64 kind,.string op',.int .i64 n',.string s',.slice oo es.length cc] 95):=⟨_,rfl⟩
   have hb4:Bw wr w4:=by rw[hw4];exact aH
   have hr4:w4.heap[wr.heap.size]?=some (.cells #[.string name,.int .i64 kind,.string op',.int .i64 n',.string s',.slice oo es.length cc] 95 (0,0)):=by rw[hw4];exact heap_alloc_new _ _
   have z0:w4.cell? ⟨wr.heap.size,0,none⟩=some (.string name):=cr hr4 rfl
   have q3:w4.cell? ⟨p3,0,none⟩=some (.map (some K)):=by rw[cell_of_row w4 _ _ _ _ (0,0) (aG hb4 hp3)];rfl
   have hfn4:aR w4 K n (aS (jE p.fs j)):=hfn.kept (hb4.block _ hfn.lt)
   obtain⟨w5,hup,hfn5,hgr5⟩:=hfn4.put Tryz.underlying96 (by have:=HOK.out.2.2;unfold maxLen;omega) name hsn (.int .i64 j)
   rw[sO _ (name,(j:Int)),K4 ej] at hfn5
   have hKe:=HKE.out
   have HB5:Hid (Bw w w5):=below_grown (hbr.trans (hb4.mono hbr.size)) hgr5 (by omega)
   have HP5:Hid (w5.heap[w.heap.size]?=some (.cells #[v1,v2,.slice (some ⟨b,off,none⟩) p.fs.length c3,v4,v5] 39 (0,0))):=mO hgr5 (fun e=>by
    have h2:K=w.heap.size:=by simpa using e
    omega) (aG hb4 hpr)
   have HR5:Hid (w5.heap[p3]?=some (.cells #[.map (some K)] 96 (0,0))):=mO hgr5 (fun e=>by
    have h2:K=p3:=by simpa using e
    omega) (aG hb4 hp3)
   have HF5:Hid (aR w5 K (n+1) (aS (jE p.fs (j+1)))∧n+1≤j+1):=⟨hfn5,by omega⟩
   have HJ:=aA hjl
   have N4:Hid (wrap64 ((j:Int)+1)=(j:Int)+1):=by have:=HOK.out.2.2;have:=HJ.out;unfold Hid wrap64;omega
   have HW4:Hid (wr.alloc (.cells #[.string name,.int .i64 kind,.string op',.int .i64 n',.string s',.slice oo es.length cc] 95)=w4):=hw4.symm
   clear hfn hnj hbr hpr hp3 g ev x0 x1 x2 x3 x4 x5 e ej hsn hw4 hb4 hr4 hfn4 hfn5 hgr5 hj hjl hKe
   go_upto_region 5 with fail
   rw[HW4.out]
   clear y0 y1 y2 y3 y4 y5
   go_wp2
   exact⟨⟨j+1,n+1,HJ.out,by rw[N4.out];rfl,⟨HF5.out.1,HF5.out.2,HB5.out,HP5.out,HR5.out⟩⟩,by rw[N4.out];have:=HJ.out;simp [intOf];omega⟩
  ·obtain rfl:j=p.fs.length:=by omega
   obtain⟨hfn,hnj,hbr,hpr,hp3⟩:=HJR.out
   have e2:wr.cell? ⟨w.heap.size,0+2,none⟩=some (.slice o3 p.fs.length c3):=cr hpr rfl
   have hmk:=nQ Tryz.underlying80 Tryz.Dm rfl p.fs.length (by have:=HOK.out.2.2;omega) (Nat.le_refl _)
   obtain⟨nb,hnb⟩:∃nb,nb=wr.heap.size:=⟨_,rfl⟩
   obtain⟨W1,hW1⟩:∃W1,W1=wr.alloc (.cells (Array.replicate p.fs.length (.slice none 0 0)) 30):=⟨_,rfl⟩
   obtain⟨W2,hW2⟩:∃W2,W2=W1.alloc (.cells #[.slice (some ⟨nb,0,none⟩) p.fs.length p.fs.length] 80):=⟨_,rfl⟩
   have hbW1:Bw wr W1:=by rw[hW1];exact aH
   have hbW2:Bw W1 W2:=by rw[hW2];exact aH
   have hbW:Bw wr W2:=hbW1.trans (hbW2.mono hbW1.size)
   have hsW1:W1.heap.size=nb+1:=by rw[hW1,hnb];simp
   have hlt3:p3<wr.heap.size:=(bE hp3).1
   have hltK:=hfn.lt
   have hKe:=HKE.out
   have hP:rH w p3 (nb+1) K n nb (jE p.fs p.fs.length) (iO p.fs 0) W2:=by
    have hl0:(iO p.fs 0).length=p.fs.length:=Cm (Nat.zero_le _)
    have hj0:iO p.fs 0=List.replicate p.fs.length []:=by simp [iO]
    refine⟨aG hbW hp3,?_,hfn.kept (hbW.block _ hltK),?_,⟨by omega,by omega,by omega⟩,hbr.trans (hbW.mono hbr.size)⟩
    ·rw[hl0,hW2,←hsW1];exact heap_alloc_new _ _
    ·have h1:bS W1 w.heap.size nb (fun k=>k=p3∨k=K) (iO p.fs 0):=by
      rw[hj0,hW1,hnb]
      exact bS.made p.fs.length hbr.size (fun k hk=>by rcases hk with rfl | rfl<;>omega)
     have h2:=h1.add (.cells #[.slice (some ⟨nb,0,none⟩) p.fs.length p.fs.length] 80)
     rw[←hW2] at h2
     refine h2.fewer (fun k hk=>?_)
     rcases hk with h | h | h
     ·exact .inl (.inl h)
     ·exact .inr (by omega)
     ·exact .inl (.inr h)
   have e8:W2.cell? ⟨w.heap.size,0+2,none⟩=some (.slice o3 p.fs.length c3):=aF hbW e2
   have HP:=aA hP
   have HWS:Hid (wr.alloc (.cells (Array.replicate p.fs.length (.slice none 0 0)) 30)=W1∧W1.alloc (.cells #[.slice (some ⟨nb,0,none⟩) p.fs.length p.fs.length] 80)=W2∧wr.heap.size=nb):=⟨hW1.symm,hW2.symm,hnb.symm⟩
   clear hj hjl HJR hfn hnj hbr hpr hp3 hW1 hW2 hbW1 hbW2 hbW hsW1 hlt3 hltK hP hnb hKe
   go_upto_region 8 with fail
   rw[HWS.out.2.2,HWS.out.1,HWS.out.2.1]
   clear e2 hmk
   go_wp2
   clear e8
   go_loopw [30] (fun t wr=>∃(j:Nat),j≤p.fs.length∧t=.int .i64 j∧Hid (rH w p3 (nb+1) K n nb (jE p.fs p.fs.length) (iO p.fs j) wr)) (fun t _=>p.fs.length-(intOf t).toNat)
   case atStart=>exact⟨0,Nat.zero_le _,rfl,HP⟩
   case round=>
    obtain⟨j,hj,rfl,HJR⟩:=hrel
    by_cases hjl:j<p.fs.length
    ·obtain⟨name,kind,op',n',s',es,oo,cc,zs,e,x0,x1,x2,x3,x4,x5,r1,r2⟩:=HFI.out.at hjl
     obtain⟨b,off,cp,ev,_,_,g⟩:=HFR.out.at (by have:=HFR.out.1;omega)
     obtain⟨rfl,rfl⟩:o3=some ⟨b,off,none⟩∧c3=cp:=by simpa using ev
     have hbr:=HJR.out.below
     have y0:=aF hbr (g _ _ x0)
     have y1:=aF hbr (g _ _ x1)
     have y2:=aF hbr (g _ _ x2)
     have y3:=aF hbr (g _ _ x3)
     have y4:=aF hbr (g _ _ x4)
     have y5:=aF hbr (g _ _ x5)
     rw[←Nat.add_assoc] at y1 y2 y3 y4 y5
     have i0':(0:Int)≤(j:Int):=by omega
     have i1':(j:Int)<(p.fs.length:Int):=by omega
     have ej:p.fs[j]?=some ⟨name,kind,.mk op' n' s' es⟩:=by rw[List.getElem?_eq_getElem hjl,e]
     have et:(aD p)[j]?=some (.mk op' n' s' es):=by
      unfold aD
      rw[List.getElem?_append_left (by simpa using hjl),List.getElem?_map,ej]
      rfl
     obtain⟨w4,hw4⟩:∃w4,w4=wr.alloc (.cells #[.int .i64 j] 3):=⟨_,rfl⟩
     obtain⟨w5,hw5⟩:∃w5,w5=w4.alloc (.cells #[.string name,.int .i64 kind,.string op',.int .i64 n',.string s',.slice oo es.length cc] 95):=⟨_,rfl⟩
     have hb5:Bw w4 w5:=by rw[hw5];exact aH
     have hs4:w4.heap.size=wr.heap.size+1:=by rw[hw4];simp
     have hr5:w5.heap[wr.heap.size+1]?=some (.cells #[.string name,.int .i64 kind,.string op',.int .i64 n',.string s',.slice oo es.length cc] 95 (0,0)):=by rw[hw5,←hs4];exact heap_alloc_new _ _
     have z2:w5.cell? ⟨wr.heap.size+1,0+2,none⟩=some (.string op'):=cr hr5 rfl
     have z3:w5.cell? ⟨wr.heap.size+1,0+2+1,none⟩=some (.int .i64 n'):=cr hr5 rfl
     have z4:w5.cell? ⟨wr.heap.size+1,0+2+2,none⟩=some (.string s'):=cr hr5 rfl
     have z5:w5.cell? ⟨wr.heap.size+1,0+2+3,none⟩=some (.slice oo es.length cc):=cr hr5 rfl
     have hN4:dS w p3 (nb+1) wr.heap.size K n nb (jE p.fs p.fs.length) j (iO p.fs j) w4:=by rw[hw4];exact HJR.out.with
     have hca:=Ey (SizeOf.sizeOf es+1) op' n' s' es (Nat.lt_succ_self _) w w5 p3 (nb+1) wr.heap.size K n nb j (jE p.fs p.fs.length) (iO p.fs j) [] S oo cc zs (hN4.keep hb5) (Lg hjl) (lY HOK.out.1.small et) (tC HOK.out.2.1 et) r1 r2 (by
      have h1:=uV (.mk op' n' s' es)
      have h2:=uM et
      have h3:=HOK.out.1.parts
      simp only[List.length_nil]
      omega)
     rw[Lf ej] at hca
     have HCA:=aA hca
     have hmf:∀(fn:Fn) (first cap:Array Value) (w:World),(Instr.makeFunc fn first cap).run Tryz.prog w=.ok (.func fn first cap) w:=fun _ _ _ _=>rfl
     have HJ:=aA hjl
     have N4:Hid (wrap64 ((j:Int)+1)=(j:Int)+1):=by have:=HOK.out.2.2;have:=HJ.out;unfold Hid wrap64;omega
     have HW45:Hid (wr.alloc (.cells #[.int .i64 j] 3)=w4∧w4.alloc (.cells #[.string name,.int .i64 kind,.string op',.int .i64 n',.string s',.slice oo es.length cc] 95)=w5):=⟨hw4.symm,hw5.symm⟩
     clear hbr g ev x0 x1 x2 x3 x4 x5 r1 r2 e ej et hw4 hw5 hb5 hs4 hr5 hN4 hca hj hjl
     go_upto_region 11 with fail
     rw[HW45.out.1,HW45.out.2]
     clear y0 y1 y2 y3 y4 y5
     go_wp2_with fail
     refine HCA.out.mono ?_
     rintro e w6 ⟨rfl,h6⟩
     have HN6:Hid (rH w p3 (nb+1) K n nb (jE p.fs p.fs.length) (iO p.fs (j+1)) w6):=h6.without
     clear h6 z2 z3 z4 z5
     go_wp2
     exact⟨⟨j+1,HJ.out,by rw[N4.out];rfl,HN6.out⟩,by rw[N4.out];have:=HJ.out;simp [intOf];omega⟩
    ·obtain rfl:j=p.fs.length:=by omega
     have hfin:=HJR.out
     have e6:wr.cell? ⟨nb+1,0,none⟩=some (.slice (some ⟨nb,0,none⟩) p.fs.length p.fs.length):=by
      have h1:=hfin.c6
      rw[Cm (Nat.le_refl _)] at h1
      rw[cell_of_row wr _ _ _ _ (0,0) h1]
      rfl
     have HE:Hid (bS wr w.heap.size nb (fun _=>False) ((aN p.fs).map fun l=>l.map fun k=>((k:Nat):Int))∧Bw w wr):=⟨by have:=hfin.rows;rw[Lh] at this;exact this.fewer (fun _ h=>h.elim),hfin.below⟩
     clear hfin hj hjl
     go_wp2
     go_ret
     exact⟨nb,rfl,HE.out.1,HE.out.2⟩

def iM(n:Nat)(g:Nat→Int):List Int:=(List.range n).map g
theorem kJ(n:Nat)(g:Nat→Int):(iM n g).length=n:=by simp [iM]
theorem pQ{n k:Nat}(g:Nat→Int)(h:k<n):(iM n g)[k]?=some (g k):=by simp [iM,h]
theorem IX{n k:Nat}(g:Nat→Int)(v:Int):(iM n g).set k v=iM n (fun j=>if j=k then v else g j):=by
 apply List.ext_getElem?
 intro j
 by_cases hj:j<n
 ·rw[pQ _ hj]
  by_cases e:k=j
  ·subst e
   rw[List.getElem?_set_self (by rw[kJ];exact hj),if_pos rfl]
  ·rw[List.getElem?_set_ne e,pQ _ hj,if_neg (fun h=>e h.symm)]
 ·rw[List.getElem?_eq_none (by rw[List.length_set,kJ];omega),List.getElem?_eq_none (by rw[kJ];omega)]
theorem IY{n:Nat}{g h:Nat→Int}(e:∀k,k<n→g k=h k):iM n g=iM n h:=List.map_congr_left fun k hk=>e k (List.mem_range.1 hk)
def bD(w:World)(W n:Nat)(g:Nat→Int):Prop:=w.heap[W]?=some (.cells ((iM n g).map (Value.int .i64)).toArray 3 (0,0))
theorem bD.cell{w:World}{W n:Nat}{g:Nat→Int}(h:bD w W n g){k:Nat}(hk:k<n):w.cell? ⟨W,k,none⟩=some (.int .i64 (g k)):=by
 rw[cell_of_row w W k _ _ (0,0) h]
 simp [iM,hk]
theorem bD.free{w:World}{W n:Nat}{g:Nat→Int}(h:bD w W n g)(k:Nat):w.frozen? ⟨W,k,none⟩=false:=by
 unfold bD at h
 simp [World.frozen?,h]
theorem bD.set{w:World}{W n:Nat}{g:Nat→Int}(h:bD w W n g)(k:Nat)(v:Int):bD (w.setCell ⟨W,k,none⟩ (.int .i64 v)) W n (fun j=>if j=k then v else g j):=by
 unfold bD
 rw[heap_setCell_same w W k _ _ _ h,←IX]
 simp [List.map_set]
theorem bD.lt{w:World}{W n:Nat}{g:Nat→Int}(h:bD w W n g):W<w.heap.size:=(bE h).1
theorem bD.made(w:World)(n:Nat):bD (w.alloc (.cells (Array.replicate n (.int .i64 0)) 3)) w.heap.size n (fun _=>0):=by
 unfold bD
 rw[heap_alloc_new]
 congr 2
 apply Array.toList_inj.1
 apply List.ext_getElem?
 intro j
 simp only[Array.toList_replicate,List.getElem?_replicate,iM,List.getElem?_map]
 by_cases hj:j<n
 ·simp [hj]
 ·simp [hj]
theorem bD.ints{w:World}{W n:Nat}{g:Nat→Int}(h:bD w W n g)(hn:n≤maxLen):dI w (.slice (some ⟨W,0,none⟩) n n) (iM n g):=by
 refine⟨by rw[kJ];exact hn,_,n,by rw[kJ],fun k x hk=>⟨W,0,rfl,?_⟩⟩
 have hkn:k<n:=by have:=(aX hk).1;rw[kJ] at this;exact this
 rw[pQ _ hkn] at hk
 rw[Nat.zero_add,h.cell hkn,Option.some.inj hk]
def nV(l:List Int)(x:Int):Int:=match l.findIdx? (·==x) with
 | some k=>k
 | none=>-1
theorem Du{l:List Int}{x:Int}{j:Nat}(h:l[j]?=some x)(hb:∀i,i<j→l[i]?≠some x):nV l x=j:=by
 have hj:=(aX h).1
 have hf:l.findIdx? (·==x)=some j:=by
  rw[List.findIdx?_eq_some_iff_getElem]
  refine⟨hj,by have:=(aX h).2;simpa using this,fun i hi=>?_⟩
  have:=hb i hi
  rw[List.getElem?_eq_getElem (by omega)] at this
  simpa using this
 unfold nV
 rw[hf]
theorem Dv{l:List Int}{x:Int}(hb:∀i,i<l.length→l[i]?≠some x):nV l x=-1:=by
 have hf:l.findIdx? (·==x)=none:=by
  rw[List.findIdx?_eq_none_iff]
  intro y hy
  obtain⟨i,hi⟩:=List.mem_iff_getElem?.1 hy
  have:=hb i (aX hi).1
  rw[hi] at this
  simpa using this
 unfold nV
 rw[hf]
theorem MO(w:World)(l:List Int)(o:Option Addr)(c:Nat)(x:Int)(h:dI w (.slice o l.length c) l)(hl:l.length≤100000) :
  Calls Tryz.prog 82 #[.slice o l.length c,.int .i64 x] w fun e w'=>e=.returned (.int .i64 (nV l x))∧Bw w w':=by
 have HI:=aA h
 have HL:=aA hl
 clear h hl
 go_enter Tryz.func82,Tryz.ntmps82
 go_wp2
 go_loopw [8] (fun t wr=>∃(j:Nat),j≤l.length∧t=.int .i64 j∧Hid (Bw w wr∧∀i,i<j→l[i]?≠some x)) (fun t _=>l.length-(intOf t).toNat)
 case atStart=>exact⟨0,Nat.zero_le _,rfl,⟨Below.refl _ _,fun i hi=>absurd hi (by omega)⟩⟩
 case round=>
  obtain⟨j,hj,rfl,HJ⟩:=hrel
  by_cases hjl:j<l.length
  ·obtain⟨y,hy⟩:∃y,l[j]?=some y:=⟨_,List.getElem?_eq_getElem hjl⟩
   obtain⟨b,off,rfl,hc⟩:=HI.out.get hy
   have y0:=aF HJ.out.1 hc
   have i0':(0:Int)≤(j:Int):=by omega
   have i1':(j:Int)<(l.length:Int):=by omega
   have HJL:=aA hjl
   have N4:Hid (wrap64 ((j:Int)+1)=(j:Int)+1):=by have:=HL.out;unfold Hid wrap64;omega
   by_cases hxy:x=y
   ·have HE:Hid (nV l x=(j:Int)∧Bw w wr):=⟨Du (by rw[hy,hxy]) HJ.out.2,HJ.out.1⟩
    have d0:(x==y)=true:=by rw[hxy];exact beq_self_eq_true y
    clear hy hc hj hjl hxy HJ
    go_wp2
    go_ret
    exact⟨by rw[HE.out.1];rfl,HE.out.2⟩
   ·have d0:(x==y)=false:=beq_eq_false_iff_ne.2 hxy
    have HN:Hid (Bw w wr∧∀i,i<j+1→l[i]?≠some x):=⟨HJ.out.1,fun i hi=>by
     by_cases e:i=j
     ·rw[e,hy]
      intro h
      exact hxy (Option.some.inj h).symm
     ·exact HJ.out.2 i (by omega)⟩
    clear hy hc hj hjl hxy HJ
    go_wp2
    exact⟨⟨j+1,HJL.out,by rw[N4.out];rfl,HN.out⟩,by rw[N4.out];have:=HJL.out;simp [intOf];omega⟩
  ·obtain rfl:j=l.length:=by omega
   have HE:Hid (nV l x=-1∧Bw w wr):=⟨Dv HJ.out.2,HJ.out.1⟩
   clear hj hjl HJ
   go_wp2
   go_ret
   exact⟨by rw[HE.out.1];rfl,HE.out.2⟩
def lV(nd:List (List Nat))(i j k u:Nat):Nat:=if u<i then (aU nd u).count k else if u=i then ((aU nd i).take j).count k else 0
theorem F8(nd:List (List Nat))(k u:Nat):lV nd 0 0 k u=0:=by
 unfold lV
 rw[if_neg (Nat.not_lt_zero _)]
 split
 ·simp
 ·rfl
theorem Ga(nd:List (List Nat))(i k u:Nat):lV nd i (aU nd i).length k u=lV nd (i+1) 0 k u:=by
 unfold lV
 by_cases h:u<i
 ·rw[if_pos h,if_pos (by omega)]
 ·rw[if_neg h]
  by_cases e:u=i
  ·subst e
   rw[if_pos rfl,if_pos (by omega),List.take_length]
  ·rw[if_neg e,if_neg (by omega)]
   split<;>simp
theorem F9{nd:List (List Nat)}{i j x:Nat}(h:(aU nd i)[j]?=some x)(k u:Nat):lV nd i (j+1) k u=lV nd i j k u+(if u=i∧k=x then 1 else 0):=by
 unfold lV
 by_cases hu:u<i
 ·rw[if_pos hu,if_pos hu,if_neg (by omega)]
  rfl
 ·rw[if_neg hu,if_neg hu]
  by_cases e:u=i
  ·rw[if_pos e,if_pos e,List.take_add_one,h,List.count_append]
   by_cases ek:k=x
   ·subst ek
    rw[if_pos ⟨e,rfl⟩]
    simp
   ·rw[if_neg (fun hh=>ek hh.2)]
    simp [Ne.symm ek]
  ·rw[if_neg e,if_neg e,if_neg (fun hh=>e hh.1)]
structure jQ(nd us:List (List Nat))(i j:Nat):Prop where
 len:us.length=nd.length
 cnt:∀(k:Nat) (l:List Nat),us[k]?=some l→∀u,l.count u=lV nd i j k u
 lt:∀(k:Nat) (l:List Nat),us[k]?=some l→∀u∈l,u<nd.length
theorem jQ.start(nd:List (List Nat)):jQ nd (List.replicate nd.length []) 0 0:=
 ⟨by simp,fun k l h u=>by rw[qJ h,F8];rfl,fun k l h u hu=>by rw[qJ h] at hu;simp at hu⟩
theorem jQ.next{nd us:List (List Nat)}{i:Nat}(h:jQ nd us i (aU nd i).length):jQ nd us (i+1) 0:=
 ⟨h.len,fun k l hl u=>by rw[h.cnt k l hl u,Ga],h.lt⟩
theorem jQ.step{nd us:List (List Nat)}{i j x:Nat}{l:List Nat}(h:jQ nd us i j)(hi:i<nd.length)(hx:(aU nd i)[j]?=some x)(hl:us[x]?=some l):jQ nd (us.set x (l++[i])) i (j+1):=by
 have hxl:=(aX hl).1
 refine⟨by rw[List.length_set];exact h.len,fun k m hm u=>?_,fun k m hm u hu=>?_⟩
 ·rw[F9 hx]
  by_cases e:x=k
  ·subst e
   rw[List.getElem?_set_self hxl] at hm
   obtain rfl:=Option.some.inj hm
   rw[List.count_append,h.cnt x l hl u]
   by_cases eu:u=i
   ·subst eu
    rw[if_pos ⟨rfl,rfl⟩]
    simp
   ·rw[if_neg (fun hh=>eu hh.1)]
    simp [Ne.symm eu]
  ·rw[List.getElem?_set_ne e] at hm
   rw[h.cnt k m hm u,if_neg (fun hh=>e hh.2.symm)]
   rfl
 ·by_cases e:x=k
  ·subst e
   rw[List.getElem?_set_self hxl] at hm
   obtain rfl:=Option.some.inj hm
   rcases List.mem_append.1 hu with hu | hu
   ·exact h.lt x l hl u hu
   ·rw[List.mem_singleton.1 hu];exact hi
  ·rw[List.getElem?_set_ne e] at hm
   exact h.lt k m hm u hu
def cI(l:List Nat):List Int:=l.map fun k=>((k:Nat):Int)
theorem oV(l:List Nat):(cI l).length=l.length:=by simp [cI]
theorem wH{l:List Nat}{j x:Nat}(h:l[j]?=some x):(cI l)[j]?=some (x:Int):=by simp [cI,h]
theorem wG(l:List Nat)(x:Nat):cI (l++[x])=cI l++[(x:Int)]:=by simp [cI]
theorem bS.read{w:World}{base nb:Nat}{F:Nat→Prop}{nd:List (List Nat)}(h:bS w base nb F (nd.map cI)){i:Nat}{l:List Nat}(hl:nd[i]?=some l):∃o c,w.cell? ⟨nb,i,none⟩=some (.slice o l.length c)∧∀(j x:Nat),l[j]?=some x→∃b,o=some ⟨b,0,none⟩∧w.cell? ⟨b,j,none⟩=some (.int .i64 (x:Int)):=by
 have hl':(nd.map cI)[i]?=some (cI l):=by rw[List.getElem?_map,hl];rfl
 obtain⟨o,c,h1,_,h3,_⟩:=h.at hl'
 rw[oV] at h1 h3
 refine⟨o,c,h1,fun j x hj=>?_⟩
 have hjl:=(aX hj).1
 obtain⟨g,cap,e,_,_⟩:=h3.form (by omega)
 obtain⟨rfl,rfl⟩:o=some ⟨g,0,none⟩∧c=cap:=by simpa using e
 refine⟨g,rfl,?_⟩
 have:=h3.cells (g:=g) rfl j (.int .i64 (x:Int)) (by rw[List.getElem?_map,wH hj];rfl)
 rwa [Addr.add_lit,Nat.zero_add] at this
theorem Cn{nd:List (List Nat)}{i:Nat}{l:List Nat}(h:nd[i]?=some l):aU nd i=l:=by unfold aU;rw[h];rfl
def tot(nd:List (List Nat)):Nat→Nat
 | 0=>0
 | i+1=>tot nd i+(aU nd i).length
theorem uH(nd:List (List Nat)){i j:Nat}(h:i≤j):tot nd i≤tot nd j:=by
 induction j with
 | zero=>
  obtain rfl:i=0:=by omega
  exact Nat.le_refl _
 | succ j ih=>
  by_cases e:i=j+1
  ·rw[e];exact Nat.le_refl _
  ·have:=ih (by omega)
   simp only[tot]
   omega
structure jR(w:World)(W U n:Nat)(g:Nat→Int)(us:List (List Nat))(wr:World):Prop where
 fP:bD wr W n g
 usr:bS wr w.heap.size U (fun k=>k=W) (us.map cI)
 ne:W≠U
 wb:w.heap.size≤W
 below:Bw w wr
theorem jR.keep{w wr w':World}{W U n:Nat}{g:Nat→Int}{us:List (List Nat)}(h:jR w W U n g us wr)(hb:Bw wr w'):jR w W U n g us w':=
 ⟨(hb.block _ h.fP.lt).trans h.fP,h.usr.below hb,h.ne,h.wb,h.below.trans (hb.mono h.below.size)⟩
theorem jR.store{w wr:World}{W U n:Nat}{g:Nat→Int}{us:List (List Nat)}(h:jR w W U n g us wr)(k:Nat)(v:Int):jR w W U n (fun j=>if j=k then v else g j) us (wr.setCell ⟨W,k,none⟩ (.int .i64 v)):=by
 have hset:∀q,q≠W→(wr.setCell ⟨W,k,none⟩ (.int .i64 v)).heap[q]?=wr.heap[q]?:=fun q hq=>Below.heap_setCell wr ⟨W,k,none⟩ _ q hq
 refine⟨h.fP.set k v,h.usr.move (by rw[size_setCell];exact Nat.le_refl _) (fun q _ hF _=>hset q hF) (hset U (fun e=>h.ne e.symm)),h.ne,h.wb,?_⟩
 have h1:=h.below
 exact⟨h1.os,h1.tape,h1.output,by rw[size_setCell];exact h1.size,fun q hq=>(hset q (by have:=h.wb;omega)).trans (h1.block q hq)⟩
theorem jR.grown{w wr w':World}{W U n:Nat}{g:Nat→Int}{us:List (List Nat)}(h:jR w W U n g us wr){x i:Nat}{l:List Nat}(hl:us[x]?=some l){o:Option Addr}{c gg cap:Nat}(hc:wr.cell? ⟨U,x,none⟩=some (.slice o l.length c))(hg:wr.grownBy w' (Value.slice o l.length c).ownBlock)(ha:(Value.slice o l.length c).ownBlock=some gg∨gg=wr.heap.size)(ho:w'.ownsRow w.heap.size 3 1 (.slice (some ⟨gg,0,none⟩) (l.length+1) cap) (l.length+1) ((cI l).map (Value.int .i64)++[.int .i64 (i:Int)])):jR w W U n g (us.set x (l++[i])) (w'.setCell ⟨U,x,none⟩ (.slice (some ⟨gg,0,none⟩) (l.length+1) cap)):=by
 have hl':(us.map cI)[x]?=some (cI l):=by rw[List.getElem?_map,hl];rfl
 obtain⟨o',c',h1,_,h3,h4⟩:=h.usr.at hl'
 rw[oV] at h1 h3 h4
 obtain⟨rfl,rfl⟩:o=o'∧c=c':=by rw[hc] at h1;simpa using h1
 have hlen:(cI (l++[i])).length=l.length+1:=by rw[oV];simp
 have hu:=h.usr.grown (i:=x) (l:=cI l) (l':=cI (l++[i])) (g:=gg) (cap:=cap) (w':=w') hl' (by rw[oV];exact hc) (by rw[oV];exact hg) (by rw[oV];exact ha) (by rw[hlen,wG];simpa using ho)
 rw[hlen,←List.map_set] at hu
 have hset:∀q,q≠U→(w'.setCell ⟨U,x,none⟩ (.slice (some ⟨gg,0,none⟩) (l.length+1) cap)).heap[q]?=w'.heap[q]?:=fun q hq=>Below.heap_setCell w' ⟨U,x,none⟩ _ q hq
 refine⟨(hset W h.ne).trans ((hg.block W h.fP.lt (fun e=>(h4 W e.symm).2 rfl)).trans h.fP),hu,h.ne,h.wb,?_⟩
 have h5:Bw w w':=h.below.grown hg h.below.size (fun k hk=>(h3.lt k hk).1)
 obtain⟨vs,_,_,h6,_⟩:=h.usr
 exact⟨h5.os,h5.tape,h5.output,by rw[size_setCell];exact h5.size,fun q hq=>(hset q (by omega)).trans (h5.block q hq)⟩
end Go.Proofs.YtmgfakcccfahaaaGreatDoor
