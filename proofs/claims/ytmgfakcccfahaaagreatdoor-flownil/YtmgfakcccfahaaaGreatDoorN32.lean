/-
  package plan: needs, order BY CONTRACT: each part gets its turn behind those that it needs at once.
-/
import Derived.Test.YtmgfakcccfahaaaGreatDoorN31
set_option maxRecDepth 100000
set_option maxHeartbeats 4000000
namespace Go.Proofs.YtmgfakcccfahaaaGreatDoor
open Go.RowKit Go.Maps

def dI(q:Pq):List Nat:=if q.op.data.toList=dD then [] else if q.op.data.toList=bQ then q.aF.take 1 else q.aF
theorem aB.take1{w:World}{F:Nat→Prop}{o:Option Addr}{c:Nat}{l:List Nat}(h:aB w F 1 (.slice o l.length c) l.length (aX l))(h0:0<l.length):aB w F 1 (.slice o 1 c) 1 (aX (l.take 1)):=by
 obtain⟨_,h2,o',c',e,h3,h4⟩:=h
 obtain⟨rfl,rfl⟩:o=o'∧c=c':=by simpa using e
 refine⟨by unfold aX;rw[List.length_map,lG,List.length_take];omega,by unfold maxLen;omega,o,c,rfl,fun k x hx=>?_,by omega⟩
 refine h3 k x ?_
 have hk:=(bA hx).1
 unfold aX cI at hx hk ⊢
 simp only[List.length_map,List.length_take] at hk
 rw[←hx,List.getElem?_map,List.getElem?_map,List.getElem?_map,List.getElem?_map,List.getElem?_take,if_pos (by omega)]
theorem Np(w:World)(F:Nat→Prop)(p:aW)(hr:aB w F 1 (.slice p.oo p.aF.length p.oc) p.aF.length (aX p.aF))(hf:p.op.data.toList=bQ→0<p.aF.length) :
  Calls Tryz.prog 181 #[.agg #[.string p.op,.int .i64 p.n,.slice p.oo p.aF.length p.oc,.int .i64 p.mem,.int .i64 p.kind,.bool p.late]] w fun e w'=>Bw w w'∧∃o c,e=.returned (.slice o (dI p.q).length c)∧aB w' F 1 (.slice o (dI p.q).length c) (dI p.q).length (aX (dI p.q)):=by
 obtain⟨w1,hw1⟩:∃w1,w1=w.alloc (.cells #[.string p.op,.int .i64 p.n,.slice p.oo p.aF.length p.oc,.int .i64 p.mem,.int .i64 p.kind,.bool p.late] 185):=⟨_,rfl⟩
 obtain⟨V,hV⟩:∃V,V=w.heap.size:=⟨_,rfl⟩
 have hb1:Bw w w1:=by rw[hw1];exact aH
 have hr1:w1.heap[V]?=some (.cells #[.string p.op,.int .i64 p.n,.slice p.oo p.aF.length p.oc,.int .i64 p.mem,.int .i64 p.kind,.bool p.late] 185 (0,0)):=by rw[hw1,hV];exact heap_alloc_new _ _
 have z0:w1.cell? ⟨V,0,none⟩=some (.string p.op):=cr hr1 rfl
 have z2:w1.cell? ⟨V,0+2,none⟩=some (.slice p.oo p.aF.length p.oc):=cr hr1 rfl
 have HB:=aA hb1
 have HRW:Hid (aB w1 F 1 (.slice p.oo p.aF.length p.oc) p.aF.length (aX p.aF)):=hr.keep (jZ hb1)
 have HW1:Hid (w.alloc (.cells #[.string p.op,.int .i64 p.n,.slice p.oo p.aF.length p.oc,.int .i64 p.mem,.int .i64 p.kind,.bool p.late] 185)=w1∧w.heap.size=V):=⟨hw1.symm,hV.symm⟩
 obtain⟨m,hm⟩:∃m,m=p.aF.length:=⟨_,rfl⟩
 have hcap:p.aF.length≤p.oc:=hr.cap
 clear hr hw1 hV hb1 hr1
 by_cases hp:p.op.data.toList=dD
 ·have dp:(p.op.toList==[112,114,101])=true:=by rw[ByteArray.toList_eq,hp];rfl
  have HE:Hid (dI p.q=[]):=if_pos hp
  clear hp hf hm hcap
  go_enter Tryz.func181,Tryz.ntmps181
  go_upto_region 1 with fail
  rw[HW1.out.1,HW1.out.2]
  go_wp2
  go_ret
  rw[HE.out]
  exact⟨HB.out,none,0,rfl,D8 _ _ _⟩
 have dp:(p.op.toList==[112,114,101])=false:=by rw[ByteArray.toList_eq];exact beq_eq_false_iff_ne.2 hp
 by_cases hy:p.op.data.toList=bQ
 ·have df:(p.op.toList==[102,98,121])=true:=by rw[ByteArray.toList_eq,hy];rfl
  have h0:=hf hy
  have HE:Hid (dI p.q=p.aF.take 1):=by unfold Hid dI;rw[if_neg (show p.q.op.data.toList≠dD from hp),if_pos (show p.q.op.data.toList=bQ from hy)];rfl
  have HT:Hid (aB w1 F 1 (.slice p.oo 1 p.oc) 1 (aX (p.aF.take 1))∧(p.aF.take 1).length=1):=⟨HRW.out.take1 h0,by rw[List.length_take];omega⟩
  have l1':(1:Int)≤(p.oc:Int):=by omega
  have l2':1≤p.oc:=by omega
  clear hp hy hf hm h0 hcap
  go_enter Tryz.func181,Tryz.ntmps181
  go_upto_region 1 with fail
  rw[HW1.out.1,HW1.out.2]
  go_wp2
  go_ret
  rw[HE.out,HT.out.2]
  exact⟨HB.out,_,_,rfl,HT.out.1⟩
 ·have df:(p.op.toList==[102,98,121])=false:=by rw[ByteArray.toList_eq];exact beq_eq_false_iff_ne.2 hy
  have HE:Hid (dI p.q=p.aF):=by unfold Hid dI;rw[if_neg (show p.q.op.data.toList≠dD from hp),if_neg (show p.q.op.data.toList≠bQ from hy)];rfl
  clear hp hy hf hm hcap
  go_enter Tryz.func181,Tryz.ntmps181
  go_upto_region 1 with fail
  rw[HW1.out.1,HW1.out.2]
  go_wp2
  go_ret
  rw[HE.out]
  exact⟨HB.out,_,_,rfl,HRW.out⟩
def rA(Q n:Nat)(g:Nat→Bool):Own:=aP Q (.cells ((List.range n).map fun k=>Value.bool (g k)).toArray 4 (0,0))
theorem aG.bo{w0 w:World}{F:Nat→Prop}{ex:List Own}{d:aK}{Q n:Nat}{g:Nat→Bool}(h:aG w0 F (rA Q n g::ex) d w):iE w Q n g:=h.sep.is 10 _ rfl
theorem aG.Qo{w0 w:World}{F:Nat→Prop}{ex:List Own}{d:aK}{Q n:Nat}{g:Nat→Bool}(h:aG w0 F (rA Q n g::ex) d w)(k:Nat)(v:Bool):aG w0 F (rA Q n (fun j=>if j=k then v else g j)::ex) d (w.setCell ⟨Q,k,none⟩ (.bool v))∧aJ F F w (w.setCell ⟨Q,k,none⟩ (.bool v)):=by
 have hg:=bW w Q k (.bool v)
 have hs:=h.sep.step (i:=10) (c:=rA Q n g) (c':=rA Q n (fun j=>if j=k then v else g j)) rfl hg (h.bo.set k v) (fun q hq=>.inl hq)
 have hst:=h.sep.stays (i:=10) (c:=rA Q n g) rfl hg
 exact⟨⟨hs,h.aF.keep hst,h.sep.below (i:=10) (c:=rA Q n g) rfl hg h.below⟩,hst⟩
theorem aG.Dq{w0 w:World}{F:Nat→Prop}{ex:List Own}{d:aK}(h:aG w0 F ex d w):w.ownsRow w0.heap.size 3 1 d.vt d.ts.length (aX d.ts):=h.sep.is 7 _ rfl
theorem aK.LV(d:aK)(base:Nat)(ex:List Own)(x:Nat)(v:Value):((d.own base++ex).set 7 (dH base 3 1 v (d.ts.length+1) (aX d.ts++[.int .i64 (x:Int)]))).set 1 (aP d.B (.cells (#[d.vp,d.vi,d.vt,d.vk,d.vo,d.va,d.vc].setIfInBounds 2 v) 183 (0,0)))={ d with vt:=v,ts:=d.ts++[x] }.own base++ex:=by
 simp only[aK.own,List.length_append,List.length_singleton,Af]
 rfl
theorem aG.turn{w0 w w':World}{F:Nat→Prop}{ex:List Own}{d:aK}(h:aG w0 F ex d w){x g cap:Nat}(ho:w'.ownsRow w0.heap.size 3 1 (.slice (some ⟨g,0,none⟩) (d.ts.length+1) cap) (d.ts.length+1) (aX d.ts++[.int .i64 (x:Int)]))(hg:w.grownBy w' d.vt.ownBlock)(ha:d.vt.ownBlock=some g∨g=w.heap.size):aG w0 F ex { d with vt:=.slice (some ⟨g,0,none⟩) (d.ts.length+1) cap,ts:=d.ts++[x] } (w'.setCell ⟨d.B,2,none⟩ (.slice (some ⟨g,0,none⟩) (d.ts.length+1) cap))∧aJ F F w (w'.setCell ⟨d.B,2,none⟩ (.slice (some ⟨g,0,none⟩) (d.ts.length+1) cap))∧w.heap.size≤(w'.setCell ⟨d.B,2,none⟩ (.slice (some ⟨g,0,none⟩) (d.ts.length+1) cap)).heap.size:=by
 have h4:=h.sep.grow (i:=7) rfl ho hg ha
 have h5:=h4.set (i:=1) (b:=d.B) rfl 2 (.slice (some ⟨g,0,none⟩) (d.ts.length+1) cap)
 rw[aK.LV] at h5
 have hs1:=h.sep.stays (i:=7) rfl hg
 have hs2:=h4.stays (i:=1) (c:=aP d.B d.bo) rfl (bW w' d.B 2 (.slice (some ⟨g,0,none⟩) (d.ts.length+1) cap))
 exact⟨⟨h5,(h.aF.keep hs1).keep hs2,h4.below (i:=1) (c:=aP d.B d.bo) rfl (bW w' d.B 2 _) (h.sep.below (i:=7) rfl hg h.below)⟩,hs1.trans hs2 hg.size,by rw[size_setCell];exact hg.size⟩
def eZ(qs:List Pq)(x:Nat):Bool:=match qs[x]? with | some q=>q.op.data.toList==lK.data.toList | none=>true
def dY(qs:List Pq)(x:Nat):List Nat:=match qs[x]? with | some q=>dI q | none=>[]
structure tJ(qs:List Pq)(rk:Nat→Nat):Prop where
 nd:∀x n,n∈dY qs x→n<qs.length∧rk n<rk x
 fb:∀(x:Nat) (q:Pq),qs[x]?=some q→q.op.data.toList=bQ→0<q.aF.length
structure iZ(qs:List Pq)(G:Nat→Prop)(g:Nat→Bool)(ts:List Nat):Prop where
 nd:ts.Nodup
 t:∀x∈ts,x<qs.length∧eZ qs x=false∧g x=true∧¬G x
 k:∀x,x<qs.length→g x=true→G x∨eZ qs x=true∨x∈ts
 o:∀(a:List Nat) (x:Nat) (b:List Nat),ts=a++x::b→∀n∈dY qs x,eZ qs n=true∨n∈a
theorem iZ.len{qs:List Pq}{G:Nat→Prop}{g:Nat→Bool}{ts:List Nat}(h:iZ qs G g ts):ts.length≤qs.length:=by
 have:=vO ts (List.range qs.length) h.nd (fun x hx=>List.mem_range.2 (h.t x hx).1)
 simpa using this
theorem iZ.enter{qs:List Pq}{G:Nat→Prop}{g:Nat→Bool}{ts:List Nat}(h:iZ qs G g ts){i:Nat}(hi:g i=false):iZ qs (fun x=>G x∨x=i) (fun x=>if x=i then true else g x) ts:=by
 refine⟨h.nd,fun x hx=>?_,fun x hl hx=>?_,h.o⟩
 ·obtain⟨a,b,c,e⟩:=h.t x hx
  have hne:x≠i:=fun e2=>by rw[e2,hi] at c;cases c
  exact⟨a,b,by rw[if_neg hne];exact c,fun h2=>h2.elim e hne⟩
 ·by_cases e:x=i
  ·exact .inl (.inr e)
  ·rw[if_neg e] at hx
   rcases h.k x hl hx with h1 | h1 | h1
   ·exact .inl (.inl h1)
   ·exact .inr (.inl h1)
   ·exact .inr (.inr h1)
theorem iZ.leave{qs:List Pq}{G:Nat→Prop}{g:Nat→Bool}{ts:List Nat}{i:Nat}(h:iZ qs (fun x=>G x∨x=i) g ts)(hin:eZ qs i=true):iZ qs G g ts:=by
 refine⟨h.nd,fun x hx=>?_,fun x hl hx=>?_,h.o⟩
 ·obtain⟨a,b,c,e⟩:=h.t x hx
  exact⟨a,b,c,fun h2=>e (.inl h2)⟩
 ·rcases h.k x hl hx with(h1 | rfl) | h1 | h1
  ·exact .inl h1
  ·exact .inr (.inl hin)
  ·exact .inr (.inl h1)
  ·exact .inr (.inr h1)
theorem J6{α:Type}{ts a b:List α}{x i:α}(h:ts++[i]=a++x::b):(∃b',ts=a++x::b')∨(ts=a∧x=i):=by
 rcases List.eq_nil_or_concat b with rfl | ⟨b',y,rfl⟩
 ·right
  obtain⟨h1,h2⟩:=List.append_inj' h rfl
  exact⟨h1,by simpa using h2.symm⟩
 ·left
  have e:a++x::(b'.concat y)=(a++x::b')++[y]:=by simp [List.concat_eq_append]
  rw[e] at h
  exact⟨b',(List.append_inj' h rfl).1⟩
theorem iZ.push{qs:List Pq}{rk:Nat→Nat}(hr:tJ qs rk){G:Nat→Prop}{g:Nat→Bool}{ts:List Nat}{i:Nat}(h:iZ qs (fun x=>G x∨x=i) g ts)(hi:i<qs.length)(hG:∀x,G x→rk i<rk x)(hgi:g i=true)(hin:eZ qs i=false)(hn:∀n∈dY qs i,g n=true):iZ qs G g (ts++[i]):=by
 have hni:¬G i:=fun hg=>absurd (hG i hg) (Nat.lt_irrefl _)
 refine⟨?_,fun x hx=>?_,fun x hl hx=>?_,fun a x b hab n hnx=>?_⟩
 ·rw[List.nodup_append]
  refine⟨h.nd,by simp,fun x hx y hy=>?_⟩
  rw[List.mem_singleton.1 hy]
  exact fun e=>(h.t x hx).2.2.2 (.inr e)
 ·rcases List.mem_append.1 hx with hx | hx
  ·obtain⟨a,b,c,e⟩:=h.t x hx
   exact⟨a,b,c,fun h2=>e (.inl h2)⟩
  ·rw[List.mem_singleton.1 hx]
   exact⟨hi,hin,hgi,hni⟩
 ·rcases h.k x hl hx with(h1 | rfl) | h1 | h1
  ·exact .inl h1
  ·exact .inr (.inr (by simp))
  ·exact .inr (.inl h1)
  ·exact .inr (.inr (by simp [h1]))
 ·rcases J6 hab with⟨b',e⟩ | ⟨rfl,rfl⟩
  ·exact h.o a x b' e n hnx
  ·obtain⟨hnl,hrk⟩:=hr.nd x n hnx
   rcases h.k n hnl (hn n hnx) with(h1 | h1) | h1 | h1
   ·have:=hG n h1;omega
   ·rw[h1] at hrk;omega
   ·exact .inl h1
   ·exact .inr h1
def kC(Q KB XB NB X n:Nat)(g:Nat→Bool):List Own:=[rA Q n g,aP KB (.cells #[.slice (some ⟨Q,0,none⟩) n n] 103 (0,0)),aP XB (.cells #[.pointer (some ⟨X,0,none⟩)] 237 (0,0)),aP NB (.cells #[.func (.func 180) #[] #[.pointer (some ⟨KB,0,none⟩),.pointer (some ⟨XB,0,none⟩),.pointer (some ⟨NB,0,none⟩)]] 276 (0,0))]
def Az(m:Nat):Prop:=∀(rk:Nat→Nat) (i:Nat),rk i<m→∀(w0 w:World) (F:Nat→Prop) (d:aK) (Q KB XB NB X n:Nat) (G:Nat→Prop) (g:Nat→Bool),X=d.X→n=d.ps.length→aG w0 F (kC Q KB XB NB X n g) d w→tJ (d.ps.map aW.q) rk→iZ (d.ps.map aW.q) G g d.ts→d.ps.length≤50000→i<d.ps.length→(∀x,G x→rk i<rk x) →
  Calls Tryz.prog 180 #[.int .i64 (i:Int),.pointer (some ⟨KB,0,none⟩),.pointer (some ⟨XB,0,none⟩),.pointer (some ⟨NB,0,none⟩)] w fun e w'=>e=.returned (.tuple #[])∧∃vt ts g',aG w0 F (kC Q KB XB NB X n g') { d with vt:=vt,ts:=ts } w'∧iZ (d.ps.map aW.q) G g' ts∧(∀x,g x=true→g' x=true)∧g' i=true∧w.heap.size≤w'.heap.size∧aJ F F w w'
theorem aG.uY{w0 w:World}{F:Nat→Prop}{d:aK}{Q KB XB NB X n:Nat}{g:Nat→Bool}(h:aG w0 F (kC Q KB XB NB X n g) d w):w.cell? ⟨KB,0,none⟩=some (.slice (some ⟨Q,0,none⟩) n n)∧w.cell? ⟨XB,0,none⟩=some (.pointer (some ⟨X,0,none⟩))∧w.cell? ⟨NB,0,none⟩=some (.func (.func 180) #[] #[.pointer (some ⟨KB,0,none⟩),.pointer (some ⟨XB,0,none⟩),.pointer (some ⟨NB,0,none⟩)]):=by
 refine⟨?_,?_,?_⟩
 ·rw[cell_of_row w _ _ _ _ (0,0) (h.sep.is 11 _ rfl)];rfl
 ·rw[cell_of_row w _ _ _ _ (0,0) (h.sep.is 12 _ rfl)];rfl
 ·rw[cell_of_row w _ _ _ _ (0,0) (h.sep.is 13 _ rfl)];rfl
theorem Ns{m:Nat}(IH:Az m):Az (m+1):=by
 intro rk i him w0 w F d Q KB XB NB X n G g hX hn h hrk hod hps hi hG
 obtain⟨i0,hi0,hz0,hz1,hz2⟩:=info_parts Tryz.kT
 obtain⟨B,hB⟩:∃B,B=d.B:=⟨_,rfl⟩
 have HXB:Hid (X=d.X∧B=d.B∧n=d.ps.length):=⟨hX,hB,hn⟩
 obtain⟨k0,k1,k2⟩:=h.uY
 have kb:=h.bo.cell (k:=i) (by rw[hn];exact hi)
 have i0':(0:Int)≤(i:Int):=by omega
 have i1':(i:Int)<(n:Int):=by omega
 have HH:=aA h
 have HRK:Hid (tJ (d.ps.map aW.q) rk∧iZ (d.ps.map aW.q) G g d.ts∧d.ps.length≤50000∧i<d.ps.length∧(∀x,G x→rk i<rk x)):=⟨hrk,hod,hps,hi,hG⟩
 have HIH:Hid (Az m∧rk i<m+1):=⟨IH,him⟩
 clear IH him hrk hod hps hi hG hX hB hn
 cases hgi:g i with
 | true=>
  rw[hgi] at kb
  have HGI:=aA hgi
  clear hgi h
  go_enter Tryz.func180,Tryz.ntmps180
  go_wp2
  refine bodyPost_ret (results_none rfl _ _ _) rfl ?_
  exact⟨rfl,d.vt,d.ts,g,HH.out,HRK.out.2.1,fun _ h=>h,HGI.out,Nat.le_refl _,aJ.refl _ _⟩
 | false=>
  rw[hgi] at kb
  have kf:w.frozen? ⟨Q,i,none⟩=false:=h.bo.free i
  obtain⟨p,hp⟩:∃p,d.ps[i]?=some p:=⟨_,List.getElem?_eq_getElem HRK.out.2.2.2.1⟩
  obtain⟨w1,hw1⟩:∃w1,w1=w.setCell ⟨Q,i,none⟩ (.bool true):=⟨_,rfl⟩
  have hset:=h.Qo i true
  rw[←hw1] at hset
  have HS1:Hid (aG w0 F (kC Q KB XB NB X n (fun x=>if x=i then true else g x)) d w1∧aJ F F w w1∧w.heap.size≤w1.heap.size):=⟨hset.1,hset.2,by rw[hw1,size_setCell];exact Nat.le_refl _⟩
  have HGI:=aA hgi
  have HO1:Hid (iZ (d.ps.map aW.q) (fun x=>G x∨x=i) (fun x=>if x=i then true else g x) d.ts):=HRK.out.2.1.enter hgi
  have HW1:Hid (w.setCell ⟨Q,i,none⟩ (.bool true)=w1):=hw1.symm
  obtain⟨gp,cp,evp,hc⟩:=hset.1.cells hp
  rw[←HXB.out.2.2] at evp
  obtain⟨j0,j1,j2⟩:=hset.1.uY
  have y5:w1.cell? ⟨X,0+5,none⟩=some (.pointer (some ⟨B,0,none⟩)):=by rw[HXB.out.1,HXB.out.2.1];exact hset.1.iK
  have y6:w1.cell? ⟨B,0,none⟩=some (.slice (some ⟨gp,0,none⟩) n cp):=by rw[HXB.out.2.1,cell_of_row w1 _ _ _ _ (0,0) hset.1.bb,←evp];rfl
  have a0:w1.cell? ⟨gp,i*6,none⟩=some (.string p.op):=hc 0 (by omega)
  have a1:w1.cell? ⟨gp,i*6+1,none⟩=some (.int .i64 p.n):=hc 1 (by omega)
  have a2:w1.cell? ⟨gp,i*6+2,none⟩=some (.slice p.oo p.aF.length p.oc):=hc 2 (by omega)
  have a3:w1.cell? ⟨gp,i*6+3,none⟩=some (.int .i64 p.mem):=hc 3 (by omega)
  have a4:w1.cell? ⟨gp,i*6+4,none⟩=some (.int .i64 p.kind):=hc 4 (by omega)
  have a5:w1.cell? ⟨gp,i*6+5,none⟩=some (.bool p.late):=hc 5 (by omega)
  have hpq:(d.ps.map aW.q)[i]?=some p.q:=by rw[List.getElem?_map,hp];rfl
  have HP:Hid (d.ps[i]?=some p∧dY (d.ps.map aW.q) i=dI p.q∧eZ (d.ps.map aW.q) i=(p.op.data.toList==lK.data.toList)∧d.vp=.slice (some ⟨gp,0,none⟩) n cp):=by
   refine⟨hp,?_,?_,evp⟩
   ·unfold dY;rw[hpq]
   ·unfold eZ;rw[hpq];rfl
  have HND:Hid (Calls Tryz.prog 181 #[.agg #[.string p.op,.int .i64 p.n,.slice p.oo p.aF.length p.oc,.int .i64 p.mem,.int .i64 p.kind,.bool p.late]] w1 fun e w'=>Bw w1 w'∧∃o c,e=.returned (.slice o (dI p.q).length c)∧aB w' F 1 (.slice o (dI p.q).length c) (dI p.q).length (aX (dI p.q))):=Np w1 F p (hset.1.aF p (List.mem_of_getElem? hp)) (HRK.out.1.fb i p.q hpq)
  clear hgi h hset hw1 hp evp hc hpq
  go_enter Tryz.func180,Tryz.ntmps180
  go_upto_region 2 with fail
  rw[HW1.out]
  clear k0 k1 k2 kb kf
  go_wp2_with fail
  refine HND.out.mono ?_
  rintro e w2 ⟨hb2,on,cn,rfl,hrow⟩
  have HS2:Hid (aG w0 F (kC Q KB XB NB X n (fun x=>if x=i then true else g x)) d w2∧aJ F F w w2∧w.heap.size≤w2.heap.size):=⟨HS1.out.1.keep hb2,HS1.out.2.1.trans (jZ hb2) HS1.out.2.2,Nat.le_trans HS1.out.2.2 hb2.size⟩
  have HRW:=aA hrow
  clear hb2 hrow y5 y6 a0 a1 a2 a3 a4 a5 j0 j1 j2 HND
  obtain⟨l,hl⟩:∃l,l=dI p.q:=⟨_,rfl⟩
  rw[←hl] at HRW HP ⊢
  clear hl
  go_wp2
  go_loopw [26] (fun t wr=>∃(j:Nat) (vt:Value) (ts:List Nat) (g':Nat→Bool),j≤l.length∧t=.int .i64 j∧Hid (aG w0 F (kC Q KB XB NB X n g') { d with vt:=vt,ts:=ts } wr∧iZ (d.ps.map aW.q) (fun x=>G x∨x=i) g' ts∧(∀x,(if x=i then true else g x)=true→g' x=true)∧(∀k x,k<j→l[k]?=some x→g' x=true)∧w2.heap.size≤wr.heap.size∧aJ F F w2 wr)) (fun t _=>l.length-(intOf t).toNat)
  case atStart=>exact⟨0,d.vt,d.ts,_,Nat.zero_le _,rfl,HS2.out.1,HO1.out,fun _ h=>h,fun k x hk=>by omega,Nat.le_refl _,aJ.refl _ _⟩
  case round=>
   obtain⟨j,vt,ts,g',hj,rfl,HR⟩:=hrel
   by_cases hjl:j<l.length
   ·obtain⟨x,hx⟩:∃x,l[j]?=some x:=⟨_,List.getElem?_eq_getElem hjl⟩
    obtain⟨b,off,cq,ev,_,_,gg⟩:=(HRW.out.keep HR.out.2.2.2.2.2).at (by rw[HRW.out.1];omega)
    obtain⟨rfl,rfl⟩:on=some ⟨b,off,none⟩∧cn=cq:=by simpa using ev
    have y0:=gg j (.int .i64 (x:Int)) (by unfold aX;rw[List.getElem?_map,lH hx];rfl)
    obtain⟨_,_,j2⟩:=HR.out.1.uY
    have hx2:=HRK.out.1.nd i x (by rw[HP.out.2.1];exact List.mem_of_getElem? hx)
    have hca:=HIH.out.1 rk x (by have:=HIH.out.2;omega) w0 wr F { d with vt:=vt,ts:=ts } Q KB XB NB X n (fun x=>G x∨x=i) g' HXB.out.1 HXB.out.2.2 HR.out.1 HRK.out.1 HR.out.2.1 HRK.out.2.2.1 (by simpa using hx2.1) (fun y hy=>by
     rcases hy with hy | rfl
     ·have:=HRK.out.2.2.2.2 y hy;omega
     ·exact hx2.2)
    have HCA:Hid (Calls Tryz.prog 180 #[.int .i64 (x:Int),.pointer (some ⟨KB,0,none⟩),.pointer (some ⟨XB,0,none⟩),.pointer (some ⟨NB,0,none⟩)] wr fun e w'=>e=.returned (.tuple #[])∧∃vt' ts' g'',aG w0 F (kC Q KB XB NB X n g'') { d with vt:=vt',ts:=ts' } w'∧iZ (d.ps.map aW.q) (fun x=>G x∨x=i) g'' ts'∧(∀x,g' x=true→g'' x=true)∧g'' x=true∧wr.heap.size≤w'.heap.size∧aJ F F wr w'):=hca
    have i0':(0:Int)≤(j:Int):=by omega
    have i1':(j:Int)<(l.length:Int):=by omega
    have HJ:Hid (j<l.length∧l[j]?=some x):=⟨hjl,hx⟩
    have HRR:=HR
    have N4:Hid (wrap64 ((j:Int)+1)=(j:Int)+1):=by have:=HJ.out.1;have hm:=HRW.out.2.1;unfold maxLen at hm;unfold Hid wrap64;omega
    clear ev gg hx hx2 hca hj hjl HR
    go_wp2_with (go_at_call 180;refine HCA.out.mono ?_;rintro e w5 ⟨rfl,vt',ts',g'',hP5,hO5,hg5,hx5,hs5,hst5⟩)
    have HNX:Hid (aG w0 F (kC Q KB XB NB X n g'') { d with vt:=vt',ts:=ts' } w5∧iZ (d.ps.map aW.q) (fun x=>G x∨x=i) g'' ts'∧(∀x,(if x=i then true else g x)=true→g'' x=true)∧(∀k x,k<j+1→l[k]?=some x→g'' x=true)∧w2.heap.size≤w5.heap.size∧aJ F F w2 w5):=by
     obtain⟨_,_,h3,h4,h5,h6⟩:=HRR.out
     refine⟨hP5,hO5,fun x hx=>hg5 _ (h3 x hx),fun k y hk hy=>?_,Nat.le_trans h5 hs5,h6.trans hst5 h5⟩
     by_cases e:k=j
     ·subst e
      rw[HJ.out.2] at hy
      rw[←Option.some.inj hy]
      exact hx5
     ·exact hg5 _ (h4 k y (by omega) hy)
    clear hP5 hO5 hg5 hx5 hs5 hst5 y0 j2 HCA
    exact⟨⟨j+1,vt',ts',g'',HJ.out.1,by rw[N4.out];rfl,HNX.out⟩,by rw[N4.out];have:=HJ.out.1;simp [intOf];omega⟩
   ·obtain rfl:l.length=j:=by omega
    obtain⟨hP6,hO6,hg6,hk6,hs6,hst6⟩:=HR.out
    have HP6:Hid (aG w0 F (kC Q KB XB NB X n g') { d with vt:=vt,ts:=ts } wr∧w.heap.size≤wr.heap.size∧aJ F F w wr):=⟨hP6,Nat.le_trans HS2.out.2.2 hs6,HS2.out.2.1.trans hst6 HS2.out.2.2⟩
    have HO6:Hid (iZ (d.ps.map aW.q) (fun x=>G x∨x=i) g' ts∧(∀x,g x=true→g' x=true)∧g' i=true∧∀x∈dY (d.ps.map aW.q) i,g' x=true):=by
     refine⟨hO6,fun x hx=>hg6 x ?_,hg6 i (by rw[if_pos rfl]),fun x hx=>?_⟩
     ·split
      ·rfl
      ·exact hx
     ·rw[HP.out.2.1] at hx
      obtain⟨k,hk⟩:=List.mem_iff_getElem?.1 hx
      exact hk6 k x (bA hk).1 hk
    obtain⟨_,xb,_⟩:=hP6.uY
    have y5:wr.cell? ⟨X,0+5,none⟩=some (.pointer (some ⟨B,0,none⟩)):=by rw[HXB.out.1,HXB.out.2.1];exact hP6.iK
    have y6:wr.cell? ⟨B,0,none⟩=some (.slice (some ⟨gp,0,none⟩) n cp):=by rw[HXB.out.2.1,←HP.out.2.2.2,cell_of_row wr _ _ _ _ (0,0) hP6.bb];rfl
    obtain⟨gp',cp',evp',hc⟩:=hP6.cells (i:=i) (p:=p) HP.out.1
    obtain rfl:gp=gp':=by
     have e1:d.vp=_:=evp'
     rw[HP.out.2.2.2] at e1
     simpa using (Value.slice.inj e1).1
    have a0:wr.cell? ⟨gp,i*6,none⟩=some (.string p.op):=hc 0 (by omega)
    have i1':(i:Int)<(n:Int):=by have:=HRK.out.2.2.2.1;have:=HXB.out.2.2;omega
    clear hj hjl HR hP6 hO6 hg6 hk6 hs6 hst6 evp' hc
    by_cases hin:p.op.data.toList=lK.data.toList
    ·have dn:(p.op.toList==[105,110,112,117,116])=true:=by rw[ByteArray.toList_eq,hin];rfl
     have dn2:(p.op.toList != [105,110,112,117,116])=false:=by rw[ByteArray.toList_eq,hin];rfl
     have HIN:Hid (eZ (d.ps.map aW.q) i=true):=by unfold Hid;rw[HP.out.2.2.1,hin];simp
     clear hin
     go_wp2
     go_end0
     exact⟨rfl,vt,ts,g',HP6.out.1,HO6.out.1.leave HIN.out,HO6.out.2.1,HO6.out.2.2.1,HP6.out.2⟩
    ·have dn:(p.op.toList==[105,110,112,117,116])=false:=by rw[ByteArray.toList_eq];exact beq_eq_false_iff_ne.2 hin
     have dn2:(p.op.toList != [105,110,112,117,116])=true:=by rw[ByteArray.toList_eq];exact bne_iff_ne.2 hin
     have HIN:Hid (eZ (d.ps.map aW.q) i=false):=by unfold Hid;rw[HP.out.2.2.1];exact beq_eq_false_iff_ne.2 hin
     clear hin
     have HTL:Hid (ts.length+1≤maxLen∧(ts.length+1)*8≤140737488355328):=by
      have h1:=HO6.out.1.len
      rw[List.length_map] at h1
      have:=HRK.out.2.2.1
      unfold Hid maxLen
      omega
     go_upto_region 8 with fail
     clear a0 y6 dn dn2
     have z1:wr.drew.cell? ⟨XB,0,none⟩=some (.pointer (some ⟨X,0,none⟩)):=xb
     have z5:wr.drew.cell? ⟨X,0+5,none⟩=some (.pointer (some ⟨B,0,none⟩)):=y5
     have zb:wr.drew.cell? ⟨B,0+2,none⟩=some vt:=by rw[HXB.out.2.1,cell_of_row wr.drew _ _ _ _ (0,0) (HP6.out.1.keep (Below.refl _ _).drew).bb];rfl
     refine fI 16 (fun w'=>w'.cell? ⟨XB,0,none⟩=some (.pointer (some ⟨X,0,none⟩))∧w'.cell? ⟨X,0+5,none⟩=some (.pointer (some ⟨B,0,none⟩))) (fun w'=>w'.cell? ⟨B,0+2,none⟩=some vt) (by kernel_rfl) ⟨z1,z5⟩ zb (fun hh=>?_)
     refine tj 0 46 (.pointer (some ⟨X,0,none⟩)) rfl (by rintro w ⟨b1,b5⟩;go_simp) hh ?_
     refine tj 1 47 (.pointer (some ⟨X,0,none⟩)) rfl (by rintro w ⟨b1,b5⟩;go_simp) hh ?_
     refine tj 2 48 (.pointer (some ⟨X,5,none⟩)) rfl (by rintro w ⟨b1,b5⟩;go_simp) hh ?_
     refine tj 3 49 (.pointer (some ⟨B,0,none⟩)) rfl (by rintro w ⟨b1,b5⟩;go_simp) hh ?_
     refine tj 4 50 (.pointer (some ⟨X,0,none⟩)) rfl (by rintro w ⟨b1,b5⟩;go_simp) hh ?_
     refine tj 5 51 (.pointer (some ⟨X,0,none⟩)) rfl (by rintro w ⟨b1,b5⟩;go_simp) hh ?_
     refine tj 6 52 (.pointer (some ⟨X,5,none⟩)) rfl (by rintro w ⟨b1,b5⟩;go_simp) hh ?_
     refine tj 7 53 (.pointer (some ⟨B,0,none⟩)) rfl (by rintro w ⟨b1,b5⟩;go_simp) hh ?_
     refine tj 8 54 (.pointer (some ⟨B,0,none⟩)) rfl (by rintro w ⟨b1,b5⟩;go_simp) hh ?_
     refine tj 9 55 (.pointer (some ⟨B,2,none⟩)) rfl (by rintro w ⟨b1,b5⟩;go_simp) hh ?_
     refine oU 13 (i:=10) (oi:=⟨some 56,_,_,_,_,_⟩) (v:=vt) rfl rfl (by kernel_rfl) (by kernel_rfl) (by kernel_rfl) (by kernel_rfl) (by kernel_rfl) (by kernel_rfl) (by kernel_rfl) (fun _ _ _ h=>h) (Or.inl ⟨by rfl,?_⟩) hh ?_
     ·intro w hSw;(try dsimp only at hSw);go_simp
     try simp only[tp]
     refine tj 11 57 (.int .i64 (i:Nat)) rfl (by rintro w ⟨b1,b5⟩;go_simp) hh ?_
     refine aS 12 (some 58) rfl fun K hK=>?_
     go_simp
     obtain⟨wA,hwA⟩:∃wA,wA=(wr.alloc (.cells #[.int .i64 (i:Int)] 3)).drew:=⟨_,rfl⟩
     obtain⟨P,hPP⟩:∃P,P=wr.heap.size:=⟨_,rfl⟩
     have hbA:Bw wr wA:=by rw[hwA];exact(aH).drew
     have HPA:Hid (aG w0 F (kC Q KB XB NB X n g') { d with vt:=vt,ts:=ts } wA):=HP6.out.1.keep hbA
     have HNA:Hid (∀q y,[Value.int .i64 (i:Int)][q]?=some y→wA.cell? ((⟨P,0,none⟩:Addr).add q)=some y):=by unfold Hid;rw[hwA,hPP];exact World.news_of_block (heap_alloc_new wr _)
     have HSA:Hid ((wA.cell? ⟨XB,0,none⟩=some (.pointer (some ⟨X,0,none⟩))∧wA.cell? ⟨X,0+5,none⟩=some (.pointer (some ⟨B,0,none⟩)))∧wA.cell? ⟨B,0+2,none⟩=some vt):=⟨⟨aD hbA xb,aD hbA y5⟩,aD hbA zb⟩
     have HSTA:Hid (aJ F F w wA∧w.heap.size≤wA.heap.size):=⟨HP6.out.2.2.trans (jZ hbA) HP6.out.2.1,Nat.le_trans HP6.out.2.1 hbA.size⟩
     rw[←hwA,←hPP]
     refine hK.out _ _ ⟨HSA.out.1,fun _=>HSA.out.2⟩ (fun hh=>?_)
     clear hK K hwA hbA hPP z1 z5 zb xb y5
     try simp only[tp]
     refine aS 13 (some 59) rfl fun K hK=>?_
     refine step_append_lies _ rfl (.tmp 56) (.tmp 58) 30 rfl w0.heap.size 3 i0 _ 1 8 Tryz.underlying30 hi0 hz0 hz1 hz2 rfl (by omega) vt ts.length _ (by simp [Act.eval]) HPA.out.Dq ⟨P,0,none⟩ 1 1 [.int .i64 (i:Int)] (by simp [Act.eval]) rfl HNA.out (by simp [Value.oneCell']) (by omega) HTL.out.1 HTL.out.2 HPA.out.sep.base _ rfl ?_
     intro gg cap w7 hown7 hgrow hat hlt7
     have hkp0:=HPA.out.turn (x:=i) (g:=gg) (cap:=cap) (w':=w7) hown7 hgrow hat
     have hvX:vt.ownBlock≠some X:=by rw[HXB.out.1];exact HPA.out.ne (i:=0) (j:=7) (by decide) rfl rfl rfl
     have hvB:vt.ownBlock≠some B:=by rw[HXB.out.2.1];exact HPA.out.ne (i:=1) (j:=7) (by decide) rfl rfl rfl
     have hvD:vt.ownBlock≠some XB:=HPA.out.ne (i:=12) (j:=7) (by decide) rfl rfl rfl
     have hx7:=gT hgrow hvX (by rw[HXB.out.1];exact HPA.out.xb)
     have hb7:=gT hgrow hvB (by rw[HXB.out.2.1];exact HPA.out.bb)
     have hd7:=gT hgrow hvD (HPA.out.sep.is 12 _ rfl)
     have HS7:Hid (w7.cell? ⟨XB,0,none⟩=some (.pointer (some ⟨X,0,none⟩))∧w7.cell? ⟨X,0+5,none⟩=some (.pointer (some ⟨B,0,none⟩))):=⟨cr hd7 rfl,by rw[cell_of_row w7 _ _ _ _ (0,0) hx7,HXB.out.2.1];rfl⟩
     have bc7:w7.cell? ⟨B,0+2,none⟩=some vt:=cr hb7 rfl
     have fz7:w7.frozen? ⟨B,0+2,none⟩=false:=bR hb7
     refine hK.out _ _ ⟨HS7.out,fun _=>bc7⟩ (fun hh=>?_)
     clear hK K
     try simp only[tp]
     refine tk 14 60 (.pointer (some ⟨B,0,none⟩)) rfl (.inl ⟨by rfl,?_⟩) hh ?_
     ·intro w hSw;(try dsimp only at hSw);go_simp
     try simp only[tp]
     refine tk 15 61 (.pointer (some ⟨B,2,none⟩)) rfl (.inl ⟨by rfl,?_⟩) hh ?_
     ·intro w hSw;(try dsimp only at hSw);go_simp
     try simp only[tp]
     refine aS 16 none rfl fun K hK=>?_
     go_simp
     obtain⟨w9,hw9⟩:∃w9,w9=w7.setCell ⟨B,2,none⟩ (.slice (some ⟨gg,0,none⟩) (ts.length+1) cap):=⟨_,rfl⟩
     rw[←hw9]
     have hkp:aG w0 F (kC Q KB XB NB X n g') { d with vt:=.slice (some ⟨gg,0,none⟩) (ts.length+1) cap,ts:=ts++[i] } w9∧aJ F F wA w9∧wA.heap.size≤w9.heap.size:=by
      rw[hw9,HXB.out.2.1]
      exact hkp0
     have HE:Hid (aG w0 F (kC Q KB XB NB X n g') { d with vt:=.slice (some ⟨gg,0,none⟩) (ts.length+1) cap,ts:=ts++[i] } w9∧iZ (d.ps.map aW.q) G g' (ts++[i])∧w.heap.size≤w9.heap.size∧aJ F F w w9):=
      ⟨hkp.1,HO6.out.1.push HRK.out.1 (by rw[List.length_map];exact HRK.out.2.2.2.1) HRK.out.2.2.2.2 HO6.out.2.2.1 HIN.out HO6.out.2.2.2,Nat.le_trans HSTA.out.2 hkp.2.2,HSTA.out.1.trans hkp.2.1 HSTA.out.2⟩
     have hs9:w9.cell? ⟨XB,0,none⟩=some (.pointer (some ⟨X,0,none⟩))∧w9.cell? ⟨X,0+5,none⟩=some (.pointer (some ⟨B,0,none⟩)):=⟨hkp.1.uY.2.1,by rw[HXB.out.1,HXB.out.2.1];exact hkp.1.iK⟩
     refine hK.out _ _ (Till.last hs9) (fun hh=>?_)
     clear hK K
     try simp only[tp]
     refine dU (by kernel_rfl) ?_ _
     clear hkp hkp0 hvX hvB hvD hx7 hb7 hd7 bc7 fz7 hw9 hs9 hown7 hgrow hat hlt7 hh
     go_wp2
     go_end0
     exact⟨rfl,_,_,g',HE.out.1,HE.out.2.1,HO6.out.2.1,HO6.out.2.2.1,HE.out.2.2⟩
theorem EU:∀m:Nat,Az m
 | 0=>fun _ _ h=>absurd h (Nat.not_lt_zero _)
 | m+1=>Ns (EU m)

structure jV(qs:List Pq)(ts:List Nat):Prop where
 nd:ts.Nodup
 t:∀x∈ts,x<qs.length∧eZ qs x=false
 all:∀x,x<qs.length→eZ qs x=true∨x∈ts
 o:∀(a:List Nat) (x:Nat) (b:List Nat),ts=a++x::b→∀n∈dY qs x,eZ qs n=true∨n∈a
theorem Qp(n:Nat):((List.range n).map fun _=>Value.bool false).toArray=Array.replicate n (.bool false):=by
 apply Array.toList_inj.1
 apply List.ext_getElem?
 intro j
 simp only[Array.toList_replicate,List.getElem?_replicate,List.getElem?_map]
 by_cases hj:j<n
 ·simp [hj]
 ·simp [hj]
theorem aG.Pz{w0 w1:World}{F:Nat→Prop}{d:aK}{XB X n:Nat}(h:aG w0 F [aP XB (.cells #[.pointer (some ⟨X,0,none⟩)] 237 (0,0))] d w1)(w3:World)(hw:w3=((w1.alloc (.cells (Array.replicate n (.bool false)) 4)).alloc (.cells #[.slice (some ⟨w1.heap.size,0,none⟩) n n] 103)).alloc (.cells #[.func (.func 180) #[] #[.pointer (some ⟨w1.heap.size+1,0,none⟩),.pointer (some ⟨XB,0,none⟩),.pointer (some ⟨w1.heap.size+1+1,0,none⟩)]] 276)):aG w0 F (kC w1.heap.size (w1.heap.size+1) XB (w1.heap.size+1+1) X n fun _=>false) d w3∧aJ F F w1 w3∧w1.heap.size≤w3.heap.size:=by
 obtain⟨wa,hwa⟩:∃wa,wa=w1.alloc (.cells (Array.replicate n (.bool false)) 4):=⟨_,rfl⟩
 obtain⟨wb,hwb⟩:∃wb,wb=wa.alloc (.cells #[.slice (some ⟨w1.heap.size,0,none⟩) n n] 103):=⟨_,rfl⟩
 obtain⟨wc,hwc⟩:∃wc,wc=wb.alloc (.cells #[.func (.func 180) #[] #[.pointer (some ⟨w1.heap.size+1,0,none⟩),.pointer (some ⟨XB,0,none⟩),.pointer (some ⟨w1.heap.size+1+1,0,none⟩)]] 276):=⟨_,rfl⟩
 have ea:wa.heap.size=w1.heap.size+1:=by rw[hwa];simp
 have eb:wb.heap.size=w1.heap.size+1+1:=by rw[hwb];simp [ea]
 have s1:=Sep.alloc (l1:=d.own w0.heap.size) h.sep (Array.replicate n (.bool false)) 4
 rw[←hwa] at s1
 have s2:=Sep.alloc (l1:=d.own w0.heap.size++[aP w1.heap.size (.cells (Array.replicate n (.bool false)) 4 (0,0))]) (l2:=[aP XB (.cells #[.pointer (some ⟨X,0,none⟩)] 237 (0,0))]) (by rw[List.append_assoc];exact s1) #[.slice (some ⟨w1.heap.size,0,none⟩) n n] 103
 rw[←hwb,ea] at s2
 have s3:=Sep.alloc (l1:=d.own w0.heap.size++[aP w1.heap.size (.cells (Array.replicate n (.bool false)) 4 (0,0)),aP (w1.heap.size+1) (.cells #[.slice (some ⟨w1.heap.size,0,none⟩) n n] 103 (0,0)),aP XB (.cells #[.pointer (some ⟨X,0,none⟩)] 237 (0,0))]) (l2:=[]) (by rw[List.append_nil];rw[List.append_assoc] at s2;exact s2) #[.func (.func 180) #[] #[.pointer (some ⟨w1.heap.size+1,0,none⟩),.pointer (some ⟨XB,0,none⟩),.pointer (some ⟨w1.heap.size+1+1,0,none⟩)]] 276
 rw[←hwc,eb,List.append_assoc] at s3
 have hba:Bw w1 wa:=by rw[hwa];exact aH
 have hbb:Bw wa wb:=by rw[hwb];exact aH
 have hbc:Bw wb wc:=by rw[hwc];exact aH
 have hb:Bw w1 wc:=hba.trans ((hbb.trans (hbc.mono hbb.size)).mono hba.size)
 rw[←hwa,←hwb,←hwc] at hw
 have hst:aJ F F w1 w3:=by rw[hw];exact jZ hb
 refine⟨⟨?_,h.aF.keep hst,?_⟩,hst,by rw[hw];exact hb.size⟩
 ·rw[hw]
  have e:kC w1.heap.size (w1.heap.size+1) XB (w1.heap.size+1+1) X n (fun _=>false)=[aP w1.heap.size (.cells (Array.replicate n (.bool false)) 4 (0,0)),aP (w1.heap.size+1) (.cells #[.slice (some ⟨w1.heap.size,0,none⟩) n n] 103 (0,0)),aP XB (.cells #[.pointer (some ⟨X,0,none⟩)] 237 (0,0)),aP (w1.heap.size+1+1) (.cells #[.func (.func 180) #[] #[.pointer (some ⟨w1.heap.size+1,0,none⟩),.pointer (some ⟨XB,0,none⟩),.pointer (some ⟨w1.heap.size+1+1,0,none⟩)]] 276 (0,0))]:=by unfold kC rA;rw[Qp]
  rw[e]
  exact s3
 ·rw[hw]
  exact h.below.trans (hb.mono h.below.size)
theorem LD(w0 w:World)(F:Nat→Prop)(d:aK)(X:Nat)(hX:X=d.X)(h:aG w0 F [] d w)(rk:Nat→Nat)(hrk:tJ (d.ps.map aW.q) rk)(hts:d.ts=[])(hps:d.ps.length≤50000) :
  Calls Tryz.prog 145 #[.pointer (some ⟨X,0,none⟩)] w fun e w'=>e=.returned (.tuple #[])∧w.heap.size≤w'.heap.size∧∃vt ts,aG w0 F [] { d with vt:=vt,ts:=ts } w'∧jV (d.ps.map aW.q) ts∧aJ F F w w':=by
 obtain⟨B,hB⟩:∃B,B=d.B:=⟨_,rfl⟩
 obtain⟨n,hn⟩:∃n,n=d.ps.length:=⟨_,rfl⟩
 have HXB:Hid (X=d.X∧B=d.B∧n=d.ps.length):=⟨hX,hB,hn⟩
 have HH:=aA h
 have HRK:Hid (tJ (d.ps.map aW.q) rk∧d.ts=[]∧d.ps.length≤50000):=⟨hrk,hts,hps⟩
 obtain⟨o,c,hvp,_⟩:=q9 h.parts
 rw[←hn] at hvp
 have HVP:=aA hvp
 obtain⟨w1,hw1⟩:∃w1,w1=w.alloc (.cells #[.pointer (some ⟨X,0,none⟩)] 237):=⟨_,rfl⟩
 obtain⟨XB,hXBB⟩:∃XB,XB=w.heap.size:=⟨_,rfl⟩
 have hb1:Bw w w1:=by rw[hw1];exact aH
 have HP1:Hid (aG w0 F [aP XB (.cells #[.pointer (some ⟨X,0,none⟩)] 237 (0,0))] d w1∧aJ F F w w1∧w.heap.size≤w1.heap.size):=by rw[hw1,hXBB];exact⟨h.push _ _,jZ (aH),by simp⟩
 have x1:w1.cell? ⟨XB,0,none⟩=some (.pointer (some ⟨X,0,none⟩)):=cr HP1.out.1.top rfl
 have x5:w1.cell? ⟨X,0+5,none⟩=some (.pointer (some ⟨B,0,none⟩)):=by rw[hX,hB];exact HP1.out.1.iK
 have b0:w1.cell? ⟨B,0,none⟩=some (.slice o n c):=by rw[hB,cell_of_row _ _ _ _ _ (0,0) HP1.out.1.bb,←hvp];rfl
 have HW1:Hid (w.alloc (.cells #[.pointer (some ⟨X,0,none⟩)] 237)=w1∧w.heap.size=XB):=⟨hw1.symm,hXBB.symm⟩
 have hmk:=sH Tryz.underlying103 Tryz.F4 rfl n (by omega) (by omega)
 clear h hrk hts hps hX hB hn hvp hb1 hw1 hXBB
 go_enter Tryz.func145,Tryz.ntmps145
 go_upto_region 1 with fail
 rw[HW1.out.1,HW1.out.2]
 obtain⟨w3,hw3⟩:∃w3,w3=((w1.alloc (.cells (Array.replicate n (.bool false)) 4)).alloc (.cells #[.slice (some ⟨w1.heap.size,0,none⟩) n n] 103)).alloc (.cells #[.func (.func 180) #[] #[.pointer (some ⟨w1.heap.size+1,0,none⟩),.pointer (some ⟨XB,0,none⟩),.pointer (some ⟨w1.heap.size+1+1,0,none⟩)]] 276):=⟨_,rfl⟩
 have hm:=HP1.out.1.Pz (n:=n) w3 hw3
 obtain⟨Q,hQ⟩:∃Q,Q=w1.heap.size:=⟨_,rfl⟩
 obtain⟨KB,hKB⟩:∃KB,KB=w1.heap.size+1:=⟨_,rfl⟩
 obtain⟨NB,hNB⟩:∃NB,NB=w1.heap.size+1+1:=⟨_,rfl⟩
 rw[←hNB,←hKB,←hQ] at hm
 have HP3:Hid (aG w0 F (kC Q KB XB NB X n fun _=>false) d w3∧aJ F F w w3∧w.heap.size≤w3.heap.size):=⟨hm.1,HP1.out.2.1.trans hm.2.1 HP1.out.2.2,Nat.le_trans HP1.out.2.2 (by rw[←hQ];exact hm.2.2)⟩
 have HW3:Hid (((w1.alloc (.cells (Array.replicate n (.bool false)) 4)).alloc (.cells #[.slice (some ⟨w1.heap.size,0,none⟩) n n] 103)).alloc (.cells #[.func (.func 180) #[] #[.pointer (some ⟨w1.heap.size+1,0,none⟩),.pointer (some ⟨XB,0,none⟩),.pointer (some ⟨w1.heap.size+1+1,0,none⟩)]] 276)=w3∧w1.heap.size+1+1=NB):=⟨hw3.symm,hNB.symm⟩
 clear hm hQ hKB hNB hw3
 go_upto_region 4 with fail
 rw[HW3.out.1,HW3.out.2]
 clear hmk x1 x5 b0
 obtain⟨_,x1,_⟩:=HP3.out.1.uY
 have x5:w3.cell? ⟨X,0+5,none⟩=some (.pointer (some ⟨B,0,none⟩)):=by rw[HXB.out.1,HXB.out.2.1];exact HP3.out.1.iK
 have b0:w3.cell? ⟨B,0,none⟩=some (.slice o n c):=by rw[HXB.out.2.1,cell_of_row _ _ _ _ _ (0,0) HP3.out.1.bb,←HVP.out];rfl
 go_wp2
 clear x1 x5 b0
 go_loopw [23] (fun t wr=>∃(j:Nat) (vt:Value) (ts:List Nat) (g:Nat→Bool),j≤n∧t=.int .i64 j∧Hid (aG w0 F (kC Q KB XB NB X n g) { d with vt:=vt,ts:=ts } wr∧iZ (d.ps.map aW.q) (fun _=>False) g ts∧(∀k,k<j→g k=true)∧w.heap.size≤wr.heap.size∧aJ F F w wr)) (fun t _=>n-(intOf t).toNat)
 case atStart=>exact⟨0,d.vt,d.ts,_,Nat.zero_le _,rfl,HP3.out.1,by rw[HRK.out.2.1];exact⟨List.nodup_nil,fun x hx=>(by cases hx),fun x _ hx=>(by cases hx),fun a x b h=>by cases a<;>cases h⟩,fun k hk=>by omega,HP3.out.2.2,HP3.out.2.1⟩
 case round=>
  obtain⟨j,vt,ts,g,hj,rfl,HR⟩:=hrel
  by_cases hjl:j<n
  ·obtain⟨_,_,j2⟩:=HR.out.1.uY
   have hca:=EU (rk j+1) rk j (Nat.lt_succ_self _) w0 wr F { d with vt:=vt,ts:=ts } Q KB XB NB X n (fun _=>False) g HXB.out.1 HXB.out.2.2 HR.out.1 HRK.out.1 HR.out.2.1 HRK.out.2.2 (by have:=HXB.out.2.2;show j<d.ps.length;omega) (fun _ h=>h.elim)
   have HCA:Hid (Calls Tryz.prog 180 #[.int .i64 (j:Int),.pointer (some ⟨KB,0,none⟩),.pointer (some ⟨XB,0,none⟩),.pointer (some ⟨NB,0,none⟩)] wr fun e w'=>e=.returned (.tuple #[])∧∃vt' ts' g'',aG w0 F (kC Q KB XB NB X n g'') { d with vt:=vt',ts:=ts' } w'∧iZ (d.ps.map aW.q) (fun _=>False) g'' ts'∧(∀x,g x=true→g'' x=true)∧g'' j=true∧wr.heap.size≤w'.heap.size∧aJ F F wr w'):=hca
   have HJ:=aA hjl
   have HRR:=HR
   have N4:Hid (wrap64 ((j:Int)+1)=(j:Int)+1):=by have:=HJ.out;have:=HRK.out.2.2;have:=HXB.out.2.2;unfold Hid wrap64;omega
   clear hca hj hjl HR
   go_wp2_with (go_at_call 180;refine HCA.out.mono ?_;rintro e w5 ⟨rfl,vt',ts',g'',hP5,hO5,hg5,hx5,hs5,hst5⟩)
   have HNX:Hid (aG w0 F (kC Q KB XB NB X n g'') { d with vt:=vt',ts:=ts' } w5∧iZ (d.ps.map aW.q) (fun _=>False) g'' ts'∧(∀k,k<j+1→g'' k=true)∧w.heap.size≤w5.heap.size∧aJ F F w w5):=by
    obtain⟨_,_,h3,h4,h5⟩:=HRR.out
    refine⟨hP5,hO5,fun k hk=>?_,Nat.le_trans h4 hs5,h5.trans hst5 h4⟩
    by_cases e:k=j
    ·subst e;exact hx5
    ·exact hg5 _ (h3 k (by omega))
   clear hP5 hO5 hg5 hx5 hs5 hst5 j2 HCA
   exact⟨⟨j+1,vt',ts',g'',HJ.out,by rw[N4.out];rfl,HNX.out⟩,by rw[N4.out];have:=HJ.out;simp [intOf];omega⟩
  ·obtain rfl:n=j:=by omega
   have HE:Hid (w.heap.size≤wr.heap.size∧aG w0 F [] { d with vt:=vt,ts:=ts } wr∧jV (d.ps.map aW.q) ts∧aJ F F w wr):=by
    obtain⟨h1,h2,h3,h4,h5⟩:=HR.out
    refine⟨h4,h1.pop.pop.pop.pop,⟨h2.nd,fun x hx=>⟨(h2.t x hx).1,(h2.t x hx).2.1⟩,fun x hx=>?_,h2.o⟩,h5⟩
    rcases h2.k x hx (h3 x (by rw[List.length_map] at hx;have:=HXB.out.2.2;omega)) with h | h | h
    ·exact h.elim
    ·exact .inl h
    ·exact .inr h
   clear hj hjl HR
   go_wp2
   go_end0
   exact⟨rfl,HE.out.1,vt,ts,HE.out.2⟩
end Go.Proofs.YtmgfakcccfahaaaGreatDoor
