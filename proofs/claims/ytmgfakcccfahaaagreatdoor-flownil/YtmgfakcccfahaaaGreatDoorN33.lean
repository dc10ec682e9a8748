/-
  package plan: kindsOf BY CONTRACT, of a program that is right: the kinds of its inputs, and of all parts of its terms.
-/
import Derived.Test.YtmgfakcccfahaaaGreatDoorN32
namespace Go.Proofs.YtmgfakcccfahaaaGreatDoor
open Go.RowKit Go.Maps
set_option maxRecDepth 100000
set_option maxHeartbeats 4000000

mutual
theorem Jp{kd:List UInt8→Option Int}:∀(e:Ex) {k:Int} {ps:List Int},o9 kd e→cO kd e=some (k,ps)→ps.length=aL e
 | .mk op n s l,k,ps,ho,h=>by
  unfold o9 at ho
  obtain⟨_,_,_,hc,hl⟩:=ho
  unfold cO at h
  unfold aL
  by_cases hn:op.data.toList=bS
  ·rw[if_pos hn] at h hc
   rw[hc.2]
   cases hk:kd s.data.toList with
   | none=>rw[hk] at h;cases h
   | some q=>
    rw[hk] at h
    obtain⟨_,rfl⟩:q=k∧[q]=ps:=by simpa using h
    simp [aC]
  ·rw[if_neg hn] at h
   cases ht:aR kd l with
   | none=>rw[ht] at h;cases h
   | some r=>
    obtain⟨ks,qs⟩:=r
    rw[ht] at h
    simp only at h
    cases hk:oJ op.data.toList ks with
    | none=>rw[hk] at h;cases h
    | some q=>
     rw[hk] at h
     obtain⟨_,rfl⟩:q=k∧qs++[q]=ps:=by simpa using h
     have:=AY l hl ht
     rw[List.length_append,this,List.length_singleton]
theorem AY{kd:List UInt8→Option Int}:∀(l:List Ex) {ks ps:List Int},iV kd l→aR kd l=some (ks,ps)→ps.length=aC l
 | [],ks,ps,_,h=>by
  unfold aR at h
  obtain⟨_,rfl⟩:[]=ks∧[]=ps:=by simpa using h
  simp [aC]
 | e::es,ks,ps,ho,h=>by
  unfold iV at ho
  unfold aR at h
  cases he:cO kd e with
  | none=>rw[he] at h;cases h
  | some r=>
   obtain⟨k,q1⟩:=r
   rw[he] at h
   simp only at h
   cases ht:aR kd es with
   | none=>rw[ht] at h;cases h
   | some r2=>
    obtain⟨ks',q2⟩:=r2
    rw[ht] at h
    obtain⟨_,rfl⟩:k::ks'=ks∧q1++q2=ps:=by simpa using h
    have h1:=Jp e ho.1 he
    have h2:=AY es ho.2 ht
    rw[List.length_append,h1,h2]
    simp [aC]
end
def cK(f:List UInt8→Option Int)(l:List (ByteArray×Int)):List UInt8→Option Int:=l.foldl bI f
theorem xQ:∀{l:List (ByteArray×Int)} {f g:List UInt8→Option Int},fG f l=some g→g=cK f l
 | [],f,g,h=>by
  obtain rfl:f=g:=by simpa [fG] using h
  rfl
 | v::l,f,g,h=>by
  unfold fG at h
  split at h
  ·cases h
  ·have:=xQ (l:=l) (f:=bI f v) h
   exact this
theorem vS{f:List UInt8→Option Int}{l:List (ByteArray×Int)}{j:Nat}{v:ByteArray×Int}(h:l[j]?=some v):cK f (l.take (j+1))=bI (cK f (l.take j)) v:=by
 unfold cK
 rw[List.take_add_one,h,List.foldl_append]
 rfl
theorem QL{w:World}{base n:Nat}{v:Value}{xs:List Value}(hown:w.ownsRow base 3 1 v n xs)(p:Option Addr)(c:Nat)(ty:TypeId) :
  (Builtin.append_ #[30,30] ty #[v,.slice p 0 c]).run Tryz.prog w=.ok v w:=by
 obtain⟨i0,hi0,hz0,hz1,hz2⟩:=info_parts Tryz.kT
 have ht:=Tryz.underlying30
 rcases hown.2 with⟨rfl,rfl⟩ | ⟨g,cap,cur,rfl,_,_,hnc,_⟩
 ·cases p<;>simp [Builtin.append_,run_underlying ht,sizeOf,typeInfo,hi0,Builtin.lenOf,Builtin.firstCells,loadCells,loadCellsFrom]
 ·cases p<;>simp [Builtin.append_,run_underlying ht,sizeOf,typeInfo,hi0,Builtin.lenOf,Builtin.firstCells,hnc,loadCells,loadCellsFrom,storeCells]
theorem En{w:World}{base n:Nat}{o:Option Addr}{c:Nat}{l:List Int}(h:w.ownsRow base 3 1 (.slice o n c) n (l.map (Value.int .i64)))(hn:l.length=n)(hm:n≤maxLen):dP w (.slice o n c) l:=by
 subst hn
 refine⟨hm,o,c,rfl,fun k x hk=>?_⟩
 have hlt:=(bA hk).1
 obtain⟨g,cap,e,_,_⟩:=h.form (by omega)
 obtain⟨rfl,rfl⟩:o=some ⟨g,0,none⟩∧c=cap:=by simpa using e
 have hadd':∀j,(⟨g,0,none⟩:Addr).add j=⟨g,0+j,none⟩:=fun j=>by unfold Addr.add;split<;>simp_all
 refine⟨g,0,rfl,?_⟩
 rw[←hadd']
 exact h.cells (g:=g) rfl k _ (by simp [hk])
structure fP(w0:World)(K nK:Nat)(f:List UInt8→Option Int)(v:Value)(ks:List Int)(u:Value)(m:Nat)(cs:List Value)(wr:World):Prop where
 sep:Sep wr w0.heap.size (fun _=>False) [lF K nK (aY f),dH w0.heap.size 3 1 v ks.length (fK ks),dH w0.heap.size 92 4 u m cs]
 below:Bw w0 wr
section
variable {w0 wr w':World} {K nK:Nat} {f:List UInt8→Option Int} {v:Value} {ks:List Int} {u:Value} {m:Nat} {cs:List Value}
theorem fP.keep(h:fP w0 K nK f v ks u m cs wr)(hb:Bw wr w'):fP w0 K nK f v ks u m cs w':=⟨h.sep.keep hb,h.below.trans (hb.mono h.below.size)⟩
theorem fP.fn(h:fP w0 K nK f v ks u m cs wr):aO wr K nK (aY f):=h.sep.is 0 _ rfl
theorem fP.ints(h:fP w0 K nK f v ks u m cs wr):wr.ownsRow w0.heap.size 3 1 v ks.length (fK ks):=h.sep.is 1 _ rfl
theorem fP.terms(h:fP w0 K nK f v ks u m cs wr):wr.ownsRow w0.heap.size 92 4 u m cs:=h.sep.is 2 _ rfl
theorem fP.name(h:fP w0 K nK f v ks u m cs wr){s:ByteArray×Int}(hf:aO w' K (nK+1) (aY (bI f s)))(hg:wr.grownBy w' (some K)):fP w0 K (nK+1) (bI f s) v ks u m cs w':=
 ⟨h.sep.step (i:=0) (c:=lF K nK (aY f)) (c':=lF K (nK+1) (aY (bI f s))) rfl hg hf (fun _ hq=>.inl hq),h.sep.below (i:=0) (c:=lF K nK (aY f)) rfl hg h.below⟩
theorem fP.kind(h:fP w0 K nK f v ks u m cs wr){k:Int}{g cap:Nat}(ho:w'.ownsRow w0.heap.size 3 1 (.slice (some ⟨g,0,none⟩) (ks.length+1) cap) (ks.length+1) (fK ks++[.int .i64 k]))(hg:wr.grownBy w' v.ownBlock)(ha:v.ownBlock=some g∨g=wr.heap.size):fP w0 K nK f (.slice (some ⟨g,0,none⟩) (ks.length+1) cap) (ks++[k]) u m cs w':=by
 refine⟨?_,h.sep.below (i:=1) rfl hg h.below⟩
 have:=h.sep.grow (i:=1) rfl ho hg ha
 rw[show fK (ks++[k])=fK ks++[.int .i64 k] from by simp [fK],List.length_append]
 exact this
theorem fP.term(h:fP w0 K nK f v ks u m cs wr){xs:List Value}{g cap:Nat}(ho:w'.ownsRow w0.heap.size 92 4 (.slice (some ⟨g,0,none⟩) (m+1) cap) (m+1) (cs++xs))(hg:wr.grownBy w' u.ownBlock)(ha:u.ownBlock=some g∨g=wr.heap.size):fP w0 K nK f v ks (.slice (some ⟨g,0,none⟩) (m+1) cap) (m+1) (cs++xs) w':=
 ⟨h.sep.grow (i:=2) rfl ho hg ha,h.sep.below (i:=2) rfl hg h.below⟩
end
theorem fP.start(w1:World):fP w1 w1.heap.size 0 (fun _=>none) (.slice none 0 0) [] (.slice none 0 0) 0 [] (w1.alloc (.map #[] 0)):=by
 have hb:Bw w1 (w1.alloc (.map #[] 0)):=aH
 refine⟨?_,hb⟩
 have s0:Sep (w1.alloc (.map #[] 0)) w1.heap.size (fun _=>False) []:=Sep.nil (fun _ h=>h.elim) hb.size
 have s1:=s0.head (dH w1.heap.size 92 4 (.slice none 0 0) 0 []) (World.ownsRow_nil _ _ _ _) (fun _ h=>by simp [dH,Value.ownBlock] at h)
 have s2:=s1.head (dH w1.heap.size 3 1 (.slice none 0 0) 0 []) (World.ownsRow_nil _ _ _ _) (fun _ h=>by simp [dH,Value.ownBlock] at h)
 refine s2.head (lF w1.heap.size 0 (aY fun _=>none)) (by rw[uR];exact aO.made w1) (fun _ h=>?_)
 cases h
 refine⟨Nat.le_refl _,by simp,id,fun d hd=>?_⟩
 simp only[List.mem_cons,List.not_mem_nil,or_false] at hd
 rcases hd with rfl | rfl<;>exact fun e=>by simp [dH,Value.ownBlock] at e
theorem LM(w:World)(S:Nat→Prop)(p:Pg)(o1 o2 o3 o4 o5:Option Addr)(c1 c2 c3 c4 c5:Nat)(hp:iY w S p (.slice o1 p.ins.length c1) (.slice o2 p.outs.length c2) (.slice o3 p.fs.length c3) (.slice o4 p.asserts.length c4) (.slice o5 p.checks.length c5))(hok:nN p)(h0:gJ p=0)(et bt:TypeId)(eq bq:Value)(he:w.cell? ⟨3,0,none⟩=some (.iface et eq))(hbd:w.cell? ⟨2,0,none⟩=some (.iface bt bq)) :
  Calls Tryz.prog 141 #[.agg #[.slice o1 p.ins.length c1,.slice o2 p.outs.length c2,.slice o3 p.fs.length c3,.slice o4 p.asserts.length c4,.slice o5 p.checks.length c5]] w fun e w'=>Bw w w'∧∃o c qs,aR (cK (fun _=>none) (aT p)) (aI p)=some (fT p,qs)∧qs.length=aC (aI p)∧e=.returned (.tuple #[.slice o (p.ins.length+qs.length) c,.nilIface])∧dP w' (.slice o (p.ins.length+qs.length) c) (p.ins.map Ex.n++qs):=by
 obtain⟨i0,hi0,hz0,hz1,hz2⟩:=info_parts Tryz.sU
 obtain⟨k0,hk0,ky0,ky1,ky2⟩:=info_parts Tryz.kT
 have hmm:=@run_makeMap Tryz.prog
 obtain⟨kd,hkr,_,hfm,_,_,hsz,qs,hty⟩:=uW h0
 obtain⟨hin,_,⟨xs,hfr,hfi⟩,⟨x4,h4,g4⟩,⟨x5,h5,g5⟩⟩:=hp
 obtain⟨ys,hys,hyx⟩:=hfi.terms
 obtain⟨w1,hw1⟩:∃w1,w1=w.alloc (.cells #[.slice o1 p.ins.length c1,.slice o2 p.outs.length c2,.slice o3 p.fs.length c3,.slice o4 p.asserts.length c4,.slice o5 p.checks.length c5] 39):=⟨_,rfl⟩
 obtain⟨P,hP⟩:∃P,P=w.heap.size:=⟨_,rfl⟩
 have hb1:Bw w w1:=by rw[hw1];exact aH
 have hr1:w1.heap[P]?=some (.cells #[.slice o1 p.ins.length c1,.slice o2 p.outs.length c2,.slice o3 p.fs.length c3,.slice o4 p.asserts.length c4,.slice o5 p.checks.length c5] 39 (0,0)):=by rw[hw1,hP];exact heap_alloc_new _ _
 obtain⟨w2,hw2⟩:∃w2,w2=w1.alloc (.map #[] 0):=⟨_,rfl⟩
 obtain⟨K,hK⟩:∃K,K=w1.heap.size:=⟨_,rfl⟩
 have HK2:Hid (fP w1 K 0 (fun _=>none) (.slice none 0 0) [] (.slice none 0 0) 0 [] w2):=by rw[hw2,hK];exact fP.start w1
 have e0:w2.cell? ⟨P,0,none⟩=some (.slice o1 p.ins.length c1):=by rw[cell_of_row w2 _ _ _ _ (0,0) (aN HK2.out.below hr1)];rfl
 have HW1:Hid (w.alloc (.cells #[.slice o1 p.ins.length c1,.slice o2 p.outs.length c2,.slice o3 p.fs.length c3,.slice o4 p.asserts.length c4,.slice o5 p.checks.length c5] 39)=w1∧w.heap.size=P∧w1.alloc (.map #[] 0)=w2∧w1.heap.size=K):=⟨hw1.symm,hP.symm,hw2.symm,hK.symm⟩
 have HR1:=aA hr1
 have HB1:=aA hb1
 have HIN:=aA hin
 have HFR:=aA hfr
 have HFI:=aA hfi
 have HYS:Hid (aQ w S (p.fs.map fun f=>f.e) ys∧∀i k,k<4→i<p.fs.length→ys[i*4+k]?=xs[i*6+2+k]?):=⟨hys,hyx⟩
 have H4:Hid (aB w S 4 (.slice o4 p.asserts.length c4) p.asserts.length x4∧aQ w S p.asserts x4):=⟨h4,g4⟩
 have H5:Hid (aB w S 4 (.slice o5 p.checks.length c5) p.checks.length x5∧aQ w S p.checks x5):=⟨h5,g5⟩
 have HEE:Hid (w.cell? ⟨3,0,none⟩=some (.iface et eq)∧w.cell? ⟨2,0,none⟩=some (.iface bt bq)):=⟨he,hbd⟩
 have HKD:Hid (kd=cK (fun _=>none) (aT p)∧iV kd (aI p)∧aC (aI p)≤4000∧aR kd (aI p)=some (fT p,qs)∧qs.length=aC (aI p)):=⟨xQ hkr,xW _ hfm hok.small,hsz,hty,AY _ (xW _ hfm hok.small) hty⟩
 have HLN:Hid (p.ins.length+p.fs.length≤1000∧p.fs.length+(p.asserts.length+p.checks.length)≤4000):=⟨hok.vars,hok.terms⟩
 have HNM:Hid (∀v∈aT p,v.1.size≤maxLen):=hok.names
 have HVL:Hid ((aT p).length=p.ins.length+p.fs.length∧(∀j,j<p.ins.length→∀x,p.ins[j]?=some x→(aT p)[j]?=some (x.op,x.n))∧(∀j x,p.fs[j]?=some x→(aT p)[p.ins.length+j]?=some (x.name,x.kind))):=by
  refine⟨by simp [aT,jE,gL],fun j hj x hx=>?_,fun j x hx=>?_⟩
  ·unfold aT jE
   rw[List.getElem?_append_left (by simpa using hj),List.getElem?_map,hx];rfl
  ·unfold aT jE gL
   rw[List.getElem?_append_right (by simp),List.length_map,Nat.add_sub_cancel_left,List.getElem?_map,hx];rfl
 clear hok h0 he hbd hkr hfm hsz hty hin hfr hfi h4 g4 h5 g5 hys hyx hw1 hP hb1 hr1 hw2 hK
 go_enter Tryz.func141,Tryz.ntmps141
 go_upto_region 1 with fail
 rw[HW1.out.1,HW1.out.2.1]
 go_upto_region 3 with fail
 rw[HW1.out.2.2.1,HW1.out.2.2.2]
 clear hmm
 go_wp2
 clear e0
 go_loopw [4,17] (fun v t wr=>∃(j nK:Nat),j≤p.ins.length∧t=.int .i64 j∧nK≤j∧Hid (fP w1 K nK (cK (fun _=>none) ((aT p).take j)) v ((p.ins.take j).map Ex.n) (.slice none 0 0) 0 [] wr)) (fun _ t _=>p.ins.length-(intOf t).toNat)
 case atStart=>exact⟨0,0,Nat.zero_le _,rfl,Nat.le_refl _,HK2.out⟩
 case round=>
  obtain⟨j,nK,hj,rfl,hnK,HR⟩:=hrel
  by_cases hjl:j<p.ins.length
  ·obtain⟨b,off,cp,ev,_,_,gg⟩:=HIN.out.at (by rw[yX];omega)
   obtain⟨rfl,rfl⟩:o1=some ⟨b,off,none⟩∧c1=cp:=by simpa using ev
   obtain⟨x1,x2⟩:=wU hjl
   have hbr:=HB1.out.trans (HR.out.below.mono HB1.out.size)
   have y0:=aD hbr (gg _ _ x1)
   have y1:=aD hbr (gg _ _ x2)
   rw[←Nat.add_assoc] at y1
   have hjx:p.ins[j]?=some p.ins[j]:=List.getElem?_eq_getElem hjl
   obtain⟨name,hname⟩:∃name,name=p.ins[j].op:=⟨_,rfl⟩
   obtain⟨kind,hkind⟩:∃kind,kind=p.ins[j].n:=⟨_,rfl⟩
   rw[←hname] at y0
   rw[←hkind] at y1
   have i0':(0:Int)≤(j:Int):=by omega
   have i1':(j:Int)<(p.ins.length:Int):=by omega
   have hvj:(aT p)[j]?=some (name,kind):=by rw[HVL.out.2.1 j hjl _ hjx,hname,hkind]
   obtain⟨w3,hw3⟩:∃w3,w3=wr.alloc (.cells #[.string name,.int .i64 kind] 157):=⟨_,rfl⟩
   obtain⟨V,hV⟩:∃V,V=wr.heap.size:=⟨_,rfl⟩
   have hb3:Bw wr w3:=by rw[hw3];exact aH
   have hr3:w3.heap[V]?=some (.cells #[.string name,.int .i64 kind] 157 (0,0)):=by rw[hw3,hV];exact heap_alloc_new _ _
   have z1:w3.cell? ⟨V,0+1,none⟩=some (.int .i64 kind):=cr hr3 rfl
   have HK4:Hid (fP w1 K nK (cK (fun _=>none) ((aT p).take j)) u4 ((p.ins.take j).map Ex.n) (.slice none 0 0) 0 [] (w3.alloc (.cells #[.int .i64 kind] 3))):=(HR.out.keep hb3).keep (aH)
   have HNW:Hid (∀k x,[Value.int .i64 kind][k]?=some x→(w3.alloc (.cells #[.int .i64 kind] 3)).cell? ((⟨w3.heap.size,0,none⟩:Addr).add k)=some x):=World.news_of_block (heap_alloc_new w3 _)
   have HR4:Hid ((w3.alloc (.cells #[.int .i64 kind] 3)).heap[V]?=some (.cells #[.string name,.int .i64 kind] 157 (0,0))):=aN ((Below.refl w3.heap.size w3).alloc (Nat.le_refl _) _) hr3
   have HVN:Hid (V<(w3.alloc (.cells #[.int .i64 kind] 3)).heap.size∧(∀k,u4.ownBlock=some k→k≠V)∧K≠V):=⟨(bN HR4.out).1,fun k hk=>by have:=(HR.out.sep.lt 1 _ k rfl hk).2.1;omega,by have:=(HR.out.sep.lt 0 _ K rfl rfl).2.1;omega⟩
   have hll:((p.ins.take j).map Ex.n).length=j:=by rw[List.length_map,List.length_take];omega
   have HJ:Hid (j<p.ins.length∧nK≤j∧(aT p)[j]?=some (name,kind)∧name.size≤maxLen∧((p.ins.take j).map Ex.n).length=j∧(p.ins.take (j+1)).map Ex.n=(p.ins.take j).map Ex.n++[kind]):=⟨hjl,hnK,hvj,HNM.out _ (List.mem_of_getElem? hvj),hll,by rw[List.take_add_one,hjx,List.map_append,hkind];rfl⟩
   have HIR:Hid ((w3.alloc (.cells #[.int .i64 kind] 3)).ownsRow w1.heap.size 3 1 u4 j (fK ((p.ins.take j).map Ex.n))):=by have:=HK4.out.ints;rwa [hll] at this
   have N4:Hid (wrap64 ((j:Int)+1)=(j:Int)+1):=by have:=HLN.out;have:=HJ.out.1;unfold Hid wrap64;omega
   have HMX:Hid (j+1≤maxLen∧(j+1)*8≤140737488355328):=by have:=HLN.out;have:=HJ.out.1;unfold Hid maxLen;omega
   have HW3:Hid (wr.alloc (.cells #[.string name,.int .i64 kind] 157)=w3∧wr.heap.size=V):=⟨hw3.symm,hV.symm⟩
   clear ev gg x1 x2 hbr hjx hname hkind hvj hw3 hV hb3 hr3 hll hj hjl hnK HR
   go_upto_region 6 with fail
   rw[HW3.out.1,HW3.out.2]
   clear y0 y1
   go_upto_region 7 with(at_builtin;refine wpList_append_lies _ rfl _ _ 30 rfl w1.heap.size 3 k0 _ 1 8 Tryz.underlying30 hk0 ky0 ky1 ky2 rfl (by omega) u4 j _ rfl HIR.out ⟨w3.heap.size,0,none⟩ 1 1 _ rfl rfl HNW.out (by simp [Value.oneCell']) (by omega) HMX.out.1 HMX.out.2 HK4.out.below.size _ rfl ?_;intro g cap w5 hown5 hgrow5 hat5 hlt5)
   have hk5:=HK4.out.kind (k:=kind) (g:=g) (cap:=cap) (w':=w5) (by rw[HJ.out.2.2.2.2.1];exact hown5) hgrow5 hat5
   rw[HJ.out.2.2.2.2.1] at hk5
   have hr5:w5.heap[V]?=some (.cells #[.string name,.int .i64 kind] 157 (0,0)):=(hgrow5.block V HVN.out.1 (fun e=>HVN.out.2.1 V e.symm rfl)).trans HR4.out
   have q0:w5.cell? ⟨V,0,none⟩=some (.string name):=cr hr5 rfl
   have q1:w5.cell? ⟨V,0+1,none⟩=some (.int .i64 kind):=cr hr5 rfl
   obtain⟨w7,hup,hfn7,hgr7⟩:=hk5.fn.put Tryz.underlying96 (by have:=HLN.out;have:=HJ.out.1;have:=HJ.out.2.1;unfold maxLen;omega) name HJ.out.2.2.2.1 (.int .i64 kind)
   rw[qJ _ (name,kind),←vS HJ.out.2.2.1] at hfn7
   have HNX:Hid (fP w1 K (nK+1) (cK (fun _=>none) ((aT p).take (j+1))) (.slice (some ⟨g,0,none⟩) (j+1) cap) ((p.ins.take (j+1)).map Ex.n) (.slice none 0 0) 0 [] w7):=by
    have h7:=hk5.name (s:=(name,kind)) (w':=w7) (by rw[←vS HJ.out.2.2.1];exact hfn7) hgr7
    rw[←vS HJ.out.2.2.1,←HJ.out.2.2.2.2.2] at h7
    exact h7
   clear hown5 hgrow5 hat5 hlt5 hk5 hr5 hfn7 hgr7 z1 HK4 HR4 HNW HIR
   go_wp2
   exact⟨⟨j+1,nK+1,HJ.out.1,by (try rw[N4.out]);rfl,by have:=HJ.out.2.1;omega,HNX.out⟩,by (try rw[N4.out]);have:=HJ.out.1;simp [intOf];omega⟩
  ·obtain rfl:p.ins.length=j:=by omega
   have hll:(p.ins.take p.ins.length).map Ex.n=p.ins.map Ex.n:=by rw[List.take_of_length_le (Nat.le_refl _)]
   rw[hll] at HR
   have HK0:Hid (nK≤p.ins.length∧fP w1 K nK (cK (fun _=>none) ((aT p).take p.ins.length)) u4 (p.ins.map Ex.n) (.slice none 0 0) 0 [] wr):=⟨hnK,HR.out⟩
   have b2:wr.cell? ⟨P,0+2,none⟩=some (.slice o3 p.fs.length c3):=by rw[cell_of_row wr _ _ _ _ (0,0) (aN HR.out.below HR1.out)];rfl
   obtain⟨uI,huI⟩:∃uI,uI=u4:=⟨_,rfl⟩
   have HUI:=aA huI
   clear hll hj hjl hnK HR huI
   go_wp2
   clear b2
   go_loopw [8,35] (fun v t wr=>∃(j nK:Nat),j≤p.fs.length∧t=.int .i64 j∧nK≤p.ins.length+j∧Hid (fP w1 K nK (cK (fun _=>none) ((aT p).take (p.ins.length+j))) uI (p.ins.map Ex.n) v j (ys.take (j*4)) wr)) (fun _ t _=>p.fs.length-(intOf t).toNat)
   case atStart=>exact⟨0,nK,Nat.zero_le _,rfl,HK0.out.1,by rw[HUI.out];exact HK0.out.2⟩
   case round=>
    obtain⟨j,nK,hj,rfl,hnK,HR⟩:=hrel
    by_cases hjl:j<p.fs.length
    ·obtain⟨name,kind,op',n',s',es,oo,cc,zs,e,x0,x1,x2,x3,x4',x5',_,_⟩:=HFI.out.at hjl
     obtain⟨b,off,cp,ev,_,_,gg⟩:=HFR.out.at (by have:=HFR.out.1;omega)
     obtain⟨rfl,rfl⟩:o3=some ⟨b,off,none⟩∧c3=cp:=by simpa using ev
     have hbr:Bw w wr:=HB1.out.trans (HR.out.below.mono HB1.out.size)
     have y0:=aD hbr (gg _ _ x0)
     have y1:=aD hbr (gg _ _ x1)
     have y2:=aD hbr (gg _ _ x2)
     have y3:=aD hbr (gg _ _ x3)
     have y4:=aD hbr (gg _ _ x4')
     have y5:=aD hbr (gg _ _ x5')
     rw[←Nat.add_assoc] at y1 y2 y3 y4 y5
     have i0':(0:Int)≤(j:Int):=by omega
     have i1':(j:Int)<(p.fs.length:Int):=by omega
     have ej:p.fs[j]?=some ⟨name,kind,.mk op' n' s' es⟩:=by rw[List.getElem?_eq_getElem hjl,e]
     have hvj:(aT p)[p.ins.length+j]?=some (name,kind):=HVL.out.2.2 j _ ej
     have HT4:Hid (ys.take ((j+1)*4)=ys.take (j*4)++[.string op',.int .i64 n',.string s',.slice oo es.length cc]):=
      xB (by rw[←x2];exact HYS.out.2 j 0 (by omega) hjl) (by rw[←x3];exact HYS.out.2 j 1 (by omega) hjl) (by rw[←x4'];exact HYS.out.2 j 2 (by omega) hjl) (by rw[←x5'];exact HYS.out.2 j 3 (by omega) hjl)
     obtain⟨w3,hw3⟩:∃w3,w3=wr.alloc (.cells #[.string name,.int .i64 kind,.string op',.int .i64 n',.string s',.slice oo es.length cc] 95):=⟨_,rfl⟩
     obtain⟨V,hV⟩:∃V,V=wr.heap.size:=⟨_,rfl⟩
     have hb3:Bw wr w3:=by rw[hw3];exact aH
     have hr3:w3.heap[V]?=some (.cells #[.string name,.int .i64 kind,.string op',.int .i64 n',.string s',.slice oo es.length cc] 95 (0,0)):=by rw[hw3,hV];exact heap_alloc_new _ _
     have z1:w3.cell? ⟨V,0+2,none⟩=some (.string op'):=cr hr3 rfl
     have z2:w3.cell? ⟨V,0+2+1,none⟩=some (.int .i64 n'):=cr hr3 rfl
     have z3:w3.cell? ⟨V,0+2+2,none⟩=some (.string s'):=cr hr3 rfl
     have z4:w3.cell? ⟨V,0+2+3,none⟩=some (.slice oo es.length cc):=cr hr3 rfl
     have HK4:Hid (fP w1 K nK (cK (fun _=>none) ((aT p).take (p.ins.length+j))) uI (p.ins.map Ex.n) u8 j (ys.take (j*4)) (w3.alloc (.cells #[.string op',.int .i64 n',.string s',.slice oo es.length cc] 92))):=(HR.out.keep hb3).keep (aH)
     have HNW:Hid (∀k x,#[.string op',.int .i64 n',.string s',.slice oo es.length cc].toList[k]?=some x→(w3.alloc (.cells #[.string op',.int .i64 n',.string s',.slice oo es.length cc] 92)).cell? ((⟨w3.heap.size,0,none⟩:Addr).add k)=some x):=World.news_of_block (heap_alloc_new w3 _)
     have HR4:Hid ((w3.alloc (.cells #[.string op',.int .i64 n',.string s',.slice oo es.length cc] 92)).heap[V]?=some (.cells #[.string name,.int .i64 kind,.string op',.int .i64 n',.string s',.slice oo es.length cc] 95 (0,0))):=aN ((Below.refl w3.heap.size w3).alloc (Nat.le_refl _) _) hr3
     have HVN:Hid (V<(w3.alloc (.cells #[.string op',.int .i64 n',.string s',.slice oo es.length cc] 92)).heap.size∧(∀k,u8.ownBlock=some k→k≠V)):=⟨(bN HR4.out).1,fun k hk=>by have:=(HR.out.sep.lt 2 _ k rfl hk).2.1;omega⟩
     have HJ:Hid (j<p.fs.length∧nK≤p.ins.length+j∧(aT p)[p.ins.length+j]?=some (name,kind)∧name.size≤maxLen):=⟨hjl,hnK,hvj,HNM.out _ (List.mem_of_getElem? hvj)⟩
     have N4:Hid (wrap64 ((j:Int)+1)=(j:Int)+1):=by have:=HLN.out;have:=HJ.out.1;unfold Hid wrap64;omega
     have HMX:Hid (j+1≤maxLen∧(j+1)*64≤140737488355328):=by have:=HLN.out;have:=HJ.out.1;unfold Hid maxLen;omega
     have HW3:Hid (wr.alloc (.cells #[.string name,.int .i64 kind,.string op',.int .i64 n',.string s',.slice oo es.length cc] 95)=w3∧wr.heap.size=V):=⟨hw3.symm,hV.symm⟩
     clear ev gg e x0 x1 x2 x3 x4' x5' hbr ej hvj hw3 hV hb3 hr3 hj hjl hnK HR
     go_upto_region 13 with fail
     rw[HW3.out.1,HW3.out.2]
     clear y0 y1 y2 y3 y4 y5
     go_upto_region 14 with(at_builtin;refine wpList_append_lies _ rfl _ _ 37 rfl w1.heap.size 92 i0 _ 4 64 Tryz.underlying37 hi0 hz0 hz1 hz2 rfl (by omega) u8 j _ rfl HK4.out.terms ⟨w3.heap.size,0,none⟩ 1 1 _ rfl rfl HNW.out (by simp [Value.oneCell']) (by omega) HMX.out.1 HMX.out.2 HK4.out.below.size _ rfl ?_;intro g cap w5 hown5 hgrow5 hat5 hlt5)
     have hk5:=HK4.out.term hown5 hgrow5 hat5
     have hr5:w5.heap[V]?=some (.cells #[.string name,.int .i64 kind,.string op',.int .i64 n',.string s',.slice oo es.length cc] 95 (0,0)):=(hgrow5.block V HVN.out.1 (fun e=>HVN.out.2 V e.symm rfl)).trans HR4.out
     have q0:w5.cell? ⟨V,0,none⟩=some (.string name):=cr hr5 rfl
     have q1:w5.cell? ⟨V,0+1,none⟩=some (.int .i64 kind):=cr hr5 rfl
     obtain⟨w7,hup,hfn7,hgr7⟩:=hk5.fn.put Tryz.underlying96 (by have:=HLN.out;have:=HJ.out.1;have:=HJ.out.2.1;unfold maxLen;omega) name HJ.out.2.2.2 (.int .i64 kind)
     rw[qJ _ (name,kind),←vS HJ.out.2.2.1] at hfn7
     have HNX:Hid (fP w1 K (nK+1) (cK (fun _=>none) ((aT p).take (p.ins.length+(j+1)))) uI (p.ins.map Ex.n) (.slice (some ⟨g,0,none⟩) (j+1) cap) (j+1) (ys.take ((j+1)*4)) w7):=by
      have h7:=hk5.name (s:=(name,kind)) (w':=w7) (by rw[←vS HJ.out.2.2.1];exact hfn7) hgr7
      rw[←vS HJ.out.2.2.1] at h7
      rw[HT4.out]
      exact h7
     clear hown5 hgrow5 hat5 hlt5 hk5 hr5 hfn7 hgr7 z1 z2 z3 z4 HK4 HR4 HNW HT4
     go_wp2
     exact⟨⟨j+1,nK+1,HJ.out.1,by (try rw[N4.out]);rfl,by have:=HJ.out.2.1;omega,HNX.out⟩,by (try rw[N4.out]);have:=HJ.out.1;simp [intOf];omega⟩
    ·obtain rfl:p.fs.length=j:=by omega
     have hvl:(aT p).take (p.ins.length+p.fs.length)=aT p:=List.take_of_length_le (by rw[HVL.out.1];exact Nat.le_refl _)
     have hyl:ys.take (p.fs.length*4)=ys:=List.take_of_length_le (by have:=HYS.out.1.length;rw[List.length_map] at this;omega)
     rw[hvl,hyl,←HKD.out.1] at HR
     obtain⟨tb,tc,hu8,_⟩:=q9 HR.out.terms
     subst hu8
     obtain⟨io,ic,huI,_⟩:=q9 HR.out.ints
     rw[List.length_map] at huI
     have hbw:Bw w wr:=HB1.out.trans (HR.out.below.mono HB1.out.size)
     have hr:wr.heap[P]?=some (.cells #[.slice o1 p.ins.length c1,.slice o2 p.outs.length c2,.slice o3 p.fs.length c3,.slice o4 p.asserts.length c4,.slice o5 p.checks.length c5] 39 (0,0)):=aN HR.out.below HR1.out
     have b3:wr.cell? ⟨P,0+3,none⟩=some (.slice o4 p.asserts.length c4):=cr hr rfl
     have b4:wr.cell? ⟨P,0+4,none⟩=some (.slice o5 p.checks.length c5):=cr hr rfl
     obtain⟨wB,hwB⟩:∃wB,wB=wr.alloc (.cells #[.slice tb p.fs.length tc,.slice o4 p.asserts.length c4,.slice o5 p.checks.length c5] 37):=⟨_,rfl⟩
     have hbB0:Bw wr wB:=by rw[hwB];exact aH
     have hbB:Bw w wB:=hbw.trans (hbB0.mono hbw.size)
     have hrB:wB.heap[wr.heap.size]?=some (.cells #[.slice tb p.fs.length tc,.slice o4 p.asserts.length c4,.slice o5 p.checks.length c5] 37 (0,0)):=by rw[hwB];exact heap_alloc_new _ _
     have hst:aJ S (fun _=>True) w wB:=fun b _ hl=>⟨trivial,hbB.block b hl⟩
     have hKB:=HR.out.keep hbB0
     have htr:aB wB (fun _=>True) 4 (.slice tb p.fs.length tc) p.fs.length ys:=(aB.iH hKB.terms).keep (fun _ _ _=>⟨trivial,rfl⟩)
     have hcc:=Cm wB (fun _=>True) [(tb,p.fs.length,tc,ys),(o4,p.asserts.length,c4,x4),(o5,p.checks.length,c5,x5)] wr.heap.size 3 (fun i q hq=>by
      match i,hq with
      | 0,hq=>
       obtain rfl:=Option.some.inj hq
       exact⟨cr hrB rfl,htr,rM HYS.out.1⟩
      | 1,hq=>
       obtain rfl:=Option.some.inj hq
       exact⟨cr hrB rfl,H4.out.1.keep hst,rM H4.out.2⟩
      | 2,hq=>
       obtain rfl:=Option.some.inj hq
       exact⟨cr hrB rfl,H5.out.1.keep hst,rM H5.out.2⟩
      | i+3,hq=>cases hq) (by simp) (by have:=HLN.out;simp [d9];omega)
     obtain⟨N,hN⟩:∃N,N=(aI p).length:=⟨_,rfl⟩
     rw[show d9 [(tb,p.fs.length,tc,ys),(o4,p.asserts.length,c4,x4),(o5,p.checks.length,c5,x5)]=N from by rw[hN];simp [d9,aI],show nT [(tb,p.fs.length,tc,ys),(o4,p.asserts.length,c4,x4),(o5,p.checks.length,c5,x5)]=ys++(x4++x5) from by simp [nT]] at hcc
     have HXE:Hid (aQ w S (aI p) (ys++(x4++x5))):=HYS.out.1.append (H4.out.2.append H5.out.2)
     have HKB:Hid (fP w1 K nK kd uI (p.ins.map Ex.n) (.slice tb p.fs.length tc) p.fs.length ys wB∧Bw w wB):=⟨hKB,hbB⟩
     have HNN:=aA hN
     have HUS:=aA huI
     have HWB:Hid (wr.alloc (.cells #[.slice tb p.fs.length tc,.slice o4 p.asserts.length c4,.slice o5 p.checks.length c5] 37)=wB):=hwB.symm
     have HCC:=aA hcc
     clear hvl hyl hj hjl hnK HR huI hbw hr hwB hbB0 hbB hrB hst hKB htr hcc hN
     go_wp2_with fail
     rw[HWB.out]
     refine HCC.out.mono ?_
     rintro e w6 ⟨g0,cap0,rfl,hown6,hb6⟩
     have HK6:Hid (fP w1 K nK kd uI (p.ins.map Ex.n) (.slice tb p.fs.length tc) p.fs.length ys w6∧Bw w w6):=⟨HKB.out.1.keep hb6,HKB.out.2.trans (hb6.mono HKB.out.2.size)⟩
     have hbw6:=HK6.out.2
     have hrow6:aB w6 (fun _=>True) 4 (.slice g0 (aI p).length cap0) (aI p).length (ys++(x4++x5)):=by rw[←HNN.out];exact(aB.iH hown6).keep (fun _ _ _=>⟨trivial,rfl⟩)
     have hpc:=LU kd (aI p) w6 K nK HK6.out.1.fn HKD.out.2.1 (fun _=>True) g0 cap0 _ hrow6 (HXE.out.keep (fun b _ hl=>⟨trivial,hbw6.block b hl⟩)) et bt eq bq (aD hbw6 HEE.out.1) (aD hbw6 HEE.out.2)
     rw[←HNN.out] at hpc
     have HPC:=aA hpc
     clear hown6 hb6 hbw6 hrow6 hpc b3 b4 HCC
     go_wp2_with fail
     refine HPC.out.mono ?_
     rintro e w8 ⟨hb8,hopt⟩
     rcases hopt with⟨h1,_⟩ | ⟨_,h1,_⟩ | ⟨_,ks',qs',ta,tc',h1,rfl,hia⟩
     ·exact absurd h1 (by have:=HKD.out.2.2.1;omega)
     ·rw[HKD.out.2.2.2.1] at h1;cases h1
     obtain⟨_,rfl⟩:fT p=ks'∧qs=qs':=by rw[HKD.out.2.2.2.1] at h1;simpa using h1
     have HK8:Hid (fP w1 K nK kd uI (p.ins.map Ex.n) (.slice tb p.fs.length tc) p.fs.length ys w8∧Bw w w8):=⟨HK6.out.1.keep hb8,HK6.out.2.trans (hb8.mono HK6.out.2.size)⟩
     have HIA:=aA hia
     have HEND:Hid (aR (cK (fun _=>none) (aT p)) (aI p)=some (fT p,qs)∧qs.length=aC (aI p)):=⟨by rw[←HKD.out.1];exact HKD.out.2.2.2.1,HKD.out.2.2.2.2⟩
     obtain⟨m,hm⟩:∃m,m=qs.length:=⟨_,rfl⟩
     have HM:Hid (m=qs.length∧m≤4000):=⟨hm,by have:=HKD.out.2.2.1;have:=HKD.out.2.2.2.2;omega⟩
     rw[←hm] at HIA
     rw[←hm]
     clear hb8 h1 hia hm
     by_cases hm0:m=0
     ·subst hm0
      have hno:=fun ty=>QL (n:=p.ins.length) (by have:=HK8.out.1.ints;rw[List.length_map] at this;exact this) ta tc' ty
      rw[HUS.out] at hno
      rw[←HUI.out,HUS.out]
      have HQ0:Hid (qs=[]):=List.eq_nil_of_length_eq_zero HM.out.1.symm
      go_wp2_with (at_builtin;refine Lib.wpList_append_run _ rfl _ _ _ _ rfl _ _ rfl rfl _ _ (hno _) ?_)
      try simp only[Exit.inBlock,Exit.then]
      refine bodyPost_ret (results_tmp2 rfl _ _ _) rfl ?_
      refine⟨HK8.out.2,io,ic,qs,HEND.out.1,HEND.out.2,by rw[HQ0.out];rfl,?_⟩
      have hi:=HK8.out.1.ints
      rw[HUS.out,List.length_map] at hi
      rw[HQ0.out,List.append_nil]
      exact En (l:=p.ins.map Ex.n) hi (by simp) (by have:=HLN.out;unfold maxLen;simp only[List.length_nil];omega)
     ·obtain⟨q0,hq0⟩:∃q0,qs[0]?=some q0:=⟨_,List.getElem?_eq_getElem (by have:=HM.out.1;omega)⟩
      obtain⟨_,ta',tc2,e1,hget⟩:=HIA.out
      obtain⟨rfl,rfl⟩:ta=ta'∧tc'=tc2:=by have:=(Value.slice.inj e1);exact⟨this.1,this.2.2⟩
      obtain⟨gb,goff,rfl,_⟩:=hget 0 q0 hq0
      have HNQ:Hid (∀j u,(fK qs)[j]?=some u→w8.cell? ((⟨gb,goff,none⟩:Addr).add j)=some u):=fun j u hj=>by
       unfold fK at hj
       rw[List.getElem?_map] at hj
       cases hx:qs[j]? with
       | none=>rw[hx] at hj;cases hj
       | some x=>
        rw[hx] at hj
        obtain⟨b2,off2,e2,hc2⟩:=hget j x hx
        obtain⟨rfl,rfl⟩:gb=b2∧goff=off2:=by simpa using e2
        rw[Addr.add_lit,hc2]
        exact hj
      have HQL:Hid ((fK qs).length=m*1∧(∀u∈fK qs,u.oneCell'=true)∧0<m):=⟨by rw[HM.out.1];simp [fK],fun u hu=>by unfold fK at hu;obtain⟨x,_,rfl⟩:=List.mem_map.1 hu;rfl,by omega⟩
      have HIR:Hid (w8.ownsRow w1.heap.size 3 1 (.slice io p.ins.length ic) p.ins.length (fK (p.ins.map Ex.n))):=by have:=HK8.out.1.ints;rwa [HUS.out,List.length_map] at this
      have HMX:Hid (p.ins.length+m≤maxLen∧(p.ins.length+m)*8≤140737488355328):=by have:=HLN.out;have:=HM.out.2;unfold Hid maxLen;omega
      rw[←HUI.out,HUS.out]
      clear hq0 e1 hget hm0
      go_wp2_with (at_builtin;refine wpList_append_lies _ rfl _ _ 30 rfl w1.heap.size 3 k0 _ 1 8 Tryz.underlying30 hk0 ky0 ky1 ky2 rfl (by omega) (.slice io p.ins.length ic) p.ins.length _ rfl HIR.out ⟨gb,goff,none⟩ m _ _ rfl HQL.out.1 HNQ.out HQL.out.2.1 HQL.out.2.2 HMX.out.1 HMX.out.2 HK8.out.1.below.size _ rfl ?_;intro g cap w9 hown9 hgrow9 hat9 hlt9)
      try simp only[Exit.inBlock,Exit.then]
      refine bodyPost_ret (results_tmp2 rfl _ _ _) rfl ?_
      have hb9:Bw w1 w9:=by
       have hg9:=hgrow9
       rw[←HUS.out] at hg9
       exact HK8.out.1.sep.below (i:=1) rfl hg9 HK8.out.1.below
      refine⟨HB1.out.trans (hb9.mono HB1.out.size),_,_,qs,HEND.out.1,HEND.out.2,by rw[←HM.out.1];rfl,?_⟩
      rw[←HM.out.1]
      refine En (l:=p.ins.map Ex.n++qs) (base:=w1.heap.size) ?_ (by rw[List.length_append,List.length_map,HM.out.1]) HMX.out.1
      rw[List.map_append]
      exact hown9
end Go.Proofs.YtmgfakcccfahaaaGreatDoor
