/-
  package flat: areFormed BY CONTRACT: each place once, over a list of what is left to do.
-/
import Derived.Test.YtmgfakcccfahaaaGreatDoorN18
import Derived.Test.YtmgfakcccfahaaaGreatDoorN14
namespace Go.Proofs.YtmgfakcccfahaaaGreatDoor
open Go.RowKit Go.Maps
def jD(w:World)(a:Addr):Prop:=nZ w a∧a.block<w.heap.size
theorem jD.now{w wr:World}(hb:Bw w wr)(a:Addr)(h:jD w a):nZ wr a:=by
 obtain⟨⟨cs,t,hc⟩,hl⟩:=h
 exact⟨cs,t,(hb.block _ hl).trans hc⟩
structure dJ(kd:List UInt8→Option Int)(w:World)(S:Nat→Prop)(Q:List Addr)(KP:Nat)(l:List Ex)(rs:List Nd)(wr:World)(X:Nd→Prop)(v:Value)(wk:List Ex)(ns:List Nd)(f:Addr→Int)(bnd:Int):Prop where
 row:wr.ownsRow w.heap.size 92 4 v ns.length (d9 ns)
 ne:v.ownBlock≠some KP
 mp:fD wr KP (jD w) f
 kp:w.heap.size≤KP
 below:Bw w wr
 cl:Cl w S Q wk ns
 nn:∀a,0≤f a∧f a≤bnd
 done:∀a,f a≠0→∃q,nA w a q∧(q∈ns∨X q∨eB kd f q q.m)
 roots:∀q∈rs,q∈ns∨X q∨eB kd f q q.m
 kV:∀e∈wk,(eG e∧aJ e≤100000)∧(bG kd l=true→dG kd e=true)
theorem fD.lt{w:World}{b:Nat}{I:Addr→Prop}{f:Addr→Int}(h:fD w b I f):b<w.heap.size:=by
 obtain⟨es,clock,hb,_⟩:=h
 exact(bE hb).1
theorem fD.keep{w w':World}{b:Nat}{I:Addr→Prop}{f:Addr→Int}(h:fD w b I f)(hb:w'.heap[b]?=w.heap[b]?):fD w' b I f:=by
 obtain⟨es,clock,h0,h1⟩:=h
 exact⟨es,clock,hb.trans h0,h1⟩
theorem lY:∀{l:List Ex} {i:Nat} {e:Ex},gM l→l[i]?=some e→eG e
 | [],i,e,_,h=>by simp at h
 | x::l,0,e,hs,h=>by
  obtain rfl:x=e:=by simpa using h
  unfold gM at hs
  exact hs.1
 | x::l,i+1,e,hs,h=>by
  unfold gM at hs
  exact lY hs.2 (by simpa using h)
theorem zH{kd:List UInt8→Option Int}:∀{l:List Ex} {i:Nat} {e:Ex},bG kd l=true→l[i]?=some e→dG kd e=true
 | [],i,e,_,h=>by simp at h
 | x::l,0,e,hs,h=>by
  obtain rfl:x=e:=by simpa using h
  unfold bG at hs
  rw[Bool.and_eq_true] at hs
  exact hs.1
 | x::l,i+1,e,hs,h=>by
  unfold bG at hs
  rw[Bool.and_eq_true] at hs
  exact zH hs.2 (by simpa using h)
theorem uM:∀{l:List Ex} {i:Nat} {e:Ex},l[i]?=some e→aJ e≤aC l
 | [],i,e,h=>by simp at h
 | x::l,0,e,h=>by
  obtain rfl:x=e:=by simpa using h
  simp only[aC]
  omega
 | x::l,i+1,e,h=>by
  have:=uM (l:=l) (i:=i) (e:=e) (by simpa using h)
  simp only[aC]
  omega
theorem uK:∀l:List Ex,l.length≤aC l
 | []=>by simp
 | .mk op n s es::l=>by
  have:=uK l
  simp only[aC,aJ,List.length_cons]
  omega
section
variable {kd:List UInt8→Option Int} {w wr w':World} {S:Nat→Prop} {Q:List Addr} {KP:Nat} {l:List Ex} {rs:List Nd} {X:Nd→Prop} {v:Value} {wk:List Ex} {ns:List Nd} {f:Addr→Int} {bnd:Int}
theorem dJ.wide(h:dJ kd w S Q KP l rs wr X v wk ns f bnd){bnd':Int}(hb:bnd≤bnd'):dJ kd w S Q KP l rs wr X v wk ns f bnd':=
 ⟨h.row,h.ne,h.mp,h.kp,h.below,h.cl,fun a=>⟨(h.nn a).1,Int.le_trans (h.nn a).2 hb⟩,h.done,h.roots,h.kV⟩
theorem eB.next{q:Nd}{b off i:Nat}{g:Addr→Int}(h:eB kd f q i)(hg:∀a,f a≠0→g a≠0)(ho:q.o=some ⟨b,off,none⟩)(hi:g ⟨b,off+i*4,none⟩≠0):eB kd g q (i+1):=by
 refine⟨h.1,fun b' off' j e hj=>?_⟩
 by_cases hji:j<i
 ·exact hg _ (h.2 b' off' j e hji)
 ·obtain rfl:j=i:=by omega
  rw[ho] at e
  injection e with e
  injection e with e1 e2
  subst e1 e2
  exact hi
theorem dJ.alloc(h:dJ kd w S Q KP l rs wr X v wk ns f bnd)(o:Obj):dJ kd w S Q KP l rs (wr.alloc o) X v wk ns f bnd:=
 ⟨h.row.alloc o,h.ne,h.mp.keep (((Below.refl wr.heap.size wr).alloc (Nat.le_refl _) o).block _ h.mp.lt),h.kp,h.below.alloc h.below.size o,h.cl,h.nn,h.done,h.roots,h.kV⟩
theorem dJ.beyond(h:dJ kd w S Q KP l rs wr X v wk ns f bnd)(hb:Bw wr w'):dJ kd w S Q KP l rs w' X v wk ns f bnd:=
 ⟨gP h.row (fun k hk=>hb.block k (h.row.lt k hk).2),h.ne,h.mp.keep (hb.block _ h.mp.lt),h.kp,h.below.trans (hb.mono h.below.size),h.cl,h.nn,h.done,h.roots,h.kV⟩
theorem dJ.pop{q:Nd}{g cap:Nat}(h:dJ kd w S Q KP l rs wr (fun _=>False) (.slice (some ⟨g,0,none⟩) (ns.length+1) cap) wk (ns++[q]) f bnd):∃wk' e,Cl w S Q [e] [q]∧(eG e∧aJ e≤100000)∧(bG kd l=true→dG kd e=true)∧dJ kd w S Q KP l rs wr (fun r=>r=q) (.slice (some ⟨g,0,none⟩) ns.length cap) wk' ns f bnd:=by
 obtain⟨wk',e,rfl,c1,c2⟩:=h.cl.split
 have ht:=h.kV e (by simp)
 have hr:=h.row
 rw[List.length_append,zU] at hr
 have hm:∀r,r∈ns++[q]∨False∨eB kd f r r.m→r∈ns∨r=q∨eB kd f r r.m:=fun r hr=>by
  rcases hr with hr | hr | hr
  ·rcases List.mem_append.1 hr with hr | hr
   ·exact .inl hr
   ·exact .inr (.inl (List.mem_singleton.1 hr))
  ·exact hr.elim
  ·exact .inr (.inr hr)
 exact⟨wk',e,c2,ht.1,ht.2,ownsRow_pop (rC _) hr,h.ne,h.mp,h.kp,h.below,c1,h.nn,fun a ha=>by obtain⟨r,r1,r2⟩:=h.done a ha;exact⟨r,r1,hm r r2⟩,fun r hr=>hm r (h.roots r hr),fun e he=>h.kV e (List.mem_append_left _ he)⟩
theorem dJ.put(h:dJ kd w S Q KP l rs wr X v wk ns f bnd){a:Addr}{x:Int}(hx:x=f a+1){q:Nd}(hq:nA w a q)(hp:fD w' KP (jD w) (fun y=>if y=a then x else f y))(hg:wr.grownBy w' (some KP)):dJ kd w S Q KP l rs w' (fun r=>X r∨r=q) v wk ns (fun y=>if y=a then x else f y) (bnd+1):=by
 have hmo:∀y,f y≠0→(if y=a then x else f y)≠0:=fun y hy=>by
  by_cases e:y=a
  ·rw[if_pos e];have:=(h.nn a).1;omega
  ·rw[if_neg e];exact hy
 have hm:∀r,r∈ns∨X r∨eB kd f r r.m→r∈ns∨(X r∨r=q)∨eB kd (fun y=>if y=a then x else f y) r r.m:=fun r hr=>by
  rcases hr with hr | hr | hr
  ·exact .inl hr
  ·exact .inr (.inl (.inl hr))
  ·exact .inr (.inr (hr.more hmo))
 refine⟨h.row.kept hg (.inr h.ne),h.ne,hp,h.kp,h.below.grown hg h.below.size (fun k hk=>Option.some.inj hk ▸ h.kp),h.cl,fun y=>?_,fun y hy=>?_,fun r hr=>hm r (h.roots r hr),h.kV⟩
 ·have h1:=h.nn y
  have h2:=h.nn a
  split<;>omega
 ·by_cases e:y=a
  ·exact⟨q,by rw[e];exact hq,.inr (.inl (.inr rfl))⟩
  ·rw[if_neg e] at hy
   obtain⟨r,r1,r2⟩:=h.done y hy
   exact⟨r,r1,hm r r2⟩
theorem dJ.again(h:dJ kd w S Q KP l rs wr X v wk ns f bnd){a:Addr}{x:Int}(hx:x=f a+1)(h0:f a≠0)(hp:fD w' KP (jD w) (fun y=>if y=a then x else f y))(hg:wr.grownBy w' (some KP)):dJ kd w S Q KP l rs w' X v wk ns (fun y=>if y=a then x else f y) (bnd+1):=by
 obtain⟨q,hq,hq2⟩:=h.done a h0
 have h1:=h.put hx hq hp hg
 have hmo:∀y,f y≠0→(if y=a then x else f y)≠0:=fun y hy=>by
  by_cases e:y=a
  ·rw[if_pos e];have:=(h.nn a).1;omega
  ·rw[if_neg e];exact hy
 have hq3:q∈ns∨X q∨eB kd (fun y=>if y=a then x else f y) q q.m:=by
  rcases hq2 with hr | hr | hr
  ·exact .inl hr
  ·exact .inr (.inl hr)
  ·exact .inr (.inr (hr.more hmo))
 have hm:∀r,r∈ns∨(X r∨r=q)∨eB kd (fun y=>if y=a then x else f y) r r.m→r∈ns∨X r∨eB kd (fun y=>if y=a then x else f y) r r.m:=fun r hr=>by
  rcases hr with hr | (hr | hr) | hr
  ·exact .inl hr
  ·exact .inr (.inl hr)
  ·rw[hr];exact hq3
  ·exact .inr (.inr hr)
 exact⟨h1.row,h1.ne,h1.mp,h1.kp,h1.below,h1.cl,h1.nn,fun y hy=>by obtain⟨r,r1,r2⟩:=h1.done y hy;exact⟨r,r1,hm r r2⟩,fun r hr=>hm r (h1.roots r hr),h1.kV⟩
theorem dJ.push{q:Nd}{e:Ex}{g cap:Nat}(h:dJ kd w S Q KP l rs wr (fun r=>X r∨r=q) v wk ns f bnd)(hc:Cl w S Q [e] [q])(he:(eG e∧aJ e≤100000)∧(bG kd l=true→dG kd e=true))(ho:w'.ownsRow w.heap.size 92 4 (.slice (some ⟨g,0,none⟩) (ns.length+1) cap) (ns.length+1) (d9 ns++rA q))(hg:wr.grownBy w' v.ownBlock)(ha:v.ownBlock=some g∨g=wr.heap.size):dJ kd w S Q KP l rs w' X (.slice (some ⟨g,0,none⟩) (ns++[q]).length cap) (wk++[e]) (ns++[q]) f bnd:=by
 have hm:∀r,r∈ns∨(X r∨r=q)∨eB kd f r r.m→r∈ns++[q]∨X r∨eB kd f r r.m:=fun r hr=>by
  rcases hr with hr | (hr | hr) | hr
  ·exact .inl (List.mem_append_left _ hr)
  ·exact .inr (.inl hr)
  ·exact .inl (List.mem_append_right _ (by rw[hr];exact List.mem_singleton_self _))
  ·exact .inr (.inr hr)
 have hlt:=h.mp.lt
 refine⟨by rw[List.length_append,zU];exact ho,fun hh=>?_,h.mp.keep (hg.block _ hlt fun e=>h.ne e.symm),h.kp,h.below.grown hg h.below.size (fun k hk=>(h.row.lt k hk).1),h.cl.append hc,h.nn,fun a ha=>by obtain⟨r,r1,r2⟩:=h.done a ha;exact⟨r,r1,hm r r2⟩,fun r hr=>hm r (h.roots r hr),fun x hx=>?_⟩
 ·obtain rfl:g=KP:=by simpa [Value.ownBlock] using hh
  rcases ha with ha | rfl
  ·exact h.ne ha
  ·omega
 ·rcases List.mem_append.1 hx with hx | hx
  ·exact h.kV x hx
  ·rw[List.mem_singleton.1 hx];exact he
theorem dJ.over{q:Nd}(h:dJ kd w S Q KP l rs wr (fun r=>r=q) v wk ns f bnd)(hq:eB kd f q q.m):dJ kd w S Q KP l rs wr (fun _=>False) v wk ns f bnd:=by
 have hm:∀r,r∈ns∨r=q∨eB kd f r r.m→r∈ns∨False∨eB kd f r r.m:=fun r hr=>by
  rcases hr with hr | hr | hr
  ·exact .inl hr
  ·rw[hr];exact .inr (.inr hq)
  ·exact .inr (.inr hr)
 exact⟨h.row,h.ne,h.mp,h.kp,h.below,h.cl,h.nn,fun y hy=>by obtain⟨r,r1,r2⟩:=h.done y hy;exact⟨r,r1,hm r r2⟩,fun r hr=>hm r (h.roots r hr),h.kV⟩
theorem dJ.end(h:dJ kd w S Q KP l rs wr (fun _=>False) v wk [] f bnd)(hc:Cl w S Q l rs):bG kd l=true:=by
 have hm:∀r:Nd,r∈[]∨False∨eB kd f r r.m→eB kd f r r.m:=fun r hr=>by
  rcases hr with hr | hr | hr
  ·simp at hr
  ·exact hr.elim
  ·exact hr
 exact hc.formed (f:=f) (fun a ha=>by obtain⟨r,r1,r2⟩:=h.done a ha;exact⟨r,r1,hm r r2⟩) (fun r hr=>hm r (h.roots r hr))
end
set_option maxRecDepth 100000
set_option maxHeartbeats 4000000

def pY:Value→Nat
 | .slice _ n _=>n
 | _=>0
theorem OP(kd:List UInt8→Option Int)(w:World)(K nK:Nat)(hK:aR w K nK (aS kd))(S S0:Nat→Prop)(hS:∀b,S b→b<w.heap.size→∃cs t,w.heap[b]?=some (.cells cs t (0,0)))(l:List Ex)(o:Option Addr)(c:Nat)(ys:List Value)(hrow:aB w S0 4 (.slice o l.length c) l.length ys)(hex:aI w S l ys)(hnil:l.length=0→(o=none∧c=0)∨∃b off,o=some ⟨b,off,none⟩)(hl:l.length≤4000)(hsz:aC l≤100000)(hsm:gM l) :
  Calls Tryz.prog 76 #[.slice o l.length c,.map (some K)] w fun e w'=>Bw w w'∧e=.returned (.bool (bG kd l)):=by
 obtain⟨i0,hi0,hz0,hz1,hz2⟩:=info_parts Tryz.qA
 have hmm:=@run_makeMap Tryz.prog
 obtain⟨Q,rs,rfl,hcl,hQ⟩:=hex.cl
 have hln:=hcl.length
 have htr:∀e∈l,(eG e∧aJ e≤100000)∧(bG kd l=true→dG kd e=true):=fun e he=>by
  obtain⟨i,hi⟩:=List.mem_iff_getElem?.1 he
  exact⟨⟨lY hsm hi,Nat.le_trans (uM hi) hsz⟩,fun h=>zH h hi⟩
 rw[hln] at hrow hnil hl hQ ⊢
 have hcn:=Oa w S0 rs.length (d9 rs) o c hrow (rC rs) (Oe rs) hnil hl
 have HCN:=aA hcn
 have HQ:Hid (Q.length+rs.length≤100000∧rs.length≤4000):=⟨Nat.le_trans hQ hsz,hl⟩
 have HCL:=aA hcl
 have HTR:=aA htr
 have HK:=aA hK
 have HS:=aA hS
 clear hrow hex hnil hl hsz hsm hln hcl hcn hK hS htr hQ
 go_enter Tryz.func76,Tryz.ntmps76
 go_wp2_with fail
 refine HCN.out.mono ?_
 rintro e w1 ⟨g0,cap0,rfl,hown1,hb1⟩
 obtain⟨w2,hw2⟩:∃w2,w2=w1.alloc (.map #[] 0):=⟨_,rfl⟩
 obtain⟨KP,hKP⟩:∃KP,KP=w1.heap.size:=⟨_,rfl⟩
 have h0:dJ kd w S Q KP l rs w2 (fun _=>False) (.slice g0 rs.length cap0) l rs (fun _=>0) 0:=by
  rw[hw2,hKP]
  exact⟨hown1.alloc _,fun h=>by have:=(hown1.lt _ h).2;omega,fD.made _ _,hb1.size,hb1.alloc hb1.size _,HCL.out,fun a=>⟨Int.le_refl _,Int.le_refl _⟩,fun a h=>absurd rfl h,fun q hq=>.inl hq,HTR.out⟩
 have H0:=aA h0
 have HW2:Hid (w1.alloc (.map #[] 0)=w2):=hw2.symm
 have HKP:Hid (w1.heap.size=KP):=hKP.symm
 clear hown1 hb1 hw2 hKP h0 HCN
 go_wp2
 rw[HW2.out,HKP.out]
 go_loopw [5] (fun v wr=>∃(wk:List Ex) (ns:List Nd) (f:Addr→Int) (k:Nat) (so:Option Addr) (sc:Nat),v=.slice so ns.length sc∧Hid (dJ kd w S Q KP l rs wr (fun _=>False) (.slice so ns.length sc) wk ns f (k*100000)∧2*left Q f+ns.length+k≤300000)) (fun v wr=>2*left Q (@Classical.epsilon (Addr→Int) ⟨fun _=>0⟩ (fD wr KP (jD w)))+pY v)
 case atStart=>exact⟨l,rs,_,0,g0,cap0,rfl,⟨by simpa using H0.out,by have h1:=HQ.out;have h2:=LM Q (fun _=>0);omega⟩⟩
 case round=>
  obtain⟨wk,ns0,f,k,so,sc,rfl,HJ⟩:=hrel
  rcases List.eq_nil_or_concat ns0 with rfl | ⟨ns,q,hq⟩
  ·have HE:Hid (bG kd l=true∧Bw w wr):=⟨HJ.out.1.end HCL.out,HJ.out.1.below⟩
   clear HJ
   simp only[List.length_nil]
   go_wp2
   go_ret
   exact⟨HE.out.2,by rw[HE.out.1];rfl⟩
  ·rw[List.concat_eq_append] at hq
   subst hq
   have hle:(ns++[q]).length=ns.length+1:=by simp
   rw[hle] at HJ ⊢
   have hrr:wr.ownsRow w.heap.size 92 4 (.slice so (ns.length+1) sc) (ns.length+1) (d9 (ns++[q])):=by have:=HJ.out.1.row;rwa [hle] at this
   obtain⟨g,cap,es,hbs,_⟩:=hrr.form (by omega)
   obtain⟨rfl,rfl⟩:so=some ⟨g,0,none⟩∧sc=cap:=by simpa using es
   obtain⟨wk',e,hc1,hse,hte,hP⟩:=HJ.out.1.pop
   have hce:=HJ.out.1.row.cells (g:=g) rfl
   obtain⟨x0,x1,x2,x3⟩:=zT (l:=ns++[q]) (i:=ns.length) (q:=q) (by simp)
   have y0:=hce _ _ x0
   have y1:=hce _ _ x1
   have y2:=hce _ _ x2
   have y3:=hce _ _ x3
   rw[Addr.add_lit,Nat.zero_add] at y0 y1 y2 y3
   obtain⟨es',ms,rfl,hqm,hrw,hpl,hcl'⟩:=hc1.one
   obtain⟨op,n,s,oq,mq,cq⟩:=q
   simp only at y0 y1 y2 y3 hqm hrw hpl
   have HM:Hid (2*left Q f+(ns.length+1)+k≤300000):=HJ.out.2
   have HP:=aA hP
   have HQM:=aA hqm
   have HRW:=aA hrw
   have HPL:=aA hpl
   have HCE:=aA hcl'
   have HSE:Hid ((eG (.mk op n s es')∧aJ (.mk op n s es')≤100000)∧(bG kd l=true→dG kd (.mk op n s es')=true)):=⟨hse,hte⟩
   obtain⟨m,hm⟩:∃m,m=ns.length:=⟨_,rfl⟩
   rw[←hm] at y0 y1 y2 y3 HP HM ⊢
   have HMM:=aA hm
   have hcm:m≤sc∧sc≠0:=by
    rcases hrr.2 with⟨h,_⟩ | ⟨_,_,_,h,_,_,h2,_⟩
    ·cases h
    ·injection h with h3 h4 h5
     omega
   obtain⟨hcm,hc0⟩:=hcm
   have i0':(0:Int)≤(m:Int):=by omega
   have i1':(m:Int)<(m:Int)+1:=by omega
   have N1:wrap64 (m:Int)=(m:Int):=by have:=HM.out;unfold wrap64;omega
   obtain⟨w4,hw4⟩:∃w4,w4=wr.alloc (.cells #[.string op,.int .i64 n,.string s,.slice oq mq cq] 92):=⟨_,rfl⟩
   have hb4:Bw wr w4:=by rw[hw4];exact aH
   have hr4:w4.heap[wr.heap.size]?=some (.cells #[.string op,.int .i64 n,.string s,.slice oq mq cq] 92 (0,0)):=by rw[hw4];exact heap_alloc_new _ _
   have hw0:Bw w w4:=HP.out.below.trans (hb4.mono HP.out.below.size)
   have z0:w4.cell? ⟨wr.heap.size,0,none⟩=some (.string op):=cr hr4 rfl
   have z1:w4.cell? ⟨wr.heap.size,0+1,none⟩=some (.int .i64 n):=cr hr4 rfl
   have z2:w4.cell? ⟨wr.heap.size,0+2,none⟩=some (.string s):=cr hr4 rfl
   have z3:w4.cell? ⟨wr.heap.size,0+3,none⟩=some (.slice oq mq cq):=cr hr4 rfl
   have hsm:s.size≤maxLen:=by have:=HSE.out.1.1;unfold eG at this;exact this.2.1
   have HIF:Hid (Calls Tryz.prog 130 #[.agg #[.string op,.int .i64 n,.string s,.slice oq mq cq],.map (some K)] w4 fun e w'=>Bw w4 w'∧e=.returned (.bool (jA kd op n s mq))):=Mx kd w4 K nK (HK.out.kept (hw0.block _ HK.out.lt)) op n s hsm oq mq cq HRW.out.2.1
   have HP4:Hid (dJ kd w S Q KP l rs w4 (fun r=>r=⟨op,n,s,oq,mq,cq⟩) (.slice (some ⟨g,0,none⟩) m sc) wk' ns f (k*100000)):=HP.out.beyond hb4
   have HR4:=aA hr4
   have HGE:Hid (g<wr.heap.size∧fD wr KP (jD w) f):=⟨by assumption,HP.out.mp⟩
   have HGF:Hid (@Classical.epsilon (Addr→Int) ⟨fun _=>0⟩ (fD wr KP (jD w))=f):=(Classical.epsilon_spec (p:=fD wr KP (jD w)) ⟨f,HP.out.mp⟩).one HP.out.mp
   have HMX:Hid (mq≤100000):=by
    have h1:=HSE.out.1.2
    have h2:=uK es'
    simp only[aJ] at h1
    rw[HQM.out]
    unfold Hid
    omega
   have HW4:Hid (wr.alloc (.cells #[.string op,.int .i64 n,.string s,.slice oq mq cq] 92)=w4):=hw4.symm
   obtain⟨eb,heb⟩:∃eb,eb=wr.heap.size:=⟨_,rfl⟩
   clear HJ hle es hbs hc1 hse hte hP hce x0 x1 x2 x3 hqm hrw hpl hcl' hm hw4 hb4 hr4 hw0 hsm hrr HP
   go_upto_region 5 with fail
   rw[HW4.out]
   rw[←heb] at z0 z1 z2 z3 HR4 ⊢
   have HEB:=aA heb
   clear y0 y1 y2 y3 heb
   go_upto_region 6 with fail
   go_wp2_with fail
   refine HIF.out.mono ?_
   rintro e w5 ⟨hb5,rfl⟩
   obtain⟨fb,hfb⟩:∃fb,fb=jA kd op n s mq:=⟨_,rfl⟩
   rw[←hfb]
   have HFB:=aA hfb
   have HP5:Hid (dJ kd w S Q KP l rs w5 (fun r=>r=⟨op,n,s,oq,mq,cq⟩) (.slice (some ⟨g,0,none⟩) m sc) wk' ns f (k*100000)):=HP4.out.beyond hb5
   have hr5:=aG hb5 HR4.out
   have q3:w5.cell? ⟨eb,0+3,none⟩=some (.slice oq mq cq):=cr hr5 rfl
   have HR5:=aA hr5
   clear hb5 hr5 z0 z1 z2 z3 hfb HP4 HR4 HIF
   cases fb with
   | false=>
    have hnf:bG kd l=false:=by
     cases hh:bG kd l with
     | false=>rfl
     | true=>
      have:=HSE.out.2 hh
      unfold dG at this
      rw[←HQM.out,←HFB.out] at this
      simp at this
    have HE:Hid (bG kd l=false∧Bw w w5):=⟨hnf,HP5.out.below⟩
    clear hnf
    go_wp2
    go_ret
    exact⟨HE.out.2,by rw[HE.out.1];rfl⟩
   | true=>
    go_wp2
    clear q3
    go_loopw [5,34] (fun v t wi=>∃(wk1:List Ex) (ns1:List Nd) (f1:Addr→Int) (i:Nat) (so:Option Addr) (sc1:Nat),v=.slice so ns1.length sc1∧t=.int .i64 i∧i≤mq∧Hid (dJ kd w S Q KP l rs wi (fun r=>r=⟨op,n,s,oq,mq,cq⟩) (.slice so ns1.length sc1) wk1 ns1 f1 (k*100000+i)∧eB kd f1 ⟨op,n,s,oq,mq,cq⟩ i∧2*left Q f1+ns1.length≤2*left Q f+m∧wi.heap[eb]?=some (.cells #[.string op,.int .i64 n,.string s,.slice oq mq cq] 92 (0,0))∧(Value.slice so ns1.length sc1).ownBlock≠some eb)) (fun _ t _=>mq-(intOf t).toNat)
    case atStart=>
     have hmm:=HMM.out
     exact⟨wk',ns,f,0,some ⟨g,0,none⟩,sc,by rw[←hmm],rfl,Nat.zero_le _,⟨by rw[←hmm];simpa using HP5.out,⟨HFB.out.symm,fun b off i _ hi=>absurd hi (by omega)⟩,by rw[←hmm];exact Nat.le_refl _,HR5.out,fun h=>by
      have h1:=HGE.out.1
      have h2:=HEB.out
      have h3:g=eb:=by simpa [Value.ownBlock] using h
      omega⟩⟩
    case round=>
     obtain⟨wk1,ns1,f1,i,so,sc1,rfl,rfl,hi,HI⟩:=hrel
     by_cases him:i<mq
     ·have hml:ms.length=mq:=by rw[←HCE.out.length,HQM.out]
      obtain⟨q,hq⟩:∃q,ms[i]?=some q:=⟨_,List.getElem?_eq_getElem (by omega)⟩
      obtain⟨b,off,cp,ev,hSb,hbl,_⟩:=HRW.out.at (by rw[rC];omega)
      obtain⟨rfl,rfl⟩:oq=some ⟨b,off,none⟩∧cq=cp:=by simpa using ev
      obtain⟨e,he,hc1⟩:=HCE.out.at hq
      have hnd:=nA.BX HRW.out hq
      have haQ:=HPL.out b off i rfl him
      have hold:jD w ⟨b,off+i*4,none⟩:=⟨HS.out b hSb hbl,hbl⟩
      have hse:(eG e∧aJ e≤100000)∧(bG kd l=true→dG kd e=true):=⟨⟨by
       have:=HSE.out.1.1
       unfold eG at this
       exact lY this.2.2 he,by
       have h1:=HSE.out.1.2
       have h2:=uM he
       simp only[aJ] at h1
       omega⟩,fun h=>by
       have:=HSE.out.2 h
       unfold dG at this
       rw[Bool.and_eq_true] at this
       exact zH this.2 he⟩
      obtain⟨hA,hU,hL,hE,hO⟩:=HI.out
      have p3:wr.cell? ⟨eb,0+3,none⟩=some (.slice (some ⟨b,off,none⟩) mq cq):=cr hE rfl
      have i0':(0:Int)≤(i:Int):=by omega
      have i1':(i:Int)<(mq:Int):=by omega
      have hlk:=hA.mp.look (jD.now hA.below) Tryz.underlying216 Tryz.underlying218 hi0 (by omega) (jL wr) hold
      have hmx:=HMX.out
      have N4:Hid (wrap64 ((i:Int)+1)=(i:Int)+1):=by unfold Hid wrap64;omega
      by_cases h0:f1 ⟨b,off+i*4,none⟩=0
      ·rw[h0] at hlk
       obtain⟨w6,hup,hp6,hg6⟩:=hA.mp.put (jD.now hA.below) Tryz.underlying216 Tryz.underlying218 hi0 (by omega) hold 1
       have hA6:=hA.put (x:=1) (by omega) hnd hp6 hg6
       have hlk2:=hA6.mp.look (jD.now hA6.below) Tryz.underlying216 Tryz.underlying218 hi0 (by omega) (jL w6) hold
       rw[if_pos rfl] at hlk2
       have y0:w6.cell? ⟨b,off+i*4,none⟩=some (.string q.op):=aF hA6.below (hnd 0 _ rfl)
       have y1:w6.cell? ⟨b,off+i*4+1,none⟩=some (.int .i64 q.n):=aF hA6.below (hnd 1 _ rfl)
       have y2:w6.cell? ⟨b,off+i*4+2,none⟩=some (.string q.s):=aF hA6.below (hnd 2 _ rfl)
       have y3:w6.cell? ⟨b,off+i*4+3,none⟩=some (.slice q.o q.m q.c):=aF hA6.below (hnd 3 _ rfl)
       have HA7:Hid (dJ kd w S Q KP l rs (w6.alloc (.cells #[.string q.op,.int .i64 q.n,.string q.s,.slice q.o q.m q.c] 92)) (fun r=>r=⟨op,n,s,some ⟨b,off,none⟩,mq,cq⟩∨r=q) (.slice so ns1.length sc1) wk1 ns1 (fun y=>if y=⟨b,off+i*4,none⟩ then 1 else f1 y) (k*100000+i+1)):=hA6.alloc _
       have HNW:Hid (∀k x,(rA q)[k]?=some x→(w6.alloc (.cells #[.string q.op,.int .i64 q.n,.string q.s,.slice q.o q.m q.c] 92)).cell? ((⟨w6.heap.size,0,none⟩:Addr).add k)=some x):=World.news_of_block (heap_alloc_new w6 _)
       have hmo:∀y,f1 y≠0→(if y=(⟨b,off+i*4,none⟩:Addr) then (1:Int) else f1 y)≠0:=fun y hy=>by split<;>omega
       have hll:=CG Q (g:=fun y=>if y=(⟨b,off+i*4,none⟩:Addr) then (1:Int) else f1 y) haQ h0 (by rw[if_pos rfl];omega) hmo
       have hM:=HM.out
       have HUP:Hid (eB kd (fun y=>if y=(⟨b,off+i*4,none⟩:Addr) then (1:Int) else f1 y) ⟨op,n,s,some ⟨b,off,none⟩,mq,cq⟩ (i+1)∧2*left Q (fun y=>if y=(⟨b,off+i*4,none⟩:Addr) then (1:Int) else f1 y)+(ns1.length+1)≤2*left Q f+m):=⟨hU.next hmo rfl (by rw[if_pos rfl];omega),by omega⟩
       have hke:KP<eb:=by have:=HGE.out.2.lt;rw[HEB.out];exact this
       have hE6:=mO hg6 (fun e=>by have:KP=eb:=(by simpa using e);omega) hE
       have HE7:Hid ((w6.alloc (.cells #[.string q.op,.int .i64 q.n,.string q.s,.slice q.o q.m q.c] 92)).heap[eb]?=some (.cells #[.string op,.int .i64 n,.string s,.slice (some ⟨b,off,none⟩) mq cq] 92 (0,0))):=aG (aH) hE6
       have HO:=aA hO
       have HMQ:Hid (ns1.length+1≤maxLen∧(ns1.length+1)*64≤140737488355328):=by unfold Hid maxLen;omega
       have HCS:Hid (Cl w S Q [e] [q]∧(eG e∧aJ e≤100000)∧(bG kd l=true→dG kd e=true)):=⟨hc1,hse⟩
       have HIM:=aA him
       clear hml hq ev hSb hbl he hc1 hnd haQ hold hse hA hU hL hE hO hmx h0 hp6 hg6 hA6 hmo hll hM hke hE6 hi him HI
       go_upto_region 14 with fail
       clear hlk hlk2 hup p3
       go_wp2_with (at_builtin;refine wpList_append_lies _ rfl _ _ 37 rfl w.heap.size 92 i0 _ 4 64 Tryz.underlying37 hi0 hz0 hz1 hz2 rfl (by omega) (.slice so ns1.length sc1) ns1.length _ rfl HA7.out.row ⟨w6.heap.size,0,none⟩ 1 1 (rA q) rfl rfl HNW.out (by simp [rA,Value.oneCell']) (by omega) HMQ.out.1 HMQ.out.2 HA7.out.below.size _ rfl ?_;intro g' cap' w7 hown7 hgrow7 hat7 hlt7)
       have hA8:=HA7.out.push HCS.out.1 HCS.out.2 hown7 hgrow7 hat7
       have hle:(ns1++[q]).length=ns1.length+1:=by simp
       have hlt:=(bE HE7.out).1
       have hE8:=mO hgrow7 HO.out HE7.out
       refine⟨⟨wk1++[e],ns1++[q],_,i+1,some ⟨g',0,none⟩,cap',by rw[hle],by rw[N4.out];rfl,HIM.out,⟨hA8.wide (by omega),HUP.out.1,by rw[hle];exact HUP.out.2,hE8,fun h=>?_⟩⟩,by rw[N4.out];have:=HIM.out;simp [intOf];omega⟩
       have h3:g'=eb:=by simpa [Value.ownBlock] using h
       rcases hat7 with h4 | h4
       ·exact HO.out (by rw[h4,h3])
       ·omega
      ·obtain⟨x,hx⟩:∃x,x=f1 ⟨b,off+i*4,none⟩:=⟨_,rfl⟩
       rw[←hx] at hlk h0
       have hnn:=hA.nn ⟨b,off+i*4,none⟩
       have hM:=HM.out
       rw[←hx] at hnn
       have hwx:wrap64 (x+1)=x+1:=by unfold wrap64;omega
       obtain⟨y,hy⟩:∃y,y=wrap64 (x+1):=⟨_,rfl⟩
       obtain⟨w6,hup,hp6,hg6⟩:=hA.mp.put (jD.now hA.below) Tryz.underlying216 Tryz.underlying218 hi0 (by omega) hold y
       have hA6:=hA.again (x:=y) (by rw[hy,hwx,hx]) (by rw[←hx];exact h0) hp6 hg6
       have hlk2:=hA6.mp.look (jD.now hA6.below) Tryz.underlying216 Tryz.underlying218 hi0 (by omega) (jL w6) hold
       rw[if_pos rfl] at hlk2
       have d1:(y==1)=false:=beq_eq_false_iff_ne.2 (by omega)
       rw[hy] at hup hlk2 d1
       have hmo:∀z,f1 z≠0→(if z=(⟨b,off+i*4,none⟩:Addr) then y else f1 z)≠0:=fun z hz=>by split<;>omega
       have hke:KP<eb:=by have:=HGE.out.2.lt;rw[HEB.out];exact this
       have hE6:=mO hg6 (fun e=>by have:KP=eb:=(by simpa using e);omega) hE
       have HEN:Hid (dJ kd w S Q KP l rs w6 (fun r=>r=⟨op,n,s,some ⟨b,off,none⟩,mq,cq⟩) (.slice so ns1.length sc1) wk1 ns1 (fun z=>if z=(⟨b,off+i*4,none⟩:Addr) then y else f1 z) (k*100000+(i+1:Nat))∧eB kd (fun z=>if z=(⟨b,off+i*4,none⟩:Addr) then y else f1 z) ⟨op,n,s,some ⟨b,off,none⟩,mq,cq⟩ (i+1)∧2*left Q (fun z=>if z=(⟨b,off+i*4,none⟩:Addr) then y else f1 z)+ns1.length≤2*left Q f+m∧w6.heap[eb]?=some (.cells #[.string op,.int .i64 n,.string s,.slice (some ⟨b,off,none⟩) mq cq] 92 (0,0))∧(Value.slice so ns1.length sc1).ownBlock≠some eb):=⟨hA6.wide (by omega),hU.next hmo rfl (by rw[if_pos rfl];omega),by have:=CF Q hmo;omega,hE6,hO⟩
       have HIM:=aA him
       clear hml hq ev hSb hbl he hc1 hnd haQ hold hse hA hU hL hE hO hmx h0 hp6 hg6 hA6 hmo hM hke hE6 hi him HI hnn hwx hx hy
       go_wp2
       exact⟨⟨wk1,ns1,_,i+1,so,sc1,rfl,by rw[N4.out];rfl,HIM.out,HEN.out⟩,by rw[N4.out];have:=HIM.out;simp [intOf];omega⟩
     ·obtain rfl:i=mq:=by omega
      have hA:=HI.out.1.over HI.out.2.1
      have hl:=HI.out.2.2.1
      have hM:=HM.out
      have HEN:Hid (dJ kd w S Q KP l rs wr (fun _=>False) (.slice so ns1.length sc1) wk1 ns1 f1 ((k+1:Nat)*100000)∧2*left Q f1+ns1.length+(k+1)≤300000):=⟨by
       refine⟨hA.row,hA.ne,hA.mp,hA.kp,hA.below,hA.cl,fun a=>⟨(hA.nn a).1,?_⟩,hA.done,hA.roots,hA.kV⟩
       have h1:=(hA.nn a).2
       have h2:=HMX.out
       omega,by omega⟩
      have HLT:Hid (@Classical.epsilon (Addr→Int) ⟨fun _=>0⟩ (fD wr KP (jD w))=f1∧2*left Q f1+ns1.length<2*left Q f+(m+1)):=⟨(Classical.epsilon_spec (p:=fD wr KP (jD w)) ⟨f1,hA.mp⟩).one hA.mp,by omega⟩
      clear hA hl hM hi him HI
      go_wp2
      exact⟨⟨wk1,ns1,f1,k+1,so,sc1,rfl,HEN.out⟩,by rw[HGF.out,HLT.out.1];exact HLT.out.2⟩
end Go.Proofs.YtmgfakcccfahaaaGreatDoor
