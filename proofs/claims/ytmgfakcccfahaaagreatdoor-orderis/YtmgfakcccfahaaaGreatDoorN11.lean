/-
  package types: typed, Terms, Parts BY CONTRACT.
-/
import Derived.Test.YtmgfakcccfahaaaGreatDoorN09
import Derived.Test.YtmgfakcccfahaaaGreatDoorN10
set_option maxRecDepth 100000
set_option maxHeartbeats 4000000
namespace Go.Proofs.YtmgfakcccfahaaaGreatDoor
open Go.RowKit Go.Maps

def wN(kd:List UInt8→Option Int)(l:List Ex)(et bt:TypeId)(eq bq:Value)(w:World)(e:Ending)(w':World):Prop:=
 Bw w w'∧((4000<aC l∧e=.returned (.tuple #[.slice none 0 0,.slice none 0 0,.iface bt bq]))∨(aC l≤4000∧aM kd l=none∧e=.returned (.tuple #[.slice none 0 0,.slice none 0 0,.iface et eq]))∨(aC l≤4000∧∃ks qs ta tc pa pc,aM kd l=some (ks,qs)∧e=.returned (.tuple #[.slice ta ks.length tc,.slice pa qs.length pc,.nilIface])∧dI w' (.slice ta ks.length tc) ks∧dI w' (.slice pa qs.length pc) qs))
theorem yV{w:World}{base n:Nat}{o:Option Addr}{c:Nat}{l:List Int}(h:w.ownsRow base 3 1 (.slice o n c) n (l.map (Value.int .i64)))(hn:l.length=n)(hm:n≤maxLen):dI w (.slice o n c) l:=by
 subst hn
 refine⟨hm,o,c,rfl,fun k x hk=>?_⟩
 have hlt:=(aX hk).1
 obtain⟨g,cap,e,_,_⟩:=h.form (by omega)
 obtain⟨rfl,rfl⟩:o=some ⟨g,0,none⟩∧c=cap:=by simpa using e
 have hadd':∀j,(⟨g,0,none⟩:Addr).add j=⟨g,0+j,none⟩:=fun j=>by unfold Addr.add;split<;>simp_all
 refine⟨g,0,rfl,?_⟩
 rw[←hadd']
 exact h.cells (g:=g) rfl k _ (by simp [hk])
theorem aR.isMap{w:World}{b n:Nat}{f:List UInt8→Option Value}(h:aR w b n f):∃es clock,w.heap[b]?=some (.map es clock):=by
 obtain⟨D,h,_⟩:=h
 obtain⟨es,clock,hb,_⟩:=h
 exact⟨es,clock,hb⟩
theorem aR.K5{w:World}{b n k:Nat}{f:List UInt8→Option Value}{cs:Array Value}{t:TypeId}{fr:Nat×Nat}(h:aR w b n f)(hk:w.heap[k]?=some (.cells cs t fr)):k≠b:=fun e=>by
 obtain⟨es,clock,hb⟩:=h.isMap
 rw[←e,hk] at hb
 cases hb
theorem Gd(kd:List UInt8→Option Int)(l:List Ex)(w:World)(K nK:Nat)(hK:aR w K nK (aS kd))(hok:iF kd l)(S:Nat→Prop)(o:Option Addr)(c:Nat)(ys:List Value)(hrow:aB w S 4 (.slice o l.length c) l.length ys)(hex:aI w S l ys)(et bt:TypeId)(eq bq:Value)(he:w.cell? ⟨3,0,none⟩=some (.iface et eq))(hbd:w.cell? ⟨2,0,none⟩=some (.iface bt bq)) :
  Calls Tryz.prog 132 #[.map (some K),.slice o l.length c] w (wN kd l et bt eq bq w):=by
 obtain⟨w1,hw1⟩:∃w1,w1=w.alloc (.cells #[.slice o l.length c] 37):=⟨_,rfl⟩
 have hb1:Bw w w1:=by rw[hw1];exact aH
 have hs1:w1.heap.size=w.heap.size+1:=by rw[hw1];simp
 have hr0:w1.heap[w.heap.size]?=some (.cells #[.slice o l.length c] 37 (0,0)):=by rw[hw1];exact heap_alloc_new _ _
 obtain⟨w2,hw2⟩:∃w2,w2=w1.alloc (.cells #[.slice none 0 0] 30):=⟨_,rfl⟩
 have hb2:Bw w1 w2:=by rw[hw2];exact aH
 have hs2:w2.heap.size=w.heap.size+2:=by rw[hw2];simp [hs1]
 have hr1:w2.heap[w.heap.size+1]?=some (.cells #[.slice none 0 0] 30 (0,0)):=by rw[hw2,←hs1];exact heap_alloc_new _ _
 have hb02:=hb1.trans (hb2.mono hb1.size)
 have HR0:Hid (w2.heap[w.heap.size]?=some (.cells #[.slice o l.length c] 37 (0,0))):=aG hb2 hr0
 have HR1:=aA hr1
 have HW1:Hid (w.alloc (.cells #[.slice o l.length c] 37)=w1):=hw1.symm
 have HW2:Hid (w1.alloc (.cells #[.slice none 0 0] 30)=w2):=hw2.symm
 have HS12:Hid (w1.heap.size=w.heap.size+1∧w2.heap.size=w.heap.size+2):=⟨hs1,hs2⟩
 have hst2:aP S S w w2:=fun b hb hl=>⟨hb,hb02.block b hl⟩
 have HBD:Hid (Calls Tryz.prog 77 #[.slice o l.length c] w2 fun e w'=>Bw w2 w'∧e=.returned (.bool (decide (aC l≤4000)))):=Eo l w2 S o c ys (hrow.keep hst2) (hex.keep hst2)
 have HB02:=aA hb02
 have HK:=aA hK
 have HOK:=aA hok
 have HROW:=aA hrow
 have HEX:=aA hex
 have HET:=aA he
 have HEB:=aA hbd
 have c0:w2.cell? ⟨w.heap.size,0,none⟩=some (.slice o l.length c):=cr HR0.out rfl
 clear hK hok hrow hex he hbd hw1 hb1 hs1 hr0 hw2 hb2 hs2 hr1 hb02 hst2
 go_enter Tryz.func132,Tryz.ntmps132
 go_wp2_with fail
 rw[HW1.out,HW2.out]
 refine HBD.out.mono ?_
 rintro e w3 ⟨hb3,rfl⟩
 have hb03:=HB02.out.trans (hb3.mono HB02.out.size)
 have hr13:=aG hb3 HR1.out
 have hr03:=aG hb3 HR0.out
 have d1:w3.cell? ⟨w.heap.size+1,0,none⟩=some (.slice none 0 0):=cr hr13 rfl
 have f1:w3.frozen? ⟨w.heap.size+1,0,none⟩=false:=dW hr13
 have HB03:=aA hb03
 have HR13:=aA hr13
 have HR03:=aA hr03
 by_cases hz:aC l≤4000
 case neg=>
  have hdz:decide (aC l≤4000)=false:=decide_eq_false hz
  have g0:=aF hb03 HEB.out
  have HZ:Hid (4000<aC l):=by unfold Hid;omega
  have hgl:(2:Nat)<w.heap.size:=zV HEB.out
  have g1:(w3.setCell ⟨w.heap.size+1,0,none⟩ (.slice none 0 0)).cell? ⟨2,0,none⟩=some (.iface bt bq):=by
   have e:(w3.setCell ⟨w.heap.size+1,0,none⟩ (.slice none 0 0)).heap[(2:Nat)]?=w3.heap[(2:Nat)]?:=Below.heap_setCell w3 ⟨w.heap.size+1,0,none⟩ _ _ (by show (2:Nat)≠w.heap.size+1;omega)
   rw[World.cell?_of_block (w:=w3) e]
   exact g0
  rw[hdz]
  clear hz hdz hb3 hb03 hr13 hr03 c0
  go_wp2
  go_region
  have hbe:Bw w (w3.setCell ⟨w.heap.size+1,0,none⟩ (.slice none 0 0)).drew:=(HB03.out.setCell (by show w.heap.size≤w.heap.size+1;omega) _).drew
  have hre:(w3.setCell ⟨w.heap.size+1,0,none⟩ (.slice none 0 0)).drew.heap[w.heap.size+1]?=some (.cells #[.slice none 0 0] 30 (0,0)):=nX (i:=0) HR13.out _
  obtain⟨we,hwe⟩:∃we,we=(w3.setCell ⟨w.heap.size+1,0,none⟩ (.slice none 0 0)).drew:=⟨_,rfl⟩
  rw[←hwe] at hbe hre ⊢
  have y1:we.cell? ⟨w.heap.size+1,0,none⟩=some (.slice none 0 0):=cr hre rfl
  have HEND:Hid (wN kd l et bt eq bq w (.returned (.tuple #[.slice none 0 0,.slice none 0 0,.iface bt bq])) we):=⟨hbe,.inl ⟨HZ.out,rfl⟩⟩
  clear hwe hbe hre d1 f1 g0 g1 hgl
  go_wp2
  exact bodyPost_ret (v:=.tuple #[.slice none 0 0,.slice none 0 0,.iface bt bq]) (by simp [results,Tryz.results132,go_sem,y1]) rfl HEND.out
 case pos=>
  have hdz:decide (aC l≤4000)=true:=decide_eq_true hz
  have HZ:=aA hz
  rw[hdz]
  clear hz hdz hb3 hb03 hr13 hr03 c0
  go_wp2_with fail
  refine(La w3).mono ?_
  rintro e w4 ⟨cb,M,B,C,nv,rfl,hcb,hM,hRw,hb4,hcl,hBl,hne⟩
  have hs3:w.heap.size+2≤w3.heap.size:=by
   have h1:=(bE HR13.out).1
   omega
  obtain⟨w5,hw5⟩:∃w5,w5=w4.alloc (.cells #[.pointer (some ⟨cb,0,none⟩)] 254):=⟨_,rfl⟩
  have hb5:Bw w4 w5:=by rw[hw5];exact aH
  have hr25:w5.heap[w4.heap.size]?=some (.cells #[.pointer (some ⟨cb,0,none⟩)] 254 (0,0)):=by rw[hw5];exact heap_alloc_new _ _
  have hcb5:=aG hb5 hcb
  have hc4:cb<w4.heap.size:=(bE hcb).1
  have e0:w5.cell? ⟨w4.heap.size,0,none⟩=some (.pointer (some ⟨cb,0,none⟩)):=cr hr25 rfl
  have e2:w5.cell? ⟨cb,0+2,none⟩=some (.map none):=cr hcb5 rfl
  have e2f:w5.frozen? ⟨cb,0+2,none⟩=false:=dW hcb5
  obtain⟨w6,hw6⟩:∃w6,w6=w5.setCell ⟨cb,0+2,none⟩ (.map (some K)):=⟨_,rfl⟩
  have hk6:∀q,q≠cb→w6.heap[q]?=w5.heap[q]?:=fun q hq=>by rw[hw6];exact Below.heap_setCell w5 ⟨cb,0+2,none⟩ _ q hq
  have hs6:w6.heap.size=w5.heap.size:=by rw[hw6];exact size_setCell _ _ _
  have hs5:w5.heap.size=w4.heap.size+1:=by rw[hw5];simp
  have hb34:Bw w3 w5:=hb4.trans (hb5.mono hb4.size)
  have hb36:Bw w3 w6:=by rw[hw6];exact hb34.setCell hcl _
  have hb06:Bw w w6:=HB03.out.trans (hb36.mono HB03.out.size)
  have hcb6:w6.heap[cb]?=some (.cells #[.map (some M),nv,.map (some K),.map none,.slice none 0 0] 257 (0,0)):=by rw[hw6];exact nX (i:=0+2) hcb5 _
  obtain⟨w7,hw7⟩:∃w7,w7=w6.alloc (.cells #[.nilIface] 32):=⟨_,rfl⟩
  have hb7:Bw w6 w7:=by rw[hw7];exact aH
  have hre7:w7.heap[w6.heap.size]?=some (.cells #[.nilIface] 32 (0,0)):=by rw[hw7];exact heap_alloc_new _ _
  have hb07:=hb06.trans (hb7.mono hb06.size)
  have hr17:w7.heap[w.heap.size+1]?=some (.cells #[.slice none 0 0] 30 (0,0)):=aG hb7 (aG hb36 HR13.out)
  have hr07:w7.heap[w.heap.size]?=some (.cells #[.slice o l.length c] 37 (0,0)):=aG hb7 (aG hb36 HR03.out)
  have hr27:w7.heap[w4.heap.size]?=some (.cells #[.pointer (some ⟨cb,0,none⟩)] 254 (0,0)):=aG hb7 ((hk6 _ (by omega)).trans hr25)
  have hcb7:=aG hb7 hcb6
  have hM7:aR w7 M 24 (nJ B C):=by
   have hl:=hM.lt
   refine hM.kept ?_
   rw[hb7.block M (by omega),hk6 M hne.1,hb5.block M hl]
  have hR5:=(bE hRw.r5).1
  have hR6:=(bE hRw.r6).1
  have hRk:∀q,q<w4.heap.size→q≠cb→w7.heap[q]?=w4.heap[q]?:=fun q hq hn=>by rw[hb7.block q (by omega),hk6 q hn,hb5.block q hq]
  have hKl:K<w.heap.size:=HK.out.lt
  have hfix:oZ M K nK B C kd w7:=⟨hM7,⟨by rw[hRk B (by omega) (by omega)];exact hRw.r0,by rw[hRk (B+1) (by omega) (by omega)];exact hRw.r1,by rw[hRk (B+1+1) (by omega) (by omega)];exact hRw.r2,by rw[hRk (B+1+1+1) (by omega) (by omega)];exact hRw.r3,by rw[hRk (B+1+1+1+1) (by omega) (by omega)];exact hRw.r4,by rw[hRk (B+1+1+1+1+1) (by omega) (by omega)];exact hRw.r5,by rw[hRk C hR6 hne.2.1];exact hRw.r6,hRw.lo⟩,HK.out.kept (hb07.block K hKl)⟩
  have hck:dN (qH M K B C) cb kd [] (fun k=>k=cb) w7:=⟨M,K,nK,B,C,nv,.map none,none,0,hcb7,hfix,World.ownsRow_nil _ _ _ _,fun k=>by simp [Value.ownBlock],fun k hk=>⟨fun e=>by
   have e':k=cb:=e
   rcases hk with h | h | h | h<;>omega,hk⟩,hfix.lt⟩
  have hnx:¬qH M K B C (w.heap.size+1):=fun hk=>by
   have n1:=hM7.K5 hr17
   have lo:=hRw.lo
   rcases hk with h | h | h | h<;>omega
  have hst7:aP S (fun b=>¬(b=cb∨b=w.heap.size+1)) w w7:=fun b _ hl=>⟨fun h=>by rcases h with h | h<;>omega,hb07.block b hl⟩
  have hT1:=Gf (b0:=w.heap.size) (b1:=w.heap.size+1) (b2:=w4.heap.size) l HOK.out HZ.out hck o c ys (HROW.out.keep hst7) (HEX.out.keep hst7) hr07 hr17 hr27 (by omega) ⟨by omega,by omega⟩ hnx
  have hgt:(3:Nat)<w.heap.size:=zV HET.out
  have het7:=aF hb07 HET.out
  have HCT:Hid (Calls Tryz.prog 124 #[.func (.func 172) #[] #[.pointer (some ⟨w.heap.size,0,none⟩),.pointer (some ⟨w.heap.size+1,0,none⟩),.pointer (some ⟨w4.heap.size,0,none⟩)]] w6 fun e w'=>(∃w1,(∃ks qs ta tc F',aM kd l=some (ks,qs)∧mX (qH M K B C) cb (w.heap.size+1) kd w7 (fun k=>k=cb) ks qs ta tc F' w1)∧e=.returned .nilIface∧w'=w1.setCell ⟨w6.heap.size,0,none⟩ .nilIface)∨(∃w1 o,(aM kd l=none∧∃F' v,aY (fun k=>k=cb∨k=w.heap.size+1) F' w7 w1∧w1.heap[w.heap.size+1]?=some (.cells #[v] 30 (0,0)))∧e=.returned (.iface et eq)∧w'=(w1.setCell ⟨w6.heap.size,0,none⟩ (.iface et eq)).alloc o)):=Gy w6 _ _ _ et eq _ _ (by
   rw[←hw7]
   refine hT1.mono ?_
   rintro e w8 (⟨ks,qs,ta,tc,F',hty,rfl,hS⟩ | ⟨hty,hth,F',v,hm,hv⟩)
   ·exact .inl ⟨rfl,⟨ks,qs,ta,tc,F',hty,hS⟩,(hS.mv.jU hre7 (by rintro(h | h)<;>omega)).1⟩
   ·exact .inr ⟨hth,⟨hty,F',v,hm,hv⟩,(hm.jU hre7 (by rintro(h | h)<;>omega)).1,(hm.cell het7 (by rintro(h | h)<;>(have h':(3:Nat)=_:=h;omega))).1⟩)
  have HW5:Hid (w4.alloc (.cells #[.pointer (some ⟨cb,0,none⟩)] 254)=w5):=hw5.symm
  have HW6:Hid (w5.setCell ⟨cb,2,none⟩ (.map (some K))=w6):=hw6.symm
  have HB07:=aA hb07
  have HR27:=aA hr27
  have HRE7:=aA hre7
  have HSS:Hid (w.heap.size+2≤w3.heap.size∧w3.heap.size≤cb∧cb<w4.heap.size∧w5.heap.size=w4.heap.size+1∧w6.heap.size=w5.heap.size∧w6.heap.size<w7.heap.size):=⟨hs3,hcl,hc4,hs5,hs6,(bE hre7).1⟩
  clear hcb hM hRw hb4 hcl hBl hne hs3 hw5 hb5 hr25 hcb5 hw6 hk6 hs6 hs5 hb34 hb36 hb06 hcb6 hw7 hb7 hre7 hb07 hr17 hr07 hr27 hcb7 hM7 hR5 hR6 hRk hKl hfix hck hnx hst7 hT1 hgt het7 d1 f1
  go_upto_region 4 with fail
  rw[HW5.out]
  go_wp2_with fail
  rw[HW6.out]
  refine HCT.out.mono ?_
  rintro e w' (⟨w8,⟨ks,qs,ta,tc,F',hty,hS⟩,rfl,rfl⟩ | ⟨w8,o8,⟨hty,F',v8,hm,hv⟩,rfl,rfl⟩)
  ·have hck:=hS.ck
   obtain⟨M',K',nK',B',C',nv',uv',po,pc,h1,h2,h3,h4,h5,h6⟩:=hck
   have hr2:=(hS.mv.jU HR27.out (by have:=HSS.out;rintro(h | h)<;>omega)).1
   have hre:=(hS.mv.jU HRE7.out (by have:=HSS.out;rintro(h | h)<;>omega)).1
   have hB8:Bw w w8:=hS.mv.below HB07.out HB07.out.size (fun k hk=>by have:=HSS.out;rcases hk with h | h<;>omega)
   have hq1:=hS.cell
   have hrow:=hS.row
   have hsE:∀q,q≠w6.heap.size→(w8.setCell ⟨w6.heap.size,0,none⟩ .nilIface).heap[q]?=w8.heap[q]?:=fun q hq=>Below.heap_setCell w8 ⟨w6.heap.size,0,none⟩ _ q hq
   have hlk:=pG hty
   have hlq:=rR kd l ks qs HOK.out hty
   have hll:=rT l
   have hz:=HZ.out
   have n1:=pU hrow hre (by decide)
   have n2:=pU h3 hre (by decide)
   have hrow9:=gP (w':=w8.setCell ⟨w6.heap.size,0,none⟩ .nilIface) hrow (fun q hq=>hsE q (fun e=>n1 (by rw[←e];exact hq)))
   have hpar9:=gP (w':=w8.setCell ⟨w6.heap.size,0,none⟩ .nilIface) h3 (fun q hq=>hsE q (fun e=>n2 (by rw[←e];exact hq)))
   obtain⟨w9,hw9⟩:∃w9,w9=w8.setCell ⟨w6.heap.size,0,none⟩ .nilIface:=⟨_,rfl⟩
   rw[←hw9] at hsE hrow9 hpar9 ⊢
   have hB9:Bw w w9:=by rw[hw9];exact hB8.setCell (by show w.heap.size≤w6.heap.size;have:=HSS.out;omega) _
   have q1:w9.heap[w.heap.size+1]?=some (.cells #[.slice ta ks.length tc] 30 (0,0)):=(hsE _ (by have:=HSS.out;omega)).trans hq1
   have q2:w9.heap[w4.heap.size]?=some (.cells #[.pointer (some ⟨cb,0,none⟩)] 254 (0,0)):=(hsE _ (by have:=HSS.out;omega)).trans hr2
   have qc:w9.heap[cb]?=some (.cells #[.map (some M'),nv',.map (some K'),uv',.slice po qs.length pc] 257 (0,0)):=(hsE _ (by have:=HSS.out;omega)).trans h1
   have y1:w9.cell? ⟨w.heap.size+1,0,none⟩=some (.slice ta ks.length tc):=cr q1 rfl
   have f1:w9.frozen? ⟨w.heap.size+1,0,none⟩=false:=dW q1
   have y2:w9.cell? ⟨w4.heap.size,0,none⟩=some (.pointer (some ⟨cb,0,none⟩)):=cr q2 rfl
   have y3:w9.cell? ⟨cb,0+4,none⟩=some (.slice po qs.length pc):=cr qc rfl
   have hsX:∀q,q≠w.heap.size+1→(w9.setCell ⟨w.heap.size+1,0,none⟩ (.slice ta ks.length tc)).heap[q]?=w9.heap[q]?:=fun q hq=>Below.heap_setCell w9 ⟨w.heap.size+1,0,none⟩ _ q hq
   have y2':(w9.setCell ⟨w.heap.size+1,0,none⟩ (.slice ta ks.length tc)).cell? ⟨w4.heap.size,0,none⟩=some (.pointer (some ⟨cb,0,none⟩)):=by have hx:=hsX w4.heap.size (by have:=HSS.out;omega);rw[World.cell?_of_block (w:=w9) hx];exact y2
   have y3':(w9.setCell ⟨w.heap.size+1,0,none⟩ (.slice ta ks.length tc)).cell? ⟨cb,0+4,none⟩=some (.slice po qs.length pc):=by have hx:=hsX cb (by have:=HSS.out;omega);rw[World.cell?_of_block (w:=w9) hx];exact y3
   have n3:=pU hrow9 q1 (by decide)
   have n4:=pU hpar9 q1 (by decide)
   have hrow10:=gP (w':=w9.setCell ⟨w.heap.size+1,0,none⟩ (.slice ta ks.length tc)) hrow9 (fun q hq=>hsX q (fun e=>n3 (by rw[←e];exact hq)))
   have hpar10:=gP (w':=w9.setCell ⟨w.heap.size+1,0,none⟩ (.slice ta ks.length tc)) hpar9 (fun q hq=>hsX q (fun e=>n4 (by rw[←e];exact hq)))
   have HI1:Hid (dI (w9.setCell ⟨w.heap.size+1,0,none⟩ (.slice ta ks.length tc)) (.slice ta ks.length tc) ks∧dI (w9.setCell ⟨w.heap.size+1,0,none⟩ (.slice ta ks.length tc)) (.slice po qs.length pc) qs):=⟨yV hrow10 rfl (by unfold maxLen;omega),yV hpar10 rfl (by unfold maxLen;omega)⟩
   have HB9:Hid (Bw w (w9.setCell ⟨w.heap.size+1,0,none⟩ (.slice ta ks.length tc))):=hB9.setCell (by show w.heap.size≤w.heap.size+1;omega) _
   have HTY:=aA hty
   have HQ1:Hid ((w9.setCell ⟨w.heap.size+1,0,none⟩ (.slice ta ks.length tc)).heap[w.heap.size+1]?=some (.cells #[.slice ta ks.length tc] 30 (0,0))):=nX (i:=0) q1 _
   clear hS h1 h2 h3 h4 h5 h6 hr2 hre hB8 hq1 hrow hsE hlk hlq hll hz n1 n2 hrow9 hpar9 hw9 hB9 q1 q2 qc hsX n3 n4 hrow10 hpar10 hty
   go_wp2
   go_region
   all_goals
    obtain⟨we,hwe⟩:∃we,we=(w9.setCell ⟨w.heap.size+1,0,none⟩ (.slice ta ks.length tc)).drew:=⟨_,rfl⟩
    have hre:we.heap[w.heap.size+1]?=some (.cells #[.slice ta ks.length tc] 30 (0,0)):=by rw[hwe];exact HQ1.out
    have HEND:Hid (wN kd l et bt eq bq w (.returned (.tuple #[.slice ta ks.length tc,.slice po qs.length pc,.nilIface])) we):=by rw[hwe];exact⟨HB9.out.drew,.inr (.inr ⟨HZ.out,ks,qs,ta,tc,po,pc,HTY.out,rfl,HI1.out.1,HI1.out.2⟩)⟩
    rw[←hwe]
    have z1:we.cell? ⟨w.heap.size+1,0,none⟩=some (.slice ta ks.length tc):=cr hre rfl
    clear hwe hre y1 f1 y2 y3 y2' y3'
    go_wp2
    exact bodyPost_ret (v:=.tuple #[.slice ta ks.length tc,.slice po qs.length pc,.nilIface]) (by simp [results,Tryz.results132,go_sem,z1]) rfl HEND.out
  ·have hB8:Bw w w8:=hm.below HB07.out HB07.out.size (fun k hk=>by have:=HSS.out;rcases hk with h | h<;>omega)
   have hsE:∀q,q≠w6.heap.size→(w8.setCell ⟨w6.heap.size,0,none⟩ (.iface et eq)).heap[q]?=w8.heap[q]?:=fun q hq=>Below.heap_setCell w8 ⟨w6.heap.size,0,none⟩ _ q hq
   have hB9:Bw w (w8.setCell ⟨w6.heap.size,0,none⟩ (.iface et eq)):=hB8.setCell (by show w.heap.size≤w6.heap.size;have:=HSS.out;omega) _
   have hz8:=hB9.size
   have hq1:(w8.setCell ⟨w6.heap.size,0,none⟩ (.iface et eq)).heap[w.heap.size+1]?=some (.cells #[v8] 30 (0,0)):=(hsE _ (by have:=HSS.out;omega)).trans hv
   have hl1:=(bE hq1).1
   obtain⟨w9,hw9⟩:∃w9,w9=(w8.setCell ⟨w6.heap.size,0,none⟩ (.iface et eq)).alloc o8:=⟨_,rfl⟩
   have q1:w9.heap[w.heap.size+1]?=some (.cells #[v8] 30 (0,0)):=by rw[hw9,Below.heap_alloc _ o8 _ hl1];exact hq1
   have HB9:Hid (Bw w w9):=by rw[hw9];exact hB9.alloc hz8 _
   rw[←hw9]
   have y1:w9.cell? ⟨w.heap.size+1,0,none⟩=some v8:=cr q1 rfl
   have f1:w9.frozen? ⟨w.heap.size+1,0,none⟩=false:=dW q1
   have HQ1:Hid ((w9.setCell ⟨w.heap.size+1,0,none⟩ (.slice none 0 0)).heap[w.heap.size+1]?=some (.cells #[.slice none 0 0] 30 (0,0))):=nX (i:=0) q1 _
   have HTY:=aA hty
   clear hB8 hsE hB9 hz8 hq1 hl1 hw9 q1 hty hm hv
   go_wp2
   have hbe:Bw w (w9.setCell ⟨w.heap.size+1,0,none⟩ (.slice none 0 0)):=HB9.out.setCell (by show w.heap.size≤w.heap.size+1;omega) _
   obtain⟨we,hwe⟩:∃we,we=w9.setCell ⟨w.heap.size+1,0,none⟩ (.slice none 0 0):=⟨_,rfl⟩
   have hre:we.heap[w.heap.size+1]?=some (.cells #[.slice none 0 0] 30 (0,0)):=by rw[hwe];exact HQ1.out
   rw[←hwe] at hbe ⊢
   have z1:we.cell? ⟨w.heap.size+1,0,none⟩=some (.slice none 0 0):=cr hre rfl
   exact bodyPost_ret (v:=.tuple #[.slice none 0 0,.slice none 0 0,.iface et eq]) (by simp [results,Tryz.results132,go_sem,z1]) rfl ⟨hbe,.inr (.inl ⟨HZ.out,HTY.out,rfl⟩)⟩
def wO(kd:List UInt8→Option Int)(l:List Ex)(et bt:TypeId)(eq bq:Value)(w:World)(e:Ending)(w':World):Prop:=
 Bw w w'∧((4000<aC l∧e=.returned (.tuple #[.slice none 0 0,.iface bt bq]))∨(aC l≤4000∧aM kd l=none∧e=.returned (.tuple #[.slice none 0 0,.iface et eq]))∨(aC l≤4000∧∃ks qs ta tc,aM kd l=some (ks,qs)∧e=.returned (.tuple #[.slice ta ks.length tc,.nilIface])∧dI w' (.slice ta ks.length tc) ks))
theorem Gw(kd:List UInt8→Option Int)(l:List Ex)(w:World)(K nK:Nat)(hK:aR w K nK (aS kd))(hok:iF kd l)(S:Nat→Prop)(o:Option Addr)(c:Nat)(ys:List Value)(hrow:aB w S 4 (.slice o l.length c) l.length ys)(hex:aI w S l ys)(et bt:TypeId)(eq bq:Value)(he:w.cell? ⟨3,0,none⟩=some (.iface et eq))(hbd:w.cell? ⟨2,0,none⟩=some (.iface bt bq)) :
  Calls Tryz.prog 78 #[.map (some K),.slice o l.length c] w (wO kd l et bt eq bq w):=by
 have HC:Hid (Calls Tryz.prog 132 #[.map (some K),.slice o l.length c] w (wN kd l et bt eq bq w)):=Gd kd l w K nK hK hok S o c ys hrow hex et bt eq bq he hbd
 clear hK hok hrow hex he hbd
 go_enter Tryz.func78,Tryz.ntmps78
 go_wp2_with fail
 refine HC.out.mono ?_
 rintro e w1 ⟨hb,⟨hz,rfl⟩ | ⟨hz,hty,rfl⟩ | ⟨hz,ks,qs,ta,tc,pa,pc,hty,rfl,hi,hj⟩⟩
 ·have HEND:Hid (wO kd l et bt eq bq w (.returned (.tuple #[.slice none 0 0,.iface bt bq])) w1):=⟨hb,.inl ⟨hz,rfl⟩⟩
  clear hb hz
  go_wp2
  go_ret2
  exact HEND.out
 ·have HEND:Hid (wO kd l et bt eq bq w (.returned (.tuple #[.slice none 0 0,.iface et eq])) w1):=⟨hb,.inr (.inl ⟨hz,hty,rfl⟩)⟩
  clear hb hz hty
  go_wp2
  go_ret2
  exact HEND.out
 ·have HEND:Hid (wO kd l et bt eq bq w (.returned (.tuple #[.slice ta ks.length tc,.nilIface])) w1):=⟨hb,.inr (.inr ⟨hz,ks,qs,ta,tc,hty,rfl,hi⟩)⟩
  clear hb hz hty hi hj
  go_wp2
  go_ret2
  exact HEND.out

structure Fw where
 name:ByteArray
 kind:Int
 e:Ex
inductive cB(w:World)(S:Nat→Prop):List Fw→List Value→Prop
 | nil:cB w S [] []
 | cons (name:ByteArray) (kind:Int) (e:Ex) (fs:List Fw) (xs ys:List Value):aI w S [e] xs→cB w S fs ys→cB w S (⟨name,kind,e⟩::fs) (.string name::.int .i64 kind::xs++ys)
theorem cB.keep{w w':World}{S S':Nat→Prop}{fs:List Fw}{xs:List Value}(h:cB w S fs xs)(hs:aP S S' w w'):cB w' S' fs xs:=by
 induction h with
 | nil=>exact .nil
 | cons name kind e fs xs ys h1 _ ih=>exact .cons name kind e fs xs ys (h1.keep hs) ih
theorem cB.length{w:World}{S:Nat→Prop}{fs:List Fw}{xs:List Value}(h:cB w S fs xs):xs.length=fs.length*6:=by
 induction h with
 | nil=>rfl
 | cons name kind e fs xs ys h1 _ ih=>
  have:=h1.length
  simp only[List.length_cons,List.length_append,List.length_nil] at *
  omega
theorem cB.at{w:World}{S:Nat→Prop}{l:List Fw}{xs:List Value}(h:cB w S l xs):∀{i:Nat} (hi:i<l.length),∃name kind op n s es o c ys,l[i]=⟨name,kind,.mk op n s es⟩∧xs[i*6]?=some (.string name)∧xs[i*6+1]?=some (.int .i64 kind)∧xs[i*6+2]?=some (.string op)∧xs[i*6+3]?=some (.int .i64 n)∧xs[i*6+4]?=some (.string s)∧xs[i*6+5]?=some (.slice o es.length c)∧aB w S 4 (.slice o es.length c) es.length ys∧aI w S es ys:=by
 induction h with
 | nil=>intro i hi;simp at hi
 | cons name kind e fs xs ys h1 _ ih=>
  intro i hi
  obtain⟨op,n,s,es,o,c,zs,rfl,rfl,r1,r2⟩:=h1.one'
  cases i with
  | zero=>exact⟨name,kind,op,n,s,es,o,c,zs,rfl,rfl,rfl,rfl,rfl,rfl,rfl,r1,r2⟩
  | succ i=>
   obtain⟨name',kind',op',n',s',es',o',c',zs',e,a0,a1,a2,a3,a4,a5,b1,b2⟩:=ih (i:=i) (by simpa using hi)
   refine⟨name',kind',op',n',s',es',o',c',zs',by simpa using e,?_,?_,?_,?_,?_,?_,b1,b2⟩
   ·rw[show (i+1)*6=i*6+1+1+1+1+1+1 from by omega];simpa using a0
   ·rw[show (i+1)*6+1=i*6+1+1+1+1+1+1+1 from by omega];simpa using a1
   ·rw[show (i+1)*6+2=i*6+2+1+1+1+1+1+1 from by omega];simpa using a2
   ·rw[show (i+1)*6+3=i*6+3+1+1+1+1+1+1 from by omega];simpa using a3
   ·rw[show (i+1)*6+4=i*6+4+1+1+1+1+1+1 from by omega];simpa using a4
   ·rw[show (i+1)*6+5=i*6+5+1+1+1+1+1+1 from by omega];simpa using a5
structure Pg where
 ins:List Ex
 outs:List Ex
 fs:List Fw
 asserts:List Ex
 checks:List Ex
structure fE(w:World)(S:Nat→Prop)(p:Pg)(v1 v2 v3 v4 v5:Value):Prop where
 ins:aB w S 2 v1 p.ins.length (bR p.ins)
 outs:aB w S 1 v2 p.outs.length (gU p.outs)
 fs:∃xs,aB w S 6 v3 p.fs.length xs∧cB w S p.fs xs
 asserts:∃xs,aB w S 4 v4 p.asserts.length xs∧aI w S p.asserts xs
 checks:∃xs,aB w S 4 v5 p.checks.length xs∧aI w S p.checks xs
theorem fE.keep{w w':World}{S S':Nat→Prop}{p:Pg}{v1 v2 v3 v4 v5:Value}(h:fE w S p v1 v2 v3 v4 v5)(hs:aP S S' w w'):fE w' S' p v1 v2 v3 v4 v5:=by
 obtain⟨h1,h2,⟨x3,h3,g3⟩,⟨x4,h4,g4⟩,⟨x5,h5,g5⟩⟩:=h
 exact⟨h1.keep hs,h2.keep hs,⟨x3,h3.keep hs,g3.keep hs⟩,⟨x4,h4.keep hs,g4.keep hs⟩,⟨x5,h5.keep hs,g5.keep hs⟩⟩
def jA(kd:List UInt8→Option Int)(op:ByteArray)(n:Int)(s:ByteArray)(m:Nat):Bool:=
 !(op.data.toList==bI&&(kd s.data.toList).getD 0==0)&&(op.data.toList != kD&&cO op.toList n s.toList m)
theorem lT(x:Option Int):((x.map (Value.int .i64)).getD (.int .i64 0))=.int .i64 (x.getD 0):=by cases x<;>rfl
theorem Mx(kd:List UInt8→Option Int)(w:World)(K nK:Nat)(hK:aR w K nK (aS kd))(op:ByteArray)(n:Int)(s:ByteArray)(hs:s.size≤maxLen)(o:Option Addr)(m c:Nat)(hm:m≤maxLen) :
  Calls Tryz.prog 130 #[.agg #[.string op,.int .i64 n,.string s,.slice o m c],.map (some K)] w fun e w'=>Bw w w'∧e=.returned (.bool (jA kd op n s m)):=by
 obtain⟨w1,hw1⟩:∃w1,w1=w.alloc (.cells #[.string op,.int .i64 n,.string s,.slice o m c] 92):=⟨_,rfl⟩
 have hb1:Bw w w1:=by rw[hw1];exact aH
 have hk1:aR w1 K nK (aS kd):=hK.kept (hb1.block K hK.lt)
 have hlk:=hk1.nR Tryz.underlying96 (jL w1) s hs
 have e1:(aS kd s.data.toList).getD (.int .i64 0)=.int .i64 ((kd s.data.toList).getD 0):=lT _
 rw[e1] at hlk
 obtain⟨kk,hkk⟩:∃kk,kk=(kd s.data.toList).getD 0:=⟨_,rfl⟩
 rw[←hkk] at hlk
 have HFO:Hid (Calls Tryz.prog 170 #[.agg #[.string op,.int .i64 n,.string s,.slice o m c]] w1 fun e w'=>Bw w1 w'∧e=.returned (.bool (cO op.toList n s.toList m))):=Nj op n s o m c w1 hm
 have HW1:Hid (w.alloc (.cells #[.string op,.int .i64 n,.string s,.slice o m c] 92)=w1):=hw1.symm
 have hr1:w1.heap[w.heap.size]?=some (.cells #[.string op,.int .i64 n,.string s,.slice o m c] 92 (0,0)):=by rw[hw1];exact heap_alloc_new _ _
 have c0:w1.cell? ⟨w.heap.size,0,none⟩=some (.string op):=cr hr1 rfl
 have c1:w1.cell? ⟨w.heap.size,0+1,none⟩=some (.int .i64 n):=cr hr1 rfl
 have c2:w1.cell? ⟨w.heap.size,0+2,none⟩=some (.string s):=cr hr1 rfl
 have c3:w1.cell? ⟨w.heap.size,0+3,none⟩=some (.slice o m c):=cr hr1 rfl
 have HB1:=aA hb1
 have HF:Hid (jA kd op n s m=(!(op.data.toList==bI&&kk==0)&&(op.data.toList != kD&&cO op.toList n s.toList m))):=by unfold Hid jA;rw[←hkk]
 clear hK hs hm hb1 hk1 e1 hkk hr1 hw1
 by_cases hn:op.data.toList=bI
 ·have dn:(op.toList==[110,97,109,101])=true:=by rw[ByteArray.toList_eq,hn];rfl
  have dc:(op.toList==[99,97,108,108])=false:=by rw[ByteArray.toList_eq,hn];rfl
  have dc':(op.toList != [99,97,108,108])=true:=by rw[ByteArray.toList_eq,hn];rfl
  by_cases h0:kk=0
  ·subst h0
   have HE:Hid (jA kd op n s m=false):=by unfold Hid;rw[HF.out,hn];rfl
   clear hn
   go_enter Tryz.func130,Tryz.ntmps130
   go_upto_region 1 with fail
   rw[HW1.out]
   go_wp2
   exact bodyPost_ret (v:=.bool false) (by simp [results,Tryz.results130,go_sem]) rfl ⟨HB1.out,by rw[HE.out]⟩
  ·have d0:(kk==0)=false:=beq_eq_false_iff_ne.2 h0
   have HE:Hid (jA kd op n s m=cO op.toList n s.toList m):=by unfold Hid;rw[HF.out,hn,d0];rfl
   obtain⟨fb,hfb⟩:∃fb,fb=cO op.toList n s.toList m:=⟨_,rfl⟩
   rw[←hfb] at HE HFO
   clear hn hfb h0
   go_enter Tryz.func130,Tryz.ntmps130
   go_upto_region 1 with fail
   rw[HW1.out]
   go_wp2_with fail
   refine HFO.out.mono ?_
   rintro e w2 ⟨hb2,rfl⟩
   have HB2:Hid (Bw w w2):=HB1.out.trans (hb2.mono HB1.out.size)
   clear hb2 c0 c1 c2 c3
   go_wp2
   exact bodyPost_ret (v:=.bool fb) (by simp [results,Tryz.results130,go_sem]) rfl ⟨HB2.out,by rw[HE.out]⟩
 ·have dn:(op.toList==[110,97,109,101])=false:=by rw[ByteArray.toList_eq];exact beq_eq_false_iff_ne.2 hn
  have hnl:(op.data.toList==bI)=false:=beq_eq_false_iff_ne.2 hn
  by_cases hc:op.data.toList=kD
  ·have dc:(op.toList==[99,97,108,108])=true:=by rw[ByteArray.toList_eq,hc];rfl
   have dc':(op.toList != [99,97,108,108])=false:=by rw[ByteArray.toList_eq,hc];rfl
   have HE:Hid (jA kd op n s m=false):=by unfold Hid;rw[HF.out,hc];rfl
   clear hn hnl hc
   go_enter Tryz.func130,Tryz.ntmps130
   go_upto_region 1 with fail
   rw[HW1.out]
   go_wp2
   exact bodyPost_ret (v:=.bool false) (by simp [results,Tryz.results130,go_sem]) rfl ⟨HB1.out,by rw[HE.out]⟩
  ·have dc:(op.toList==[99,97,108,108])=false:=by rw[ByteArray.toList_eq];exact beq_eq_false_iff_ne.2 hc
   have dc':(op.toList != [99,97,108,108])=true:=by unfold bne;rw[dc];rfl
   have HE:Hid (jA kd op n s m=cO op.toList n s.toList m):=by
    unfold Hid
    rw[HF.out,hnl]
    have:(op.data.toList != kD)=true:=bne_iff_ne.2 hc
    rw[this]
    rfl
   obtain⟨fb,hfb⟩:∃fb,fb=cO op.toList n s.toList m:=⟨_,rfl⟩
   rw[←hfb] at HE HFO
   clear hn hfb hnl hc
   go_enter Tryz.func130,Tryz.ntmps130
   go_upto_region 1 with fail
   rw[HW1.out]
   go_wp2_with fail
   refine HFO.out.mono ?_
   rintro e w2 ⟨hb2,rfl⟩
   have HB2:Hid (Bw w w2):=HB1.out.trans (hb2.mono HB1.out.size)
   clear hb2 c0 c1 c2 c3
   go_wp2
   exact bodyPost_ret (v:=.bool fb) (by simp [results,Tryz.results130,go_sem]) rfl ⟨HB2.out,by rw[HE.out]⟩
mutual
def dG(kd:List UInt8→Option Int):Ex→Bool
 | .mk op n s l=>jA kd op n s l.length&&bG kd l
def bG(kd:List UInt8→Option Int):List Ex→Bool
 | []=>true
 | e::es=>dG kd e&&bG kd es
end
end Go.Proofs.YtmgfakcccfahaaaGreatDoor
