/-
  lustrumref2.LateFlows BY CONTRACT: the least numbers that hold.
-/
import Derived.Test.YtmgfakcccfahaaaGreatDoorN39
import Derived.Test.YtmgfakcccfahaaaGreatDoorN44
namespace Go.Proofs.YtmgfakcccfahaaaGreatDoor
open Go.RowKit
set_option maxRecDepth 100000
set_option maxHeartbeats 8000000

def iY(n:Nat)(late:Nat→Int):Nat:=((List.range n).map fun k=>(2-late k).toNat).sum
def sM(w:World)(lb n:Nat):Nat:=((List.range n).map fun k=>match w.cell? ⟨lb,k,none⟩ with
 | some (.int _ x)=>(2-x).toNat
 | _=>0).sum
def z8:Value→Nat
 | .bool true=>1
 | _=>0
theorem CK{w:World}{lb n:Nat}{late:Nat→Int}(h:bD w lb n late):sM w lb n=iY n late:=by
 unfold sM iY
 congr 1
 refine List.map_congr_left fun k hk=>?_
 rw[h.cell (List.mem_range.1 hk)]
theorem Bc:∀(l:List Nat) (a b:Nat→Nat) (i:Nat),l.Nodup→(∀k,k≠i→b k=a k)→i∈l→b i<a i→(l.map b).sum<(l.map a).sum
 | [],_,_,_,_,_,h,_=>by simp at h
 | x::l,a,b,i,hn,he,hi,hlt=>by
  have hn':=List.nodup_cons.1 hn
  simp only[List.map_cons,List.sum_cons]
  by_cases e:x=i
  ·subst e
   have:(l.map b)=(l.map a):=List.map_congr_left fun k hk=>he k (fun e=>hn'.1 (e ▸ hk))
   rw[this]
   omega
  ·have:=Bc l a b i hn'.2 he (by rcases List.mem_cons.1 hi with h | h;exact absurd h.symm e;exact h) hlt
   have:=he x e
   omega
theorem LP{n i:Nat}{late:Nat→Int}{v:Int}(hi:i<n)(h:late i<v)(h2:v≤2):iY n (fun j=>if j=i then v else late j)<iY n late:=by
 unfold iY
 refine Bc _ _ _ i List.nodup_range (fun k hk=>by simp only[if_neg hk]) (List.mem_range.2 hi) ?_
 simp only[if_true]
 omega
theorem LY{p:Pg}{kd:List UInt8→Option Int}(hk:bA (fun _=>none) (aK p)=some kd){i:Nat}{x:Fw}(hx:p.fs[i]?=some x)(late:Nat→Int)(v:Nat):bY p.fs (fun j=>if j=i then (v:Int) else late j)=gH (bY p.fs late) x.name.data.toList v:=by
 funext s
 unfold bY gH
 by_cases e:s=x.name.data.toList
 ·rw[if_pos e,e,uZ hk hx]
  simp
 ·rw[if_neg e]
  cases hq:fA p.fs p.fs.length s with
  | none=>simp only[hq]
  | some k=>
   simp only[hq]
   have hne:k≠i:=fun e2=>by
    obtain⟨_,y,h1,h2⟩:=oK hq
    rw[e2,hx] at h1
    rw[←Option.some.inj h1] at h2
    exact e h2.symm
   simp only[if_neg hne]
theorem CY{p:Pg}{kd:List UInt8→Option Int}(hk:bA (fun _=>none) (aK p)=some kd){i:Nat}{x:Fw}(hx:p.fs[i]?=some x)(late:Nat→Int):bY p.fs late x.name.data.toList=(late i).toNat:=by
 unfold bY
 rw[uZ hk hx]
theorem CX{fs:List Fw}{late:Nat→Int}(h:∀k,0≤late k∧late k≤2)(s:List UInt8):bY fs late s≤2:=by
 unfold bY
 cases fA fs fs.length s with
 | none=>simp
 | some k=>have:=h k;simp only;omega
theorem Lx{p:Pg}{kd:List UInt8→Option Int}(hk:bA (fun _=>none) (aK p)=some kd){late:Nat→Int}(hl:∀k,0≤late k∧late k≤2)(k:Nat)(h:k<p.fs.length):late k=dP p (bY p.fs late) k:=by
 unfold dP
 rw[List.getElem?_eq_getElem h]
 simp only
 rw[CY hk (mP h)]
 have:=hl k
 omega
theorem LW(fs:List Fw):bY fs (fun _=>0)=fun _=>0:=by
 funext s
 unfold bY
 cases fA fs fs.length s<;>rfl
theorem CV(w:World)(S:Nat→Prop)(p:Pg)(o1 o2 o3 o4 o5:Option Addr)(I O N A C c1 c2 c3 c4 c5:Nat)(h:iC w S p o1 o2 o3 o4 o5 I O N A C c1 c2 c3 c4 c5)(kd:List UInt8→Option Int)(hk:bA (fun _=>none) (aK p)=some kd)(hfm:bG kd (aD p)=true)(hN:N≤400) :
  Calls Tryz.prog 17 #[(.agg #[.slice o1 I c1,.slice o2 O c2,.slice o3 N c3,.slice o4 A c4,.slice o5 C c5])] w fun e w'=>∃(f:List UInt8→Nat) (lb:Nat),e=.returned (.slice (some ⟨lb,0,none⟩) N N)∧gV p.fs f∧bD w' lb N (dP p f)∧w.heap.size≤lb∧Bw w w':=by
 obtain⟨w1,hw1⟩:∃w1,w1=w.alloc (.cells #[.slice o1 I c1,.slice o2 O c2,.slice o3 N c3,.slice o4 A c4,.slice o5 C c5] 27):=⟨_,rfl⟩
 obtain⟨B,hB⟩:∃B,B=w.heap.size:=⟨_,rfl⟩
 have hb1:Bw w w1:=by rw[hw1];exact aH
 have hr1:w1.heap[B]?=some (.cells #[.slice o1 I c1,.slice o2 O c2,.slice o3 N c3,.slice o4 A c4,.slice o5 C c5] 27 (0,0)):=by rw[hw1,hB];exact heap_alloc_new _ _
 have HB:Hid (Bw w w1∧N=p.fs.length∧N≤400):=⟨hb1,h.n,hN⟩
 have HC:Hid (∀W,Bw w1 W→W.cell? ⟨B,0,none⟩=some (.slice o1 I c1)∧W.cell? ⟨B,0+1,none⟩=some (.slice o2 O c2)∧W.cell? ⟨B,0+2,none⟩=some (.slice o3 N c3)∧W.cell? ⟨B,0+3,none⟩=some (.slice o4 A c4)∧W.cell? ⟨B,0+4,none⟩=some (.slice o5 C c5)):=fun W hW=>by
  have hr:=aG hW hr1
  refine⟨?_,?_,?_,?_,?_⟩<;>(rw[cell_of_row W _ _ _ _ (0,0) hr];rfl)
 have HW1:Hid (w.alloc (.cells #[.slice o1 I c1,.slice o2 O c2,.slice o3 N c3,.slice o4 A c4,.slice o5 C c5] 27)=w1∧w.heap.size=B):=⟨hw1.symm,hB.symm⟩
 have HPV:Hid (∀W,Bw w1 W→iC W S p o1 o2 o3 o4 o5 I O N A C c1 c2 c3 c4 c5):=fun W hW=>h.below (hb1.trans (hW.mono hb1.size))
 have HLA:Hid (∀(op:ByteArray) (n:Int) (s:ByteArray) (l:List Ex),(.mk op n s l:Ex)∈aD p→wS p N o1 o2 o3 o4 o5 I O A C c1 c2 c3 c4 c5 op n s l):=fun op n s l hx=>yP p N o1 o2 o3 o4 o5 I O A C c1 c2 c3 c4 c5 kd hk (by omega) _ op n s l (Nat.lt_succ_self _) (qB hfm hx)
 have HK:=aA hk
 have hm2:=nQ Tryz.underlying30 Tryz.lH rfl N (by omega) (by omega)
 obtain⟨a0,a1,a2,a3,a4⟩:=HC.out w1 (Below.refl _ _)
 clear h hk hfm hN hw1 hB hb1 hr1
 go_enter Tryz.func17,Tryz.ntmps17
 go_upto_region 1 with fail
 rw[HW1.out.1,HW1.out.2]
 go_upto_region 2 with fail
 obtain⟨lb,hlb⟩:∃lb,lb=w1.heap.size:=⟨_,rfl⟩
 obtain⟨w2,hw2⟩:∃w2,w2=w1.alloc (.cells (Array.replicate N (.int .i64 0)) 3):=⟨_,rfl⟩
 rw[←hlb,←hw2]
 have H2:Hid (bD w2 lb N (fun _=>0)∧Bw w1 w2∧w1.heap.size≤lb):=⟨by rw[hw2,hlb];exact bD.made _ _,by rw[hw2];exact aH,by omega⟩
 clear hlb hw2 hm2 a0 a1 a2 a3 a4
 go_wp2
 go_loopw [4] (fun t wr=>∃(m:Bool) (late:Nat→Int),t=.bool m∧Hid (oD wr lb N late∧kF p.fs (bY p.fs late)∧Bw w1 wr∧(m=false→oF p.fs (bY p.fs late)))) (fun t wr=>2*sM wr lb N+z8 t)
 case atStart=>exact⟨true,fun _=>0,rfl,⟨H2.out.1,fun k=>by omega⟩,by rw[LW];exact kF.start _,H2.out.2.1,fun h=>by cases h⟩
 case round=>
  obtain⟨m,late,rfl,HR⟩:=hrel
  cases m with
  | true=>
   have HM0:Hid (sM wr lb N=iY N late):=CK HR.out.1.row
   go_wp2
   go_loopw [4,5] (fun v t wx=>∃(c:Bool) (i:Nat) (la:Nat→Int),i≤N∧t=.int .i64 i∧v=.bool c∧Hid (oD wx lb N la∧kF p.fs (bY p.fs la)∧Bw w1 wx∧iY N la+(if c=true then 1 else 0)≤iY N late∧(c=false→∀(k:Nat) (x:Fw),k<i→p.fs[k]?=some x→aO (bY p.fs la) x.e≤bY p.fs la x.name.data.toList))) (fun _ t _=>N-(intOf t).toNat)
   case atStart=>exact⟨false,0,late,Nat.zero_le _,rfl,rfl,HR.out.1,HR.out.2.1,HR.out.2.2.1,by simp,fun _ k x hk=>by omega⟩
   case round=>
    obtain⟨c,i,la,hi,rfl,rfl,HX⟩:=hrel
    obtain⟨a0,a1,a2,a3,a4⟩:=HC.out wr HX.out.2.2.1
    by_cases hil:i<N
    ·have hif:i<p.fs.length:=by have:=HB.out.2.1;omega
     have hpv:=HPV.out wr HX.out.2.2.1
     obtain⟨x3,h3,g3⟩:=hpv.pg.fs
     rw[←HB.out.2.1] at h3
     obtain⟨nm,kd',op,n,s,es,oo,cc,zs,ej,_,_,k2,k3,k4,k5,r3,r4⟩:=g3.at hif
     obtain⟨b,off,c',ev,_,_,gg⟩:=h3.at (by rw[h3.1];omega)
     obtain⟨rfl,rfl⟩:o3=some ⟨b,off,none⟩∧c3=c':=by simpa using ev
     have y2:=gg _ _ k2
     have y3:=gg _ _ k3
     have y4:=gg _ _ k4
     have y5:=gg _ _ k5
     rw[←Nat.add_assoc] at y2 y3 y4 y5
     have i0':(0:Int)≤(i:Int):=by omega
     have i1':(i:Int)<(N:Int):=by omega
     have N4:Hid (wrap64 ((i:Int)+1)=(i:Int)+1):=by have:=HB.out.2.2;unfold Hid wrap64;omega
     have HJ:=aA hil
     have hx:p.fs[i]?=some ⟨nm,kd',.mk op n s es⟩:=by rw[List.getElem?_eq_getElem hif,ej]
     have ht1:(.mk op n s es:Ex)∈aD p:=by
      unfold aD
      exact List.mem_append_left _ (List.mem_map.2 ⟨_,List.mem_of_getElem? hx,rfl⟩)
     obtain⟨v,hv⟩:∃v,v=aO (bY p.fs la) (.mk op n s es):=⟨_,rfl⟩
     have hv2:v≤2:=by rw[hv];exact oO (CX HX.out.1.lo) _
     have HLW:Hid (∀W,Bw wr W→Calls Tryz.prog 51 #[(.agg #[.slice o1 I c1,.slice o2 O c2,.slice (some ⟨b,off,none⟩) N c3,.slice o4 A c4,.slice o5 C c5]),.agg #[.string op,.int .i64 n,.string s,.slice oo es.length cc],.slice (some ⟨lb,0,none⟩) N N] W fun e w'=>e=.returned (.int .i64 (v:Nat))∧Bw wr w'):=fun W hW=>by
      rw[hv]
      have hs:aP S S wr W:=fun q hq hl=>⟨hq,hW.block q hl⟩
      refine(HLA.out op n s es ht1 W S S oo cc lb zs la (hpv.keep hs) ⟨aG hW HX.out.1.row,HX.out.1.lo⟩ (r3.keep hs) (r4.keep hs)).mono ?_
      rintro e w' ⟨rfl,hb⟩
      exact⟨rfl,hW.trans (hb.mono hW.size)⟩
     have hla:=CY HK.out hx la
     have hlai:=HX.out.1.lo i
     have HLL:Hid (v≤2∧0≤la i∧la i≤2∧bY p.fs la nm.data.toList=(la i).toNat∧p.fs[i]?=some ⟨nm,kd',.mk op n s es⟩∧v=aO (bY p.fs la) (.mk op n s es)):=⟨hv2,hlai.1,hlai.2,hla,hx,hv⟩
     have HXX:Hid (oD wr lb N la∧kF p.fs (bY p.fs la)∧Bw w1 wr∧iY N la+(if c=true then 1 else 0)≤iY N late∧(c=false→∀(k:Nat) (x:Fw),k<i→p.fs[k]?=some x→aO (bY p.fs la) x.e≤bY p.fs la x.name.data.toList)):=HX.out
     clear ej k2 k3 k4 k5 r3 r4 ev gg h3 g3 hpv hx ht1 hv hv2 hla hlai hif hil hi HX
     by_cases hgt:la i<(v:Int)
     ·have HTL:Hid (∀w6,Bw wr w6→oD (w6.setCell ⟨lb,i,none⟩ (.int .i64 (v:Int))) lb N (fun j=>if j=i then (v:Int) else la j)∧kF p.fs (bY p.fs (fun j=>if j=i then (v:Int) else la j))∧Bw w1 (w6.setCell ⟨lb,i,none⟩ (.int .i64 (v:Int)))∧iY N (fun j=>if j=i then (v:Int) else la j)+(if true=true then 1 else 0)≤iY N late∧(true=false→∀(k:Nat) (x:Fw),k<i+1→p.fs[k]?=some x→aO (bY p.fs (fun j=>if j=i then (v:Int) else la j)) x.e≤bY p.fs (fun j=>if j=i then (v:Int) else la j) x.name.data.toList)):=fun w6 hb6=>by
       have hrow:bD w6 lb N la:=aG hb6 HXX.out.1.row
       refine⟨⟨hrow.set i v,fun k=>?_⟩,?_,?_,?_,fun h=>by cases h⟩
       ·by_cases e:k=i
        ·simp only[if_pos e];have:=HLL.out.1;omega
        ·simp only[if_neg e];exact HXX.out.1.lo k
       ·rw[LY HK.out HLL.out.2.2.2.2.1 la v,HLL.out.2.2.2.2.2]
        exact HXX.out.2.1.put (List.mem_of_getElem? HLL.out.2.2.2.2.1)
       ·exact(HXX.out.2.2.1.trans (hb6.mono HXX.out.2.2.1.size)).setCell (p:=⟨lb,i,none⟩) H2.out.2.2 _
       ·have h1:=LP HJ.out hgt (by have:=HLL.out.1;omega)
        have h2:=HXX.out.2.2.2.1
        have h3:iY N la≤iY N late:=Nat.le_trans (Nat.le_add_right _ _) h2
        simp only[if_true]
        omega
      go_upto_region 8 with fail
      go_region_with (go_at_call 51;refine(HLW.out _ (by first | exact Below.refl _ _ | exact(Below.refl _ _).drew)).mono ?_;rintro e w6 ⟨rfl,hb6⟩;have z0:w6.cell? ⟨lb,i,none⟩=some (.int .i64 (la i)):=(show bD w6 lb N la from aG hb6 HXX.out.1.row).cell HJ.out;have z1:w6.frozen? ⟨lb,i,none⟩=false:=(show bD w6 lb N la from aG hb6 HXX.out.1.row).free i)
      all_goals go_wp2
      all_goals exact⟨⟨true,i+1,fun j=>if j=i then (v:Int) else la j,HJ.out,by rw[N4.out];rfl,rfl,HTL.out w6 hb6⟩,by rw[N4.out];have:=HJ.out;simp [intOf];omega⟩
     ·have HTL:Hid (∀w6,Bw wr w6→oD w6 lb N la∧kF p.fs (bY p.fs la)∧Bw w1 w6∧iY N la+(if c=true then 1 else 0)≤iY N late∧(c=false→∀(k:Nat) (x:Fw),k<i+1→p.fs[k]?=some x→aO (bY p.fs la) x.e≤bY p.fs la x.name.data.toList)):=fun w6 hb6=>by
       refine⟨⟨aG hb6 HXX.out.1.row,HXX.out.1.lo⟩,HXX.out.2.1,HXX.out.2.2.1.trans (hb6.mono HXX.out.2.2.1.size),HXX.out.2.2.2.1,fun hc k x hk hx=>?_⟩
       by_cases e:k=i
       ·subst e
        rw[HLL.out.2.2.2.2.1] at hx
        rw[←Option.some.inj hx]
        simp only
        rw[HLL.out.2.2.2.1,←HLL.out.2.2.2.2.2]
        have:=HLL.out.2.1
        omega
       ·exact HXX.out.2.2.2.2 hc k x (by omega) hx
      go_upto_region 8 with fail
      go_region_with (go_at_call 51;refine(HLW.out _ (by first | exact Below.refl _ _ | exact(Below.refl _ _).drew)).mono ?_;rintro e w6 ⟨rfl,hb6⟩;have z0:w6.cell? ⟨lb,i,none⟩=some (.int .i64 (la i)):=(show bD w6 lb N la from aG hb6 HXX.out.1.row).cell HJ.out)
      all_goals go_wp2
      all_goals exact⟨⟨c,i+1,la,HJ.out,by rw[N4.out];rfl,rfl,HTL.out w6 hb6⟩,by rw[N4.out];have:=HJ.out;simp [intOf];omega⟩
    ·obtain rfl:N=i:=by omega
     have HF:Hid (sM wr lb N=iY N la∧(c=false→oF p.fs (bY p.fs la))):=by
      refine⟨CK HX.out.1.row,fun hc=>⟨CX HX.out.1.lo,fun x hx=>?_⟩⟩
      obtain⟨k,hk⟩:=List.mem_iff_getElem?.1 hx
      exact HX.out.2.2.2.2 hc k x (by have:=(aX hk).1;have:=HB.out.2.1;omega) hk
     have i1':¬(N:Int)<(N:Int):=by omega
     clear hi hil
     go_wp2
     refine⟨⟨c,la,rfl,HX.out.1,HX.out.2.1,HX.out.2.2.1,HF.out.2⟩,?_⟩
     have h1:=HX.out.2.2.2.1
     have h2:=HF.out.1
     have h3:=HM0.out
     cases c with
     | true=>simp [z8] at h1 ⊢;omega
     | false=>simp [z8] at h1 ⊢;omega
  | false=>
   have HE:Hid (gV p.fs (bY p.fs late)∧bD wr lb N (dP p (bY p.fs late))∧Bw w wr∧w.heap.size≤lb):=by
    refine⟨⟨HR.out.2.2.2 rfl,HR.out.2.1.2⟩,HR.out.1.row.congr fun k hk=>Lx HK.out HR.out.1.lo k (by have:=HB.out.2.1;omega),HB.out.1.trans (HR.out.2.2.1.mono HB.out.1.size),Nat.le_trans HB.out.1.size H2.out.2.2⟩
   clear HR
   go_wp2
   go_ret
   exact⟨_,lb,rfl,HE.out.1,HE.out.2.1,HE.out.2.2.2,HE.out.2.2.1⟩
end Go.Proofs.YtmgfakcccfahaaaGreatDoor
