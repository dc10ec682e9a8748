/-
  lustrumref2.OrderOf BY CONTRACT.
-/
import Derived.Test.YtmgfakcccfahaaaGreatDoorN45
import Derived.Test.YtmgfakcccfahaaaGreatDoorN46
namespace Go.Proofs.YtmgfakcccfahaaaGreatDoor
open Go.RowKit
set_option maxRecDepth 100000
set_option maxHeartbeats 8000000

theorem xU(c:Int)(w:World):Calls Tryz.prog 43 #[.int .i64 c] w fun e w'=>e=.returned (.agg #[.int .i64 c,.int .i64 (-1)])∧Bw w w':=by
 go_enter Tryz.func43,Tryz.ntmps43
 go_wp2
 exact bodyPost_ret (v:=.agg #[.int .i64 c,.int .i64 (-1)]) (by simp [results,Tryz.results43,go_sem]) rfl ⟨rfl,aH⟩
theorem BA(w:World):Calls Tryz.prog 45 #[] w fun e w'=>e=.returned (.agg #[.int .i64 0,.int .i64 (-1)])∧Bw w w':=by
 go_enter Tryz.func45,Tryz.ntmps45
 go_wp2
 exact bodyPost_ret (v:=.agg #[.int .i64 0,.int .i64 (-1)]) (by simp [results,Tryz.results45,go_sem]) rfl ⟨rfl,aH⟩
def gD(w:World)(F:Nat)(x y:Value):World:=(w.setCell ⟨F,0,none⟩ x).setCell ⟨F,1,none⟩ y
theorem BB{w:World}{F:Nat}{x y a b:Value}(h:w.heap[F]?=some (.cells #[a,b] 42 (0,0))):(gD w F x y).heap[F]?=some (.cells #[x,y] 42 (0,0)):=by
 unfold gD
 exact pM (pM h)
theorem BD{B:Nat}{w0 w:World}{F:Nat}{x y:Value}(h:Below B w0 w)(hF:B≤F):Below B w0 (gD w F x y):=by
 unfold gD
 exact(h.setCell (p:=⟨F,0,none⟩) hF x).setCell (p:=⟨F,1,none⟩) hF y
theorem zQ{c:Nat}(h:c≠0):0<dL c:=by
 match c,h with
 | 1,_=>decide
 | 2,_=>decide
 | _+3,_=>exact(by decide:(0:Int)<5)
def mQ(nd:List (List Nat))(d:List Nat)(i:Nat):Nat→Bool
 | 0=>!d.contains i
 | k+1=>mQ nd d i k&&(!bH nd i k||d.contains k)
theorem DL{nd:List (List Nat)}{d:List Nat}{i:Nat}:∀n,mQ nd d i n=true ↔ i ∉ d∧∀k,k<n→k∈aU nd i→k∈d
 | 0=>by simp [mQ]
 | n+1=>by
  unfold mQ
  rw[Bool.and_eq_true,DL n]
  unfold bH
  constructor
  ·rintro⟨⟨h1,h2⟩,h3⟩
   refine⟨h1,fun k hk hm=>?_⟩
   by_cases e:k=n
   ·subst e
    simpa [hm] using h3
   ·exact h2 k (by omega) hm
  ·rintro⟨h1,h2⟩
   refine⟨⟨h1,fun k hk=>h2 k (by omega)⟩,?_⟩
   by_cases hm:n∈aU nd i
   ·have:=h2 n (by omega) hm
    simp [hm,this]
   ·simp [hm]
theorem Ni{nd:List (List Nat)}(hlt:∀i,∀k∈aU nd i,k<nd.length){d:List Nat}{i:Nat}(hi:i<nd.length):mQ nd d i nd.length=true ↔ iU nd d i:=by
 rw[DL]
 unfold iU
 exact⟨fun h=>⟨hi,h.1,fun k hk=>h.2 k (hlt i k hk) hk⟩,fun h=>⟨h.2.1,fun k _ hk=>h.2.2 k hk⟩⟩
theorem NS(d:List Nat)(i:Nat):(fun j=>if j=i then true else d.contains j)=fun j=>(d++[i]).contains j:=by
 funext j
 by_cases h:j=i
 ·subst h;simp
 ·simp [h]
def qE(p:Pg)(base:Nat)(w':World)(v:Value)(c a:Int):Prop:=
 (aQ p≠0∧v=.slice none 0 0∧c=dL (aQ p)∧a=-1) ∨
 (aQ p=0∧∃m:Nat,m<p.fs.length∧bP (aN p.fs) m m∧(∀j,j<m→¬bP (aN p.fs) j j)∧v=.slice none 0 0∧c=6∧a=(m:Int)) ∨
 ∃(d:List Nat) (o:Option Addr) (k:Nat),iT p d∧v=.slice o d.length k∧c=0∧a=-1∧w'.ownsRow base 3 1 (.slice o d.length k) d.length ((cI d).map (Value.int .i64))
structure wR(w4 wr:World)(D N:Nat)(d:List Nat)(so:Option Addr)(sc:Nat):Prop where
 dn:aT wr D N fun k=>d.contains k
 own:wr.ownsRow w4.heap.size 3 1 (.slice so d.length sc) d.length ((cI d).map (Value.int .i64))
 mv:Mv D w4 wr
 D:D<w4.heap.size
theorem BQ(w:World)(S:Nat→Prop)(p:Pg)(o1 o2 o3 o4 o5:Option Addr)(I O N A C c1 c2 c3 c4 c5:Nat)(h:iC w S p o1 o2 o3 o4 o5 I O N A C c1 c2 c3 c4 c5)(hok:lN p) :
  Calls Tryz.prog 12 #[(.agg #[.slice o1 I c1,.slice o2 O c2,.slice o3 N c3,.slice o4 A c4,.slice o5 C c5])] w fun e w'=>Bw w w'∧∃v c a,e=.returned (.tuple #[v,.agg #[.int .i64 c,.int .i64 a]])∧qE p w.heap.size w' v c a:=by
 obtain⟨w1,hw1⟩:∃w1,w1=(w.alloc (.cells #[.slice o1 I c1,.slice o2 O c2,.slice o3 N c3,.slice o4 A c4,.slice o5 C c5] 27)).alloc (.cells #[.int .i64 0,.int .i64 0] 42):=⟨_,rfl⟩
 obtain⟨B,hB⟩:∃B,B=w.heap.size:=⟨_,rfl⟩
 have hb0:Bw w (w.alloc (.cells #[.slice o1 I c1,.slice o2 O c2,.slice o3 N c3,.slice o4 A c4,.slice o5 C c5] 27)):=aH
 have hb1:Bw w w1:=by rw[hw1];exact hb0.alloc hb0.size _
 have hr1:w1.heap[B]?=some (.cells #[.slice o1 I c1,.slice o2 O c2,.slice o3 N c3,.slice o4 A c4,.slice o5 C c5] 27 (0,0)):=by rw[hw1,hB];exact aG (aH) (heap_alloc_new _ _)
 have hr2:w1.heap[B+1]?=some (.cells #[.int .i64 0,.int .i64 0] 42 (0,0)):=by rw[hw1,hB];exact dX _ _ _
 have hs1:w1.heap.size=B+2:=by rw[hw1,hB,World.size_alloc,World.size_alloc]
 have HB:Hid (Bw w w1∧N=p.fs.length∧w1.heap.size=B+2∧B=w.heap.size):=⟨hb1,h.n,hs1,hB⟩
 have HC:Hid (∀W,Bw w1 W→(W.cell? ⟨B,0,none⟩=some (.slice o1 I c1)∧W.cell? ⟨B,0+1,none⟩=some (.slice o2 O c2)∧W.cell? ⟨B,0+2,none⟩=some (.slice o3 N c3)∧W.cell? ⟨B,0+3,none⟩=some (.slice o4 A c4)∧W.cell? ⟨B,0+4,none⟩=some (.slice o5 C c5))∧W.heap[B+1]?=some (.cells #[.int .i64 0,.int .i64 0] 42 (0,0))∧W.cell? ⟨B+1,0,none⟩=some (.int .i64 0)∧W.cell? ⟨B+1,0+1,none⟩=some (.int .i64 0)∧W.frozen? ⟨B+1,0,none⟩=false∧W.frozen? ⟨B+1,0+1,none⟩=false):=fun W hW=>by
  have hr:=aG hW hr1
  have hr':=aG hW hr2
  refine⟨⟨?_,?_,?_,?_,?_⟩,hr',?_,?_,dW hr',dW hr'⟩<;>first | (rw[cell_of_row W _ _ _ _ (0,0) hr];rfl) | (rw[cell_of_row W _ _ _ _ (0,0) hr'];rfl)
 have HW1:Hid ((w.alloc (.cells #[.slice o1 I c1,.slice o2 O c2,.slice o3 N c3,.slice o4 A c4,.slice o5 C c5] 27)).alloc (.cells #[.int .i64 0,.int .i64 0] 42)=w1∧w.heap.size=B):=⟨hw1.symm,hB.symm⟩
 have HPV:Hid (∀W,Bw w1 W→iC W S p o1 o2 o3 o4 o5 I O N A C c1 c2 c3 c4 c5):=fun W hW=>h.below (hb1.trans (hW.mono hb1.size))
 have HFE:Hid (Calls Tryz.prog 42 #[(.agg #[.slice o1 I c1,.slice o2 O c2,.slice o3 N c3,.slice o4 A c4,.slice o5 C c5])] w1 fun e w'=>e=.returned (.int .i64 (dL (aQ p)))∧Bw w1 w'):=by
  have hp:=HPV.out w1 (Below.refl _ _)
  have:=Nq w1 S p o1 o2 o3 o4 o5 c1 c2 c3 c4 c5 hp.pg hok
  rw[←hp.i,←hp.o,←hp.n,←hp.a,←hp.c] at this
  exact this
 obtain⟨⟨a0,a1,a2,a3,a4⟩,f0,f1,f2,f3,f4⟩:=HC.out w1 (Below.refl _ _)
 -- the end with a fault
 have HEND:Hid (∀W x y,Bw w1 W→(gD W (B+1) x y).cell? ⟨B+1,0,none⟩=some x∧(gD W (B+1) x y).cell? ⟨B+1,1,none⟩=some y∧Bw w (gD W (B+1) x y)):=fun W x y hW=>by
  have hr:=BB (x:=x) (y:=y) (HC.out W hW).2.1
  have hb:=hb1.trans (hW.mono hb1.size)
  exact⟨cr hr rfl,cr hr rfl,BD hb (by omega)⟩
 have HOK:=aA hok
 clear h hok hw1 hB hb0 hb1 hr1 hr2 hs1
 by_cases hfc:aQ p=0
 ·have HF0:Hid (dL (aQ p)=0):=by unfold Hid;rw[hfc];rfl
  obtain⟨kd,hk,_,hfm,_,h400,_⟩:=sZ hfc
  have HNO:Hid (∀W,Bw w1 W→Calls Tryz.prog 44 #[(.agg #[.slice o1 I c1,.slice o2 O c2,.slice o3 N c3,.slice o4 A c4,.slice o5 C c5])] W fun e w'=>∃w2 M r1 r2,e=.returned (.tuple #[.slice (some ⟨M,0,none⟩) N N,.slice (some ⟨M+1,0,none⟩) N N])∧dH w2 w' M N N r1 r2 (bH (aN p.fs)) (fZ (bH (aN p.fs)) N)∧Bw W w'):=fun W hW=>Lb W S p o1 o2 o3 o4 o5 I O N A C c1 c2 c3 c4 c5 (HPV.out W hW) kd hk hfm (by have:=HB.out.2.1;omega)
  have hnl:(aN p.fs).length=N:=by unfold aN;rw[List.length_map];exact HB.out.2.1.symm
  have HND:Hid ((aN p.fs).length=N∧(∀i,∀k∈aU (aN p.fs) i,k<(aN p.fs).length)∧N≤400∧aQ p=0):=⟨hnl,fun i k hk=>vB _ i k hk,by have:=HB.out.2.1;omega,hfc⟩
  have hm2:=nQ Tryz.underlying103 Tryz.Dn rfl N (by have:=HND.out.2.2.1;omega) (by omega)
  have HRC:Hid (∀i j,fZ (bH (aN p.fs)) N i j=true ↔ bP (aN p.fs) i j):=fun i j=>by
   have:=FJ HND.out.2.1 i j
   rw[HND.out.1] at this
   exact this
  clear hfc hk hfm h400 hnl
  obtain⟨nd,hnd⟩:∃nd,nd=aN p.fs:=⟨_,rfl⟩
  have HNE:=aA hnd
  rw[←hnd] at HNO HND HRC
  obtain⟨g2,hg2⟩:∃g2,g2=fZ (bH nd) N:=⟨_,rfl⟩
  rw[←hg2] at HNO HRC
  clear hnd hg2
  go_enter Tryz.func12,Tryz.ntmps12
  go_upto_region 1 with fail
  rw[HW1.out.1,HW1.out.2]
  rw[HF0.out] at HFE
  go_wp2_with (first | (go_at_call 42;refine HFE.out.mono ?_;rintro e w2 ⟨rfl,hb2⟩;have HB2:=aA hb2;clear hb2 a0 a1 a2 a3 a4 f0 f1 f2 f3 f4;obtain⟨⟨a0,a1,a2,a3,a4⟩,f0,f1,f2,f3,f4⟩:=HC.out w2 HB2.out) | (go_at_call 44;refine(HNO.out w2 HB2.out).mono ?_;rintro e w3 ⟨wx,M,r1,r2,rfl,hn3,hb3⟩) | fail)
  have H3:Hid (dH wx w3 M N N r1 r2 (bH nd) g2∧Bw w1 w3):=⟨hn3,HB2.out.trans (hb3.mono HB2.out.size)⟩
  clear hn3 hb3 a0 a1 a2 a3 a4 f0 f1 f2 f3 f4 HNO HFE HF0
  go_loopw [7] (fun t wr=>∃i:Nat,i≤N∧t=.int .i64 i∧wr=w3∧Hid (∀k,k<i→g2 k k=false)) (fun t _=>N-(intOf t).toNat)
  case atStart=>exact⟨0,Nat.zero_le _,rfl,rfl,fun k hk=>by omega⟩
  case round=>
   obtain⟨i,hi,rfl,rfl,HI⟩:=hrel
   obtain⟨⟨a0,a1,a2,a3,a4⟩,f0,f1,f2,f3,f4⟩:=HC.out wr H3.out.2
   by_cases hil:i<N
   ·have i0':(0:Int)≤(i:Int):=by omega
    have i1':(i:Int)<(N:Int):=by omega
    have d0:wr.cell? ⟨M+1,i,none⟩=some (.slice (some ⟨r2 i,0,none⟩) N N):=by
     have:=H3.out.1.m2.cell hil
     rw[if_pos hil] at this
     exact this
    have d1:=(H3.out.1.lC i hil).cell hil
    have HJ:=aA hil
    cases hg:g2 i i with
    | true=>
     rw[hg] at d1
     have HE:Hid (bP nd i i∧∀j,j<i→¬bP nd j j):=⟨(HRC.out i i).1 hg,fun j hj hr=>by have:=(HRC.out j j).2 hr;rw[HI.out j hj] at this;cases this⟩
     clear hg hi hil HI
     go_wp2
     obtain⟨z0,z1,zb⟩:=HEND.out wr (.int .i64 6) (.int .i64 (i:Int)) H3.out.2
     unfold gD at z0 z1 zb
     refine bodyPost_ret (v:=.tuple #[.slice none 0 0,.agg #[.int .i64 6,.int .i64 (i:Int)]]) (by simp [results,Tryz.results12,go_sem,z0,z1]) rfl ?_
     have he:=HE.out
     rw[HNE.out] at he
     exact⟨zb,_,_,_,rfl,.inr (.inl ⟨HND.out.2.2.2,i,by have:=HB.out.2.1;have:=HJ.out;omega,he.1,he.2,rfl,rfl,rfl⟩)⟩
    | false=>
     rw[hg] at d1
     have HN:Hid (∀k,k<i+1→g2 k k=false):=fun k hk=>by
      by_cases e:k=i
      ·rw[e];exact hg
      ·exact HI.out k (by omega)
     have N4:Hid (wrap64 ((i:Int)+1)=(i:Int)+1):=by have:=HND.out.2.2.1;have:=HJ.out;unfold Hid wrap64;omega
     clear hg hi hil HI
     go_wp2
     exact⟨⟨i+1,HJ.out,by rw[N4.out];rfl,trivial,HN.out⟩,by rw[N4.out];have:=HJ.out;simp [intOf];omega⟩
   ·obtain rfl:N=i:=by omega
    have HAC:Hid (∀i,¬bP nd i i):=fun i hr=>by
     have hiN:i<N:=by
      have:i<nd.length:=by
       rcases Nat.lt_or_ge i nd.length with h | h
       ·exact h
       ·exfalso
        have he:aU nd i=[]:=by unfold aU;rw[List.getElem?_eq_none h];rfl
        cases hr with
        | one _ _ hk=>rw[he] at hk;simp at hk
        | more _ k _ hk _=>rw[he] at hk;simp at hk
      rw[←HND.out.1];exact this
     have:=(HRC.out i i).2 hr
     rw[HI.out i hiN] at this
     cases this
    have i1':¬(N:Int)<(N:Int):=by omega
    clear hi hil HI
    go_upto_region 11 with fail
    obtain⟨D,hD⟩:∃D,D=wr.heap.size:=⟨_,rfl⟩
    obtain⟨w4,hw4⟩:∃w4,w4=wr.alloc (.cells (Array.replicate N (.bool false)) 4):=⟨_,rfl⟩
    rw[←hD,←hw4]
    have hb4:Bw wr w4:=by rw[hw4];exact aH
    have H4:Hid (wR w4 w4 D N [] none 0∧Bw w1 w4∧dH wx w4 M N N r1 r2 (bH nd) g2∧(∀i,i<N→r1 i<D)∧M<D∧w1.heap.size≤D):=by
     have hDl:D<w4.heap.size:=by rw[hw4,World.size_alloc,hD];omega
     have hN3:=H3.out.1
     refine⟨⟨?_,World.ownsRow_nil _ _ _ _,vG _ _,hDl⟩,H3.out.2.trans (hb4.mono H3.out.2.size),⟨hN3.b.trans (hb4.mono hN3.b.size),hN3.m,aG hb4 hN3.m1,aG hb4 hN3.m2,fun i hi=>aG hb4 (hN3.qI i hi),fun i hi=>aG hb4 (hN3.lC i hi),fun i hi=>by have:=hN3.hi i hi;have:=hb4.size;omega,hN3.inc⟩,fun i hi=>by have:=hN3.hi i hi;omega,by have:=(bE hN3.m1).1;omega,by have:=H3.out.2.size;omega⟩
     rw[hw4,hD]
     have:=aT.made wr N
     simpa using this
    clear hD hw4 hb4 hm2 a0 a1 a2 a3 a4 f0 f1 f2 f3 f4
    have H3B:Hid (Bw w1 wr):=H3.out.2
    clear H3
    go_wp2
    obtain⟨i0,hi0,hz0,hz1,hz2⟩:=info_parts Tryz.yZ
    -- what holds of a world of the loops
    have HWK:Hid (∀W,Mv D w4 W→Bw w1 W∧(∀i,i<N→W.cell? ⟨M,i,none⟩=some (.slice (some ⟨r1 i,0,none⟩) N N))∧(∀i k,i<N→k<N→W.cell? ⟨r1 i,k,none⟩=some (.bool (bH nd i k)))):=fun W hW=>by
     obtain⟨hD0,hb,hn,hr,hM,hwD⟩:=H4.out
     refine⟨⟨hW.os.trans hb.os,hW.tape.trans hb.tape,hW.output.trans hb.output,Nat.le_trans hb.size hW.size,fun b hbb=>(hW.block b (Nat.lt_of_lt_of_le hbb hb.size) (fun e=>by have:=Option.some.inj e;omega)).trans (hb.block b hbb)⟩,fun i hi=>?_,fun i k hi hk=>?_⟩
     ·have:=(show bU W M N N r1 from vF hW (by omega) hn.m1).cell hi
      rw[if_pos hi] at this
      exact this
     ·exact(show aT W (r1 i) N (bH nd i) from vF hW (by have:=hr i hi;omega) (hn.qI i hi)).cell hk
    go_loopw [9] (fun v wr=>∃(d:List Nat) (so:Option Addr) (sc:Nat),d.length≤N∧v=.slice so d.length sc∧Hid (wR w4 wr D N d so sc∧bV nd d)) (fun v _=>N-pY v)
    case atStart=>exact⟨[],none,0,Nat.zero_le _,rfl,H4.out.1,bV.nil⟩
    case round=>
     obtain⟨d,so,sc,hd,rfl,HR⟩:=hrel
     obtain⟨hWb,_,_⟩:=HWK.out wr HR.out.1.mv
     obtain⟨⟨a0,a1,a2,a3,a4⟩,f0,f1,f2,f3,f4⟩:=HC.out wr hWb
     obtain⟨dl,hdl⟩:∃dl,dl=d.length:=⟨_,rfl⟩
     rw[←hdl] at hd ⊢
     by_cases hdn:dl<N
     ·have l1':(dl:Int)<(N:Int):=by omega
      have HDL:Hid (dl=d.length∧dl<N):=⟨hdl,hdn⟩
      have HR0:Hid (wR w4 wr D N d so sc):=HR.out.1
      have HGR:Hid (bV nd d):=HR.out.2
      clear hd hdn hdl hWb HR
      go_wp2
      clear a0 a1 a2 a3 a4 f0 f1 f2 f3 f4
      go_loopw [9,10] (fun v t wx=>∃i:Nat,i≤N∧t=.int .i64 i∧v=.slice so dl sc∧wx=wr∧Hid (∀k,k<i→¬iU nd d k)) (fun _ t _=>N-(intOf t).toNat)
      case atStart=>exact⟨0,Nat.zero_le _,rfl,rfl,rfl,fun k hk=>by omega⟩
      case round=>
       obtain⟨i,hi,rfl,rfl,rfl,HI⟩:=hrel
       obtain⟨hWb,hWM,hWr⟩:=HWK.out wr HR0.out.mv
       obtain⟨⟨a0,a1,a2,a3,a4⟩,f0,f1,f2,f3,f4⟩:=HC.out wr hWb
       by_cases hil:i<N
       ·have i0':(0:Int)≤(i:Int):=by omega
        have i1':(i:Int)<(N:Int):=by omega
        have HIN:=aA hil
        have q0:=HR0.out.dn.cell hil
        have HRI:Hid (∀k,k<N→wr.cell? ⟨r1 i,k,none⟩=some (.bool (bH nd i k))∧wr.cell? ⟨D,k,none⟩=some (.bool (d.contains k))):=fun k hk=>⟨hWr i k hil hk,HR0.out.dn.cell hk⟩
        have HMI:Hid (wr.cell? ⟨M,i,none⟩=some (.slice (some ⟨r1 i,0,none⟩) N N)):=hWM i hil
        have HWB2:=aA hWb
        clear hi hil hWM hWr hWb
        go_wp2
        clear a0 a1 a2 a3 a4 f0 f1 f2 f3 f4 q0
        go_loopw [11,12] (fun f t wx=>∃k:Nat,k≤N∧t=.int .i64 k∧f=.bool (mQ nd d i k)∧wx=wr) (fun _ t _=>N-(intOf t).toNat)
        case atStart=>exact⟨0,Nat.zero_le _,rfl,by simp [mQ],rfl⟩
        case round=>
         obtain⟨k,hk,rfl,rfl,rfl⟩:=hrel
         obtain⟨⟨a0,a1,a2,a3,a4⟩,f0,f1,f2,f3,f4⟩:=HC.out wr HWB2.out
         by_cases hkl:k<N
         ·have k0':(0:Int)≤(k:Int):=by omega
          have k1':(k:Int)<(N:Int):=by omega
          obtain⟨q1,q2⟩:=HRI.out k hkl
          have q0:=HMI.out
          have NK:Hid (wrap64 ((k:Int)+1)=(k:Int)+1):=by have:=HND.out.2.2.1;unfold Hid wrap64;omega
          have HKN:=aA hkl
          obtain⟨fr,hfr⟩:∃fr,fr=mQ nd d i k:=⟨_,rfl⟩
          obtain⟨x,hx⟩:∃x,x=bH nd i k:=⟨_,rfl⟩
          obtain⟨y,hy⟩:∃y,y=d.contains k:=⟨_,rfl⟩
          have HFR:Hid (mQ nd d i (k+1)=(fr&&(!x||y))):=by rw[hfr,hx,hy];rfl
          rw[←hfr]
          rw[←hx] at q1
          rw[←hy] at q2
          clear hfr hx hy hk hkl
          cases fr with
          | false=>
           go_wp2
           exact⟨⟨k+1,HKN.out,by rw[NK.out];rfl,by rw[HFR.out];rfl,trivial⟩,by rw[NK.out];have:=HKN.out;simp [intOf];omega⟩
          | true=>
           cases x with
           | false=>
            go_wp2
            exact⟨⟨k+1,HKN.out,by rw[NK.out];rfl,by rw[HFR.out];rfl,trivial⟩,by rw[NK.out];have:=HKN.out;simp [intOf];omega⟩
           | true=>
            go_wp2
            exact⟨⟨k+1,HKN.out,by rw[NK.out];rfl,by rw[HFR.out];simp,trivial⟩,by rw[NK.out];have:=HKN.out;simp [intOf];omega⟩
         ·obtain rfl:N=k:=by omega
          have k1':¬(N:Int)<(N:Int):=by omega
          have hff:=Ni HND.out.2.1 (d:=d) (i:=i) (by rw[HND.out.1];exact HIN.out)
          rw[HND.out.1] at hff
          have NI:Hid (wrap64 ((i:Int)+1)=(i:Int)+1):=by have:=HND.out.2.2.1;have:=HIN.out;unfold Hid wrap64;omega
          cases hfr:mQ nd d i N with
          | false=>
           have HN:Hid (∀k,k<i+1→¬iU nd d k):=fun k hk=>by
            by_cases e:k=i
            ·rw[e];intro hf;rw[hff.2 hf] at hfr;cases hfr
            ·exact HI.out k (by omega)
           clear hk hkl hff hfr
           go_wp2
           exact⟨⟨i+1,HIN.out,by rw[NI.out];rfl,by first | rfl | trivial,by first | rfl | trivial,HN.out⟩,by rw[NI.out];have:=HIN.out;simp [intOf];omega⟩
          | true=>
           have HG2:Hid (bV nd (d++[i])):=bV.snoc d i HGR.out (hff.1 hfr) HI.out
           have z0:=(HRI.out i HIN.out).2
           have z1:=HR0.out.dn.free i
           clear hk hkl hff hfr
           obtain⟨w5,hw5⟩:∃w5,w5=wr.setCell ⟨D,i,none⟩ (.bool true):=⟨_,rfl⟩
           have hs5:w5.heap.size=wr.heap.size:=by rw[hw5];simp [World.setCell]
           have hb5:∀b,b≠D→w5.heap[b]?=wr.heap[b]?:=fun b hb=>by rw[hw5];exact Below.heap_setCell _ _ _ _ hb
           have hown5:w5.ownsRow w4.heap.size 3 1 (.slice so d.length sc) d.length ((cI d).map (Value.int .i64)):=by
            have h:=HR0.out.own
            have hD:=HR0.out.D
            obtain⟨e1,e2⟩:=h
            refine⟨e1,?_⟩
            rcases e2 with e2 | ⟨gb,cap,cur,e3,e4,e5,e6⟩
            ·exact .inl e2
            ·exact .inr ⟨gb,cap,cur,e3,e4,by rw[hb5 gb (by omega)];exact e5,e6⟩
           have hm5:Mv D w4 w5:=by rw[hw5];exact kL HR0.out.mv (Mv.setAt D i wr _)
           have hdn5:aT w5 D N (fun k=>(d++[i]).contains k):=by
            rw[←NS,hw5]
            exact HR0.out.dn.set i true
           have H5:Hid (w5.ownsRow w4.heap.size 3 1 (.slice so d.length sc) d.length ((cI d).map (Value.int .i64))∧Mv D w4 w5∧aT w5 D N (fun k=>(d++[i]).contains k)):=⟨hown5,hm5,hdn5⟩
           have HW5:Hid (wr.setCell ⟨D,i,none⟩ (.bool true)=w5):=hw5.symm
           clear hown5 hm5 hdn5 hw5 hs5 hb5
           go_upto_region 23 with fail
           rw[HW5.out]
           clear z0 z1 a0 a1 a2 a3 a4 f0 f1 f2 f3 f4
           have HOW:Hid ((w5.alloc (.cells #[.int .i64 (i:Nat)] 3)).ownsRow w4.heap.size 3 1 (.slice so dl sc) dl ((cI d).map (Value.int .i64))∧w4.heap.size≤(w5.alloc (.cells #[.int .i64 (i:Nat)] 3)).heap.size∧Mv D w4 (w5.alloc (.cells #[.int .i64 (i:Nat)] 3))):=by
            have hba:Bw w5 (w5.alloc (.cells #[.int .i64 (i:Nat)] 3)):=aH
            rw[HDL.out.1]
            exact⟨l9 H5.out.1 hba,Nat.le_trans H5.out.2.1.size hba.size,kL H5.out.2.1 (Mv.of_below hba)⟩
           have HNW:Hid _:=World.news_of_block (heap_alloc_new w5 (.cells #[.int .i64 (i:Nat)] 3))
           have HM:Hid (dl+1≤maxLen∧(dl+1)*8≤140737488355328):=by have:=HDL.out.2;have:=HND.out.2.2.1;unfold Hid maxLen;omega
           go_wp2_with (first | (at_builtin;refine wpList_append_lies _ rfl _ _ 30 rfl w4.heap.size 3 i0 _ 1 8 Tryz.underlying30 hi0 hz0 hz1 hz2 rfl (by omega) (.slice so dl sc) dl ((cI d).map (Value.int .i64)) rfl HOW.out.1 ⟨w5.heap.size,0,none⟩ 1 1 [.int .i64 (i:Nat)] rfl rfl HNW.out (by simp [Value.oneCell']) (by omega) HM.out.1 HM.out.2 HOW.out.2.1 _ rfl ?_;intro gb cap w7 hown7 hgrow hat hlt7) | go_in)
           have HFIN:wR w4 w7 D N (d++[i]) (some ⟨gb,0,none⟩) cap:=by
            have hDD:=HR0.out.D
            have hown:=HOW.out.1
            have hgr:Mv D w4 w7:=by
             refine⟨hgrow.os.trans HOW.out.2.2.os,hgrow.tape.trans HOW.out.2.2.tape,hgrow.output.trans HOW.out.2.2.output,Nat.le_trans HOW.out.2.2.size hgrow.size,fun b hb hne=>(hgrow.block b (Nat.lt_of_lt_of_le hb HOW.out.2.2.size) (fun e=>?_)).trans (HOW.out.2.2.block b hb hne)⟩
             have:=(hown.lt b e.symm).1
             omega
            refine⟨?_,?_,hgr,hDD⟩
            ·have h1:aT (w5.alloc (.cells #[.int .i64 (i:Nat)] 3)) D N (fun k=>(d++[i]).contains k):=aG (aH) H5.out.2.2
             unfold aT at h1 ⊢
             rw[hgrow.block D (bE h1).1 (fun e=>by have:=(hown.lt D e.symm).1;omega)]
             exact h1
            ·have e1:(cI (d++[i])).map (Value.int .i64)=(cI d).map (Value.int .i64)++[.int .i64 (i:Nat)]:=by simp [cI]
             rw[e1,List.length_append,←HDL.out.1]
             exact hown7
           exact⟨⟨d++[i],_,_,by rw[List.length_append,←HDL.out.1];have:=HDL.out.2;simp;omega,by rw[List.length_append,←HDL.out.1];rfl,HFIN,HG2.out⟩,by have:=HDL.out.2;simp [pY];omega⟩
       ·exfalso
        have:=bV.cycle (fun k hf=>HI.out k (by have:=hf.1;rw[HND.out.1] at this;omega) hf) (by rw[HND.out.1,←HDL.out.1];exact HDL.out.2) HND.out.2.1
        obtain⟨k,_,hk⟩:=this
        exact HAC.out k hk
     ·have hdN:d.length=N:=by rw[←hdl];omega
      have l1':¬(dl:Int)<(N:Int):=by omega
      have HFI:Hid (iT p d∧wr.ownsRow w4.heap.size 3 1 (.slice so dl sc) dl ((cI d).map (Value.int .i64))∧dl=d.length):=by
       refine⟨⟨HND.out.2.2.2,?_,by rw[hdN];exact HB.out.2.1⟩,by rw[hdl];exact HR.out.1.own,hdl⟩
       have:=HR.out.2
       rw[HNE.out] at this
       exact this
      have HWB2:=aA hWb
      have hw48:w.heap.size≤w4.heap.size:=Nat.le_trans HB.out.1.size H4.out.2.1.size
      have H48:Hid (w.heap.size≤w4.heap.size∧B+1<w4.heap.size):=⟨hw48,by have:=H4.out.2.1.size;have:=HB.out.2.2.1;omega⟩
      clear hd hdn hdl hWb HR hdN hw48
      go_wp2_with (first | (go_at_call 45;refine(BA wr).mono ?_;rintro e w6 ⟨rfl,hb6⟩;have HB6:Hid (Bw wr w6∧Bw w1 w6):=⟨hb6,HWB2.out.trans (hb6.mono HWB2.out.size)⟩;clear hb6 a0 a1 a2 a3 a4 f0 f1 f2 f3 f4;obtain⟨_,f0,f1,f2,f3,f4⟩:=HC.out w6 HB6.out.2) | fail)
      obtain⟨z0,z1,zb⟩:=HEND.out w6 (.int .i64 0) (.int .i64 (-1)) HB6.out.2
      have hownE:(gD w6 (B+1) (.int .i64 0) (.int .i64 (-1))).ownsRow w.heap.size 3 1 (.slice so d.length sc) d.length ((cI d).map (Value.int .i64)):=by
       have h:=l9 HFI.out.2.1 HB6.out.1
       rw[HFI.out.2.2] at h
       obtain⟨e1,e2⟩:=h
       refine⟨e1,?_⟩
       rcases e2 with e2 | ⟨gb,cap,cur,e3,e4,e5,e6⟩
       ·exact .inl e2
       ·refine .inr ⟨gb,cap,cur,e3,by have:=H48.out.1;omega,?_,e6⟩
        have hne:gb≠B+1:=by have:=H48.out.2;omega
        unfold gD
        rw[Below.heap_setCell _ _ _ _ hne,Below.heap_setCell _ _ _ _ hne]
        exact e5
      have HOE:=aA hownE
      have HDE:Hid (dl=d.length∧iT p d):=⟨HFI.out.2.2,HFI.out.1⟩
      clear hownE
      unfold gD at z0 z1 zb
      refine bodyPost_ret (v:=.tuple #[.slice so dl sc,.agg #[.int .i64 0,.int .i64 (-1)]]) (by simp [results,Tryz.results12,go_sem,z0,z1]) rfl ?_
      exact⟨zb,_,_,_,rfl,.inr (.inr ⟨d,so,sc,HDE.out.2,by rw[HDE.out.1],rfl,rfl,HOE.out⟩)⟩
 ·have hp:=zQ hfc
  obtain⟨ec,hec⟩:∃ec,ec=dL (aQ p):=⟨_,rfl⟩
  rw[←hec] at hp HFE
  have HE:Hid (ec=dL (aQ p)∧aQ p≠0):=⟨hec,hfc⟩
  clear hec hfc HOK
  go_enter Tryz.func12,Tryz.ntmps12
  go_upto_region 1 with fail
  rw[HW1.out.1,HW1.out.2]
  go_wp2_with (first | (go_at_call 42;refine HFE.out.mono ?_;rintro e w2 ⟨rfl,hb2⟩;clear a0 a1 a2 a3 a4 f0 f1 f2 f3 f4) | (go_at_call 43;refine(xU ec w2).mono ?_;rintro e w3 ⟨rfl,hb3⟩;have HB3:Hid (Bw w1 w3):=hb2.trans (hb3.mono hb2.size);obtain⟨_,f0,f1,f2,f3,f4⟩:=HC.out w3 HB3.out) | fail)
  obtain⟨z0,z1,zb⟩:=HEND.out w3 (.int .i64 ec) (.int .i64 (-1)) HB3.out
  unfold gD at z0 z1 zb
  refine bodyPost_ret (v:=.tuple #[.slice none 0 0,.agg #[.int .i64 ec,.int .i64 (-1)]]) (by simp [results,Tryz.results12,go_sem,z0,z1]) rfl ?_
  exact⟨zb,_,_,_,rfl,.inl ⟨HE.out.2,rfl,HE.out.1,rfl⟩⟩
end Go.Proofs.YtmgfakcccfahaaaGreatDoor
