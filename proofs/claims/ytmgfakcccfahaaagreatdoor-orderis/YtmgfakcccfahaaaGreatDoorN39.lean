/-
  lustrumref2: flowOf, lateOf BY CONTRACT.
-/
import Derived.Test.YtmgfakcccfahaaaGreatDoorN37
import Derived.Test.YtmgfakcccfahaaaGreatDoorN38
namespace Go.Proofs.YtmgfakcccfahaaaGreatDoor
open Go.RowKit
set_option maxRecDepth 100000
set_option maxHeartbeats 8000000

def iN(fs:List Fw)(s:List UInt8):Int:=match fA fs fs.length s with
 | some k=>(k:Nat)
 | none=>-1
theorem K3{p:Pg}{kd:List UInt8→Option Int}(hk:bA (fun _=>none) (aK p)=some kd){j:Nat}{x:Fw}{s:List UInt8}(hj:p.fs[j]?=some x)(hx:x.name.data.toList=s):iN p.fs s=(j:Nat):=by
 unfold iN
 rw[←hx,uZ hk hj]
theorem KZ{fs:List Fw}{s:List UInt8}(h:∀(j:Nat) (x:Fw),fs[j]?=some x→x.name.data.toList≠s):iN fs s=-1:=by
 unfold iN
 cases hn:fA fs fs.length s with
 | none=>rfl
 | some k=>
  obtain⟨_,x,h1,h2⟩:=oK hn
  exact absurd h2 (h k x h1)
structure iC(w:World)(S:Nat→Prop)(p:Pg)(o1 o2 o3 o4 o5:Option Addr)(I O N A C c1 c2 c3 c4 c5:Nat):Prop where
 pg:fE w S p (.slice o1 p.ins.length c1) (.slice o2 p.outs.length c2) (.slice o3 p.fs.length c3) (.slice o4 p.asserts.length c4) (.slice o5 p.checks.length c5)
 i:I=p.ins.length
 o:O=p.outs.length
 n:N=p.fs.length
 a:A=p.asserts.length
 c:C=p.checks.length
theorem iC.keep{w w':World}{S S':Nat→Prop}{p:Pg}{o1 o2 o3 o4 o5:Option Addr}{I O N A C c1 c2 c3 c4 c5:Nat}(h:iC w S p o1 o2 o3 o4 o5 I O N A C c1 c2 c3 c4 c5)(hs:aP S S' w w'):iC w' S' p o1 o2 o3 o4 o5 I O N A C c1 c2 c3 c4 c5:=⟨h.pg.keep hs,h.i,h.o,h.n,h.a,h.c⟩
theorem iC.below{w w':World}{S:Nat→Prop}{p:Pg}{o1 o2 o3 o4 o5:Option Addr}{I O N A C c1 c2 c3 c4 c5:Nat}(h:iC w S p o1 o2 o3 o4 o5 I O N A C c1 c2 c3 c4 c5)(hb:Bw w w'):iC w' S p o1 o2 o3 o4 o5 I O N A C c1 c2 c3 c4 c5:=h.keep (fun b hB hl=>⟨hB,hb.block b hl⟩)
theorem DY(w:World)(S:Nat→Prop)(p:Pg)(o1 o2 o3 o4 o5:Option Addr)(I O N A C c1 c2 c3 c4 c5:Nat)(h:iC w S p o1 o2 o3 o4 o5 I O N A C c1 c2 c3 c4 c5)(kd:List UInt8→Option Int)(hk:bA (fun _=>none) (aK p)=some kd)(hn:N≤2097152)(s:ByteArray) :
  Calls Tryz.prog 98 #[(.agg #[.slice o1 I c1,.slice o2 O c2,.slice o3 N c3,.slice o4 A c4,.slice o5 C c5]),.string s] w fun e w'=>e=.returned (.int .i64 (iN p.fs s.data.toList))∧Bw w w':=by
 obtain⟨x3,h3,g3⟩:=h.pg.fs
 rw[←h.n] at h3
 obtain⟨w1,hw1⟩:∃w1,w1=w.alloc (.cells #[.slice o1 I c1,.slice o2 O c2,.slice o3 N c3,.slice o4 A c4,.slice o5 C c5] 27):=⟨_,rfl⟩
 obtain⟨B,hB⟩:∃B,B=w.heap.size:=⟨_,rfl⟩
 have hb1:Bw w w1:=by rw[hw1];exact aH
 have hr1:w1.heap[B]?=some (.cells #[.slice o1 I c1,.slice o2 O c2,.slice o3 N c3,.slice o4 A c4,.slice o5 C c5] 27 (0,0)):=by rw[hw1,hB];exact heap_alloc_new _ _
 have b2:w1.cell? ⟨B,0+2,none⟩=some (.slice o3 N c3):=cr hr1 rfl
 have HY:Hid (aB w1 (fun _=>True) 6 (.slice o3 N c3) N x3∧cB w1 (fun _=>True) p.fs x3):=⟨h3.keep (fun b _ hl=>⟨trivial,hb1.block b hl⟩),g3.keep (fun b _ hl=>⟨trivial,hb1.block b hl⟩)⟩
 have HB:Hid (Bw w w1∧N=p.fs.length∧N≤2097152):=⟨hb1,h.n,hn⟩
 have HK:Hid (∀(j:Nat) (x:Fw),p.fs[j]?=some x→x.name.data.toList=s.data.toList→iN p.fs s.data.toList=(j:Nat)):=fun j x hj hx=>K3 hk hj hx
 have HW1:Hid (w.alloc (.cells #[.slice o1 I c1,.slice o2 O c2,.slice o3 N c3,.slice o4 A c4,.slice o5 C c5] 27)=w1∧w.heap.size=B):=⟨hw1.symm,hB.symm⟩
 clear h hk hn h3 g3 hw1 hB hb1 hr1
 go_enter Tryz.func98,Tryz.ntmps98
 go_upto_region 1 with fail
 rw[HW1.out.1,HW1.out.2]
 go_wp2
 go_loopw [5] (fun t wr=>∃(j:Nat),j≤N∧t=.int .i64 j∧wr=w1∧Hid (∀(i:Nat) (x:Fw),i<j→p.fs[i]?=some x→x.name.data.toList≠s.data.toList)) (fun t _=>N-(intOf t).toNat)
 case atStart=>exact⟨0,Nat.zero_le _,rfl,rfl,fun i x hi=>by omega⟩
 case round=>
  obtain⟨j,hj,rfl,rfl,HJ⟩:=hrel
  by_cases hjl:j<N
  ·have hjf:j<p.fs.length:=by have:=HB.out.2.1;omega
   obtain⟨nm,kd',op,n,s',es,oo,cc,zs,ej,k0,k1,_,_,_,_,_,_⟩:=HY.out.2.at hjf
   obtain⟨b,off,c',ev,_,_,gg⟩:=HY.out.1.at (by rw[HY.out.1.1];omega)
   obtain⟨rfl,rfl⟩:o3=some ⟨b,off,none⟩∧c3=c':=by simpa using ev
   have y0:=gg _ _ k0
   have hx:p.fs[j]?=some ⟨nm,kd',.mk op n s' es⟩:=by rw[List.getElem?_eq_getElem hjf,ej]
   have i0':(0:Int)≤(j:Int):=by omega
   have i1':(j:Int)<(N:Int):=by omega
   have HX:Hid (p.fs[j]?=some ⟨nm,kd',.mk op n s' es⟩∧j<N):=⟨hx,hjl⟩
   have N4:Hid (wrap64 ((j:Int)+1)=(j:Int)+1):=by have:=HB.out.2.2;unfold Hid wrap64;omega
   clear ej k0 k1 ev gg hx hj hjl hjf
   by_cases he:nm.data.toList=s.data.toList
   ·have HE:Hid (iN p.fs s.data.toList=(j:Nat)):=HK.out j _ HX.out.1 he
    have hd:(nm.toList==s.toList)=true:=by rw[ByteArray.toList_eq,ByteArray.toList_eq,he];simp
    clear he
    go_wp2
    go_ret
    exact⟨by rw[HE.out];rfl,HB.out.1⟩
   ·have hd:(nm.toList==s.toList)=false:=by rw[ByteArray.toList_eq,ByteArray.toList_eq];simpa using he
    have HN:Hid (∀(i:Nat) (y:Fw),i<j+1→p.fs[i]?=some y→y.name.data.toList≠s.data.toList):=fun i y hi hy=>by
     by_cases e:i=j
     ·subst e
      rw[HX.out.1] at hy
      rw[←Option.some.inj hy]
      exact he
     ·exact HJ.out i y (by omega) hy
    clear he
    go_wp2
    exact⟨⟨j+1,HX.out.2,by rw[N4.out];rfl,trivial,HN.out⟩,by rw[N4.out];have:=HX.out.2;simp [intOf];omega⟩
  ·have hjN:j=N:=by omega
   have HE:Hid (iN p.fs s.data.toList=-1):=KZ fun i x hi=>HJ.out i x (by have:=(aX hi).1;have:=HB.out.2.1;omega) hi
   have i1':¬(j:Int)<(N:Int):=by omega
   clear hj hjl HJ hjN
   go_wp2
   go_ret
   exact⟨by rw[HE.out];rfl,HB.out.1⟩
def bY(fs:List Fw)(late:Nat→Int):List UInt8→Nat:=fun s=>match fA fs fs.length s with
 | some k=>(late k).toNat
 | none=>0
theorem DW{kd:List UInt8→Option Int}{op:ByteArray}{n:Int}{s:ByteArray}{l:List Ex}(h:dG kd (.mk op n s l)=true):l.length≤3:=by
 have h1:jA kd op n s l.length=true:=by unfold dG at h;simp at h;exact h.1
 obtain⟨_,h2⟩:=sW h1
 by_cases hn:op.data.toList=bI
 ·rw[if_pos hn] at h2;rw[h2.2];simp
 ·rw[if_neg hn] at h2
  obtain⟨tk,gv,h3,h4⟩:=h2
  have:=Bn h3
  omega
structure oD(w:World)(lb N:Nat)(late:Nat→Int):Prop where
 row:bD w lb N late
 lo:∀k,0≤late k∧late k≤2
abbrev wS(p:Pg)(N:Nat)(o1 o2 o3 o4 o5:Option Addr)(I O A C c1 c2 c3 c4 c5:Nat)(op:ByteArray)(n:Int)(s:ByteArray)(l:List Ex):Prop:=∀(w:World) (S S':Nat→Prop) (o:Option Addr) (c lb:Nat) (ys:List Value) (late:Nat→Int),iC w S' p o1 o2 o3 o4 o5 I O N A C c1 c2 c3 c4 c5→oD w lb N late→aB w S 4 (.slice o l.length c) l.length ys→aI w S l ys →
  Calls Tryz.prog 51 #[(.agg #[.slice o1 I c1,.slice o2 O c2,.slice o3 N c3,.slice o4 A c4,.slice o5 C c5]),.agg #[.string op,.int .i64 n,.string s,.slice o l.length c],.slice (some ⟨lb,0,none⟩) N N] w fun e w'=>e=.returned (.int .i64 (aO (bY p.fs late) (.mk op n s l):Nat))∧Bw w w'
theorem yP(p:Pg)(N:Nat)(o1 o2 o3 o4 o5:Option Addr)(I O A C c1 c2 c3 c4 c5:Nat)(kd:List UInt8→Option Int)(hk:bA (fun _=>none) (aK p)=some kd)(hN:N≤2097152):∀(m:Nat) (op:ByteArray) (n:Int) (s:ByteArray) (l:List Ex),SizeOf.sizeOf l<m→dG kd (.mk op n s l)=true→wS p N o1 o2 o3 o4 o5 I O A C c1 c2 c3 c4 c5 op n s l
 | 0=>fun _ _ _ _ h=>absurd h (Nat.not_lt_zero _)
 | m+1=>by
  intro op n s l hm hfm w S S' o c lb ys late hp hlt h1 h2
  have hl3:=DW hfm
  have har:=DX _ hfm
  have hfl:bG kd l=true:=by unfold dG at hfm;simp at hfm;exact hfm.2
  obtain⟨f,hf⟩:∃f,f=bY p.fs late:=⟨_,rfl⟩
  have hfle:∀s,f s≤2:=fun s=>by
   rw[hf];unfold bY
   cases fA p.fs p.fs.length s with
   | none=>simp
   | some k=>have:=hlt.lo k;simp only;omega
  obtain⟨i0,hi0,hz0,hz1,hz2⟩:=info_parts Tryz.yZ
  obtain⟨w1,hw1⟩:∃w1,w1=(w.alloc (.cells #[.slice o1 I c1,.slice o2 O c2,.slice o3 N c3,.slice o4 A c4,.slice o5 C c5] 27)).alloc (.cells #[.string op,.int .i64 n,.string s,.slice o l.length c] 79):=⟨_,rfl⟩
  obtain⟨B,hB⟩:∃B,B=w.heap.size:=⟨_,rfl⟩
  have hb0:Bw w (w.alloc (.cells #[.slice o1 I c1,.slice o2 O c2,.slice o3 N c3,.slice o4 A c4,.slice o5 C c5] 27)):=aH
  have hb1:Bw w w1:=by rw[hw1];exact hb0.alloc hb0.size _
  have hr1:w1.heap[B]?=some (.cells #[.slice o1 I c1,.slice o2 O c2,.slice o3 N c3,.slice o4 A c4,.slice o5 C c5] 27 (0,0)):=by rw[hw1,hB];exact aG (aH) (heap_alloc_new _ _)
  have hr2:w1.heap[B+1]?=some (.cells #[.string op,.int .i64 n,.string s,.slice o l.length c] 79 (0,0)):=by rw[hw1,hB];exact dX _ _ _
  have HB:Hid (Bw w w1∧l.length≤3∧(∀s,f s≤2)):=⟨hb1,hl3,hfle⟩
  have HC:Hid (∀W,Bw w1 W→(W.cell? ⟨B,0,none⟩=some (.slice o1 I c1)∧W.cell? ⟨B,0+1,none⟩=some (.slice o2 O c2)∧W.cell? ⟨B,0+2,none⟩=some (.slice o3 N c3)∧W.cell? ⟨B,0+3,none⟩=some (.slice o4 A c4)∧W.cell? ⟨B,0+4,none⟩=some (.slice o5 C c5))∧W.cell? ⟨B+1,0,none⟩=some (.string op)∧W.cell? ⟨B+1,0+1,none⟩=some (.int .i64 n)∧W.cell? ⟨B+1,0+2,none⟩=some (.string s)∧W.cell? ⟨B+1,0+3,none⟩=some (.slice o l.length c)):=fun W hW=>by
   have hr:=aG hW hr1
   have hr':=aG hW hr2
   refine⟨⟨?_,?_,?_,?_,?_⟩,?_,?_,?_,?_⟩<;>first | (rw[cell_of_row W _ _ _ _ (0,0) hr];rfl) | (rw[cell_of_row W _ _ _ _ (0,0) hr'];rfl)
  have HW1:Hid ((w.alloc (.cells #[.slice o1 I c1,.slice o2 O c2,.slice o3 N c3,.slice o4 A c4,.slice o5 C c5] 27)).alloc (.cells #[.string op,.int .i64 n,.string s,.slice o l.length c] 79)=w1∧w.heap.size=B):=⟨hw1.symm,hB.symm⟩
  have HPV:Hid (∀W,Bw w1 W→iC W S' p o1 o2 o3 o4 o5 I O N A C c1 c2 c3 c4 c5∧oD W lb N late∧aB W S 4 (.slice o l.length c) l.length ys∧aI W S l ys):=fun W hW=>by
   have hb:=hb1.trans (hW.mono hb1.size)
   exact⟨hp.below hb,⟨aG hb hlt.row,hlt.lo⟩,h1.keep (fun b hB hl=>⟨hB,hb.block b hl⟩),h2.keep (fun b hB hl=>⟨hB,hb.block b hl⟩)⟩
  have HV:Hid (∀i (hi:i<l.length) (op:ByteArray) (n:Int) (s:ByteArray) (es:List Ex),l[i]=.mk op n s es→wS p N o1 o2 o3 o4 o5 I O A C c1 c2 c3 c4 c5 op n s es):=fun i hi op n s es e=>by
   have hsp:=kC hi e
   exact yP p N o1 o2 o3 o4 o5 I O A C c1 c2 c3 c4 c5 kd hk hN m op n s es (by omega) (qB hfl (by rw[←e];exact List.getElem_mem hi))
  have HFO:Hid (∀W,Bw w1 W→Calls Tryz.prog 98 #[(.agg #[.slice o1 I c1,.slice o2 O c2,.slice o3 N c3,.slice o4 A c4,.slice o5 C c5]),.string s] W fun e w'=>e=.returned (.int .i64 (iN p.fs s.data.toList))∧Bw W w'):=fun W hW=>DY W S' p o1 o2 o3 o4 o5 I O N A C c1 c2 c3 c4 c5 (HPV.out W hW).1 kd hk hN s
  have HLA:Hid (iN p.fs s.data.toList=-1∧f s.data.toList=0∨∃k:Nat,iN p.fs s.data.toList=(k:Int)∧k<N∧(f s.data.toList:Int)=late k):=by
   rw[hf];unfold bY iN
   cases hq:fA p.fs p.fs.length s.data.toList with
   | none=>exact .inl ⟨rfl,rfl⟩
   | some k=>exact .inr ⟨k,rfl,by have:=(oK hq).1;have:=hp.n;omega,by have:=hlt.lo k;simp only;omega⟩
  have HAR:Hid ((op.data.toList=cZ→1≤l.length)∧(op.data.toList=iZ→2≤l.length)∧(op.data.toList=cK→2≤l.length)):=by
   unfold eO at har
   obtain⟨_,q1,q2,q3,_⟩:=har
   exact⟨fun e=>by rw[q1 e];exact Nat.le_refl _,fun e=>by rw[q2 e];exact Nat.le_refl _,fun e=>by rw[q3 e];exact Nat.le_refl _⟩
  obtain⟨⟨a0,a1,a2,a3,a4⟩,b0,b1,b2,b3⟩:=HC.out w1 (Below.refl _ _)
  rw[←hf]
  clear hp hlt h1 h2 hm hfm har hfl hfle hl3 hw1 hB hb0 hb1 hr1 hr2 hk hN
  have HF:Hid (bY p.fs late=f):=hf.symm
  clear hf
  go_enter Tryz.func51,Tryz.ntmps51
  go_upto_region 1 with fail
  rw[HW1.out.1,HW1.out.2]
  clear a0 a1 a2 a3 a4 b0 b1 b2 b3
  go_wp2
  go_loopw [7,8,9] (fun v x t wr=>∃(i:Nat) (so:Option Addr) (sc:Nat),i≤l.length∧t=.int .i64 i∧v=.slice so i sc∧x=.int .i64 ((aW f (l.take i)).foldl Nat.max 0:Nat)∧Hid (wr.ownsRow w1.heap.size 3 1 (.slice so i sc) i ((aW f (l.take i)).map fun k:Nat=>Value.int .i64 k)∧Bw w1 wr)) (fun _ _ t _=>l.length-(intOf t).toNat)
  case atStart=>exact⟨0,none,0,Nat.zero_le _,rfl,rfl,by simp [aW],by simp only[List.take_zero,aW];exact World.ownsRow_nil _ _ _ _,Below.refl _ _⟩
  case round=>
   obtain⟨i,so,sc,hi,rfl,rfl,rfl,HR⟩:=hrel
   obtain⟨⟨a0,a1,a2,a3,a4⟩,b0,b1,b2,b3⟩:=HC.out wr HR.out.2
   obtain⟨hpv,hlv,hrow,hex⟩:=HPV.out wr HR.out.2
   by_cases hlt:i<l.length
   ·obtain⟨op',n',s',es,oo,cc,zs,e,x0,x1,x2,x3,r1,r2⟩:=hex.at hlt
    obtain⟨bq,off,rfl,_,g⟩:=kZ hrow (by have:=hrow.1;omega)
    have x0:=g _ _ x0
    have x1:=g _ _ x1
    have x2:=g _ _ x2
    have x3:=g _ _ x3
    rw[←Nat.add_assoc] at x1 x2 x3
    have i0':(0:Int)≤(i:Int):=by omega
    have i1:(i:Int)<(l.length:Int):=by omega
    obtain⟨v,hv⟩:∃v,v=aO f (.mk op' n' s' es):=⟨_,rfl⟩
    have Hr:Hid (∀W,Bw wr W→Calls Tryz.prog 51 #[(.agg #[.slice o1 I c1,.slice o2 O c2,.slice o3 N c3,.slice o4 A c4,.slice o5 C c5]),.agg #[.string op',.int .i64 n',.string s',.slice oo es.length cc],.slice (some ⟨lb,0,none⟩) N N] W fun e w'=>e=.returned (.int .i64 (v:Nat))∧Bw wr w'):=fun W hW=>by
     rw[hv,←HF.out]
     obtain⟨hpv,hlv,hrow,hex⟩:=HPV.out W (HR.out.2.trans (hW.mono HR.out.2.size))
     refine(HV.out i hlt op' n' s' es e W S S' oo cc lb zs late hpv hlv (r1.keep (fun b hB hl=>⟨hB,hW.block b hl⟩)) (r2.keep (fun b hB hl=>⟨hB,hW.block b hl⟩))).mono ?_
     rintro e w' ⟨rfl,hb⟩
     exact⟨rfl,hW.trans (hb.mono hW.size)⟩
    have hi1:l[i]?=some (.mk op' n' s' es):=by rw[List.getElem?_eq_getElem hlt,e]
    have htk:aW f (l.take (i+1))=aW f (l.take i)++[v]:=by
     rw[kM,kM,List.take_add_one,hi1,hv];simp
    have HTK:Hid ((aW f (l.take (i+1))).map (fun k:Nat=>Value.int .i64 k)=(aW f (l.take i)).map (fun k:Nat=>Value.int .i64 k)++[.int .i64 (v:Nat)]∧(aW f (l.take (i+1))).foldl Nat.max 0=Nat.max ((aW f (l.take i)).foldl Nat.max 0) v):=by
     rw[htk,List.map_append,List.foldl_append];exact⟨rfl,rfl⟩
    obtain⟨mx,hmx⟩:∃mx,mx=(aW f (l.take i)).foldl Nat.max 0:=⟨_,rfl⟩
    have HTM:Hid ((aW f (l.take (i+1))).foldl Nat.max 0=Nat.max mx v):=by rw[hmx];exact HTK.out.2
    rw[←hmx]
    have N4:Hid (wrap64 ((i:Int)+1)=(i:Int)+1):=by have:=HB.out.2.1;unfold Hid wrap64;omega
    have HM:Hid (i+1≤maxLen∧(i+1)*8≤140737488355328):=by have:=HB.out.2.1;unfold Hid maxLen;omega
    have HJ:=aA hlt
    have HRR:Hid (wr.ownsRow w1.heap.size 3 1 (.slice so i sc) i ((aW f (l.take i)).map fun k:Nat=>Value.int .i64 k)∧Bw w1 wr):=HR.out
    obtain⟨xs,hxs⟩:∃xs,xs=(aW f (l.take i)).map fun k:Nat=>Value.int .i64 k:=⟨_,rfl⟩
    have HXS:Hid ((aW f (l.take (i+1))).map (fun k:Nat=>Value.int .i64 k)=xs++[.int .i64 (v:Nat)]):=by rw[hxs];exact HTK.out.1
    rw[←hxs] at HRR
    clear g e r1 r2 hv hi1 hlt hi hpv hlv hrow hex htk HTK hmx HR hxs
    by_cases hvm:mx<v
    ·have hvm':(mx:Int)<(v:Int):=by omega
     have HMX:Hid (Nat.max mx v=v):=Nat.max_eq_right (by omega)
     clear hvm
     go_upto_region 6 with fail
     go_region_with (go_at_call 51;refine(Hr.out _ (by first | exact Below.refl _ _ | exact(Below.refl _ _).drew)).mono ?_;rintro e w6 ⟨rfl,hb6⟩)
     all_goals have HOW:Hid ((w6.alloc (.cells #[.int .i64 (v:Nat)] 3)).ownsRow w1.heap.size 3 1 (.slice so i sc) i xs∧w1.heap.size≤(w6.alloc (.cells #[.int .i64 (v:Nat)] 3)).heap.size∧Bw w1 (w6.alloc (.cells #[.int .i64 (v:Nat)] 3))):=(by have hba:Bw wr (w6.alloc (.cells #[.int .i64 (v:Nat)] 3)):=hb6.alloc hb6.size _;exact⟨l9 HRR.out.1 hba,Nat.le_trans HRR.out.2.size hba.size,HRR.out.2.trans (hba.mono HRR.out.2.size)⟩)
     all_goals have HNW:Hid _:=World.news_of_block (heap_alloc_new w6 (.cells #[.int .i64 (v:Nat)] 3))
     all_goals clear hb6
     all_goals go_wp2_with (first | (at_builtin;refine wpList_append_lies _ rfl _ _ 30 rfl w1.heap.size 3 i0 _ 1 8 Tryz.underlying30 hi0 hz0 hz1 hz2 rfl (by omega) (.slice so i sc) i xs rfl HOW.out.1 ⟨w6.heap.size,0,none⟩ 1 1 [.int .i64 (v:Nat)] rfl rfl HNW.out (by simp [Value.oneCell']) (by omega) HM.out.1 HM.out.2 HOW.out.2.1 _ rfl ?_;intro gb cap w5 hown5 hgrow hat hlt5) | go_in)
     all_goals exact⟨⟨i+1,_,_,HJ.out,by rw[N4.out];rfl,rfl,by rw[HTM.out,HMX.out],by rw[HXS.out];exact hown5,HOW.out.2.2.grown hgrow HOW.out.2.1 (fun k hk=>(HRR.out.1.lt k hk).1)⟩,by rw[N4.out];have:=HJ.out;simp [intOf];omega⟩
    ·have hvm':¬(mx:Int)<(v:Int):=by omega
     have HMX:Hid (Nat.max mx v=mx):=Nat.max_eq_left (by omega)
     clear hvm
     go_upto_region 6 with fail
     go_region_with (go_at_call 51;refine(Hr.out _ (by first | exact Below.refl _ _ | exact(Below.refl _ _).drew)).mono ?_;rintro e w6 ⟨rfl,hb6⟩)
     all_goals have HOW:Hid ((w6.alloc (.cells #[.int .i64 (v:Nat)] 3)).ownsRow w1.heap.size 3 1 (.slice so i sc) i xs∧w1.heap.size≤(w6.alloc (.cells #[.int .i64 (v:Nat)] 3)).heap.size∧Bw w1 (w6.alloc (.cells #[.int .i64 (v:Nat)] 3))):=(by have hba:Bw wr (w6.alloc (.cells #[.int .i64 (v:Nat)] 3)):=hb6.alloc hb6.size _;exact⟨l9 HRR.out.1 hba,Nat.le_trans HRR.out.2.size hba.size,HRR.out.2.trans (hba.mono HRR.out.2.size)⟩)
     all_goals have HNW:Hid _:=World.news_of_block (heap_alloc_new w6 (.cells #[.int .i64 (v:Nat)] 3))
     all_goals clear hb6
     all_goals go_wp2_with (first | (at_builtin;refine wpList_append_lies _ rfl _ _ 30 rfl w1.heap.size 3 i0 _ 1 8 Tryz.underlying30 hi0 hz0 hz1 hz2 rfl (by omega) (.slice so i sc) i xs rfl HOW.out.1 ⟨w6.heap.size,0,none⟩ 1 1 [.int .i64 (v:Nat)] rfl rfl HNW.out (by simp [Value.oneCell']) (by omega) HM.out.1 HM.out.2 HOW.out.2.1 _ rfl ?_;intro gb cap w5 hown5 hgrow hat hlt5) | go_in)
     all_goals exact⟨⟨i+1,_,_,HJ.out,by rw[N4.out];rfl,rfl,by rw[HTM.out,HMX.out],by rw[HXS.out];exact hown5,HOW.out.2.2.grown hgrow HOW.out.2.1 (fun k hk=>(HRR.out.1.lt k hk).1)⟩,by rw[N4.out];have:=HJ.out;simp [intOf];omega⟩
   ·obtain rfl:l.length=i:=by omega
    have hout:=HR.out
    rw[List.take_length] at hout
    rw[List.take_length]
    have HO:Hid (Bw w wr∧Bw w1 wr):=⟨HB.out.1.trans (hout.2.mono HB.out.1.size),hout.2⟩
    have hro:=aB.qM hout.1
    have hle:=sJ HB.out.2.2 l
    have hget:∀k,k<l.length→∃(b off:Nat) (x:Nat),so=some ⟨b,off,none⟩∧wr.cell? ⟨b,off+k,none⟩=some (.int .i64 (x:Nat))∧(aW f l)[k]?.getD 0=x∧x≤2:=fun k hk=>by
     obtain⟨b,off,cp,ev,_,_,gg⟩:=hro.at (by rw[List.length_map,kM,List.length_map];omega)
     obtain⟨rfl,rfl⟩:so=some ⟨b,off,none⟩∧sc=cp:=by simpa using ev
     have hkl:k<(aW f l).length:=by rw[kM,List.length_map];exact hk
     refine⟨b,off,(aW f l)[k],rfl,gg k _ (by rw[List.getElem?_map,List.getElem?_eq_getElem hkl];rfl),by rw[List.getElem?_eq_getElem hkl];rfl,hle _ (List.getElem_mem hkl)⟩
    have HG:=aA hget
    have hme:=oN f op n s l
    obtain⟨mx,hmx⟩:∃mx,mx=(aW f l).foldl Nat.max 0:=⟨_,rfl⟩
    rw[←hmx] at hme ⊢
    have i1':¬(l.length:Int)<(l.length:Int):=by omega
    clear hi hlt hro hle hget hout HR hmx hrow hex HV HF
    by_cases d1:op.data.toList=bI
    ·rw[if_pos d1] at hme
     have e1:(op.toList==[110,97,109,101])=true:=by rw[ByteArray.toList_eq,d1];rfl
     have HFO2:Hid (Calls Tryz.prog 98 #[(.agg #[.slice o1 I c1,.slice o2 O c2,.slice o3 N c3,.slice o4 A c4,.slice o5 C c5]),.string s] wr fun e w'=>e=.returned (.int .i64 (iN p.fs s.data.toList))∧Bw wr w'):=HFO.out wr HO.out.2
     rcases HLA.out with⟨q1,q2⟩ | ⟨k,q1,q2,q3⟩
     ·rw[q1] at HFO2
      rw[q2] at hme
      have HE:=aA hme
      clear d1 hme q1 q2
      go_wp2_with (first | (go_at_call 98;refine HFO2.out.mono ?_;rintro e w6 ⟨rfl,hb6⟩) | fail)
      go_ret
      exact⟨by rw[HE.out];rfl,HO.out.1.trans (hb6.mono HO.out.1.size)⟩
     ·rw[q1] at HFO2
      have HE:Hid ((aO f (.mk op n s l):Int)=late k):=by unfold Hid;rw[hme];exact q3
      have k0':(0:Int)≤(k:Int):=by omega
      have k1':(k:Int)<(N:Int):=by omega
      have HLC:Hid (∀W,Bw w1 W→W.cell? ⟨lb,k,none⟩=some (.int .i64 (late k))):=fun W hW=>(HPV.out W hW).2.1.row.cell q2
      clear d1 hme q1 q2 q3
      go_wp2_with (first | (go_at_call 98;refine HFO2.out.mono ?_;rintro e w6 ⟨rfl,hb6⟩;have z0:=HLC.out w6 (HO.out.2.trans (hb6.mono HO.out.2.size))) | fail)
      go_ret
      exact⟨by rw[HE.out];rfl,HO.out.1.trans (hb6.mono HO.out.1.size)⟩
    ·rw[if_neg d1] at hme
     have e1:(op.toList==[110,97,109,101])=false:=by rw[ByteArray.toList_eq];exact beq_eq_false_iff_ne.2 d1
     by_cases d2:op.data.toList=cZ
     ·rw[if_pos d2] at hme
      have e2:(op.toList==[112,114,101])=true:=by rw[ByteArray.toList_eq,d2];rfl
      obtain⟨b,off,x,rfl,z0,hx,hx2⟩:=HG.out 0 (HAR.out.1 d2)
      rw[hx] at hme
      rw[Nat.add_zero] at z0
      have HE:=aA hme
      have l0':(0:Int)<(l.length:Int):=by have:=HAR.out.1 d2;omega
      clear d1 d2 hme hx
      have hx3:x=0∨x=1∨x=2:=by omega
      clear hx2
      rcases hx3 with rfl | rfl | rfl
      all_goals go_wp2
      all_goals go_ret
      all_goals exact⟨by rw[HE.out];rfl,HO.out.1⟩
     ·rw[if_neg d2] at hme
      have e2:(op.toList==[112,114,101])=false:=by rw[ByteArray.toList_eq];exact beq_eq_false_iff_ne.2 d2
      by_cases d3:op.data.toList=iZ
      ·rw[if_pos d3] at hme
       have e3:(op.toList==[45,62])=true:=by rw[ByteArray.toList_eq,d3];rfl
       have hl2:=HAR.out.2.1 d3
       obtain⟨b,off,x,rfl,z0,hx,hx2⟩:=HG.out 0 (by omega)
       obtain⟨b',off',y,eo,z1,hy,hy2⟩:=HG.out 1 (by omega)
       obtain⟨rfl,rfl,_⟩:=Addr.mk.inj (Option.some.inj eo)
       rw[hx,hy] at hme
       rw[Nat.add_zero] at z0
       have HE:=aA hme
       have l0':(0:Int)<(l.length:Int):=by omega
       have l1':(1:Int)<(l.length:Int):=by omega
       clear d1 d2 d3 hme hx hy eo hl2 hx2
       have hx3:y=0∨y=1∨y=2:=by omega
       clear hy2
       rcases hx3 with rfl | rfl | rfl
       all_goals go_wp2
       all_goals go_ret
       all_goals exact⟨by rw[HE.out];rfl,HO.out.1⟩
      ·rw[if_neg d3] at hme
       have e3:(op.toList==[45,62])=false:=by rw[ByteArray.toList_eq];exact beq_eq_false_iff_ne.2 d3
       by_cases d4:op.data.toList=cK
       ·rw[if_pos d4] at hme
        have e4:(op.toList==[102,98,121])=true:=by rw[ByteArray.toList_eq,d4];rfl
        have hl2:=HAR.out.2.2 d4
        obtain⟨b,off,x,rfl,z0,hx,hx2⟩:=HG.out 0 (by omega)
        obtain⟨b',off',y,eo,z1,hy,hy2⟩:=HG.out 1 (by omega)
        obtain⟨rfl,rfl,_⟩:=Addr.mk.inj (Option.some.inj eo)
        rw[hx,hy] at hme
        rw[Nat.add_zero] at z0
        have HE:=aA hme
        have l0':(0:Int)<(l.length:Int):=by omega
        have l1':(1:Int)<(l.length:Int):=by omega
        clear d1 d2 d3 d4 hme hx hy eo hl2 hx2
        have hx3:y=0∨y=1∨y=2:=by omega
        clear hy2
        rcases hx3 with rfl | rfl | rfl
        all_goals go_wp2
        all_goals go_ret
        all_goals exact⟨by rw[HE.out];rfl,HO.out.1⟩
       ·rw[if_neg d4] at hme
        have e4:(op.toList==[102,98,121])=false:=by rw[ByteArray.toList_eq];exact beq_eq_false_iff_ne.2 d4
        have HE:=aA hme
        clear d1 d2 d3 d4 hme
        go_wp2
        go_ret
        exact⟨by rw[HE.out];rfl,HO.out.1⟩
end Go.Proofs.YtmgfakcccfahaaaGreatDoor
