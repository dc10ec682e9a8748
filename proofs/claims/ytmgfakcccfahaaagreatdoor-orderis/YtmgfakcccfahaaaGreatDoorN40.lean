/-
  ROWS OF BOOLS; lustrumref2.atOnce BY CONTRACT.
-/
import Derived.Test.YtmgfakcccfahaaaGreatDoorN39
namespace Go.Proofs.YtmgfakcccfahaaaGreatDoor
open Go.RowKit
set_option maxRecDepth 100000
set_option maxHeartbeats 8000000

def jB(n:Nat)(g:Nat→Bool):List Bool:=(List.range n).map g
theorem zX(n:Nat)(g:Nat→Bool):(jB n g).length=n:=by simp [jB]
theorem zY{n k:Nat}(g:Nat→Bool)(h:k<n):(jB n g)[k]?=some (g k):=by simp [jB,h]
theorem Oq{n k:Nat}(g:Nat→Bool)(v:Bool):(jB n g).set k v=jB n (fun j=>if j=k then v else g j):=by
 apply List.ext_getElem?
 intro j
 by_cases hj:j<n
 ·rw[zY _ hj]
  by_cases e:k=j
  ·subst e
   rw[List.getElem?_set_self (by rw[zX];exact hj),if_pos rfl]
  ·rw[List.getElem?_set_ne e,zY _ hj,if_neg (fun h=>e h.symm)]
 ·rw[List.getElem?_eq_none (by rw[List.length_set,zX];omega),List.getElem?_eq_none (by rw[zX];omega)]
theorem Ot{n:Nat}{g h:Nat→Bool}(e:∀k,k<n→g k=h k):jB n g=jB n h:=List.map_congr_left fun k hk=>e k (List.mem_range.1 hk)
def aT(w:World)(W n:Nat)(g:Nat→Bool):Prop:=w.heap[W]?=some (.cells ((jB n g).map Value.bool).toArray 4 (0,0))
theorem aT.cell{w:World}{W n:Nat}{g:Nat→Bool}(h:aT w W n g){k:Nat}(hk:k<n):w.cell? ⟨W,k,none⟩=some (.bool (g k)):=by
 rw[cell_of_row w W k _ _ (0,0) h]
 simp [jB,hk]
theorem aT.free{w:World}{W n:Nat}{g:Nat→Bool}(h:aT w W n g)(k:Nat):w.frozen? ⟨W,k,none⟩=false:=by
 unfold aT at h
 simp [World.frozen?,h]
theorem aT.set{w:World}{W n:Nat}{g:Nat→Bool}(h:aT w W n g)(k:Nat)(v:Bool):aT (w.setCell ⟨W,k,none⟩ (.bool v)) W n (fun j=>if j=k then v else g j):=by
 unfold aT
 rw[heap_setCell_same w W k _ _ _ h,←Oq]
 simp [List.map_set]
theorem aT.lt{w:World}{W n:Nat}{g:Nat→Bool}(h:aT w W n g):W<w.heap.size:=(bE h).1
theorem aT.congr{w:World}{W n:Nat}{g h:Nat→Bool}(hg:aT w W n g)(e:∀k,k<n→g k=h k):aT w W n h:=by
 unfold aT at hg ⊢
 rw[←Ot e]
 exact hg
theorem aT.made(w:World)(n:Nat):aT (w.alloc (.cells (Array.replicate n (.bool false)) 4)) w.heap.size n (fun _=>false):=by
 unfold aT
 rw[heap_alloc_new]
 congr 2
 apply Array.toList_inj.1
 apply List.ext_getElem?
 intro j
 simp only[Array.toList_replicate,List.getElem?_replicate,jB,List.getElem?_map]
 by_cases hj:j<n
 ·simp [hj]
 ·simp [hj]
theorem kL{ba:Nat}{a b c:World}(h:Mv ba a b)(k:Mv ba b c):Mv ba a c:=
 ⟨k.os.trans h.os,k.tape.trans h.tape,k.output.trans h.output,Nat.le_trans h.size k.size,fun x hx e=>(k.block x (Nat.lt_of_lt_of_le hx h.size) e).trans (h.block x hx e)⟩
theorem vG(ba:Nat)(w:World):Mv ba w w:=⟨rfl,rfl,rfl,Nat.le_refl _,fun _ _ _=>rfl⟩
theorem vF{ba b:Nat}{w w':World}{o:Obj}(h:Mv ba w w')(hne:b≠ba)(hr:w.heap[b]?=some o):w'.heap[b]?=some o:=by
 rw[h.block b (bE hr).1 (fun e=>hne (Option.some.inj e))]
 exact hr
theorem yJ{ba:Nat}{S:Nat→Prop}{w w':World}(h:Mv ba w w')(hS:∀b,S b→b≠ba):aP S S w w':=fun b hb hl=>⟨hb,h.block b hl (fun e=>hS b hb (Option.some.inj e))⟩
def dM(fs:List Fw)(g:Nat→Bool)(ns:List (List UInt8)):Nat→Bool:=fun k=>g k||ns.any fun s=>fA fs fs.length s==some k
theorem yE(fs:List Fw)(g:Nat→Bool):dM fs g []=g:=by funext k;simp [dM]
theorem r9(fs:List Fw)(g:Nat→Bool)(a b:List (List UInt8)):dM fs (dM fs g a) b=dM fs g (a++b):=by funext k;simp [dM,Bool.or_assoc]
abbrev Ag(p:Pg)(N:Nat)(o1 o2 o3 o4 o5:Option Addr)(I O A C c1 c2 c3 c4 c5:Nat)(op:ByteArray)(n:Int)(s:ByteArray)(l:List Ex):Prop:=∀(w:World) (S S':Nat→Prop) (o:Option Addr) (c nb:Nat) (ys:List Value) (g:Nat→Bool),iC w S' p o1 o2 o3 o4 o5 I O N A C c1 c2 c3 c4 c5→aT w nb N g→(∀b,S b→b≠nb)→(∀b,S' b→b≠nb)→aB w S 4 (.slice o l.length c) l.length ys→aI w S l ys →
  Calls Tryz.prog 89 #[(.agg #[.slice o1 I c1,.slice o2 O c2,.slice o3 N c3,.slice o4 A c4,.slice o5 C c5]),.agg #[.string op,.int .i64 n,.string s,.slice o l.length c],.slice (some ⟨nb,0,none⟩) N N] w fun e w'=>e=.returned (.tuple #[])∧aT w' nb N (dM p.fs g (onE (.mk op n s l)))∧Mv nb w w'
def bK(op:List UInt8)(l:List Ex):List (List UInt8):=if op=cZ then [] else if op=cK then mD l else bZ l
theorem Kn(op:ByteArray)(n:Int)(s:ByteArray)(l:List Ex):onE (.mk op n s l)=(if op.data.toList=bI then [s.data.toList] else [])++bK op.data.toList l:=by rw[onE];rfl
theorem yA(op:List UInt8){l:List Ex}{i:Nat}{e:Ex}(h:l[i]?=some e):bK op (l.take (i+1))=if op=cZ∨(op=cK∧i≠0) then bK op (l.take i) else bK op (l.take i)++onE e:=by
 unfold bK
 by_cases h1:op=cZ
 ·rw[if_pos h1,if_pos (.inl h1),if_pos h1]
 ·rw[if_neg h1,if_neg h1]
  by_cases h2:op=cK
  ·rw[if_pos h2,if_pos h2]
   by_cases h3:i=0
   ·subst h3
    rw[if_neg (by simp [h1])]
    cases l with
    | nil=>simp at h
    | cons x l=>
     obtain rfl:x=e:=by simpa using h
     simp [mD]
   ·rw[if_pos (.inr ⟨h2,h3⟩),yB,yB (l.take i),List.take_take,List.take_take,Nat.min_eq_left (by omega),Nat.min_eq_left (by omega)]
  ·rw[if_neg h2,if_neg h2,if_neg (by simp [h1,h2]),rZ h]
theorem Ew(p:Pg)(N:Nat)(o1 o2 o3 o4 o5:Option Addr)(I O A C c1 c2 c3 c4 c5:Nat)(kd:List UInt8→Option Int)(hk:bA (fun _=>none) (aK p)=some kd)(hN:N≤2097152):∀(m:Nat) (op:ByteArray) (n:Int) (s:ByteArray) (l:List Ex),SizeOf.sizeOf l<m→dG kd (.mk op n s l)=true→Ag p N o1 o2 o3 o4 o5 I O A C c1 c2 c3 c4 c5 op n s l
 | 0=>fun _ _ _ _ h=>absurd h (Nat.not_lt_zero _)
 | m+1=>by
  intro op n s l hm hfm w S S' o c nb ys g hp hg hS hS' h1 h2
  have hl3:=DW hfm
  have hfl:bG kd l=true:=by unfold dG at hfm;simp at hfm;exact hfm.2
  obtain⟨w1,hw1⟩:∃w1,w1=(w.alloc (.cells #[.slice o1 I c1,.slice o2 O c2,.slice o3 N c3,.slice o4 A c4,.slice o5 C c5] 27)).alloc (.cells #[.string op,.int .i64 n,.string s,.slice o l.length c] 79):=⟨_,rfl⟩
  obtain⟨B,hB⟩:∃B,B=w.heap.size:=⟨_,rfl⟩
  have hb0:Bw w (w.alloc (.cells #[.slice o1 I c1,.slice o2 O c2,.slice o3 N c3,.slice o4 A c4,.slice o5 C c5] 27)):=aH
  have hb1:Bw w w1:=by rw[hw1];exact hb0.alloc hb0.size _
  have hr1:w1.heap[B]?=some (.cells #[.slice o1 I c1,.slice o2 O c2,.slice o3 N c3,.slice o4 A c4,.slice o5 C c5] 27 (0,0)):=by rw[hw1,hB];exact aG (aH) (heap_alloc_new _ _)
  have hr2:w1.heap[B+1]?=some (.cells #[.string op,.int .i64 n,.string s,.slice o l.length c] 79 (0,0)):=by rw[hw1,hB];exact dX _ _ _
  have hnb:=hg.lt
  have HB:Hid (Bw w w1∧l.length≤3∧N=p.fs.length):=⟨hb1,hl3,hp.n⟩
  have HC:Hid (∀W,Mv nb w1 W→(W.cell? ⟨B,0,none⟩=some (.slice o1 I c1)∧W.cell? ⟨B,0+1,none⟩=some (.slice o2 O c2)∧W.cell? ⟨B,0+2,none⟩=some (.slice o3 N c3)∧W.cell? ⟨B,0+3,none⟩=some (.slice o4 A c4)∧W.cell? ⟨B,0+4,none⟩=some (.slice o5 C c5))∧W.cell? ⟨B+1,0,none⟩=some (.string op)∧W.cell? ⟨B+1,0+1,none⟩=some (.int .i64 n)∧W.cell? ⟨B+1,0+2,none⟩=some (.string s)∧W.cell? ⟨B+1,0+3,none⟩=some (.slice o l.length c)):=fun W hW=>by
   have hr:=vF hW (by omega) hr1
   have hr':=vF hW (by omega) hr2
   refine⟨⟨?_,?_,?_,?_,?_⟩,?_,?_,?_,?_⟩<;>first | (rw[cell_of_row W _ _ _ _ (0,0) hr];rfl) | (rw[cell_of_row W _ _ _ _ (0,0) hr'];rfl)
  have HW1:Hid ((w.alloc (.cells #[.slice o1 I c1,.slice o2 O c2,.slice o3 N c3,.slice o4 A c4,.slice o5 C c5] 27)).alloc (.cells #[.string op,.int .i64 n,.string s,.slice o l.length c] 79)=w1∧w.heap.size=B):=⟨hw1.symm,hB.symm⟩
  have HMV:Hid (∀W,Mv nb w1 W→Mv nb w W):=fun W hW=>kL (Mv.of_below hb1) hW
  have HPV:Hid (∀W,Mv nb w1 W→iC W S' p o1 o2 o3 o4 o5 I O N A C c1 c2 c3 c4 c5∧aB W S 4 (.slice o l.length c) l.length ys∧aI W S l ys):=fun W hW=>by
   have hm:=kL (Mv.of_below hb1) hW
   exact⟨hp.keep (yJ hm hS'),h1.keep (yJ hm hS),h2.keep (yJ hm hS)⟩
  have HV:Hid (∀i (hi:i<l.length) (op:ByteArray) (n:Int) (s:ByteArray) (es:List Ex),l[i]=.mk op n s es→Ag p N o1 o2 o3 o4 o5 I O A C c1 c2 c3 c4 c5 op n s es):=fun i hi op n s es e=>by
   have hsp:=kC hi e
   exact Ew p N o1 o2 o3 o4 o5 I O A C c1 c2 c3 c4 c5 kd hk hN m op n s es (by omega) (qB hfl (by rw[←e];exact List.getElem_mem hi))
  have HSS:Hid ((∀b,S b→b≠nb)∧(∀b,S' b→b≠nb)):=⟨hS,hS'⟩
  have HFO:Hid (∀W,Mv nb w1 W→Calls Tryz.prog 98 #[(.agg #[.slice o1 I c1,.slice o2 O c2,.slice o3 N c3,.slice o4 A c4,.slice o5 C c5]),.string s] W fun e w'=>e=.returned (.int .i64 (iN p.fs s.data.toList))∧Bw W w'):=fun W hW=>DY W S' p o1 o2 o3 o4 o5 I O N A C c1 c2 c3 c4 c5 (HPV.out W hW).1 kd hk hN s
  have HG1:Hid (aT w1 nb N g):=aG hb1 hg
  have HNK:Hid (iN p.fs s.data.toList=-1∧dM p.fs g [s.data.toList]=g∨∃k:Nat,iN p.fs s.data.toList=(k:Int)∧k<N∧dM p.fs g [s.data.toList]=fun j=>if j=k then true else g j):=by
   unfold iN
   cases hq:fA p.fs p.fs.length s.data.toList with
   | none=>exact .inl ⟨rfl,by funext k;simp [dM,hq]⟩
   | some k=>
    refine .inr ⟨k,rfl,by have:=(oK hq).1;have:=hp.n;omega,?_⟩
    funext j
    by_cases hj:j=k
    ·subst hj;simp [dM,hq]
    ·have:¬k=j:=fun e=>hj e.symm
     simp [dM,hq,hj,this]
  obtain⟨⟨a0,a1,a2,a3,a4⟩,b0,b1,b2,b3⟩:=HC.out w1 (vG _ _)
  rw[Kn]
  clear hp hg hS hS' h1 h2 hm hfm hfl hl3 hw1 hB hb0 hb1 hr1 hr2 hk hN hnb
  by_cases d1:op.data.toList=bI
  ·rw[if_pos d1]
   have e1:(op.toList==[110,97,109,101])=true:=by rw[ByteArray.toList_eq,d1];rfl
   have HFO1:Hid (Calls Tryz.prog 98 #[(.agg #[.slice o1 I c1,.slice o2 O c2,.slice o3 N c3,.slice o4 A c4,.slice o5 C c5]),.string s] w1 fun e w'=>e=.returned (.int .i64 (iN p.fs s.data.toList))∧Bw w1 w'):=HFO.out w1 (vG _ _)
   rcases HNK.out with⟨q1,q2⟩ | ⟨k,q1,q2,q3⟩
   ·rw[q1] at HFO1
    obtain⟨g0,hg0⟩:∃g0,g0=dM p.fs g [s.data.toList]:=⟨_,rfl⟩
    have HGE:Hid (∀ns,dM p.fs g ([s.data.toList]++ns)=dM p.fs g0 ns):=fun ns=>by rw[hg0,r9]
    have HG0:Hid (g0=g):=by unfold Hid;rw[hg0,q2]
    rw[HGE.out]
    clear d1 q1 q2 hg0
    go_enter Tryz.func89,Tryz.ntmps89
    go_upto_region 1 with fail
    rw[HW1.out.1,HW1.out.2]
    go_wp2_with (first | (go_at_call 98;refine HFO1.out.mono ?_;rintro e w2 ⟨rfl,hb2⟩) | fail)
    have HS2:Hid (aT w2 nb N g0∧Mv nb w1 w2):=⟨by rw[HG0.out];exact aG hb2 HG1.out,Mv.of_below hb2⟩
    clear hb2 a0 a1 a2 a3 a4 b0 b1 b2 b3
    go_loopw [7] (fun t wr=>∃(i:Nat),i≤l.length∧t=.int .i64 i∧Hid (aT wr nb N (dM p.fs g0 (bK op.data.toList (l.take i)))∧Mv nb w1 wr)) (fun t _=>l.length-(intOf t).toNat)
    case atStart=>exact⟨0,Nat.zero_le _,rfl,by rw[List.take_zero,show bK op.data.toList []=[] from by unfold bK;split;rfl;split<;>rfl,yE];exact HS2.out.1,HS2.out.2⟩
    case round=>
     obtain⟨i,hi,rfl,HR⟩:=hrel
     obtain⟨⟨a0,a1,a2,a3,a4⟩,b0,b1,b2,b3⟩:=HC.out wr HR.out.2
     by_cases hlt:i<l.length
     ·obtain⟨hpv,hrow,hex⟩:=HPV.out wr HR.out.2
      obtain⟨op',n',s',es,oo,cc,zs,e,x0,x1,x2,x3,r1,r2⟩:=hex.at hlt
      obtain⟨bq,off,rfl,_,gg⟩:=kZ hrow (by have:=hrow.1;omega)
      have x0:=gg _ _ x0
      have x1:=gg _ _ x1
      have x2:=gg _ _ x2
      have x3:=gg _ _ x3
      rw[←Nat.add_assoc] at x1 x2 x3
      have i0':(0:Int)≤(i:Int):=by omega
      have i1:(i:Int)<(l.length:Int):=by omega
      have hi1:l[i]?=some (.mk op' n' s' es):=by rw[List.getElem?_eq_getElem hlt,e]
      have hot:=yA op.data.toList hi1
      have N4:Hid (wrap64 ((i:Int)+1)=(i:Int)+1):=by have:=HB.out.2.1;unfold Hid wrap64;omega
      have HJ:=aA hlt
      have Hr:Hid (∀W,Bw wr W→Calls Tryz.prog 89 #[(.agg #[.slice o1 I c1,.slice o2 O c2,.slice o3 N c3,.slice o4 A c4,.slice o5 C c5]),.agg #[.string op',.int .i64 n',.string s',.slice oo es.length cc],.slice (some ⟨nb,0,none⟩) N N] W fun e w'=>e=.returned (.tuple #[])∧aT w' nb N (dM p.fs g0 (bK op.data.toList (l.take i)++onE (.mk op' n' s' es)))∧Mv nb w1 w'):=fun W hW=>by
       have hmW:=kL HR.out.2 (Mv.of_below hW)
       obtain⟨hpv,hrow,hex⟩:=HPV.out W hmW
       refine(HV.out i hlt op' n' s' es e W S S' oo cc nb zs _ hpv (aG hW HR.out.1) HSS.out.1 HSS.out.2 (r1.keep (fun b hB hl=>⟨hB,hW.block b hl⟩)) (r2.keep (fun b hB hl=>⟨hB,hW.block b hl⟩))).mono ?_
       rintro e w' ⟨rfl,h1,h2⟩
       rw[r9] at h1
       exact⟨rfl,h1,kL hmW h2⟩
      have HOT:=aA hot
      have HRR:Hid (aT wr nb N (dM p.fs g0 (bK op.data.toList (l.take i)))∧Mv nb w1 wr):=HR.out
      clear gg e r1 r2 hi1 hlt hi hpv hrow hex hot HR
      by_cases d2:op.data.toList=cZ
      ·have e2:(op.toList==[112,114,101])=true:=by rw[ByteArray.toList_eq,d2];rfl
       have e2':(op.toList != [112,114,101])=false:=by rw[ByteArray.toList_eq,d2];rfl
       have HOE:Hid (bK op.data.toList (l.take (i+1))=bK op.data.toList (l.take i)):=by unfold Hid;rw[HOT.out,if_pos (.inl d2)]
       clear d2
       go_wp2
       exact⟨⟨i+1,HJ.out,by rw[N4.out];rfl,by rw[HOE.out];exact HRR.out.1,HRR.out.2⟩,by rw[N4.out];have:=HJ.out;simp [intOf];omega⟩
      ·have e2:(op.toList==[112,114,101])=false:=by rw[ByteArray.toList_eq];exact beq_eq_false_iff_ne.2 d2
       have e2':(op.toList != [112,114,101])=true:=by unfold bne;rw[e2];rfl
       by_cases d3:op.data.toList=cK
       ·have e3:(op.toList==[102,98,121])=true:=by rw[ByteArray.toList_eq,d3];rfl
        have e3':(op.toList != [102,98,121])=false:=by rw[ByteArray.toList_eq,d3];rfl
        by_cases h0:i=0
        ·have HOE:Hid (bK op.data.toList (l.take (i+1))=bK op.data.toList (l.take i)++onE (.mk op' n' s' es)):=by unfold Hid;rw[HOT.out,if_neg (by simp [d2,h0])]
         have h0':((i:Int)==0)=true:=by rw[h0];rfl
         clear d2 d3 h0
         go_upto_region 9 with fail
         go_region_with (go_at_call 89;refine(Hr.out _ (by first | exact Below.refl _ _ | exact(Below.refl _ _).drew)).mono ?_;rintro e w6 ⟨rfl,hq6,hm6⟩)
         all_goals go_wp2
         all_goals exact⟨⟨i+1,HJ.out,by rw[N4.out];rfl,by rw[HOE.out];exact hq6,hm6⟩,by rw[N4.out];have:=HJ.out;simp [intOf];omega⟩
        ·have HOE:Hid (bK op.data.toList (l.take (i+1))=bK op.data.toList (l.take i)):=by unfold Hid;rw[HOT.out,if_pos (.inr ⟨d3,h0⟩)]
         have h0':((i:Int)==0)=false:=beq_eq_false_iff_ne.2 (by omega)
         clear d2 d3 h0
         go_wp2
         exact⟨⟨i+1,HJ.out,by rw[N4.out];rfl,by rw[HOE.out];exact HRR.out.1,HRR.out.2⟩,by rw[N4.out];have:=HJ.out;simp [intOf];omega⟩
       ·have e3:(op.toList==[102,98,121])=false:=by rw[ByteArray.toList_eq];exact beq_eq_false_iff_ne.2 d3
        have e3':(op.toList != [102,98,121])=true:=by unfold bne;rw[e3];rfl
        have HOE:Hid (bK op.data.toList (l.take (i+1))=bK op.data.toList (l.take i)++onE (.mk op' n' s' es)):=by unfold Hid;rw[HOT.out,if_neg (by simp [d2,d3])]
        clear d2 d3
        go_upto_region 9 with fail
        go_region_with (go_at_call 89;refine(Hr.out _ (by first | exact Below.refl _ _ | exact(Below.refl _ _).drew)).mono ?_;rintro e w6 ⟨rfl,hq6,hm6⟩)
        all_goals go_wp2
        all_goals exact⟨⟨i+1,HJ.out,by rw[N4.out];rfl,by rw[HOE.out];exact hq6,hm6⟩,by rw[N4.out];have:=HJ.out;simp [intOf];omega⟩
     ·obtain rfl:l.length=i:=by omega
      have HO:Hid (aT wr nb N (dM p.fs g0 (bK op.data.toList l))∧Mv nb w wr):=by
       have h:=HR.out
       rw[List.take_length] at h
       exact⟨h.1,HMV.out wr h.2⟩
      have i1':¬(l.length:Int)<(l.length:Int):=by omega
      clear hi hlt HR
      go_wp2
      go_end0
      exact⟨rfl,HO.out⟩
   ·rw[q1] at HFO1
    obtain⟨g0,hg0⟩:∃g0,g0=dM p.fs g [s.data.toList]:=⟨_,rfl⟩
    have HGE:Hid (∀ns,dM p.fs g ([s.data.toList]++ns)=dM p.fs g0 ns):=fun ns=>by rw[hg0,r9]
    have HG0:Hid (g0=fun j=>if j=k then true else g j):=by unfold Hid;rw[hg0,q3]
    rw[HGE.out]
    have k0':(0:Int)≤(k:Int):=by omega
    have k1':(k:Int)<(N:Int):=by omega
    have HKN:Hid (k<N):=q2
    clear d1 q1 q2 q3 hg0
    go_enter Tryz.func89,Tryz.ntmps89
    go_upto_region 1 with fail
    rw[HW1.out.1,HW1.out.2]
    go_wp2_with (first | (go_at_call 98;refine HFO1.out.mono ?_;rintro e w1b ⟨rfl,hb2⟩;have HBB:Hid (aT w1b nb N g∧Bw w1 w1b):=⟨aG hb2 HG1.out,hb2⟩;have z0:=HBB.out.1.cell HKN.out;have z1:=HBB.out.1.free k) | fail)
    obtain⟨w2,hw2⟩:∃w2,w2=w1b.setCell ⟨nb,k,none⟩ (.bool true):=⟨_,rfl⟩
    have HS2:Hid (aT w2 nb N g0∧Mv nb w1 w2):=⟨by rw[HG0.out,hw2];exact HBB.out.1.set k true,by rw[hw2];exact kL (Mv.of_below HBB.out.2) (Mv.setAt nb k w1b _)⟩
    rw[←hw2]
    clear hb2 a0 a1 a2 a3 a4 b0 b1 b2 b3 z0 z1 hw2 HBB
    go_loopw [7] (fun t wr=>∃(i:Nat),i≤l.length∧t=.int .i64 i∧Hid (aT wr nb N (dM p.fs g0 (bK op.data.toList (l.take i)))∧Mv nb w1 wr)) (fun t _=>l.length-(intOf t).toNat)
    case atStart=>exact⟨0,Nat.zero_le _,rfl,by rw[List.take_zero,show bK op.data.toList []=[] from by unfold bK;split;rfl;split<;>rfl,yE];exact HS2.out.1,HS2.out.2⟩
    case round=>
     obtain⟨i,hi,rfl,HR⟩:=hrel
     obtain⟨⟨a0,a1,a2,a3,a4⟩,b0,b1,b2,b3⟩:=HC.out wr HR.out.2
     by_cases hlt:i<l.length
     ·obtain⟨hpv,hrow,hex⟩:=HPV.out wr HR.out.2
      obtain⟨op',n',s',es,oo,cc,zs,e,x0,x1,x2,x3,r1,r2⟩:=hex.at hlt
      obtain⟨bq,off,rfl,_,gg⟩:=kZ hrow (by have:=hrow.1;omega)
      have x0:=gg _ _ x0
      have x1:=gg _ _ x1
      have x2:=gg _ _ x2
      have x3:=gg _ _ x3
      rw[←Nat.add_assoc] at x1 x2 x3
      have i0':(0:Int)≤(i:Int):=by omega
      have i1:(i:Int)<(l.length:Int):=by omega
      have hi1:l[i]?=some (.mk op' n' s' es):=by rw[List.getElem?_eq_getElem hlt,e]
      have hot:=yA op.data.toList hi1
      have N4:Hid (wrap64 ((i:Int)+1)=(i:Int)+1):=by have:=HB.out.2.1;unfold Hid wrap64;omega
      have HJ:=aA hlt
      have Hr:Hid (∀W,Bw wr W→Calls Tryz.prog 89 #[(.agg #[.slice o1 I c1,.slice o2 O c2,.slice o3 N c3,.slice o4 A c4,.slice o5 C c5]),.agg #[.string op',.int .i64 n',.string s',.slice oo es.length cc],.slice (some ⟨nb,0,none⟩) N N] W fun e w'=>e=.returned (.tuple #[])∧aT w' nb N (dM p.fs g0 (bK op.data.toList (l.take i)++onE (.mk op' n' s' es)))∧Mv nb w1 w'):=fun W hW=>by
       have hmW:=kL HR.out.2 (Mv.of_below hW)
       obtain⟨hpv,hrow,hex⟩:=HPV.out W hmW
       refine(HV.out i hlt op' n' s' es e W S S' oo cc nb zs _ hpv (aG hW HR.out.1) HSS.out.1 HSS.out.2 (r1.keep (fun b hB hl=>⟨hB,hW.block b hl⟩)) (r2.keep (fun b hB hl=>⟨hB,hW.block b hl⟩))).mono ?_
       rintro e w' ⟨rfl,h1,h2⟩
       rw[r9] at h1
       exact⟨rfl,h1,kL hmW h2⟩
      have HOT:=aA hot
      have HRR:Hid (aT wr nb N (dM p.fs g0 (bK op.data.toList (l.take i)))∧Mv nb w1 wr):=HR.out
      clear gg e r1 r2 hi1 hlt hi hpv hrow hex hot HR
      by_cases d2:op.data.toList=cZ
      ·have e2:(op.toList==[112,114,101])=true:=by rw[ByteArray.toList_eq,d2];rfl
       have e2':(op.toList != [112,114,101])=false:=by rw[ByteArray.toList_eq,d2];rfl
       have HOE:Hid (bK op.data.toList (l.take (i+1))=bK op.data.toList (l.take i)):=by unfold Hid;rw[HOT.out,if_pos (.inl d2)]
       clear d2
       go_wp2
       exact⟨⟨i+1,HJ.out,by rw[N4.out];rfl,by rw[HOE.out];exact HRR.out.1,HRR.out.2⟩,by rw[N4.out];have:=HJ.out;simp [intOf];omega⟩
      ·have e2:(op.toList==[112,114,101])=false:=by rw[ByteArray.toList_eq];exact beq_eq_false_iff_ne.2 d2
       have e2':(op.toList != [112,114,101])=true:=by unfold bne;rw[e2];rfl
       by_cases d3:op.data.toList=cK
       ·have e3:(op.toList==[102,98,121])=true:=by rw[ByteArray.toList_eq,d3];rfl
        have e3':(op.toList != [102,98,121])=false:=by rw[ByteArray.toList_eq,d3];rfl
        by_cases h0:i=0
        ·have HOE:Hid (bK op.data.toList (l.take (i+1))=bK op.data.toList (l.take i)++onE (.mk op' n' s' es)):=by unfold Hid;rw[HOT.out,if_neg (by simp [d2,h0])]
         have h0':((i:Int)==0)=true:=by rw[h0];rfl
         clear d2 d3 h0
         go_upto_region 9 with fail
         go_region_with (go_at_call 89;refine(Hr.out _ (by first | exact Below.refl _ _ | exact(Below.refl _ _).drew)).mono ?_;rintro e w6 ⟨rfl,hq6,hm6⟩)
         all_goals go_wp2
         all_goals exact⟨⟨i+1,HJ.out,by rw[N4.out];rfl,by rw[HOE.out];exact hq6,hm6⟩,by rw[N4.out];have:=HJ.out;simp [intOf];omega⟩
        ·have HOE:Hid (bK op.data.toList (l.take (i+1))=bK op.data.toList (l.take i)):=by unfold Hid;rw[HOT.out,if_pos (.inr ⟨d3,h0⟩)]
         have h0':((i:Int)==0)=false:=beq_eq_false_iff_ne.2 (by omega)
         clear d2 d3 h0
         go_wp2
         exact⟨⟨i+1,HJ.out,by rw[N4.out];rfl,by rw[HOE.out];exact HRR.out.1,HRR.out.2⟩,by rw[N4.out];have:=HJ.out;simp [intOf];omega⟩
       ·have e3:(op.toList==[102,98,121])=false:=by rw[ByteArray.toList_eq];exact beq_eq_false_iff_ne.2 d3
        have e3':(op.toList != [102,98,121])=true:=by unfold bne;rw[e3];rfl
        have HOE:Hid (bK op.data.toList (l.take (i+1))=bK op.data.toList (l.take i)++onE (.mk op' n' s' es)):=by unfold Hid;rw[HOT.out,if_neg (by simp [d2,d3])]
        clear d2 d3
        go_upto_region 9 with fail
        go_region_with (go_at_call 89;refine(Hr.out _ (by first | exact Below.refl _ _ | exact(Below.refl _ _).drew)).mono ?_;rintro e w6 ⟨rfl,hq6,hm6⟩)
        all_goals go_wp2
        all_goals exact⟨⟨i+1,HJ.out,by rw[N4.out];rfl,by rw[HOE.out];exact hq6,hm6⟩,by rw[N4.out];have:=HJ.out;simp [intOf];omega⟩
     ·obtain rfl:l.length=i:=by omega
      have HO:Hid (aT wr nb N (dM p.fs g0 (bK op.data.toList l))∧Mv nb w wr):=by
       have h:=HR.out
       rw[List.take_length] at h
       exact⟨h.1,HMV.out wr h.2⟩
      have i1':¬(l.length:Int)<(l.length:Int):=by omega
      clear hi hlt HR
      go_wp2
      go_end0
      exact⟨rfl,HO.out⟩
  ·rw[if_neg d1,List.nil_append]
   have e1:(op.toList==[110,97,109,101])=false:=by rw[ByteArray.toList_eq];exact beq_eq_false_iff_ne.2 d1
   obtain⟨g0,hg0⟩:∃g0,g0=g:=⟨_,rfl⟩
   have HS2:Hid (aT w1 nb N g0∧Mv nb w1 w1):=⟨by rw[hg0];exact HG1.out,vG _ _⟩
   rw[←hg0]
   clear d1 hg0
   go_enter Tryz.func89,Tryz.ntmps89
   go_upto_region 1 with fail
   rw[HW1.out.1,HW1.out.2]
   go_wp2
   clear a0 a1 a2 a3 a4 b0 b1 b2 b3
   go_loopw [7] (fun t wr=>∃(i:Nat),i≤l.length∧t=.int .i64 i∧Hid (aT wr nb N (dM p.fs g0 (bK op.data.toList (l.take i)))∧Mv nb w1 wr)) (fun t _=>l.length-(intOf t).toNat)
   case atStart=>exact⟨0,Nat.zero_le _,rfl,by rw[List.take_zero,show bK op.data.toList []=[] from by unfold bK;split;rfl;split<;>rfl,yE];exact HS2.out.1,HS2.out.2⟩
   case round=>
    obtain⟨i,hi,rfl,HR⟩:=hrel
    obtain⟨⟨a0,a1,a2,a3,a4⟩,b0,b1,b2,b3⟩:=HC.out wr HR.out.2
    by_cases hlt:i<l.length
    ·obtain⟨hpv,hrow,hex⟩:=HPV.out wr HR.out.2
     obtain⟨op',n',s',es,oo,cc,zs,e,x0,x1,x2,x3,r1,r2⟩:=hex.at hlt
     obtain⟨bq,off,rfl,_,gg⟩:=kZ hrow (by have:=hrow.1;omega)
     have x0:=gg _ _ x0
     have x1:=gg _ _ x1
     have x2:=gg _ _ x2
     have x3:=gg _ _ x3
     rw[←Nat.add_assoc] at x1 x2 x3
     have i0':(0:Int)≤(i:Int):=by omega
     have i1:(i:Int)<(l.length:Int):=by omega
     have hi1:l[i]?=some (.mk op' n' s' es):=by rw[List.getElem?_eq_getElem hlt,e]
     have hot:=yA op.data.toList hi1
     have N4:Hid (wrap64 ((i:Int)+1)=(i:Int)+1):=by have:=HB.out.2.1;unfold Hid wrap64;omega
     have HJ:=aA hlt
     have Hr:Hid (∀W,Bw wr W→Calls Tryz.prog 89 #[(.agg #[.slice o1 I c1,.slice o2 O c2,.slice o3 N c3,.slice o4 A c4,.slice o5 C c5]),.agg #[.string op',.int .i64 n',.string s',.slice oo es.length cc],.slice (some ⟨nb,0,none⟩) N N] W fun e w'=>e=.returned (.tuple #[])∧aT w' nb N (dM p.fs g0 (bK op.data.toList (l.take i)++onE (.mk op' n' s' es)))∧Mv nb w1 w'):=fun W hW=>by
      have hmW:=kL HR.out.2 (Mv.of_below hW)
      obtain⟨hpv,hrow,hex⟩:=HPV.out W hmW
      refine(HV.out i hlt op' n' s' es e W S S' oo cc nb zs _ hpv (aG hW HR.out.1) HSS.out.1 HSS.out.2 (r1.keep (fun b hB hl=>⟨hB,hW.block b hl⟩)) (r2.keep (fun b hB hl=>⟨hB,hW.block b hl⟩))).mono ?_
      rintro e w' ⟨rfl,h1,h2⟩
      rw[r9] at h1
      exact⟨rfl,h1,kL hmW h2⟩
     have HOT:=aA hot
     have HRR:Hid (aT wr nb N (dM p.fs g0 (bK op.data.toList (l.take i)))∧Mv nb w1 wr):=HR.out
     clear gg e r1 r2 hi1 hlt hi hpv hrow hex hot HR
     by_cases d2:op.data.toList=cZ
     ·have e2:(op.toList==[112,114,101])=true:=by rw[ByteArray.toList_eq,d2];rfl
      have e2':(op.toList != [112,114,101])=false:=by rw[ByteArray.toList_eq,d2];rfl
      have HOE:Hid (bK op.data.toList (l.take (i+1))=bK op.data.toList (l.take i)):=by unfold Hid;rw[HOT.out,if_pos (.inl d2)]
      clear d2
      go_wp2
      exact⟨⟨i+1,HJ.out,by rw[N4.out];rfl,by rw[HOE.out];exact HRR.out.1,HRR.out.2⟩,by rw[N4.out];have:=HJ.out;simp [intOf];omega⟩
     ·have e2:(op.toList==[112,114,101])=false:=by rw[ByteArray.toList_eq];exact beq_eq_false_iff_ne.2 d2
      have e2':(op.toList != [112,114,101])=true:=by unfold bne;rw[e2];rfl
      by_cases d3:op.data.toList=cK
      ·have e3:(op.toList==[102,98,121])=true:=by rw[ByteArray.toList_eq,d3];rfl
       have e3':(op.toList != [102,98,121])=false:=by rw[ByteArray.toList_eq,d3];rfl
       by_cases h0:i=0
       ·have HOE:Hid (bK op.data.toList (l.take (i+1))=bK op.data.toList (l.take i)++onE (.mk op' n' s' es)):=by unfold Hid;rw[HOT.out,if_neg (by simp [d2,h0])]
        have h0':((i:Int)==0)=true:=by rw[h0];rfl
        clear d2 d3 h0
        go_upto_region 9 with fail
        go_region_with (go_at_call 89;refine(Hr.out _ (by first | exact Below.refl _ _ | exact(Below.refl _ _).drew)).mono ?_;rintro e w6 ⟨rfl,hq6,hm6⟩)
        all_goals go_wp2
        all_goals exact⟨⟨i+1,HJ.out,by rw[N4.out];rfl,by rw[HOE.out];exact hq6,hm6⟩,by rw[N4.out];have:=HJ.out;simp [intOf];omega⟩
       ·have HOE:Hid (bK op.data.toList (l.take (i+1))=bK op.data.toList (l.take i)):=by unfold Hid;rw[HOT.out,if_pos (.inr ⟨d3,h0⟩)]
        have h0':((i:Int)==0)=false:=beq_eq_false_iff_ne.2 (by omega)
        clear d2 d3 h0
        go_wp2
        exact⟨⟨i+1,HJ.out,by rw[N4.out];rfl,by rw[HOE.out];exact HRR.out.1,HRR.out.2⟩,by rw[N4.out];have:=HJ.out;simp [intOf];omega⟩
      ·have e3:(op.toList==[102,98,121])=false:=by rw[ByteArray.toList_eq];exact beq_eq_false_iff_ne.2 d3
       have e3':(op.toList != [102,98,121])=true:=by unfold bne;rw[e3];rfl
       have HOE:Hid (bK op.data.toList (l.take (i+1))=bK op.data.toList (l.take i)++onE (.mk op' n' s' es)):=by unfold Hid;rw[HOT.out,if_neg (by simp [d2,d3])]
       clear d2 d3
       go_upto_region 9 with fail
       go_region_with (go_at_call 89;refine(Hr.out _ (by first | exact Below.refl _ _ | exact(Below.refl _ _).drew)).mono ?_;rintro e w6 ⟨rfl,hq6,hm6⟩)
       all_goals go_wp2
       all_goals exact⟨⟨i+1,HJ.out,by rw[N4.out];rfl,by rw[HOE.out];exact hq6,hm6⟩,by rw[N4.out];have:=HJ.out;simp [intOf];omega⟩
    ·obtain rfl:l.length=i:=by omega
     have HO:Hid (aT wr nb N (dM p.fs g0 (bK op.data.toList l))∧Mv nb w wr):=by
      have h:=HR.out
      rw[List.take_length] at h
      exact⟨h.1,HMV.out wr h.2⟩
     have i1':¬(l.length:Int)<(l.length:Int):=by omega
     clear hi hlt HR
     go_wp2
     go_end0
     exact⟨rfl,HO.out⟩
end Go.Proofs.YtmgfakcccfahaaaGreatDoor
