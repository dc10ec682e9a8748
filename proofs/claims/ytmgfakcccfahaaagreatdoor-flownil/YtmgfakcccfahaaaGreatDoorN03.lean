/-
  plain.Code BY ITS CONTRACTS: of an error of errors.New's make ('code_str'), of an *api.Fault that wraps one ('code_fault'), of nil ('code_nil'): the error's number and its place; what was in memory stays. Conditions: the nine sentinels and the library's errorType lie in memory as the program's text lays them ('Sents').
-/
import Derived.LaidEql
import Derived.Stop.Asserts
import Derived.RowKitTokens
import Derived.Test.YtmgfakcccfahaaaGreatDoorN02
import Derived.Defers
import Derived.Recover
import Derived.Laws.Pointers
import Derived.Deep.DrawnRows
set_option maxRecDepth 100000
set_option maxHeartbeats 4000000
namespace Go.Proofs.YtmgfakcccfahaaaGreatDoor
open Go.RowKit Go.Extern.Stop Go.Stop Go.Extern
structure Rt(a:Nat→Addr)(w:World):Prop where
 g0:w.cell? ⟨5,0,none⟩=some (.iface 289 (.pointer (some (a 0))))
 g1:w.cell? ⟨2,0,none⟩=some (.iface 289 (.pointer (some (a 1))))
 g2:w.cell? ⟨4,0,none⟩=some (.iface 289 (.pointer (some (a 2))))
 g3:w.cell? ⟨6,0,none⟩=some (.iface 289 (.pointer (some (a 3))))
 g4:w.cell? ⟨3,0,none⟩=some (.iface 289 (.pointer (some (a 4))))
 g5:w.cell? ⟨0,0,none⟩=some (.iface 289 (.pointer (some (a 5))))
 g6:w.cell? ⟨1,0,none⟩=some (.iface 289 (.pointer (some (a 6))))
 g7:w.cell? ⟨7,0,none⟩=some (.iface 289 (.pointer (some (a 7))))
 g8:w.cell? ⟨8,0,none⟩=some (.iface 289 (.pointer (some (a 8))))
 et:w.cell? ⟨9,0,none⟩=some (.iface 260 (.agg #[.pointer (some ⟨10,32,none⟩)]))
 row:∀k,k<9→∃c t,w.heap[(a k).block]?=some (.cells c t (0,0))
 inj:∀j k,j<9→k<9→j≠k→a j≠a k
end Go.Proofs.YtmgfakcccfahaaaGreatDoor
namespace Go.Proofs.YtmgfakcccfahaaaGreatDoor
open Go.RowKit Go.Maps
theorem dJ.i64{gs:List (Int×Int)}{a:Int}(h:dJ gs a)(hl:gs.length≤90010):wQ a:=by unfold dJ at h;unfold wQ;omega
def sS(p:Int×Int):Bool:=decide (p=(0,0))
theorem Gs.i64{gs:List (Int×Int)}(h:Gs gs)(hl:gs.length≤90000){i:Nat}{p:Int×Int}(hi:gs[i]?=some p):wQ p.1∧wQ p.2:=by
 have hlt:i<gs.length:=(bA hi).1
 rcases h.each i p hi with rfl | ⟨h1,h2,h3⟩
 ·unfold wQ;simp
 ·unfold wQ;omega
def nG(vs:List Bool)(x:Int):Bool:=(vs.getD (x / 2).toNat false) != (x % 2==1)
def gM(gs:List (Int×Int))(inp:List Bool):Nat→List Bool×Nat
 | 0=>([false],0)
 | n+1=>
  match gs[n]? with
  | some p=>if sS p=true then ((gM gs inp n).1++[inp.getD (gM gs inp n).2 false],(gM gs inp n).2+1) else ((gM gs inp n).1++[nG (gM gs inp n).1 p.1&&nG (gM gs inp n).1 p.2],(gM gs inp n).2)
  | none=>((gM gs inp n).1++[false],(gM gs inp n).2)
def wG(gs:List (Int×Int)):Nat:=(gs.filter sS).length
theorem wV(gs:List (Int×Int))(inp:List Bool):∀n,(gM gs inp n).1.length=n+1
 | 0=>rfl
 | n+1=>by
  unfold gM
  split
  ·split<;>simp [wV gs inp n]
  ·simp [wV gs inp n]
theorem Tryz.F4:(Tryz.prog.info? 4).map (fun i=>(i.zero,i.size,i.bytes))=some (some (.bool false),1,1):=by kernel_rfl
def tX(gs:List (Int×Int))(inp:List Bool):List Bool:=(gM gs inp gs.length).1
theorem Gs.lits{gs:List (Int×Int)}(h:Gs gs){i:Nat}{p:Int×Int}(hi:gs[i]?=some p)(hn:sS p=false):0≤p.1∧p.1<2*((i:Int)+1)∧0≤p.2∧p.2<2*((i:Int)+1):=by
 have hp:=(h.each i p hi).resolve_left (fun e=>by rw[e] at hn;exact absurd hn (by decide))
 omega
def kN(l:List Int):Array Value:=(l.map (Value.int .i64)).toArray
def rowP(os:List Int)(m:Nat):List Int:=os++List.replicate (m-os.length) 0
theorem D9{l:List Int}{k:Nat}{x:Int}(h:l[k]?=some x):(kN l)[k]?=some (.int .i64 x):=by simp [kN,h]
theorem K5(l:List Int)(k:Nat)(x:Int):(kN l).setIfInBounds k (.int .i64 x)=kN (l.set k x):=by simp [kN,List.map_set]
theorem D7{os:List Int}{m:Nat}(h:os.length=m):rowP os m=os:=by simp [rowP,h]
theorem K4{os:List Int}{m:Nat}(h:os.length<m):(rowP os m)[os.length]?=some 0:=by
 unfold rowP
 rw[List.getElem?_append_right (Nat.le_refl _),Nat.sub_self,List.getElem?_replicate,if_pos (by omega)]
theorem K3{os:List Int}{m:Nat}(h:os.length<m)(x:Int):(rowP os m).set os.length x=rowP (os++[x]) m:=by
 unfold rowP
 rw[List.set_append_right _ _ (Nat.le_refl _),Nat.sub_self]
 have:m-os.length=(m-(os++[x]).length)+1:=by simp;omega
 rw[this,List.replicate_succ]
 simp
theorem D5{w:World}{V:Nat}{os:List Int}{m:Nat}{t:TypeId}(hV:w.heap[V]?=some (.cells (kN (rowP os m)) t (0,0)))(h:os.length<m)(x:Int) :
  (w.setCell ⟨V,os.length,none⟩ (.int .i64 x)).heap[V]?=some (.cells (kN (rowP (os++[x]) m)) t (0,0)):=by
 rw[rJ hV,K5,K3 h]
theorem D6{w:World}{V:Nat}{os:List Int}{m:Nat}{t:TypeId}(hV:w.heap[V]?=some (.cells (kN (rowP os m)) t (0,0)))(h:os.length<m):w.cell? ⟨V,os.length,none⟩=some (.int .i64 0):=by
 rw[cell_of_row w V _ _ t (0,0) hV];exact D9 (K4 h)
theorem cZ{w:World}{V:Nat}{l:List Int}{t:TypeId}{c:Nat}(hV:w.heap[V]?=some (.cells (kN l) t (0,0)))(hl:l.length≤maxLen):dP w (.slice (some ⟨V,0,none⟩) l.length c) l:=
 ⟨hl,_,c,rfl,fun k x hk=>⟨V,0,rfl,by rw[Nat.zero_add,cell_of_row w V _ _ t (0,0) hV];exact D9 hk⟩⟩

def iX:List Int→List Int→Int→Option Int
 | [],_,f=>some f
 | k::ks,ps,f=>
  match ps with
  | []=>none
  | p::ps=>
   if k=0 then (if f=0 then iX ks ps p else if p=f then iX ks ps f else none)
   else if p=k then iX ks ps f else none
def lY(gives:List Int)(f:Int):List Int:=gives.map fun k=>if k=0 then f else k
theorem Pv{tk ps:List Int}{j:Nat}{k p:Int}(h1:tk[j]?=some k)(h2:ps[j]?=some p)(f:Int) :
  iX (tk.drop j) (ps.drop j) f=if k=0 then (if f=0 then iX (tk.drop (j+1)) (ps.drop (j+1)) p else if p=f then iX (tk.drop (j+1)) (ps.drop (j+1)) f else none) else if p=k then iX (tk.drop (j+1)) (ps.drop (j+1)) f else none:=by
 have e1:tk.drop j=k::tk.drop (j+1):=by
  obtain⟨hl,rfl⟩:=bA h1
  exact List.drop_eq_getElem_cons hl
 have e2:ps.drop j=p::ps.drop (j+1):=by
  obtain⟨hl,rfl⟩:=bA h2
  exact List.drop_eq_getElem_cons hl
 rw[e1,e2]
 rfl
theorem Tryz.kT:(Tryz.prog.info? 3).map (fun i=>(i.zero,i.size,i.bytes))=some (some (.int .i64 0),1,8):=by kernel_rfl
theorem Fh{w:World}{V n:Nat}(h:w.ownsRow 0 3 1 (.slice (some ⟨V,0,none⟩) n n) n (madeCells (Value.int .i64 0).cells (n*1)).toList):w.heap[V]?=some (.cells (kN (rowP [] n)) 3 (0,0)):=by
 obtain⟨_,h2⟩:=h
 rcases h2 with⟨h2,_⟩ | ⟨g,cap,cur,e,_,hg,_,_,hs,ht⟩
 ·cases h2
 ·obtain⟨rfl,rfl⟩:V=g∧n=cap:=by simpa using e
  rw[hg]
  have e1:(madeCells (Value.int .i64 0).cells (n*1)).toList=List.replicate n (.int .i64 0):=by rw[Nat.mul_one];exact toList_madeCells_one _ _
  rw[e1] at ht
  have e2:cur.toList=List.replicate n (.int .i64 0):=by rw[←ht,List.take_of_length_le (by simp [hs])]
  have:cur=kN (rowP [] n):=by
   apply Array.toList_inj.1
   rw[e2]
   simp [kN,rowP]
  rw[this]
def pM(e:Ending):Prop:=e=.panicked [{ v:=.iface 251 (.agg #[]),recovered:=false }]
theorem dP.keep{w w':World}{v:Value}{l:List Int}(h:dP w v l)(hb:Bw w w'):dP w' v l:=by
 obtain⟨hl,o,c,rfl,h⟩:=h
 refine⟨hl,o,c,rfl,fun k x hk=>?_⟩
 obtain⟨b,off,e,hc⟩:=h k x hk
 exact⟨b,off,e,aD hb hc⟩
theorem dP.get{w:World}{o:Option Addr}{n c:Nat}{l:List Int}(h:dP w (.slice o n c) l){j:Nat}{x:Int}(hx:l[j]?=some x):∃b off,o=some ⟨b,off,none⟩∧w.cell? ⟨b,off+j,none⟩=some (.int .i64 x):=by
 obtain⟨_,o',c',e,h⟩:=h
 obtain⟨b,off,rfl,hc⟩:=h j x hx
 obtain⟨rfl,_,_⟩:o=some ⟨b,off,none⟩∧n=l.length∧c=c':=by simpa using e
 exact⟨b,off,rfl,hc⟩
theorem QK(w:World)(o1 o2 op:Option Addr)(c1 c2 cp:Nat)(tk gv ps:List Int)(h1:dP w (.slice o1 tk.length c1) tk)(h2:dP w (.slice o2 gv.length c2) gv)(hp:dP w (.slice op tk.length cp) ps)(hlen:ps.length=tk.length)(hs1:tk.length≤10)(hs2:gv.length≤10) :
  Calls Tryz.prog 126 #[.agg #[.slice o1 tk.length c1,.slice o2 gv.length c2],.slice op tk.length cp] w fun e w'=>Bw w w'∧((∃f V,iX tk ps 0=some f∧e=.returned (.slice (some ⟨V,0,none⟩) gv.length gv.length)∧w'.heap[V]?=some (.cells (kN (lY gv f)) 3 (0,0))∧w.heap.size≤V)∨(iX tk ps 0=none∧pM e)):=by
 obtain⟨i0,hi0,hz0,hz1,hz2⟩:=info_parts Tryz.kT
 have hb1:Bw w (w.alloc (.cells #[.slice o1 tk.length c1,.slice o2 gv.length c2] 206)):=aH
 have H1:Hid (dP (w.alloc (.cells #[.slice o1 tk.length c1,.slice o2 gv.length c2] 206)) (.slice o1 tk.length c1) tk):=h1.keep hb1
 have H2:Hid (dP (w.alloc (.cells #[.slice o1 tk.length c1,.slice o2 gv.length c2] 206)) (.slice o2 gv.length c2) gv):=h2.keep hb1
 have HP:Hid (dP (w.alloc (.cells #[.slice o1 tk.length c1,.slice o2 gv.length c2] 206)) (.slice op tk.length cp) ps):=hp.keep hb1
 have HBY:Hid (i0.bytes*gv.length≤281474976710656):=by unfold Hid;rw[hz2];omega
 have HMX:Hid (gv.length≤maxLen):=by unfold Hid maxLen;omega
 have HI0:=aA hi0
 have HZ0:=aA hz0
 have HZ1:=aA hz1
 have HS1:=aA hs1
 have HS2:=aA hs2
 have HLN:=aA hlen
 have HB1:=aA hb1
 obtain⟨w1,hw1⟩:∃w1,w1=w.alloc (.cells #[.slice o1 tk.length c1,.slice o2 gv.length c2] 206):=⟨_,rfl⟩
 have z0:w1.cell? ⟨w.heap.size,0,none⟩=some (.slice o1 tk.length c1):=by rw[hw1];simp
 have z1:w1.cell? ⟨w.heap.size,0+1,none⟩=some (.slice o2 gv.length c2):=by rw[hw1];simp
 rw[←hw1] at H1 H2 HP HB1
 have HW:Hid (w.alloc (.cells #[.slice o1 tk.length c1,.slice o2 gv.length c2] 206)=w1):=hw1.symm
 clear h1 h2 hp hs1 hs2 hlen hb1 hi0 hz0 hz1 hz2 hw1
 go_enter Tryz.func126,Tryz.ntmps126
 go_upto_region 1 with fail
 rw[HW.out]
 clear HW
 go_wp2
 go_loop [5,22] (fun fv t=>∃(j:Nat) (f:Int),j≤tk.length∧t=.int .i64 j∧fv=.int .i64 f∧iX tk ps 0=iX (tk.drop j) (ps.drop j) f) (fun _ t=>tk.length-(intOf t).toNat)
 case atStart=>exact⟨0,0,Nat.zero_le _,rfl,rfl,by simp⟩
 case round=>
  obtain⟨j,f,hj,rfl,rfl,hfit⟩:=hrel
  by_cases hjl:j<tk.length
  ·obtain⟨k,hk⟩:∃k,tk[j]?=some k:=⟨_,List.getElem?_eq_getElem hjl⟩
   obtain⟨p,hp⟩:∃p,ps[j]?=some p:=⟨_,List.getElem?_eq_getElem (by have:=HLN.out;omega)⟩
   obtain⟨b1,f1,rfl,q1⟩:=H1.out.get hk
   obtain⟨b2,f2,rfl,q2⟩:=HP.out.get hp
   rw[Pv hk hp] at hfit
   have i0':(0:Int)≤(j:Int):=by omega
   have i1':(j:Int)<(tk.length:Int):=by omega
   have N4:Hid (wrap64 ((j:Int)+1)=(j:Int)+1):=by have:=HS1.out;unfold Hid wrap64;omega
   have HJ:=aA hjl
   have HFIT:=aA hfit
   clear hj hjl hk hp hfit
   by_cases hk0:k=0
   ·subst hk0
    by_cases hf0:f=0
    ·subst hf0
     have E:Hid (iX tk ps 0=iX (tk.drop (j+1)) (ps.drop (j+1)) p):=by unfold Hid;rw[HFIT.out,if_pos rfl,if_pos rfl]
     clear HFIT
     go_wp2
     exact⟨⟨j+1,p,HJ.out,by rw[N4.out];rfl,rfl,E.out⟩,by rw[N4.out];have:=HJ.out;simp [intOf];omega⟩
    ·have df:(f==0)=false:=beq_eq_false_iff_ne.2 hf0
     by_cases hpf:p=f
     ·subst hpf
      have E:Hid (iX tk ps 0=iX (tk.drop (j+1)) (ps.drop (j+1)) p):=by unfold Hid;rw[HFIT.out,if_pos rfl,if_neg hf0,if_pos rfl]
      clear HFIT hf0
      go_wp2
      exact⟨⟨j+1,p,HJ.out,by rw[N4.out];rfl,rfl,E.out⟩,by rw[N4.out];have:=HJ.out;simp [intOf];omega⟩
     ·have dp:(p==f)=false:=beq_eq_false_iff_ne.2 hpf
      have dp':(p != f)=true:=by simp [hpf]
      have E:Hid (iX tk ps 0=none):=by unfold Hid;rw[HFIT.out,if_pos rfl,if_neg hf0,if_neg hpf]
      clear HFIT hf0 hpf
      go_wp2
      exact⟨rfl,HB1.out,Or.inr ⟨E.out,rfl⟩⟩
   ·have dk:(k==0)=false:=beq_eq_false_iff_ne.2 hk0
    by_cases hpk:p=k
    ·subst hpk
     have E:Hid (iX tk ps 0=iX (tk.drop (j+1)) (ps.drop (j+1)) f):=by unfold Hid;rw[HFIT.out,if_neg hk0,if_pos rfl]
     clear HFIT hk0
     go_wp2
     exact⟨⟨j+1,f,HJ.out,by rw[N4.out];rfl,rfl,E.out⟩,by rw[N4.out];have:=HJ.out;simp [intOf];omega⟩
    ·have dp:(p==k)=false:=beq_eq_false_iff_ne.2 hpk
     have dp':(p != k)=true:=by simp [hpk]
     have E:Hid (iX tk ps 0=none):=by unfold Hid;rw[HFIT.out,if_neg hk0,if_neg hpk]
     clear HFIT hk0 hpk
     go_wp2
     exact⟨rfl,HB1.out,Or.inr ⟨E.out,rfl⟩⟩
  ·obtain rfl:j=tk.length:=by omega
   rw[List.drop_length] at hfit
   have E:Hid (iX tk ps 0=some f):=by unfold Hid;rw[hfit];rfl
   clear hfit hj hjl
   go_wp2_with (first
    | (at_make;refine wpList_make_full _ rfl _ _ 30 rfl 0 3 i0 _ 1 Tryz.underlying30 HI0.out HZ0.out HZ1.out .i64 .i64 _ _ gv.length rfl rfl (by simp) (by simp) HBY.out HMX.out (Nat.zero_le _) ?_;intro w2 hown2 hgr2;have hbb:Bw w1 w2:=⟨hgr2.os,hgr2.tape,hgr2.output,hgr2.size,fun k hk=>hgr2.block k hk (by simp)⟩;have z2:=aD hbb z1)
    | go_in)
   have hV2:=Fh hown2
   have HB2:=aA hbb
   have HV2:=aA hV2
   clear hown2 hgr2 hV2 hbb
   go_loopw [52] (fun t wr=>∃j:Nat,j≤gv.length∧t=.int .i64 j∧wr.heap[w1.heap.size]?=some (.cells (kN (rowP (lY (gv.take j) f) gv.length)) 3 (0,0))∧Bw w1 wr) (fun t _=>gv.length-(intOf t).toNat)
   case atStart=>exact⟨0,Nat.zero_le _,rfl,HV2.out,HB2.out⟩
   case round=>
    obtain⟨j,hj,rfl,hrow,hb⟩:=hrel
    have HW:=aA hb
    by_cases hjl:j<gv.length
    ·obtain⟨k,hk⟩:∃k,gv[j]?=some k:=⟨_,List.getElem?_eq_getElem hjl⟩
     obtain⟨b1,f1,rfl,q1⟩:=H2.out.get hk
     have q2:=aD hb q1
     have hlj:(lY (gv.take j) f).length=j:=by simp [lY];omega
     have hlt:(lY (gv.take j) f).length<gv.length:=by omega
     have c0:=D6 hrow hlt
     have f0:wr.frozen? ⟨w1.heap.size,j,none⟩=false:=bR hrow
     have hst:=D5 hrow hlt (if k=0 then f else k)
     rw[hlj] at c0 hst
     have e2:lY (gv.take j) f++[if k=0 then f else k]=lY (gv.take (j+1)) f:=by unfold lY;rw[List.take_add_one,hk];simp
     rw[e2] at hst
     have HST:Hid _:=hst
     have i0':(0:Int)≤(j:Int):=by omega
     have i1':(j:Int)<(gv.length:Int):=by omega
     have N4:Hid (wrap64 ((j:Int)+1)=(j:Int)+1):=by have:=HS2.out;unfold Hid wrap64;omega
     have HJ:=aA hjl
     clear hj hrow hb hjl hk hlj hlt hst e2 q1
     by_cases hk0:k=0
     ·subst hk0
      rw[if_pos rfl] at HST
      go_wp2
      exact⟨⟨j+1,HJ.out,by rw[N4.out];rfl,HST.out,HW.out.setCell (Nat.le_refl _) _⟩,by rw[N4.out];have:=HJ.out;simp [intOf];omega⟩
     ·have dk:(k==0)=false:=beq_eq_false_iff_ne.2 hk0
      rw[if_neg hk0] at HST
      clear hk0
      go_wp2
      exact⟨⟨j+1,HJ.out,by rw[N4.out];rfl,HST.out,HW.out.setCell (Nat.le_refl _) _⟩,by rw[N4.out];have:=HJ.out;simp [intOf];omega⟩
    ·obtain rfl:j=gv.length:=by omega
     rw[List.take_length,D7 (by simp [lY])] at hrow
     have HR':Hid _:=hrow
     clear hrow hb
     go_wp2
     go_ret
     exact⟨HB1.out.trans (HW.out.mono HB1.out.size),Or.inl ⟨f,w1.heap.size,E.out,rfl,HR'.out,HB1.out.size⟩⟩
end Go.Proofs.YtmgfakcccfahaaaGreatDoor
namespace Go.Proofs.YtmgfakcccfahaaaGreatDoor
open Go.RowKit
attribute [local go_sem ↓] Go.wp_at_zero Go.wp_at_succ

theorem JU(p:Addr)(w:World) :
  CallsD Tryz.prog 169 #[.pointer (some p)] .returning w fun e u' w'=>e=.returned (.tuple #[])∧u'=.returning∧w'=w:=by
 refine callsD_of_wpS Tryz.func169 rfl fun c₀ cs hu=>?_
 apply wpS_seq
 apply wpS_region
 simp [wpOpsS,go_sem,recoverD,hu,Tryz.ntmps169,Exit.thenS]
 refine wpS_of_wp ?_
 have hf:#[Value.pointer (some p)]++(Array.replicate 20 undef).setIfInBounds 5 Value.nilIface=#[.pointer (some p),undef,undef,undef,undef,undef,.nilIface,undef,undef,undef,undef,undef,undef,undef,undef,undef,undef,undef,undef,undef,undef]:=by kernel_rfl
 rw[hf]
 obtain⟨Q,hQ⟩:∃Q:Exit→Act→World→Prop,Q=fun e a' w'=>bodyPostS Tryz.prog Tryz.f169 c₀ cs (fun e u' w'=>e=Ending.returned (Value.tuple #[])∧u'=FrameMode.returning∧w'=w) e a' (c₀::cs) w':=⟨_,rfl⟩
 rw[←hQ]
 have HQ:Hid (Q=_):=hQ
 clear hQ hf
 go_wp2
 rw[HQ.out]
 cases c₀
 simp_all [bodyPostS,results,Tryz.results169]
def AQ:Value:=.iface 251 (.agg #[])
theorem IQ(w:World):(Instr.typeAssert (.iface 251 (.agg #[])) 20 250 true).run Tryz.prog w=.ok (.tuple #[.agg #[],.bool false]) w:=by kernel_rfl
theorem IL(w:World):(Instr.typeAssert (.iface 251 (.agg #[])) 20 251 true).run Tryz.prog w=.ok (.tuple #[.agg #[],.bool true]) w:=by kernel_rfl
theorem JS(b:Nat)(v ev:Value)(older:List PanicEntry)(w:World)(hc:w.cell? ⟨b,0,none⟩=some v)(hz:w.frozen? ⟨b,0,none⟩=false)(he:w.cell? ⟨3,0,none⟩=some ev)(hev:∃t q,ev=.iface t q) :
  CallsD Tryz.prog 169 #[.pointer (some ⟨b,0,none⟩)] (.panicking ({ v:=AQ,recovered:=false }::older)) w fun e u' w'=>
   e=.returned (.tuple #[])∧u'=.panicking ({ v:=AQ,recovered:=true }::older)∧∃o,w'=(w.setCell ⟨b,0,none⟩ ev).alloc o:=by
 obtain⟨et,eq,rfl⟩:=hev
 refine callsD_of_wpS Tryz.func169 rfl fun c₀ cs hu=>?_
 apply wpS_seq
 apply wpS_region
 simp [wpOpsS,go_sem,recoverD,hu,Tryz.ntmps169,Exit.thenS]
 refine wpS_of_wp ?_
 have hf:#[Value.pointer (some ⟨b,0,none⟩)]++(Array.replicate 20 undef).setIfInBounds 5 AQ=#[.pointer (some ⟨b,0,none⟩),undef,undef,undef,undef,undef,.iface 251 (.agg #[]),undef,undef,undef,undef,undef,undef,undef,undef,undef,undef,undef,undef,undef,undef]:=by kernel_rfl
 rw[hf]
 clear hf
 have h1:=IQ
 have h2:=IL
 have hbl:b<w.heap.size:=by
  rcases Nat.lt_or_ge b w.heap.size with h | h
  ·exact h
  ·simp [World.cell?,Array.getElem?_eq_none h] at hc
 have hel:3<w.heap.size:=by
  rcases Nat.lt_or_ge 3 w.heap.size with h | h
  ·exact h
  ·simp [World.cell?,Array.getElem?_eq_none h] at he
 refine Code.wp_mono (Q:=fun e a' w'=>e=Exit.normal∧a'.defers=[]∧∃o,w'=(w.setCell ⟨b,0,none⟩ (.iface et eq)).alloc o) ?_ ?_
 ·rintro e a' w' ⟨rfl,hd,o,rfl⟩
  cases c₀
  simp_all [bodyPostS,results,Tryz.results169]
  exact⟨o,rfl⟩
 ·go_wp2
  exact⟨_,rfl⟩
open Go.Maps
theorem aO.look{w:World}{b n:Nat}{f:List UInt8→Option Value}(h:aO w b n f){t e:TypeId}(ht:Tryz.prog.underlying t=some (.map 9 e)){z:Value}(hz:(zeroValue e).run Tryz.prog w=.ok z w)(s:ByteArray)(hs:s.size≤maxLen) :
  (Instr.lookup t (.map (some b)) (.string s) true).run Tryz.prog w=.ok (.tuple #[(f s.data.toList).getD z,.bool (f s.data.toList).isSome]) w:=by
 obtain⟨D,h,k⟩:=h
 obtain⟨v,ps,r1,r2⟩:=h.look_ok uD ht hz (show jI z=some (.held z,[]) from rfl) (WideMaps.keyOf_string_mk Tryz.underlying9 hs)
 obtain⟨k1,k2⟩:=k s.data.toList
 rw[r1,k1]
 have e1:(DataW.held v:DataW Value)=D.atKey (.string s.data.toList) (.held z):=by
  have:some ((DataW.held v:DataW Value),([]:List MemPlace))=some (D.atKey (.string s.data.toList) (.held z),ps):=r2
  exact congrArg Prod.fst (Option.some.inj this)
 cases hf:f s.data.toList with
 | none=>
  rw[hf] at k1
  rw[atKey_of_not_has k1] at e1
  have e2:=DataW.held.inj e1
  rw[e2];rfl
 | some v0=>
  rw[k2 v0 (.held z) hf] at e1
  have e2:=DataW.held.inj e1
  rw[e2];rfl
theorem iO{f:List UInt8→Option Value}{k s:List UInt8}{v:Value}(h:s=k):bL f k v s=some v:=by unfold bL;rw[if_pos h]
theorem iP{f:List UInt8→Option Value}{k s:List UInt8}{v:Value}(h:¬s=k):bL f k v s=f s:=by unfold bL;rw[if_neg h]
theorem BO(w:World):dP w (.slice none 0 0) []:=⟨by unfold maxLen;simp,none,0,rfl,fun k x hk=>by simp at hk⟩
def kM(s:List UInt8):Option (List Int×List Int):=if s=[105,102] then some ([1,0,0],[0]) else if s=[102,98,121] then some ([0,0],[0]) else if s=[45,62] then some ([0,0],[0]) else if s=[112,114,101] then some ([0],[0]) else if s=[60,62] then some ([0,0],[1]) else if s=[61] then some ([0,0],[1]) else if s=[62,61] then some ([2,2],[1]) else if s=[62] then some ([2,2],[1]) else if s=[60,61] then some ([2,2],[1]) else if s=[60] then some ([2,2],[1]) else if s=[109,111,100] then some ([2,2],[2]) else if s=[47] then some ([2,2],[2]) else if s=[42] then some ([2,2],[2]) else if s=[45] then some ([2,2],[2]) else if s=[43] then some ([2,2],[2]) else if s=[110,101,103] then some ([2],[2]) else if s=[61,62] then some ([1,1],[1]) else if s=[120,111,114] then some ([1,1],[1]) else if s=[111,114] then some ([1,1],[1]) else if s=[97,110,100] then some ([1,1],[1]) else if s=[110,111,116] then some ([1],[1]) else if s=[102,97,108,115,101] then some ([],[1]) else if s=[116,114,117,101] then some ([],[1]) else if s=[105,110,116] then some ([],[2]) else none
theorem DN{B C:Nat}{w:World}(R:tF B C w)(s:List UInt8):(qW B C s=none∧kM s=none)∨∃o1 c1 o2 c2 tk gv,qW B C s=some (.agg #[.slice o1 tk.length c1,.slice o2 gv.length c2])∧kM s=some (tk,gv)∧dP w (.slice o1 tk.length c1) tk∧dP w (.slice o2 gv.length c2) gv∧tk.length≤10∧gv.length=1:=by
 unfold qW kM
 by_cases h:s=[105,102]
 ·right
  rw[iO h,if_pos h]
  exact⟨_,_,_,_,[1,0,0],[0],rfl,rfl,cZ (l:=[1,0,0]) R.r6 (by decide),cZ (l:=[0]) R.r0 (by decide),by decide,by decide⟩
 rw[iP h,if_neg h]
 clear h
 by_cases h:s=[102,98,121]
 ·right
  rw[iO h,if_pos h]
  exact⟨_,_,_,_,[0,0],[0],rfl,rfl,cZ (l:=[0,0]) R.r1 (by decide),cZ (l:=[0]) R.r0 (by decide),by decide,by decide⟩
 rw[iP h,if_neg h]
 clear h
 by_cases h:s=[45,62]
 ·right
  rw[iO h,if_pos h]
  exact⟨_,_,_,_,[0,0],[0],rfl,rfl,cZ (l:=[0,0]) R.r1 (by decide),cZ (l:=[0]) R.r0 (by decide),by decide,by decide⟩
 rw[iP h,if_neg h]
 clear h
 by_cases h:s=[112,114,101]
 ·right
  rw[iO h,if_pos h]
  exact⟨_,_,_,_,[0],[0],rfl,rfl,cZ (l:=[0]) R.r0 (by decide),cZ (l:=[0]) R.r0 (by decide),by decide,by decide⟩
 rw[iP h,if_neg h]
 clear h
 by_cases h:s=[60,62]
 ·right
  rw[iO h,if_pos h]
  exact⟨_,_,_,_,[0,0],[1],rfl,rfl,cZ (l:=[0,0]) R.r1 (by decide),cZ (l:=[1]) R.r2 (by decide),by decide,by decide⟩
 rw[iP h,if_neg h]
 clear h
 by_cases h:s=[61]
 ·right
  rw[iO h,if_pos h]
  exact⟨_,_,_,_,[0,0],[1],rfl,rfl,cZ (l:=[0,0]) R.r1 (by decide),cZ (l:=[1]) R.r2 (by decide),by decide,by decide⟩
 rw[iP h,if_neg h]
 clear h
 by_cases h:s=[62,61]
 ·right
  rw[iO h,if_pos h]
  exact⟨_,_,_,_,[2,2],[1],rfl,rfl,cZ (l:=[2,2]) R.r5 (by decide),cZ (l:=[1]) R.r2 (by decide),by decide,by decide⟩
 rw[iP h,if_neg h]
 clear h
 by_cases h:s=[62]
 ·right
  rw[iO h,if_pos h]
  exact⟨_,_,_,_,[2,2],[1],rfl,rfl,cZ (l:=[2,2]) R.r5 (by decide),cZ (l:=[1]) R.r2 (by decide),by decide,by decide⟩
 rw[iP h,if_neg h]
 clear h
 by_cases h:s=[60,61]
 ·right
  rw[iO h,if_pos h]
  exact⟨_,_,_,_,[2,2],[1],rfl,rfl,cZ (l:=[2,2]) R.r5 (by decide),cZ (l:=[1]) R.r2 (by decide),by decide,by decide⟩
 rw[iP h,if_neg h]
 clear h
 by_cases h:s=[60]
 ·right
  rw[iO h,if_pos h]
  exact⟨_,_,_,_,[2,2],[1],rfl,rfl,cZ (l:=[2,2]) R.r5 (by decide),cZ (l:=[1]) R.r2 (by decide),by decide,by decide⟩
 rw[iP h,if_neg h]
 clear h
 by_cases h:s=[109,111,100]
 ·right
  rw[iO h,if_pos h]
  exact⟨_,_,_,_,[2,2],[2],rfl,rfl,cZ (l:=[2,2]) R.r5 (by decide),cZ (l:=[2]) R.r4 (by decide),by decide,by decide⟩
 rw[iP h,if_neg h]
 clear h
 by_cases h:s=[47]
 ·right
  rw[iO h,if_pos h]
  exact⟨_,_,_,_,[2,2],[2],rfl,rfl,cZ (l:=[2,2]) R.r5 (by decide),cZ (l:=[2]) R.r4 (by decide),by decide,by decide⟩
 rw[iP h,if_neg h]
 clear h
 by_cases h:s=[42]
 ·right
  rw[iO h,if_pos h]
  exact⟨_,_,_,_,[2,2],[2],rfl,rfl,cZ (l:=[2,2]) R.r5 (by decide),cZ (l:=[2]) R.r4 (by decide),by decide,by decide⟩
 rw[iP h,if_neg h]
 clear h
 by_cases h:s=[45]
 ·right
  rw[iO h,if_pos h]
  exact⟨_,_,_,_,[2,2],[2],rfl,rfl,cZ (l:=[2,2]) R.r5 (by decide),cZ (l:=[2]) R.r4 (by decide),by decide,by decide⟩
 rw[iP h,if_neg h]
 clear h
 by_cases h:s=[43]
 ·right
  rw[iO h,if_pos h]
  exact⟨_,_,_,_,[2,2],[2],rfl,rfl,cZ (l:=[2,2]) R.r5 (by decide),cZ (l:=[2]) R.r4 (by decide),by decide,by decide⟩
 rw[iP h,if_neg h]
 clear h
 by_cases h:s=[110,101,103]
 ·right
  rw[iO h,if_pos h]
  exact⟨_,_,_,_,[2],[2],rfl,rfl,cZ (l:=[2]) R.r4 (by decide),cZ (l:=[2]) R.r4 (by decide),by decide,by decide⟩
 rw[iP h,if_neg h]
 clear h
 by_cases h:s=[61,62]
 ·right
  rw[iO h,if_pos h]
  exact⟨_,_,_,_,[1,1],[1],rfl,rfl,cZ (l:=[1,1]) R.r3 (by decide),cZ (l:=[1]) R.r2 (by decide),by decide,by decide⟩
 rw[iP h,if_neg h]
 clear h
 by_cases h:s=[120,111,114]
 ·right
  rw[iO h,if_pos h]
  exact⟨_,_,_,_,[1,1],[1],rfl,rfl,cZ (l:=[1,1]) R.r3 (by decide),cZ (l:=[1]) R.r2 (by decide),by decide,by decide⟩
 rw[iP h,if_neg h]
 clear h
 by_cases h:s=[111,114]
 ·right
  rw[iO h,if_pos h]
  exact⟨_,_,_,_,[1,1],[1],rfl,rfl,cZ (l:=[1,1]) R.r3 (by decide),cZ (l:=[1]) R.r2 (by decide),by decide,by decide⟩
 rw[iP h,if_neg h]
 clear h
 by_cases h:s=[97,110,100]
 ·right
  rw[iO h,if_pos h]
  exact⟨_,_,_,_,[1,1],[1],rfl,rfl,cZ (l:=[1,1]) R.r3 (by decide),cZ (l:=[1]) R.r2 (by decide),by decide,by decide⟩
 rw[iP h,if_neg h]
 clear h
 by_cases h:s=[110,111,116]
 ·right
  rw[iO h,if_pos h]
  exact⟨_,_,_,_,[1],[1],rfl,rfl,cZ (l:=[1]) R.r2 (by decide),cZ (l:=[1]) R.r2 (by decide),by decide,by decide⟩
 rw[iP h,if_neg h]
 clear h
 by_cases h:s=[102,97,108,115,101]
 ·right
  rw[iO h,if_pos h]
  exact⟨_,_,_,_,[],[1],rfl,rfl,BO w,cZ (l:=[1]) R.r2 (by decide),by decide,by decide⟩
 rw[iP h,if_neg h]
 clear h
 by_cases h:s=[116,114,117,101]
 ·right
  rw[iO h,if_pos h]
  exact⟨_,_,_,_,[],[1],rfl,rfl,BO w,cZ (l:=[1]) R.r2 (by decide),by decide,by decide⟩
 rw[iP h,if_neg h]
 clear h
 by_cases h:s=[105,110,116]
 ·right
  rw[iO h,if_pos h]
  exact⟨_,_,_,_,[],[2],rfl,rfl,BO w,cZ (l:=[2]) R.r4 (by decide),by decide,by decide⟩
 rw[iP h,if_neg h]
 clear h
 exact .inl ⟨rfl,rfl⟩
end Go.Proofs.YtmgfakcccfahaaaGreatDoor
