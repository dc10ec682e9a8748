/-
  plain.Code BY ITS CONTRACTS: of an error of errors.New's make ('code_str'), of an *api.Fault that wraps one ('code_fault'), of nil ('code_nil'): the error's number and its place; what was in memory stays. Conditions: the nine sentinels and the library's errorType lie in memory as the program's text lays them ('Sents').
-/
import Derived.Test.YtmgfakcccfahaaaGreatDoorN04
import Derived.Defers
import Derived.Recover
import Derived.Laws.Pointers
import Derived.Deep.DrawnRows
import Derived.Test.YtmgfakcccfahaaaGreatDoorN03
set_option maxHeartbeats 4000000
set_option maxRecDepth 100000
namespace Go.Proofs.YtmgfakcccfahaaaGreatDoor
open Go.RowKit Go.Extern.Stop Go.Stop Go.Extern

structure jC(a:Nat→Addr)(w:World):Prop where
 g0:w.cell? ⟨5,0,none⟩=some (.iface 289 (.pointer (some (a 0))))
 g1:w.cell? ⟨2,0,none⟩=some (.iface 289 (.pointer (some (a 1))))
 g2:w.cell? ⟨4,0,none⟩=some (.iface 289 (.pointer (some (a 2))))
 g3:w.cell? ⟨6,0,none⟩=some (.iface 289 (.pointer (some (a 3))))
 g4:w.cell? ⟨3,0,none⟩=some (.iface 289 (.pointer (some (a 4))))
 g5:w.cell? ⟨0,0,none⟩=some (.iface 289 (.pointer (some (a 5))))
 g6:w.cell? ⟨1,0,none⟩=some (.iface 289 (.pointer (some (a 6))))
 g7:w.cell? ⟨7,0,none⟩=some (.iface 289 (.pointer (some (a 7))))
 g8:w.cell? ⟨8,0,none⟩=some (.iface 289 (.pointer (some (a 8))))
 et:w.cell? ⟨9,0,none⟩=some (.iface 260 (.agg #[.pointer (some ⟨10,32,none⟩)]))
 row:∀k,k<9→∃c t,w.heap[(a k).block]?=some (.cells c t (0,0))
 inj:∀j k,j<9→k<9→j≠k→a j≠a k

theorem jC.below{a:Nat→Addr}{w w':World}(S:jC a w)(hb:Bw w w'):jC a w':=
 ⟨aF hb S.g0,aF hb S.g1,aF hb S.g2,aF hb S.g3,aF hb S.g4,aF hb S.g5,aF hb S.g6,aF hb S.g7,aF hb S.g8,aF hb S.et,
  fun k hk=>by obtain⟨c,t,h⟩:=S.row k hk;exact⟨c,t,aG hb h⟩,S.inj⟩

def codeOf(m:Nat):Int:=if m<9 then (m:Int)+1 else -1
theorem vZ{m:Nat}(h:m<9):codeOf m=(m:Int)+1:=if_pos h
theorem nine(a:Nat→Addr)(j:Nat)(hj:j<9):([.iface 289 (.pointer (some (a 0))),.iface 289 (.pointer (some (a 1))),.iface 289 (.pointer (some (a 2))),.iface 289 (.pointer (some (a 3))),.iface 289 (.pointer (some (a 4))),.iface 289 (.pointer (some (a 5))),.iface 289 (.pointer (some (a 6))),.iface 289 (.pointer (some (a 7))),.iface 289 (.pointer (some (a 8)))]:List Value)[j]'(by simpa using hj)=.iface 289 (.pointer (some (a j))):=by
 rcases j with _ | _ | _ | _ | _ | _ | _ | _ | _ | j
 all_goals first | rfl | omega

theorem NY(w:World):Calls Tryz.prog 46 #[.nilIface] w fun e w'=>e=.returned (.tuple #[.int .i64 0,.int .i64 (-1)])∧w'=w:=by
 go_enter Tryz.func46,Tryz.ntmps46
 go_wp2
 go_ret2
 exact⟨rfl,rfl⟩

theorem NV(a:Nat→Addr)(b:Addr)(m:Nat)(cb:Array Value)(tb:TypeId)(w:World)(S:jC a w)(hrow:w.heap[b.block]?=some (.cells cb tb (0,0)))(hm:m≤9)(hlt:∀j,j<m→b≠a j)(heq:m<9→a m=b) :
  Calls Tryz.prog 46 #[.iface 289 (.pointer (some b))] w fun e w'=>e=.returned (.tuple #[.int .i64 (codeOf m),.int .i64 (-1)])∧Bw w w':=by
 have et0:=aF (w':=w.alloc (.cells #[.pointer none] 83)) (aH) S.et
 go_enter Tryz.func46,Tryz.ntmps46
 go_wp2_with fail
 refine(Oz b _ _ et0).mono ?_
 rintro e w1 ⟨rfl,hw1⟩
 have hb:Bw w w1:=by
  rw[hw1]
  exact(((aH).alloc (by simp) _).alloc (by simp;omega) _).alloc (by simp;omega) _
 clear hw1
 have S1:=S.below hb
 have hrow1:=aG hb hrow
 have g0:=S1.g0;have g1:=S1.g1;have g2:=S1.g2;have g3:=S1.g3;have g4:=S1.g4;have g5:=S1.g5;have g6:=S1.g6;have g7:=S1.g7;have g8:=S1.g8
 go_wp2
 go_loop [3,27] (fun t i=>∃j:Nat,j≤m∧i=.int .i64 j∧t=.int .i64 (-1)) (fun _ i=>9-(intOf i).toNat)
 case atStart=>exact⟨0,Nat.zero_le _,rfl,rfl⟩
 case round=>
  obtain⟨j,hj,rfl,rfl⟩:=hrel
  have hbe:Bw w1 (w1.alloc (.cells #[.iface 289 (.pointer (some (a 0))),.iface 289 (.pointer (some (a 1))),.iface 289 (.pointer (some (a 2))),.iface 289 (.pointer (some (a 3))),.iface 289 (.pointer (some (a 4))),.iface 289 (.pointer (some (a 5))),.iface 289 (.pointer (some (a 6))),.iface 289 (.pointer (some (a 7))),.iface 289 (.pointer (some (a 8)))] 32)):=aH
  have hB:Bw w _:=hb.trans (hbe.mono hb.size)
  have hrow2:=aG hbe hrow1
  by_cases h9:j<9
  ·have hn:=nine a j h9
   obtain⟨c2,t2,hr2⟩:=S1.row j h9
   have hr3:=aG hbe hr2
   clear hr2 g0 g1 g2 g3 g4 g5 g6 g7 g8 et0 hrow1 hrow
   by_cases hjm:j<m
   ·have hne:b≠a j:=hlt j hjm
    go_wp2_with (go_at_call 91;refine(Ms b (a j) _ _ _ _ _ hne hrow2 hr3).mono ?_;rintro e w' ⟨rfl,rfl⟩)
    go_round
    case rel=>exact⟨j+1,by omega,by go_num,rfl⟩
    case measure=>simp [intOf];omega
   ·obtain rfl:j=m:=by omega
    have hab:a j=b:=heq h9
    subst hab
    have hcode:=vZ h9
    have HC:=aA hcode
    clear hcode
    go_wp2_with (go_at_call 91;refine(Mr (a j) _).mono ?_;rintro e w' ⟨rfl,rfl⟩)
    go_ret2
    exact⟨by rw[HC.out];rfl,hB⟩
  ·obtain rfl:j=m:=by omega
   obtain rfl:j=9:=by omega
   clear g0 g1 g2 g3 g4 g5 g6 g7 g8 et0 hrow1 hrow
   go_wp2
   go_ret2
   exact⟨rfl,hB⟩

theorem NZ(a:Nat→Addr)(b:Addr)(m p:Nat)(n:Int)(cb:Array Value)(tb:TypeId)(w:World)(S:jC a w)(hp0:w.cell? ⟨p,0,none⟩=some (.int .i64 n))(hp1:w.cell? ⟨p,0+1,none⟩=some (.iface 289 (.pointer (some b))))(hrow:w.heap[b.block]?=some (.cells cb tb (0,0)))(hm:m≤9)(hlt:∀j,j<m→b≠a j)(heq:m<9→a m=b) :
  Calls Tryz.prog 46 #[.iface 83 (.pointer (some ⟨p,0,none⟩))] w fun e w'=>e=.returned (.tuple #[.int .i64 (codeOf m),.int .i64 n])∧Bw w w':=by
 have et0:=aF (w':=w.alloc (.cells #[.pointer none] 83)) (aH) S.et
 have ht0:(w.alloc (.cells #[.pointer none] 83)).cell? ⟨w.heap.size,0,none⟩=some (.pointer none):=by simp
 have hf0:(w.alloc (.cells #[.pointer none] 83)).frozen? ⟨w.heap.size,0,none⟩=false:=by simp
 go_enter Tryz.func46,Tryz.ntmps46
 go_wp2_with fail
 refine(OA ⟨p,0,none⟩ _ _ _ et0 ht0 hf0).mono ?_
 rintro e w1 ⟨rfl,hw1⟩
 have hb:Bw w w1:=by
  rw[hw1]
  exact((((aH).alloc (by simp) _).alloc (by simp;omega) _).alloc (by simp;omega) _).alloc (by simp;omega) _ |>.setCell (Nat.le_refl _) _
 have hf1:w1.cell? ⟨w.heap.size,0,none⟩=some (.pointer (some ⟨p,0,none⟩)):=by
  rw[hw1]
  refine World.cell?_setCell_same _ _ _ (u:=.pointer none) ?_
  rw[World.cell?_alloc_lt _ _ _ (by simp;omega),World.cell?_alloc_lt _ _ _ (by simp;omega),World.cell?_alloc_lt _ _ _ (by simp;omega),World.cell?_alloc_lt _ _ _ (by simp)]
  exact ht0
 clear hw1 ht0 hf0
 have S1:=S.below hb
 have hrow1:=aG hb hrow
 have hq0:=aF hb hp0
 have hq1:=aF hb hp1
 clear hp0 hp1
 have g0:=S1.g0;have g1:=S1.g1;have g2:=S1.g2;have g3:=S1.g3;have g4:=S1.g4;have g5:=S1.g5;have g6:=S1.g6;have g7:=S1.g7;have g8:=S1.g8
 go_wp2
 go_loop [3,27] (fun t i=>∃j:Nat,j≤m∧i=.int .i64 j∧t=.int .i64 n) (fun _ i=>9-(intOf i).toNat)
 case atStart=>exact⟨0,Nat.zero_le _,rfl,rfl⟩
 case round=>
  obtain⟨j,hj,rfl,rfl⟩:=hrel
  have hbe:Bw w1 (w1.alloc (.cells #[.iface 289 (.pointer (some (a 0))),.iface 289 (.pointer (some (a 1))),.iface 289 (.pointer (some (a 2))),.iface 289 (.pointer (some (a 3))),.iface 289 (.pointer (some (a 4))),.iface 289 (.pointer (some (a 5))),.iface 289 (.pointer (some (a 6))),.iface 289 (.pointer (some (a 7))),.iface 289 (.pointer (some (a 8)))] 32)):=aH
  have hB:Bw w _:=hb.trans (hbe.mono hb.size)
  have hrow2:=aG hbe hrow1
  have hq2:=aF hbe hq1
  by_cases h9:j<9
  ·have hn:=nine a j h9
   obtain⟨c2,t2,hr2⟩:=S1.row j h9
   have hr3:=aG hbe hr2
   clear hr2 g0 g1 g2 g3 g4 g5 g6 g7 g8 et0 hrow1 hrow
   by_cases hjm:j<m
   ·have hne:b≠a j:=hlt j hjm
    go_wp2_with (go_at_call 91;refine(Mw p 0 (a j) b _ _ _ _ _ hq2 hne hrow2 hr3).mono ?_;rintro e w' ⟨rfl,rfl⟩)
    go_round
    case rel=>exact⟨j+1,by omega,by go_num,rfl⟩
    case measure=>simp [intOf];omega
   ·obtain rfl:j=m:=by omega
    have hab:a j=b:=heq h9
    subst hab
    have hcode:=vZ h9
    have HC:=aA hcode
    clear hcode
    go_wp2_with (go_at_call 91;refine(Mt p 0 (a j) _ hq2).mono ?_;rintro e w' ⟨rfl,rfl⟩)
    go_ret2
    exact⟨by rw[HC.out];rfl,hB⟩
  ·obtain rfl:j=m:=by omega
   obtain rfl:j=9:=by omega
   clear g0 g1 g2 g3 g4 g5 g6 g7 g8 et0 hrow1 hrow
   go_wp2
   go_ret2
   exact⟨rfl,hB⟩
end Go.Proofs.YtmgfakcccfahaaaGreatDoor
namespace Go.Proofs.YtmgfakcccfahaaaGreatDoor
open Go.RowKit Go.Maps
def oP(p:Int×Int):Bool:=decide (p=(0,0))
def jV(vs:List Bool)(x:Int):Bool:=(vs.getD (x / 2).toNat false) != (x % 2==1)
def dZ(gs:List (Int×Int))(inp:List Bool):Nat→List Bool×Nat
 | 0=>([false],0)
 | n+1=>
  match gs[n]? with
  | some p=>if oP p=true then ((dZ gs inp n).1++[inp.getD (dZ gs inp n).2 false],(dZ gs inp n).2+1) else ((dZ gs inp n).1++[jV (dZ gs inp n).1 p.1&&jV (dZ gs inp n).1 p.2],(dZ gs inp n).2)
  | none=>((dZ gs inp n).1++[false],(dZ gs inp n).2)
def q9(gs:List (Int×Int)):Nat:=(gs.filter oP).length
theorem rO(gs:List (Int×Int))(inp:List Bool):∀n,(dZ gs inp n).1.length=n+1
 | 0=>rfl
 | n+1=>by
  unfold dZ
  split
  ·split<;>simp [rO gs inp n]
  ·simp [rO gs inp n]
theorem Tryz.Dn:(Tryz.prog.info? 4).map (fun i=>(i.zero,i.size,i.bytes))=some (some (.bool false),1,1):=by kernel_rfl
def pF(gs:List (Int×Int))(inp:List Bool):List Bool:=(dZ gs inp gs.length).1
theorem Gs.lits{gs:List (Int×Int)}(h:Gs gs){i:Nat}{p:Int×Int}(hi:gs[i]?=some p)(hn:oP p=false):0≤p.1∧p.1<2*((i:Int)+1)∧0≤p.2∧p.2<2*((i:Int)+1):=by
 have hp:=(h.each i p hi).resolve_left (fun e=>by rw[e] at hn;exact absurd hn (by decide))
 omega
def iL(l:List Int):Array Value:=(l.map (Value.int .i64)).toArray
def rowP(os:List Int)(m:Nat):List Int:=os++List.replicate (m-os.length) 0
theorem Bz{l:List Int}{k:Nat}{x:Int}(h:l[k]?=some x):(iL l)[k]?=some (.int .i64 x):=by simp [iL,h]
theorem IW(l:List Int)(k:Nat)(x:Int):(iL l).setIfInBounds k (.int .i64 x)=iL (l.set k x):=by simp [iL,List.map_set]
theorem Bv{os:List Int}{m:Nat}(h:os.length=m):rowP os m=os:=by simp [rowP,h]
theorem IU{os:List Int}{m:Nat}(h:os.length<m):(rowP os m)[os.length]?=some 0:=by
 unfold rowP
 rw[List.getElem?_append_right (Nat.le_refl _),Nat.sub_self,List.getElem?_replicate,if_pos (by omega)]
theorem IQ{os:List Int}{m:Nat}(h:os.length<m)(x:Int):(rowP os m).set os.length x=rowP (os++[x]) m:=by
 unfold rowP
 rw[List.set_append_right _ _ (Nat.le_refl _),Nat.sub_self]
 have:m-os.length=(m-(os++[x]).length)+1:=by simp;omega
 rw[this,List.replicate_succ]
 simp
theorem Bt{w:World}{V:Nat}{os:List Int}{m:Nat}{t:TypeId}(hV:w.heap[V]?=some (.cells (iL (rowP os m)) t (0,0)))(h:os.length<m)(x:Int) :
  (w.setCell ⟨V,os.length,none⟩ (.int .i64 x)).heap[V]?=some (.cells (iL (rowP (os++[x]) m)) t (0,0)):=by
 rw[nX hV,IW,IQ h]
theorem Bu{w:World}{V:Nat}{os:List Int}{m:Nat}{t:TypeId}(hV:w.heap[V]?=some (.cells (iL (rowP os m)) t (0,0)))(h:os.length<m):w.cell? ⟨V,os.length,none⟩=some (.int .i64 0):=by
 rw[cell_of_row w V _ _ t (0,0) hV];exact Bz (IU h)
theorem bO{w:World}{V:Nat}{l:List Int}{t:TypeId}{c:Nat}(hV:w.heap[V]?=some (.cells (iL l) t (0,0)))(hl:l.length≤maxLen):dI w (.slice (some ⟨V,0,none⟩) l.length c) l:=
 ⟨hl,_,c,rfl,fun k x hk=>⟨V,0,rfl,by rw[Nat.zero_add,cell_of_row w V _ _ t (0,0) hV];exact Bz hk⟩⟩

def fT:List Int→List Int→Int→Option Int
 | [],_,f=>some f
 | k::ks,ps,f=>
  match ps with
  | []=>none
  | p::ps=>
   if k=0 then (if f=0 then fT ks ps p else if p=f then fT ks ps f else none)
   else if p=k then fT ks ps f else none
def jG(gives:List Int)(f:Int):List Int:=gives.map fun k=>if k=0 then f else k
theorem NA{tk ps:List Int}{j:Nat}{k p:Int}(h1:tk[j]?=some k)(h2:ps[j]?=some p)(f:Int) :
  fT (tk.drop j) (ps.drop j) f=if k=0 then (if f=0 then fT (tk.drop (j+1)) (ps.drop (j+1)) p else if p=f then fT (tk.drop (j+1)) (ps.drop (j+1)) f else none) else if p=k then fT (tk.drop (j+1)) (ps.drop (j+1)) f else none:=by
 have e1:tk.drop j=k::tk.drop (j+1):=by
  obtain⟨hl,rfl⟩:=aX h1
  exact List.drop_eq_getElem_cons hl
 have e2:ps.drop j=p::ps.drop (j+1):=by
  obtain⟨hl,rfl⟩:=aX h2
  exact List.drop_eq_getElem_cons hl
 rw[e1,e2]
 rfl
theorem Tryz.lH:(Tryz.prog.info? 3).map (fun i=>(i.zero,i.size,i.bytes))=some (some (.int .i64 0),1,8):=by kernel_rfl
theorem Cv{w:World}{V n:Nat}(h:w.ownsRow 0 3 1 (.slice (some ⟨V,0,none⟩) n n) n (madeCells (Value.int .i64 0).cells (n*1)).toList):w.heap[V]?=some (.cells (iL (rowP [] n)) 3 (0,0)):=by
 obtain⟨_,h2⟩:=h
 rcases h2 with⟨h2,_⟩ | ⟨g,cap,cur,e,_,hg,_,_,hs,ht⟩
 ·cases h2
 ·obtain⟨rfl,rfl⟩:V=g∧n=cap:=by simpa using e
  rw[hg]
  have e1:(madeCells (Value.int .i64 0).cells (n*1)).toList=List.replicate n (.int .i64 0):=by rw[Nat.mul_one];exact toList_madeCells_one _ _
  rw[e1] at ht
  have e2:cur.toList=List.replicate n (.int .i64 0):=by rw[←ht,List.take_of_length_le (by simp [hs])]
  have:cur=iL (rowP [] n):=by
   apply Array.toList_inj.1
   rw[e2]
   simp [iL,rowP]
  rw[this]
def lK(e:Ending):Prop:=e=.panicked [{ v:=.iface 251 (.agg #[]),recovered:=false }]
theorem dI.keep{w w':World}{v:Value}{l:List Int}(h:dI w v l)(hb:Bw w w'):dI w' v l:=by
 obtain⟨hl,o,c,rfl,h⟩:=h
 refine⟨hl,o,c,rfl,fun k x hk=>?_⟩
 obtain⟨b,off,e,hc⟩:=h k x hk
 exact⟨b,off,e,aF hb hc⟩
theorem dI.get{w:World}{o:Option Addr}{n c:Nat}{l:List Int}(h:dI w (.slice o n c) l){j:Nat}{x:Int}(hx:l[j]?=some x):∃b off,o=some ⟨b,off,none⟩∧w.cell? ⟨b,off+j,none⟩=some (.int .i64 x):=by
 obtain⟨_,o',c',e,h⟩:=h
 obtain⟨b,off,rfl,hc⟩:=h j x hx
 obtain⟨rfl,_,_⟩:o=some ⟨b,off,none⟩∧n=l.length∧c=c':=by simpa using e
 exact⟨b,off,rfl,hc⟩
theorem OT(w:World)(o1 o2 op:Option Addr)(c1 c2 cp:Nat)(tk gv ps:List Int)(h1:dI w (.slice o1 tk.length c1) tk)(h2:dI w (.slice o2 gv.length c2) gv)(hp:dI w (.slice op tk.length cp) ps)(hlen:ps.length=tk.length)(hs1:tk.length≤10)(hs2:gv.length≤10) :
  Calls Tryz.prog 126 #[.agg #[.slice o1 tk.length c1,.slice o2 gv.length c2],.slice op tk.length cp] w fun e w'=>Bw w w'∧((∃f V,fT tk ps 0=some f∧e=.returned (.slice (some ⟨V,0,none⟩) gv.length gv.length)∧w'.heap[V]?=some (.cells (iL (jG gv f)) 3 (0,0))∧w.heap.size≤V)∨(fT tk ps 0=none∧lK e)):=by
 obtain⟨i0,hi0,hz0,hz1,hz2⟩:=info_parts Tryz.lH
 have hb1:Bw w (w.alloc (.cells #[.slice o1 tk.length c1,.slice o2 gv.length c2] 206)):=aH
 have H1:Hid (dI (w.alloc (.cells #[.slice o1 tk.length c1,.slice o2 gv.length c2] 206)) (.slice o1 tk.length c1) tk):=h1.keep hb1
 have H2:Hid (dI (w.alloc (.cells #[.slice o1 tk.length c1,.slice o2 gv.length c2] 206)) (.slice o2 gv.length c2) gv):=h2.keep hb1
 have HP:Hid (dI (w.alloc (.cells #[.slice o1 tk.length c1,.slice o2 gv.length c2] 206)) (.slice op tk.length cp) ps):=hp.keep hb1
 have HBY:Hid (i0.bytes*gv.length≤281474976710656):=by unfold Hid;rw[hz2];omega
 have HMX:Hid (gv.length≤maxLen):=by unfold Hid maxLen;omega
 have HI0:=aA hi0
 have HZ0:=aA hz0
 have HZ1:=aA hz1
 have HS1:=aA hs1
 have HS2:=aA hs2
 have HLN:=aA hlen
 have HB1:=aA hb1
 obtain⟨w1,hw1⟩:∃w1,w1=w.alloc (.cells #[.slice o1 tk.length c1,.slice o2 gv.length c2] 206):=⟨_,rfl⟩
 have z0:w1.cell? ⟨w.heap.size,0,none⟩=some (.slice o1 tk.length c1):=by rw[hw1];simp
 have z1:w1.cell? ⟨w.heap.size,0+1,none⟩=some (.slice o2 gv.length c2):=by rw[hw1];simp
 rw[←hw1] at H1 H2 HP HB1
 have HW:Hid (w.alloc (.cells #[.slice o1 tk.length c1,.slice o2 gv.length c2] 206)=w1):=hw1.symm
 clear h1 h2 hp hs1 hs2 hlen hb1 hi0 hz0 hz1 hz2 hw1
 go_enter Tryz.func126,Tryz.ntmps126
 go_upto_region 1 with fail
 rw[HW.out]
 clear HW
 go_wp2
 go_loop [5,22] (fun fv t=>∃(j:Nat) (f:Int),j≤tk.length∧t=.int .i64 j∧fv=.int .i64 f∧fT tk ps 0=fT (tk.drop j) (ps.drop j) f) (fun _ t=>tk.length-(intOf t).toNat)
 case atStart=>exact⟨0,0,Nat.zero_le _,rfl,rfl,by simp⟩
 case round=>
  obtain⟨j,f,hj,rfl,rfl,hfit⟩:=hrel
  by_cases hjl:j<tk.length
  ·obtain⟨k,hk⟩:∃k,tk[j]?=some k:=⟨_,List.getElem?_eq_getElem hjl⟩
   obtain⟨p,hp⟩:∃p,ps[j]?=some p:=⟨_,List.getElem?_eq_getElem (by have:=HLN.out;omega)⟩
   obtain⟨b1,f1,rfl,q1⟩:=H1.out.get hk
   obtain⟨b2,f2,rfl,q2⟩:=HP.out.get hp
   rw[NA hk hp] at hfit
   have i0':(0:Int)≤(j:Int):=by omega
   have i1':(j:Int)<(tk.length:Int):=by omega
   have N4:Hid (wrap64 ((j:Int)+1)=(j:Int)+1):=by have:=HS1.out;unfold Hid wrap64;omega
   have HJ:=aA hjl
   have HFIT:=aA hfit
   clear hj hjl hk hp hfit
   by_cases hk0:k=0
   ·subst hk0
    by_cases hf0:f=0
    ·subst hf0
     have E:Hid (fT tk ps 0=fT (tk.drop (j+1)) (ps.drop (j+1)) p):=by unfold Hid;rw[HFIT.out,if_pos rfl,if_pos rfl]
     clear HFIT
     go_wp2
     exact⟨⟨j+1,p,HJ.out,by rw[N4.out];rfl,rfl,E.out⟩,by rw[N4.out];have:=HJ.out;simp [intOf];omega⟩
    ·have df:(f==0)=false:=beq_eq_false_iff_ne.2 hf0
     by_cases hpf:p=f
     ·subst hpf
      have E:Hid (fT tk ps 0=fT (tk.drop (j+1)) (ps.drop (j+1)) p):=by unfold Hid;rw[HFIT.out,if_pos rfl,if_neg hf0,if_pos rfl]
      clear HFIT hf0
      go_wp2
      exact⟨⟨j+1,p,HJ.out,by rw[N4.out];rfl,rfl,E.out⟩,by rw[N4.out];have:=HJ.out;simp [intOf];omega⟩
     ·have dp:(p==f)=false:=beq_eq_false_iff_ne.2 hpf
      have dp':(p != f)=true:=by simp [hpf]
      have E:Hid (fT tk ps 0=none):=by unfold Hid;rw[HFIT.out,if_pos rfl,if_neg hf0,if_neg hpf]
      clear HFIT hf0 hpf
      go_wp2
      exact⟨rfl,HB1.out,Or.inr ⟨E.out,rfl⟩⟩
   ·have dk:(k==0)=false:=beq_eq_false_iff_ne.2 hk0
    by_cases hpk:p=k
    ·subst hpk
     have E:Hid (fT tk ps 0=fT (tk.drop (j+1)) (ps.drop (j+1)) f):=by unfold Hid;rw[HFIT.out,if_neg hk0,if_pos rfl]
     clear HFIT hk0
     go_wp2
     exact⟨⟨j+1,f,HJ.out,by rw[N4.out];rfl,rfl,E.out⟩,by rw[N4.out];have:=HJ.out;simp [intOf];omega⟩
    ·have dp:(p==k)=false:=beq_eq_false_iff_ne.2 hpk
     have dp':(p != k)=true:=by simp [hpk]
     have E:Hid (fT tk ps 0=none):=by unfold Hid;rw[HFIT.out,if_neg hk0,if_neg hpk]
     clear HFIT hk0 hpk
     go_wp2
     exact⟨rfl,HB1.out,Or.inr ⟨E.out,rfl⟩⟩
  ·obtain rfl:j=tk.length:=by omega
   rw[List.drop_length] at hfit
   have E:Hid (fT tk ps 0=some f):=by unfold Hid;rw[hfit];rfl
   clear hfit hj hjl
   go_wp2_with (first
    | (at_make;refine wpList_make_full _ rfl _ _ 30 rfl 0 3 i0 _ 1 Tryz.underlying30 HI0.out HZ0.out HZ1.out .i64 .i64 _ _ gv.length rfl rfl (by simp) (by simp) HBY.out HMX.out (Nat.zero_le _) ?_;intro w2 hown2 hgr2;have hbb:Bw w1 w2:=⟨hgr2.os,hgr2.tape,hgr2.output,hgr2.size,fun k hk=>hgr2.block k hk (by simp)⟩;have z2:=aF hbb z1)
    | go_in)
   have hV2:=Cv hown2
   have HB2:=aA hbb
   have HV2:=aA hV2
   clear hown2 hgr2 hV2 hbb
   go_loopw [52] (fun t wr=>∃j:Nat,j≤gv.length∧t=.int .i64 j∧wr.heap[w1.heap.size]?=some (.cells (iL (rowP (jG (gv.take j) f) gv.length)) 3 (0,0))∧Bw w1 wr) (fun t _=>gv.length-(intOf t).toNat)
   case atStart=>exact⟨0,Nat.zero_le _,rfl,HV2.out,HB2.out⟩
   case round=>
    obtain⟨j,hj,rfl,hrow,hb⟩:=hrel
    have HW:=aA hb
    by_cases hjl:j<gv.length
    ·obtain⟨k,hk⟩:∃k,gv[j]?=some k:=⟨_,List.getElem?_eq_getElem hjl⟩
     obtain⟨b1,f1,rfl,q1⟩:=H2.out.get hk
     have q2:=aF hb q1
     have hlj:(jG (gv.take j) f).length=j:=by simp [jG];omega
     have hlt:(jG (gv.take j) f).length<gv.length:=by omega
     have c0:=Bu hrow hlt
     have f0:wr.frozen? ⟨w1.heap.size,j,none⟩=false:=dW hrow
     have hst:=Bt hrow hlt (if k=0 then f else k)
     rw[hlj] at c0 hst
     have e2:jG (gv.take j) f++[if k=0 then f else k]=jG (gv.take (j+1)) f:=by unfold jG;rw[List.take_add_one,hk];simp
     rw[e2] at hst
     have HST:Hid _:=hst
     have i0':(0:Int)≤(j:Int):=by omega
     have i1':(j:Int)<(gv.length:Int):=by omega
     have N4:Hid (wrap64 ((j:Int)+1)=(j:Int)+1):=by have:=HS2.out;unfold Hid wrap64;omega
     have HJ:=aA hjl
     clear hj hrow hb hjl hk hlj hlt hst e2 q1
     by_cases hk0:k=0
     ·subst hk0
      rw[if_pos rfl] at HST
      go_wp2
      exact⟨⟨j+1,HJ.out,by rw[N4.out];rfl,HST.out,HW.out.setCell (Nat.le_refl _) _⟩,by rw[N4.out];have:=HJ.out;simp [intOf];omega⟩
     ·have dk:(k==0)=false:=beq_eq_false_iff_ne.2 hk0
      rw[if_neg hk0] at HST
      clear hk0
      go_wp2
      exact⟨⟨j+1,HJ.out,by rw[N4.out];rfl,HST.out,HW.out.setCell (Nat.le_refl _) _⟩,by rw[N4.out];have:=HJ.out;simp [intOf];omega⟩
    ·obtain rfl:j=gv.length:=by omega
     rw[List.take_length,Bv (by simp [jG])] at hrow
     have HR':Hid _:=hrow
     clear hrow hb
     go_wp2
     go_ret
     exact⟨HB1.out.trans (HW.out.mono HB1.out.size),Or.inl ⟨f,w1.heap.size,E.out,rfl,HR'.out,HB1.out.size⟩⟩
end Go.Proofs.YtmgfakcccfahaaaGreatDoor
namespace Go.Proofs.YtmgfakcccfahaaaGreatDoor
open Go.RowKit
attribute [local go_sem ↓] Go.wp_at_zero Go.wp_at_succ

theorem GA(p:Addr)(w:World) :
  CallsD Tryz.prog 169 #[.pointer (some p)] .returning w fun e u' w'=>e=.returned (.tuple #[])∧u'=.returning∧w'=w:=by
 refine callsD_of_wpS Tryz.func169 rfl fun c₀ cs hu=>?_
 apply wpS_seq
 apply wpS_region
 simp [wpOpsS,go_sem,recoverD,hu,Tryz.ntmps169,Exit.thenS]
 refine wpS_of_wp ?_
 have hf:#[Value.pointer (some p)]++(Array.replicate 20 undef).setIfInBounds 5 Value.nilIface=#[.pointer (some p),undef,undef,undef,undef,undef,.nilIface,undef,undef,undef,undef,undef,undef,undef,undef,undef,undef,undef,undef,undef,undef]:=by kernel_rfl
 rw[hf]
 obtain⟨Q,hQ⟩:∃Q:Exit→Act→World→Prop,Q=fun e a' w'=>bodyPostS Tryz.prog Tryz.f169 c₀ cs (fun e u' w'=>e=Ending.returned (Value.tuple #[])∧u'=FrameMode.returning∧w'=w) e a' (c₀::cs) w':=⟨_,rfl⟩
 rw[←hQ]
 have HQ:Hid (Q=_):=hQ
 clear hQ hf
 go_wp2
 rw[HQ.out]
 cases c₀
 simp_all [bodyPostS,results,Tryz.results169]
def wY:Value:=.iface 251 (.agg #[])
theorem FL(w:World):(Instr.typeAssert (.iface 251 (.agg #[])) 20 250 true).run Tryz.prog w=.ok (.tuple #[.agg #[],.bool false]) w:=by kernel_rfl
theorem FK(w:World):(Instr.typeAssert (.iface 251 (.agg #[])) 20 251 true).run Tryz.prog w=.ok (.tuple #[.agg #[],.bool true]) w:=by kernel_rfl
theorem Gz(b:Nat)(v ev:Value)(older:List PanicEntry)(w:World)(hc:w.cell? ⟨b,0,none⟩=some v)(hz:w.frozen? ⟨b,0,none⟩=false)(he:w.cell? ⟨3,0,none⟩=some ev)(hev:∃t q,ev=.iface t q) :
  CallsD Tryz.prog 169 #[.pointer (some ⟨b,0,none⟩)] (.panicking ({ v:=wY,recovered:=false }::older)) w fun e u' w'=>
   e=.returned (.tuple #[])∧u'=.panicking ({ v:=wY,recovered:=true }::older)∧∃o,w'=(w.setCell ⟨b,0,none⟩ ev).alloc o:=by
 obtain⟨et,eq,rfl⟩:=hev
 refine callsD_of_wpS Tryz.func169 rfl fun c₀ cs hu=>?_
 apply wpS_seq
 apply wpS_region
 simp [wpOpsS,go_sem,recoverD,hu,Tryz.ntmps169,Exit.thenS]
 refine wpS_of_wp ?_
 have hf:#[Value.pointer (some ⟨b,0,none⟩)]++(Array.replicate 20 undef).setIfInBounds 5 wY=#[.pointer (some ⟨b,0,none⟩),undef,undef,undef,undef,undef,.iface 251 (.agg #[]),undef,undef,undef,undef,undef,undef,undef,undef,undef,undef,undef,undef,undef,undef]:=by kernel_rfl
 rw[hf]
 clear hf
 have h1:=FL
 have h2:=FK
 have hbl:b<w.heap.size:=by
  rcases Nat.lt_or_ge b w.heap.size with h | h
  ·exact h
  ·simp [World.cell?,Array.getElem?_eq_none h] at hc
 have hel:3<w.heap.size:=by
  rcases Nat.lt_or_ge 3 w.heap.size with h | h
  ·exact h
  ·simp [World.cell?,Array.getElem?_eq_none h] at he
 refine Code.wp_mono (Q:=fun e a' w'=>e=Exit.normal∧a'.defers=[]∧∃o,w'=(w.setCell ⟨b,0,none⟩ (.iface et eq)).alloc o) ?_ ?_
 ·rintro e a' w' ⟨rfl,hd,o,rfl⟩
  cases c₀
  simp_all [bodyPostS,results,Tryz.results169]
  exact⟨o,rfl⟩
 ·go_wp2
  exact⟨_,rfl⟩
open Go.Maps
theorem aR.look{w:World}{b n:Nat}{f:List UInt8→Option Value}(h:aR w b n f){t e:TypeId}(ht:Tryz.prog.underlying t=some (.map 9 e)){z:Value}(hz:(zeroValue e).run Tryz.prog w=.ok z w)(s:ByteArray)(hs:s.size≤maxLen) :
  (Instr.lookup t (.map (some b)) (.string s) true).run Tryz.prog w=.ok (.tuple #[(f s.data.toList).getD z,.bool (f s.data.toList).isSome]) w:=by
 obtain⟨D,h,k⟩:=h
 obtain⟨v,ps,r1,r2⟩:=h.look_ok xK ht hz (show sU z=some (.held z,[]) from rfl) (WideMaps.keyOf_string_mk Tryz.underlying9 hs)
 obtain⟨k1,k2⟩:=k s.data.toList
 rw[r1,k1]
 have e1:(DataW.held v:DataW Value)=D.atKey (.string s.data.toList) (.held z):=by
  have:some ((DataW.held v:DataW Value),([]:List MemPlace))=some (D.atKey (.string s.data.toList) (.held z),ps):=r2
  exact congrArg Prod.fst (Option.some.inj this)
 cases hf:f s.data.toList with
 | none=>
  rw[hf] at k1
  rw[atKey_of_not_has k1] at e1
  have e2:=DataW.held.inj e1
  rw[e2];rfl
 | some v0=>
  rw[k2 v0 (.held z) hf] at e1
  have e2:=DataW.held.inj e1
  rw[e2];rfl
theorem fJ{f:List UInt8→Option Value}{k s:List UInt8}{v:Value}(h:s=k):bC f k v s=some v:=by unfold bC;rw[if_pos h]
theorem fK{f:List UInt8→Option Value}{k s:List UInt8}{v:Value}(h:¬s=k):bC f k v s=f s:=by unfold bC;rw[if_neg h]
theorem yX(w:World):dI w (.slice none 0 0) []:=⟨by unfold maxLen;simp,none,0,rfl,fun k x hk=>by simp at hk⟩
def eX(s:List UInt8):Option (List Int×List Int):=if s=[105,102] then some ([1,0,0],[0]) else if s=[102,98,121] then some ([0,0],[0]) else if s=[45,62] then some ([0,0],[0]) else if s=[112,114,101] then some ([0],[0]) else if s=[60,62] then some ([0,0],[1]) else if s=[61] then some ([0,0],[1]) else if s=[62,61] then some ([2,2],[1]) else if s=[62] then some ([2,2],[1]) else if s=[60,61] then some ([2,2],[1]) else if s=[60] then some ([2,2],[1]) else if s=[109,111,100] then some ([2,2],[2]) else if s=[47] then some ([2,2],[2]) else if s=[42] then some ([2,2],[2]) else if s=[45] then some ([2,2],[2]) else if s=[43] then some ([2,2],[2]) else if s=[110,101,103] then some ([2],[2]) else if s=[61,62] then some ([1,1],[1]) else if s=[120,111,114] then some ([1,1],[1]) else if s=[111,114] then some ([1,1],[1]) else if s=[97,110,100] then some ([1,1],[1]) else if s=[110,111,116] then some ([1],[1]) else if s=[102,97,108,115,101] then some ([],[1]) else if s=[116,114,117,101] then some ([],[1]) else if s=[105,110,116] then some ([],[2]) else none
theorem Bl{B C:Nat}{w:World}(R:oW B C w)(s:List UInt8):(nJ B C s=none∧eX s=none)∨∃o1 c1 o2 c2 tk gv,nJ B C s=some (.agg #[.slice o1 tk.length c1,.slice o2 gv.length c2])∧eX s=some (tk,gv)∧dI w (.slice o1 tk.length c1) tk∧dI w (.slice o2 gv.length c2) gv∧tk.length≤10∧gv.length=1:=by
 unfold nJ eX
 by_cases h:s=[105,102]
 ·right
  rw[fJ h,if_pos h]
  exact⟨_,_,_,_,[1,0,0],[0],rfl,rfl,bO (l:=[1,0,0]) R.r6 (by decide),bO (l:=[0]) R.r0 (by decide),by decide,by decide⟩
 rw[fK h,if_neg h]
 clear h
 by_cases h:s=[102,98,121]
 ·right
  rw[fJ h,if_pos h]
  exact⟨_,_,_,_,[0,0],[0],rfl,rfl,bO (l:=[0,0]) R.r1 (by decide),bO (l:=[0]) R.r0 (by decide),by decide,by decide⟩
 rw[fK h,if_neg h]
 clear h
 by_cases h:s=[45,62]
 ·right
  rw[fJ h,if_pos h]
  exact⟨_,_,_,_,[0,0],[0],rfl,rfl,bO (l:=[0,0]) R.r1 (by decide),bO (l:=[0]) R.r0 (by decide),by decide,by decide⟩
 rw[fK h,if_neg h]
 clear h
 by_cases h:s=[112,114,101]
 ·right
  rw[fJ h,if_pos h]
  exact⟨_,_,_,_,[0],[0],rfl,rfl,bO (l:=[0]) R.r0 (by decide),bO (l:=[0]) R.r0 (by decide),by decide,by decide⟩
 rw[fK h,if_neg h]
 clear h
 by_cases h:s=[60,62]
 ·right
  rw[fJ h,if_pos h]
  exact⟨_,_,_,_,[0,0],[1],rfl,rfl,bO (l:=[0,0]) R.r1 (by decide),bO (l:=[1]) R.r2 (by decide),by decide,by decide⟩
 rw[fK h,if_neg h]
 clear h
 by_cases h:s=[61]
 ·right
  rw[fJ h,if_pos h]
  exact⟨_,_,_,_,[0,0],[1],rfl,rfl,bO (l:=[0,0]) R.r1 (by decide),bO (l:=[1]) R.r2 (by decide),by decide,by decide⟩
 rw[fK h,if_neg h]
 clear h
 by_cases h:s=[62,61]
 ·right
  rw[fJ h,if_pos h]
  exact⟨_,_,_,_,[2,2],[1],rfl,rfl,bO (l:=[2,2]) R.r5 (by decide),bO (l:=[1]) R.r2 (by decide),by decide,by decide⟩
 rw[fK h,if_neg h]
 clear h
 by_cases h:s=[62]
 ·right
  rw[fJ h,if_pos h]
  exact⟨_,_,_,_,[2,2],[1],rfl,rfl,bO (l:=[2,2]) R.r5 (by decide),bO (l:=[1]) R.r2 (by decide),by decide,by decide⟩
 rw[fK h,if_neg h]
 clear h
 by_cases h:s=[60,61]
 ·right
  rw[fJ h,if_pos h]
  exact⟨_,_,_,_,[2,2],[1],rfl,rfl,bO (l:=[2,2]) R.r5 (by decide),bO (l:=[1]) R.r2 (by decide),by decide,by decide⟩
 rw[fK h,if_neg h]
 clear h
 by_cases h:s=[60]
 ·right
  rw[fJ h,if_pos h]
  exact⟨_,_,_,_,[2,2],[1],rfl,rfl,bO (l:=[2,2]) R.r5 (by decide),bO (l:=[1]) R.r2 (by decide),by decide,by decide⟩
 rw[fK h,if_neg h]
 clear h
 by_cases h:s=[109,111,100]
 ·right
  rw[fJ h,if_pos h]
  exact⟨_,_,_,_,[2,2],[2],rfl,rfl,bO (l:=[2,2]) R.r5 (by decide),bO (l:=[2]) R.r4 (by decide),by decide,by decide⟩
 rw[fK h,if_neg h]
 clear h
 by_cases h:s=[47]
 ·right
  rw[fJ h,if_pos h]
  exact⟨_,_,_,_,[2,2],[2],rfl,rfl,bO (l:=[2,2]) R.r5 (by decide),bO (l:=[2]) R.r4 (by decide),by decide,by decide⟩
 rw[fK h,if_neg h]
 clear h
 by_cases h:s=[42]
 ·right
  rw[fJ h,if_pos h]
  exact⟨_,_,_,_,[2,2],[2],rfl,rfl,bO (l:=[2,2]) R.r5 (by decide),bO (l:=[2]) R.r4 (by decide),by decide,by decide⟩
 rw[fK h,if_neg h]
 clear h
 by_cases h:s=[45]
 ·right
  rw[fJ h,if_pos h]
  exact⟨_,_,_,_,[2,2],[2],rfl,rfl,bO (l:=[2,2]) R.r5 (by decide),bO (l:=[2]) R.r4 (by decide),by decide,by decide⟩
 rw[fK h,if_neg h]
 clear h
 by_cases h:s=[43]
 ·right
  rw[fJ h,if_pos h]
  exact⟨_,_,_,_,[2,2],[2],rfl,rfl,bO (l:=[2,2]) R.r5 (by decide),bO (l:=[2]) R.r4 (by decide),by decide,by decide⟩
 rw[fK h,if_neg h]
 clear h
 by_cases h:s=[110,101,103]
 ·right
  rw[fJ h,if_pos h]
  exact⟨_,_,_,_,[2],[2],rfl,rfl,bO (l:=[2]) R.r4 (by decide),bO (l:=[2]) R.r4 (by decide),by decide,by decide⟩
 rw[fK h,if_neg h]
 clear h
 by_cases h:s=[61,62]
 ·right
  rw[fJ h,if_pos h]
  exact⟨_,_,_,_,[1,1],[1],rfl,rfl,bO (l:=[1,1]) R.r3 (by decide),bO (l:=[1]) R.r2 (by decide),by decide,by decide⟩
 rw[fK h,if_neg h]
 clear h
 by_cases h:s=[120,111,114]
 ·right
  rw[fJ h,if_pos h]
  exact⟨_,_,_,_,[1,1],[1],rfl,rfl,bO (l:=[1,1]) R.r3 (by decide),bO (l:=[1]) R.r2 (by decide),by decide,by decide⟩
 rw[fK h,if_neg h]
 clear h
 by_cases h:s=[111,114]
 ·right
  rw[fJ h,if_pos h]
  exact⟨_,_,_,_,[1,1],[1],rfl,rfl,bO (l:=[1,1]) R.r3 (by decide),bO (l:=[1]) R.r2 (by decide),by decide,by decide⟩
 rw[fK h,if_neg h]
 clear h
 by_cases h:s=[97,110,100]
 ·right
  rw[fJ h,if_pos h]
  exact⟨_,_,_,_,[1,1],[1],rfl,rfl,bO (l:=[1,1]) R.r3 (by decide),bO (l:=[1]) R.r2 (by decide),by decide,by decide⟩
 rw[fK h,if_neg h]
 clear h
 by_cases h:s=[110,111,116]
 ·right
  rw[fJ h,if_pos h]
  exact⟨_,_,_,_,[1],[1],rfl,rfl,bO (l:=[1]) R.r2 (by decide),bO (l:=[1]) R.r2 (by decide),by decide,by decide⟩
 rw[fK h,if_neg h]
 clear h
 by_cases h:s=[102,97,108,115,101]
 ·right
  rw[fJ h,if_pos h]
  exact⟨_,_,_,_,[],[1],rfl,rfl,yX w,bO (l:=[1]) R.r2 (by decide),by decide,by decide⟩
 rw[fK h,if_neg h]
 clear h
 by_cases h:s=[116,114,117,101]
 ·right
  rw[fJ h,if_pos h]
  exact⟨_,_,_,_,[],[1],rfl,rfl,yX w,bO (l:=[1]) R.r2 (by decide),by decide,by decide⟩
 rw[fK h,if_neg h]
 clear h
 by_cases h:s=[105,110,116]
 ·right
  rw[fJ h,if_pos h]
  exact⟨_,_,_,_,[],[2],rfl,rfl,yX w,bO (l:=[2]) R.r4 (by decide),by decide,by decide⟩
 rw[fK h,if_neg h]
 clear h
 exact .inl ⟨rfl,rfl⟩
end Go.Proofs.YtmgfakcccfahaaaGreatDoor
