/-
  tree.shapeOf BY ITS CONTRACT.
-/
import Derived.Test.YtmgfakcccfahaaaGreatDoorN02
import Derived.Deep.DrawnRows
set_option maxRecDepth 100000
set_option maxHeartbeats 4000000
namespace Go.Proofs.YtmgfakcccfahaaaGreatDoor
open Go.RowKit
attribute [local go_sem ↓] Go.wp_at_zero Go.wp_at_succ

def intCells(l:List Nat):List Value:=l.map fun (n:Nat)=>.int .i64 (n:Int)
def PartsAt(w:World)(base:Nat)(o:Option Addr)(c:Nat)(ps:List Nat):Prop:=(ps=[]∧o=none∧c=0)∨∃q,base≤q∧o=some ⟨q,0,none⟩∧c=ps.length∧w.heap[q]?=some (.cells (intCells ps).toArray 3 (0,0))
def eP(lv:Nat)(ps:List Nat)(w:World)(e:Ending)(w':World):Prop:=Bw w w'∧∃o c,e=.returned (.tuple #[.agg #[.int .i64 lv,.slice o ps.length c],.bool true])∧PartsAt w' w.heap.size o c ps
theorem Iq(op:ByteArray)(w:World)(ht:op.toList=[105,110,116]):Calls Tryz.prog 184 #[.string op] w (eP 8 [] w):=by
 go_enter Tryz.func184,Tryz.ntmps184
 go_wp2
 exact bodyPost_ret (v:=.tuple #[.agg #[.int .i64 8,.slice none 0 0],.bool true]) (by simp [results,Tryz.results184,go_sem]) rfl ⟨aH,none,0,rfl,Or.inl ⟨rfl,rfl,rfl⟩⟩
theorem Ic(op:ByteArray)(w:World)(ht:op.toList=[116,114,117,101]):Calls Tryz.prog 184 #[.string op] w (eP 8 [] w):=by
 go_enter Tryz.func184,Tryz.ntmps184
 go_wp2
 exact bodyPost_ret (v:=.tuple #[.agg #[.int .i64 8,.slice none 0 0],.bool true]) (by simp [results,Tryz.results184,go_sem]) rfl ⟨aH,none,0,rfl,Or.inl ⟨rfl,rfl,rfl⟩⟩
theorem Hw(op:ByteArray)(w:World)(ht:op.toList=[102,97,108,115,101]):Calls Tryz.prog 184 #[.string op] w (eP 8 [] w):=by
 go_enter Tryz.func184,Tryz.ntmps184
 go_wp2
 exact bodyPost_ret (v:=.tuple #[.agg #[.int .i64 8,.slice none 0 0],.bool true]) (by simp [results,Tryz.results184,go_sem]) rfl ⟨aH,none,0,rfl,Or.inl ⟨rfl,rfl,rfl⟩⟩
theorem Hu(op:ByteArray)(w:World)(ht:op.toList=[110,97,109,101]):Calls Tryz.prog 184 #[.string op] w (eP 8 [] w):=by
 go_enter Tryz.func184,Tryz.ntmps184
 go_wp2
 exact bodyPost_ret (v:=.tuple #[.agg #[.int .i64 8,.slice none 0 0],.bool true]) (by simp [results,Tryz.results184,go_sem]) rfl ⟨aH,none,0,rfl,Or.inl ⟨rfl,rfl,rfl⟩⟩
theorem Ht(op:ByteArray)(w:World)(ht:op.toList=[105,102]):Calls Tryz.prog 184 #[.string op] w (eP 0 [0,0,0] w):=by
 go_enter Tryz.func184,Tryz.ntmps184
 go_wp2
 refine bodyPost_ret (v:=.tuple #[.agg #[.int .i64 0,.slice (some ⟨w.heap.size+1,0,none⟩) 3 3],.bool true]) (by simp [results,Tryz.results184,go_sem]) rfl ⟨(aH).alloc (by simp) _,some ⟨w.heap.size+1,0,none⟩,3,rfl,Or.inr ⟨w.heap.size+1,by omega,rfl,rfl,dX w _ _⟩⟩
theorem Hq(op:ByteArray)(w:World)(ht:op.toList=[45,62]):Calls Tryz.prog 184 #[.string op] w (eP 0 [1,0] w):=by
 go_enter Tryz.func184,Tryz.ntmps184
 go_wp2
 refine bodyPost_ret (v:=.tuple #[.agg #[.int .i64 0,.slice (some ⟨w.heap.size+1,0,none⟩) 2 2],.bool true]) (by simp [results,Tryz.results184,go_sem]) rfl ⟨(aH).alloc (by simp) _,some ⟨w.heap.size+1,0,none⟩,2,rfl,Or.inr ⟨w.heap.size+1,by omega,rfl,rfl,dX w _ _⟩⟩
theorem Ho(op:ByteArray)(w:World)(ht:op.toList=[102,98,121]):Calls Tryz.prog 184 #[.string op] w (eP 0 [1,0] w):=by
 go_enter Tryz.func184,Tryz.ntmps184
 go_wp2
 refine bodyPost_ret (v:=.tuple #[.agg #[.int .i64 0,.slice (some ⟨w.heap.size+1,0,none⟩) 2 2],.bool true]) (by simp [results,Tryz.results184,go_sem]) rfl ⟨(aH).alloc (by simp) _,some ⟨w.heap.size+1,0,none⟩,2,rfl,Or.inr ⟨w.heap.size+1,by omega,rfl,rfl,dX w _ _⟩⟩
theorem Hl(op:ByteArray)(w:World)(ht:op.toList=[111,114]):Calls Tryz.prog 184 #[.string op] w (eP 1 [1,2] w):=by
 go_enter Tryz.func184,Tryz.ntmps184
 go_wp2
 refine bodyPost_ret (v:=.tuple #[.agg #[.int .i64 1,.slice (some ⟨w.heap.size+1,0,none⟩) 2 2],.bool true]) (by simp [results,Tryz.results184,go_sem]) rfl ⟨(aH).alloc (by simp) _,some ⟨w.heap.size+1,0,none⟩,2,rfl,Or.inr ⟨w.heap.size+1,by omega,rfl,rfl,dX w _ _⟩⟩
theorem Hg(op:ByteArray)(w:World)(ht:op.toList=[120,111,114]):Calls Tryz.prog 184 #[.string op] w (eP 1 [1,2] w):=by
 go_enter Tryz.func184,Tryz.ntmps184
 go_wp2
 refine bodyPost_ret (v:=.tuple #[.agg #[.int .i64 1,.slice (some ⟨w.heap.size+1,0,none⟩) 2 2],.bool true]) (by simp [results,Tryz.results184,go_sem]) rfl ⟨(aH).alloc (by simp) _,some ⟨w.heap.size+1,0,none⟩,2,rfl,Or.inr ⟨w.heap.size+1,by omega,rfl,rfl,dX w _ _⟩⟩
theorem Ip(op:ByteArray)(w:World)(ht:op.toList=[97,110,100]):Calls Tryz.prog 184 #[.string op] w (eP 2 [2,3] w):=by
 go_enter Tryz.func184,Tryz.ntmps184
 go_wp2
 refine bodyPost_ret (v:=.tuple #[.agg #[.int .i64 2,.slice (some ⟨w.heap.size+1,0,none⟩) 2 2],.bool true]) (by simp [results,Tryz.results184,go_sem]) rfl ⟨(aH).alloc (by simp) _,some ⟨w.heap.size+1,0,none⟩,2,rfl,Or.inr ⟨w.heap.size+1,by omega,rfl,rfl,dX w _ _⟩⟩
theorem Io(op:ByteArray)(w:World)(ht:op.toList=[110,111,116]):Calls Tryz.prog 184 #[.string op] w (eP 3 [3] w):=by
 go_enter Tryz.func184,Tryz.ntmps184
 go_wp2
 refine bodyPost_ret (v:=.tuple #[.agg #[.int .i64 3,.slice (some ⟨w.heap.size+1,0,none⟩) 1 1],.bool true]) (by simp [results,Tryz.results184,go_sem]) rfl ⟨(aH).alloc (by simp) _,some ⟨w.heap.size+1,0,none⟩,1,rfl,Or.inr ⟨w.heap.size+1,by omega,rfl,rfl,dX w _ _⟩⟩
theorem Im(op:ByteArray)(w:World)(ht:op.toList=[61]):Calls Tryz.prog 184 #[.string op] w (eP 4 [5,5] w):=by
 go_enter Tryz.func184,Tryz.ntmps184
 go_wp2
 refine bodyPost_ret (v:=.tuple #[.agg #[.int .i64 4,.slice (some ⟨w.heap.size+1,0,none⟩) 2 2],.bool true]) (by simp [results,Tryz.results184,go_sem]) rfl ⟨(aH).alloc (by simp) _,some ⟨w.heap.size+1,0,none⟩,2,rfl,Or.inr ⟨w.heap.size+1,by omega,rfl,rfl,dX w _ _⟩⟩
theorem Il(op:ByteArray)(w:World)(ht:op.toList=[60,62]):Calls Tryz.prog 184 #[.string op] w (eP 4 [5,5] w):=by
 go_enter Tryz.func184,Tryz.ntmps184
 go_wp2
 refine bodyPost_ret (v:=.tuple #[.agg #[.int .i64 4,.slice (some ⟨w.heap.size+1,0,none⟩) 2 2],.bool true]) (by simp [results,Tryz.results184,go_sem]) rfl ⟨(aH).alloc (by simp) _,some ⟨w.heap.size+1,0,none⟩,2,rfl,Or.inr ⟨w.heap.size+1,by omega,rfl,rfl,dX w _ _⟩⟩
theorem Ik(op:ByteArray)(w:World)(ht:op.toList=[60]):Calls Tryz.prog 184 #[.string op] w (eP 4 [5,5] w):=by
 go_enter Tryz.func184,Tryz.ntmps184
 go_wp2
 refine bodyPost_ret (v:=.tuple #[.agg #[.int .i64 4,.slice (some ⟨w.heap.size+1,0,none⟩) 2 2],.bool true]) (by simp [results,Tryz.results184,go_sem]) rfl ⟨(aH).alloc (by simp) _,some ⟨w.heap.size+1,0,none⟩,2,rfl,Or.inr ⟨w.heap.size+1,by omega,rfl,rfl,dX w _ _⟩⟩
theorem Ij(op:ByteArray)(w:World)(ht:op.toList=[60,61]):Calls Tryz.prog 184 #[.string op] w (eP 4 [5,5] w):=by
 go_enter Tryz.func184,Tryz.ntmps184
 go_wp2
 refine bodyPost_ret (v:=.tuple #[.agg #[.int .i64 4,.slice (some ⟨w.heap.size+1,0,none⟩) 2 2],.bool true]) (by simp [results,Tryz.results184,go_sem]) rfl ⟨(aH).alloc (by simp) _,some ⟨w.heap.size+1,0,none⟩,2,rfl,Or.inr ⟨w.heap.size+1,by omega,rfl,rfl,dX w _ _⟩⟩
theorem Ii(op:ByteArray)(w:World)(ht:op.toList=[62]):Calls Tryz.prog 184 #[.string op] w (eP 4 [5,5] w):=by
 go_enter Tryz.func184,Tryz.ntmps184
 go_wp2
 refine bodyPost_ret (v:=.tuple #[.agg #[.int .i64 4,.slice (some ⟨w.heap.size+1,0,none⟩) 2 2],.bool true]) (by simp [results,Tryz.results184,go_sem]) rfl ⟨(aH).alloc (by simp) _,some ⟨w.heap.size+1,0,none⟩,2,rfl,Or.inr ⟨w.heap.size+1,by omega,rfl,rfl,dX w _ _⟩⟩
theorem Ih(op:ByteArray)(w:World)(ht:op.toList=[62,61]):Calls Tryz.prog 184 #[.string op] w (eP 4 [5,5] w):=by
 go_enter Tryz.func184,Tryz.ntmps184
 go_wp2
 refine bodyPost_ret (v:=.tuple #[.agg #[.int .i64 4,.slice (some ⟨w.heap.size+1,0,none⟩) 2 2],.bool true]) (by simp [results,Tryz.results184,go_sem]) rfl ⟨(aH).alloc (by simp) _,some ⟨w.heap.size+1,0,none⟩,2,rfl,Or.inr ⟨w.heap.size+1,by omega,rfl,rfl,dX w _ _⟩⟩
theorem Ig(op:ByteArray)(w:World)(ht:op.toList=[61,62]):Calls Tryz.prog 184 #[.string op] w (eP 4 [5,5] w):=by
 go_enter Tryz.func184,Tryz.ntmps184
 go_wp2
 refine bodyPost_ret (v:=.tuple #[.agg #[.int .i64 4,.slice (some ⟨w.heap.size+1,0,none⟩) 2 2],.bool true]) (by simp [results,Tryz.results184,go_sem]) rfl ⟨(aH).alloc (by simp) _,some ⟨w.heap.size+1,0,none⟩,2,rfl,Or.inr ⟨w.heap.size+1,by omega,rfl,rfl,dX w _ _⟩⟩
theorem Ie(op:ByteArray)(w:World)(ht:op.toList=[43]):Calls Tryz.prog 184 #[.string op] w (eP 5 [5,6] w):=by
 go_enter Tryz.func184,Tryz.ntmps184
 go_wp2
 refine bodyPost_ret (v:=.tuple #[.agg #[.int .i64 5,.slice (some ⟨w.heap.size+1,0,none⟩) 2 2],.bool true]) (by simp [results,Tryz.results184,go_sem]) rfl ⟨(aH).alloc (by simp) _,some ⟨w.heap.size+1,0,none⟩,2,rfl,Or.inr ⟨w.heap.size+1,by omega,rfl,rfl,dX w _ _⟩⟩
theorem Ib(op:ByteArray)(w:World)(ht:op.toList=[45]):Calls Tryz.prog 184 #[.string op] w (eP 5 [5,6] w):=by
 go_enter Tryz.func184,Tryz.ntmps184
 go_wp2
 refine bodyPost_ret (v:=.tuple #[.agg #[.int .i64 5,.slice (some ⟨w.heap.size+1,0,none⟩) 2 2],.bool true]) (by simp [results,Tryz.results184,go_sem]) rfl ⟨(aH).alloc (by simp) _,some ⟨w.heap.size+1,0,none⟩,2,rfl,Or.inr ⟨w.heap.size+1,by omega,rfl,rfl,dX w _ _⟩⟩
theorem Ia(op:ByteArray)(w:World)(ht:op.toList=[42]):Calls Tryz.prog 184 #[.string op] w (eP 6 [6,7] w):=by
 go_enter Tryz.func184,Tryz.ntmps184
 go_wp2
 refine bodyPost_ret (v:=.tuple #[.agg #[.int .i64 6,.slice (some ⟨w.heap.size+1,0,none⟩) 2 2],.bool true]) (by simp [results,Tryz.results184,go_sem]) rfl ⟨(aH).alloc (by simp) _,some ⟨w.heap.size+1,0,none⟩,2,rfl,Or.inr ⟨w.heap.size+1,by omega,rfl,rfl,dX w _ _⟩⟩
theorem H9(op:ByteArray)(w:World)(ht:op.toList=[47]):Calls Tryz.prog 184 #[.string op] w (eP 6 [6,7] w):=by
 go_enter Tryz.func184,Tryz.ntmps184
 go_wp2
 refine bodyPost_ret (v:=.tuple #[.agg #[.int .i64 6,.slice (some ⟨w.heap.size+1,0,none⟩) 2 2],.bool true]) (by simp [results,Tryz.results184,go_sem]) rfl ⟨(aH).alloc (by simp) _,some ⟨w.heap.size+1,0,none⟩,2,rfl,Or.inr ⟨w.heap.size+1,by omega,rfl,rfl,dX w _ _⟩⟩
theorem H8(op:ByteArray)(w:World)(ht:op.toList=[109,111,100]):Calls Tryz.prog 184 #[.string op] w (eP 6 [6,7] w):=by
 go_enter Tryz.func184,Tryz.ntmps184
 go_wp2
 refine bodyPost_ret (v:=.tuple #[.agg #[.int .i64 6,.slice (some ⟨w.heap.size+1,0,none⟩) 2 2],.bool true]) (by simp [results,Tryz.results184,go_sem]) rfl ⟨(aH).alloc (by simp) _,some ⟨w.heap.size+1,0,none⟩,2,rfl,Or.inr ⟨w.heap.size+1,by omega,rfl,rfl,dX w _ _⟩⟩
theorem Hz(op:ByteArray)(w:World)(ht:op.toList=[110,101,103]):Calls Tryz.prog 184 #[.string op] w (eP 7 [7] w):=by
 go_enter Tryz.func184,Tryz.ntmps184
 go_wp2
 refine bodyPost_ret (v:=.tuple #[.agg #[.int .i64 7,.slice (some ⟨w.heap.size+1,0,none⟩) 1 1],.bool true]) (by simp [results,Tryz.results184,go_sem]) rfl ⟨(aH).alloc (by simp) _,some ⟨w.heap.size+1,0,none⟩,1,rfl,Or.inr ⟨w.heap.size+1,by omega,rfl,rfl,dX w _ _⟩⟩
theorem Hy(op:ByteArray)(w:World)(ht:op.toList=[112,114,101]):Calls Tryz.prog 184 #[.string op] w (eP 7 [7] w):=by
 go_enter Tryz.func184,Tryz.ntmps184
 go_wp2
 refine bodyPost_ret (v:=.tuple #[.agg #[.int .i64 7,.slice (some ⟨w.heap.size+1,0,none⟩) 1 1],.bool true]) (by simp [results,Tryz.results184,go_sem]) rfl ⟨(aH).alloc (by simp) _,some ⟨w.heap.size+1,0,none⟩,1,rfl,Or.inr ⟨w.heap.size+1,by omega,rfl,rfl,dX w _ _⟩⟩
def eY:List (List UInt8×Nat×List Nat):=[([105,110,116],8,[]),([116,114,117,101],8,[]),([102,97,108,115,101],8,[]),([110,97,109,101],8,[]),([105,102],0,[0,0,0]),([45,62],0,[1,0]),([102,98,121],0,[1,0]),([111,114],1,[1,2]),([120,111,114],1,[1,2]),([97,110,100],2,[2,3]),([110,111,116],3,[3]),([61],4,[5,5]),([60,62],4,[5,5]),([60],4,[5,5]),([60,61],4,[5,5]),([62],4,[5,5]),([62,61],4,[5,5]),([61,62],4,[5,5]),([43],5,[5,6]),([45],5,[5,6]),([42],6,[6,7]),([47],6,[6,7]),([109,111,100],6,[6,7]),([110,101,103],7,[7]),([112,114,101],7,[7])]
theorem lZ(op:ByteArray)(w:World)(t:List UInt8×Nat×List Nat)(h:t∈eY)(ht:op.toList=t.1):Calls Tryz.prog 184 #[.string op] w (eP t.2.1 t.2.2 w):=by
 simp only[eY,List.mem_cons,List.not_mem_nil,or_false] at h
 rcases h with rfl | rfl | rfl | rfl | rfl | rfl | rfl | rfl | rfl | rfl | rfl | rfl | rfl | rfl | rfl | rfl | rfl | rfl | rfl | rfl | rfl | rfl | rfl | rfl | rfl
 ·exact Iq op w ht
 ·exact Ic op w ht
 ·exact Hw op w ht
 ·exact Hu op w ht
 ·exact Ht op w ht
 ·exact Hq op w ht
 ·exact Ho op w ht
 ·exact Hl op w ht
 ·exact Hg op w ht
 ·exact Ip op w ht
 ·exact Io op w ht
 ·exact Im op w ht
 ·exact Il op w ht
 ·exact Ik op w ht
 ·exact Ij op w ht
 ·exact Ii op w ht
 ·exact Ih op w ht
 ·exact Ig op w ht
 ·exact Ie op w ht
 ·exact Ib op w ht
 ·exact Ia op w ht
 ·exact H9 op w ht
 ·exact H8 op w ht
 ·exact Hz op w ht
 ·exact Hy op w ht
theorem xO(op:ByteArray)(w:World)(h:∀t∈eY,(op.toList==t.1)=false):Calls Tryz.prog 184 #[.string op] w fun e w'=>e=.returned (.tuple #[.agg #[.int .i64 0,.slice none 0 0],.bool false])∧Bw w w':=by
 have h0:=h ([105,110,116],8,[]) (by decide)
 have h1:=h ([116,114,117,101],8,[]) (by decide)
 have h2:=h ([102,97,108,115,101],8,[]) (by decide)
 have h3:=h ([110,97,109,101],8,[]) (by decide)
 have h4:=h ([105,102],0,[0,0,0]) (by decide)
 have h5:=h ([45,62],0,[1,0]) (by decide)
 have h6:=h ([102,98,121],0,[1,0]) (by decide)
 have h7:=h ([111,114],1,[1,2]) (by decide)
 have h8:=h ([120,111,114],1,[1,2]) (by decide)
 have h9:=h ([97,110,100],2,[2,3]) (by decide)
 have h10:=h ([110,111,116],3,[3]) (by decide)
 have h11:=h ([61],4,[5,5]) (by decide)
 have h12:=h ([60,62],4,[5,5]) (by decide)
 have h13:=h ([60],4,[5,5]) (by decide)
 have h14:=h ([60,61],4,[5,5]) (by decide)
 have h15:=h ([62],4,[5,5]) (by decide)
 have h16:=h ([62,61],4,[5,5]) (by decide)
 have h17:=h ([61,62],4,[5,5]) (by decide)
 have h18:=h ([43],5,[5,6]) (by decide)
 have h19:=h ([45],5,[5,6]) (by decide)
 have h20:=h ([42],6,[6,7]) (by decide)
 have h21:=h ([47],6,[6,7]) (by decide)
 have h22:=h ([109,111,100],6,[6,7]) (by decide)
 have h23:=h ([110,101,103],7,[7]) (by decide)
 have h24:=h ([112,114,101],7,[7]) (by decide)
 dsimp only at h0 h1 h2 h3 h4 h5 h6 h7 h8 h9 h10 h11 h12 h13 h14 h15 h16 h17 h18 h19 h20 h21 h22 h23 h24
 clear h
 go_enter Tryz.func184,Tryz.ntmps184
 go_wp2
 exact bodyPost_ret (v:=.tuple #[.agg #[.int .i64 0,.slice none 0 0],.bool false]) (by simp [results,Tryz.results184,go_sem]) rfl ⟨rfl,aH⟩
attribute [local go_sem ↓] Go.wp_at_zero Go.wp_at_succ

def iE:List UInt8:=[99,97,108,108]
def nH:List UInt8:=[105,110,116]
def lW:List UInt8:=[110,97,109,101]
def cO(op:List UInt8)(n:Int)(s:List UInt8)(m:Nat):Bool:=(op==iE||eY.any fun t=>op==t.1&&m==t.2.2.length)&&(if op==nH then decide (0≤n)&&decide (n≤127)&&s==[] else if op==lW||op==iE then n==0 else n==0&&s==[])
theorem zD{op:List UInt8}{n:Int}{s:List UInt8}{m:Nat}(h:cO op n s m=true):op=iE∨∃t∈eY,op=t.1∧t.2.2.length=m:=by
 simp only[cO,Bool.and_eq_true,Bool.or_eq_true,beq_iff_eq,List.any_eq_true] at h
 rcases h.1 with h | ⟨t,ht,h1,h2⟩
 ·exact Or.inl h
 ·exact Or.inr ⟨t,ht,h1,h2.symm⟩
theorem DU{op:List UInt8}{t:List UInt8×Nat×List Nat}(ht:t∈eY)(h:op=t.1)(n:Int)(s:List UInt8):cO op n s t.2.2.length=(if op==nH then decide (0≤n)&&decide (n≤127)&&s==[] else if op==lW||op==iE then n==0 else n==0&&s==[]):=by
 have h1:(op==iE||eY.any fun u=>op==u.1&&t.2.2.length==u.2.2.length)=true:=by
  simp only[Bool.or_eq_true,List.any_eq_true]
  exact Or.inr ⟨t,ht,by simp [h]⟩
 unfold cO
 rw[h1,Bool.true_and]
theorem Ir{t u:List UInt8×Nat×List Nat}(ht:t∈eY)(hu:u∈eY)(h:t.1=u.1):t=u:=(by decide:∀t∈eY,∀u∈eY,t.1=u.1→t=u) t ht u hu h
theorem DT{op:List UInt8}{t:List UInt8×Nat×List Nat}{m:Nat}(ht:t∈eY)(h:op=t.1)(hc:op≠iE)(hm:m≠t.2.2.length)(n:Int)(s:List UInt8):cO op n s m=false:=by
 cases hB:cO op n s m with
 | false=>rfl
 | true=>
  rcases zD hB with h1 | ⟨u,hu,h1,h2⟩
  ·exact absurd h1 hc
  ·have:=Ir ht hu (h.symm.trans h1)
   subst this
   exact absurd h2.symm hm
theorem DR{op:List UInt8}(hc:op≠iE)(h:¬∃t∈eY,op=t.1)(n:Int)(s:List UInt8)(m:Nat):cO op n s m=false:=by
 cases hB:cO op n s m with
 | false=>rfl
 | true=>
  rcases zD hB with h1 | ⟨u,hu,h1,_⟩
  ·exact absurd h1 hc
  ·exact absurd ⟨u,hu,h1⟩ h
theorem Nj(op:ByteArray)(n:Int)(s:ByteArray)(o:Option Addr)(m c:Nat)(w:World)(hm:m≤maxLen) :
  Calls Tryz.prog 170 #[.agg #[.string op,.int .i64 n,.string s,.slice o m c]] w fun e w'=>Bw w w'∧e=.returned (.bool (cO op.toList n s.toList m)):=by
 unfold maxLen at hm
 obtain⟨fb,hfb⟩:∃fb,fb=cO op.toList n s.toList m:=⟨_,rfl⟩
 rw[←hfb]
 have HF:=aA hfb
 clear hfb
 have hbA:Bw w (w.alloc (oH op n s (.slice o m c))):=aH
 have HA:Hid _:=heap_alloc_new w (oH op n s (.slice o m c))
 by_cases hc:op.toList=iE
 ·have hc':op.toList=[99,97,108,108]:=hc
  have HNO:Hid (∀t∈eY,(op.toList==t.1)=false):=by
   show ∀t∈eY,(op.toList==t.1)=false
   rw[hc];decide
  have HE:Hid (cO op.toList n s.toList m=(n==0)):=by
   show cO op.toList n s.toList m=(n==0)
   rw[hc];simp [cO,iE,nH,lW]
  clear hc
  by_cases hn:n=0
  ·subst hn
   go_enter Tryz.func170,Tryz.ntmps170
   go_wp2_with fail
   refine(xO op _ HNO.out).mono ?_
   rintro e w1 ⟨rfl,hb1⟩
   obtain⟨a0,a1,a2,a3,_⟩:=gL (aG hb1 HA.out)
   have hl1:w.heap.size<w1.heap.size:=jP a0
   go_wp2
   exact bodyPost_ret (v:=.bool true) (by simp [results,Tryz.results170,go_sem]) rfl ⟨(hbA.trans (hb1.mono (by simp))).alloc (by omega) _,by rw[HF.out,HE.out];rfl⟩
  ·have hn':(n==0)=false:=by simpa using hn
   clear hn
   go_enter Tryz.func170,Tryz.ntmps170
   go_wp2_with fail
   refine(xO op _ HNO.out).mono ?_
   rintro e w1 ⟨rfl,hb1⟩
   obtain⟨a0,a1,a2,a3,_⟩:=gL (aG hb1 HA.out)
   have hl1:w.heap.size<w1.heap.size:=jP a0
   go_wp2
   exact bodyPost_ret (v:=.bool false) (by simp [results,Tryz.results170,go_sem]) rfl ⟨(hbA.trans (hb1.mono (by simp))).alloc (by omega) _,by rw[HF.out,HE.out,hn']⟩
 ·have hc':(op.toList==[99,97,108,108])=false:=by simpa [iE] using hc
  by_cases hin:∃t∈eY,op.toList=t.1
  ·obtain⟨t,ht,hop⟩:=hin
   have HOP:=aA hop
   have hpl:=(by decide:∀t∈eY,t.2.2.length≤3) t ht
   by_cases hl:m=t.2.2.length
   ·subst hl
    have HE:Hid _:=DU ht hop n s.toList
    by_cases hi:op.toList=[105,110,116]
    ·have HI:Hid (cO op.toList n s.toList t.2.2.length=(decide (0≤n)&&decide (n≤127)&&s.toList==[])):=by
      show cO op.toList n s.toList t.2.2.length=_
      rw[HE.out,hi];rfl
     clear hop hc hc'
     by_cases h0:0≤n
     ·by_cases h1:n≤127
      ·by_cases hs:s.toList=[]
       ·
        go_enter Tryz.func170,Tryz.ntmps170
        go_wp2_with fail
        refine(lZ op _ t ht HOP.out).mono ?_
        rintro e w1 ⟨hb1,so,sc,rfl,_⟩
        obtain⟨a0,a1,a2,a3,_⟩:=gL (aG hb1 HA.out)
        have hl1:w.heap.size<w1.heap.size:=jP a0
        go_wp2
        exact bodyPost_ret (v:=.bool true) (by simp [results,Tryz.results170,go_sem]) rfl ⟨(hbA.trans (hb1.mono (by simp))).alloc (by omega) _,by rw[HF.out,HI.out];simp [h0,h1,hs]⟩
       ·have hs':(s.toList==[])=false:=by simpa using hs
        go_enter Tryz.func170,Tryz.ntmps170
        go_wp2_with fail
        refine(lZ op _ t ht HOP.out).mono ?_
        rintro e w1 ⟨hb1,so,sc,rfl,_⟩
        obtain⟨a0,a1,a2,a3,_⟩:=gL (aG hb1 HA.out)
        have hl1:w.heap.size<w1.heap.size:=jP a0
        go_wp2
        exact bodyPost_ret (v:=.bool false) (by simp [results,Tryz.results170,go_sem]) rfl ⟨(hbA.trans (hb1.mono (by simp))).alloc (by omega) _,by rw[HF.out,HI.out,hs',Bool.and_false]⟩
      ·have h1':¬(n≤127):=h1
       go_enter Tryz.func170,Tryz.ntmps170
       go_wp2_with fail
       refine(lZ op _ t ht HOP.out).mono ?_
       rintro e w1 ⟨hb1,so,sc,rfl,_⟩
       obtain⟨a0,a1,a2,a3,_⟩:=gL (aG hb1 HA.out)
       have hl1:w.heap.size<w1.heap.size:=jP a0
       go_wp2
       exact bodyPost_ret (v:=.bool false) (by simp [results,Tryz.results170,go_sem]) rfl ⟨(hbA.trans (hb1.mono (by simp))).alloc (by omega) _,by rw[HF.out,HI.out,decide_eq_false (show ¬n≤127 by omega)];simp⟩
     ·have h0':¬(0≤n):=h0
      go_enter Tryz.func170,Tryz.ntmps170
      go_wp2_with fail
      refine(lZ op _ t ht HOP.out).mono ?_
      rintro e w1 ⟨hb1,so,sc,rfl,_⟩
      obtain⟨a0,a1,a2,a3,_⟩:=gL (aG hb1 HA.out)
      have hl1:w.heap.size<w1.heap.size:=jP a0
      go_wp2
      exact bodyPost_ret (v:=.bool false) (by simp [results,Tryz.results170,go_sem]) rfl ⟨(hbA.trans (hb1.mono (by simp))).alloc (by omega) _,by rw[HF.out,HI.out,decide_eq_false (show ¬0≤n by omega)];simp⟩
    ·have hi':(op.toList==[105,110,116])=false:=by simpa using hi
     by_cases hnm:op.toList=[110,97,109,101]
     ·have HI:Hid (cO op.toList n s.toList t.2.2.length=(n==0)):=by
       show cO op.toList n s.toList t.2.2.length=_
       rw[HE.out,hnm];rfl
      clear hop hc hc' hi hi'
      by_cases hn:n=0
      ·subst hn
       go_enter Tryz.func170,Tryz.ntmps170
       go_wp2_with fail
       refine(lZ op _ t ht HOP.out).mono ?_
       rintro e w1 ⟨hb1,so,sc,rfl,_⟩
       obtain⟨a0,a1,a2,a3,_⟩:=gL (aG hb1 HA.out)
       have hl1:w.heap.size<w1.heap.size:=jP a0
       go_wp2
       exact bodyPost_ret (v:=.bool true) (by simp [results,Tryz.results170,go_sem]) rfl ⟨(hbA.trans (hb1.mono (by simp))).alloc (by omega) _,by rw[HF.out,HI.out];rfl⟩
      ·have hn':(n==0)=false:=by simpa using hn
       clear hn
       go_enter Tryz.func170,Tryz.ntmps170
       go_wp2_with fail
       refine(lZ op _ t ht HOP.out).mono ?_
       rintro e w1 ⟨hb1,so,sc,rfl,_⟩
       obtain⟨a0,a1,a2,a3,_⟩:=gL (aG hb1 HA.out)
       have hl1:w.heap.size<w1.heap.size:=jP a0
       go_wp2
       exact bodyPost_ret (v:=.bool false) (by simp [results,Tryz.results170,go_sem]) rfl ⟨(hbA.trans (hb1.mono (by simp))).alloc (by omega) _,by rw[HF.out,HI.out,hn']⟩
     ·have hnm':(op.toList==[110,97,109,101])=false:=by simpa using hnm
      have HI:Hid (cO op.toList n s.toList t.2.2.length=(n==0&&s.toList==[])):=by
       show cO op.toList n s.toList t.2.2.length=_
       rw[HE.out]
       have e1:(op.toList==nH)=false:=hi'
       have e2:(op.toList==lW)=false:=hnm'
       have e3:(op.toList==iE)=false:=hc'
       simp [e1,e2,e3]
      clear hop hc hi hnm
      by_cases hn:n=0
      ·subst hn
       by_cases hs:s.toList=[]
       ·
        go_enter Tryz.func170,Tryz.ntmps170
        go_wp2_with fail
        refine(lZ op _ t ht HOP.out).mono ?_
        rintro e w1 ⟨hb1,so,sc,rfl,_⟩
        obtain⟨a0,a1,a2,a3,_⟩:=gL (aG hb1 HA.out)
        have hl1:w.heap.size<w1.heap.size:=jP a0
        go_wp2
        exact bodyPost_ret (v:=.bool true) (by simp [results,Tryz.results170,go_sem]) rfl ⟨(hbA.trans (hb1.mono (by simp))).alloc (by omega) _,by rw[HF.out,HI.out];simp [hs]⟩
       ·have hs':(s.toList==[])=false:=by simpa using hs
        go_enter Tryz.func170,Tryz.ntmps170
        go_wp2_with fail
        refine(lZ op _ t ht HOP.out).mono ?_
        rintro e w1 ⟨hb1,so,sc,rfl,_⟩
        obtain⟨a0,a1,a2,a3,_⟩:=gL (aG hb1 HA.out)
        have hl1:w.heap.size<w1.heap.size:=jP a0
        go_wp2
        exact bodyPost_ret (v:=.bool false) (by simp [results,Tryz.results170,go_sem]) rfl ⟨(hbA.trans (hb1.mono (by simp))).alloc (by omega) _,by rw[HF.out,HI.out,hs',Bool.and_false]⟩
      ·have hn':(n==0)=false:=by simpa using hn
       clear hn
       go_enter Tryz.func170,Tryz.ntmps170
       go_wp2_with fail
       refine(lZ op _ t ht HOP.out).mono ?_
       rintro e w1 ⟨hb1,so,sc,rfl,_⟩
       obtain⟨a0,a1,a2,a3,_⟩:=gL (aG hb1 HA.out)
       have hl1:w.heap.size<w1.heap.size:=jP a0
       go_wp2
       exact bodyPost_ret (v:=.bool false) (by simp [results,Tryz.results170,go_sem]) rfl ⟨(hbA.trans (hb1.mono (by simp))).alloc (by omega) _,by rw[HF.out,HI.out,hn',Bool.false_and]⟩
   ·have hl':((m:Int)==(t.2.2.length:Int))=false:=by simp;omega
    have HE:Hid _:=DT ht hop hc hl n s.toList
    clear hop hc hl
    go_enter Tryz.func170,Tryz.ntmps170
    go_wp2_with fail
    refine(lZ op _ t ht HOP.out).mono ?_
    rintro e w1 ⟨hb1,so,sc,rfl,_⟩
    obtain⟨a0,a1,a2,a3,_⟩:=gL (aG hb1 HA.out)
    have hl1:w.heap.size<w1.heap.size:=jP a0
    go_wp2
    exact bodyPost_ret (v:=.bool false) (by simp [results,Tryz.results170,go_sem]) rfl ⟨(hbA.trans (hb1.mono (by simp))).alloc (by omega) _,by rw[HF.out,HE.out]⟩
  ·have HNO:Hid (∀t∈eY,(op.toList==t.1)=false):=by
    show ∀t∈eY,(op.toList==t.1)=false
    intro t ht
    simp only[beq_eq_false_iff_ne]
    exact fun e=>hin ⟨t,ht,e⟩
   have HE:Hid _:=DR hc hin n s.toList m
   clear hc hin
   go_enter Tryz.func170,Tryz.ntmps170
   go_wp2_with fail
   refine(xO op _ HNO.out).mono ?_
   rintro e w1 ⟨rfl,hb1⟩
   obtain⟨a0,a1,a2,a3,_⟩:=gL (aG hb1 HA.out)
   have hl1:w.heap.size<w1.heap.size:=jP a0
   go_wp2
   exact bodyPost_ret (v:=.bool false) (by simp [results,Tryz.results170,go_sem]) rfl ⟨(hbA.trans (hb1.mono (by simp))).alloc (by omega) _,by rw[HF.out,HE.out]⟩
end Go.Proofs.YtmgfakcccfahaaaGreatDoor
