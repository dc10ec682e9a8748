/-
  tree.shapeOf BY ITS CONTRACT.
-/
import Derived.Test.YtmgfakcccfahaaaGreatDoorN02
import Derived.Deep.DrawnRows
set_option maxRecDepth 100000
set_option maxHeartbeats 4000000
namespace Go.Proofs.YtmgfakcccfahaaaGreatDoor
open Go.RowKit
attribute [local go_sem ↓] Go.wp_at_zero Go.wp_at_succ

def intCells(l:List Nat):List Value:=l.map fun (n:Nat)=>.int .i64 (n:Int)
def PartsAt(w:World)(base:Nat)(o:Option Addr)(c:Nat)(ps:List Nat):Prop:=(ps=[]∧o=none∧c=0)∨∃q,base≤q∧o=some ⟨q,0,none⟩∧c=ps.length∧w.heap[q]?=some (.cells (intCells ps).toArray 3 (0,0))
def iC(lv:Nat)(ps:List Nat)(w:World)(e:Ending)(w':World):Prop:=Bw w w'∧∃o c,e=.returned (.tuple #[.agg #[.int .i64 lv,.slice o ps.length c],.bool true])∧PartsAt w' w.heap.size o c ps
theorem KG(op:ByteArray)(w:World)(ht:op.toList=[105,110,116]):Calls Tryz.prog 184 #[.string op] w (iC 8 [] w):=by
 go_enter Tryz.func184,Tryz.ntmps184
 go_wp2
 exact bodyPost_ret (v:=.tuple #[.agg #[.int .i64 8,.slice none 0 0],.bool true]) (by simp [results,Tryz.results184,go_sem]) rfl ⟨aH,none,0,rfl,Or.inl ⟨rfl,rfl,rfl⟩⟩
theorem Kt(op:ByteArray)(w:World)(ht:op.toList=[116,114,117,101]):Calls Tryz.prog 184 #[.string op] w (iC 8 [] w):=by
 go_enter Tryz.func184,Tryz.ntmps184
 go_wp2
 exact bodyPost_ret (v:=.tuple #[.agg #[.int .i64 8,.slice none 0 0],.bool true]) (by simp [results,Tryz.results184,go_sem]) rfl ⟨aH,none,0,rfl,Or.inl ⟨rfl,rfl,rfl⟩⟩
theorem Kj(op:ByteArray)(w:World)(ht:op.toList=[102,97,108,115,101]):Calls Tryz.prog 184 #[.string op] w (iC 8 [] w):=by
 go_enter Tryz.func184,Tryz.ntmps184
 go_wp2
 exact bodyPost_ret (v:=.tuple #[.agg #[.int .i64 8,.slice none 0 0],.bool true]) (by simp [results,Tryz.results184,go_sem]) rfl ⟨aH,none,0,rfl,Or.inl ⟨rfl,rfl,rfl⟩⟩
theorem Ki(op:ByteArray)(w:World)(ht:op.toList=[110,97,109,101]):Calls Tryz.prog 184 #[.string op] w (iC 8 [] w):=by
 go_enter Tryz.func184,Tryz.ntmps184
 go_wp2
 exact bodyPost_ret (v:=.tuple #[.agg #[.int .i64 8,.slice none 0 0],.bool true]) (by simp [results,Tryz.results184,go_sem]) rfl ⟨aH,none,0,rfl,Or.inl ⟨rfl,rfl,rfl⟩⟩
theorem Kh(op:ByteArray)(w:World)(ht:op.toList=[105,102]):Calls Tryz.prog 184 #[.string op] w (iC 0 [0,0,0] w):=by
 go_enter Tryz.func184,Tryz.ntmps184
 go_wp2
 refine bodyPost_ret (v:=.tuple #[.agg #[.int .i64 0,.slice (some ⟨w.heap.size+1,0,none⟩) 3 3],.bool true]) (by simp [results,Tryz.results184,go_sem]) rfl ⟨(aH).alloc (by simp) _,some ⟨w.heap.size+1,0,none⟩,3,rfl,Or.inr ⟨w.heap.size+1,by omega,rfl,rfl,iG w _ _⟩⟩
theorem Kg(op:ByteArray)(w:World)(ht:op.toList=[45,62]):Calls Tryz.prog 184 #[.string op] w (iC 0 [1,0] w):=by
 go_enter Tryz.func184,Tryz.ntmps184
 go_wp2
 refine bodyPost_ret (v:=.tuple #[.agg #[.int .i64 0,.slice (some ⟨w.heap.size+1,0,none⟩) 2 2],.bool true]) (by simp [results,Tryz.results184,go_sem]) rfl ⟨(aH).alloc (by simp) _,some ⟨w.heap.size+1,0,none⟩,2,rfl,Or.inr ⟨w.heap.size+1,by omega,rfl,rfl,iG w _ _⟩⟩
theorem Ke(op:ByteArray)(w:World)(ht:op.toList=[102,98,121]):Calls Tryz.prog 184 #[.string op] w (iC 0 [1,0] w):=by
 go_enter Tryz.func184,Tryz.ntmps184
 go_wp2
 refine bodyPost_ret (v:=.tuple #[.agg #[.int .i64 0,.slice (some ⟨w.heap.size+1,0,none⟩) 2 2],.bool true]) (by simp [results,Tryz.results184,go_sem]) rfl ⟨(aH).alloc (by simp) _,some ⟨w.heap.size+1,0,none⟩,2,rfl,Or.inr ⟨w.heap.size+1,by omega,rfl,rfl,iG w _ _⟩⟩
theorem Kc(op:ByteArray)(w:World)(ht:op.toList=[111,114]):Calls Tryz.prog 184 #[.string op] w (iC 1 [1,2] w):=by
 go_enter Tryz.func184,Tryz.ntmps184
 go_wp2
 refine bodyPost_ret (v:=.tuple #[.agg #[.int .i64 1,.slice (some ⟨w.heap.size+1,0,none⟩) 2 2],.bool true]) (by simp [results,Tryz.results184,go_sem]) rfl ⟨(aH).alloc (by simp) _,some ⟨w.heap.size+1,0,none⟩,2,rfl,Or.inr ⟨w.heap.size+1,by omega,rfl,rfl,iG w _ _⟩⟩
theorem Kb(op:ByteArray)(w:World)(ht:op.toList=[120,111,114]):Calls Tryz.prog 184 #[.string op] w (iC 1 [1,2] w):=by
 go_enter Tryz.func184,Tryz.ntmps184
 go_wp2
 refine bodyPost_ret (v:=.tuple #[.agg #[.int .i64 1,.slice (some ⟨w.heap.size+1,0,none⟩) 2 2],.bool true]) (by simp [results,Tryz.results184,go_sem]) rfl ⟨(aH).alloc (by simp) _,some ⟨w.heap.size+1,0,none⟩,2,rfl,Or.inr ⟨w.heap.size+1,by omega,rfl,rfl,iG w _ _⟩⟩
theorem KF(op:ByteArray)(w:World)(ht:op.toList=[97,110,100]):Calls Tryz.prog 184 #[.string op] w (iC 2 [2,3] w):=by
 go_enter Tryz.func184,Tryz.ntmps184
 go_wp2
 refine bodyPost_ret (v:=.tuple #[.agg #[.int .i64 2,.slice (some ⟨w.heap.size+1,0,none⟩) 2 2],.bool true]) (by simp [results,Tryz.results184,go_sem]) rfl ⟨(aH).alloc (by simp) _,some ⟨w.heap.size+1,0,none⟩,2,rfl,Or.inr ⟨w.heap.size+1,by omega,rfl,rfl,iG w _ _⟩⟩
theorem KE(op:ByteArray)(w:World)(ht:op.toList=[110,111,116]):Calls Tryz.prog 184 #[.string op] w (iC 3 [3] w):=by
 go_enter Tryz.func184,Tryz.ntmps184
 go_wp2
 refine bodyPost_ret (v:=.tuple #[.agg #[.int .i64 3,.slice (some ⟨w.heap.size+1,0,none⟩) 1 1],.bool true]) (by simp [results,Tryz.results184,go_sem]) rfl ⟨(aH).alloc (by simp) _,some ⟨w.heap.size+1,0,none⟩,1,rfl,Or.inr ⟨w.heap.size+1,by omega,rfl,rfl,iG w _ _⟩⟩
theorem KD(op:ByteArray)(w:World)(ht:op.toList=[61]):Calls Tryz.prog 184 #[.string op] w (iC 4 [5,5] w):=by
 go_enter Tryz.func184,Tryz.ntmps184
 go_wp2
 refine bodyPost_ret (v:=.tuple #[.agg #[.int .i64 4,.slice (some ⟨w.heap.size+1,0,none⟩) 2 2],.bool true]) (by simp [results,Tryz.results184,go_sem]) rfl ⟨(aH).alloc (by simp) _,some ⟨w.heap.size+1,0,none⟩,2,rfl,Or.inr ⟨w.heap.size+1,by omega,rfl,rfl,iG w _ _⟩⟩
theorem KC(op:ByteArray)(w:World)(ht:op.toList=[60,62]):Calls Tryz.prog 184 #[.string op] w (iC 4 [5,5] w):=by
 go_enter Tryz.func184,Tryz.ntmps184
 go_wp2
 refine bodyPost_ret (v:=.tuple #[.agg #[.int .i64 4,.slice (some ⟨w.heap.size+1,0,none⟩) 2 2],.bool true]) (by simp [results,Tryz.results184,go_sem]) rfl ⟨(aH).alloc (by simp) _,some ⟨w.heap.size+1,0,none⟩,2,rfl,Or.inr ⟨w.heap.size+1,by omega,rfl,rfl,iG w _ _⟩⟩
theorem KA(op:ByteArray)(w:World)(ht:op.toList=[60]):Calls Tryz.prog 184 #[.string op] w (iC 4 [5,5] w):=by
 go_enter Tryz.func184,Tryz.ntmps184
 go_wp2
 refine bodyPost_ret (v:=.tuple #[.agg #[.int .i64 4,.slice (some ⟨w.heap.size+1,0,none⟩) 2 2],.bool true]) (by simp [results,Tryz.results184,go_sem]) rfl ⟨(aH).alloc (by simp) _,some ⟨w.heap.size+1,0,none⟩,2,rfl,Or.inr ⟨w.heap.size+1,by omega,rfl,rfl,iG w _ _⟩⟩
theorem Kz(op:ByteArray)(w:World)(ht:op.toList=[60,61]):Calls Tryz.prog 184 #[.string op] w (iC 4 [5,5] w):=by
 go_enter Tryz.func184,Tryz.ntmps184
 go_wp2
 refine bodyPost_ret (v:=.tuple #[.agg #[.int .i64 4,.slice (some ⟨w.heap.size+1,0,none⟩) 2 2],.bool true]) (by simp [results,Tryz.results184,go_sem]) rfl ⟨(aH).alloc (by simp) _,some ⟨w.heap.size+1,0,none⟩,2,rfl,Or.inr ⟨w.heap.size+1,by omega,rfl,rfl,iG w _ _⟩⟩
theorem Ky(op:ByteArray)(w:World)(ht:op.toList=[62]):Calls Tryz.prog 184 #[.string op] w (iC 4 [5,5] w):=by
 go_enter Tryz.func184,Tryz.ntmps184
 go_wp2
 refine bodyPost_ret (v:=.tuple #[.agg #[.int .i64 4,.slice (some ⟨w.heap.size+1,0,none⟩) 2 2],.bool true]) (by simp [results,Tryz.results184,go_sem]) rfl ⟨(aH).alloc (by simp) _,some ⟨w.heap.size+1,0,none⟩,2,rfl,Or.inr ⟨w.heap.size+1,by omega,rfl,rfl,iG w _ _⟩⟩
theorem Kw(op:ByteArray)(w:World)(ht:op.toList=[62,61]):Calls Tryz.prog 184 #[.string op] w (iC 4 [5,5] w):=by
 go_enter Tryz.func184,Tryz.ntmps184
 go_wp2
 refine bodyPost_ret (v:=.tuple #[.agg #[.int .i64 4,.slice (some ⟨w.heap.size+1,0,none⟩) 2 2],.bool true]) (by simp [results,Tryz.results184,go_sem]) rfl ⟨(aH).alloc (by simp) _,some ⟨w.heap.size+1,0,none⟩,2,rfl,Or.inr ⟨w.heap.size+1,by omega,rfl,rfl,iG w _ _⟩⟩
theorem Kv(op:ByteArray)(w:World)(ht:op.toList=[61,62]):Calls Tryz.prog 184 #[.string op] w (iC 4 [5,5] w):=by
 go_enter Tryz.func184,Tryz.ntmps184
 go_wp2
 refine bodyPost_ret (v:=.tuple #[.agg #[.int .i64 4,.slice (some ⟨w.heap.size+1,0,none⟩) 2 2],.bool true]) (by simp [results,Tryz.results184,go_sem]) rfl ⟨(aH).alloc (by simp) _,some ⟨w.heap.size+1,0,none⟩,2,rfl,Or.inr ⟨w.heap.size+1,by omega,rfl,rfl,iG w _ _⟩⟩
theorem Ku(op:ByteArray)(w:World)(ht:op.toList=[43]):Calls Tryz.prog 184 #[.string op] w (iC 5 [5,6] w):=by
 go_enter Tryz.func184,Tryz.ntmps184
 go_wp2
 refine bodyPost_ret (v:=.tuple #[.agg #[.int .i64 5,.slice (some ⟨w.heap.size+1,0,none⟩) 2 2],.bool true]) (by simp [results,Tryz.results184,go_sem]) rfl ⟨(aH).alloc (by simp) _,some ⟨w.heap.size+1,0,none⟩,2,rfl,Or.inr ⟨w.heap.size+1,by omega,rfl,rfl,iG w _ _⟩⟩
theorem Kr(op:ByteArray)(w:World)(ht:op.toList=[45]):Calls Tryz.prog 184 #[.string op] w (iC 5 [5,6] w):=by
 go_enter Tryz.func184,Tryz.ntmps184
 go_wp2
 refine bodyPost_ret (v:=.tuple #[.agg #[.int .i64 5,.slice (some ⟨w.heap.size+1,0,none⟩) 2 2],.bool true]) (by simp [results,Tryz.results184,go_sem]) rfl ⟨(aH).alloc (by simp) _,some ⟨w.heap.size+1,0,none⟩,2,rfl,Or.inr ⟨w.heap.size+1,by omega,rfl,rfl,iG w _ _⟩⟩
theorem Kq(op:ByteArray)(w:World)(ht:op.toList=[42]):Calls Tryz.prog 184 #[.string op] w (iC 6 [6,7] w):=by
 go_enter Tryz.func184,Tryz.ntmps184
 go_wp2
 refine bodyPost_ret (v:=.tuple #[.agg #[.int .i64 6,.slice (some ⟨w.heap.size+1,0,none⟩) 2 2],.bool true]) (by simp [results,Tryz.results184,go_sem]) rfl ⟨(aH).alloc (by simp) _,some ⟨w.heap.size+1,0,none⟩,2,rfl,Or.inr ⟨w.heap.size+1,by omega,rfl,rfl,iG w _ _⟩⟩
theorem Ko(op:ByteArray)(w:World)(ht:op.toList=[47]):Calls Tryz.prog 184 #[.string op] w (iC 6 [6,7] w):=by
 go_enter Tryz.func184,Tryz.ntmps184
 go_wp2
 refine bodyPost_ret (v:=.tuple #[.agg #[.int .i64 6,.slice (some ⟨w.heap.size+1,0,none⟩) 2 2],.bool true]) (by simp [results,Tryz.results184,go_sem]) rfl ⟨(aH).alloc (by simp) _,some ⟨w.heap.size+1,0,none⟩,2,rfl,Or.inr ⟨w.heap.size+1,by omega,rfl,rfl,iG w _ _⟩⟩
theorem Kn(op:ByteArray)(w:World)(ht:op.toList=[109,111,100]):Calls Tryz.prog 184 #[.string op] w (iC 6 [6,7] w):=by
 go_enter Tryz.func184,Tryz.ntmps184
 go_wp2
 refine bodyPost_ret (v:=.tuple #[.agg #[.int .i64 6,.slice (some ⟨w.heap.size+1,0,none⟩) 2 2],.bool true]) (by simp [results,Tryz.results184,go_sem]) rfl ⟨(aH).alloc (by simp) _,some ⟨w.heap.size+1,0,none⟩,2,rfl,Or.inr ⟨w.heap.size+1,by omega,rfl,rfl,iG w _ _⟩⟩
theorem Km(op:ByteArray)(w:World)(ht:op.toList=[110,101,103]):Calls Tryz.prog 184 #[.string op] w (iC 7 [7] w):=by
 go_enter Tryz.func184,Tryz.ntmps184
 go_wp2
 refine bodyPost_ret (v:=.tuple #[.agg #[.int .i64 7,.slice (some ⟨w.heap.size+1,0,none⟩) 1 1],.bool true]) (by simp [results,Tryz.results184,go_sem]) rfl ⟨(aH).alloc (by simp) _,some ⟨w.heap.size+1,0,none⟩,1,rfl,Or.inr ⟨w.heap.size+1,by omega,rfl,rfl,iG w _ _⟩⟩
theorem Kk(op:ByteArray)(w:World)(ht:op.toList=[112,114,101]):Calls Tryz.prog 184 #[.string op] w (iC 7 [7] w):=by
 go_enter Tryz.func184,Tryz.ntmps184
 go_wp2
 refine bodyPost_ret (v:=.tuple #[.agg #[.int .i64 7,.slice (some ⟨w.heap.size+1,0,none⟩) 1 1],.bool true]) (by simp [results,Tryz.results184,go_sem]) rfl ⟨(aH).alloc (by simp) _,some ⟨w.heap.size+1,0,none⟩,1,rfl,Or.inr ⟨w.heap.size+1,by omega,rfl,rfl,iG w _ _⟩⟩
def jQ:List (List UInt8×Nat×List Nat):=[([105,110,116],8,[]),([116,114,117,101],8,[]),([102,97,108,115,101],8,[]),([110,97,109,101],8,[]),([105,102],0,[0,0,0]),([45,62],0,[1,0]),([102,98,121],0,[1,0]),([111,114],1,[1,2]),([120,111,114],1,[1,2]),([97,110,100],2,[2,3]),([110,111,116],3,[3]),([61],4,[5,5]),([60,62],4,[5,5]),([60],4,[5,5]),([60,61],4,[5,5]),([62],4,[5,5]),([62,61],4,[5,5]),([61,62],4,[5,5]),([43],5,[5,6]),([45],5,[5,6]),([42],6,[6,7]),([47],6,[6,7]),([109,111,100],6,[6,7]),([110,101,103],7,[7]),([112,114,101],7,[7])]
theorem qE(op:ByteArray)(w:World)(t:List UInt8×Nat×List Nat)(h:t∈jQ)(ht:op.toList=t.1):Calls Tryz.prog 184 #[.string op] w (iC t.2.1 t.2.2 w):=by
 simp only[jQ,List.mem_cons,List.not_mem_nil,or_false] at h
 rcases h with rfl | rfl | rfl | rfl | rfl | rfl | rfl | rfl | rfl | rfl | rfl | rfl | rfl | rfl | rfl | rfl | rfl | rfl | rfl | rfl | rfl | rfl | rfl | rfl | rfl
 ·exact KG op w ht
 ·exact Kt op w ht
 ·exact Kj op w ht
 ·exact Ki op w ht
 ·exact Kh op w ht
 ·exact Kg op w ht
 ·exact Ke op w ht
 ·exact Kc op w ht
 ·exact Kb op w ht
 ·exact KF op w ht
 ·exact KE op w ht
 ·exact KD op w ht
 ·exact KC op w ht
 ·exact KA op w ht
 ·exact Kz op w ht
 ·exact Ky op w ht
 ·exact Kw op w ht
 ·exact Kv op w ht
 ·exact Ku op w ht
 ·exact Kr op w ht
 ·exact Kq op w ht
 ·exact Ko op w ht
 ·exact Kn op w ht
 ·exact Km op w ht
 ·exact Kk op w ht
theorem Bf(op:ByteArray)(w:World)(h:∀t∈jQ,(op.toList==t.1)=false):Calls Tryz.prog 184 #[.string op] w fun e w'=>e=.returned (.tuple #[.agg #[.int .i64 0,.slice none 0 0],.bool false])∧Bw w w':=by
 have h0:=h ([105,110,116],8,[]) (by decide)
 have h1:=h ([116,114,117,101],8,[]) (by decide)
 have h2:=h ([102,97,108,115,101],8,[]) (by decide)
 have h3:=h ([110,97,109,101],8,[]) (by decide)
 have h4:=h ([105,102],0,[0,0,0]) (by decide)
 have h5:=h ([45,62],0,[1,0]) (by decide)
 have h6:=h ([102,98,121],0,[1,0]) (by decide)
 have h7:=h ([111,114],1,[1,2]) (by decide)
 have h8:=h ([120,111,114],1,[1,2]) (by decide)
 have h9:=h ([97,110,100],2,[2,3]) (by decide)
 have h10:=h ([110,111,116],3,[3]) (by decide)
 have h11:=h ([61],4,[5,5]) (by decide)
 have h12:=h ([60,62],4,[5,5]) (by decide)
 have h13:=h ([60],4,[5,5]) (by decide)
 have h14:=h ([60,61],4,[5,5]) (by decide)
 have h15:=h ([62],4,[5,5]) (by decide)
 have h16:=h ([62,61],4,[5,5]) (by decide)
 have h17:=h ([61,62],4,[5,5]) (by decide)
 have h18:=h ([43],5,[5,6]) (by decide)
 have h19:=h ([45],5,[5,6]) (by decide)
 have h20:=h ([42],6,[6,7]) (by decide)
 have h21:=h ([47],6,[6,7]) (by decide)
 have h22:=h ([109,111,100],6,[6,7]) (by decide)
 have h23:=h ([110,101,103],7,[7]) (by decide)
 have h24:=h ([112,114,101],7,[7]) (by decide)
 dsimp only at h0 h1 h2 h3 h4 h5 h6 h7 h8 h9 h10 h11 h12 h13 h14 h15 h16 h17 h18 h19 h20 h21 h22 h23 h24
 clear h
 go_enter Tryz.func184,Tryz.ntmps184
 go_wp2
 exact bodyPost_ret (v:=.tuple #[.agg #[.int .i64 0,.slice none 0 0],.bool false]) (by simp [results,Tryz.results184,go_sem]) rfl ⟨rfl,aH⟩
attribute [local go_sem ↓] Go.wp_at_zero Go.wp_at_succ

def oV:List UInt8:=[99,97,108,108]
def xC:List UInt8:=[105,110,116]
def y9:List UInt8:=[110,97,109,101]
def gU(op:List UInt8)(n:Int)(s:List UInt8)(m:Nat):Bool:=(op==oV||jQ.any fun t=>op==t.1&&m==t.2.2.length)&&(if op==xC then decide (0≤n)&&decide (n≤127)&&s==[] else if op==y9||op==oV then n==0 else n==0&&s==[])
theorem Ca{op:List UInt8}{n:Int}{s:List UInt8}{m:Nat}(h:gU op n s m=true):op=oV∨∃t∈jQ,op=t.1∧t.2.2.length=m:=by
 simp only[gU,Bool.and_eq_true,Bool.or_eq_true,beq_iff_eq,List.any_eq_true] at h
 rcases h.1 with h | ⟨t,ht,h1,h2⟩
 ·exact Or.inl h
 ·exact Or.inr ⟨t,ht,h1,h2.symm⟩
theorem Pe{op:List UInt8}{t:List UInt8×Nat×List Nat}(ht:t∈jQ)(h:op=t.1)(n:Int)(s:List UInt8):gU op n s t.2.2.length=(if op==xC then decide (0≤n)&&decide (n≤127)&&s==[] else if op==y9||op==oV then n==0 else n==0&&s==[]):=by
 have h1:(op==oV||jQ.any fun u=>op==u.1&&t.2.2.length==u.2.2.length)=true:=by
  simp only[Bool.or_eq_true,List.any_eq_true]
  exact Or.inr ⟨t,ht,by simp [h]⟩
 unfold gU
 rw[h1,Bool.true_and]
theorem KH{t u:List UInt8×Nat×List Nat}(ht:t∈jQ)(hu:u∈jQ)(h:t.1=u.1):t=u:=(by decide:∀t∈jQ,∀u∈jQ,t.1=u.1→t=u) t ht u hu h
theorem Pd{op:List UInt8}{t:List UInt8×Nat×List Nat}{m:Nat}(ht:t∈jQ)(h:op=t.1)(hc:op≠oV)(hm:m≠t.2.2.length)(n:Int)(s:List UInt8):gU op n s m=false:=by
 cases hB:gU op n s m with
 | false=>rfl
 | true=>
  rcases Ca hB with h1 | ⟨u,hu,h1,h2⟩
  ·exact absurd h1 hc
  ·have:=KH ht hu (h.symm.trans h1)
   subst this
   exact absurd h2.symm hm
theorem Pb{op:List UInt8}(hc:op≠oV)(h:¬∃t∈jQ,op=t.1)(n:Int)(s:List UInt8)(m:Nat):gU op n s m=false:=by
 cases hB:gU op n s m with
 | false=>rfl
 | true=>
  rcases Ca hB with h1 | ⟨u,hu,h1,_⟩
  ·exact absurd h1 hc
  ·exact absurd ⟨u,hu,h1⟩ h
theorem O9(op:ByteArray)(n:Int)(s:ByteArray)(o:Option Addr)(m c:Nat)(w:World)(hm:m≤maxLen) :
  Calls Tryz.prog 170 #[.agg #[.string op,.int .i64 n,.string s,.slice o m c]] w fun e w'=>Bw w w'∧e=.returned (.bool (gU op.toList n s.toList m)):=by
 unfold maxLen at hm
 obtain⟨fb,hfb⟩:∃fb,fb=gU op.toList n s.toList m:=⟨_,rfl⟩
 rw[←hfb]
 have HF:=aA hfb
 clear hfb
 have hbA:Bw w (w.alloc (rW op n s (.slice o m c))):=aH
 have HA:Hid _:=heap_alloc_new w (rW op n s (.slice o m c))
 by_cases hc:op.toList=oV
 ·have hc':op.toList=[99,97,108,108]:=hc
  have HNO:Hid (∀t∈jQ,(op.toList==t.1)=false):=by
   show ∀t∈jQ,(op.toList==t.1)=false
   rw[hc];decide
  have HE:Hid (gU op.toList n s.toList m=(n==0)):=by
   show gU op.toList n s.toList m=(n==0)
   rw[hc];simp [gU,oV,xC,y9]
  clear hc
  by_cases hn:n=0
  ·subst hn
   go_enter Tryz.func170,Tryz.ntmps170
   go_wp2_with fail
   refine(Bf op _ HNO.out).mono ?_
   rintro e w1 ⟨rfl,hb1⟩
   obtain⟨a0,a1,a2,a3,_⟩:=jK (aN hb1 HA.out)
   have hl1:w.heap.size<w1.heap.size:=l9 a0
   go_wp2
   exact bodyPost_ret (v:=.bool true) (by simp [results,Tryz.results170,go_sem]) rfl ⟨(hbA.trans (hb1.mono (by simp))).alloc (by omega) _,by rw[HF.out,HE.out];rfl⟩
  ·have hn':(n==0)=false:=by simpa using hn
   clear hn
   go_enter Tryz.func170,Tryz.ntmps170
   go_wp2_with fail
   refine(Bf op _ HNO.out).mono ?_
   rintro e w1 ⟨rfl,hb1⟩
   obtain⟨a0,a1,a2,a3,_⟩:=jK (aN hb1 HA.out)
   have hl1:w.heap.size<w1.heap.size:=l9 a0
   go_wp2
   exact bodyPost_ret (v:=.bool false) (by simp [results,Tryz.results170,go_sem]) rfl ⟨(hbA.trans (hb1.mono (by simp))).alloc (by omega) _,by rw[HF.out,HE.out,hn']⟩
 ·have hc':(op.toList==[99,97,108,108])=false:=by simpa [oV] using hc
  by_cases hin:∃t∈jQ,op.toList=t.1
  ·obtain⟨t,ht,hop⟩:=hin
   have HOP:=aA hop
   have hpl:=(by decide:∀t∈jQ,t.2.2.length≤3) t ht
   by_cases hl:m=t.2.2.length
   ·subst hl
    have HE:Hid _:=Pe ht hop n s.toList
    by_cases hi:op.toList=[105,110,116]
    ·have HI:Hid (gU op.toList n s.toList t.2.2.length=(decide (0≤n)&&decide (n≤127)&&s.toList==[])):=by
      show gU op.toList n s.toList t.2.2.length=_
      rw[HE.out,hi];rfl
     clear hop hc hc'
     by_cases h0:0≤n
     ·by_cases h1:n≤127
      ·by_cases hs:s.toList=[]
       ·
        go_enter Tryz.func170,Tryz.ntmps170
        go_wp2_with fail
        refine(qE op _ t ht HOP.out).mono ?_
        rintro e w1 ⟨hb1,so,sc,rfl,_⟩
        obtain⟨a0,a1,a2,a3,_⟩:=jK (aN hb1 HA.out)
        have hl1:w.heap.size<w1.heap.size:=l9 a0
        go_wp2
        exact bodyPost_ret (v:=.bool true) (by simp [results,Tryz.results170,go_sem]) rfl ⟨(hbA.trans (hb1.mono (by simp))).alloc (by omega) _,by rw[HF.out,HI.out];simp [h0,h1,hs]⟩
       ·have hs':(s.toList==[])=false:=by simpa using hs
        go_enter Tryz.func170,Tryz.ntmps170
        go_wp2_with fail
        refine(qE op _ t ht HOP.out).mono ?_
        rintro e w1 ⟨hb1,so,sc,rfl,_⟩
        obtain⟨a0,a1,a2,a3,_⟩:=jK (aN hb1 HA.out)
        have hl1:w.heap.size<w1.heap.size:=l9 a0
        go_wp2
        exact bodyPost_ret (v:=.bool false) (by simp [results,Tryz.results170,go_sem]) rfl ⟨(hbA.trans (hb1.mono (by simp))).alloc (by omega) _,by rw[HF.out,HI.out,hs',Bool.and_false]⟩
      ·have h1':¬(n≤127):=h1
       go_enter Tryz.func170,Tryz.ntmps170
       go_wp2_with fail
       refine(qE op _ t ht HOP.out).mono ?_
       rintro e w1 ⟨hb1,so,sc,rfl,_⟩
       obtain⟨a0,a1,a2,a3,_⟩:=jK (aN hb1 HA.out)
       have hl1:w.heap.size<w1.heap.size:=l9 a0
       go_wp2
       exact bodyPost_ret (v:=.bool false) (by simp [results,Tryz.results170,go_sem]) rfl ⟨(hbA.trans (hb1.mono (by simp))).alloc (by omega) _,by rw[HF.out,HI.out,decide_eq_false (show ¬n≤127 by omega)];simp⟩
     ·have h0':¬(0≤n):=h0
      go_enter Tryz.func170,Tryz.ntmps170
      go_wp2_with fail
      refine(qE op _ t ht HOP.out).mono ?_
      rintro e w1 ⟨hb1,so,sc,rfl,_⟩
      obtain⟨a0,a1,a2,a3,_⟩:=jK (aN hb1 HA.out)
      have hl1:w.heap.size<w1.heap.size:=l9 a0
      go_wp2
      exact bodyPost_ret (v:=.bool false) (by simp [results,Tryz.results170,go_sem]) rfl ⟨(hbA.trans (hb1.mono (by simp))).alloc (by omega) _,by rw[HF.out,HI.out,decide_eq_false (show ¬0≤n by omega)];simp⟩
    ·have hi':(op.toList==[105,110,116])=false:=by simpa using hi
     by_cases hnm:op.toList=[110,97,109,101]
     ·have HI:Hid (gU op.toList n s.toList t.2.2.length=(n==0)):=by
       show gU op.toList n s.toList t.2.2.length=_
       rw[HE.out,hnm];rfl
      clear hop hc hc' hi hi'
      by_cases hn:n=0
      ·subst hn
       go_enter Tryz.func170,Tryz.ntmps170
       go_wp2_with fail
       refine(qE op _ t ht HOP.out).mono ?_
       rintro e w1 ⟨hb1,so,sc,rfl,_⟩
       obtain⟨a0,a1,a2,a3,_⟩:=jK (aN hb1 HA.out)
       have hl1:w.heap.size<w1.heap.size:=l9 a0
       go_wp2
       exact bodyPost_ret (v:=.bool true) (by simp [results,Tryz.results170,go_sem]) rfl ⟨(hbA.trans (hb1.mono (by simp))).alloc (by omega) _,by rw[HF.out,HI.out];rfl⟩
      ·have hn':(n==0)=false:=by simpa using hn
       clear hn
       go_enter Tryz.func170,Tryz.ntmps170
       go_wp2_with fail
       refine(qE op _ t ht HOP.out).mono ?_
       rintro e w1 ⟨hb1,so,sc,rfl,_⟩
       obtain⟨a0,a1,a2,a3,_⟩:=jK (aN hb1 HA.out)
       have hl1:w.heap.size<w1.heap.size:=l9 a0
       go_wp2
       exact bodyPost_ret (v:=.bool false) (by simp [results,Tryz.results170,go_sem]) rfl ⟨(hbA.trans (hb1.mono (by simp))).alloc (by omega) _,by rw[HF.out,HI.out,hn']⟩
     ·have hnm':(op.toList==[110,97,109,101])=false:=by simpa using hnm
      have HI:Hid (gU op.toList n s.toList t.2.2.length=(n==0&&s.toList==[])):=by
       show gU op.toList n s.toList t.2.2.length=_
       rw[HE.out]
       have e1:(op.toList==xC)=false:=hi'
       have e2:(op.toList==y9)=false:=hnm'
       have e3:(op.toList==oV)=false:=hc'
       simp [e1,e2,e3]
      clear hop hc hi hnm
      by_cases hn:n=0
      ·subst hn
       by_cases hs:s.toList=[]
       ·
        go_enter Tryz.func170,Tryz.ntmps170
        go_wp2_with fail
        refine(qE op _ t ht HOP.out).mono ?_
        rintro e w1 ⟨hb1,so,sc,rfl,_⟩
        obtain⟨a0,a1,a2,a3,_⟩:=jK (aN hb1 HA.out)
        have hl1:w.heap.size<w1.heap.size:=l9 a0
        go_wp2
        exact bodyPost_ret (v:=.bool true) (by simp [results,Tryz.results170,go_sem]) rfl ⟨(hbA.trans (hb1.mono (by simp))).alloc (by omega) _,by rw[HF.out,HI.out];simp [hs]⟩
       ·have hs':(s.toList==[])=false:=by simpa using hs
        go_enter Tryz.func170,Tryz.ntmps170
        go_wp2_with fail
        refine(qE op _ t ht HOP.out).mono ?_
        rintro e w1 ⟨hb1,so,sc,rfl,_⟩
        obtain⟨a0,a1,a2,a3,_⟩:=jK (aN hb1 HA.out)
        have hl1:w.heap.size<w1.heap.size:=l9 a0
        go_wp2
        exact bodyPost_ret (v:=.bool false) (by simp [results,Tryz.results170,go_sem]) rfl ⟨(hbA.trans (hb1.mono (by simp))).alloc (by omega) _,by rw[HF.out,HI.out,hs',Bool.and_false]⟩
      ·have hn':(n==0)=false:=by simpa using hn
       clear hn
       go_enter Tryz.func170,Tryz.ntmps170
       go_wp2_with fail
       refine(qE op _ t ht HOP.out).mono ?_
       rintro e w1 ⟨hb1,so,sc,rfl,_⟩
       obtain⟨a0,a1,a2,a3,_⟩:=jK (aN hb1 HA.out)
       have hl1:w.heap.size<w1.heap.size:=l9 a0
       go_wp2
       exact bodyPost_ret (v:=.bool false) (by simp [results,Tryz.results170,go_sem]) rfl ⟨(hbA.trans (hb1.mono (by simp))).alloc (by omega) _,by rw[HF.out,HI.out,hn',Bool.false_and]⟩
   ·have hl':((m:Int)==(t.2.2.length:Int))=false:=by simp;omega
    have HE:Hid _:=Pd ht hop hc hl n s.toList
    clear hop hc hl
    go_enter Tryz.func170,Tryz.ntmps170
    go_wp2_with fail
    refine(qE op _ t ht HOP.out).mono ?_
    rintro e w1 ⟨hb1,so,sc,rfl,_⟩
    obtain⟨a0,a1,a2,a3,_⟩:=jK (aN hb1 HA.out)
    have hl1:w.heap.size<w1.heap.size:=l9 a0
    go_wp2
    exact bodyPost_ret (v:=.bool false) (by simp [results,Tryz.results170,go_sem]) rfl ⟨(hbA.trans (hb1.mono (by simp))).alloc (by omega) _,by rw[HF.out,HE.out]⟩
  ·have HNO:Hid (∀t∈jQ,(op.toList==t.1)=false):=by
    show ∀t∈jQ,(op.toList==t.1)=false
    intro t ht
    simp only[beq_eq_false_iff_ne]
    exact fun e=>hin ⟨t,ht,e⟩
   have HE:Hid _:=Pb hc hin n s.toList m
   clear hc hin
   go_enter Tryz.func170,Tryz.ntmps170
   go_wp2_with fail
   refine(Bf op _ HNO.out).mono ?_
   rintro e w1 ⟨rfl,hb1⟩
   obtain⟨a0,a1,a2,a3,_⟩:=jK (aN hb1 HA.out)
   have hl1:w.heap.size<w1.heap.size:=l9 a0
   go_wp2
   exact bodyPost_ret (v:=.bool false) (by simp [results,Tryz.results170,go_sem]) rfl ⟨(hbA.trans (hb1.mono (by simp))).alloc (by omega) _,by rw[HF.out,HE.out]⟩
end Go.Proofs.YtmgfakcccfahaaaGreatDoor
