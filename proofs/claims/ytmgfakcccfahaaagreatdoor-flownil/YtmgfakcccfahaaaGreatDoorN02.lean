/-
  TERMS, IN PLAIN MATHEMATICS.
-/
import Derived.Test.YtmgfakcccfahaaaGreatDoorN01
import Derived.Deep.Cut
import Derived.Laws.AppendOwn
import Derived.Laws.Rows
import Derived.OwnWalk
import Derived.Deep.RegionHeld
namespace Go.Proofs.YtmgfakcccfahaaaGreatDoor
inductive Ex where
 | mk (op:ByteArray) (n:Int) (s:ByteArray) (l:List Ex)
def Ex.op:Ex→ByteArray | .mk op _ _ _=>op
def Ex.n:Ex→Int | .mk _ n _ _=>n
def Ex.s:Ex→ByteArray | .mk _ _ s _=>s
def Ex.l:Ex→List Ex | .mk _ _ _ l=>l
end Go.Proofs.YtmgfakcccfahaaaGreatDoor
namespace Go.Proofs.YtmgfakcccfahaaaGreatDoor
open Go.RowKit Go.Maps
set_option maxRecDepth 100000
set_option maxHeartbeats 4000000

def qW(B C:Nat):List UInt8→Option Value:=bL (bL (bL (bL (bL (bL (bL (bL (bL (bL (bL (bL (bL (bL (bL (bL (bL (bL (bL (bL (bL (bL (bL (bL (jJ) [105,110,116] (.agg #[.slice none 0 0,.slice (some ⟨B+1+1+1+1,0,none⟩) 1 1])) [116,114,117,101] (.agg #[.slice none 0 0,.slice (some ⟨B+1+1,0,none⟩) 1 1])) [102,97,108,115,101] (.agg #[.slice none 0 0,.slice (some ⟨B+1+1,0,none⟩) 1 1])) [110,111,116] (.agg #[.slice (some ⟨B+1+1,0,none⟩) 1 1,.slice (some ⟨B+1+1,0,none⟩) 1 1])) [97,110,100] (.agg #[.slice (some ⟨B+1+1+1,0,none⟩) 2 2,.slice (some ⟨B+1+1,0,none⟩) 1 1])) [111,114] (.agg #[.slice (some ⟨B+1+1+1,0,none⟩) 2 2,.slice (some ⟨B+1+1,0,none⟩) 1 1])) [120,111,114] (.agg #[.slice (some ⟨B+1+1+1,0,none⟩) 2 2,.slice (some ⟨B+1+1,0,none⟩) 1 1])) [61,62] (.agg #[.slice (some ⟨B+1+1+1,0,none⟩) 2 2,.slice (some ⟨B+1+1,0,none⟩) 1 1])) [110,101,103] (.agg #[.slice (some ⟨B+1+1+1+1,0,none⟩) 1 1,.slice (some ⟨B+1+1+1+1,0,none⟩) 1 1])) [43] (.agg #[.slice (some ⟨B+1+1+1+1+1,0,none⟩) 2 2,.slice (some ⟨B+1+1+1+1,0,none⟩) 1 1])) [45] (.agg #[.slice (some ⟨B+1+1+1+1+1,0,none⟩) 2 2,.slice (some ⟨B+1+1+1+1,0,none⟩) 1 1])) [42] (.agg #[.slice (some ⟨B+1+1+1+1+1,0,none⟩) 2 2,.slice (some ⟨B+1+1+1+1,0,none⟩) 1 1])) [47] (.agg #[.slice (some ⟨B+1+1+1+1+1,0,none⟩) 2 2,.slice (some ⟨B+1+1+1+1,0,none⟩) 1 1])) [109,111,100] (.agg #[.slice (some ⟨B+1+1+1+1+1,0,none⟩) 2 2,.slice (some ⟨B+1+1+1+1,0,none⟩) 1 1])) [60] (.agg #[.slice (some ⟨B+1+1+1+1+1,0,none⟩) 2 2,.slice (some ⟨B+1+1,0,none⟩) 1 1])) [60,61] (.agg #[.slice (some ⟨B+1+1+1+1+1,0,none⟩) 2 2,.slice (some ⟨B+1+1,0,none⟩) 1 1])) [62] (.agg #[.slice (some ⟨B+1+1+1+1+1,0,none⟩) 2 2,.slice (some ⟨B+1+1,0,none⟩) 1 1])) [62,61] (.agg #[.slice (some ⟨B+1+1+1+1+1,0,none⟩) 2 2,.slice (some ⟨B+1+1,0,none⟩) 1 1])) [61] (.agg #[.slice (some ⟨B+1,0,none⟩) 2 2,.slice (some ⟨B+1+1,0,none⟩) 1 1])) [60,62] (.agg #[.slice (some ⟨B+1,0,none⟩) 2 2,.slice (some ⟨B+1+1,0,none⟩) 1 1])) [112,114,101] (.agg #[.slice (some ⟨B,0,none⟩) 1 1,.slice (some ⟨B,0,none⟩) 1 1])) [45,62] (.agg #[.slice (some ⟨B+1,0,none⟩) 2 2,.slice (some ⟨B,0,none⟩) 1 1])) [102,98,121] (.agg #[.slice (some ⟨B+1,0,none⟩) 2 2,.slice (some ⟨B,0,none⟩) 1 1])) [105,102] (.agg #[.slice (some ⟨C,0,none⟩) 3 3,.slice (some ⟨B,0,none⟩) 1 1])
structure tF(B C:Nat)(w:World):Prop where
 r0:w.heap[B]?=some (.cells #[.int .i64 0] 3 (0,0))
 r1:w.heap[B+1]?=some (.cells #[.int .i64 0,.int .i64 0] 3 (0,0))
 r2:w.heap[B+1+1]?=some (.cells #[.int .i64 1] 3 (0,0))
 r3:w.heap[B+1+1+1]?=some (.cells #[.int .i64 1,.int .i64 1] 3 (0,0))
 r4:w.heap[B+1+1+1+1]?=some (.cells #[.int .i64 2] 3 (0,0))
 r5:w.heap[B+1+1+1+1+1]?=some (.cells #[.int .i64 2,.int .i64 2] 3 (0,0))
 r6:w.heap[C]?=some (.cells #[.int .i64 1,.int .i64 0,.int .i64 0] 3 (0,0))
 lo:B≤C
theorem tF.below{B C:Nat}{w w':World}(h:tF B C w)(hb:Bw w w'):tF B C w':=⟨aN hb h.r0,aN hb h.r1,aN hb h.r2,aN hb h.r3,aN hb h.r4,aN hb h.r5,aN hb h.r6,h.lo⟩
theorem J8(w:World):Calls Tryz.prog 121 #[] w fun e w'=>∃M C,e=.returned (.map (some M))∧aO w' M 24 (qW w.heap.size C)∧Bw w w'∧tF w.heap.size C w':=by
 have hmm:=@run_makeMap Tryz.prog
 go_enter Tryz.func121,Tryz.ntmps121
 go_upto_region 4 with fail
 obtain⟨w6,hw6⟩:∃w6,w6=((((((w.alloc (.cells #[.int .i64 0] 3)).alloc (.cells #[.int .i64 0,.int .i64 0] 3)).alloc (.cells #[.int .i64 1] 3)).alloc (.cells #[.int .i64 1,.int .i64 1] 3)).alloc (.cells #[.int .i64 2] 3)).alloc (.cells #[.int .i64 2,.int .i64 2] 3)):=⟨_,rfl⟩
 have S6:Hid (w6.heap.size=w.heap.size+6):=by unfold Hid;rw[hw6];simp
 have B6:Hid (Bw w w6):=by unfold Hid;rw[hw6];exact(((((aH).alloc (by simp<;>omega) _).alloc (by simp<;>omega) _).alloc (by simp<;>omega) _).alloc (by simp<;>omega) _).alloc (by simp<;>omega) _
 have R0:Hid (w6.heap[w.heap.size]?=some (.cells #[.int .i64 0] 3 (0,0))):=by
  have h:=heap_alloc_new w (.cells #[.int .i64 0] 3)
  unfold Hid
  rw[hw6]
  exact(kV _ (kV _ (kV _ (kV _ (kV _ h)))))
 have R1:Hid (w6.heap[w.heap.size+1]?=some (.cells #[.int .i64 0,.int .i64 0] 3 (0,0))):=by
  have h:=heap_alloc_new (w.alloc (.cells #[.int .i64 0] 3)) (.cells #[.int .i64 0,.int .i64 0] 3)
  have e:(w.alloc (.cells #[.int .i64 0] 3)).heap.size=w.heap.size+1:=by simp
  rw[e] at h
  unfold Hid
  rw[hw6]
  exact(kV _ (kV _ (kV _ (kV _ h))))
 have R2:Hid (w6.heap[w.heap.size+1+1]?=some (.cells #[.int .i64 1] 3 (0,0))):=by
  have h:=heap_alloc_new ((w.alloc (.cells #[.int .i64 0] 3)).alloc (.cells #[.int .i64 0,.int .i64 0] 3)) (.cells #[.int .i64 1] 3)
  have e:((w.alloc (.cells #[.int .i64 0] 3)).alloc (.cells #[.int .i64 0,.int .i64 0] 3)).heap.size=w.heap.size+1+1:=by simp
  rw[e] at h
  unfold Hid
  rw[hw6]
  exact(kV _ (kV _ (kV _ h)))
 have R3:Hid (w6.heap[w.heap.size+1+1+1]?=some (.cells #[.int .i64 1,.int .i64 1] 3 (0,0))):=by
  have h:=heap_alloc_new (((w.alloc (.cells #[.int .i64 0] 3)).alloc (.cells #[.int .i64 0,.int .i64 0] 3)).alloc (.cells #[.int .i64 1] 3)) (.cells #[.int .i64 1,.int .i64 1] 3)
  have e:(((w.alloc (.cells #[.int .i64 0] 3)).alloc (.cells #[.int .i64 0,.int .i64 0] 3)).alloc (.cells #[.int .i64 1] 3)).heap.size=w.heap.size+1+1+1:=by simp
  rw[e] at h
  unfold Hid
  rw[hw6]
  exact(kV _ (kV _ h))
 have R4:Hid (w6.heap[w.heap.size+1+1+1+1]?=some (.cells #[.int .i64 2] 3 (0,0))):=by
  have h:=heap_alloc_new ((((w.alloc (.cells #[.int .i64 0] 3)).alloc (.cells #[.int .i64 0,.int .i64 0] 3)).alloc (.cells #[.int .i64 1] 3)).alloc (.cells #[.int .i64 1,.int .i64 1] 3)) (.cells #[.int .i64 2] 3)
  have e:((((w.alloc (.cells #[.int .i64 0] 3)).alloc (.cells #[.int .i64 0,.int .i64 0] 3)).alloc (.cells #[.int .i64 1] 3)).alloc (.cells #[.int .i64 1,.int .i64 1] 3)).heap.size=w.heap.size+1+1+1+1:=by simp
  rw[e] at h
  unfold Hid
  rw[hw6]
  exact(kV _ h)
 have R5:Hid (w6.heap[w.heap.size+1+1+1+1+1]?=some (.cells #[.int .i64 2,.int .i64 2] 3 (0,0))):=by
  have h:=heap_alloc_new (((((w.alloc (.cells #[.int .i64 0] 3)).alloc (.cells #[.int .i64 0,.int .i64 0] 3)).alloc (.cells #[.int .i64 1] 3)).alloc (.cells #[.int .i64 1,.int .i64 1] 3)).alloc (.cells #[.int .i64 2] 3)) (.cells #[.int .i64 2,.int .i64 2] 3)
  have e:(((((w.alloc (.cells #[.int .i64 0] 3)).alloc (.cells #[.int .i64 0,.int .i64 0] 3)).alloc (.cells #[.int .i64 1] 3)).alloc (.cells #[.int .i64 1,.int .i64 1] 3)).alloc (.cells #[.int .i64 2] 3)).heap.size=w.heap.size+1+1+1+1+1:=by simp
  rw[e] at h
  unfold Hid
  rw[hw6]
  exact h
 have H0:Hid (aO (w6.alloc (.map #[] 0)) w6.heap.size 0 jJ):=aO.made w6
 rw[←hw6]
 clear hw6
 have h0:=H0.out
 obtain⟨v1,e1,h1,g1⟩:=h0.put Tryz.underlying208 (by decide) ⟨#[105,110,116]⟩ (by decide) (.agg #[.slice none 0 0,.slice (some ⟨w.heap.size+1+1+1+1,0,none⟩) 1 1])
 obtain⟨v2,e2,h2,g2⟩:=h1.put Tryz.underlying208 (by decide) ⟨#[116,114,117,101]⟩ (by decide) (.agg #[.slice none 0 0,.slice (some ⟨w.heap.size+1+1,0,none⟩) 1 1])
 obtain⟨v3,e3,h3,g3⟩:=h2.put Tryz.underlying208 (by decide) ⟨#[102,97,108,115,101]⟩ (by decide) (.agg #[.slice none 0 0,.slice (some ⟨w.heap.size+1+1,0,none⟩) 1 1])
 obtain⟨v4,e4,h4,g4⟩:=h3.put Tryz.underlying208 (by decide) ⟨#[110,111,116]⟩ (by decide) (.agg #[.slice (some ⟨w.heap.size+1+1,0,none⟩) 1 1,.slice (some ⟨w.heap.size+1+1,0,none⟩) 1 1])
 obtain⟨v5,e5,h5,g5⟩:=h4.put Tryz.underlying208 (by decide) ⟨#[97,110,100]⟩ (by decide) (.agg #[.slice (some ⟨w.heap.size+1+1+1,0,none⟩) 2 2,.slice (some ⟨w.heap.size+1+1,0,none⟩) 1 1])
 obtain⟨v6,e6,h6,g6⟩:=h5.put Tryz.underlying208 (by decide) ⟨#[111,114]⟩ (by decide) (.agg #[.slice (some ⟨w.heap.size+1+1+1,0,none⟩) 2 2,.slice (some ⟨w.heap.size+1+1,0,none⟩) 1 1])
 obtain⟨v7,e7,h7,g7⟩:=h6.put Tryz.underlying208 (by decide) ⟨#[120,111,114]⟩ (by decide) (.agg #[.slice (some ⟨w.heap.size+1+1+1,0,none⟩) 2 2,.slice (some ⟨w.heap.size+1+1,0,none⟩) 1 1])
 obtain⟨v8,e8,h8,g8⟩:=h7.put Tryz.underlying208 (by decide) ⟨#[61,62]⟩ (by decide) (.agg #[.slice (some ⟨w.heap.size+1+1+1,0,none⟩) 2 2,.slice (some ⟨w.heap.size+1+1,0,none⟩) 1 1])
 obtain⟨v9,e9,h9,g9⟩:=h8.put Tryz.underlying208 (by decide) ⟨#[110,101,103]⟩ (by decide) (.agg #[.slice (some ⟨w.heap.size+1+1+1+1,0,none⟩) 1 1,.slice (some ⟨w.heap.size+1+1+1+1,0,none⟩) 1 1])
 obtain⟨v10,e10,h10,g10⟩:=h9.put Tryz.underlying208 (by decide) ⟨#[43]⟩ (by decide) (.agg #[.slice (some ⟨w.heap.size+1+1+1+1+1,0,none⟩) 2 2,.slice (some ⟨w.heap.size+1+1+1+1,0,none⟩) 1 1])
 obtain⟨v11,e11,h11,g11⟩:=h10.put Tryz.underlying208 (by decide) ⟨#[45]⟩ (by decide) (.agg #[.slice (some ⟨w.heap.size+1+1+1+1+1,0,none⟩) 2 2,.slice (some ⟨w.heap.size+1+1+1+1,0,none⟩) 1 1])
 obtain⟨v12,e12,h12,g12⟩:=h11.put Tryz.underlying208 (by decide) ⟨#[42]⟩ (by decide) (.agg #[.slice (some ⟨w.heap.size+1+1+1+1+1,0,none⟩) 2 2,.slice (some ⟨w.heap.size+1+1+1+1,0,none⟩) 1 1])
 obtain⟨v13,e13,h13,g13⟩:=h12.put Tryz.underlying208 (by decide) ⟨#[47]⟩ (by decide) (.agg #[.slice (some ⟨w.heap.size+1+1+1+1+1,0,none⟩) 2 2,.slice (some ⟨w.heap.size+1+1+1+1,0,none⟩) 1 1])
 obtain⟨v14,e14,h14,g14⟩:=h13.put Tryz.underlying208 (by decide) ⟨#[109,111,100]⟩ (by decide) (.agg #[.slice (some ⟨w.heap.size+1+1+1+1+1,0,none⟩) 2 2,.slice (some ⟨w.heap.size+1+1+1+1,0,none⟩) 1 1])
 obtain⟨v15,e15,h15,g15⟩:=h14.put Tryz.underlying208 (by decide) ⟨#[60]⟩ (by decide) (.agg #[.slice (some ⟨w.heap.size+1+1+1+1+1,0,none⟩) 2 2,.slice (some ⟨w.heap.size+1+1,0,none⟩) 1 1])
 obtain⟨v16,e16,h16,g16⟩:=h15.put Tryz.underlying208 (by decide) ⟨#[60,61]⟩ (by decide) (.agg #[.slice (some ⟨w.heap.size+1+1+1+1+1,0,none⟩) 2 2,.slice (some ⟨w.heap.size+1+1,0,none⟩) 1 1])
 obtain⟨v17,e17,h17,g17⟩:=h16.put Tryz.underlying208 (by decide) ⟨#[62]⟩ (by decide) (.agg #[.slice (some ⟨w.heap.size+1+1+1+1+1,0,none⟩) 2 2,.slice (some ⟨w.heap.size+1+1,0,none⟩) 1 1])
 obtain⟨v18,e18,h18,g18⟩:=h17.put Tryz.underlying208 (by decide) ⟨#[62,61]⟩ (by decide) (.agg #[.slice (some ⟨w.heap.size+1+1+1+1+1,0,none⟩) 2 2,.slice (some ⟨w.heap.size+1+1,0,none⟩) 1 1])
 obtain⟨v19,e19,h19,g19⟩:=h18.put Tryz.underlying208 (by decide) ⟨#[61]⟩ (by decide) (.agg #[.slice (some ⟨w.heap.size+1,0,none⟩) 2 2,.slice (some ⟨w.heap.size+1+1,0,none⟩) 1 1])
 obtain⟨v20,e20,h20,g20⟩:=h19.put Tryz.underlying208 (by decide) ⟨#[60,62]⟩ (by decide) (.agg #[.slice (some ⟨w.heap.size+1,0,none⟩) 2 2,.slice (some ⟨w.heap.size+1+1,0,none⟩) 1 1])
 obtain⟨v21,e21,h21,g21⟩:=h20.put Tryz.underlying208 (by decide) ⟨#[112,114,101]⟩ (by decide) (.agg #[.slice (some ⟨w.heap.size,0,none⟩) 1 1,.slice (some ⟨w.heap.size,0,none⟩) 1 1])
 obtain⟨v22,e22,h22,g22⟩:=h21.put Tryz.underlying208 (by decide) ⟨#[45,62]⟩ (by decide) (.agg #[.slice (some ⟨w.heap.size+1,0,none⟩) 2 2,.slice (some ⟨w.heap.size,0,none⟩) 1 1])
 obtain⟨v23,e23,h23,g23⟩:=h22.put Tryz.underlying208 (by decide) ⟨#[102,98,121]⟩ (by decide) (.agg #[.slice (some ⟨w.heap.size+1,0,none⟩) 2 2,.slice (some ⟨w.heap.size,0,none⟩) 1 1])
 obtain⟨v24,e24,h24,g24⟩:=(h23.kept (Below.heap_alloc v23 (.cells #[.int .i64 1,.int .i64 0,.int .i64 0] 3) _ h23.lt)).put Tryz.underlying208 (by decide) ⟨#[105,102]⟩ (by decide) (.agg #[.slice (some ⟨v23.heap.size,0,none⟩) 3 3,.slice (some ⟨w.heap.size,0,none⟩) 1 1])
 have k1:=g1
 have k2:=dK k1 g2
 have k3:=dK k2 g3
 have k4:=dK k3 g4
 have k5:=dK k4 g5
 have k6:=dK k5 g6
 have k7:=dK k6 g7
 have k8:=dK k7 g8
 have k9:=dK k8 g9
 have k10:=dK k9 g10
 have k11:=dK k10 g11
 have k12:=dK k11 g12
 have k13:=dK k12 g13
 have k14:=dK k13 g14
 have k15:=dK k14 g15
 have k16:=dK k15 g16
 have k17:=dK k16 g17
 have k18:=dK k17 g18
 have k19:=dK k18 g19
 have k20:=dK k19 g20
 have k21:=dK k20 g21
 have k22:=dK k21 g22
 have k23:=dK k22 g23
 have hM:w6.heap.size<v23.heap.size:=h23.lt
 have HC:Hid (v24.heap[v23.heap.size]?=some (.cells #[.int .i64 1,.int .i64 0,.int .i64 0] 3 (0,0))):=gT g24 (fun e=>by have:=Option.some.inj e;omega) (heap_alloc_new _ _)
 have GR:Hid (∀k,k<w6.heap.size→v24.heap[k]?=w6.heap[k]?):=fun k hk=>by
  have hne:some w6.heap.size≠some k:=fun e=>by have:=Option.some.inj e;omega
  rw[g24.block k (by have:=k23.size;simp at this ⊢;omega) (fun e=>hne e.symm),Below.heap_alloc _ _ _ (by have:=k23.size;simp at this;omega),k23.block k (by simp;omega) (fun e=>hne e.symm),Below.heap_alloc _ _ _ hk]
 have SZ:Hid (v23.heap.size+1≤v24.heap.size):=by have:=g24.size;unfold Hid;simpa using this
 have OS:Hid (v24.os=w6.os∧v24.tape=w6.tape∧v24.output=w6.output):=⟨g24.os.trans k23.os,g24.tape.trans k23.tape,g24.output.trans k23.output⟩
 have HM:=aA hM
 have HF:=aA h24
 clear h0 h1 h2 h3 h4 h5 h6 h7 h8 h9 h10 h11 h12 h13 h14 h15 h16 h17 h18 h19 h20 h21 h22 h23 h24 H0 g1 g2 g3 g4 g5 g6 g7 g8 g9 g10 g11 g12 g13 g14 g15 g16 g17 g18 g19 g20 g21 g22 g23 g24 k1 k2 k3 k4 k5 k6 k7 k8 k9 k10 k11 k12 k13 k14 k15 k16 k17 k18 k19 k20 k21 k22 k23 hM
 go_wp2
 go_ret
 have s6:=S6.out
 refine⟨w6.heap.size,rfl,v23.heap.size,HF.out,⟨OS.out.1.trans B6.out.os,OS.out.2.1.trans B6.out.tape,OS.out.2.2.trans B6.out.output,by have:=SZ.out;have:=HM.out;omega,fun k hk=>by rw[GR.out k (by omega)];exact B6.out.block k hk⟩,⟨?_,?_,?_,?_,?_,?_,HC.out,by have:=HM.out;omega⟩⟩
 ·rw[GR.out _ (by omega)];exact R0.out
 ·rw[GR.out _ (by omega)];exact R1.out
 ·rw[GR.out _ (by omega)];exact R2.out
 ·rw[GR.out _ (by omega)];exact R3.out
 ·rw[GR.out _ (by omega)];exact R4.out
 ·rw[GR.out _ (by omega)];exact R5.out
def dP(w:World)(v:Value)(l:List Int):Prop:=l.length≤maxLen∧∃o c,v=.slice o l.length c∧∀k x,l[k]?=some x→∃b off,o=some ⟨b,off,none⟩∧w.cell? ⟨b,off+k,none⟩=some (.int .i64 x)
theorem BU{w w':World}{row:Option Nat}(hg:w.grownBy w' row){b:Nat}{o:Obj}(hne:row≠some b)(h:w.heap[b]?=some o):w'.heap[b]?=some o:=by
 rw[hg.block b (bN h).1 (fun e=>hne e.symm)];exact h
theorem tC{w:World}(o:Obj){k:Nat}{x:Obj}(h:w.heap[k]?=some x):(w.alloc o).heap[k]?=some x:=by
 rw[Below.heap_alloc w o k (bN h).1];exact h
end Go.Proofs.YtmgfakcccfahaaaGreatDoor
namespace Go.Proofs.YtmgfakcccfahaaaGreatDoor
open Go.RowKit
def aB(w:World)(S:Nat→Prop)(size:Nat)(v:Value)(n:Nat)(xs:List Value):Prop:=
 xs.length=n*size∧n≤maxLen∧∃o c,v=.slice o n c∧(∀k x,xs[k]?=some x→∃b off,o=some ⟨b,off,none⟩∧S b∧w.cell? ⟨b,off+k,none⟩=some x)∧n≤c
def From(base:Nat):Nat→Prop:=fun b=>base≤b
def aJ(S S':Nat→Prop)(w w':World):Prop:=∀b,S b→b<w.heap.size→S' b∧w'.heap[b]?=w.heap[b]?
theorem l9{w:World}{p:Addr}{v:Value}(hc:w.cell? p=some v):p.block<w.heap.size:=by
 rcases Nat.lt_or_ge p.block w.heap.size with h | h
 ·exact h
 ·simp [World.cell?,Array.getElem?_eq_none h] at hc
theorem aB.keep{w w':World}{S S':Nat→Prop}{size n:Nat}{v:Value}{xs:List Value}(h:aB w S size v n xs)(hs:aJ S S' w w'):aB w' S' size v n xs:=by
 obtain⟨h1,h2,o,c,rfl,h3,h4⟩:=h
 refine⟨h1,h2,o,c,rfl,fun k x hx=>?_,h4⟩
 obtain⟨b,off,rfl,hb,hc⟩:=h3 k x hx
 have hs':=hs b hb (l9 hc)
 exact⟨b,off,rfl,hs'.1,by rw[World.cell?_of_block (w:=w) hs'.2];exact hc⟩
theorem aB.iH{w:World}{base size n:Nat}{e:TypeId}{v:Value}{xs:List Value}(h:w.ownsRow base e size v n xs):aB w (From base) size v n xs:=by
 obtain⟨h1,h2⟩:=h
 rcases h2 with⟨rfl,rfl⟩ | ⟨g,cap,cur,rfl,hg,hh,hc1,hc2,hc3,hc4⟩
 ·have:xs=[]:=List.eq_nil_of_length_eq_zero (by omega)
  subst this
  exact⟨by simp,by unfold maxLen;omega,none,0,rfl,fun k x hx=>by simp at hx,Nat.le_refl _⟩
 ·refine⟨h1,by omega,_,cap,rfl,fun k x hx=>⟨g,0,rfl,hg,?_⟩,hc1⟩
  rw[Nat.zero_add,cell_of_row w g k cur e (0,0) hh]
  rw[←hc4,List.getElem?_take] at hx
  split at hx
  ·simpa using hx
  ·cases hx
theorem aB.at{w:World}{S:Nat→Prop}{size n:Nat}{v:Value}{xs:List Value}(h:aB w S size v n xs)(hp:0<xs.length):∃b off c,v=.slice (some ⟨b,off,none⟩) n c∧S b∧b<w.heap.size∧∀k x,xs[k]?=some x→w.cell? ⟨b,off+k,none⟩=some x:=by
 obtain⟨h1,h2,o,c,rfl,h3,_⟩:=h
 obtain⟨b,off,rfl,hb,hc⟩:=h3 0 xs[0] (List.getElem?_eq_getElem hp)
 refine⟨b,off,c,rfl,hb,l9 hc,fun k x hx=>?_⟩
 obtain⟨b',off',e,_,hc'⟩:=h3 k x hx
 injection e with e;injection e with e1 e2;subst e1 e2
 exact hc'

inductive aQ(w:World)(S:Nat→Prop):List Ex→List Value→Prop
 | nil:aQ w S [] []
 | cons (op:ByteArray) (n:Int) (s:ByteArray) (l es:List Ex) (lv:Value) (xs ys:List Value):aB w S 4 lv l.length xs→aQ w S l xs→aQ w S es ys→aQ w S (.mk op n s l::es) (.string op::.int .i64 n::.string s::lv::ys)
theorem aQ.keep{w w':World}{S S':Nat→Prop}{es:List Ex}{xs:List Value}(h:aQ w S es xs)(hs:aJ S S' w w'):aQ w' S' es xs:=by
 induction h with
 | nil=>exact .nil
 | cons op n s l es lv xs ys h1 _ _ ih1 ih2=>exact .cons op n s l es lv xs ys (h1.keep hs) ih1 ih2
theorem aQ.length{w:World}{S:Nat→Prop}{es:List Ex}{xs:List Value}(h:aQ w S es xs):xs.length=es.length*4:=by
 induction h with
 | nil=>rfl
 | cons op n s l es lv xs ys h1 _ _ _ ih2=>simp only[List.length_cons,ih2];omega
theorem aQ.append{w:World}{S:Nat→Prop}{es fs:List Ex}{xs ys:List Value}(h:aQ w S es xs)(g:aQ w S fs ys):aQ w S (es++fs) (xs++ys):=by
 induction h with
 | nil=>exact g
 | cons op n s l es lv xs ys h1 h2 _ _ ih2=>exact .cons op n s l _ lv xs _ h1 h2 ih2
theorem aQ.one{w:World}{S:Nat→Prop}{e:Ex}{xs:List Value}(h:aQ w S [e] xs):∃op n s l lv ys,e=.mk op n s l∧xs=[.string op,.int .i64 n,.string s,lv]∧aB w S 4 lv l.length ys∧aQ w S l ys:=by
 cases h with
 | cons op n s l es lv xs ys h1 h2 h3=>
  cases h3
  exact⟨op,n,s,l,lv,xs,rfl,rfl,h1,h2⟩
theorem aQ.one'{w:World}{S:Nat→Prop}{e:Ex}{xs:List Value}(h:aQ w S [e] xs):∃op n s l o c ys,e=.mk op n s l∧xs=[.string op,.int .i64 n,.string s,.slice o l.length c]∧aB w S 4 (.slice o l.length c) l.length ys∧aQ w S l ys:=by
 obtain⟨op,n,s,l,lv,ys,rfl,rfl,h1,h2⟩:=h.one
 obtain⟨a1,a2,o,c,rfl,a3⟩:=h1
 exact⟨op,n,s,l,o,c,ys,rfl,rfl,⟨a1,a2,o,c,rfl,a3⟩,h2⟩
def dQ(l:List Ex):List Value:=l.flatMap fun e=>[.string e.op,.int .i64 e.n]
def kS(l:List Ex):List Value:=l.map fun e=>.string e.op
theorem aB.form{w:World}{S:Nat→Prop}{size n:Nat}{v:Value}{xs:List Value}(h:aB w S size v n xs):∃o c,v=.slice o n c:=by
 obtain⟨_,_,o,c,h,_⟩:=h;exact⟨o,c,h⟩

theorem Bj{w:World}{S:Nat→Prop}{size n m:Nat}{o:Option Addr}{c:Nat}{xs:List Value}(h:aB w S size (.slice o m c) n xs)(hn:0<xs.length):∃b off,o=some ⟨b,off,none⟩∧b<w.heap.size∧∀k x,xs[k]?=some x→w.cell? ⟨b,off+k,none⟩=some x:=by
 obtain⟨b,off,c',e,hb,hl,hc⟩:=h.at hn
 injection e with e
 exact⟨b,off,e,hl,hc⟩
theorem aB.cap{w:World}{S:Nat→Prop}{size n c:Nat}{o:Option Addr}{xs:List Value}(h:aB w S size (.slice o n c) n xs):n≤c:=by
 obtain⟨_,_,o',c',e,_,h4⟩:=h
 injection e with e1 e2 e3
 omega
theorem aB.len{w:World}{S:Nat→Prop}{size n:Nat}{v:Value}{xs:List Value}(h:aB w S size v n xs):n≤maxLen:=h.2.1
theorem E9{ns:List Ex}{i:Nat}(hi:i<ns.length):(kS ns)[i]?=some (.string ns[i].op):=by
 simp [kS,hi]
theorem wU:∀{vs:List Ex} {i:Nat} (hi:i<vs.length),(dQ vs)[i*2]?=some (.string vs[i].op)∧(dQ vs)[i*2+1]?=some (.int .i64 vs[i].n)
 | [],i,hi=>by simp at hi
 | v::vs,0,_=>⟨rfl,rfl⟩
 | v::vs,i+1,hi=>by
  have:=wU (vs:=vs) (i:=i) (by simpa using hi)
  have e:dQ (v::vs)=.string v.op::.int .i64 v.n::dQ vs:=rfl
  rw[e,show (i+1)*2=i*2+1+1 from by omega,List.getElem?_cons_succ,List.getElem?_cons_succ,List.getElem?_cons_succ,List.getElem?_cons_succ]
  exact this
theorem yX:∀(vs:List Ex),(dQ vs).length=vs.length*2
 | []=>rfl
 | v::vs=>by have:=yX vs;simp only[dQ,List.flatMap_cons,List.length_append,List.length_cons,List.length_nil] at this ⊢;omega
theorem E8(ns:List Ex):(kS ns).length=ns.length:=by simp [kS]
theorem aQ.at{w:World}{S:Nat→Prop}{l:List Ex}{xs:List Value}(h:aQ w S l xs):∀{i:Nat} (hi:i<l.length),∃op n s es o c ys,l[i]=.mk op n s es∧xs[i*4]?=some (.string op)∧xs[i*4+1]?=some (.int .i64 n)∧xs[i*4+2]?=some (.string s)∧xs[i*4+3]?=some (.slice o es.length c)∧aB w S 4 (.slice o es.length c) es.length ys∧aQ w S es ys:=by
 induction h with
 | nil=>intro i hi;simp at hi
 | cons op n s l es lv xs ys h1 h2 h3 _ ih=>
  intro i hi
  cases i with
  | zero=>
   obtain⟨o,c,rfl⟩:=h1.form
   exact⟨op,n,s,l,o,c,xs,rfl,rfl,rfl,rfl,rfl,h1,h2⟩
  | succ i=>
   obtain⟨op',n',s',l',o,c,zs,e,a0,a1,a2,a3,a4,a5⟩:=ih (i:=i) (by simpa using hi)
   refine⟨op',n',s',l',o,c,zs,by simpa using e,?_,?_,?_,?_,a4,a5⟩
   ·rw[show (i+1)*4=i*4+1+1+1+1 from by omega];simpa using a0
   ·rw[show (i+1)*4+1=i*4+1+1+1+1+1 from by omega];simpa using a1
   ·rw[show (i+1)*4+2=i*4+2+1+1+1+1 from by omega];simpa using a2
   ·rw[show (i+1)*4+3=i*4+3+1+1+1+1 from by omega];simpa using a3
theorem qV{l:List Ex}{i:Nat}(hi:i<l.length){op:ByteArray}{n:Int}{s:ByteArray}{es:List Ex}(e:l[i]=.mk op n s es):SizeOf.sizeOf es<SizeOf.sizeOf l:=by
 have h:=List.sizeOf_lt_of_mem (List.getElem_mem hi)
 rw[e] at h
 simp only[Ex.mk.sizeOf_spec] at h
 omega
theorem jK{w:World}{b:Nat}{x y z u:Value}{t:TypeId}(h:w.heap[b]?=some (.cells #[x,y,z,u] t (0,0))):w.cell? ⟨b,0,none⟩=some x∧w.cell? ⟨b,1,none⟩=some y∧w.cell? ⟨b,2,none⟩=some z∧w.cell? ⟨b,3,none⟩=some u∧∀k,w.frozen? ⟨b,k,none⟩=false:=
 ⟨by simp [World.cell?,h],by simp [World.cell?,h],by simp [World.cell?,h],by simp [World.cell?,h],fun k=>by simp [World.frozen?,h]⟩
abbrev rW(op:ByteArray)(n:Int)(s:ByteArray)(v:Value):Obj:=.cells #[.string op,.int .i64 n,.string s,v] 92
theorem iG(w:World)(o1 o2:Obj):((w.alloc o1).alloc o2).heap[w.heap.size+1]?=some o2:=by
 have:=heap_alloc_new (w.alloc o1) o2
 rw[World.size_alloc] at this;exact this

theorem Tryz.BQ:(Tryz.prog.info? 157).map (fun i=>(i.zero,i.size,i.bytes))=some (some (.agg #[.string ⟨#[]⟩,.int .i64 0]),2,24):=by kernel_rfl
theorem mK{w w':World}{base size n:Nat}{e:TypeId}{v:Value}{xs:List Value}(h:w.ownsRow base e size v n xs)(hk:Bw w w'):w'.ownsRow base e size v n xs:=by
 have hl:=h.lt
 obtain⟨h1,h2⟩:=h
 refine⟨h1,?_⟩
 rcases h2 with h2 | ⟨g,cap,cur,rfl,hb,hg,r⟩
 ·exact .inl h2
 ·exact .inr ⟨g,cap,cur,rfl,hb,by rw[hk.block g (hl g rfl).2];exact hg,r⟩
def bD(ok:Bool)(res:Int):Int:=if ok=true then (if res=0 then 5 else 0) else 5
def aU(l:List (Int×Int)):Bool:=l.all fun x=>gN x.1 x.2 x.1
end Go.Proofs.YtmgfakcccfahaaaGreatDoor
