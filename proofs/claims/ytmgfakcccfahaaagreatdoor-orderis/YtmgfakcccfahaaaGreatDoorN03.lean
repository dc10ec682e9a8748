/-
  types.signs BY CONTRACT: which types each operator takes and gives.
-/
import Derived.Test.YtmgfakcccfahaaaGreatDoorN02
import Derived.Deep.Cut
namespace Go.Proofs.YtmgfakcccfahaaaGreatDoor
open Go.RowKit Go.Maps
set_option maxRecDepth 100000
set_option maxHeartbeats 4000000

def nJ(B C:Nat):List UInt8→Option Value:=bC (bC (bC (bC (bC (bC (bC (bC (bC (bC (bC (bC (bC (bC (bC (bC (bC (bC (bC (bC (bC (bC (bC (bC (mV) [105,110,116] (.agg #[.slice none 0 0,.slice (some ⟨B+1+1+1+1,0,none⟩) 1 1])) [116,114,117,101] (.agg #[.slice none 0 0,.slice (some ⟨B+1+1,0,none⟩) 1 1])) [102,97,108,115,101] (.agg #[.slice none 0 0,.slice (some ⟨B+1+1,0,none⟩) 1 1])) [110,111,116] (.agg #[.slice (some ⟨B+1+1,0,none⟩) 1 1,.slice (some ⟨B+1+1,0,none⟩) 1 1])) [97,110,100] (.agg #[.slice (some ⟨B+1+1+1,0,none⟩) 2 2,.slice (some ⟨B+1+1,0,none⟩) 1 1])) [111,114] (.agg #[.slice (some ⟨B+1+1+1,0,none⟩) 2 2,.slice (some ⟨B+1+1,0,none⟩) 1 1])) [120,111,114] (.agg #[.slice (some ⟨B+1+1+1,0,none⟩) 2 2,.slice (some ⟨B+1+1,0,none⟩) 1 1])) [61,62] (.agg #[.slice (some ⟨B+1+1+1,0,none⟩) 2 2,.slice (some ⟨B+1+1,0,none⟩) 1 1])) [110,101,103] (.agg #[.slice (some ⟨B+1+1+1+1,0,none⟩) 1 1,.slice (some ⟨B+1+1+1+1,0,none⟩) 1 1])) [43] (.agg #[.slice (some ⟨B+1+1+1+1+1,0,none⟩) 2 2,.slice (some ⟨B+1+1+1+1,0,none⟩) 1 1])) [45] (.agg #[.slice (some ⟨B+1+1+1+1+1,0,none⟩) 2 2,.slice (some ⟨B+1+1+1+1,0,none⟩) 1 1])) [42] (.agg #[.slice (some ⟨B+1+1+1+1+1,0,none⟩) 2 2,.slice (some ⟨B+1+1+1+1,0,none⟩) 1 1])) [47] (.agg #[.slice (some ⟨B+1+1+1+1+1,0,none⟩) 2 2,.slice (some ⟨B+1+1+1+1,0,none⟩) 1 1])) [109,111,100] (.agg #[.slice (some ⟨B+1+1+1+1+1,0,none⟩) 2 2,.slice (some ⟨B+1+1+1+1,0,none⟩) 1 1])) [60] (.agg #[.slice (some ⟨B+1+1+1+1+1,0,none⟩) 2 2,.slice (some ⟨B+1+1,0,none⟩) 1 1])) [60,61] (.agg #[.slice (some ⟨B+1+1+1+1+1,0,none⟩) 2 2,.slice (some ⟨B+1+1,0,none⟩) 1 1])) [62] (.agg #[.slice (some ⟨B+1+1+1+1+1,0,none⟩) 2 2,.slice (some ⟨B+1+1,0,none⟩) 1 1])) [62,61] (.agg #[.slice (some ⟨B+1+1+1+1+1,0,none⟩) 2 2,.slice (some ⟨B+1+1,0,none⟩) 1 1])) [61] (.agg #[.slice (some ⟨B+1,0,none⟩) 2 2,.slice (some ⟨B+1+1,0,none⟩) 1 1])) [60,62] (.agg #[.slice (some ⟨B+1,0,none⟩) 2 2,.slice (some ⟨B+1+1,0,none⟩) 1 1])) [112,114,101] (.agg #[.slice (some ⟨B,0,none⟩) 1 1,.slice (some ⟨B,0,none⟩) 1 1])) [45,62] (.agg #[.slice (some ⟨B+1,0,none⟩) 2 2,.slice (some ⟨B,0,none⟩) 1 1])) [102,98,121] (.agg #[.slice (some ⟨B+1,0,none⟩) 2 2,.slice (some ⟨B,0,none⟩) 1 1])) [105,102] (.agg #[.slice (some ⟨C,0,none⟩) 3 3,.slice (some ⟨B,0,none⟩) 1 1])
structure oW(B C:Nat)(w:World):Prop where
 r0:w.heap[B]?=some (.cells #[.int .i64 0] 3 (0,0))
 r1:w.heap[B+1]?=some (.cells #[.int .i64 0,.int .i64 0] 3 (0,0))
 r2:w.heap[B+1+1]?=some (.cells #[.int .i64 1] 3 (0,0))
 r3:w.heap[B+1+1+1]?=some (.cells #[.int .i64 1,.int .i64 1] 3 (0,0))
 r4:w.heap[B+1+1+1+1]?=some (.cells #[.int .i64 2] 3 (0,0))
 r5:w.heap[B+1+1+1+1+1]?=some (.cells #[.int .i64 2,.int .i64 2] 3 (0,0))
 r6:w.heap[C]?=some (.cells #[.int .i64 1,.int .i64 0,.int .i64 0] 3 (0,0))
 lo:B≤C
theorem oW.below{B C:Nat}{w w':World}(h:oW B C w)(hb:Bw w w'):oW B C w':=⟨aG hb h.r0,aG hb h.r1,aG hb h.r2,aG hb h.r3,aG hb h.r4,aG hb h.r5,aG hb h.r6,h.lo⟩
theorem G7(w:World):Calls Tryz.prog 121 #[] w fun e w'=>∃M C,e=.returned (.map (some M))∧aR w' M 24 (nJ w.heap.size C)∧Bw w w'∧oW w.heap.size C w':=by
 have hmm:=@run_makeMap Tryz.prog
 go_enter Tryz.func121,Tryz.ntmps121
 go_upto_region 4 with fail
 obtain⟨w6,hw6⟩:∃w6,w6=((((((w.alloc (.cells #[.int .i64 0] 3)).alloc (.cells #[.int .i64 0,.int .i64 0] 3)).alloc (.cells #[.int .i64 1] 3)).alloc (.cells #[.int .i64 1,.int .i64 1] 3)).alloc (.cells #[.int .i64 2] 3)).alloc (.cells #[.int .i64 2,.int .i64 2] 3)):=⟨_,rfl⟩
 have S6:Hid (w6.heap.size=w.heap.size+6):=by unfold Hid;rw[hw6];simp
 have B6:Hid (Bw w w6):=by unfold Hid;rw[hw6];exact(((((aH).alloc (by simp<;>omega) _).alloc (by simp<;>omega) _).alloc (by simp<;>omega) _).alloc (by simp<;>omega) _).alloc (by simp<;>omega) _
 have R0:Hid (w6.heap[w.heap.size]?=some (.cells #[.int .i64 0] 3 (0,0))):=by
  have h:=heap_alloc_new w (.cells #[.int .i64 0] 3)
  unfold Hid
  rw[hw6]
  exact(jH _ (jH _ (jH _ (jH _ (jH _ h)))))
 have R1:Hid (w6.heap[w.heap.size+1]?=some (.cells #[.int .i64 0,.int .i64 0] 3 (0,0))):=by
  have h:=heap_alloc_new (w.alloc (.cells #[.int .i64 0] 3)) (.cells #[.int .i64 0,.int .i64 0] 3)
  have e:(w.alloc (.cells #[.int .i64 0] 3)).heap.size=w.heap.size+1:=by simp
  rw[e] at h
  unfold Hid
  rw[hw6]
  exact(jH _ (jH _ (jH _ (jH _ h))))
 have R2:Hid (w6.heap[w.heap.size+1+1]?=some (.cells #[.int .i64 1] 3 (0,0))):=by
  have h:=heap_alloc_new ((w.alloc (.cells #[.int .i64 0] 3)).alloc (.cells #[.int .i64 0,.int .i64 0] 3)) (.cells #[.int .i64 1] 3)
  have e:((w.alloc (.cells #[.int .i64 0] 3)).alloc (.cells #[.int .i64 0,.int .i64 0] 3)).heap.size=w.heap.size+1+1:=by simp
  rw[e] at h
  unfold Hid
  rw[hw6]
  exact(jH _ (jH _ (jH _ h)))
 have R3:Hid (w6.heap[w.heap.size+1+1+1]?=some (.cells #[.int .i64 1,.int .i64 1] 3 (0,0))):=by
  have h:=heap_alloc_new (((w.alloc (.cells #[.int .i64 0] 3)).alloc (.cells #[.int .i64 0,.int .i64 0] 3)).alloc (.cells #[.int .i64 1] 3)) (.cells #[.int .i64 1,.int .i64 1] 3)
  have e:(((w.alloc (.cells #[.int .i64 0] 3)).alloc (.cells #[.int .i64 0,.int .i64 0] 3)).alloc (.cells #[.int .i64 1] 3)).heap.size=w.heap.size+1+1+1:=by simp
  rw[e] at h
  unfold Hid
  rw[hw6]
  exact(jH _ (jH _ h))
 have R4:Hid (w6.heap[w.heap.size+1+1+1+1]?=some (.cells #[.int .i64 2] 3 (0,0))):=by
  have h:=heap_alloc_new ((((w.alloc (.cells #[.int .i64 0] 3)).alloc (.cells #[.int .i64 0,.int .i64 0] 3)).alloc (.cells #[.int .i64 1] 3)).alloc (.cells #[.int .i64 1,.int .i64 1] 3)) (.cells #[.int .i64 2] 3)
  have e:((((w.alloc (.cells #[.int .i64 0] 3)).alloc (.cells #[.int .i64 0,.int .i64 0] 3)).alloc (.cells #[.int .i64 1] 3)).alloc (.cells #[.int .i64 1,.int .i64 1] 3)).heap.size=w.heap.size+1+1+1+1:=by simp
  rw[e] at h
  unfold Hid
  rw[hw6]
  exact(jH _ h)
 have R5:Hid (w6.heap[w.heap.size+1+1+1+1+1]?=some (.cells #[.int .i64 2,.int .i64 2] 3 (0,0))):=by
  have h:=heap_alloc_new (((((w.alloc (.cells #[.int .i64 0] 3)).alloc (.cells #[.int .i64 0,.int .i64 0] 3)).alloc (.cells #[.int .i64 1] 3)).alloc (.cells #[.int .i64 1,.int .i64 1] 3)).alloc (.cells #[.int .i64 2] 3)) (.cells #[.int .i64 2,.int .i64 2] 3)
  have e:(((((w.alloc (.cells #[.int .i64 0] 3)).alloc (.cells #[.int .i64 0,.int .i64 0] 3)).alloc (.cells #[.int .i64 1] 3)).alloc (.cells #[.int .i64 1,.int .i64 1] 3)).alloc (.cells #[.int .i64 2] 3)).heap.size=w.heap.size+1+1+1+1+1:=by simp
  rw[e] at h
  unfold Hid
  rw[hw6]
  exact h
 have H0:Hid (aR (w6.alloc (.map #[] 0)) w6.heap.size 0 mV):=aR.made w6
 rw[←hw6]
 clear hw6
 have h0:=H0.out
 obtain⟨v1,e1,h1,g1⟩:=h0.put Tryz.underlying208 (by decide) ⟨#[105,110,116]⟩ (by decide) (.agg #[.slice none 0 0,.slice (some ⟨w.heap.size+1+1+1+1,0,none⟩) 1 1])
 obtain⟨v2,e2,h2,g2⟩:=h1.put Tryz.underlying208 (by decide) ⟨#[116,114,117,101]⟩ (by decide) (.agg #[.slice none 0 0,.slice (some ⟨w.heap.size+1+1,0,none⟩) 1 1])
 obtain⟨v3,e3,h3,g3⟩:=h2.put Tryz.underlying208 (by decide) ⟨#[102,97,108,115,101]⟩ (by decide) (.agg #[.slice none 0 0,.slice (some ⟨w.heap.size+1+1,0,none⟩) 1 1])
 obtain⟨v4,e4,h4,g4⟩:=h3.put Tryz.underlying208 (by decide) ⟨#[110,111,116]⟩ (by decide) (.agg #[.slice (some ⟨w.heap.size+1+1,0,none⟩) 1 1,.slice (some ⟨w.heap.size+1+1,0,none⟩) 1 1])
 obtain⟨v5,e5,h5,g5⟩:=h4.put Tryz.underlying208 (by decide) ⟨#[97,110,100]⟩ (by decide) (.agg #[.slice (some ⟨w.heap.size+1+1+1,0,none⟩) 2 2,.slice (some ⟨w.heap.size+1+1,0,none⟩) 1 1])
 obtain⟨v6,e6,h6,g6⟩:=h5.put Tryz.underlying208 (by decide) ⟨#[111,114]⟩ (by decide) (.agg #[.slice (some ⟨w.heap.size+1+1+1,0,none⟩) 2 2,.slice (some ⟨w.heap.size+1+1,0,none⟩) 1 1])
 obtain⟨v7,e7,h7,g7⟩:=h6.put Tryz.underlying208 (by decide) ⟨#[120,111,114]⟩ (by decide) (.agg #[.slice (some ⟨w.heap.size+1+1+1,0,none⟩) 2 2,.slice (some ⟨w.heap.size+1+1,0,none⟩) 1 1])
 obtain⟨v8,e8,h8,g8⟩:=h7.put Tryz.underlying208 (by decide) ⟨#[61,62]⟩ (by decide) (.agg #[.slice (some ⟨w.heap.size+1+1+1,0,none⟩) 2 2,.slice (some ⟨w.heap.size+1+1,0,none⟩) 1 1])
 obtain⟨v9,e9,h9,g9⟩:=h8.put Tryz.underlying208 (by decide) ⟨#[110,101,103]⟩ (by decide) (.agg #[.slice (some ⟨w.heap.size+1+1+1+1,0,none⟩) 1 1,.slice (some ⟨w.heap.size+1+1+1+1,0,none⟩) 1 1])
 obtain⟨v10,e10,h10,g10⟩:=h9.put Tryz.underlying208 (by decide) ⟨#[43]⟩ (by decide) (.agg #[.slice (some ⟨w.heap.size+1+1+1+1+1,0,none⟩) 2 2,.slice (some ⟨w.heap.size+1+1+1+1,0,none⟩) 1 1])
 obtain⟨v11,e11,h11,g11⟩:=h10.put Tryz.underlying208 (by decide) ⟨#[45]⟩ (by decide) (.agg #[.slice (some ⟨w.heap.size+1+1+1+1+1,0,none⟩) 2 2,.slice (some ⟨w.heap.size+1+1+1+1,0,none⟩) 1 1])
 obtain⟨v12,e12,h12,g12⟩:=h11.put Tryz.underlying208 (by decide) ⟨#[42]⟩ (by decide) (.agg #[.slice (some ⟨w.heap.size+1+1+1+1+1,0,none⟩) 2 2,.slice (some ⟨w.heap.size+1+1+1+1,0,none⟩) 1 1])
 obtain⟨v13,e13,h13,g13⟩:=h12.put Tryz.underlying208 (by decide) ⟨#[47]⟩ (by decide) (.agg #[.slice (some ⟨w.heap.size+1+1+1+1+1,0,none⟩) 2 2,.slice (some ⟨w.heap.size+1+1+1+1,0,none⟩) 1 1])
 obtain⟨v14,e14,h14,g14⟩:=h13.put Tryz.underlying208 (by decide) ⟨#[109,111,100]⟩ (by decide) (.agg #[.slice (some ⟨w.heap.size+1+1+1+1+1,0,none⟩) 2 2,.slice (some ⟨w.heap.size+1+1+1+1,0,none⟩) 1 1])
 obtain⟨v15,e15,h15,g15⟩:=h14.put Tryz.underlying208 (by decide) ⟨#[60]⟩ (by decide) (.agg #[.slice (some ⟨w.heap.size+1+1+1+1+1,0,none⟩) 2 2,.slice (some ⟨w.heap.size+1+1,0,none⟩) 1 1])
 obtain⟨v16,e16,h16,g16⟩:=h15.put Tryz.underlying208 (by decide) ⟨#[60,61]⟩ (by decide) (.agg #[.slice (some ⟨w.heap.size+1+1+1+1+1,0,none⟩) 2 2,.slice (some ⟨w.heap.size+1+1,0,none⟩) 1 1])
 obtain⟨v17,e17,h17,g17⟩:=h16.put Tryz.underlying208 (by decide) ⟨#[62]⟩ (by decide) (.agg #[.slice (some ⟨w.heap.size+1+1+1+1+1,0,none⟩) 2 2,.slice (some ⟨w.heap.size+1+1,0,none⟩) 1 1])
 obtain⟨v18,e18,h18,g18⟩:=h17.put Tryz.underlying208 (by decide) ⟨#[62,61]⟩ (by decide) (.agg #[.slice (some ⟨w.heap.size+1+1+1+1+1,0,none⟩) 2 2,.slice (some ⟨w.heap.size+1+1,0,none⟩) 1 1])
 obtain⟨v19,e19,h19,g19⟩:=h18.put Tryz.underlying208 (by decide) ⟨#[61]⟩ (by decide) (.agg #[.slice (some ⟨w.heap.size+1,0,none⟩) 2 2,.slice (some ⟨w.heap.size+1+1,0,none⟩) 1 1])
 obtain⟨v20,e20,h20,g20⟩:=h19.put Tryz.underlying208 (by decide) ⟨#[60,62]⟩ (by decide) (.agg #[.slice (some ⟨w.heap.size+1,0,none⟩) 2 2,.slice (some ⟨w.heap.size+1+1,0,none⟩) 1 1])
 obtain⟨v21,e21,h21,g21⟩:=h20.put Tryz.underlying208 (by decide) ⟨#[112,114,101]⟩ (by decide) (.agg #[.slice (some ⟨w.heap.size,0,none⟩) 1 1,.slice (some ⟨w.heap.size,0,none⟩) 1 1])
 obtain⟨v22,e22,h22,g22⟩:=h21.put Tryz.underlying208 (by decide) ⟨#[45,62]⟩ (by decide) (.agg #[.slice (some ⟨w.heap.size+1,0,none⟩) 2 2,.slice (some ⟨w.heap.size,0,none⟩) 1 1])
 obtain⟨v23,e23,h23,g23⟩:=h22.put Tryz.underlying208 (by decide) ⟨#[102,98,121]⟩ (by decide) (.agg #[.slice (some ⟨w.heap.size+1,0,none⟩) 2 2,.slice (some ⟨w.heap.size,0,none⟩) 1 1])
 obtain⟨v24,e24,h24,g24⟩:=(h23.kept (Below.heap_alloc v23 (.cells #[.int .i64 1,.int .i64 0,.int .i64 0] 3) _ h23.lt)).put Tryz.underlying208 (by decide) ⟨#[105,102]⟩ (by decide) (.agg #[.slice (some ⟨v23.heap.size,0,none⟩) 3 3,.slice (some ⟨w.heap.size,0,none⟩) 1 1])
 have k1:=g1
 have k2:=dQ k1 g2
 have k3:=dQ k2 g3
 have k4:=dQ k3 g4
 have k5:=dQ k4 g5
 have k6:=dQ k5 g6
 have k7:=dQ k6 g7
 have k8:=dQ k7 g8
 have k9:=dQ k8 g9
 have k10:=dQ k9 g10
 have k11:=dQ k10 g11
 have k12:=dQ k11 g12
 have k13:=dQ k12 g13
 have k14:=dQ k13 g14
 have k15:=dQ k14 g15
 have k16:=dQ k15 g16
 have k17:=dQ k16 g17
 have k18:=dQ k17 g18
 have k19:=dQ k18 g19
 have k20:=dQ k19 g20
 have k21:=dQ k20 g21
 have k22:=dQ k21 g22
 have k23:=dQ k22 g23
 have hM:w6.heap.size<v23.heap.size:=h23.lt
 have HC:Hid (v24.heap[v23.heap.size]?=some (.cells #[.int .i64 1,.int .i64 0,.int .i64 0] 3 (0,0))):=mO g24 (fun e=>by have:=Option.some.inj e;omega) (heap_alloc_new _ _)
 have GR:Hid (∀k,k<w6.heap.size→v24.heap[k]?=w6.heap[k]?):=fun k hk=>by
  have hne:some w6.heap.size≠some k:=fun e=>by have:=Option.some.inj e;omega
  rw[g24.block k (by have:=k23.size;simp at this ⊢;omega) (fun e=>hne e.symm),Below.heap_alloc _ _ _ (by have:=k23.size;simp at this;omega),k23.block k (by simp;omega) (fun e=>hne e.symm),Below.heap_alloc _ _ _ hk]
 have SZ:Hid (v23.heap.size+1≤v24.heap.size):=by have:=g24.size;unfold Hid;simpa using this
 have OS:Hid (v24.os=w6.os∧v24.tape=w6.tape∧v24.output=w6.output):=⟨g24.os.trans k23.os,g24.tape.trans k23.tape,g24.output.trans k23.output⟩
 have HM:=aA hM
 have HF:=aA h24
 clear h0 h1 h2 h3 h4 h5 h6 h7 h8 h9 h10 h11 h12 h13 h14 h15 h16 h17 h18 h19 h20 h21 h22 h23 h24 H0 g1 g2 g3 g4 g5 g6 g7 g8 g9 g10 g11 g12 g13 g14 g15 g16 g17 g18 g19 g20 g21 g22 g23 g24 k1 k2 k3 k4 k5 k6 k7 k8 k9 k10 k11 k12 k13 k14 k15 k16 k17 k18 k19 k20 k21 k22 k23 hM
 go_wp2
 go_ret
 have s6:=S6.out
 refine⟨w6.heap.size,rfl,v23.heap.size,HF.out,⟨OS.out.1.trans B6.out.os,OS.out.2.1.trans B6.out.tape,OS.out.2.2.trans B6.out.output,by have:=SZ.out;have:=HM.out;omega,fun k hk=>by rw[GR.out k (by omega)];exact B6.out.block k hk⟩,⟨?_,?_,?_,?_,?_,?_,HC.out,by have:=HM.out;omega⟩⟩
 ·rw[GR.out _ (by omega)];exact R0.out
 ·rw[GR.out _ (by omega)];exact R1.out
 ·rw[GR.out _ (by omega)];exact R2.out
 ·rw[GR.out _ (by omega)];exact R3.out
 ·rw[GR.out _ (by omega)];exact R4.out
 ·rw[GR.out _ (by omega)];exact R5.out
end Go.Proofs.YtmgfakcccfahaaaGreatDoor
