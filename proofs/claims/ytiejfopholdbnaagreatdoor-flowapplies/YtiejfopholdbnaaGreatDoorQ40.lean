/-
  package plan: newPlanner BY CONTRACT.
-/
import Derived.Test.YtiejfopholdbnaaGreatDoorQ39
namespace Go.Proofs.YtiejfopholdbnaaGreatDoor
open Go.RowKit Go.Maps
set_option maxRecDepth 100000
set_option maxHeartbeats 4000000

theorem Sep.nil {w : World} {base : Nat} {F : Nat → Prop} (hF : ∀ b, F b → b < w.heap.size) (hb : base ≤ w.heap.size) : Sep w base F [] :=
 ⟨fun i c h => by simp at h, fun i c q h => by simp at h, fun i j c d q _ h => by simp at h, hF, hb⟩
theorem Sep.head {w : World} {base : Nat} {F : Nat → Prop} {l : List Own} (h : Sep w base F l) (c : Own) (his : c.is w) (hb : ∀ q, c.blk = some q → base ≤ q ∧ q < w.heap.size ∧ ¬ F q ∧ ∀ d ∈ l, d.blk ≠ some q) : Sep w base F (c :: l) :=
 Sep.put (l1 := []) h c his (fun q hq => ⟨(hb q hq).1, (hb q hq).2.1, (hb q hq).2.2.1, fun _ d hi => (hb q hq).2.2.2 d (List.mem_of_getElem? hi)⟩)
def latJ (fs : List Fw) (g : Nat → Int) : Nat → List UInt8 → Option Int
 | 0 => fun _ => none
 | j + 1 => match fs[j]? with
  | some x => kStep (latJ fs g j) (x.name, g j)
  | none => latJ fs g j
theorem latJ_step {fs : List Fw} {g : Nat → Int} {j : Nat} {x : Fw} (h : fs[j]? = some x) : kStep (latJ fs g j) (x.name, g j) = latJ fs g (j + 1) := by
 simp only [latJ, h]
def pl0 (X B Kp Kl nKl : Nat) (fl : List UInt8 → Option Int) (v1 v2 v3 v4 v5 : Value) : PlD :=
 { X := X, B := B, Kp := Kp, nKp := 0, Kl := Kl, nKl := nKl, fp := fun _ => none, fl := fl, v1 := v1, v2 := v2, v3 := v3, v4 := v4, v5 := v5, va := .slice none 0 0, vc := .slice none 0 0, vp := .slice none 0 0, vn := .slice none 0 0, vi := .slice none 0 0, vt := .slice none 0 0, vk := .slice none 0 0, vo := .slice none 0 0, ps := [], ns := [], is := [], ts := [], ks := [], os := [] }
theorem pl0_at {w0 w : World} {X B Kp Kl : Nat} {v1 v2 v3 v4 v5 : Value} (hX : w.heap[X]? = some (.cells #[v1, v2, v3, v4, v5, .pointer (some ⟨B, 0, none⟩), .map (some Kp), .map (some Kl), .slice none 0 0] 240 (0, 0))) (hB : w.heap[B]? = some (.cells #[.slice none 0 0, .slice none 0 0, .slice none 0 0, .slice none 0 0, .slice none 0 0, .slice none 0 0, .slice none 0 0] 183 (0, 0))) (hKp : FnAt w Kp 0 fnone) (hKl : FnAt w Kl 0 fnone) (h1 : w0.heap.size ≤ X ∧ w0.heap.size ≤ B ∧ w0.heap.size ≤ Kp ∧ w0.heap.size ≤ Kl) (h2 : X ≠ B ∧ X ≠ Kp ∧ X ≠ Kl ∧ B ≠ Kp ∧ B ≠ Kl ∧ Kp ≠ Kl) (hb : Below w0.heap.size w0 w) : PlS w0 (fun _ => False) [] (pl0 X B Kp Kl 0 (fun _ => none) v1 v2 v3 v4 v5) w := by
 have hn : ∀ (e : TypeId) (size : Nat), (oRow w0.heap.size e size (.slice none 0 0) 0 []).is w := fun e size => World.ownsRow_nil _ _ _ _
 have hq : ∀ (e : TypeId) (size q : Nat), (oRow w0.heap.size e size (.slice none 0 0) 0 []).blk ≠ some q := fun e size q h => by simp [oRow, Value.ownBlock] at h
 refine ⟨?_, fun p hp => by simp [pl0] at hp, hb⟩
 have s0 : Sep w w0.heap.size (fun _ => False) [] := Sep.nil (fun _ h => h.elim) hb.size
 have s1 := s0.head (oRow w0.heap.size 3 1 (.slice none 0 0) 0 []) (hn _ _) (fun q h => absurd h (hq _ _ q))
 have s2 := s1.head (oRow w0.heap.size 3 1 (.slice none 0 0) 0 []) (hn _ _) (fun q h => absurd h (hq _ _ q))
 have s3 := s2.head (oRow w0.heap.size 3 1 (.slice none 0 0) 0 []) (hn _ _) (fun q h => absurd h (hq _ _ q))
 have s4 := s3.head (oRow w0.heap.size 3 1 (.slice none 0 0) 0 []) (hn _ _) (fun q h => absurd h (hq _ _ q))
 have s5 := s4.head (oRow w0.heap.size 9 1 (.slice none 0 0) 0 []) (hn _ _) (fun q h => absurd h (hq _ _ q))
 have s6 := s5.head (oRow w0.heap.size 185 6 (.slice none 0 0) 0 []) (hn _ _) (fun q h => absurd h (hq _ _ q))
 have hr : ∀ {d : Own}, d ∈ [oRow w0.heap.size 185 6 (.slice none 0 0) 0 [], oRow w0.heap.size 9 1 (.slice none 0 0) 0 [], oRow w0.heap.size 3 1 (.slice none 0 0) 0 [], oRow w0.heap.size 3 1 (.slice none 0 0) 0 [], oRow w0.heap.size 3 1 (.slice none 0 0) 0 [], oRow w0.heap.size 3 1 (.slice none 0 0) 0 []] → ∀ q, d.blk ≠ some q := fun {d} hd q => by
  simp only [List.mem_cons, List.not_mem_nil, or_false] at hd
  rcases hd with rfl | rfl | rfl | rfl | rfl | rfl <;> exact hq _ _ q
 have s7 := s6.head (oMap Kl 0 (kindF fun _ => none)) (by rw [kindF_none]; exact hKl) (fun q h => by
  obtain rfl : Kl = q := Option.some.inj h
  exact ⟨h1.2.2.2, hKl.lt, id, fun d hd => hr hd _⟩)
 have s8 := s7.head (oMap Kp 0 (kindF fun _ => none)) (by rw [kindF_none]; exact hKp) (fun q h => by
  obtain rfl : Kp = q := Option.some.inj h
  refine ⟨h1.2.2.1, hKp.lt, id, fun d hd => ?_⟩
  rcases List.mem_cons.1 hd with rfl | hd
  ·exact fun e => h2.2.2.2.2.2 (Option.some.inj e).symm
  ·exact hr hd _)
 have s9 := s8.head (oBlk B (.cells #[.slice none 0 0, .slice none 0 0, .slice none 0 0, .slice none 0 0, .slice none 0 0, .slice none 0 0, .slice none 0 0] 183 (0, 0))) hB (fun q h => by
  obtain rfl : B = q := Option.some.inj h
  refine ⟨h1.2.1, (Array.getElem?_eq_some_iff.1 hB).1, id, fun d hd => ?_⟩
  rcases List.mem_cons.1 hd with rfl | hd
  ·exact fun e => h2.2.2.2.1 (Option.some.inj e).symm
  rcases List.mem_cons.1 hd with rfl | hd
  ·exact fun e => h2.2.2.2.2.1 (Option.some.inj e).symm
  ·exact hr hd _)
 exact s9.head (oBlk X (.cells #[v1, v2, v3, v4, v5, .pointer (some ⟨B, 0, none⟩), .map (some Kp), .map (some Kl), .slice none 0 0] 240 (0, 0))) hX (fun q h => by
  obtain rfl : X = q := Option.some.inj h
  refine ⟨h1.1, (Array.getElem?_eq_some_iff.1 hX).1, id, fun d hd => ?_⟩
  rcases List.mem_cons.1 hd with rfl | hd
  ·exact fun e => h2.1 (Option.some.inj e).symm
  rcases List.mem_cons.1 hd with rfl | hd
  ·exact fun e => h2.2.1 (Option.some.inj e).symm
  rcases List.mem_cons.1 hd with rfl | hd
  ·exact fun e => h2.2.2.1 (Option.some.inj e).symm
  ·exact hr hd _)
theorem PlS.xcell7 {w0 w : World} {F : Nat → Prop} {ex : List Own} {d : PlD} (h : PlS w0 F ex d w) : w.cell? ⟨d.X, 0 + 7, none⟩ = some (.map (some d.Kl)) := cr h.xb rfl
theorem PlS.lates {w0 w w' : World} {F : Nat → Prop} {ex : List Own} {d : PlD} (h : PlS w0 F ex d w) {s : ByteArray} {k : Int} (hf : FnAt w' d.Kl (d.nKl + 1) (kindF (kStep d.fl (s, k)))) (hg : w.grownBy w' (some d.Kl)) : PlS w0 F ex { d with fl := kStep d.fl (s, k), nKl := d.nKl + 1 } w' := by
 have hs := h.sep.step (i := 3) (c := oMap d.Kl d.nKl (kindF d.fl)) (c' := oMap d.Kl (d.nKl + 1) (kindF (kStep d.fl (s, k)))) rfl hg hf (fun q hq => .inl hq)
 exact ⟨hs, h.ofs.keep (h.sep.stays (i := 3) (c := oMap d.Kl d.nKl (kindF d.fl)) rfl hg), h.sep.below (i := 3) (c := oMap d.Kl d.nKl (kindF d.fl)) rfl hg h.below⟩
theorem newPlanner_any (w : World) (S : Nat → Prop) (p : Pg) (v1 v2 : Value) (o3 o4 o5 : Option Addr) (c3 c4 c5 : Nat) (hp : PgAt w S p v1 v2 (.slice o3 p.fs.length c3) (.slice o4 p.asserts.length c4) (.slice o5 p.checks.length c5)) (o1 o2 : Option Addr) (c1 c2 : Nat) (hok : PgOk p) (nb : Nat) (g : Nat → Int) (hw : WtAt w nb p.fs.length g) :
  Calls Tryz.prog 142 #[.agg #[.slice o1 p.ins.length c1, .slice o2 p.outs.length c2, .slice o3 p.fs.length c3, .slice o4 p.asserts.length c4, .slice o5 p.checks.length c5], .slice (some ⟨nb, 0, none⟩) p.fs.length p.fs.length] w fun e w' => ∃ X B Kp Kl nKl, e = .returned (.pointer (some ⟨X, 0, none⟩)) ∧ PlS w (fun _ => False) [] (pl0 X B Kp Kl nKl (latJ p.fs g p.fs.length) (.slice o1 p.ins.length c1) (.slice o2 p.outs.length c2) (.slice o3 p.fs.length c3) (.slice o4 p.asserts.length c4) (.slice o5 p.checks.length c5)) w' := by
 have hmm := @run_makeMap Tryz.prog
 obtain ⟨_, _, ⟨xs, hfr, hfi⟩, _, _⟩ := hp
 obtain ⟨w1, hw1⟩ : ∃ w1, w1 = w.alloc (.cells #[.slice o1 p.ins.length c1, .slice o2 p.outs.length c2, .slice o3 p.fs.length c3, .slice o4 p.asserts.length c4, .slice o5 p.checks.length c5] 39) := ⟨_, rfl⟩
 obtain ⟨w2, hw2⟩ : ∃ w2, w2 = w1.alloc (.cells #[.slice none 0 0, .slice none 0 0, .slice none 0 0, .slice none 0 0, .slice none 0 0, .slice none 0 0, .slice none 0 0] 183) := ⟨_, rfl⟩
 obtain ⟨w3, hw3⟩ : ∃ w3, w3 = w2.alloc (.map #[] 0) := ⟨_, rfl⟩
 obtain ⟨w4, hw4⟩ : ∃ w4, w4 = w3.alloc (.map #[] 0) := ⟨_, rfl⟩
 have z1 : w1.heap.size = w.heap.size + 1 := by rw [hw1]; simp
 have z2 : w2.heap.size = w.heap.size + 1 + 1 := by rw [hw2]; simp [z1]
 have z3 : w3.heap.size = w.heap.size + 1 + 1 + 1 := by rw [hw3]; simp [z2]
 have z4 : w4.heap.size = w.heap.size + 1 + 1 + 1 + 1 := by rw [hw4]; simp [z3]
 obtain ⟨B, hB⟩ : ∃ B, B = w.heap.size + 1 := ⟨_, rfl⟩
 obtain ⟨Kp, hKp⟩ : ∃ B, B = w.heap.size + 1 + 1 := ⟨_, rfl⟩
 obtain ⟨Kl, hKl⟩ : ∃ B, B = w.heap.size + 1 + 1 + 1 := ⟨_, rfl⟩
 obtain ⟨X, hX⟩ : ∃ B, B = w.heap.size + 1 + 1 + 1 + 1 := ⟨_, rfl⟩
 obtain ⟨w5, hw5⟩ : ∃ w5, w5 = w4.alloc (.cells #[.slice o1 p.ins.length c1, .slice o2 p.outs.length c2, .slice o3 p.fs.length c3, .slice o4 p.asserts.length c4, .slice o5 p.checks.length c5, .pointer (some ⟨B, 0, none⟩), .map (some Kp), .map (some Kl), .slice none 0 0] 240) := ⟨_, rfl⟩
 have b1 : Below w.heap.size w w1 := by rw [hw1]; exact bal
 have b2 : Below w1.heap.size w1 w2 := by rw [hw2]; exact bal
 have b3 : Below w2.heap.size w2 w3 := by rw [hw3]; exact bal
 have b4 : Below w3.heap.size w3 w4 := by rw [hw4]; exact bal
 have b5 : Below w4.heap.size w4 w5 := by rw [hw5]; exact bal
 have b45 := b4.trans (b5.mono b4.size)
 have b35 := b3.trans (b45.mono b3.size)
 have b25 := b2.trans (b35.mono b2.size)
 have b15 := b1.trans (b25.mono b1.size)
 have HP0 : Hid (PlS w (fun _ => False) [] (pl0 X B Kp Kl 0 (fun _ => none) (.slice o1 p.ins.length c1) (.slice o2 p.outs.length c2) (.slice o3 p.fs.length c3) (.slice o4 p.asserts.length c4) (.slice o5 p.checks.length c5)) w5) := by
  refine pl0_at ?_ ?_ ?_ ?_ ⟨by omega, by omega, by omega, by omega⟩ ⟨by omega, by omega, by omega, by omega, by omega, by omega⟩ b15
  ·rw [hw5, hX, ← z4]; exact heap_alloc_new _ _
  ·exact row_keep b35 (by rw [hw2, hB, ← z1]; exact heap_alloc_new _ _)
  ·have hf : FnAt w3 Kp 0 fnone := by rw [hw3, hKp, ← z2]; exact FnAt.made w2
   exact hf.kept (b45.block _ hf.lt)
  ·have hf : FnAt w4 Kl 0 fnone := by rw [hw4, hKl, ← z3]; exact FnAt.made w3
   exact hf.kept (b5.block _ hf.lt)
 obtain ⟨P0, hP0⟩ : ∃ P0, P0 = w.heap.size := ⟨_, rfl⟩
 have hr1 : w1.heap[P0]? = some (.cells #[.slice o1 p.ins.length c1, .slice o2 p.outs.length c2, .slice o3 p.fs.length c3, .slice o4 p.asserts.length c4, .slice o5 p.checks.length c5] 39 (0, 0)) := by rw [hw1, hP0]; exact heap_alloc_new _ _
 have f0 : w1.cell? ⟨P0, 0, none⟩ = some (.slice o1 p.ins.length c1) := cr hr1 rfl
 have f1 : w1.cell? ⟨P0, 0 + 1, none⟩ = some (.slice o2 p.outs.length c2) := cr hr1 rfl
 have f2 : w1.cell? ⟨P0, 0 + 2, none⟩ = some (.slice o3 p.fs.length c3) := cr hr1 rfl
 have f3 : w1.cell? ⟨P0, 0 + 3, none⟩ = some (.slice o4 p.asserts.length c4) := cr hr1 rfl
 have f4 : w1.cell? ⟨P0, 0 + 4, none⟩ = some (.slice o5 p.checks.length c5) := cr hr1 rfl
 have f5 : w5.cell? ⟨P0, 0 + 2, none⟩ = some (.slice o3 p.fs.length c3) := cell_keep b25 f2
 have HF5 : Hid (w5.cell? ⟨P0, 0 + 2, none⟩ = some (.slice o3 p.fs.length c3)) := f5
 have HWS : Hid (w.alloc (.cells #[.slice o1 p.ins.length c1, .slice o2 p.outs.length c2, .slice o3 p.fs.length c3, .slice o4 p.asserts.length c4, .slice o5 p.checks.length c5] 39) = w1 ∧ w.heap.size = P0) := ⟨hw1.symm, hP0.symm⟩
 have HWT : Hid (w1.alloc (.cells #[.slice none 0 0, .slice none 0 0, .slice none 0 0, .slice none 0 0, .slice none 0 0, .slice none 0 0, .slice none 0 0] 183) = w2 ∧ w2.alloc (.map #[] 0) = w3 ∧ w3.alloc (.map #[] 0) = w4 ∧ w4.alloc (.cells #[.slice o1 p.ins.length c1, .slice o2 p.outs.length c2, .slice o3 p.fs.length c3, .slice o4 p.asserts.length c4, .slice o5 p.checks.length c5, .pointer (some ⟨B, 0, none⟩), .map (some Kp), .map (some Kl), .slice none 0 0] 240) = w5 ∧ w1.heap.size = B ∧ w1.heap.size + 1 = Kp ∧ w1.heap.size + 1 + 1 = Kl ∧ w1.heap.size + 1 + 1 + 1 = X) := ⟨hw2.symm, hw3.symm, hw4.symm, hw5.symm, by omega, by omega, by omega, by omega⟩
 have HFR := hidP hfr
 have HFI := hidP hfi
 have HOK : Hid (PgOk p ∧ p.fs.length ≤ 1000) := ⟨hok, by have := hok.vars; omega⟩
 have HWT0 := hidP hw
 clear hfr hfi hok hw hw1 hw2 hw3 hw4 hw5 z1 z2 z3 z4 hB hKp hKl hX b1 b2 b3 b4 b5 b45 b35 b25 b15 hP0 hr1 f5
 go_enter Tryz.func142, Tryz.ntmps142
 go_upto_region 1 with fail
 rw [HWS.out.1, HWS.out.2]
 go_upto_region 2 with fail
 rw [HWT.out.2.2.2.2.2.2.2, HWT.out.2.2.2.2.2.2.1, HWT.out.2.2.2.2.2.1, HWT.out.2.2.2.2.1, HWT.out.1, HWT.out.2.1, HWT.out.2.2.1, HWT.out.2.2.2.1]
 have f5 := HF5.out
 clear f0 f1 f2 f3 f4 hmm
 go_wp2
 clear f5
 go_loopw [18] (fun t wr => ∃ (j nKl : Nat), j ≤ p.fs.length ∧ t = .int .i64 j ∧ Hid (PlS w (fun _ => False) [] (pl0 X B Kp Kl nKl (latJ p.fs g j) (.slice o1 p.ins.length c1) (.slice o2 p.outs.length c2) (.slice o3 p.fs.length c3) (.slice o4 p.asserts.length c4) (.slice o5 p.checks.length c5)) wr ∧ nKl ≤ j)) (fun t _ => p.fs.length - (intOf t).toNat)
 case atStart => exact ⟨0, 0, Nat.zero_le _, rfl, HP0.out, Nat.le_refl _⟩
 case round =>
  obtain ⟨j, nKl, hj, rfl, HR⟩ := hrel
  by_cases hjl : j < p.fs.length
  ·obtain ⟨name, kind, op', n', s', es, oo, cc, zs, e, x0, x1, x2, x3, x4, x5, _, _⟩ := HFI.out.at hjl
   obtain ⟨b, off, cp, ev, _, _, gg⟩ := HFR.out.at (by have := HFR.out.1; omega)
   obtain ⟨rfl, rfl⟩ : o3 = some ⟨b, off, none⟩ ∧ c3 = cp := by simpa using ev
   have hbr := HR.out.1.below
   have y0 := cell_keep hbr (gg _ _ x0)
   have y1 := cell_keep hbr (gg _ _ x1)
   have y2 := cell_keep hbr (gg _ _ x2)
   have y3 := cell_keep hbr (gg _ _ x3)
   have y4 := cell_keep hbr (gg _ _ x4)
   have y5 := cell_keep hbr (gg _ _ x5)
   rw [← Nat.add_assoc] at y1 y2 y3 y4 y5
   have i0' : (0 : Int) ≤ (j : Int) := by omega
   have i1' : (j : Int) < (p.fs.length : Int) := by omega
   have ej : p.fs[j]? = some ⟨name, kind, .mk op' n' s' es⟩ := by rw [List.getElem?_eq_getElem hjl, e]
   have hsn : name.size ≤ maxLen := HOK.out.1.names (name, kind) (by unfold varsP varsF; exact List.mem_append_right _ (List.mem_map.2 ⟨_, List.mem_of_getElem? ej, rfl⟩))
   obtain ⟨w6, hw6⟩ : ∃ w6, w6 = wr.alloc (.cells #[.string name, .int .i64 kind, .string op', .int .i64 n', .string s', .slice oo es.length cc] 95) := ⟨_, rfl⟩
   have hb6 : Below wr.heap.size wr w6 := by rw [hw6]; exact bal
   obtain ⟨B7, hB7⟩ : ∃ B7, B7 = wr.heap.size := ⟨_, rfl⟩
   have hr6 : w6.heap[B7]? = some (.cells #[.string name, .int .i64 kind, .string op', .int .i64 n', .string s', .slice oo es.length cc] 95 (0, 0)) := by rw [hw6, hB7]; exact heap_alloc_new _ _
   have hP6 := (HR.out.1.keep hb6).keep (Below.refl _ _).drew
   have z0 : w6.drew.cell? ⟨B7, 0, none⟩ = some (.string name) := by rw [cell_of_row w6.drew _ _ _ _ (0, 0) (show w6.drew.heap[B7]? = _ from hr6)]; rfl
   have z7 : w6.drew.cell? ⟨X, 0 + 7, none⟩ = some (.map (some Kl)) := hP6.xcell7
   have zn : w6.drew.cell? ⟨nb, j, none⟩ = some (.int .i64 (g j)) := by
    have h1 := cell_keep (hbr.trans (hb6.mono hbr.size)) (HWT0.out.cell hjl)
    exact h1
   have hfn : FnAt w6.drew Kl nKl (kindF (latJ p.fs g j)) := hP6.sep.is 3 _ rfl
   obtain ⟨w7, hup, hfn7, hgr7⟩ := hfn.put Tryz.underlying96 (by have := HOK.out.2; have := HR.out.2; unfold maxLen; omega) name hsn (.int .i64 (g j))
   rw [kindF_step _ (name, g j)] at hfn7
   have HNX : Hid (PlS w (fun _ => False) [] (pl0 X B Kp Kl (nKl + 1) (latJ p.fs g (j + 1)) (.slice o1 p.ins.length c1) (.slice o2 p.outs.length c2) (.slice (some ⟨b, off, none⟩) p.fs.length c3) (.slice o4 p.asserts.length c4) (.slice o5 p.checks.length c5)) w7 ∧ nKl + 1 ≤ j + 1) := by
    refine ⟨?_, by have := HR.out.2; omega⟩
    have := hP6.lates (s := name) (k := g j) hfn7 hgr7
    rw [← latJ_step ej]
    exact this
   have HJ := hidP hjl
   have N4 : Hid (wrap64 ((j : Int) + 1) = (j : Int) + 1) := by have := HOK.out.2; have := HJ.out; unfold Hid wrap64; omega
   have HW6 : Hid (wr.alloc (.cells #[.string name, .int .i64 kind, .string op', .int .i64 n', .string s', .slice oo es.length cc] 95) = w6 ∧ wr.heap.size = B7) := ⟨hw6.symm, hB7.symm⟩
   have HKN : Hid (Kl ≠ X ∧ Kl ≠ B7) := ⟨fun e => hP6.ne (i := 3) (j := 0) (by decide) rfl rfl (q := X) (by show some Kl = some X; rw [e]) rfl, by have := (HR.out.1.sep.lt 3 _ Kl rfl rfl).2.1; omega⟩
   have HZ : Hid (w7.cell? ⟨X, 0 + 7, none⟩ = some (.map (some Kl)) ∧ w7.cell? ⟨B7, 0, none⟩ = some (.string name) ∧ w7.cell? ⟨nb, j, none⟩ = some (.int .i64 (g j))) := by
    have hb7 := HNX.out.1.below
    refine ⟨HNX.out.1.xcell7, ?_, cell_keep hb7 (HWT0.out.cell HJ.out)⟩
    have h1 := heap_grown' hgr7 (fun e => HKN.out.2 (Option.some.inj e)) (show w6.drew.heap[B7]? = _ from hr6)
    rw [cell_of_row w7 _ _ _ _ (0, 0) h1]; rfl
   clear hbr gg ev x0 x1 x2 x3 x4 x5 e ej hsn hw6 hb6 hB7 hr6 hP6 hfn hfn7 hgr7 hj hjl HR
   go_upto_region 5 with fail
   rw [HW6.out.1, HW6.out.2]
   clear y0 y1 y2 y3 y4 y5
   refine wp_region_till 10 (fun w' => w'.cell? ⟨X, 0 + 7, none⟩ = some (.map (some Kl)) ∧ w'.cell? ⟨B7, 0, none⟩ = some (.string name) ∧ w'.cell? ⟨nb, j, none⟩ = some (.int .i64 (g j))) (fun _ => True) (by kernel_rfl) ⟨z7, z0, zn⟩ trivial (fun hHeld => ?_)
   refine tk 0 23 (.pointer (some ⟨X, 0, none⟩)) rfl (.inl ⟨by rfl, by rintro w ⟨b0, b1, b2⟩; go_simp⟩) hHeld ?_
   try simp only [tp]
   refine tk 1 24 (.pointer (some ⟨X, 0, none⟩)) rfl (.inl ⟨by rfl, by rintro w ⟨b0, b1, b2⟩; go_simp⟩) hHeld ?_
   try simp only [tp]
   refine tk 2 25 (.pointer (some ⟨X, 7, none⟩)) rfl (.inl ⟨by rfl, by rintro w ⟨b0, b1, b2⟩; go_simp⟩) hHeld ?_
   try simp only [tp]
   refine tk 3 26 (.map (some Kl)) rfl (.inl ⟨by rfl, by rintro w ⟨b0, b1, b2⟩; go_simp⟩) hHeld ?_
   try simp only [tp]
   refine tk 4 27 (.pointer (some ⟨B7, 0, none⟩)) rfl (.inl ⟨by rfl, by rintro w ⟨b0, b1, b2⟩; go_simp⟩) hHeld ?_
   try simp only [tp]
   refine tk 5 28 (.string name) rfl (.inl ⟨by rfl, by rintro w ⟨b0, b1, b2⟩; go_simp⟩) hHeld ?_
   try simp only [tp]
   refine tk 6 29 (.slice (some ⟨nb, 0, none⟩) p.fs.length p.fs.length) rfl (.inl ⟨by rfl, by rintro w ⟨b0, b1, b2⟩; go_simp⟩) hHeld ?_
   try simp only [tp]
   refine tk 7 30 (.int .i64 (j : Int)) rfl (.inl ⟨by rfl, by rintro w ⟨b0, b1, b2⟩; go_simp⟩) hHeld ?_
   try simp only [tp]
   refine tk 8 31 (.pointer (some ⟨nb, j, none⟩)) rfl (.inl ⟨by rfl, by rintro w ⟨b0, b1, b2⟩; go_simp⟩) hHeld ?_
   try simp only [tp]
   refine tk 9 32 (.int .i64 (g j)) rfl (.inl ⟨by rfl, by rintro w ⟨b0, b1, b2⟩; go_simp⟩) hHeld ?_
   try simp only [tp]
   refine wpTill_ready (rs := [10]) (by kernel_rfl) (by simp) ?_
   refine AllTill.cons (o := ⟨none, _, _, _, _, _⟩) rfl (fun K hK => ?_) AllTill.nil
   go_simp
   refine hK.out _ _ (Till.last HZ.out) (fun hHeld => ?_)
   clear hK K
   try simp only [tp]
   refine wpTill_done (by kernel_rfl) ?_ _
   clear z0 z7 zn hup hHeld
   go_wp2
   exact ⟨⟨j + 1, nKl + 1, HJ.out, by rw [N4.out]; rfl, HNX.out⟩, by rw [N4.out]; have := HJ.out; simp [intOf]; omega⟩
  ·obtain rfl : p.fs.length = j := by omega
   have HE : Hid (PlS w (fun _ => False) [] (pl0 X B Kp Kl nKl (latJ p.fs g p.fs.length) (.slice o1 p.ins.length c1) (.slice o2 p.outs.length c2) (.slice o3 p.fs.length c3) (.slice o4 p.asserts.length c4) (.slice o5 p.checks.length c5)) wr) := HR.out.1
   clear hj hjl HR
   go_wp2
   go_ret
   exact ⟨X, B, Kp, Kl, nKl, rfl, HE.out⟩
theorem PlS.place {w0 w w' : World} {F : Nat → Prop} {ex : List Own} {d : PlD} (h : PlS w0 F ex d w) {s : ByteArray} {k : Int} (hf : FnAt w' d.Kp (d.nKp + 1) (kindF (kStep d.fp (s, k)))) (hg : w.grownBy w' (some d.Kp)) : PlS w0 F ex { d with fp := kStep d.fp (s, k), nKp := d.nKp + 1 } w' ∧ Stays F F w w' := by
 have hs := h.sep.step (i := 2) (c := oMap d.Kp d.nKp (kindF d.fp)) (c' := oMap d.Kp (d.nKp + 1) (kindF (kStep d.fp (s, k)))) rfl hg hf (fun q hq => .inl hq)
 have hst := h.sep.stays (i := 2) (c := oMap d.Kp d.nKp (kindF d.fp)) rfl hg
 exact ⟨⟨hs, h.ofs.keep hst, h.sep.below (i := 2) (c := oMap d.Kp d.nKp (kindF d.fp)) rfl hg h.below⟩, hst⟩
theorem PlS.placeR {w0 w : World} {F : Nat → Prop} {ex : List Own} {d : PlD} (h : PlS w0 F ex d w) : FnAt w d.Kp d.nKp (kindF d.fp) := h.sep.is 2 _ rfl
theorem PlS.xcell6 {w0 w : World} {F : Nat → Prop} {ex : List Own} {d : PlD} (h : PlS w0 F ex d w) : w.cell? ⟨d.X, 0 + 6, none⟩ = some (.map (some d.Kp)) := cr h.xb rfl
theorem PlS.inR {w0 w : World} {F : Nat → Prop} {ex : List Own} {d : PlD} (h : PlS w0 F ex d w) : w.ownsRow w0.heap.size 3 1 d.vi d.is.length (inC d.is) := h.sep.is 6 _ rfl
theorem PlD.own_in (d : PlD) (base : Nat) (ex : List Own) (x : Nat) (v : Value) : ((d.own base ++ ex).set 6 (oRow base 3 1 v (d.is.length + 1) (inC d.is ++ [.int .i64 (x : Int)]))).set 1 (oBlk d.B (.cells (#[d.vp, d.vi, d.vt, d.vk, d.vo, d.va, d.vc].setIfInBounds 1 v) 183 (0, 0))) = { d with vi := v, is := d.is ++ [x] }.own base ++ ex := by
 simp only [PlD.own, List.length_append, List.length_singleton, inC_snoc]
 rfl
theorem PlS.input {w0 w w' : World} {F : Nat → Prop} {ex : List Own} {d : PlD} (h : PlS w0 F ex d w) {x g cap : Nat} (ho : w'.ownsRow w0.heap.size 3 1 (.slice (some ⟨g, 0, none⟩) (d.is.length + 1) cap) (d.is.length + 1) (inC d.is ++ [.int .i64 (x : Int)])) (hg : w.grownBy w' d.vi.ownBlock) (ha : d.vi.ownBlock = some g ∨ g = w.heap.size) : PlS w0 F ex { d with vi := .slice (some ⟨g, 0, none⟩) (d.is.length + 1) cap, is := d.is ++ [x] } (w'.setCell ⟨d.B, 1, none⟩ (.slice (some ⟨g, 0, none⟩) (d.is.length + 1) cap)) ∧ Stays F F w (w'.setCell ⟨d.B, 1, none⟩ (.slice (some ⟨g, 0, none⟩) (d.is.length + 1) cap)) ∧ w.heap.size ≤ (w'.setCell ⟨d.B, 1, none⟩ (.slice (some ⟨g, 0, none⟩) (d.is.length + 1) cap)).heap.size := by
 have h4 := h.sep.grow (i := 6) rfl ho hg ha
 have h5 := h4.set (i := 1) (b := d.B) rfl 1 (.slice (some ⟨g, 0, none⟩) (d.is.length + 1) cap)
 rw [PlD.own_in] at h5
 have hs1 := h.sep.stays (i := 6) rfl hg
 have hs2 := h4.stays (i := 1) (c := oBlk d.B d.bo) rfl (grown_set w' d.B 1 (.slice (some ⟨g, 0, none⟩) (d.is.length + 1) cap))
 exact ⟨⟨h5, (h.ofs.keep hs1).keep hs2, h4.below (i := 1) (c := oBlk d.B d.bo) rfl (grown_set w' d.B 1 _) (h.sep.below (i := 6) rfl hg h.below)⟩, hs1.trans hs2 hg.size, by rw [size_setCell]; exact hg.size⟩
theorem PlS.told {w0 w : World} {F : Nat → Prop} {ex : List Own} {d : PlD} (h : PlS w0 F ex d w) (v : Value) : (PlS w0 F ex { d with va := v } (w.setCell ⟨d.B, 5, none⟩ v) ∧ Stays F F w (w.setCell ⟨d.B, 5, none⟩ v)) ∧ PlS w0 F ex { d with vc := v } (w.setCell ⟨d.B, 6, none⟩ v) ∧ Stays F F w (w.setCell ⟨d.B, 6, none⟩ v) := by
 have s1 := h.sep.stays (i := 1) (c := oBlk d.B d.bo) rfl (grown_set w d.B 5 v)
 have s2 := h.sep.stays (i := 1) (c := oBlk d.B d.bo) rfl (grown_set w d.B 6 v)
 exact ⟨⟨⟨h.sep.set (i := 1) (b := d.B) rfl 5 v, h.ofs.keep s1, h.sep.below (i := 1) (c := oBlk d.B d.bo) rfl (grown_set w d.B 5 v) h.below⟩, s1⟩, ⟨h.sep.set (i := 1) (b := d.B) rfl 6 v, h.ofs.keep s2, h.sep.below (i := 1) (c := oBlk d.B d.bo) rfl (grown_set w d.B 6 v) h.below⟩, s2⟩
def bInput : ByteArray := ⟨#[105, 110, 112, 117, 116]⟩
def inQ : Pq := ⟨bInput, 0, [], 0, 0, false⟩
def inT : Prt := ⟨bInput, 0, [], none, 0, 0, 0, false⟩
def inF (ins : List Ex) : Nat → List UInt8 → Option Int
 | 0 => fun _ => none
 | j + 1 => match ins[j]? with
  | some x => kStep (inF ins j) (x.op, (j : Int))
  | none => inF ins j
theorem inF_step {ins : List Ex} {j : Nat} {x : Ex} (h : ins[j]? = some x) : kStep (inF ins j) (x.op, (j : Int)) = inF ins (j + 1) := by
 simp only [inF, h]
structure PlFix (d d' : PlD) : Prop where
 X : d'.X = d.X
 B : d'.B = d.B
 Kp : d'.Kp = d.Kp
 fl : d'.fl = d.fl
 v1 : d'.v1 = d.v1
 v2 : d'.v2 = d.v2
 v3 : d'.v3 = d.v3
 v4 : d'.v4 = d.v4
 v5 : d'.v5 = d.v5
 ts : d'.ts = d.ts
 os : d'.os = d.os
def nuF (fl : List UInt8 → Option Int) : List Fw → Pm × (List UInt8 → Option Int) → Pm × (List UInt8 → Option Int)
 | [], s => s
 | x :: l, s => nuF fl l ((plT fl x.e s.1).1, kStep s.2 (x.name, ((plT fl x.e s.1).2 : Nat)))
theorem nuF_take {fl : List UInt8 → Option Int} : ∀ {l : List Fw} {j : Nat} {x : Fw} {s : Pm × (List UInt8 → Option Int)}, l[j]? = some x → nuF fl (l.take (j + 1)) s = ((plT fl x.e (nuF fl (l.take j) s).1).1, kStep (nuF fl (l.take j) s).2 (x.name, ((plT fl x.e (nuF fl (l.take j) s).1).2 : Nat)))
 | [], j, x, s, h => by simp at h
 | y :: l, 0, x, s, h => by
  obtain rfl : y = x := by simpa using h
  simp [nuF]
 | y :: l, j + 1, x, s, h => by
  have := nuF_take (fl := fl) (l := l) (j := j) (x := x) (s := ((plT fl y.e s.1).1, kStep s.2 (y.name, ((plT fl y.e s.1).2 : Nat)))) (by simpa using h)
  simp only [List.take_succ_cons, nuF]
  exact this
end Go.Proofs.YtiejfopholdbnaaGreatDoor
