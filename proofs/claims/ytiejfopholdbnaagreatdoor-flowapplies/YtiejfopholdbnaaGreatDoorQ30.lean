/-
  HOW LATE TERMS ARE (mathematics), by how late names are: the least numbers that hold.
-/
import Derived.Test.YtiejfopholdbnaaGreatDoorQ25
import Derived.Deep.RegionWith
namespace Go.Proofs.YtiejfopholdbnaaGreatDoor
open Go.RowKit Go.Maps
def lArrow : List UInt8 := [45, 62]
def agoN (n : Nat) : Nat := if n + 1 < 2 then n + 1 else 2
def behN (a b : Nat) : Nat := if b = 2 then 2 else a
mutual
def ltE (f : List UInt8 → Nat) : Ex → Nat
 | .mk op _ s l => if op.data.toList = lName then f s.data.toList else if op.data.toList = lPre then agoN ((ltL f l)[0]?.getD 0) else if op.data.toList = lArrow then behN ((ltL f l)[0]?.getD 0) ((ltL f l)[1]?.getD 0) else if op.data.toList = lFby then behN ((ltL f l)[0]?.getD 0) (agoN ((ltL f l)[1]?.getD 0)) else (ltL f l).foldl Nat.max 0
def ltL (f : List UInt8 → Nat) : List Ex → List Nat
 | [] => []
 | e :: es => ltE f e :: ltL f es
end
theorem ltE_mk (f : List UInt8 → Nat) (op : ByteArray) (n : Int) (s : ByteArray) (l : List Ex) : ltE f (.mk op n s l) = if op.data.toList = lName then f s.data.toList else if op.data.toList = lPre then agoN ((ltL f l)[0]?.getD 0) else if op.data.toList = lArrow then behN ((ltL f l)[0]?.getD 0) ((ltL f l)[1]?.getD 0) else if op.data.toList = lFby then behN ((ltL f l)[0]?.getD 0) (agoN ((ltL f l)[1]?.getD 0)) else (ltL f l).foldl Nat.max 0 := by rw [ltE]
theorem ltL_map (f : List UInt8 → Nat) : ∀ l : List Ex, ltL f l = l.map (ltE f)
 | [] => by simp [ltL]
 | e :: l => by simp [ltL, ltL_map f l]
theorem ltL_at {f : List UInt8 → Nat} {l : List Ex} {i : Nat} {e : Ex} (h : l[i]? = some e) : (ltL f l)[i]?.getD 0 = ltE f e := by
 rw [ltL_map, List.getElem?_map, h]; rfl
theorem foldl_max_le {k : Nat} : ∀ (l : List Nat) (a : Nat), a ≤ k → (∀ x ∈ l, x ≤ k) → l.foldl Nat.max a ≤ k
 | [], a, ha, _ => ha
 | x :: l, a, ha, h => by
  rw [List.foldl_cons]
  refine foldl_max_le l _ ?_ fun y hy => h y (List.mem_cons_of_mem _ hy)
  have := h x (List.mem_cons_self ..)
  exact Nat.max_le.2 ⟨ha, this⟩
theorem foldl_max_mono : ∀ (l m : List Nat) (a b : Nat), a ≤ b → l.length = m.length → (∀ i : Nat, l[i]?.getD 0 ≤ m[i]?.getD 0) → l.foldl Nat.max a ≤ m.foldl Nat.max b
 | [], [], a, b, h, _, _ => h
 | [], y :: m, a, b, h, hl, _ => by simp at hl
 | x :: l, [], a, b, h, hl, _ => by simp at hl
 | x :: l, y :: m, a, b, h, hl, hi => by
  rw [List.foldl_cons, List.foldl_cons]
  refine foldl_max_mono l m _ _ ?_ (by simpa using hl) fun i => by simpa using hi (i + 1)
  have := hi 0
  simp at this
  exact Nat.max_le.2 ⟨Nat.le_trans h (Nat.le_max_left ..), Nat.le_trans this (Nat.le_max_right ..)⟩
theorem agoN_le (n : Nat) : agoN n ≤ 2 := by unfold agoN; split <;> omega
theorem agoN_mono {a b : Nat} (h : a ≤ b) : agoN a ≤ agoN b := by unfold agoN; split <;> split <;> omega
theorem behN_le {a b : Nat} (h : a ≤ 2) : behN a b ≤ 2 := by unfold behN; split <;> omega
theorem behN_mono {a b c d : Nat} (h : a ≤ b) (h2 : c ≤ d) (hb : a ≤ 2) (hd : d ≤ 2) : behN a c ≤ behN b d := by unfold behN; split <;> split <;> omega
theorem getD_le {l : List Nat} {k : Nat} (h : ∀ x ∈ l, x ≤ k) (i : Nat) : l[i]?.getD 0 ≤ k := by
 cases e : l[i]? with
 | none => exact Nat.zero_le _
 | some x => exact h x (List.mem_of_getElem? e)
mutual
theorem ltE_le {f : List UInt8 → Nat} (hf : ∀ s, f s ≤ 2) : ∀ e : Ex, ltE f e ≤ 2
 | .mk op n s l => by
  have h := ltL_le hf l
  unfold ltE
  split
  ·exact hf _
  split
  ·exact agoN_le _
  split
  ·exact behN_le (getD_le h _)
  split
  ·exact behN_le (getD_le h _)
  exact foldl_max_le _ _ (by omega) h
theorem ltL_le {f : List UInt8 → Nat} (hf : ∀ s, f s ≤ 2) : ∀ l : List Ex, ∀ x ∈ ltL f l, x ≤ 2
 | [], x, hx => by simp [ltL] at hx
 | e :: l, x, hx => by
  unfold ltL at hx
  rcases List.mem_cons.1 hx with rfl | hx
  ·exact ltE_le hf e
  ·exact ltL_le hf l x hx
end
mutual
theorem ltE_mono {f g : List UInt8 → Nat} (hf : ∀ s, f s ≤ g s) (hg : ∀ s, g s ≤ 2) : ∀ e : Ex, ltE f e ≤ ltE g e
 | .mk op n s l => by
  have h := ltL_mono hf hg l
  have h2 := ltL_le hg l
  have h1 := ltL_le (fun s => Nat.le_trans (hf s) (hg s)) l
  unfold ltE
  split
  ·exact hf _
  split
  ·exact agoN_mono (h _)
  split
  ·exact behN_mono (h _) (h _) (getD_le h1 _) (getD_le h2 _)
  split
  ·exact behN_mono (h _) (agoN_mono (h _)) (getD_le h1 _) (agoN_le _)
  exact foldl_max_mono _ _ _ _ (Nat.le_refl _) (by rw [ltL_map, ltL_map]; simp) h
theorem ltL_mono {f g : List UInt8 → Nat} (hf : ∀ s, f s ≤ g s) (hg : ∀ s, g s ≤ 2) : ∀ (l : List Ex) (i : Nat), (ltL f l)[i]?.getD 0 ≤ (ltL g l)[i]?.getD 0
 | [], i => by simp [ltL]
 | e :: l, 0 => by simpa [ltL] using ltE_mono hf hg e
 | e :: l, i + 1 => by simpa [ltL] using ltL_mono hf hg l i
end
def LtOk (fs : List Fw) (f : List UInt8 → Nat) : Prop := (∀ s, f s ≤ 2) ∧ ∀ x ∈ fs, ltE f x.e ≤ f x.name.data.toList
def LtLow (fs : List Fw) (f : List UInt8 → Nat) : Prop := (∀ s, f s ≤ 2) ∧ ∀ g, LtOk fs g → ∀ s, f s ≤ g s
def LtIs (fs : List Fw) (f : List UInt8 → Nat) : Prop := LtOk fs f ∧ ∀ g, LtOk fs g → ∀ s, f s ≤ g s
theorem LtIs.one {fs : List Fw} {f g : List UInt8 → Nat} (hf : LtIs fs f) (hg : LtIs fs g) : f = g := by
 funext s
 exact Nat.le_antisymm (hf.2 g hg.1 s) (hg.2 f hf.1 s)
theorem LtLow.start (fs : List Fw) : LtLow fs fun _ => 0 := ⟨fun _ => Nat.zero_le _, fun _ _ _ => Nat.zero_le _⟩
def ltPut (f : List UInt8 → Nat) (s : List UInt8) (n : Nat) : List UInt8 → Nat := fun t => if t = s then n else f t
theorem LtLow.put {fs : List Fw} {f : List UInt8 → Nat} (h : LtLow fs f) {x : Fw} (hx : x ∈ fs) : LtLow fs (ltPut f x.name.data.toList (ltE f x.e)) := by
 refine ⟨fun s => ?_, fun g hg s => ?_⟩
 ·unfold ltPut; split
  ·exact ltE_le h.1 _
  ·exact h.1 s
 ·unfold ltPut; split
  ·rename_i e
   rw [e]
   exact Nat.le_trans (ltE_mono (h.2 g hg) hg.1 _) (hg.2 x hx)
  ·exact h.2 g hg s
def ltLeft (fs : List Fw) (f : List UInt8 → Nat) : Nat := (fs.map fun x => 2 - f x.name.data.toList).sum
theorem sum_le_sum : ∀ (l : List Fw) (a b : Fw → Nat), (∀ x, a x ≤ b x) → (l.map a).sum ≤ (l.map b).sum
 | [], _, _, _ => by simp
 | x :: l, a, b, h => by
  have := sum_le_sum l a b h
  have := h x
  simp
  omega
theorem sum_lt_sum : ∀ (l : List Fw) (a b : Fw → Nat), (∀ x, a x ≤ b x) → ∀ y ∈ l, a y < b y → (l.map a).sum < (l.map b).sum
 | [], _, _, _, y, hy, _ => by simp at hy
 | x :: l, a, b, h, y, hy, hlt => by
  have h1 := sum_le_sum l a b h
  have h2 := h x
  rcases List.mem_cons.1 hy with rfl | hy
  ·simp; omega
  ·have := sum_lt_sum l a b h y hy hlt
   simp; omega
theorem ltLeft_put {fs : List Fw} {f : List UInt8 → Nat} {x : Fw} (hx : x ∈ fs) {n : Nat} (hn : n ≤ 2) (hlt : f x.name.data.toList < n) : ltLeft fs (ltPut f x.name.data.toList n) < ltLeft fs f := by
 refine sum_lt_sum fs _ _ (fun y => ?_) x hx ?_
 ·unfold ltPut
  split
  ·rename_i e; rw [e]; omega
  ·omega
 ·unfold ltPut
  rw [if_pos rfl]
  omega
set_option maxRecDepth 100000
set_option maxHeartbeats 4000000

mutual
def arE : Ex → Prop
 | .mk op _ _ l => (op.data.toList = lName → l.length = 0) ∧ (op.data.toList = lPre → l.length = 1) ∧ (op.data.toList = lArrow → l.length = 2) ∧ (op.data.toList = lFby → l.length = 2) ∧ arL l
def arL : List Ex → Prop
 | [] => True
 | e :: es => arE e ∧ arL es
end
theorem arL_at : ∀ {l : List Ex} {i : Nat} {e : Ex}, arL l → l[i]? = some e → arE e
 | [], i, e, _, h => by simp at h
 | x :: l, 0, e, hs, h => by
  obtain rfl : x = e := by simpa using h
  unfold arL at hs
  exact hs.1
 | x :: l, i + 1, e, hs, h => by
  unfold arL at hs
  exact arL_at hs.2 (by simpa using h)
mutual
theorem arE_fb : ∀ e : Ex, arE e → fbE e
 | .mk op n s l, h => by
  unfold arE at h
  unfold fbE
  exact ⟨fun e => by rw [h.2.2.2.1 e]; omega, arL_fb l h.2.2.2.2⟩
theorem arL_fb : ∀ l : List Ex, arL l → fbL l
 | [], _ => by unfold fbL; trivial
 | e :: l, h => by
  unfold arL at h
  unfold fbL
  exact ⟨arE_fb e h.1, arL_fb l h.2⟩
end
mutual
theorem fmE_ar {kd : List UInt8 → Option Int} : ∀ e : Ex, fmE kd e = true → arE e
 | .mk op n s l, h => by
  unfold fmE at h
  rw [Bool.and_eq_true] at h
  have h1 := (formF_ok h.1).2
  unfold arE
  have key : ∀ t : List UInt8, t ≠ lName → ∀ k, (signRow t).map (fun q => q.1.length) = some k → op.data.toList = t → l.length = k := fun t ht k hk e => by
   rw [e, if_neg ht] at h1
   obtain ⟨tk, gv, hs, hl⟩ := h1
   rw [hs] at hk
   rw [hl]
   simpa using hk
  refine ⟨fun e => ?_, key lPre (by decide) 1 (by decide), key lArrow (by decide) 2 (by decide), key lFby (by decide) 2 (by decide), fmL_ar l h.2⟩
  rw [if_pos e] at h1
  rw [h1.2]
  rfl
theorem fmL_ar {kd : List UInt8 → Option Int} : ∀ l : List Ex, fmL kd l = true → arL l
 | [], _ => by unfold arL; trivial
 | e :: l, h => by
  unfold fmL at h
  rw [Bool.and_eq_true] at h
  unfold arL
  exact ⟨fmE_ar e h.1, fmL_ar l h.2⟩
end
def GOk (g : List UInt8 → Option Int) : Prop := ∀ s, 0 ≤ (g s).getD 0 ∧ (g s).getD 0 ≤ 2
def ltG (g : List UInt8 → Option Int) : List UInt8 → Nat := fun s => ((g s).getD 0).toNat
theorem ltG_int {g : List UInt8 → Option Int} (h : GOk g) (s : List UInt8) : (g s).getD 0 = (ltG g s : Int) := by
 have := h s
 unfold ltG
 omega
theorem ltG_le {g : List UInt8 → Option Int} (h : GOk g) (s : List UInt8) : ltG g s ≤ 2 := by
 have := h s
 unfold ltG
 omega
theorem ago_any (w : World) (n : Nat) (h : n ≤ 2) : Calls Tryz.prog 95 #[.int .i64 (n : Int)] w fun e w' => e = .returned (.int .i64 (agoN n : Nat)) ∧ w' = w := by
 have hn : n = 0 ∨ n = 1 ∨ n = 2 := by omega
 rcases hn with rfl | rfl | rfl
 ·go_enter Tryz.func95, Tryz.ntmps95
  go_wp2
  go_ret
  exact ⟨rfl, rfl⟩
 ·go_enter Tryz.func95, Tryz.ntmps95
  go_wp2
  go_ret
  exact ⟨rfl, rfl⟩
 ·go_enter Tryz.func95, Tryz.ntmps95
  go_wp2
  go_ret
  exact ⟨rfl, rfl⟩
theorem behind_any (w : World) (a b : Nat) (h : b ≤ 2) : Calls Tryz.prog 96 #[.int .i64 (a : Int), .int .i64 (b : Int)] w fun e w' => e = .returned (.int .i64 (behN a b : Nat)) ∧ w' = w := by
 have hn : b = 0 ∨ b = 1 ∨ b = 2 := by omega
 rcases hn with rfl | rfl | rfl
 ·go_enter Tryz.func96, Tryz.ntmps96
  go_wp2
  go_ret
  exact ⟨rfl, rfl⟩
 ·go_enter Tryz.func96, Tryz.ntmps96
  go_wp2
  go_ret
  exact ⟨rfl, rfl⟩
 ·go_enter Tryz.func96, Tryz.ntmps96
  go_wp2
  go_ret
  exact ⟨rfl, rfl⟩
def LateC (m : Nat) : Prop := ∀ (op : ByteArray) (n : Int) (s : ByteArray) (l : List Ex), SizeOf.sizeOf l < m → ∀ (w : World) (S : Nat → Prop) (o : Option Addr) (c : Nat) (ys : List Value) (K nK : Nat) (g : List UInt8 → Option Int), FnAt w K nK (kindF g) → GOk g → smE (.mk op n s l) → arE (.mk op n s l) → RowAt w S 4 (.slice o l.length c) l.length ys → ExIn w S l ys →
  Calls Tryz.prog 49 #[.agg #[.string op, .int .i64 n, .string s, .slice o l.length c], .map (some K)] w fun e w' => e = .returned (.int .i64 (ltE (ltG g) (.mk op n s l) : Nat)) ∧ Below w.heap.size w w'
structure LaA (w : World) (S : Nat → Prop) (B1 B2 : Nat) (op : ByteArray) (n : Int) (s : ByteArray) (l : List Ex) (o : Option Addr) (c : Nat) (ys : List Value) (K nK : Nat) (g : List UInt8 → Option Int) : Prop where
 b1 : w.heap[B1]? = some (.cells #[.string op, .int .i64 n, .string s, .slice o l.length c] 92 (0, 0))
 b2 : w.heap[B2]? = some (.cells #[.map (some K)] 96 (0, 0))
 fn : FnAt w K nK (kindF g)
 row : RowAt w S 4 (.slice o l.length c) l.length ys
 ex : ExIn w S l ys
theorem LaA.keep {w w' : World} {S : Nat → Prop} {B1 B2 : Nat} {op : ByteArray} {n : Int} {s : ByteArray} {l : List Ex} {o : Option Addr} {c : Nat} {ys : List Value} {K nK : Nat} {g : List UInt8 → Option Int} (h : LaA w S B1 B2 op n s l o c ys K nK g) (hb : Below w.heap.size w w') : LaA w' S B1 B2 op n s l o c ys K nK g :=
 ⟨row_keep hb h.b1, row_keep hb h.b2, h.fn.kept (hb.block _ h.fn.lt), h.row.keep (fun b hB hl => ⟨hB, hb.block b hl⟩), h.ex.keep (fun b hB hl => ⟨hB, hb.block b hl⟩)⟩
theorem late1_any {m : Nat} (IH : LateC m) {w : World} {S : Nat → Prop} {B1 B2 : Nat} {op : ByteArray} {n : Int} {s : ByteArray} {l : List Ex} {o : Option Addr} {c : Nat} {ys : List Value} {K nK : Nat} {g : List UInt8 → Option Int} (h : LaA w S B1 B2 op n s l o c ys K nK g) (hg : GOk g) (hsm : smL l) (har : arL l) (hm : SizeOf.sizeOf l < m + 1) {i : Nat} {x : Ex} (hi : l[i]? = some x) :
  Calls Tryz.prog 94 #[.int .i64 (i : Int), .pointer (some ⟨B1, 0, none⟩), .pointer (some ⟨B2, 0, none⟩)] w fun e w' => e = .returned (.int .i64 (ltE (ltG g) x : Nat)) ∧ Below w.heap.size w w' := by
 have hil := (List.getElem?_eq_some_iff.1 hi).1
 obtain ⟨op', n', s', es, oo, cc, zs, e, x0, x1, x2, x3, r1, r2⟩ := h.ex.at hil
 obtain ⟨p, f, cp, ev, _, _, gg⟩ := h.row.at (by have := h.row.1; omega)
 obtain ⟨rfl, rfl⟩ : o = some ⟨p, f, none⟩ ∧ c = cp := by simpa using ev
 have y0 := gg _ _ x0
 have y1 := gg _ _ x1
 have y2 := gg _ _ x2
 have y3 := gg _ _ x3
 rw [← Nat.add_assoc] at y1 y2 y3
 have i0' : (0 : Int) ≤ (i : Int) := by omega
 have i1' : (i : Int) < (l.length : Int) := by omega
 have hx : x = .mk op' n' s' es := by rw [List.getElem?_eq_getElem hil, e] at hi; exact (Option.some.inj hi).symm
 subst hx
 have c3 : w.cell? ⟨B1, 0 + 3, none⟩ = some (.slice (some ⟨p, f, none⟩) l.length c) := cr h.b1 rfl
 have c4 : w.cell? ⟨B2, 0, none⟩ = some (.map (some K)) := cr h.b2 rfl
 have HC : Hid (∀ W, Below w.heap.size w W → Calls Tryz.prog 49 #[.agg #[.string op', .int .i64 n', .string s', .slice oo es.length cc], .map (some K)] W fun e w' => e = .returned (.int .i64 (ltE (ltG g) (.mk op' n' s' es) : Nat)) ∧ Below w.heap.size w w') := fun W hW => by
  have hst : Stays S S w W := fun b hB hl => ⟨hB, hW.block b hl⟩
  refine (IH op' n' s' es (by have := size_part hil e; omega) W S oo cc zs K nK g (h.fn.kept (hW.block _ h.fn.lt)) hg (smL_at hsm hi) (arL_at har hi) (r1.keep hst) (r2.keep hst)).mono ?_
  rintro e w' ⟨rfl, hb⟩
  exact ⟨rfl, hW.trans (hb.mono hW.size)⟩
 clear IH h hg hsm har hm hi e x0 x1 x2 x3 r1 r2 ev gg hil
 go_enter Tryz.func94, Tryz.ntmps94
 go_upto_region 1 with fail
 go_region_with (go_at_call 49; refine (HC.out _ (by first | exact Below.refl _ _ | exact (Below.refl _ _).drew)).mono ?_; rintro e w6 ⟨rfl, hb6⟩; have HB6 : Hid (Below w.heap.size w w6) := hb6)
 all_goals go_wp2
 all_goals go_ret
 all_goals exact ⟨rfl, HB6.out⟩
theorem lateOf_any : ∀ m : Nat, LateC m
 | 0 => fun _ _ _ _ h => absurd h (Nat.not_lt_zero _)
 | m + 1 => by
  have IH := lateOf_any m
  intro op n s l hm w S o c ys K nK g hF hg hsm har hrow hex
  unfold smE at hsm
  unfold arE at har
  obtain ⟨a1, a2, a3, a4, a5⟩ := har
  have hml := hrow.2.1
  unfold maxLen at hml
  obtain ⟨w1, hw1⟩ : ∃ w1, w1 = w.alloc (.cells #[.string op, .int .i64 n, .string s, .slice o l.length c] 92) := ⟨_, rfl⟩
  obtain ⟨w2, hw2⟩ : ∃ w2, w2 = w1.alloc (.cells #[.map (some K)] 96) := ⟨_, rfl⟩
  have hb1 : Below w.heap.size w w1 := by rw [hw1]; exact bal
  have hb2 : Below w1.heap.size w1 w2 := by rw [hw2]; exact bal
  have hs1 : w1.heap.size = w.heap.size + 1 := by rw [hw1]; simp
  have hbb : Below w.heap.size w w2 := hb1.trans (hb2.mono hb1.size)
  have hst : Stays S S w w2 := fun b hB hl => ⟨hB, hbb.block b hl⟩
  have hr1 : w1.heap[w.heap.size]? = some (.cells #[.string op, .int .i64 n, .string s, .slice o l.length c] 92 (0, 0)) := by rw [hw1]; exact heap_alloc_new _ _
  have hr2 : w2.heap[w.heap.size + 1]? = some (.cells #[.map (some K)] 96 (0, 0)) := by rw [hw2, ← hs1]; exact heap_alloc_new _ _
  obtain ⟨B1, hB1⟩ : ∃ B1, B1 = w.heap.size := ⟨_, rfl⟩
  obtain ⟨B2, hB2⟩ : ∃ B2, B2 = w.heap.size + 1 := ⟨_, rfl⟩
  have hLA : LaA w2 S B1 B2 op n s l o c ys K nK g := ⟨by rw [hB1]; exact row_keep hb2 hr1, by rw [hB2]; exact hr2, hF.kept (hbb.block _ hF.lt), hrow.keep hst, hex.keep hst⟩
  have c0 : w2.cell? ⟨B1, 0, none⟩ = some (.string op) := cr hLA.b1 rfl
  have c2 : w2.cell? ⟨B1, 0 + 2, none⟩ = some (.string s) := cr hLA.b1 rfl
  have c3 : w2.cell? ⟨B1, 0 + 3, none⟩ = some (.slice o l.length c) := cr hLA.b1 rfl
  have c4 : w2.cell? ⟨B2, 0, none⟩ = some (.map (some K)) := cr hLA.b2 rfl
  have HL1 : Hid (∀ (W : World) (i : Nat) (x : Ex), Below w2.heap.size w2 W → l[i]? = some x → Calls Tryz.prog 94 #[.int .i64 (i : Int), .pointer (some ⟨B1, 0, none⟩), .pointer (some ⟨B2, 0, none⟩)] W fun e w' => e = .returned (.int .i64 (ltE (ltG g) x : Nat)) ∧ Below w2.heap.size w2 w') := fun W i x hW hi => by
   refine (late1_any IH (hLA.keep hW) hg hsm.2.2 a5 hm hi).mono ?_
   rintro e w' ⟨rfl, hb⟩
   exact ⟨rfl, hW.trans (hb.mono hW.size)⟩
  have HW : Hid (w.alloc (.cells #[.string op, .int .i64 n, .string s, .slice o l.length c] 92) = w1 ∧ w1.alloc (.cells #[.map (some K)] 96) = w2 ∧ w.heap.size + 1 = B2 ∧ w.heap.size = B1) := ⟨hw1.symm, hw2.symm, hB2.symm, hB1.symm⟩
  have HBB := hidP hbb
  have HML : Hid (l.length ≤ 9223372036854775807) := by unfold Hid; omega
  have HG : Hid (∀ s, ltG g s ≤ 2) := fun s => ltG_le hg s
  by_cases ho : op.data.toList = lName
  ·have HE : Hid (ltE (ltG g) (.mk op n s l) = ltG g s.data.toList) := by unfold Hid; rw [ltE_mk, if_pos ho]
   have dn : (op.toList == [110, 97, 109, 101]) = true := by rw [ByteArray.toList_eq, ho]; rfl
   have hlk := hLA.fn.look1 Tryz.underlying96 (zero_int w2) s hsm.2.1
   have e1 : (kindF g s.data.toList).getD (.int .i64 0) = .int .i64 ((g s.data.toList).getD 0) := zero_getD _
   rw [e1, ltG_int hg] at hlk
   clear IH hm hF hg hsm a1 a2 a3 a4 a5 hrow hex hml hw1 hw2 hb1 hb2 hs1 hbb hst hr1 hr2 hB1 hB2 hLA e1 ho c3
   go_enter Tryz.func49, Tryz.ntmps49
   go_upto_region 1 with fail
   rw [HW.out.1, HW.out.2.2.1, HW.out.2.1, HW.out.2.2.2]
   go_wp2
   go_ret
   exact ⟨by rw [HE.out]; rfl, HBB.out⟩
  have hn := ho
  clear ho
  by_cases ho : op.data.toList = lPre
  ·obtain ⟨x, hx⟩ : ∃ x, l[0]? = some x := ⟨_, List.getElem?_eq_getElem (by rw [a2 ho]; omega)⟩
   have HE : Hid (ltE (ltG g) (.mk op n s l) = agoN (ltE (ltG g) x)) := by unfold Hid; rw [ltE_mk, if_neg hn, if_pos ho, ltL_at hx]
   have dn : (op.toList == [110, 97, 109, 101]) = false := by rw [ByteArray.toList_eq, ho]; rfl
   have dp : (op.toList == [112, 114, 101]) = true := by rw [ByteArray.toList_eq, ho]; rfl
   have HC0 : Hid (Calls Tryz.prog 94 #[.int .i64 0, .pointer (some ⟨B1, 0, none⟩), .pointer (some ⟨B2, 0, none⟩)] w2 fun e w' => e = .returned (.int .i64 (ltE (ltG g) x : Nat)) ∧ Below w2.heap.size w2 w') := HL1.out w2 0 x (Below.refl _ _) hx
   obtain ⟨k, hk⟩ : ∃ k, k = ltE (ltG g) x := ⟨_, rfl⟩
   have HK : Hid (k ≤ 2) := by unfold Hid; rw [hk]; exact ltE_le HG.out x
   rw [← hk] at HC0 HE
   have HAG : Hid (∀ W, Calls Tryz.prog 95 #[.int .i64 (k : Int)] W fun e w' => e = .returned (.int .i64 (agoN k : Nat)) ∧ w' = W) := fun W => ago_any W k HK.out
   clear IH hm hF hg hsm a1 a2 a3 a4 a5 hrow hex hml hw1 hw2 hb1 hb2 hs1 hbb hst hr1 hr2 hB1 hB2 hLA ho hn hx hk c2 c3 c4
   go_enter Tryz.func49, Tryz.ntmps49
   go_upto_region 1 with fail
   rw [HW.out.1, HW.out.2.2.1, HW.out.2.1, HW.out.2.2.2]
   go_wp2_with fail
   refine HC0.out.mono ?_
   rintro e w3 ⟨rfl, hb3⟩
   have HB3 := hidP hb3
   clear hb3 c0
   go_wp2_with fail
   refine (HAG.out w3).mono ?_
   rintro e w4 ⟨rfl, hw4⟩
   subst hw4
   go_wp2
   go_ret
   exact ⟨by rw [HE.out]; rfl, HBB.out.trans (HB3.out.mono HBB.out.size)⟩
  have hp := ho
  clear ho
  by_cases ho : op.data.toList = lArrow
  ·obtain ⟨x, hx⟩ : ∃ x, l[0]? = some x := ⟨_, List.getElem?_eq_getElem (by rw [a3 ho]; omega)⟩
   obtain ⟨y, hy⟩ : ∃ x, l[1]? = some x := ⟨_, List.getElem?_eq_getElem (by rw [a3 ho]; omega)⟩
   have HE : Hid (ltE (ltG g) (.mk op n s l) = behN (ltE (ltG g) x) (ltE (ltG g) y)) := by unfold Hid; rw [ltE_mk, if_neg hn, if_neg hp, if_pos ho, ltL_at hx, ltL_at hy]
   have dn : (op.toList == [110, 97, 109, 101]) = false := by rw [ByteArray.toList_eq, ho]; rfl
   have dp : (op.toList == [112, 114, 101]) = false := by rw [ByteArray.toList_eq, ho]; rfl
   have da : (op.toList == [45, 62]) = true := by rw [ByteArray.toList_eq, ho]; rfl
   have HC0 : Hid (Calls Tryz.prog 94 #[.int .i64 0, .pointer (some ⟨B1, 0, none⟩), .pointer (some ⟨B2, 0, none⟩)] w2 fun e w' => e = .returned (.int .i64 (ltE (ltG g) x : Nat)) ∧ Below w2.heap.size w2 w') := HL1.out w2 0 x (Below.refl _ _) hx
   have HC1 : Hid (∀ W, Below w2.heap.size w2 W → Calls Tryz.prog 94 #[.int .i64 1, .pointer (some ⟨B1, 0, none⟩), .pointer (some ⟨B2, 0, none⟩)] W fun e w' => e = .returned (.int .i64 (ltE (ltG g) y : Nat)) ∧ Below w2.heap.size w2 w') := fun W hW => HL1.out W 1 y hW hy
   obtain ⟨k, hk⟩ : ∃ k, k = ltE (ltG g) x := ⟨_, rfl⟩
   obtain ⟨j, hj⟩ : ∃ k, k = ltE (ltG g) y := ⟨_, rfl⟩
   have HK : Hid (j ≤ 2) := by unfold Hid; rw [hj]; exact ltE_le HG.out y
   rw [← hk, ← hj] at HE
   rw [← hk] at HC0
   rw [← hj] at HC1
   have HBE : Hid (∀ W, Calls Tryz.prog 96 #[.int .i64 (k : Int), .int .i64 (j : Int)] W fun e w' => e = .returned (.int .i64 (behN k j : Nat)) ∧ w' = W) := fun W => behind_any W k j HK.out
   clear IH hm hF hg hsm a1 a2 a3 a4 a5 hrow hex hml hw1 hw2 hb1 hb2 hs1 hbb hst hr1 hr2 hB1 hB2 hLA ho hn hp hx hy hk hj c2 c3 c4
   go_enter Tryz.func49, Tryz.ntmps49
   go_upto_region 1 with fail
   rw [HW.out.1, HW.out.2.2.1, HW.out.2.1, HW.out.2.2.2]
   go_wp2_with fail
   refine HC0.out.mono ?_
   rintro e w3 ⟨rfl, hb3⟩
   have HB3 := hidP hb3
   clear hb3 c0
   go_wp2_with fail
   refine (HC1.out w3 HB3.out).mono ?_
   rintro e w4 ⟨rfl, hb4⟩
   have HB4 := hidP hb4
   clear hb4
   go_wp2_with fail
   refine (HBE.out w4).mono ?_
   rintro e w5 ⟨rfl, hw5⟩
   subst hw5
   go_wp2
   go_ret
   exact ⟨by rw [HE.out]; rfl, HBB.out.trans (HB4.out.mono HBB.out.size)⟩
  have ha := ho
  clear ho
  by_cases ho : op.data.toList = lFby
  ·obtain ⟨x, hx⟩ : ∃ x, l[0]? = some x := ⟨_, List.getElem?_eq_getElem (by rw [a4 ho]; omega)⟩
   obtain ⟨y, hy⟩ : ∃ x, l[1]? = some x := ⟨_, List.getElem?_eq_getElem (by rw [a4 ho]; omega)⟩
   have HE : Hid (ltE (ltG g) (.mk op n s l) = behN (ltE (ltG g) x) (agoN (ltE (ltG g) y))) := by unfold Hid; rw [ltE_mk, if_neg hn, if_neg hp, if_neg ha, if_pos ho, ltL_at hx, ltL_at hy]
   have dn : (op.toList == [110, 97, 109, 101]) = false := by rw [ByteArray.toList_eq, ho]; rfl
   have dp : (op.toList == [112, 114, 101]) = false := by rw [ByteArray.toList_eq, ho]; rfl
   have da : (op.toList == [45, 62]) = false := by rw [ByteArray.toList_eq, ho]; rfl
   have df : (op.toList == [102, 98, 121]) = true := by rw [ByteArray.toList_eq, ho]; rfl
   have HC0 : Hid (Calls Tryz.prog 94 #[.int .i64 0, .pointer (some ⟨B1, 0, none⟩), .pointer (some ⟨B2, 0, none⟩)] w2 fun e w' => e = .returned (.int .i64 (ltE (ltG g) x : Nat)) ∧ Below w2.heap.size w2 w') := HL1.out w2 0 x (Below.refl _ _) hx
   have HC1 : Hid (∀ W, Below w2.heap.size w2 W → Calls Tryz.prog 94 #[.int .i64 1, .pointer (some ⟨B1, 0, none⟩), .pointer (some ⟨B2, 0, none⟩)] W fun e w' => e = .returned (.int .i64 (ltE (ltG g) y : Nat)) ∧ Below w2.heap.size w2 w') := fun W hW => HL1.out W 1 y hW hy
   obtain ⟨k, hk⟩ : ∃ k, k = ltE (ltG g) x := ⟨_, rfl⟩
   obtain ⟨j, hj⟩ : ∃ k, k = ltE (ltG g) y := ⟨_, rfl⟩
   have HK : Hid (j ≤ 2) := by unfold Hid; rw [hj]; exact ltE_le HG.out y
   rw [← hk, ← hj] at HE
   rw [← hk] at HC0
   rw [← hj] at HC1
   have HAG : Hid (∀ W, Calls Tryz.prog 95 #[.int .i64 (j : Int)] W fun e w' => e = .returned (.int .i64 (agoN j : Nat)) ∧ w' = W) := fun W => ago_any W j HK.out
   have HBE : Hid (∀ W, Calls Tryz.prog 96 #[.int .i64 (k : Int), .int .i64 (agoN j : Nat)] W fun e w' => e = .returned (.int .i64 (behN k (agoN j) : Nat)) ∧ w' = W) := fun W => behind_any W k _ (agoN_le j)
   clear IH hm hF hg hsm a1 a2 a3 a4 a5 hrow hex hml hw1 hw2 hb1 hb2 hs1 hbb hst hr1 hr2 hB1 hB2 hLA ho hn hp ha hx hy hk hj c2 c3 c4
   go_enter Tryz.func49, Tryz.ntmps49
   go_upto_region 1 with fail
   rw [HW.out.1, HW.out.2.2.1, HW.out.2.1, HW.out.2.2.2]
   go_wp2_with fail
   refine HC0.out.mono ?_
   rintro e w3 ⟨rfl, hb3⟩
   have HB3 := hidP hb3
   clear hb3 c0
   go_wp2_with fail
   refine (HC1.out w3 HB3.out).mono ?_
   rintro e w4 ⟨rfl, hb4⟩
   have HB4 := hidP hb4
   clear hb4
   go_wp2_with fail
   refine (HAG.out w4).mono ?_
   rintro e w5 ⟨rfl, hw5⟩
   subst hw5
   go_wp2_with fail
   refine (HBE.out w5).mono ?_
   rintro e w6 ⟨rfl, hw6⟩
   subst hw6
   go_wp2
   go_ret
   exact ⟨by rw [HE.out]; rfl, HBB.out.trans (HB4.out.mono HBB.out.size)⟩
  have hf := ho
  clear ho
  have HE : Hid (ltE (ltG g) (.mk op n s l) = (ltL (ltG g) l).foldl Nat.max 0) := by unfold Hid; rw [ltE_mk, if_neg hn, if_neg hp, if_neg ha, if_neg hf]
  have dn : (op.toList == [110, 97, 109, 101]) = false := by rw [ByteArray.toList_eq]; exact beq_eq_false_iff_ne.2 hn
  have dp : (op.toList == [112, 114, 101]) = false := by rw [ByteArray.toList_eq]; exact beq_eq_false_iff_ne.2 hp
  have da : (op.toList == [45, 62]) = false := by rw [ByteArray.toList_eq]; exact beq_eq_false_iff_ne.2 ha
  have df : (op.toList == [102, 98, 121]) = false := by rw [ByteArray.toList_eq]; exact beq_eq_false_iff_ne.2 hf
  clear IH hm hF hg hsm a1 a2 a3 a4 a5 hrow hex hml hw1 hw2 hb1 hb2 hs1 hbb hst hr1 hr2 hB1 hB2 hLA hn hp ha hf c2 c4
  go_enter Tryz.func49, Tryz.ntmps49
  go_upto_region 1 with fail
  rw [HW.out.1, HW.out.2.2.1, HW.out.2.1, HW.out.2.2.2]
  go_wp2
  clear c0 c3
  go_loopw [6, 40] (fun v t wr => ∃ (j q : Nat), j ≤ l.length ∧ t = .int .i64 j ∧ v = .int .i64 q ∧ Hid (q = ((ltL (ltG g) l).take j).foldl Nat.max 0 ∧ Below w2.heap.size w2 wr)) (fun _ t _ => l.length - (intOf t).toNat)
  case atStart => exact ⟨0, 0, Nat.zero_le _, rfl, rfl, rfl, Below.refl _ _⟩
  case round =>
   obtain ⟨j, q, hj, rfl, rfl, HR⟩ := hrel
   by_cases hjl : j < l.length
   ·obtain ⟨x, hx⟩ : ∃ x, l[j]? = some x := ⟨_, List.getElem?_eq_getElem hjl⟩
    obtain ⟨k, hk⟩ : ∃ k, k = ltE (ltG g) x := ⟨_, rfl⟩
    have hca := HL1.out wr j x HR.out.2 hx
    rw [← hk] at hca
    have HCA := hidP hca
    have HQ : Hid (Nat.max q k = ((ltL (ltG g) l).take (j + 1)).foldl Nat.max 0) := by
     unfold Hid
     have h1 : (ltL (ltG g) l)[j]? = some k := by rw [ltL_map, List.getElem?_map, hx, hk]; rfl
     rw [List.take_add_one, h1, HR.out.1]
     simp
    have HJ := hidP hjl
    have N4 : Hid (wrap64 ((j : Int) + 1) = (j : Int) + 1) := by have := HML.out; have := HJ.out; unfold Hid wrap64; omega
    have i1' : (j : Int) < (l.length : Int) := by omega
    clear hca hx hk hj hjl HR
    go_wp2_with fail
    refine HCA.out.mono ?_
    rintro e w4 ⟨rfl, hb4⟩
    have HB4 := hidP hb4
    clear hb4
    by_cases hqk : q ≤ k
    ·have d1 : decide ((k : Int) < (q : Int)) = false := by simp; omega
     have d2 : ((k : Int) < (q : Int)) = False := by simp; omega
     have HQC := hidP hqk
     have HQK : Hid (Nat.max q k = k) := Nat.max_eq_right hqk
     clear hqk
     go_wp2
     exact ⟨⟨j + 1, k, HJ.out, by rw [N4.out]; rfl, by congr 1; have := HQC.out; split <;> omega, by rw [← HQ.out, HQK.out], HB4.out⟩, by rw [N4.out]; have := HJ.out; simp [intOf]; omega⟩
    ·have d1 : decide ((k : Int) < (q : Int)) = true := by simp; omega
     have HQC := hidP hqk
     have HQK : Hid (Nat.max q k = q) := Nat.max_eq_left (by omega)
     clear hqk
     go_wp2
     exact ⟨⟨j + 1, q, HJ.out, by rw [N4.out]; rfl, by congr 1; have := HQC.out; split <;> omega, by rw [← HQ.out, HQK.out], HB4.out⟩, by rw [N4.out]; have := HJ.out; simp [intOf]; omega⟩
   ·obtain rfl : j = l.length := by omega
    have HEE : Hid (q = ltE (ltG g) (.mk op n s l) ∧ Below w.heap.size w wr) := by
     refine ⟨?_, HBB.out.trans (HR.out.2.mono HBB.out.size)⟩
     rw [HE.out, HR.out.1, List.take_of_length_le (by rw [ltL_map]; simp)]
    clear hj hjl HR
    go_wp2
    go_ret
    exact ⟨by rw [HEE.out.1]; rfl, HEE.out.2⟩
end Go.Proofs.YtiejfopholdbnaaGreatDoor
