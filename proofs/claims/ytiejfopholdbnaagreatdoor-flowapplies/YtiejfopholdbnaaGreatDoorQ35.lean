/-
  package flow: WHAT EACH OPERATOR ANSWERS OF RIGHT VALUES.
-/
import Derived.Test.YtiejfopholdbnaaGreatDoorQ33
import Derived.Test.YtiejfopholdbnaaGreatDoorQ34
namespace Go.Proofs.YtiejfopholdbnaaGreatDoor
open Go.RowKit Go.Maps
inductive Six : FuncId → Array Value → Prop
 | c1 : Six 111 #[]
 | c2 : Six 112 #[]
 | c3 : Six 114 #[]
 | c4 (p : Nat) : Six 116 #[.pointer (some ⟨p, 0, none⟩)]
 | c5 (p : Nat) : Six 118 #[.pointer (some ⟨p, 0, none⟩)]
 | c6 (p : Nat) : Six 120 #[.pointer (some ⟨p, 0, none⟩)]
def DoA (op : List UInt8) (l : List (Int × Int)) (r : Int) (tr : Bool) : Prop :=
 ∀ W B, OpsAt W B → ∃ f n, FnAt W B n f ∧ ∃ fid cap, f op = some (.func (.func fid) #[] cap) ∧ Six fid cap ∧ ∀ w v, Below W.heap.size W w → KindsAt w v (l.map Prod.snd) → Calls Tryz.prog fid (#[v] ++ cap) w fun e w' => e = .returned (.tuple #[.int .i64 r, .bool tr]) ∧ Below w.heap.size w w'
def ApC (op : List UInt8) (l : List (Int × Int)) : Prop :=
 (isI op l = 5 ∧ resK op (l.map Prod.fst) = none) ∨ (isI op l = 0 ∧ ∃ k r tr, resK op (l.map Prod.fst) = some k ∧ appT op l = (if tr = true then ((0, 0), true) else ((k, r), false)) ∧ DoA op l r tr)
theorem right_bool {a : Int} (h : rightB 1 a 1 = true) : a = 0 ∨ a = 1 := by
 unfold rightB at h
 simp at h
 omega
theorem ap_reckonings_1 (l : List (Int × Int)) (hl : l.length = 2) (hr : allR l = true) : ApC [43] l := by
 match l, hl with
 | [(k1, a), (k2, b)], _ =>
  have r1 := List.all_eq_true.1 hr (k1, a) (by simp)
  have r2 := List.all_eq_true.1 hr (k2, b) (by simp)
  obtain ⟨h1, s1⟩ := right_kind r1
  obtain ⟨h2, s2⟩ := right_kind r2
  rcases h1 with rfl | rfl <;> rcases h2 with rfl | rfl
  ·exact .inl ⟨by show isAns (allR _) _ = 5; rw [hr]; rfl, by rfl⟩
  ·exact .inl ⟨by show isAns (allR _) _ = 5; rw [hr]; rfl, by rfl⟩
  ·exact .inl ⟨by show isAns (allR _) _ = 5; rw [hr]; rfl, by rfl⟩
  ·refine .inr ⟨by show isAns (allR _) _ = 0; rw [hr]; rfl, 2, aroundI (a + b), false, by rfl, by first | rfl | simp [appT], fun W B hO => ?_⟩
   obtain ⟨f, n, hF, h4, h5, h6, h7⟩ := hO
   obtain ⟨p, e1, e2⟩ := h4 [43] (fnV 153) (by rfl)
   exact ⟨f, n, hF, _, _, e1, Six.c4 p, fun w v hb hv => op_reckonings_1 p a b v w hv (cell_keep hb e2) s1 s2⟩
theorem ap_reckonings_2 (l : List (Int × Int)) (hl : l.length = 2) (hr : allR l = true) : ApC [45] l := by
 match l, hl with
 | [(k1, a), (k2, b)], _ =>
  have r1 := List.all_eq_true.1 hr (k1, a) (by simp)
  have r2 := List.all_eq_true.1 hr (k2, b) (by simp)
  obtain ⟨h1, s1⟩ := right_kind r1
  obtain ⟨h2, s2⟩ := right_kind r2
  rcases h1 with rfl | rfl <;> rcases h2 with rfl | rfl
  ·exact .inl ⟨by show isAns (allR _) _ = 5; rw [hr]; rfl, by rfl⟩
  ·exact .inl ⟨by show isAns (allR _) _ = 5; rw [hr]; rfl, by rfl⟩
  ·exact .inl ⟨by show isAns (allR _) _ = 5; rw [hr]; rfl, by rfl⟩
  ·refine .inr ⟨by show isAns (allR _) _ = 0; rw [hr]; rfl, 2, aroundI (a - b), false, by rfl, by first | rfl | simp [appT], fun W B hO => ?_⟩
   obtain ⟨f, n, hF, h4, h5, h6, h7⟩ := hO
   obtain ⟨p, e1, e2⟩ := h4 [45] (fnV 154) (by rfl)
   exact ⟨f, n, hF, _, _, e1, Six.c4 p, fun w v hb hv => op_reckonings_2 p a b v w hv (cell_keep hb e2) s1 s2⟩
theorem ap_reckonings_3 (l : List (Int × Int)) (hl : l.length = 2) (hr : allR l = true) : ApC [42] l := by
 match l, hl with
 | [(k1, a), (k2, b)], _ =>
  have r1 := List.all_eq_true.1 hr (k1, a) (by simp)
  have r2 := List.all_eq_true.1 hr (k2, b) (by simp)
  obtain ⟨h1, s1⟩ := right_kind r1
  obtain ⟨h2, s2⟩ := right_kind r2
  rcases h1 with rfl | rfl <;> rcases h2 with rfl | rfl
  ·exact .inl ⟨by show isAns (allR _) _ = 5; rw [hr]; rfl, by rfl⟩
  ·exact .inl ⟨by show isAns (allR _) _ = 5; rw [hr]; rfl, by rfl⟩
  ·exact .inl ⟨by show isAns (allR _) _ = 5; rw [hr]; rfl, by rfl⟩
  ·refine .inr ⟨by show isAns (allR _) _ = 0; rw [hr]; rfl, 2, aroundI (a * b), false, by rfl, by first | rfl | simp [appT], fun W B hO => ?_⟩
   obtain ⟨f, n, hF, h4, h5, h6, h7⟩ := hO
   obtain ⟨p, e1, e2⟩ := h4 [42] (fnV 155) (by rfl)
   exact ⟨f, n, hF, _, _, e1, Six.c4 p, fun w v hb hv => op_reckonings_3 p a b v w hv (cell_keep hb e2) s1 s2⟩
theorem ap_truths_1 (l : List (Int × Int)) (hl : l.length = 2) (hr : allR l = true) : ApC [97, 110, 100] l := by
 match l, hl with
 | [(k1, a), (k2, b)], _ =>
  have r1 := List.all_eq_true.1 hr (k1, a) (by simp)
  have r2 := List.all_eq_true.1 hr (k2, b) (by simp)
  obtain ⟨h1, s1⟩ := right_kind r1
  obtain ⟨h2, s2⟩ := right_kind r2
  rcases h1 with rfl | rfl <;> rcases h2 with rfl | rfl
  ·refine .inr ⟨by show isAns (allR _) _ = 0; rw [hr]; rfl, 1, truthI (a + b == 2), false, by rfl, by first | rfl | simp [appT], fun W B hO => ?_⟩
   obtain ⟨f, n, hF, h4, h5, h6, h7⟩ := hO
   obtain ⟨p, e1, e2⟩ := h6 [97, 110, 100] (fnV 158) (by rfl)
   exact ⟨f, n, hF, _, _, e1, Six.c6 p, fun w v hb hv => op_truths_1 p a b v w hv (cell_keep hb e2) (right_bool r1) (right_bool r2)⟩
  ·exact .inl ⟨by show isAns (allR _) _ = 5; rw [hr]; rfl, by rfl⟩
  ·exact .inl ⟨by show isAns (allR _) _ = 5; rw [hr]; rfl, by rfl⟩
  ·exact .inl ⟨by show isAns (allR _) _ = 5; rw [hr]; rfl, by rfl⟩
theorem ap_truths_2 (l : List (Int × Int)) (hl : l.length = 2) (hr : allR l = true) : ApC [111, 114] l := by
 match l, hl with
 | [(k1, a), (k2, b)], _ =>
  have r1 := List.all_eq_true.1 hr (k1, a) (by simp)
  have r2 := List.all_eq_true.1 hr (k2, b) (by simp)
  obtain ⟨h1, s1⟩ := right_kind r1
  obtain ⟨h2, s2⟩ := right_kind r2
  rcases h1 with rfl | rfl <;> rcases h2 with rfl | rfl
  ·refine .inr ⟨by show isAns (allR _) _ = 0; rw [hr]; rfl, 1, truthI (decide (0 < a + b)), false, by rfl, by first | rfl | simp [appT], fun W B hO => ?_⟩
   obtain ⟨f, n, hF, h4, h5, h6, h7⟩ := hO
   obtain ⟨p, e1, e2⟩ := h6 [111, 114] (fnV 159) (by rfl)
   exact ⟨f, n, hF, _, _, e1, Six.c6 p, fun w v hb hv => op_truths_2 p a b v w hv (cell_keep hb e2) (right_bool r1) (right_bool r2)⟩
  ·exact .inl ⟨by show isAns (allR _) _ = 5; rw [hr]; rfl, by rfl⟩
  ·exact .inl ⟨by show isAns (allR _) _ = 5; rw [hr]; rfl, by rfl⟩
  ·exact .inl ⟨by show isAns (allR _) _ = 5; rw [hr]; rfl, by rfl⟩
theorem ap_truths_3 (l : List (Int × Int)) (hl : l.length = 2) (hr : allR l = true) : ApC [120, 111, 114] l := by
 match l, hl with
 | [(k1, a), (k2, b)], _ =>
  have r1 := List.all_eq_true.1 hr (k1, a) (by simp)
  have r2 := List.all_eq_true.1 hr (k2, b) (by simp)
  obtain ⟨h1, s1⟩ := right_kind r1
  obtain ⟨h2, s2⟩ := right_kind r2
  rcases h1 with rfl | rfl <;> rcases h2 with rfl | rfl
  ·refine .inr ⟨by show isAns (allR _) _ = 0; rw [hr]; rfl, 1, truthI (a + b == 1), false, by rfl, by first | rfl | simp [appT], fun W B hO => ?_⟩
   obtain ⟨f, n, hF, h4, h5, h6, h7⟩ := hO
   obtain ⟨p, e1, e2⟩ := h6 [120, 111, 114] (fnV 160) (by rfl)
   exact ⟨f, n, hF, _, _, e1, Six.c6 p, fun w v hb hv => op_truths_3 p a b v w hv (cell_keep hb e2) (right_bool r1) (right_bool r2)⟩
  ·exact .inl ⟨by show isAns (allR _) _ = 5; rw [hr]; rfl, by rfl⟩
  ·exact .inl ⟨by show isAns (allR _) _ = 5; rw [hr]; rfl, by rfl⟩
  ·exact .inl ⟨by show isAns (allR _) _ = 5; rw [hr]; rfl, by rfl⟩
theorem ap_truths_4 (l : List (Int × Int)) (hl : l.length = 2) (hr : allR l = true) : ApC [61, 62] l := by
 match l, hl with
 | [(k1, a), (k2, b)], _ =>
  have r1 := List.all_eq_true.1 hr (k1, a) (by simp)
  have r2 := List.all_eq_true.1 hr (k2, b) (by simp)
  obtain ⟨h1, s1⟩ := right_kind r1
  obtain ⟨h2, s2⟩ := right_kind r2
  rcases h1 with rfl | rfl <;> rcases h2 with rfl | rfl
  ·refine .inr ⟨by show isAns (allR _) _ = 0; rw [hr]; rfl, 1, truthI (decide (a ≤ b)), false, by rfl, by first | rfl | simp [appT], fun W B hO => ?_⟩
   obtain ⟨f, n, hF, h4, h5, h6, h7⟩ := hO
   obtain ⟨p, e1, e2⟩ := h6 [61, 62] (fnV 161) (by rfl)
   exact ⟨f, n, hF, _, _, e1, Six.c6 p, fun w v hb hv => op_truths_4 p a b v w hv (cell_keep hb e2) (right_bool r1) (right_bool r2)⟩
  ·exact .inl ⟨by show isAns (allR _) _ = 5; rw [hr]; rfl, by rfl⟩
  ·exact .inl ⟨by show isAns (allR _) _ = 5; rw [hr]; rfl, by rfl⟩
  ·exact .inl ⟨by show isAns (allR _) _ = 5; rw [hr]; rfl, by rfl⟩
theorem ap_truths_5 (l : List (Int × Int)) (hl : l.length = 2) (hr : allR l = true) : ApC [61] l := by
 match l, hl with
 | [(k1, a), (k2, b)], _ =>
  have r1 := List.all_eq_true.1 hr (k1, a) (by simp)
  have r2 := List.all_eq_true.1 hr (k2, b) (by simp)
  obtain ⟨h1, s1⟩ := right_kind r1
  obtain ⟨h2, s2⟩ := right_kind r2
  rcases h1 with rfl | rfl <;> rcases h2 with rfl | rfl
  ·refine .inr ⟨by show isAns (allR _) _ = 0; rw [hr]; rfl, 1, truthI (a == b), false, by rfl, by first | rfl | simp [appT], fun W B hO => ?_⟩
   obtain ⟨f, n, hF, h4, h5, h6, h7⟩ := hO
   obtain ⟨p, e1, e2⟩ := h6 [61] (fnV 162) (by rfl)
   exact ⟨f, n, hF, _, _, e1, Six.c6 p, fun w v hb hv => op_truths_5 p a b v w hv (cell_keep hb e2)⟩
  ·exact .inl ⟨by show isAns (allR _) _ = 5; rw [hr]; rfl, by rfl⟩
  ·exact .inl ⟨by show isAns (allR _) _ = 5; rw [hr]; rfl, by rfl⟩
  ·refine .inr ⟨by show isAns (allR _) _ = 0; rw [hr]; rfl, 1, truthI (a == b), false, by rfl, by first | rfl | simp [appT], fun W B hO => ?_⟩
   obtain ⟨f, n, hF, h4, h5, h6, h7⟩ := hO
   obtain ⟨p, e1, e2⟩ := h6 [61] (fnV 162) (by rfl)
   exact ⟨f, n, hF, _, _, e1, Six.c6 p, fun w v hb hv => op_truths_5 p a b v w hv (cell_keep hb e2)⟩
theorem ap_truths_6 (l : List (Int × Int)) (hl : l.length = 2) (hr : allR l = true) : ApC [60, 62] l := by
 match l, hl with
 | [(k1, a), (k2, b)], _ =>
  have r1 := List.all_eq_true.1 hr (k1, a) (by simp)
  have r2 := List.all_eq_true.1 hr (k2, b) (by simp)
  obtain ⟨h1, s1⟩ := right_kind r1
  obtain ⟨h2, s2⟩ := right_kind r2
  rcases h1 with rfl | rfl <;> rcases h2 with rfl | rfl
  ·refine .inr ⟨by show isAns (allR _) _ = 0; rw [hr]; rfl, 1, truthI (a != b), false, by rfl, by first | rfl | simp [appT], fun W B hO => ?_⟩
   obtain ⟨f, n, hF, h4, h5, h6, h7⟩ := hO
   obtain ⟨p, e1, e2⟩ := h6 [60, 62] (fnV 163) (by rfl)
   exact ⟨f, n, hF, _, _, e1, Six.c6 p, fun w v hb hv => op_truths_6 p a b v w hv (cell_keep hb e2)⟩
  ·exact .inl ⟨by show isAns (allR _) _ = 5; rw [hr]; rfl, by rfl⟩
  ·exact .inl ⟨by show isAns (allR _) _ = 5; rw [hr]; rfl, by rfl⟩
  ·refine .inr ⟨by show isAns (allR _) _ = 0; rw [hr]; rfl, 1, truthI (a != b), false, by rfl, by first | rfl | simp [appT], fun W B hO => ?_⟩
   obtain ⟨f, n, hF, h4, h5, h6, h7⟩ := hO
   obtain ⟨p, e1, e2⟩ := h6 [60, 62] (fnV 163) (by rfl)
   exact ⟨f, n, hF, _, _, e1, Six.c6 p, fun w v hb hv => op_truths_6 p a b v w hv (cell_keep hb e2)⟩
theorem ap_truths_7 (l : List (Int × Int)) (hl : l.length = 2) (hr : allR l = true) : ApC [60] l := by
 match l, hl with
 | [(k1, a), (k2, b)], _ =>
  have r1 := List.all_eq_true.1 hr (k1, a) (by simp)
  have r2 := List.all_eq_true.1 hr (k2, b) (by simp)
  obtain ⟨h1, s1⟩ := right_kind r1
  obtain ⟨h2, s2⟩ := right_kind r2
  rcases h1 with rfl | rfl <;> rcases h2 with rfl | rfl
  ·exact .inl ⟨by show isAns (allR _) _ = 5; rw [hr]; rfl, by rfl⟩
  ·exact .inl ⟨by show isAns (allR _) _ = 5; rw [hr]; rfl, by rfl⟩
  ·exact .inl ⟨by show isAns (allR _) _ = 5; rw [hr]; rfl, by rfl⟩
  ·refine .inr ⟨by show isAns (allR _) _ = 0; rw [hr]; rfl, 1, truthI (decide (a < b)), false, by rfl, by first | rfl | simp [appT], fun W B hO => ?_⟩
   obtain ⟨f, n, hF, h4, h5, h6, h7⟩ := hO
   obtain ⟨p, e1, e2⟩ := h6 [60] (fnV 164) (by rfl)
   exact ⟨f, n, hF, _, _, e1, Six.c6 p, fun w v hb hv => op_truths_7 p a b v w hv (cell_keep hb e2)⟩
theorem ap_truths_8 (l : List (Int × Int)) (hl : l.length = 2) (hr : allR l = true) : ApC [60, 61] l := by
 match l, hl with
 | [(k1, a), (k2, b)], _ =>
  have r1 := List.all_eq_true.1 hr (k1, a) (by simp)
  have r2 := List.all_eq_true.1 hr (k2, b) (by simp)
  obtain ⟨h1, s1⟩ := right_kind r1
  obtain ⟨h2, s2⟩ := right_kind r2
  rcases h1 with rfl | rfl <;> rcases h2 with rfl | rfl
  ·exact .inl ⟨by show isAns (allR _) _ = 5; rw [hr]; rfl, by rfl⟩
  ·exact .inl ⟨by show isAns (allR _) _ = 5; rw [hr]; rfl, by rfl⟩
  ·exact .inl ⟨by show isAns (allR _) _ = 5; rw [hr]; rfl, by rfl⟩
  ·refine .inr ⟨by show isAns (allR _) _ = 0; rw [hr]; rfl, 1, truthI (decide (a ≤ b)), false, by rfl, by first | rfl | simp [appT], fun W B hO => ?_⟩
   obtain ⟨f, n, hF, h4, h5, h6, h7⟩ := hO
   obtain ⟨p, e1, e2⟩ := h6 [60, 61] (fnV 165) (by rfl)
   exact ⟨f, n, hF, _, _, e1, Six.c6 p, fun w v hb hv => op_truths_8 p a b v w hv (cell_keep hb e2)⟩
theorem ap_truths_9 (l : List (Int × Int)) (hl : l.length = 2) (hr : allR l = true) : ApC [62] l := by
 match l, hl with
 | [(k1, a), (k2, b)], _ =>
  have r1 := List.all_eq_true.1 hr (k1, a) (by simp)
  have r2 := List.all_eq_true.1 hr (k2, b) (by simp)
  obtain ⟨h1, s1⟩ := right_kind r1
  obtain ⟨h2, s2⟩ := right_kind r2
  rcases h1 with rfl | rfl <;> rcases h2 with rfl | rfl
  ·exact .inl ⟨by show isAns (allR _) _ = 5; rw [hr]; rfl, by rfl⟩
  ·exact .inl ⟨by show isAns (allR _) _ = 5; rw [hr]; rfl, by rfl⟩
  ·exact .inl ⟨by show isAns (allR _) _ = 5; rw [hr]; rfl, by rfl⟩
  ·refine .inr ⟨by show isAns (allR _) _ = 0; rw [hr]; rfl, 1, truthI (decide (b < a)), false, by rfl, by first | rfl | simp [appT], fun W B hO => ?_⟩
   obtain ⟨f, n, hF, h4, h5, h6, h7⟩ := hO
   obtain ⟨p, e1, e2⟩ := h6 [62] (fnV 166) (by rfl)
   exact ⟨f, n, hF, _, _, e1, Six.c6 p, fun w v hb hv => op_truths_9 p a b v w hv (cell_keep hb e2)⟩
theorem ap_truths_10 (l : List (Int × Int)) (hl : l.length = 2) (hr : allR l = true) : ApC [62, 61] l := by
 match l, hl with
 | [(k1, a), (k2, b)], _ =>
  have r1 := List.all_eq_true.1 hr (k1, a) (by simp)
  have r2 := List.all_eq_true.1 hr (k2, b) (by simp)
  obtain ⟨h1, s1⟩ := right_kind r1
  obtain ⟨h2, s2⟩ := right_kind r2
  rcases h1 with rfl | rfl <;> rcases h2 with rfl | rfl
  ·exact .inl ⟨by show isAns (allR _) _ = 5; rw [hr]; rfl, by rfl⟩
  ·exact .inl ⟨by show isAns (allR _) _ = 5; rw [hr]; rfl, by rfl⟩
  ·exact .inl ⟨by show isAns (allR _) _ = 5; rw [hr]; rfl, by rfl⟩
  ·refine .inr ⟨by show isAns (allR _) _ = 0; rw [hr]; rfl, 1, truthI (decide (b ≤ a)), false, by rfl, by first | rfl | simp [appT], fun W B hO => ?_⟩
   obtain ⟨f, n, hF, h4, h5, h6, h7⟩ := hO
   obtain ⟨p, e1, e2⟩ := h6 [62, 61] (fnV 167) (by rfl)
   exact ⟨f, n, hF, _, _, e1, Six.c6 p, fun w v hb hv => op_truths_10 p a b v w hv (cell_keep hb e2)⟩
theorem ap_divisions_1 (l : List (Int × Int)) (hl : l.length = 2) (hr : allR l = true) : ApC [47] l := by
 match l, hl with
 | [(k1, a), (k2, b)], _ =>
  have r1 := List.all_eq_true.1 hr (k1, a) (by simp)
  have r2 := List.all_eq_true.1 hr (k2, b) (by simp)
  obtain ⟨h1, s1⟩ := right_kind r1
  obtain ⟨h2, s2⟩ := right_kind r2
  rcases h1 with rfl | rfl <;> rcases h2 with rfl | rfl
  ·exact .inl ⟨by show isAns (allR _) _ = 5; rw [hr]; rfl, by rfl⟩
  ·exact .inl ⟨by show isAns (allR _) _ = 5; rw [hr]; rfl, by rfl⟩
  ·exact .inl ⟨by show isAns (allR _) _ = 5; rw [hr]; rfl, by rfl⟩
  ·by_cases h0 : b = 0
   ·refine .inr ⟨by show isAns (allR _) _ = 0; rw [hr]; rfl, 2, 0, true, by rfl, by first | rfl | simp [appT, h0], fun W B hO => ?_⟩
    obtain ⟨f, n, hF, h4, h5, h6, h7⟩ := hO
    obtain ⟨p, e1, e2⟩ := h5 [47] (fnV 156) (by rfl)
    exact ⟨f, n, hF, _, _, e1, Six.c5 p, fun w v hb hv => op_div0 p a v w (by rw [h0] at hv; exact hv)⟩
   ·refine .inr ⟨by show isAns (allR _) _ = 0; rw [hr]; rfl, 2, aroundI (a.tdiv b), false, by rfl, by first | rfl | simp [appT, h0], fun W B hO => ?_⟩
    obtain ⟨f, n, hF, h4, h5, h6, h7⟩ := hO
    obtain ⟨p, e1, e2⟩ := h5 [47] (fnV 156) (by rfl)
    exact ⟨f, n, hF, _, _, e1, Six.c5 p, fun w v hb hv => op_divisions_1 p a b v w hv (cell_keep hb e2) s1 h0⟩
theorem ap_divisions_2 (l : List (Int × Int)) (hl : l.length = 2) (hr : allR l = true) : ApC [109, 111, 100] l := by
 match l, hl with
 | [(k1, a), (k2, b)], _ =>
  have r1 := List.all_eq_true.1 hr (k1, a) (by simp)
  have r2 := List.all_eq_true.1 hr (k2, b) (by simp)
  obtain ⟨h1, s1⟩ := right_kind r1
  obtain ⟨h2, s2⟩ := right_kind r2
  rcases h1 with rfl | rfl <;> rcases h2 with rfl | rfl
  ·exact .inl ⟨by show isAns (allR _) _ = 5; rw [hr]; rfl, by rfl⟩
  ·exact .inl ⟨by show isAns (allR _) _ = 5; rw [hr]; rfl, by rfl⟩
  ·exact .inl ⟨by show isAns (allR _) _ = 5; rw [hr]; rfl, by rfl⟩
  ·by_cases h0 : b = 0
   ·refine .inr ⟨by show isAns (allR _) _ = 0; rw [hr]; rfl, 2, 0, true, by rfl, by first | rfl | simp [appT, h0], fun W B hO => ?_⟩
    obtain ⟨f, n, hF, h4, h5, h6, h7⟩ := hO
    obtain ⟨p, e1, e2⟩ := h5 [109, 111, 100] (fnV 157) (by rfl)
    exact ⟨f, n, hF, _, _, e1, Six.c5 p, fun w v hb hv => op_div0 p a v w (by rw [h0] at hv; exact hv)⟩
   ·refine .inr ⟨by show isAns (allR _) _ = 0; rw [hr]; rfl, 2, aroundI (a - a.tdiv b * b), false, by rfl, by first | rfl | simp [appT, h0], fun W B hO => ?_⟩
    obtain ⟨f, n, hF, h4, h5, h6, h7⟩ := hO
    obtain ⟨p, e1, e2⟩ := h5 [109, 111, 100] (fnV 157) (by rfl)
    exact ⟨f, n, hF, _, _, e1, Six.c5 p, fun w v hb hv => op_divisions_2 p a b v w hv (cell_keep hb e2) s1 s2 h0⟩
theorem ap_not (l : List (Int × Int)) (hl : l.length = 1) (hr : allR l = true) : ApC [110, 111, 116] l := by
 match l, hl with
 | [(k1, a)], _ =>
  have r1 := List.all_eq_true.1 hr (k1, a) (by simp)
  obtain ⟨h1, s1⟩ := right_kind r1
  rcases h1 with rfl | rfl
  ·refine .inr ⟨by show isAns (allR _) _ = 0; rw [hr]; rfl, 1, truthI (a == 0), false, by rfl, by first | rfl | simp [appT], fun W B hO => ?_⟩
   obtain ⟨f, n, hF, h4, h5, h6, h7⟩ := hO
   have e1 : f [110, 111, 116] = some (fnV 111) := (h7 [110, 111, 116] (by rfl) (by rfl) (by rfl)).trans (by rfl)
   exact ⟨f, n, hF, _, _, e1, Six.c1, fun w v hb hv => op_not a (right_bool r1) v w hv⟩
  ·exact .inl ⟨by show isAns (allR _) _ = 5; rw [hr]; rfl, by rfl⟩
theorem ap_neg (l : List (Int × Int)) (hl : l.length = 1) (hr : allR l = true) : ApC [110, 101, 103] l := by
 match l, hl with
 | [(k1, a)], _ =>
  have r1 := List.all_eq_true.1 hr (k1, a) (by simp)
  obtain ⟨h1, s1⟩ := right_kind r1
  rcases h1 with rfl | rfl
  ·exact .inl ⟨by show isAns (allR _) _ = 5; rw [hr]; rfl, by rfl⟩
  ·refine .inr ⟨by show isAns (allR _) _ = 0; rw [hr]; rfl, 2, aroundI (256 - a), false, by rfl, by first | rfl | simp [appT], fun W B hO => ?_⟩
   obtain ⟨f, n, hF, h4, h5, h6, h7⟩ := hO
   have e1 : f [110, 101, 103] = some (fnV 112) := (h7 [110, 101, 103] (by rfl) (by rfl) (by rfl)).trans (by rfl)
   exact ⟨f, n, hF, _, _, e1, Six.c2, fun w v hb hv => op_neg a s1 v w hv⟩
theorem ap_if (l : List (Int × Int)) (hl : l.length = 3) (hr : allR l = true) : ApC [105, 102] l := by
 match l, hl with
 | [(k1, a), (k2, b), (k3, d)], _ =>
  have r1 := List.all_eq_true.1 hr (k1, a) (by simp)
  have r2 := List.all_eq_true.1 hr (k2, b) (by simp)
  have r3 := List.all_eq_true.1 hr (k3, d) (by simp)
  obtain ⟨h1, s1⟩ := right_kind r1
  obtain ⟨h2, s2⟩ := right_kind r2
  obtain ⟨h3, s3⟩ := right_kind r3
  rcases h1 with rfl | rfl <;> rcases h2 with rfl | rfl <;> rcases h3 with rfl | rfl
  ·refine .inr ⟨by show isAns (allR _) _ = 0; rw [hr]; rfl, 1, bif a == 1 then b else d, false, by rfl, ?_, fun W B hO => ?_⟩
   ·by_cases h0 : a = 1
    ·subst h0; rfl
    ·have hb : (a == 1) = false := by simp [h0]
     simp [appT, h0, hb]
   obtain ⟨f, n, hF, h4, h5, h6, h7⟩ := hO
   have e1 : f [105, 102] = some (fnV 114) := (h7 [105, 102] (by rfl) (by rfl) (by rfl)).trans (by rfl)
   exact ⟨f, n, hF, _, _, e1, Six.c3, fun w v hb hv => op_if a b d (right_bool r1) v w hv⟩
  ·exact .inl ⟨by show isAns (allR _) _ = 5; rw [hr]; rfl, by rfl⟩
  ·exact .inl ⟨by show isAns (allR _) _ = 5; rw [hr]; rfl, by rfl⟩
  ·refine .inr ⟨by show isAns (allR _) _ = 0; rw [hr]; rfl, 2, bif a == 1 then b else d, false, by rfl, ?_, fun W B hO => ?_⟩
   ·by_cases h0 : a = 1
    ·subst h0; rfl
    ·have hb : (a == 1) = false := by simp [h0]
     simp [appT, h0, hb]
   obtain ⟨f, n, hF, h4, h5, h6, h7⟩ := hO
   have e1 : f [105, 102] = some (fnV 114) := (h7 [105, 102] (by rfl) (by rfl) (by rfl)).trans (by rfl)
   exact ⟨f, n, hF, _, _, e1, Six.c3, fun w v hb hv => op_if a b d (right_bool r1) v w hv⟩
  ·exact .inl ⟨by show isAns (allR _) _ = 5; rw [hr]; rfl, by rfl⟩
  ·exact .inl ⟨by show isAns (allR _) _ = 5; rw [hr]; rfl, by rfl⟩
  ·exact .inl ⟨by show isAns (allR _) _ = 5; rw [hr]; rfl, by rfl⟩
  ·exact .inl ⟨by show isAns (allR _) _ = 5; rw [hr]; rfl, by rfl⟩
theorem sig_mem {t : List UInt8 × Nat × Int × Int} (h : t ∈ sigL) : t = ([110, 111, 116], 1, 1, 1) ∨ t = ([110, 101, 103], 1, 2, 2) ∨ t = ([105, 102], 3, 0, 0) ∨ t = ([97, 110, 100], 2, 1, 1) ∨ t = ([111, 114], 2, 1, 1) ∨ t = ([120, 111, 114], 2, 1, 1) ∨ t = ([61, 62], 2, 1, 1) ∨ t = ([61], 2, 0, 1) ∨ t = ([60, 62], 2, 0, 1) ∨ t = ([60], 2, 2, 1) ∨ t = ([60, 61], 2, 2, 1) ∨ t = ([62], 2, 2, 1) ∨ t = ([62, 61], 2, 2, 1) ∨ t = ([43], 2, 2, 2) ∨ t = ([45], 2, 2, 2) ∨ t = ([42], 2, 2, 2) ∨ t = ([47], 2, 2, 2) ∨ t = ([109, 111, 100], 2, 2, 2) := by
 simpa only [sigL, List.mem_cons, List.not_mem_nil, or_false] using h
theorem ap_all (t : List UInt8 × Nat × Int × Int) (h : t ∈ sigL) (l : List (Int × Int)) (hl : l.length = t.2.1) (hr : allR l = true) : ApC t.1 l := by
 rcases sig_mem h with rfl | rfl | rfl | rfl | rfl | rfl | rfl | rfl | rfl | rfl | rfl | rfl | rfl | rfl | rfl | rfl | rfl | rfl
 ·exact ap_not l hl hr
 ·exact ap_neg l hl hr
 ·exact ap_if l hl hr
 ·exact ap_truths_1 l hl hr
 ·exact ap_truths_2 l hl hr
 ·exact ap_truths_3 l hl hr
 ·exact ap_truths_4 l hl hr
 ·exact ap_truths_5 l hl hr
 ·exact ap_truths_6 l hl hr
 ·exact ap_truths_7 l hl hr
 ·exact ap_truths_8 l hl hr
 ·exact ap_truths_9 l hl hr
 ·exact ap_truths_10 l hl hr
 ·exact ap_reckonings_1 l hl hr
 ·exact ap_reckonings_2 l hl hr
 ·exact ap_reckonings_3 l hl hr
 ·exact ap_divisions_1 l hl hr
 ·exact ap_divisions_2 l hl hr
theorem sig_shp (t : List UInt8 × Nat × Int × Int) (h : t ∈ sigL) (ps : List Int) : shpK t.1 ps = !decide (ps.length = t.2.1) := by
 rcases sig_mem h with rfl | rfl | rfl | rfl | rfl | rfl | rfl | rfl | rfl | rfl | rfl | rfl | rfl | rfl | rfl | rfl | rfl | rfl <;> rfl
theorem sig_find (t : List UInt8 × Nat × Int × Int) (h : t ∈ sigL) : sigL.find? (fun u => u.1 == t.1) = some t := by
 rcases sig_mem h with rfl | rfl | rfl | rfl | rfl | rfl | rfl | rfl | rfl | rfl | rfl | rfl | rfl | rfl | rfl | rfl | rfl | rfl <;> rfl
theorem ops_none {W : World} {B : Nat} (hO : OpsAt W B) (op : List UInt8) (h : sigL.find? (fun u => u.1 == op) = none) : ∃ f n, FnAt W B n f ∧ f op = none := by
 obtain ⟨f, n, hF, _, _, _, h7⟩ := hO
 have hne : ∀ t ∈ sigL, t.1 ≠ op := fun t ht e => by
  have := List.find?_eq_none.1 h t ht
  simp [e] at this
 have n0 : op ≠ [110, 111, 116] := fun e => hne ([110, 111, 116], 1, 1, 1) (by simp [sigL]) e.symm
 have n1 : op ≠ [110, 101, 103] := fun e => hne ([110, 101, 103], 1, 2, 2) (by simp [sigL]) e.symm
 have n2 : op ≠ [105, 102] := fun e => hne ([105, 102], 3, 0, 0) (by simp [sigL]) e.symm
 have n3 : op ≠ [97, 110, 100] := fun e => hne ([97, 110, 100], 2, 1, 1) (by simp [sigL]) e.symm
 have n4 : op ≠ [111, 114] := fun e => hne ([111, 114], 2, 1, 1) (by simp [sigL]) e.symm
 have n5 : op ≠ [120, 111, 114] := fun e => hne ([120, 111, 114], 2, 1, 1) (by simp [sigL]) e.symm
 have n6 : op ≠ [61, 62] := fun e => hne ([61, 62], 2, 1, 1) (by simp [sigL]) e.symm
 have n7 : op ≠ [61] := fun e => hne ([61], 2, 0, 1) (by simp [sigL]) e.symm
 have n8 : op ≠ [60, 62] := fun e => hne ([60, 62], 2, 0, 1) (by simp [sigL]) e.symm
 have n9 : op ≠ [60] := fun e => hne ([60], 2, 2, 1) (by simp [sigL]) e.symm
 have n10 : op ≠ [60, 61] := fun e => hne ([60, 61], 2, 2, 1) (by simp [sigL]) e.symm
 have n11 : op ≠ [62] := fun e => hne ([62], 2, 2, 1) (by simp [sigL]) e.symm
 have n12 : op ≠ [62, 61] := fun e => hne ([62, 61], 2, 2, 1) (by simp [sigL]) e.symm
 have n13 : op ≠ [43] := fun e => hne ([43], 2, 2, 2) (by simp [sigL]) e.symm
 have n14 : op ≠ [45] := fun e => hne ([45], 2, 2, 2) (by simp [sigL]) e.symm
 have n15 : op ≠ [42] := fun e => hne ([42], 2, 2, 2) (by simp [sigL]) e.symm
 have n16 : op ≠ [47] := fun e => hne ([47], 2, 2, 2) (by simp [sigL]) e.symm
 have n17 : op ≠ [109, 111, 100] := fun e => hne ([109, 111, 100], 2, 2, 2) (by simp [sigL]) e.symm
 refine ⟨f, n, hF, ?_⟩
 rw [h7 op (by simp only [reckoningsF, fset, fnone]; simp only [n13, n14, n15, if_false]) (by simp only [divisionsF, fset, fnone]; simp only [n16, n17, if_false]) (by simp only [truthsF, fset, fnone]; simp only [n3, n4, n5, n6, n7, n8, n9, n10, n11, n12, if_false])]
 simp only [lit3F, fset, fnone]
 simp only [n0, n1, n2, if_false]
end Go.Proofs.YtiejfopholdbnaaGreatDoor
