/-
  package order: ago, behind, lateOf BY CONTRACT: how late any term is, by a map of how late flows are.
-/
import Derived.Deep.RegionWith
import Derived.Test.YtpkgingjmgakbaaDoorP39
namespace Go.Proofs.YtpkgingjmgakbaaDoor
open Go.RowKit Go.Maps

mutual
/-- Operators of time have their parts. -/
def arE : Ex → Prop
  | .mk op _ _ l => (op.data.toList = lName → l.length = 0) ∧ (op.data.toList = lPre → l.length = 1) ∧ (op.data.toList = lArrow → l.length = 2) ∧ (op.data.toList = lFby → l.length = 2) ∧ arL l
def arL : List Ex → Prop
  | [] => True
  | e :: es => arE e ∧ arL es
end
theorem arL_at : ∀ {l : List Ex} {i : Nat} {e : Ex}, arL l → l[i]? = some e → arE e
  | [], i, e, _, h => by simp at h
  | x :: l, 0, e, hs, h => by
    obtain rfl : x = e := by simpa using h
    unfold arL at hs
    exact hs.1
  | x :: l, i + 1, e, hs, h => by
    unfold arL at hs
    exact arL_at hs.2 (by simpa using h)
mutual
theorem arE_fb : ∀ e : Ex, arE e → fbE e
  | .mk op n s l, h => by
    unfold arE at h
    unfold fbE
    exact ⟨fun e => by rw [h.2.2.2.1 e]; omega, arL_fb l h.2.2.2.2⟩
theorem arL_fb : ∀ l : List Ex, arL l → fbL l
  | [], _ => by unfold fbL; trivial
  | e :: l, h => by
    unfold arL at h
    unfold fbL
    exact ⟨arE_fb e h.1, arL_fb l h.2⟩
end
mutual
theorem fmE_ar {kd : List UInt8 → Option Int} : ∀ e : Ex, fmE kd e = true → arE e
  | .mk op n s l, h => by
    unfold fmE at h
    rw [Bool.and_eq_true] at h
    have h1 := (formF_ok h.1).2
    unfold arE
    have key : ∀ t : List UInt8, t ≠ lName → ∀ k, (signRow t).map (fun q => q.1.length) = some k → op.data.toList = t → l.length = k := fun t ht k hk e => by
      rw [e, if_neg ht] at h1
      obtain ⟨tk, gv, hs, hl⟩ := h1
      rw [hs] at hk
      rw [hl]
      simpa using hk
    refine ⟨fun e => ?_, key lPre (by decide) 1 (by decide), key lArrow (by decide) 2 (by decide), key lFby (by decide) 2 (by decide), fmL_ar l h.2⟩
    rw [if_pos e] at h1
    rw [h1.2]
    rfl
theorem fmL_ar {kd : List UInt8 → Option Int} : ∀ l : List Ex, fmL kd l = true → arL l
  | [], _ => by unfold arL; trivial
  | e :: l, h => by
    unfold fmL at h
    rw [Bool.and_eq_true] at h
    unfold arL
    exact ⟨fmE_ar e h.1, fmL_ar l h.2⟩
end
/-- A map's numbers are from 0 to 2. -/
def GOk (g : List UInt8 → Option Int) : Prop := ∀ s, 0 ≤ (g s).getD 0 ∧ (g s).getD 0 ≤ 2
def ltG (g : List UInt8 → Option Int) : List UInt8 → Nat := fun s => ((g s).getD 0).toNat
theorem ltG_int {g : List UInt8 → Option Int} (h : GOk g) (s : List UInt8) : (g s).getD 0 = (ltG g s : Int) := by
  have := h s
  unfold ltG
  omega
theorem ltG_le {g : List UInt8 → Option Int} (h : GOk g) (s : List UInt8) : ltG g s ≤ 2 := by
  have := h s
  unfold ltG
  omega
set_option maxRecDepth 100000 in
theorem ago_any (w : World) (n : Nat) (h : n ≤ 2) : Calls Tryd.prog 38 #[.int .i64 (n : Int)] w fun e w' => e = .returned (.int .i64 (agoN n : Nat)) ∧ w' = w := by
  have hn : n = 0 ∨ n = 1 ∨ n = 2 := by omega
  rcases hn with rfl | rfl | rfl
  · go_enter Tryd.func38, Tryd.ntmps38
    go_wp2
    go_ret
    exact ⟨rfl, rfl⟩
  · go_enter Tryd.func38, Tryd.ntmps38
    go_wp2
    go_ret
    exact ⟨rfl, rfl⟩
  · go_enter Tryd.func38, Tryd.ntmps38
    go_wp2
    go_ret
    exact ⟨rfl, rfl⟩
set_option maxRecDepth 100000 in
theorem behind_any (w : World) (a b : Nat) (h : b ≤ 2) : Calls Tryd.prog 39 #[.int .i64 (a : Int), .int .i64 (b : Int)] w fun e w' => e = .returned (.int .i64 (behN a b : Nat)) ∧ w' = w := by
  have hn : b = 0 ∨ b = 1 ∨ b = 2 := by omega
  rcases hn with rfl | rfl | rfl
  · go_enter Tryd.func39, Tryd.ntmps39
    go_wp2
    go_ret
    exact ⟨rfl, rfl⟩
  · go_enter Tryd.func39, Tryd.ntmps39
    go_wp2
    go_ret
    exact ⟨rfl, rfl⟩
  · go_enter Tryd.func39, Tryd.ntmps39
    go_wp2
    go_ret
    exact ⟨rfl, rfl⟩
/-- lateOf's contract for terms of such a size. -/
def LateC (m : Nat) : Prop := ∀ (op : ByteArray) (n : Int) (s : ByteArray) (l : List Ex), SizeOf.sizeOf l < m → ∀ (w : World) (S : Nat → Prop) (o : Option Addr) (c : Nat) (ys : List Value) (K nK : Nat) (g : List UInt8 → Option Int), FnAt w K nK (kindF g) → GOk g → smE (.mk op n s l) → arE (.mk op n s l) → RowAt w S 4 (.slice o l.length c) l.length ys → ExIn w S l ys →
    Calls Tryd.prog 20 #[.agg #[.string op, .int .i64 n, .string s, .slice o l.length c], .map (some K)] w fun e w' => e = .returned (.int .i64 (ltE (ltG g) (.mk op n s l) : Nat)) ∧ Below w.heap.size w w'
/-- What the closure of lateOf reads. -/
structure LaA (w : World) (S : Nat → Prop) (B1 B2 : Nat) (op : ByteArray) (n : Int) (s : ByteArray) (l : List Ex) (o : Option Addr) (c : Nat) (ys : List Value) (K nK : Nat) (g : List UInt8 → Option Int) : Prop where
  b1 : w.heap[B1]? = some (.cells #[.string op, .int .i64 n, .string s, .slice o l.length c] 32 (0, 0))
  b2 : w.heap[B2]? = some (.cells #[.map (some K)] 54 (0, 0))
  fn : FnAt w K nK (kindF g)
  row : RowAt w S 4 (.slice o l.length c) l.length ys
  ex : ExIn w S l ys
theorem LaA.keep {w w' : World} {S : Nat → Prop} {B1 B2 : Nat} {op : ByteArray} {n : Int} {s : ByteArray} {l : List Ex} {o : Option Addr} {c : Nat} {ys : List Value} {K nK : Nat} {g : List UInt8 → Option Int} (h : LaA w S B1 B2 op n s l o c ys K nK g) (hb : Below w.heap.size w w') : LaA w' S B1 B2 op n s l o c ys K nK g :=
  ⟨row_keep hb h.b1, row_keep hb h.b2, h.fn.kept (hb.block _ h.fn.lt), h.row.keep (fun b hB hl => ⟨hB, hb.block b hl⟩), h.ex.keep (fun b hB hl => ⟨hB, hb.block b hl⟩)⟩
set_option maxRecDepth 100000 in
set_option maxHeartbeats 2000000 in
theorem late1_any {m : Nat} (IH : LateC m) {w : World} {S : Nat → Prop} {B1 B2 : Nat} {op : ByteArray} {n : Int} {s : ByteArray} {l : List Ex} {o : Option Addr} {c : Nat} {ys : List Value} {K nK : Nat} {g : List UInt8 → Option Int} (h : LaA w S B1 B2 op n s l o c ys K nK g) (hg : GOk g) (hsm : smL l) (har : arL l) (hm : SizeOf.sizeOf l < m + 1) {i : Nat} {x : Ex} (hi : l[i]? = some x) :
    Calls Tryd.prog 37 #[.int .i64 (i : Int), .pointer (some ⟨B1, 0, none⟩), .pointer (some ⟨B2, 0, none⟩)] w fun e w' => e = .returned (.int .i64 (ltE (ltG g) x : Nat)) ∧ Below w.heap.size w w' := by
  have hil := (List.getElem?_eq_some_iff.1 hi).1
  obtain ⟨op', n', s', es, oo, cc, zs, e, x0, x1, x2, x3, r1, r2⟩ := h.ex.at hil
  obtain ⟨p, f, cp, ev, _, _, gg⟩ := h.row.at (by have := h.row.1; omega)
  obtain ⟨rfl, rfl⟩ : o = some ⟨p, f, none⟩ ∧ c = cp := by simpa using ev
  have y0 := gg _ _ x0
  have y1 := gg _ _ x1
  have y2 := gg _ _ x2
  have y3 := gg _ _ x3
  rw [← Nat.add_assoc] at y1 y2 y3
  have i0' : (0 : Int) ≤ (i : Int) := by omega
  have i1' : (i : Int) < (l.length : Int) := by omega
  have hx : x = .mk op' n' s' es := by rw [List.getElem?_eq_getElem hil, e] at hi; exact (Option.some.inj hi).symm
  subst hx
  have c3 : w.cell? ⟨B1, 0 + 3, none⟩ = some (.slice (some ⟨p, f, none⟩) l.length c) := by rw [cell_of_row w _ _ _ _ (0, 0) h.b1]; rfl
  have c4 : w.cell? ⟨B2, 0, none⟩ = some (.map (some K)) := by rw [cell_of_row w _ _ _ _ (0, 0) h.b2]; rfl
  have HC : Hid (∀ W, Below w.heap.size w W → Calls Tryd.prog 20 #[.agg #[.string op', .int .i64 n', .string s', .slice oo es.length cc], .map (some K)] W fun e w' => e = .returned (.int .i64 (ltE (ltG g) (.mk op' n' s' es) : Nat)) ∧ Below w.heap.size w w') := fun W hW => by
    have hst : Stays S S w W := fun b hB hl => ⟨hB, hW.block b hl⟩
    refine (IH op' n' s' es (by have := size_part hil e; omega) W S oo cc zs K nK g (h.fn.kept (hW.block _ h.fn.lt)) hg (smL_at hsm hi) (arL_at har hi) (r1.keep hst) (r2.keep hst)).mono ?_
    rintro e w' ⟨rfl, hb⟩
    exact ⟨rfl, hW.trans (hb.mono hW.size)⟩
  clear IH h hg hsm har hm hi e x0 x1 x2 x3 r1 r2 ev gg hil
  go_enter Tryd.func37, Tryd.ntmps37
  go_upto_region 1 with fail
  go_region_with (go_at_call 20; refine (HC.out _ (by first | exact Below.refl _ _ | exact (Below.refl _ _).drew)).mono ?_; rintro e w6 ⟨rfl, hb6⟩; have HB6 : Hid (Below w.heap.size w w6) := hb6)
  all_goals go_wp2
  all_goals go_ret
  all_goals exact ⟨rfl, HB6.out⟩
set_option maxRecDepth 100000 in
set_option maxHeartbeats 4000000 in
theorem lateOf_any : ∀ m : Nat, LateC m
  | 0 => fun _ _ _ _ h => absurd h (Nat.not_lt_zero _)
  | m + 1 => by
    have IH := lateOf_any m
    intro op n s l hm w S o c ys K nK g hF hg hsm har hrow hex
    unfold smE at hsm
    unfold arE at har
    obtain ⟨a1, a2, a3, a4, a5⟩ := har
    have hml := hrow.2.1
    unfold maxLen at hml
    obtain ⟨w1, hw1⟩ : ∃ w1, w1 = w.alloc (.cells #[.string op, .int .i64 n, .string s, .slice o l.length c] 32) := ⟨_, rfl⟩
    obtain ⟨w2, hw2⟩ : ∃ w2, w2 = w1.alloc (.cells #[.map (some K)] 54) := ⟨_, rfl⟩
    have hb1 : Below w.heap.size w w1 := by rw [hw1]; exact (Below.refl _ _).alloc (Nat.le_refl _) _
    have hb2 : Below w1.heap.size w1 w2 := by rw [hw2]; exact (Below.refl _ _).alloc (Nat.le_refl _) _
    have hs1 : w1.heap.size = w.heap.size + 1 := by rw [hw1]; simp
    have hbb : Below w.heap.size w w2 := hb1.trans (hb2.mono hb1.size)
    have hst : Stays S S w w2 := fun b hB hl => ⟨hB, hbb.block b hl⟩
    have hr1 : w1.heap[w.heap.size]? = some (.cells #[.string op, .int .i64 n, .string s, .slice o l.length c] 32 (0, 0)) := by rw [hw1]; exact heap_alloc_new _ _
    have hr2 : w2.heap[w.heap.size + 1]? = some (.cells #[.map (some K)] 54 (0, 0)) := by rw [hw2, ← hs1]; exact heap_alloc_new _ _
    obtain ⟨B1, hB1⟩ : ∃ B1, B1 = w.heap.size := ⟨_, rfl⟩
    obtain ⟨B2, hB2⟩ : ∃ B2, B2 = w.heap.size + 1 := ⟨_, rfl⟩
    have hLA : LaA w2 S B1 B2 op n s l o c ys K nK g := ⟨by rw [hB1]; exact row_keep hb2 hr1, by rw [hB2]; exact hr2, hF.kept (hbb.block _ hF.lt), hrow.keep hst, hex.keep hst⟩
    have c0 : w2.cell? ⟨B1, 0, none⟩ = some (.string op) := by rw [cell_of_row w2 _ _ _ _ (0, 0) hLA.b1]; rfl
    have c2 : w2.cell? ⟨B1, 0 + 2, none⟩ = some (.string s) := by rw [cell_of_row w2 _ _ _ _ (0, 0) hLA.b1]; rfl
    have c3 : w2.cell? ⟨B1, 0 + 3, none⟩ = some (.slice o l.length c) := by rw [cell_of_row w2 _ _ _ _ (0, 0) hLA.b1]; rfl
    have c4 : w2.cell? ⟨B2, 0, none⟩ = some (.map (some K)) := by rw [cell_of_row w2 _ _ _ _ (0, 0) hLA.b2]; rfl
    have HL1 : Hid (∀ (W : World) (i : Nat) (x : Ex), Below w2.heap.size w2 W → l[i]? = some x → Calls Tryd.prog 37 #[.int .i64 (i : Int), .pointer (some ⟨B1, 0, none⟩), .pointer (some ⟨B2, 0, none⟩)] W fun e w' => e = .returned (.int .i64 (ltE (ltG g) x : Nat)) ∧ Below w2.heap.size w2 w') := fun W i x hW hi => by
      refine (late1_any IH (hLA.keep hW) hg hsm.2.2 a5 hm hi).mono ?_
      rintro e w' ⟨rfl, hb⟩
      exact ⟨rfl, hW.trans (hb.mono hW.size)⟩
    have HW : Hid (w.alloc (.cells #[.string op, .int .i64 n, .string s, .slice o l.length c] 32) = w1 ∧ w1.alloc (.cells #[.map (some K)] 54) = w2 ∧ w.heap.size + 1 = B2 ∧ w.heap.size = B1) := ⟨hw1.symm, hw2.symm, hB2.symm, hB1.symm⟩
    have HBB : Hid (Below w.heap.size w w2) := hbb
    have HML : Hid (l.length ≤ 9223372036854775807) := by unfold Hid; omega
    have HG : Hid (∀ s, ltG g s ≤ 2) := fun s => ltG_le hg s
    by_cases ho : op.data.toList = lName
    · have HE : Hid (ltE (ltG g) (.mk op n s l) = ltG g s.data.toList) := by unfold Hid; rw [ltE_mk, if_pos ho]
      have dn : (op.toList == [110, 97, 109, 101]) = true := by rw [ByteArray.toList_eq, ho]; rfl
      have hlk := hLA.fn.look1 Tryd.underlying54 (zero_int w2) s hsm.2.1
      have e1 : (kindF g s.data.toList).getD (.int .i64 0) = .int .i64 ((g s.data.toList).getD 0) := zero_getD _
      rw [e1, ltG_int hg] at hlk
      clear IH hm hF hg hsm a1 a2 a3 a4 a5 hrow hex hml hw1 hw2 hb1 hb2 hs1 hbb hst hr1 hr2 hB1 hB2 hLA e1 ho c3
      go_enter Tryd.func20, Tryd.ntmps20
      go_upto_region 1 with fail
      rw [HW.out.1, HW.out.2.2.1, HW.out.2.1, HW.out.2.2.2]
      go_wp2
      go_ret
      exact ⟨by rw [HE.out]; rfl, HBB.out⟩
    have hn := ho
    clear ho
    by_cases ho : op.data.toList = lPre
    · obtain ⟨x, hx⟩ : ∃ x, l[0]? = some x := ⟨_, List.getElem?_eq_getElem (by rw [a2 ho]; omega)⟩
      have HE : Hid (ltE (ltG g) (.mk op n s l) = agoN (ltE (ltG g) x)) := by unfold Hid; rw [ltE_mk, if_neg hn, if_pos ho, ltL_at hx]
      have dn : (op.toList == [110, 97, 109, 101]) = false := by rw [ByteArray.toList_eq, ho]; rfl
      have dp : (op.toList == [112, 114, 101]) = true := by rw [ByteArray.toList_eq, ho]; rfl
      have HC0 : Hid (Calls Tryd.prog 37 #[.int .i64 0, .pointer (some ⟨B1, 0, none⟩), .pointer (some ⟨B2, 0, none⟩)] w2 fun e w' => e = .returned (.int .i64 (ltE (ltG g) x : Nat)) ∧ Below w2.heap.size w2 w') := HL1.out w2 0 x (Below.refl _ _) hx
      obtain ⟨k, hk⟩ : ∃ k, k = ltE (ltG g) x := ⟨_, rfl⟩
      have HK : Hid (k ≤ 2) := by unfold Hid; rw [hk]; exact ltE_le HG.out x
      rw [← hk] at HC0 HE
      have HAG : Hid (∀ W, Calls Tryd.prog 38 #[.int .i64 (k : Int)] W fun e w' => e = .returned (.int .i64 (agoN k : Nat)) ∧ w' = W) := fun W => ago_any W k HK.out
      clear IH hm hF hg hsm a1 a2 a3 a4 a5 hrow hex hml hw1 hw2 hb1 hb2 hs1 hbb hst hr1 hr2 hB1 hB2 hLA ho hn hx hk c2 c3 c4
      go_enter Tryd.func20, Tryd.ntmps20
      go_upto_region 1 with fail
      rw [HW.out.1, HW.out.2.2.1, HW.out.2.1, HW.out.2.2.2]
      go_wp2_with fail
      refine HC0.out.mono ?_
      rintro e w3 ⟨rfl, hb3⟩
      have HB3 : Hid (Below w2.heap.size w2 w3) := hb3
      clear hb3 c0
      go_wp2_with fail
      refine (HAG.out w3).mono ?_
      rintro e w4 ⟨rfl, hw4⟩
      subst hw4
      go_wp2
      go_ret
      exact ⟨by rw [HE.out]; rfl, HBB.out.trans (HB3.out.mono HBB.out.size)⟩
    have hp := ho
    clear ho
    by_cases ho : op.data.toList = lArrow
    · obtain ⟨x, hx⟩ : ∃ x, l[0]? = some x := ⟨_, List.getElem?_eq_getElem (by rw [a3 ho]; omega)⟩
      obtain ⟨y, hy⟩ : ∃ x, l[1]? = some x := ⟨_, List.getElem?_eq_getElem (by rw [a3 ho]; omega)⟩
      have HE : Hid (ltE (ltG g) (.mk op n s l) = behN (ltE (ltG g) x) (ltE (ltG g) y)) := by unfold Hid; rw [ltE_mk, if_neg hn, if_neg hp, if_pos ho, ltL_at hx, ltL_at hy]
      have dn : (op.toList == [110, 97, 109, 101]) = false := by rw [ByteArray.toList_eq, ho]; rfl
      have dp : (op.toList == [112, 114, 101]) = false := by rw [ByteArray.toList_eq, ho]; rfl
      have da : (op.toList == [45, 62]) = true := by rw [ByteArray.toList_eq, ho]; rfl
      have HC0 : Hid (Calls Tryd.prog 37 #[.int .i64 0, .pointer (some ⟨B1, 0, none⟩), .pointer (some ⟨B2, 0, none⟩)] w2 fun e w' => e = .returned (.int .i64 (ltE (ltG g) x : Nat)) ∧ Below w2.heap.size w2 w') := HL1.out w2 0 x (Below.refl _ _) hx
      have HC1 : Hid (∀ W, Below w2.heap.size w2 W → Calls Tryd.prog 37 #[.int .i64 1, .pointer (some ⟨B1, 0, none⟩), .pointer (some ⟨B2, 0, none⟩)] W fun e w' => e = .returned (.int .i64 (ltE (ltG g) y : Nat)) ∧ Below w2.heap.size w2 w') := fun W hW => HL1.out W 1 y hW hy
      obtain ⟨k, hk⟩ : ∃ k, k = ltE (ltG g) x := ⟨_, rfl⟩
      obtain ⟨j, hj⟩ : ∃ k, k = ltE (ltG g) y := ⟨_, rfl⟩
      have HK : Hid (j ≤ 2) := by unfold Hid; rw [hj]; exact ltE_le HG.out y
      rw [← hk, ← hj] at HE
      rw [← hk] at HC0
      rw [← hj] at HC1
      have HBE : Hid (∀ W, Calls Tryd.prog 39 #[.int .i64 (k : Int), .int .i64 (j : Int)] W fun e w' => e = .returned (.int .i64 (behN k j : Nat)) ∧ w' = W) := fun W => behind_any W k j HK.out
      clear IH hm hF hg hsm a1 a2 a3 a4 a5 hrow hex hml hw1 hw2 hb1 hb2 hs1 hbb hst hr1 hr2 hB1 hB2 hLA ho hn hp hx hy hk hj c2 c3 c4
      go_enter Tryd.func20, Tryd.ntmps20
      go_upto_region 1 with fail
      rw [HW.out.1, HW.out.2.2.1, HW.out.2.1, HW.out.2.2.2]
      go_wp2_with fail
      refine HC0.out.mono ?_
      rintro e w3 ⟨rfl, hb3⟩
      have HB3 : Hid (Below w2.heap.size w2 w3) := hb3
      clear hb3 c0
      go_wp2_with fail
      refine (HC1.out w3 HB3.out).mono ?_
      rintro e w4 ⟨rfl, hb4⟩
      have HB4 : Hid (Below w2.heap.size w2 w4) := hb4
      clear hb4
      go_wp2_with fail
      refine (HBE.out w4).mono ?_
      rintro e w5 ⟨rfl, hw5⟩
      subst hw5
      go_wp2
      go_ret
      exact ⟨by rw [HE.out]; rfl, HBB.out.trans (HB4.out.mono HBB.out.size)⟩
    have ha := ho
    clear ho
    by_cases ho : op.data.toList = lFby
    · obtain ⟨x, hx⟩ : ∃ x, l[0]? = some x := ⟨_, List.getElem?_eq_getElem (by rw [a4 ho]; omega)⟩
      obtain ⟨y, hy⟩ : ∃ x, l[1]? = some x := ⟨_, List.getElem?_eq_getElem (by rw [a4 ho]; omega)⟩
      have HE : Hid (ltE (ltG g) (.mk op n s l) = behN (ltE (ltG g) x) (agoN (ltE (ltG g) y))) := by unfold Hid; rw [ltE_mk, if_neg hn, if_neg hp, if_neg ha, if_pos ho, ltL_at hx, ltL_at hy]
      have dn : (op.toList == [110, 97, 109, 101]) = false := by rw [ByteArray.toList_eq, ho]; rfl
      have dp : (op.toList == [112, 114, 101]) = false := by rw [ByteArray.toList_eq, ho]; rfl
      have da : (op.toList == [45, 62]) = false := by rw [ByteArray.toList_eq, ho]; rfl
      have df : (op.toList == [102, 98, 121]) = true := by rw [ByteArray.toList_eq, ho]; rfl
      have HC0 : Hid (Calls Tryd.prog 37 #[.int .i64 0, .pointer (some ⟨B1, 0, none⟩), .pointer (some ⟨B2, 0, none⟩)] w2 fun e w' => e = .returned (.int .i64 (ltE (ltG g) x : Nat)) ∧ Below w2.heap.size w2 w') := HL1.out w2 0 x (Below.refl _ _) hx
      have HC1 : Hid (∀ W, Below w2.heap.size w2 W → Calls Tryd.prog 37 #[.int .i64 1, .pointer (some ⟨B1, 0, none⟩), .pointer (some ⟨B2, 0, none⟩)] W fun e w' => e = .returned (.int .i64 (ltE (ltG g) y : Nat)) ∧ Below w2.heap.size w2 w') := fun W hW => HL1.out W 1 y hW hy
      obtain ⟨k, hk⟩ : ∃ k, k = ltE (ltG g) x := ⟨_, rfl⟩
      obtain ⟨j, hj⟩ : ∃ k, k = ltE (ltG g) y := ⟨_, rfl⟩
      have HK : Hid (j ≤ 2) := by unfold Hid; rw [hj]; exact ltE_le HG.out y
      rw [← hk, ← hj] at HE
      rw [← hk] at HC0
      rw [← hj] at HC1
      have HAG : Hid (∀ W, Calls Tryd.prog 38 #[.int .i64 (j : Int)] W fun e w' => e = .returned (.int .i64 (agoN j : Nat)) ∧ w' = W) := fun W => ago_any W j HK.out
      have HBE : Hid (∀ W, Calls Tryd.prog 39 #[.int .i64 (k : Int), .int .i64 (agoN j : Nat)] W fun e w' => e = .returned (.int .i64 (behN k (agoN j) : Nat)) ∧ w' = W) := fun W => behind_any W k _ (agoN_le j)
      clear IH hm hF hg hsm a1 a2 a3 a4 a5 hrow hex hml hw1 hw2 hb1 hb2 hs1 hbb hst hr1 hr2 hB1 hB2 hLA ho hn hp ha hx hy hk hj c2 c3 c4
      go_enter Tryd.func20, Tryd.ntmps20
      go_upto_region 1 with fail
      rw [HW.out.1, HW.out.2.2.1, HW.out.2.1, HW.out.2.2.2]
      go_wp2_with fail
      refine HC0.out.mono ?_
      rintro e w3 ⟨rfl, hb3⟩
      have HB3 : Hid (Below w2.heap.size w2 w3) := hb3
      clear hb3 c0
      go_wp2_with fail
      refine (HC1.out w3 HB3.out).mono ?_
      rintro e w4 ⟨rfl, hb4⟩
      have HB4 : Hid (Below w2.heap.size w2 w4) := hb4
      clear hb4
      go_wp2_with fail
      refine (HAG.out w4).mono ?_
      rintro e w5 ⟨rfl, hw5⟩
      subst hw5
      go_wp2_with fail
      refine (HBE.out w5).mono ?_
      rintro e w6 ⟨rfl, hw6⟩
      subst hw6
      go_wp2
      go_ret
      exact ⟨by rw [HE.out]; rfl, HBB.out.trans (HB4.out.mono HBB.out.size)⟩
    have hf := ho
    clear ho
    have HE : Hid (ltE (ltG g) (.mk op n s l) = (ltL (ltG g) l).foldl Nat.max 0) := by unfold Hid; rw [ltE_mk, if_neg hn, if_neg hp, if_neg ha, if_neg hf]
    have dn : (op.toList == [110, 97, 109, 101]) = false := by rw [ByteArray.toList_eq]; exact beq_eq_false_iff_ne.2 hn
    have dp : (op.toList == [112, 114, 101]) = false := by rw [ByteArray.toList_eq]; exact beq_eq_false_iff_ne.2 hp
    have da : (op.toList == [45, 62]) = false := by rw [ByteArray.toList_eq]; exact beq_eq_false_iff_ne.2 ha
    have df : (op.toList == [102, 98, 121]) = false := by rw [ByteArray.toList_eq]; exact beq_eq_false_iff_ne.2 hf
    clear IH hm hF hg hsm a1 a2 a3 a4 a5 hrow hex hml hw1 hw2 hb1 hb2 hs1 hbb hst hr1 hr2 hB1 hB2 hLA hn hp ha hf c2 c4
    go_enter Tryd.func20, Tryd.ntmps20
    go_upto_region 1 with fail
    rw [HW.out.1, HW.out.2.2.1, HW.out.2.1, HW.out.2.2.2]
    go_wp2
    clear c0 c3
    go_loopw [6, 40] (fun v t wr => ∃ (j q : Nat), j ≤ l.length ∧ t = .int .i64 j ∧ v = .int .i64 q ∧ Hid (q = ((ltL (ltG g) l).take j).foldl Nat.max 0 ∧ Below w2.heap.size w2 wr)) (fun _ t _ => l.length - (intOf t).toNat)
    case atStart => exact ⟨0, 0, Nat.zero_le _, rfl, rfl, rfl, Below.refl _ _⟩
    case round =>
      obtain ⟨j, q, hj, rfl, rfl, HR⟩ := hrel
      by_cases hjl : j < l.length
      · obtain ⟨x, hx⟩ : ∃ x, l[j]? = some x := ⟨_, List.getElem?_eq_getElem hjl⟩
        obtain ⟨k, hk⟩ : ∃ k, k = ltE (ltG g) x := ⟨_, rfl⟩
        have hca := HL1.out wr j x HR.out.2 hx
        rw [← hk] at hca
        have HCA : Hid (Calls Tryd.prog 37 #[.int .i64 (j : Int), .pointer (some ⟨B1, 0, none⟩), .pointer (some ⟨B2, 0, none⟩)] wr fun e w' => e = .returned (.int .i64 (k : Nat)) ∧ Below w2.heap.size w2 w') := hca
        have HQ : Hid (Nat.max q k = ((ltL (ltG g) l).take (j + 1)).foldl Nat.max 0) := by
          unfold Hid
          have h1 : (ltL (ltG g) l)[j]? = some k := by rw [ltL_map, List.getElem?_map, hx, hk]; rfl
          rw [List.take_add_one, h1, HR.out.1]
          simp
        have HJ : Hid (j < l.length) := hjl
        have N4 : Hid (wrap64 ((j : Int) + 1) = (j : Int) + 1) := by have := HML.out; have := HJ.out; unfold Hid wrap64; omega
        have i1' : (j : Int) < (l.length : Int) := by omega
        clear hca hx hk hj hjl HR
        go_wp2_with fail
        refine HCA.out.mono ?_
        rintro e w4 ⟨rfl, hb4⟩
        have HB4 : Hid (Below w2.heap.size w2 w4) := hb4
        clear hb4
        by_cases hqk : q ≤ k
        · have d1 : decide ((k : Int) < (q : Int)) = false := by simp; omega
          have d2 : ((k : Int) < (q : Int)) = False := by simp; omega
          have HQC : Hid (q ≤ k) := hqk
          have HQK : Hid (Nat.max q k = k) := Nat.max_eq_right hqk
          clear hqk
          go_wp2
          exact ⟨⟨j + 1, k, HJ.out, by rw [N4.out]; rfl, by congr 1; have := HQC.out; split <;> omega, by rw [← HQ.out, HQK.out], HB4.out⟩, by rw [N4.out]; have := HJ.out; simp [intOf]; omega⟩
        · have d1 : decide ((k : Int) < (q : Int)) = true := by simp; omega
          have HQC : Hid (¬ q ≤ k) := hqk
          have HQK : Hid (Nat.max q k = q) := Nat.max_eq_left (by omega)
          clear hqk
          go_wp2
          exact ⟨⟨j + 1, q, HJ.out, by rw [N4.out]; rfl, by congr 1; have := HQC.out; split <;> omega, by rw [← HQ.out, HQK.out], HB4.out⟩, by rw [N4.out]; have := HJ.out; simp [intOf]; omega⟩
      · obtain rfl : j = l.length := by omega
        have HEE : Hid (q = ltE (ltG g) (.mk op n s l) ∧ Below w.heap.size w wr) := by
          refine ⟨?_, HBB.out.trans (HR.out.2.mono HBB.out.size)⟩
          rw [HE.out, HR.out.1, List.take_of_length_le (by rw [ltL_map]; simp)]
        clear hj hjl HR
        go_wp2
        go_ret
        exact ⟨by rw [HEE.out.1]; rfl, HEE.out.2⟩
end Go.Proofs.YtpkgingjmgakbaaDoor
