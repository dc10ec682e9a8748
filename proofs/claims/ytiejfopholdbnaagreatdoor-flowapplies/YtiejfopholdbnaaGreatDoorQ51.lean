/-
  PROVED: for every operator and every list of values lustrumlaw2.FlowApplies returns true: flow.Apply tells just what the document's operator comes to of these values, and traps just where it does; where the document does not take it, its error and nothing else; before that, an instant of a program of one flow is told right. Conditions: the row's own: the listed variables start as the program's text lays them (the card ties that).
-/
import Derived.Test.YtiejfopholdbnaaGreatDoorQ35
import Derived.Test.YtiejfopholdbnaaGreatDoorQ50
import Derived.Test.YtiejfopholdbnaaGreatDoorQ36
import Derived.Test.YtiejfopholdbnaaGreatDoorQ23
import Derived.Test.YtiejfopholdbnaaGreatDoorQ33
import Derived.Test.YtiejfopholdbnaaGreatDoorQ34
import Derived.Test.YtiejfopholdbnaaGreatDoorCards
import Derived.Test.YtiejfopholdbnaaGreatDoorTie
import Derived.ProofKit
import Derived.OpenShut
import Derived.Carry
import Derived.LaidMore
import Derived.Deep.DeepHandedRow
import Derived.Deep.DeepWitnessRowRef
namespace Go.Proofs.YtiejfopholdbnaaGreatDoor
open Go.RowKit Go.Maps
set_option maxRecDepth 100000
set_option maxHeartbeats 1000000

theorem vlC_get {l : List (Int × Int)} {k : Nat} {x : Int × Int} (h : l[k]? = some x) : (vlC l)[k * 2]? = some (.int .i64 x.1) ∧ (vlC l)[k * 2 + 1]? = some (.int .i64 x.2) := by
 induction l generalizing k with
 | nil => simp at h
 | cons y l ih =>
  cases k with
  | zero =>
   obtain rfl := Option.some.inj h
   exact ⟨rfl, rfl⟩
  | succ k =>
   have := ih (k := k) h
   have e1 : (k + 1) * 2 = k * 2 + 1 + 1 := by omega
   have e2 : (k + 1) * 2 + 1 = k * 2 + 1 + 1 + 1 := by omega
   have e3 : vlC (y :: l) = .int .i64 y.1 :: .int .i64 y.2 :: vlC l := rfl
   rw [e1, e3]
   exact this
theorem ValsAt.of_vl {w : World} {v : Value} {l : List (Int × Int)} (h : VlAt w v l) : ValsAt w v l := by
 obtain ⟨h1, h2, o, c, rfl, h3, h4⟩ := h
 refine ⟨h2, o, c, rfl, fun k x hk => ?_⟩
 obtain ⟨y0, y1⟩ := vlC_get hk
 obtain ⟨b, off, rfl, _, c0⟩ := h3 _ _ y0
 obtain ⟨b', off', e, _, c1⟩ := h3 _ _ y1
 obtain ⟨rfl, rfl⟩ : b = b' ∧ off = off' := by simpa using e
 exact ⟨b, off, rfl, c0, c1⟩
theorem vals_cells {w : World} {b off n c : Nat} {l : List (Int × Int)} (h : ValsAt w (.slice (some ⟨b, off, none⟩) n c) l) : ∀ (j : Nat) (u : Value), (vlC l)[j]? = some u → w.cell? ((⟨b, off, none⟩ : Addr).add j) = some u := by
 obtain ⟨_, o', c', e, hg⟩ := h
 have e := (Value.slice.inj e).1
 intro j u hj
 rw [Addr.add_lit]
 have hlt : j < l.length * 2 := by rw [← vlC_length]; exact (List.getElem?_eq_some_iff.1 hj).1
 obtain ⟨x, hx⟩ : ∃ x, l[j / 2]? = some x := ⟨_, List.getElem?_eq_getElem (by omega)⟩
 obtain ⟨b', off', e', c0, c1⟩ := hg _ _ hx
 rw [← e] at e'
 obtain ⟨rfl, rfl⟩ : b = b' ∧ off = off' := by simpa using e'
 obtain ⟨y0, y1⟩ := vlC_get hx
 rcases Nat.mod_two_eq_zero_or_one j with h | h
 ·have ej : j / 2 * 2 = j := by omega
  rw [ej] at y0 c0
  rw [y0] at hj
  rw [← Option.some.inj hj]; exact c0
 ·have ej : j / 2 * 2 + 1 = j := by omega
  rw [ej] at y1
  rw [show off + j / 2 * 2 + 1 = off + j from by omega] at c1
  rw [y1] at hj
  rw [← Option.some.inj hj]; exact c1
theorem lvalues_any (w : World) (o : Option Addr) (n c : Nat) (l : List (Int × Int)) (hv : ValsAt w (.slice o n c) l) (hn : n = l.length) (hl : l.length ≤ 10) :
  Calls Tryz.prog 27 #[.slice o n c] w fun e w' => ∃ o' c', e = .returned (.slice o' n c') ∧ ValsAt w' (.slice o' n c') l ∧ Below w.heap.size w w' := by
 obtain ⟨i0, hi0, hz0, hz1, hz2⟩ := info_parts Tryz.infoValV
 have HO : Hid (w.ownsRow w.heap.size 66 2 (.slice none 0 0) 0 []) := World.ownsRow_nil _ _ _ _
 have HL : Hid (n = l.length ∧ l.length ≤ 10 ∧ ValsAt w (.slice o n c) l) := ⟨hn, hl, hv⟩
 by_cases h0 : n = 0
 ·subst h0
  have HLE : Hid (l = []) := List.eq_nil_of_length_eq_zero HL.out.1.symm
  have hno := append_noV HO.out o c
  clear hv hn hl HL
  go_enter Tryz.func27, Tryz.ntmps27
  go_wp2_with (at_builtin; refine Lib.wpList_append_run _ rfl _ _ _ _ rfl _ _ rfl rfl _ _ (hno _) ?_)
  go_ret
  exact ⟨_, _, rfl, by rw [HLE.out]; exact ⟨Nat.zero_le _, _, _, rfl, fun k x hk => by simp at hk⟩, Below.refl _ _⟩
 ·obtain ⟨b, off, rfl⟩ : ∃ b off, o = some ⟨b, off, none⟩ := by
   obtain ⟨x, hx⟩ : ∃ x, l[0]? = some x := ⟨_, List.getElem?_eq_getElem (by omega)⟩
   obtain ⟨_, o', c', e, hg⟩ := hv
   obtain ⟨b, off, e', _⟩ := hg 0 x hx
   exact ⟨b, off, by rw [(Value.slice.inj e).1, e']⟩
  have HN : Hid (∀ (j : Nat) (u : Value), (vlC l)[j]? = some u → w.cell? ((⟨b, off, none⟩ : Addr).add j) = some u) := vals_cells hv
  have HQ : Hid ((vlC l).length = n * 2 ∧ (∀ u ∈ vlC l, u.oneCell' = true) ∧ 0 < n ∧ 0 + n ≤ maxLen ∧ (0 + n) * 16 ≤ 140737488355328) := ⟨by rw [vlC_length, hn], fun u hu => by unfold vlC at hu; obtain ⟨x, _, hx⟩ := List.mem_flatMap.1 hu; simp at hx; rcases hx with rfl | rfl <;> rfl, by omega, by unfold maxLen; omega, by omega⟩
  clear hv hn hl h0
  go_enter Tryz.func27, Tryz.ntmps27
  go_wp2_with (at_builtin; refine wpList_append_lies _ rfl _ _ 64 rfl w.heap.size 66 i0 _ 2 16 Tryz.underlying64 hi0 hz0 hz1 hz2 rfl (by omega) (.slice none 0 0) 0 _ rfl HO.out ⟨b, off, none⟩ n c (vlC l) rfl HQ.out.1 HN.out HQ.out.2.1 HQ.out.2.2.1 HQ.out.2.2.2.1 HQ.out.2.2.2.2 (Nat.le_refl _) _ rfl ?_; intro g cap w3 hown hgrow hat hlt)
  go_ret
  refine ⟨_, _, rfl, ?_, (Below.refl _ _).grown hgrow (Nat.le_refl _) (fun k hk => by cases hk)⟩
  have hr := (RowAt.of_owns hown).wide
  rw [Nat.zero_add, List.nil_append, HL.out.1] at hr
  rw [HL.out.1]
  exact ValsAt.of_vl hr
set_option maxRecDepth 100000
set_option maxHeartbeats 4000000

theorem sents_errs {a : Nat → Addr} {w : World} (S : Sents a w) : ∃ E : ErV, ErrsAt w E :=
 ⟨{ st := _, bt := _, tt := _, sq := _, bq := _, tq := _, ct := _, cq := _, ft := _, fq := _ }, ⟨S.g2, S.g1, S.g4⟩, S.g5, S.g6⟩
def TrZ (x : (Int × Int) × Bool) : Prop := x.2 = true → x.1 = (0, 0)
theorem trz_ite {c : Prop} [Decidable c] {x y : (Int × Int) × Bool} (hx : TrZ x) (hy : TrZ y) : TrZ (if c then x else y) := by split <;> assumption
theorem appT_trz (op : List UInt8) (l : List (Int × Int)) : TrZ (appT op l) := by
 unfold appT
 split
 all_goals repeat' (refine trz_ite ?_ ?_)
 all_goals (intro h; first | rfl | (exact absurd h (by simp)))
theorem appT_trap {op : List UInt8} {l : List (Int × Int)} (h : (appT op l).2 = true) : (appT op l).1 = (0, 0) := appT_trz op l h
theorem flowApplies_walk (a : Nat → Addr) (w : World) (S : Sents a w) (s : ByteArray) (hs : s.size ≤ maxLen) (v : Value) (l : List (Int × Int)) (hv : ValsAt w v l) :
  Calls Tryz.prog 6 #[.string s, v] w fun e w' => e = .returned (.bool true) ∧ Below w.heap.size w w' := by
 have HS : Hid (Sents a w) := S
 have HV := hidP hv
 have HSS := hidP hs
 obtain ⟨hml, o, c, rfl, _⟩ := hv
 obtain ⟨E, hE⟩ := sents_errs S
 have HON : Hid (Calls Tryz.prog 18 #[] w fun e w' => e = .returned (.bool true) ∧ Below w.heap.size w w') := once_any w E hE
 obtain ⟨n, hn⟩ : ∃ n, n = l.length := ⟨_, rfl⟩
 have HN := hidP hn
 rw [← hn]
 clear S hs hml hE hn
 go_enter Tryz.func6, Tryz.ntmps6
 by_cases hl : n ≤ 10
 case neg =>
  have hd : ((10 : Int) < (n : Int)) = True := eq_true (by omega)
  clear hl
  go_wp2_with (go_at_call 18; refine HON.out.mono ?_; rintro e w1 ⟨rfl, hb1⟩)
  go_ret
  exact ⟨rfl, hb1⟩
 case pos =>
 have hd : ((10 : Int) < (n : Int)) = False := eq_false (by omega)
 have HL : Hid (l.length ≤ 10) := by unfold Hid; rw [← HN.out]; exact hl
 clear hl
 go_upto_region 4 with (go_at_call 18; refine HON.out.mono ?_; rintro e w1 ⟨rfl, hb1⟩)
 have HB1 := hidP hb1
 have HV1 : Hid (ValsAt w1 (.slice o n c) l) := by unfold Hid; rw [HN.out]; exact HV.out.below hb1
 have HVV : Hid (Calls Tryz.prog 27 #[.slice o n c] w1 fun e w' => ∃ o' c', e = .returned (.slice o' n c') ∧ ValsAt w' (.slice o' n c') l ∧ Below w1.heap.size w1 w') := lvalues_any w1 o n c l HV1.out HN.out HL.out
 clear hb1 hd HON
 go_upto_region 5 with (first
  | (go_at_call 27; refine HVV.out.mono ?_; rintro e w2 ⟨o2, c2, rfl, hv2, hb2⟩; have HB2 : Hid (Below w.heap.size w w2) := HB1.out.trans (hb2.mono HB1.out.size); have HAP : Hid (Calls Tryz.prog 26 #[.string s, .slice o2 n c2] w2 fun e w' => Below w2.heap.size w2 w' ∧ ApR s.data.toList l 289 289 (.pointer (some (a 2))) (.pointer (some (a 4))) e) := fapply_all w2 s HSS.out o2 n c2 l hv2 HN.out HL.out _ _ _ _ (cell_keep HB2.out HS.out.g4) (cell_keep HB2.out HS.out.g2); clear hv2 hb2 HVV)
  | (go_at_call 26; refine HAP.out.mono ?_; rintro e w3 ⟨hb3, har⟩; have HAR := hidP har; have HB3 : Hid (Below w.heap.size w w3) := HB2.out.trans (hb3.mono HB2.out.size); obtain ⟨k, r, tr, er, rfl⟩ : ∃ (k r : Int) (tr : Bool) (er : Value), e = .returned (.tuple #[.agg #[.int .i64 k, .int .i64 r], .bool tr, er]) := (by rcases har with ⟨_, h⟩ | ⟨_, h⟩ | ⟨_, h⟩ <;> exact ⟨_, _, _, _, h⟩); clear hb3 har HAP))
 obtain ⟨w4, hw4⟩ : ∃ w4, w4 = w3.alloc (.cells #[.int .i64 k, .int .i64 r] 66) := ⟨_, rfl⟩
 obtain ⟨T, hT⟩ : ∃ T, T = w3.heap.size := ⟨_, rfl⟩
 have hb4 : Below w3.heap.size w3 w4 := by rw [hw4]; exact bal
 have HR4 : Hid (w4.heap[T]? = some (.cells #[.int .i64 k, .int .i64 r] 66 (0, 0))) := by unfold Hid; rw [hw4, hT]; exact heap_alloc_new _ _
 have HB4 : Hid (Below w.heap.size w w4) := HB3.out.trans (hb4.mono HB3.out.size)
 rw [← hw4, ← hT]
 have HV4 : Hid (∀ W, Below w.heap.size w W → ValsAt W (.slice o n c) l) := fun W hW => by have := HV.out.below hW; rw [← HN.out] at this; exact this
 have HIS : Hid (Calls Tryz.prog 28 #[.string s, .slice o n c] w4 fun e w' => e = .returned (.int .i64 (isI s.data.toList l)) ∧ Below w4.heap.size w4 w') := by
  have h := isApply_any s l HL.out (.slice o n c) w4 (HV4.out w4 HB4.out)
  rw [ByteArray.toList_eq] at h
  exact h
 have HAPO : Hid (isI s.data.toList l = 0 → ∀ W, Below w.heap.size w W → Calls Tryz.prog 30 #[.string s, .slice o n c] W fun e w' => e = .returned (.tuple #[.agg #[.int .i64 (appT s.data.toList l).1.1, .int .i64 (appT s.data.toList l).1.2], .bool (appT s.data.toList l).2]) ∧ Below W.heap.size W w') := fun h0 W hW => by
  have h := applyOf_any s l (by rw [ByteArray.toList_eq]; exact h0) (.slice o n c) W (HV4.out W hW)
  rw [ByteArray.toList_eq] at h
  exact h
 clear hw4 hT hb4
 rcases HAR.out with ⟨h30, h3⟩ | ⟨h50, h5⟩ | ⟨h00, h0⟩
 ·obtain ⟨⟨rfl, rfl⟩, rfl, rfl⟩ : (k = 0 ∧ r = 0) ∧ tr = false ∧ er = .iface 289 (.pointer (some (a 2))) := by simpa using h3
  have HCO : Hid (∀ W, Below w.heap.size w W → Calls Tryz.prog 29 #[.iface 289 (.pointer (some (a 2))), .int .i64 3] W fun e w' => e = .returned (.bool true) ∧ Below W.heap.size W w') := fun W hW => by
   have S := HS.out.below hW
   obtain ⟨cb, tb, hrow⟩ := S.row 2 (by decide)
   exact coded_str a (a 2) 2 3 cb tb W S hrow (by decide) (fun j hj => S.inj 2 j (by decide) (by omega) (by omega)) (fun _ => rfl) (by rfl)
  have HIA : Hid (Calls Tryz.prog 28 #[.string s, .slice o n c] w4 fun e w' => e = .returned (.int .i64 3) ∧ Below w4.heap.size w4 w') := by
   have h := HIS.out
   rw [h30] at h
   exact h
  clear HIS h3 h30 HAR HAPO
  go_upto_region 7 with (go_at_call 28; refine HIA.out.mono ?_; rintro e w5 ⟨rfl, hb5⟩; have HB5 : Hid (Below w.heap.size w w5) := HB4.out.trans (hb5.mono HB4.out.size); have hr5 := row_keep hb5 HR4.out; clear hb5)
  go_wp2_with (go_at_call 29; refine (HCO.out w5 HB5.out).mono ?_; rintro e w6 ⟨rfl, hb6⟩; have HB6 : Hid (Below w.heap.size w w6) := HB5.out.trans (hb6.mono HB5.out.size); have hr6 := row_keep hb6 hr5; have y0 : w6.cell? ⟨T, 0, none⟩ = some (.int .i64 0) := (cr hr6 rfl); have y1 : w6.cell? ⟨T, 0 + 1, none⟩ = some (.int .i64 0) := (cr hr6 rfl); clear hb6 hr5 hr6)
  go_ret
  exact ⟨rfl, HB6.out⟩
 ·obtain ⟨⟨rfl, rfl⟩, rfl, rfl⟩ : (k = 0 ∧ r = 0) ∧ tr = false ∧ er = .iface 289 (.pointer (some (a 4))) := by simpa using h5
  have HCO : Hid (∀ W, Below w.heap.size w W → Calls Tryz.prog 29 #[.iface 289 (.pointer (some (a 4))), .int .i64 5] W fun e w' => e = .returned (.bool true) ∧ Below W.heap.size W w') := fun W hW => by
   have S := HS.out.below hW
   obtain ⟨cb, tb, hrow⟩ := S.row 4 (by decide)
   exact coded_str a (a 4) 4 5 cb tb W S hrow (by decide) (fun j hj => S.inj 4 j (by decide) (by omega) (by omega)) (fun _ => rfl) (by rfl)
  have HIA : Hid (Calls Tryz.prog 28 #[.string s, .slice o n c] w4 fun e w' => e = .returned (.int .i64 5) ∧ Below w4.heap.size w4 w') := by
   have h := HIS.out
   rw [h50] at h
   exact h
  clear HIS h5 h50 HAR HAPO
  go_upto_region 7 with (go_at_call 28; refine HIA.out.mono ?_; rintro e w5 ⟨rfl, hb5⟩; have HB5 : Hid (Below w.heap.size w w5) := HB4.out.trans (hb5.mono HB4.out.size); have hr5 := row_keep hb5 HR4.out; clear hb5)
  go_wp2_with (go_at_call 29; refine (HCO.out w5 HB5.out).mono ?_; rintro e w6 ⟨rfl, hb6⟩; have HB6 : Hid (Below w.heap.size w w6) := HB5.out.trans (hb6.mono HB5.out.size); have hr6 := row_keep hb6 hr5; have y0 : w6.cell? ⟨T, 0, none⟩ = some (.int .i64 0) := (cr hr6 rfl); have y1 : w6.cell? ⟨T, 0 + 1, none⟩ = some (.int .i64 0) := (cr hr6 rfl); clear hb6 hr5 hr6)
  go_ret
  exact ⟨rfl, HB6.out⟩
 ·obtain ⟨⟨hk, hr⟩, ht, rfl⟩ : (k = (appT s.data.toList l).1.1 ∧ r = (appT s.data.toList l).1.2) ∧ tr = (appT s.data.toList l).2 ∧ er = .nilIface := by simpa using h0
  have HIA : Hid (Calls Tryz.prog 28 #[.string s, .slice o n c] w4 fun e w' => e = .returned (.int .i64 0) ∧ Below w4.heap.size w4 w') := by
   have h := HIS.out
   rw [h00] at h
   exact h
  have HAO : Hid (∀ W, Below w.heap.size w W → Calls Tryz.prog 30 #[.string s, .slice o n c] W fun e w' => e = .returned (.tuple #[.agg #[.int .i64 k, .int .i64 r], .bool tr]) ∧ Below W.heap.size W w') := by
   have h := HAPO.out h00
   rw [← hk, ← hr, ← ht] at h
   exact h
  have HTZ : Hid (tr = true → k = 0 ∧ r = 0) := fun e => by
   have := appT_trap (ht.symm.trans e)
   rw [hk, hr, this]
   exact ⟨rfl, rfl⟩
  clear HIS h0 h00 HAR HAPO hk hr ht
  go_upto_region 8 with (go_at_call 28; refine HIA.out.mono ?_; rintro e w5 ⟨rfl, hb5⟩; have HB5 : Hid (Below w.heap.size w w5) := HB4.out.trans (hb5.mono HB4.out.size); have hr5 := row_keep hb5 HR4.out; have HR5 := hidP hr5; clear hb5 hr5)
  go_upto_region 9 with (go_at_call 30; refine (HAO.out w5 HB5.out).mono ?_; rintro e w6 ⟨rfl, hb6⟩; have HB6 : Hid (Below w.heap.size w w6) := HB5.out.trans (hb6.mono HB5.out.size); have hr6 := row_keep hb6 HR5.out; have HR6 := hidP hr6; clear hb6 hr6)
  obtain ⟨w7, hw7⟩ : ∃ w7, w7 = w6.alloc (.cells #[.int .i64 k, .int .i64 r] 66) := ⟨_, rfl⟩
  obtain ⟨U, hU⟩ : ∃ U, U = w6.heap.size := ⟨_, rfl⟩
  have hb7 : Below w6.heap.size w6 w7 := by rw [hw7]; exact bal
  have hu : w7.heap[U]? = some (.cells #[.int .i64 k, .int .i64 r] 66 (0, 0)) := by rw [hw7, hU]; exact heap_alloc_new _ _
  have ht7 := row_keep hb7 HR6.out
  have HB7 : Hid (Below w.heap.size w w7) := HB6.out.trans (hb7.mono HB6.out.size)
  rw [← hw7, ← hU]
  have y0 : w7.cell? ⟨T, 0, none⟩ = some (.int .i64 k) := cr ht7 rfl
  have y1 : w7.cell? ⟨T, 0 + 1, none⟩ = some (.int .i64 r) := cr ht7 rfl
  have u0 : w7.cell? ⟨U, 0, none⟩ = some (.int .i64 k) := cr hu rfl
  have u1 : w7.cell? ⟨U, 0 + 1, none⟩ = some (.int .i64 r) := cr hu rfl
  clear hw7 hU hb7 hu ht7
  cases tr with
  | true =>
   obtain ⟨rfl, rfl⟩ := HTZ.out rfl
   go_wp2
   go_ret
   exact ⟨rfl, HB7.out⟩
  | false =>
   go_wp2
   go_ret
   exact ⟨rfl, HB7.out⟩
end Go.Proofs.YtiejfopholdbnaaGreatDoor
namespace Go.Proofs.YtiejfopholdbnaaGreatDoor.flowApplies
open Go.ChangeShapes Go.WideShapes Go.ChangeAt Go.RowKit

theorem door_met (os : Os) : laidMetH Tryz.prog Rows.flowAppliesRow.laid ((World.doorLaid Tryz.prog 400 os).forCall (fun _ _ => 0) ⟨#[], #[.string ⟨#[]⟩, .slice none 0 0], []⟩).memory :=
 laidMetH_of_parts3 (fuel := 8) (laidMet_of_run' 8 (by kernel_rfl) (by kernel_rfl)) (by kernel_rfl) (by kernel_rfl)
theorem reads (os : Os) {H : Type} (enc : TypeId × Value → H) : ∃ places, DataW.whole enc Tryz.prog ((World.doorLaid Tryz.prog 400 os).forCall (fun _ _ => 0) ⟨#[], #[.string ⟨#[]⟩, .slice none 0 0], []⟩).memory Tryz.f6.params.toList Rows.flowAppliesSpec.vars false (#[.string ⟨#[]⟩, .slice none 0 0] : Array Value).toList 8 = some ([.lit (.string []), .nil], [], places) :=
 ⟨[], by kernel_rfl⟩
theorem sents {W : World} (h : laidMetH Tryz.prog Rows.flowAppliesRow.laid W) : ∃ a : Nat → Addr, Sents a W := by
 have h' : laidMet Tryz.prog (Rows.flowAppliesRow.laid.filter fun x => x.2.handleName?.isNone) W ∧ handlesMet Tryz.prog (Rows.flowAppliesRow.laid.filter fun x => x.2.handleName?.isSome) W := h
 obtain ⟨a, S, _⟩ := sents_of h'.1 h'.2 (List.mem_filter.2 ⟨by simp [Rows.flowAppliesRow, Rows.laid_errors_errorType], rfl⟩) (fun x hx => List.mem_filter.2 ⟨by
  simp only [List.mem_cons, List.not_mem_nil, or_false] at hx
  rcases hx with rfl | rfl | rfl | rfl | rfl | rfl | rfl | rfl | rfl <;> simp [Rows.flowAppliesRow], by
  simp only [List.mem_cons, List.not_mem_nil, or_false] at hx
  rcases hx with rfl | rfl | rfl | rfl | rfl | rfl | rfl | rfl | rfl <;> rfl⟩)
 exact ⟨a, S⟩
theorem laidOut : laidOutB Tryz.prog = true := by kernel_rfl

set_option maxRecDepth 100000 in
theorem contract (H : Type) (enc : TypeId × Value → H) (W : World) (base : Nat) (args : Array Value) (ds gs : List (DataW H)) (before : List MemPlace)
  (hval : ∀ (j : Nat) t v, Tryz.f6.params[j]? = some t → args[j]? = some v → Value.okWide Tryz.prog W .any base t v)
  (hW : DataW.Whole enc Tryz.prog Tryz.f6.params.toList Rows.flowAppliesSpec.vars false W args.toList ds gs before) (hL : laidMetH Tryz.prog Rows.flowAppliesRow.laid W) :
  Calls Tryz.prog 6 args W fun e W' => ∃ v, e = .returned v ∧ Rows.flowAppliesSpec.post enc Tryz.prog Tryz.f6 false true false false W args v W' := by
 have hW' := hW
 obtain ⟨p, q, hA0, hV, rfl, hfz, hnd⟩ := hW
 have hA : DataW.TrodAll enc Tryz.prog W 0 (fun _ => true) true Tryz.f6.params.toList args.toList ds p := hA0
 rw [Tryz.params6] at hA hval
 obtain ⟨v0, vs0, d0, ds0, p0, q0, hargs0, rfl, rfl, h0, r0⟩ := trodAll_cons hA
 obtain ⟨v1, vs1, d1, ds1, p1, q1, hargs1, rfl, rfl, h1, r1⟩ := trodAll_cons r0
 obtain ⟨rfl, rfl, rfl⟩ := trodAll_nil r1
 obtain rfl : args = #[v0, v1] := by cases args; simp_all
 obtain ⟨rfl, rfl⟩ := trodVars_none hV
 simp only [List.append_nil] at hW'
 have hlt : ∀ x ∈ p0 ++ p1, x.block < W.heap.size := fun x hx => by simpa using hW'.lt x (by simpa using hx)
 have back0 : ∀ W', Below W.heap.size W W' → DataW.Trod enc Tryz.prog W' 0 (fun b => decide (b < W.heap.size)) true 9 v0 d0 p0 :=
  fun W' hb => Below.trod laidOut (by kernel_rfl) (of_decide_eq_true (by kernel_rfl)) h0 hb (fun x hx => hlt x (by simp [hx]))
 have back1 : ∀ W', Below W.heap.size W W' → DataW.Trod enc Tryz.prog W' 0 (fun b => decide (b < W.heap.size)) true 64 v1 d1 p1 :=
  fun W' hb => Below.trod laidOut (by kernel_rfl) (of_decide_eq_true (by kernel_rfl)) h1 hb (fun x hx => hlt x (by simp [hx]))
 obtain ⟨x0, rfl, rfl, rfl, hs0⟩ := Go.ChangeMaps.open_string Tryz.underlying9 (hval 0 9 v0 rfl rfl) h0
 obtain ⟨uo, un, uc, rfl⟩ := okWide_slice Tryz.underlying64 (hval 1 64 v1 rfl rfl)
 obtain ⟨fuel1, h1'⟩ := h1
 obtain ⟨m1, l1, e1, HM1⟩ := open_values h1'
 simp only [Value.cells, List.cons.injEq, and_true] at e1
 subst e1
 clear hA0
 obtain ⟨a, S⟩ := sents hL
 refine (flowApplies_walk a W S x0 hs0 _ l1 HM1).mono fun e W' ⟨he, hb⟩ => ?_
 subst he
 refine ⟨_, rfl, _, _, _, [], ([] ++ (p1 ++ [])), [], hW', ?_, ?_, ?_, hb.frame _, fun h => by cases h⟩
 ·exact trodAll_cons_mk (shut_bool Tryz.underlying4 _) trodAll_mk0
 ·exact trodAll_cons_mk (back0 W' hb) (trodAll_cons_mk (back1 W' hb) trodAll_mk0)
 ·rfl

set_option maxRecDepth 100000 in
theorem lifted (os : Os) (started : os.Started) (H : Type) (enc : TypeId × Value → H) (F : Stop.Interp) :
  ReturnsInHanded {} Tryz.checked os 6 .any ((OpenSpec.ofChange Rows.flowAppliesSpec).preRow enc Tryz.prog Tryz.f6 Rows.flowAppliesRow.domain false Rows.flowAppliesRow.laid) (((OpenSpec.ofChange Rows.flowAppliesSpec).at F).post enc Tryz.prog Tryz.f6 false true false false) := by
 obtain ⟨places, hx⟩ := reads os enc
 refine returnsInHanded_of_row (C := Tryz.checked) (s := OpenSpec.ofChange Rows.flowAppliesSpec) Tryz.own started (by kernel_rfl) Tryz.func6
  (witness_row_atRef (enc := enc) (C := Tryz.checked) false (World.doorLaid Tryz.prog 400 os) #[.string ⟨#[]⟩, .slice none 0 0] rfl (by kernel_rfl) (by kernel_rfl) (by kernel_rfl)
   (OpenSpec.preRow_of_cond 8 hx (by kernel_rfl) (fun k hk => by cases hk) (by kernel_rfl) (door_met os))) ?_
 intro W base args ds gs before hval hW _ _ _ hL _ _
 exact contract H enc W base args ds gs before hval hW hL

theorem said : Rows.FlowAppliesSaid :=
 OpenClaim.holds_of_cond 6 Tryz.f6 rfl rfl rfl rfl rfl rfl rfl ⟨rfl, rfl, rfl, rfl, rfl⟩ rfl rfl rfl rfl rfl (by kernel_rfl) Tryz.func6 (by kernel_rfl)
  (of_decide_eq_true (by kernel_rfl)) (by unfold Func.isWrapper; rw [if_neg (of_decide_eq_false (by kernel_rfl))]; exact ⟨rfl, rfl⟩)
  (fun os started H enc _ F => by rw [OpenClaim.pre_eq_preRow]; exact lifted os started H enc F)

theorem plain (f : FuncId) (fn : Func) (hf : Tryz.pinned.checked.prog.funcNamed "lustrum/lustrumlaw2.FlowApplies" = some f) (hfn : Tryz.pinned.checked.prog.funcs[f]? = some fn) :
  true = Tryz.pinned.checked.prog.looks [] ∧ ∀ (j : Nat) t, fn.params[j]? = some t → Tryz.pinned.checked.prog.wantsStandIn t = false := by
 obtain rfl : f = 6 := Option.some.inj ((show Tryz.prog.funcNamed "lustrum/lustrumlaw2.FlowApplies" = some 6 by kernel_rfl).symm.trans hf) |>.symm
 obtain rfl : fn = Tryz.f6 := (Option.some.inj (Tryz.func6.symm.trans hfn)).symm
 refine ⟨by kernel_rfl, fun j t ht => ?_⟩
 rw [Tryz.params6] at ht
 have hm := Array.mem_of_getElem? ht
 simp only [List.mem_toArray, List.mem_cons, List.not_mem_nil, or_false] at hm
 rcases hm with rfl | rfl
 ·exact (show Tryz.prog.wantsStandIn 9 = false by kernel_rfl)
 ·exact (show Tryz.prog.wantsStandIn 64 = false by kernel_rfl)

theorem card : Rows.FlowAppliesCardSaid :=
 Claim7.holds_tied_plain_at .later [] _ _ _ _ said (fun _ h => by cases h) (by kernel_rfl) (fun _ h => by cases h) flowApplies_row_tie rfl ⟨rfl, rfl⟩ (by kernel_rfl) rfl plain (by kernel_rfl)
end Go.Proofs.YtiejfopholdbnaaGreatDoor.flowApplies

namespace Go.Proofs.YtiejfopholdbnaaGreatDoor
theorem flowApplies_card : Rows.FlowAppliesCardSaid := flowApplies.card
#print axioms flowApplies_card
end Go.Proofs.YtiejfopholdbnaaGreatDoor
