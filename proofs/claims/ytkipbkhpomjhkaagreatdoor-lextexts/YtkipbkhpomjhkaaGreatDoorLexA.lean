/-
  THE SMALL FUNCTIONS OF package lex, BY THEIR CONTRACTS: which bytes are blanks, letters, digits; the kind of a name, of an operator. No conditions.
-/
import Derived.Test.YtkipbkhpomjhkaaGreatDoorChecked
import Derived.Test.YtkipbkhpomjhkaaGreatDoorLexP
import Derived.Test.YtkipbkhpomjhkaaGreatDoorShelf
import Derived.WalkKit
namespace Go.Proofs.YtkipbkhpomjhkaaGreatDoor
open Go.RowKit

theorem ret_bool {a b : Bool} (h : a = b) : Ending.returned (.bool a) = .returned (.bool b) := by rw [h]
theorem ret_str {a b : ByteArray} (h : a = b) : Ending.returned (.string a) = .returned (.string b) := by rw [h]
theorem ret_i64 {a b : Int} (h : a = b) : Ending.returned (.int .i64 a) = .returned (.int .i64 b) := by rw [h]

theorem isBlank_any (c : Int) (w : World) : Calls Tryz.prog 28 #[.int .u8 c] w fun e w' => e = .returned (.bool (blankI c)) ∧ w' = w := by
  go_enter Tryz.func28, Tryz.ntmps28
  go_wp2
  all_goals (go_ret; exact ⟨ret_bool (by simp [blankI, *]), rfl⟩)
theorem notNl_any (c : Int) (w : World) : Calls Tryz.prog 30 #[.int .u8 c] w fun e w' => e = .returned (.bool (notNlI c)) ∧ w' = w := by
  go_enter Tryz.func30, Tryz.ntmps30
  go_wp2
  all_goals (go_ret; exact ⟨ret_bool (by simp [notNlI, *]), rfl⟩)
theorem isSmall_any (c : Int) (w : World) : Calls Tryz.prog 32 #[.int .u8 c] w fun e w' => e = .returned (.bool (lowI c)) ∧ w' = w := by
  go_enter Tryz.func32, Tryz.ntmps32
  go_wp2
  all_goals (go_ret; exact ⟨ret_bool (by simp [lowI]; omega), rfl⟩)
theorem isDigit_any (c : Int) (w : World) : Calls Tryz.prog 35 #[.int .u8 c] w fun e w' => e = .returned (.bool (digI c)) ∧ w' = w := by
  go_enter Tryz.func35, Tryz.ntmps35
  go_wp2
  all_goals (go_ret; exact ⟨ret_bool (by simp [digI]; omega), rfl⟩)
theorem isOfName_any (c : Int) (w : World) : Calls Tryz.prog 33 #[.int .u8 c] w fun e w' => e = .returned (.bool (nameI c)) ∧ w' = w := by
  go_enter Tryz.func33, Tryz.ntmps33
  go_wp2_with (first | (go_at_call 32; refine (isSmall_any _ _).mono ?_; rintro e w' ⟨rfl, rfl⟩) | (go_at_call 35; refine (isDigit_any _ _).mono ?_; rintro e w' ⟨rfl, rfl⟩))
  all_goals (go_ret; exact ⟨ret_bool (by simp [nameI, *]), rfl⟩)

theorem isWord_any (t : ByteArray) (w : World) : Calls Tryz.prog 53 #[.string t] w fun e w' => e = .returned (.bool (wordB t)) ∧ w' = w := by
  go_enter Tryz.func53, Tryz.ntmps53
  go_wp2
  all_goals (go_ret; exact ⟨ret_bool (by simp_all [wordB, wordL]), rfl⟩)
theorem opKind_any (t : ByteArray) (w : World) : Calls Tryz.prog 38 #[.string t] w fun e w' => e = .returned (.string (opK t)) ∧ w' = w := by
  go_enter Tryz.func38, Tryz.ntmps38
  go_wp2
  all_goals (go_ret; exact ⟨ret_str (by simp [opK, kNone, kOp, *]), rfl⟩)
theorem nameKind_any (t : ByteArray) (w : World) (ht : t.size ≤ 6000) : Calls Tryz.prog 34 #[.string t] w fun e w' => e = .returned (.string (nameK t)) ∧ w' = w := by
  go_enter Tryz.func34, Tryz.ntmps34
  go_wp2_with (go_at_call 53; refine (isWord_any _ _).mono ?_; rintro e w' ⟨rfl, rfl⟩)
  all_goals (go_ret; exact ⟨ret_str (by first | (rw [nameK, if_pos (by omega)]; rfl) | (rw [nameK, if_neg (by omega)]; simp [kWord, kName, *])), rfl⟩)
theorem opLength_any (s : ByteArray) (w : World) (hs : s.size ≤ 6000) : Calls Tryz.prog 37 #[.string s] w fun e w' => e = .returned (.int .i64 (opN s)) ∧ w' = w := by
  have hnil := nil_iff s
  have HN : Hid (s.toList = [] ↔ s.size = 0) := hnil
  clear hnil
  go_enter Tryz.func37, Tryz.ntmps37
  go_wp2_with (go_at_call 55; refine (Tryz.strings_IndexByte _ _ _).mono ?_; rintro e w' ⟨rfl, rfl⟩)
  all_goals (try (have hz := HN.out; first | (exfalso; simp_all; done) | (exfalso; simp_all; omega)))
  all_goals (try go_ret)
  all_goals (first
    | exact ⟨ret_i64 (by have h2 : twoB s = true := (by first | exact twoB_of (l := [60, 62]) ‹_› (by decide) ‹_› | exact twoB_of (l := [60, 61]) ‹_› (by decide) ‹_› | exact twoB_of (l := [62, 61]) ‹_› (by decide) ‹_› | exact twoB_of (l := [61, 62]) ‹_› (by decide) ‹_› | exact twoB_of (l := [45, 62]) ‹_› (by decide) ‹_›); rw [opN_two h2]; rfl), rfl⟩
    | exact ⟨ret_i64 (by rw [opN_one (twoB_none ‹_› ‹_› ‹_› ‹_› ‹_›) (oneB_of ‹_› ‹_›)]; rfl), rfl⟩
    | exact ⟨ret_i64 (by rw [opN_none (twoB_none ‹_› ‹_› ‹_› ‹_› ‹_›) (oneB_not ‹_› ‹_›)]; rfl), rfl⟩
    | exact ⟨ret_i64 (by rw [opN_one (twoB_short ‹_›) (oneB_of ‹_› ‹_›)]; rfl), rfl⟩
    | exact ⟨ret_i64 (by rw [opN_none (twoB_short ‹_›) (oneB_not ‹_› ‹_›)]; rfl), rfl⟩
    | exact ⟨ret_i64 (by rw [opN_none (twoB_short ‹_›) (oneB_nil (by have := HN.out.1 ‹_›; omega))]; rfl), rfl⟩
    | fail)

theorem intKind_any (t : ByteArray) (w : World) (ht : 0 < t.size) (hs : t.size ≤ 6000) (hd : ∀ k, k < t.size → digI (byteI t k) = true) (ev : Value) (hv : w.cell? ⟨11, 0, none⟩ = some ev) (hev : ev = .nilIface ∨ ∃ te pe, ev = .iface te pe) :
    Calls Tryz.prog 36 #[.string t] w fun e w' => e = .returned (.string (intK t)) ∧ Below w.heap.size w w' := by
  rcases atoi_digits t ht hd with h1 | ⟨h1, h2⟩
  · go_enter Tryz.func36, Tryz.ntmps36
    go_wp2_with fail
    refine (Tryz.strconv_Atoi_ok t (by omega) _ h1 _).mono ?_
    rintro e w1 ⟨rfl, hw1⟩
    have hb : Below w.heap.size w w1 := by
      rcases hw1 with rfl | ⟨t1, rfl⟩
      · exact Below.refl _ _
      · exact Lib.bytesWorld_below w _ t1
    clear hw1 h1
    go_wp2
    all_goals go_ret
    all_goals (first
      | exact ⟨ret_str (intK_big ‹_›).symm, hb⟩
      | exact ⟨ret_str (intK_yes ht ‹_› (Or.inl ‹_›)).symm, hb⟩
      | exact ⟨ret_str (intK_yes ht ‹_› (Or.inr (And.right ‹_›))).symm, hb⟩
      | exact ⟨ret_str (intK_zero ht ‹_› (by have h := ‹_ ∨ (_ == (48 : Int)) = true›; rcases h with h | h; (exfalso; omega); simpa using h)).symm, hb⟩)
  · have hbig : (127 : Int) < (valL t.data.toList : Int) := by omega
    go_enter Tryz.func36, Tryz.ntmps36
    go_wp2_with fail
    refine (Tryz.strconv_Atoi_range t (by omega) h1 ev _ hv hev).mono ?_
    rintro e w1 ⟨N, rfl, hN, hblk, hb⟩
    clear h1 hv hev
    go_wp2
    all_goals go_ret
    all_goals exact ⟨ret_str (intK_big hbig).symm, hb⟩
end Go.Proofs.YtkipbkhpomjhkaaGreatDoor
