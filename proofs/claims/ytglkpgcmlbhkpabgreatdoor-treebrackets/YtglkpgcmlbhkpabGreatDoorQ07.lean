/-
  lustrumref1.tokenOf BY ITS CONTRACT: the token with which bytes begin.
-/
import Derived.Test.YtglkpgcmlbhkpabGreatDoorQ06
import Derived.Deep.RegionWith
import Derived.Deep.DrawnRows
namespace Go.Proofs.YtglkpgcmlbhkpabGreatDoor
open Go.RowKit
attribute [local go_sem ↓] Go.wp_at_zero Go.wp_at_succ

theorem slice_to (s : ByteArray) (n : Nat) (h : n ≤ s.size) (W : World) : (Instr.slice 9 (.string s) none (some (.int .i64 (n : Int))) none).run Tryz.prog W = .ok (.string (s.extract 0 n)) W := by
  have h3 : ¬ s.size < n := by omega
  simp [Instr.slice, Instr.sliceBounds, Instr.sliceBound, asIntOf, run_underlying Tryz.underlying9, h3, go_sem]
theorem word_short {t : ByteArray} (h : wordB t = true) : t.size ≤ 12 := by
  obtain ⟨l, hl, he⟩ := List.any_eq_true.1 h
  have e : t.data.toList = l := by rw [← ByteArray.toList_eq]; simpa using he
  have hsz : t.size = l.length := by rw [← e, Array.length_toList]; rfl
  have hall : (wordL.all fun l => decide (l.length ≤ 12)) = true := by decide
  have := List.all_eq_true.1 hall l hl
  rw [hsz]; simpa using this
theorem has_words (b c : Nat) (t : ByteArray) (w : World) (hc : w.heap[b]? = some (.cells (strCells wordL) 9 (0, 0))) :
    Calls Tryz.prog 106 #[.slice (some ⟨b, 0, none⟩) 21 c, .string t] w fun e w' => e = .returned (.bool (wordB t)) ∧ w' = w :=
  has_any b c wordL t w (fun k h => by rw [cell_of_row w b k _ _ _ hc]; exact strCells_at wordL k h) (by decide)

/-- What tokenOf answers for a token of this kind and text. -/
def tokVal (kind text : ByteArray) : Value := if kind.toList.isEmpty then .agg #[.string ⟨#[]⟩, .string ⟨#[]⟩, .int .i64 0] else .agg #[.string kind, .string text, .int .i64 0]
theorem tokVal_none {text : ByteArray} : tokVal kNone text = .agg #[.string ⟨#[]⟩, .string ⟨#[]⟩, .int .i64 0] := by simp [tokVal, kNone_list]
theorem tokVal_some {kind text : ByteArray} (h : kind.toList.isEmpty = false) : tokVal kind text = .agg #[.string kind, .string text, .int .i64 0] := by simp [tokVal, h]

theorem first_of {p : Int → Bool} {r : ByteArray} (h : p (byteI r 0) = true) : ∀ k, k < 1 → p (byteI r (0 + k)) = true := by
  intro k hk
  have e : k = 0 := by omega
  rw [e]; exact h
theorem two_blk (w : World) (o1 o2 : Obj) : ((w.alloc o1).alloc o2).heap[w.heap.size + 1]? = some o2 := by
  show ((w.heap.push _).push _)[w.heap.size + 1]? = _
  rw [Array.getElem?_push, if_pos (by simp)]

theorem ne_list {l : List UInt8} (c : UInt8) : ((⟨(c :: l).toArray⟩ : ByteArray)).toList.isEmpty = false := by rw [ByteArray.toList_eq]; rfl
theorem kWord_some : kWord.toList.isEmpty = false := ne_list _
theorem kName_some : kName.toList.isEmpty = false := ne_list _
theorem kInt_some : kInt.toList.isEmpty = false := ne_list _
theorem kOp_some : kOp.toList.isEmpty = false := ne_list _
theorem low_tok {r : ByteArray} {n : Nat} (hr : 0 < r.size) (hlow : lowI (byteI r 0) = true) (hrun : IsRun nameI r 0 n) {k : ByteArray} (hk : nameK (r.extract 0 n) = k) : TokAt r 0 k (r.extract 0 n) n := by
  have h := TokAt.low n hr hlow hrun
  rw [Nat.zero_add, hk] at h; exact h
theorem dig_tok {r : ByteArray} {n : Nat} (hr : 0 < r.size) (hlow : lowI (byteI r 0) = false) (hdig : digI (byteI r 0) = true) (hrun : IsRun digI r 0 n) {k : ByteArray} (hk : intK (r.extract 0 n) = k) : TokAt r 0 k (r.extract 0 n) n := by
  have h := TokAt.dig n hr hlow hdig hrun
  rw [Nat.zero_add, hk] at h; exact h
theorem extract_all (r : ByteArray) : r.extract 0 r.size = r := by simp
theorem op_tok {r : ByteArray} {n : Nat} (hr : 0 < r.size) (hlow : lowI (byteI r 0) = false) (hdig : digI (byteI r 0) = false) (hn : n = opN r) {k : ByteArray} (hk : opK (r.extract 0 n) = k) : TokAt r 0 k (r.extract 0 n) n := by
  have h := TokAt.op n hr hlow hdig (by rw [extract_all]; exact hn)
  rw [Nat.zero_add, hk] at h; exact h
theorem idx_mem : ∀ (l : List UInt8) (c : UInt8), 0 ≤ Lib.indexByte l c ↔ c ∈ l
  | [], c => ⟨fun h => absurd h (by show ¬ (0 : Int) ≤ -1; omega), fun h => by cases h⟩
  | b :: l, c => by
    have ih := idx_mem l c
    have hg := Lib.indexByte_ge l c
    rw [Lib.indexByte, List.mem_cons]
    by_cases h : (b == c) = true
    · have e : b = c := beq_iff_eq.1 h
      rw [if_pos h]
      exact ⟨fun _ => Or.inl e.symm, fun _ => Int.le_refl 0⟩
    · have hne : c ≠ b := fun e => h (by rw [e]; exact beq_self_eq_true b)
      rw [if_neg h]
      by_cases h2 : Lib.indexByte l c = -1
      · rw [if_pos (beq_iff_eq.2 h2)]
        constructor
        · intro x; omega
        · rintro (x | x)
          · exact absurd x hne
          · have := ih.2 x; omega
      · rw [if_neg (fun x => h2 (beq_iff_eq.1 x))]
        constructor
        · intro _; exact Or.inr (ih.1 (by omega))
        · rintro (x | x)
          · exact absurd x hne
          · have := ih.2 x; omega
def oneLL : List (List UInt8) := [[40], [41], [44], [59], [58], [61], [60], [62], [43], [45], [42], [47]]
theorem one_among {r : ByteArray} (hr : 0 < r.size) : amongB oneLL (r.extract 0 1) = oneB r := by
  have e : (r.extract 0 1).toList = [r[0]] := by
    rw [ByteArray.toList_eq, Lib.extract_data]
    have hl : r.data.toList.length = r.size := Array.length_toList
    rw [List.drop_zero, List.take_succ_eq_append_getElem (by omega)]
    rfl
  rw [oneB, dif_pos hr, amongB, e, Bool.eq_iff_iff, decide_eq_true_iff]
  refine Iff.trans ?_ (idx_mem oneL r[0]).symm
  simp [oneLL, oneL]
theorem has_blk (b c m : Nat) (ss : List (List UInt8)) (t : ByteArray) (w : World) (hm : ss.length = m) (hc : w.heap[b]? = some (.cells (strCells ss) 9 (0, 0))) (hn : m ≤ 1000) :
    Calls Tryz.prog 106 #[.slice (some ⟨b, 0, none⟩) m c, .string t] w fun e w' => e = .returned (.bool (amongB ss t)) ∧ w' = w := by
  subst hm
  exact has_any b c ss t w (fun k h => by rw [cell_of_row w b k _ _ _ hc]; exact strCells_at ss k h) hn

set_option maxRecDepth 100000 in
set_option maxHeartbeats 2000000 in
theorem tokenOf_low (r : ByteArray) (w : World) (hr : 0 < r.size) (hs : r.size ≤ 6000) (hlow : lowI (byteI r 0) = true) :
    Calls Tryz.prog 159 #[.string r] w fun e w' => ∃ (kind text : ByteArray) (n : Nat), TokAt r 0 kind text n ∧ e = .returned (tokVal kind text) ∧ Below w.heap.size w w' := by
  have hlow' := hlow
  rw [byteI_lt hr] at hlow'
  go_enter Tryz.func159, Tryz.ntmps159
  go_wp2_with (go_at_call 199; refine (isLow_any _ _).mono ?_; rintro e w' ⟨rfl, rfl⟩)
  go_loop [3] (fun t => ∃ n : Nat, 1 ≤ n ∧ n ≤ r.size ∧ t = .int .i64 n ∧ Hid (∀ k, k < n → nameI (byteI r (0 + k)) = true)) (fun t => r.size - (intOf t).toNat)
  case atStart => exact ⟨1, Nat.le_refl _, hr, rfl, first_of (low_name hlow)⟩
  case round =>
    obtain ⟨n, hn1, hn2, rfl, hall⟩ := hrel
    by_cases hlt : n < r.size
    · have hbyte := byteI_lt hlt
      have HB : Hid (byteI r n = (r[n].toNat : Int)) := hbyte
      clear hbyte
      by_cases h1 : lowI (r[n].toNat : Int) = true
      · go_wp2_with (first | (go_at_call 199; refine (isLow_any _ _).mono ?_; rintro e w' ⟨rfl, rfl⟩) | (go_at_call 200; refine (refDigit_any _ _).mono ?_; rintro e w' ⟨rfl, rfl⟩))
        refine ⟨⟨n + 1, by omega, by omega, by go_num, ?_⟩, by simp [intOf]; omega⟩
        intro k hk
        by_cases e : k = n
        · rw [e, Nat.zero_add, HB.out]; simp [nameI, *]
        · exact hall.out k (by omega)
      · have h1' : lowI (r[n].toNat : Int) = false := by simpa using h1
        clear h1
        by_cases h2 : digI (r[n].toNat : Int) = true
        · go_wp2_with (first | (go_at_call 199; refine (isLow_any _ _).mono ?_; rintro e w' ⟨rfl, rfl⟩) | (go_at_call 200; refine (refDigit_any _ _).mono ?_; rintro e w' ⟨rfl, rfl⟩))
          refine ⟨⟨n + 1, by omega, by omega, by go_num, ?_⟩, by simp [intOf]; omega⟩
          intro k hk
          by_cases e : k = n
          · rw [e, Nat.zero_add, HB.out]; simp [nameI, *]
          · exact hall.out k (by omega)
        · have h2' : digI (r[n].toNat : Int) = false := by simpa using h2
          clear h2
          by_cases h3 : ((r[n].toNat : Int) == 95) = true
          · go_wp2_with (first | (go_at_call 199; refine (isLow_any _ _).mono ?_; rintro e w' ⟨rfl, rfl⟩) | (go_at_call 200; refine (refDigit_any _ _).mono ?_; rintro e w' ⟨rfl, rfl⟩))
            refine ⟨⟨n + 1, by omega, by omega, by go_num, ?_⟩, by simp [intOf]; omega⟩
            intro k hk
            by_cases e : k = n
            · rw [e, Nat.zero_add, HB.out]; simp [nameI, *]
            · exact hall.out k (by omega)
          · have h3' : ((r[n].toNat : Int) == 95) = false := by simpa using h3
            clear h3
            have hrun : IsRun nameI r 0 n := ⟨by omega, hall.out, fun _ => by rw [Nat.zero_add, HB.out]; simp [nameI, h1', h2', h3']⟩
            go_wp2_with (first | (go_at_call 199; refine (isLow_any _ _).mono ?_; rintro e w' ⟨rfl, rfl⟩) | (go_at_call 200; refine (refDigit_any _ _).mono ?_; rintro e w' ⟨rfl, rfl⟩))
            clear h1' h2' h3'
            have hsl := slice_to r n hn2
            have hext : (r.extract 0 n).size = n := by rw [ByteArray.size_extract]; omega
            by_cases hw : wordB (r.extract 0 n) = true
            · have hn12 : n ≤ 12 := by have := word_short hw; omega
              go_wp2_with fail
              go_region_with (first
                | (go_at_call 201; refine (words_any _).mono ?_; rintro e w' ⟨rfl, rfl⟩)
                | (go_at_call 106; refine (has_words _ _ (r.extract 0 n) _ ?_).mono ?_; exact two_blk _ _ _; rintro e w' ⟨rfl, rfl⟩))
              all_goals go_wp2
              all_goals exact bodyPost_ret (v := .agg #[.string kWord, .string (r.extract 0 n), .int .i64 0]) (by simp [results, Tryz.results159, go_sem, kWord]) rfl ⟨kWord, r.extract 0 n, n, low_tok hr hlow hrun (by rw [nameK, if_neg (by omega), if_pos hw]), by rw [tokVal_some kWord_some], (((Below.refl _ _).alloc (Nat.le_refl _) _).alloc (by simp) _).drew⟩
            · have hw' : wordB (r.extract 0 n) = false := by simpa using hw
              clear hw
              by_cases hn12 : n ≤ 12
              · go_wp2_with fail
                go_region_with (first
                  | (go_at_call 201; refine (words_any _).mono ?_; rintro e w' ⟨rfl, rfl⟩)
                  | (go_at_call 106; refine (has_words _ _ (r.extract 0 n) _ ?_).mono ?_; exact two_blk _ _ _; rintro e w' ⟨rfl, rfl⟩))
                all_goals go_wp2
                all_goals exact bodyPost_ret (v := .agg #[.string kName, .string (r.extract 0 n), .int .i64 0]) (by simp [results, Tryz.results159, go_sem, kName]) rfl ⟨kName, r.extract 0 n, n, low_tok hr hlow hrun (by rw [nameK, if_neg (by omega), if_neg (by rw [hw']; exact Bool.false_ne_true)]), by rw [tokVal_some kName_some], (((Below.refl _ _).alloc (Nat.le_refl _) _).alloc (by simp) _).drew⟩
              · go_wp2_with fail
                go_region_with (first
                  | (go_at_call 201; refine (words_any _).mono ?_; rintro e w' ⟨rfl, rfl⟩)
                  | (go_at_call 106; refine (has_words _ _ (r.extract 0 n) _ ?_).mono ?_; exact two_blk _ _ _; rintro e w' ⟨rfl, rfl⟩))
                all_goals go_wp2
                all_goals exact bodyPost_ret (v := .agg #[.string ⟨#[]⟩, .string ⟨#[]⟩, .int .i64 0]) (by simp [results, Tryz.results159, go_sem]) rfl ⟨kNone, r.extract 0 n, n, low_tok hr hlow hrun (by rw [nameK, if_pos (by omega)]), by rw [tokVal_none], (((Below.refl _ _).alloc (Nat.le_refl _) _).alloc (by simp) _).drew⟩
    · have hrun : IsRun nameI r 0 n := ⟨by omega, hall.out, fun h => by omega⟩
      go_wp2_with fail
      have hsl := slice_to r n hn2
      have hext : (r.extract 0 n).size = n := by rw [ByteArray.size_extract]; omega
      by_cases hw : wordB (r.extract 0 n) = true
      · have hn12 : n ≤ 12 := by have := word_short hw; omega
        go_wp2_with fail
        go_region_with (first
          | (go_at_call 201; refine (words_any _).mono ?_; rintro e w' ⟨rfl, rfl⟩)
          | (go_at_call 106; refine (has_words _ _ (r.extract 0 n) _ ?_).mono ?_; exact two_blk _ _ _; rintro e w' ⟨rfl, rfl⟩))
        all_goals go_wp2
        all_goals exact bodyPost_ret (v := .agg #[.string kWord, .string (r.extract 0 n), .int .i64 0]) (by simp [results, Tryz.results159, go_sem, kWord]) rfl ⟨kWord, r.extract 0 n, n, low_tok hr hlow hrun (by rw [nameK, if_neg (by omega), if_pos hw]), by rw [tokVal_some kWord_some], (((Below.refl _ _).alloc (Nat.le_refl _) _).alloc (by simp) _).drew⟩
      · have hw' : wordB (r.extract 0 n) = false := by simpa using hw
        clear hw
        by_cases hn12 : n ≤ 12
        · go_wp2_with fail
          go_region_with (first
            | (go_at_call 201; refine (words_any _).mono ?_; rintro e w' ⟨rfl, rfl⟩)
            | (go_at_call 106; refine (has_words _ _ (r.extract 0 n) _ ?_).mono ?_; exact two_blk _ _ _; rintro e w' ⟨rfl, rfl⟩))
          all_goals go_wp2
          all_goals exact bodyPost_ret (v := .agg #[.string kName, .string (r.extract 0 n), .int .i64 0]) (by simp [results, Tryz.results159, go_sem, kName]) rfl ⟨kName, r.extract 0 n, n, low_tok hr hlow hrun (by rw [nameK, if_neg (by omega), if_neg (by rw [hw']; exact Bool.false_ne_true)]), by rw [tokVal_some kName_some], (((Below.refl _ _).alloc (Nat.le_refl _) _).alloc (by simp) _).drew⟩
        · go_wp2_with fail
          go_region_with (first
            | (go_at_call 201; refine (words_any _).mono ?_; rintro e w' ⟨rfl, rfl⟩)
            | (go_at_call 106; refine (has_words _ _ (r.extract 0 n) _ ?_).mono ?_; exact two_blk _ _ _; rintro e w' ⟨rfl, rfl⟩))
          all_goals go_wp2
          all_goals exact bodyPost_ret (v := .agg #[.string ⟨#[]⟩, .string ⟨#[]⟩, .int .i64 0]) (by simp [results, Tryz.results159, go_sem]) rfl ⟨kNone, r.extract 0 n, n, low_tok hr hlow hrun (by rw [nameK, if_pos (by omega)]), by rw [tokVal_none], (((Below.refl _ _).alloc (Nat.le_refl _) _).alloc (by simp) _).drew⟩

set_option maxRecDepth 100000 in
set_option maxHeartbeats 2000000 in
theorem tokenOf_dig (r : ByteArray) (w : World) (hr : 0 < r.size) (hs : r.size ≤ 6000) (hlow : lowI (byteI r 0) = false) (hdig : digI (byteI r 0) = true) :
    Calls Tryz.prog 159 #[.string r] w fun e w' => ∃ (kind text : ByteArray) (n : Nat), TokAt r 0 kind text n ∧ e = .returned (tokVal kind text) ∧ Below w.heap.size w w' := by
  have hlow' := hlow
  rw [byteI_lt hr] at hlow'
  have hdig' := hdig
  rw [byteI_lt hr] at hdig'
  go_enter Tryz.func159, Tryz.ntmps159
  go_wp2_with (first | (go_at_call 199; refine (isLow_any _ _).mono ?_; rintro e w' ⟨rfl, rfl⟩) | (go_at_call 200; refine (refDigit_any _ _).mono ?_; rintro e w' ⟨rfl, rfl⟩))
  go_loop [3] (fun t => ∃ n : Nat, 1 ≤ n ∧ n ≤ r.size ∧ t = .int .i64 n ∧ Hid (∀ k, k < n → digI (byteI r (0 + k)) = true)) (fun t => r.size - (intOf t).toNat)
  case atStart => exact ⟨1, Nat.le_refl _, hr, rfl, first_of hdig⟩
  case round =>
    obtain ⟨n, hn1, hn2, rfl, hall⟩ := hrel
    by_cases hlt : n < r.size
    · have hbyte := byteI_lt hlt
      have HB : Hid (byteI r n = (r[n].toNat : Int)) := hbyte
      clear hbyte
      by_cases h1 : digI (r[n].toNat : Int) = true
      · go_wp2_with (go_at_call 200; refine (refDigit_any _ _).mono ?_; rintro e w' ⟨rfl, rfl⟩)
        refine ⟨⟨n + 1, by omega, by omega, by go_num, ?_⟩, by simp [intOf]; omega⟩
        intro k hk
        by_cases e : k = n
        · rw [e, Nat.zero_add, HB.out]; exact h1
        · exact hall.out k (by omega)
      · have h1' : digI (r[n].toNat : Int) = false := by simpa using h1
        clear h1
        have hrun : IsRun digI r 0 n := ⟨by omega, hall.out, fun _ => by rw [Nat.zero_add, HB.out]; exact h1'⟩
        go_wp2_with (first | (go_at_call 200; refine (refDigit_any _ _).mono ?_; rintro e w' ⟨rfl, rfl⟩) | fail)
        clear h1'
        have hsl := slice_to r n hn2
        have hext : (r.extract 0 n).size = n := by rw [ByteArray.size_extract]; omega
        have hdd : ∀ k, k < (r.extract 0 n).size → digI (byteI (r.extract 0 n) k) = true := by
          intro k hk
          rw [hext] at hk
          have e := extract_byte r 0 n k (by omega) hk
          rw [Nat.zero_add] at e
          rw [e]; exact hall.out k hk
        refine (intOf_any _ _ (by rw [hext]; omega) (by rw [hext]; omega) hdd).mono ?_
        rintro e w' ⟨⟨q, rfl, hq⟩, rfl⟩
        clear hdd
        by_cases hi : intB (r.extract 0 n) = true
        · have hq0 : 0 ≤ q := by rw [hi] at hq; exact of_decide_eq_true hq
          clear hq
          go_wp2
          exact bodyPost_ret (v := .agg #[.string kInt, .string (r.extract 0 n), .int .i64 0]) (by simp [results, Tryz.results159, go_sem, kInt]) rfl ⟨kInt, r.extract 0 n, n, dig_tok hr hlow hdig hrun (by rw [intK, if_pos hi]), by rw [tokVal_some kInt_some], (Below.refl _ _).alloc (Nat.le_refl _) _⟩
        · have hi' : intB (r.extract 0 n) = false := by simpa using hi
          have hq0 : ¬ 0 ≤ q := by rw [hi'] at hq; exact of_decide_eq_false hq
          clear hq hi
          go_wp2
          exact bodyPost_ret (v := .agg #[.string ⟨#[]⟩, .string ⟨#[]⟩, .int .i64 0]) (by simp [results, Tryz.results159, go_sem]) rfl ⟨kNone, r.extract 0 n, n, dig_tok hr hlow hdig hrun (by rw [intK, if_neg (by rw [hi']; exact Bool.false_ne_true)]), by rw [tokVal_none], (Below.refl _ _).alloc (Nat.le_refl _) _⟩
    · have hrun : IsRun digI r 0 n := ⟨by omega, hall.out, fun h => by omega⟩
      go_wp2_with fail
      have hsl := slice_to r n hn2
      have hext : (r.extract 0 n).size = n := by rw [ByteArray.size_extract]; omega
      have hdd : ∀ k, k < (r.extract 0 n).size → digI (byteI (r.extract 0 n) k) = true := by
        intro k hk
        rw [hext] at hk
        have e := extract_byte r 0 n k (by omega) hk
        rw [Nat.zero_add] at e
        rw [e]; exact hall.out k hk
      refine (intOf_any _ _ (by rw [hext]; omega) (by rw [hext]; omega) hdd).mono ?_
      rintro e w' ⟨⟨q, rfl, hq⟩, rfl⟩
      clear hdd
      by_cases hi : intB (r.extract 0 n) = true
      · have hq0 : 0 ≤ q := by rw [hi] at hq; exact of_decide_eq_true hq
        clear hq
        go_wp2
        exact bodyPost_ret (v := .agg #[.string kInt, .string (r.extract 0 n), .int .i64 0]) (by simp [results, Tryz.results159, go_sem, kInt]) rfl ⟨kInt, r.extract 0 n, n, dig_tok hr hlow hdig hrun (by rw [intK, if_pos hi]), by rw [tokVal_some kInt_some], (Below.refl _ _).alloc (Nat.le_refl _) _⟩
      · have hi' : intB (r.extract 0 n) = false := by simpa using hi
        have hq0 : ¬ 0 ≤ q := by rw [hi'] at hq; exact of_decide_eq_false hq
        clear hq hi
        go_wp2
        exact bodyPost_ret (v := .agg #[.string ⟨#[]⟩, .string ⟨#[]⟩, .int .i64 0]) (by simp [results, Tryz.results159, go_sem]) rfl ⟨kNone, r.extract 0 n, n, dig_tok hr hlow hdig hrun (by rw [intK, if_neg (by rw [hi']; exact Bool.false_ne_true)]), by rw [tokVal_none], (Below.refl _ _).alloc (Nat.le_refl _) _⟩
end Go.Proofs.YtglkpgcmlbhkpabGreatDoor

/-
  lustrumref1.tokenOf BY ITS CONTRACT: operators, and all three cases together.
-/
namespace Go.Proofs.YtglkpgcmlbhkpabGreatDoor
open Go.RowKit

theorem three_blk (w : World) (o1 o2 o3 : Obj) : (((w.alloc o1).alloc o2).alloc o3).heap[w.heap.size + 1 + 1]? = some o3 := by
  show (((w.heap.push _).push _).push _)[w.heap.size + 1 + 1]? = _
  rw [Array.getElem?_push, if_pos (by simp)]
theorem opK_some {r : ByteArray} {n : Nat} (h0 : 0 < n) (hn : n ≤ r.size) : opK (r.extract 0 n) = kOp := by
  have h : (r.extract 0 n).toList ≠ [] := by rw [Ne, nil_iff, ByteArray.size_extract]; omega
  rw [opK, if_neg (by simpa using h)]
theorem opK_zero {r : ByteArray} : opK (r.extract 0 0) = kNone := by
  have h : (r.extract 0 0).toList = [] := by rw [nil_iff, ByteArray.size_extract]; omega
  rw [opK, if_pos (by rw [h]; rfl)]
set_option maxRecDepth 100000 in
set_option maxHeartbeats 2000000 in
theorem tokenOf_op (r : ByteArray) (w : World) (hr : 0 < r.size) (hs : r.size ≤ 6000) (hlow : lowI (byteI r 0) = false) (hdig : digI (byteI r 0) = false) :
    Calls Tryz.prog 159 #[.string r] w fun e w' => ∃ (kind text : ByteArray) (n : Nat), TokAt r 0 kind text n ∧ e = .returned (tokVal kind text) ∧ Below w.heap.size w w' := by
  have hlow' := hlow
  rw [byteI_lt hr] at hlow'
  have hdig' := hdig
  rw [byteI_lt hr] at hdig'
  go_enter Tryz.func159, Tryz.ntmps159
  by_cases h2 : 1 < r.size
  · have e2 : twoB r = amongB twoL (r.extract 0 2) := by simp [twoB, amongB, h2]
    by_cases ha : amongB twoL (r.extract 0 2) = true
    · have htw : twoB r = true := by rw [e2]; exact ha
      clear e2
      go_wp2_with (first | (go_at_call 199; refine (isLow_any _ _).mono ?_; rintro e w' ⟨rfl, rfl⟩) | (go_at_call 200; refine (refDigit_any _ _).mono ?_; rintro e w' ⟨rfl, rfl⟩) | fail)
      refine (has_blk _ _ 5 twoL (r.extract 0 2) _ rfl ?_ (by decide)).mono ?_
      · exact two_blk _ _ _
      rintro e w' ⟨rfl, rfl⟩
      go_wp2
      exact bodyPost_ret (v := .agg #[.string kOp, .string (r.extract 0 2), .int .i64 0]) (by simp [results, Tryz.results159, go_sem, kOp]) rfl ⟨kOp, r.extract 0 2, 2, op_tok hr hlow hdig (opN_two htw).symm (opK_some (by omega) (by omega)), by rw [tokVal_some kOp_some], ((Below.refl _ _).alloc (Nat.le_refl _) _).alloc (by simp) _⟩
    · have ha' : amongB twoL (r.extract 0 2) = false := by simpa using ha
      have htw : twoB r = false := by rw [e2]; exact ha'
      clear e2 ha
      by_cases ho : oneB r = true
      · have ha1 : amongB oneLL (r.extract 0 1) = true := by rw [one_among hr]; exact ho
        go_wp2_with (first | (go_at_call 199; refine (isLow_any _ _).mono ?_; rintro e w' ⟨rfl, rfl⟩) | (go_at_call 200; refine (refDigit_any _ _).mono ?_; rintro e w' ⟨rfl, rfl⟩) | fail)
        refine (has_blk _ _ 5 twoL (r.extract 0 2) _ rfl ?_ (by decide)).mono ?_
        · exact two_blk _ _ _
        rintro e w' ⟨rfl, rfl⟩
        go_wp2_with fail
        refine (has_blk _ _ 12 oneLL (r.extract 0 1) _ rfl (three_blk _ _ _ _) (by decide)).mono ?_
        rintro e w' ⟨rfl, rfl⟩
        go_wp2
        exact bodyPost_ret (v := .agg #[.string kOp, .string (r.extract 0 1), .int .i64 0]) (by simp [results, Tryz.results159, go_sem, kOp]) rfl ⟨kOp, r.extract 0 1, 1, op_tok hr hlow hdig (opN_one htw ho).symm (opK_some (by omega) (by omega)), by rw [tokVal_some kOp_some], (((Below.refl _ _).alloc (Nat.le_refl _) _).alloc (by simp) _).alloc (by simp; omega) _⟩
      · have ho' : oneB r = false := by simpa using ho
        have ha1 : amongB oneLL (r.extract 0 1) = false := by rw [one_among hr]; exact ho'
        go_wp2_with (first | (go_at_call 199; refine (isLow_any _ _).mono ?_; rintro e w' ⟨rfl, rfl⟩) | (go_at_call 200; refine (refDigit_any _ _).mono ?_; rintro e w' ⟨rfl, rfl⟩) | fail)
        refine (has_blk _ _ 5 twoL (r.extract 0 2) _ rfl ?_ (by decide)).mono ?_
        · exact two_blk _ _ _
        rintro e w' ⟨rfl, rfl⟩
        go_wp2_with fail
        refine (has_blk _ _ 12 oneLL (r.extract 0 1) _ rfl (three_blk _ _ _ _) (by decide)).mono ?_
        rintro e w' ⟨rfl, rfl⟩
        go_wp2
        exact bodyPost_ret (v := .agg #[.string ⟨#[]⟩, .string ⟨#[]⟩, .int .i64 0]) (by simp [results, Tryz.results159, go_sem]) rfl ⟨kNone, r.extract 0 0, 0, op_tok hr hlow hdig (opN_none htw ho').symm opK_zero, by rw [tokVal_none], (((Below.refl _ _).alloc (Nat.le_refl _) _).alloc (by simp) _).alloc (by simp; omega) _⟩
  · have htw : twoB r = false := by simp [twoB, h2]
    by_cases ho : oneB r = true
    · have ha1 : amongB oneLL (r.extract 0 1) = true := by rw [one_among hr]; exact ho
      go_wp2_with (first | (go_at_call 199; refine (isLow_any _ _).mono ?_; rintro e w' ⟨rfl, rfl⟩) | (go_at_call 200; refine (refDigit_any _ _).mono ?_; rintro e w' ⟨rfl, rfl⟩) | fail)
      refine (has_blk _ _ 12 oneLL (r.extract 0 1) _ rfl (three_blk _ _ _ _) (by decide)).mono ?_
      rintro e w' ⟨rfl, rfl⟩
      go_wp2
      exact bodyPost_ret (v := .agg #[.string kOp, .string (r.extract 0 1), .int .i64 0]) (by simp [results, Tryz.results159, go_sem, kOp]) rfl ⟨kOp, r.extract 0 1, 1, op_tok hr hlow hdig (opN_one htw ho).symm (opK_some (by omega) (by omega)), by rw [tokVal_some kOp_some], (((Below.refl _ _).alloc (Nat.le_refl _) _).alloc (by simp) _).alloc (by simp; omega) _⟩
    · have ho' : oneB r = false := by simpa using ho
      have ha1 : amongB oneLL (r.extract 0 1) = false := by rw [one_among hr]; exact ho'
      go_wp2_with (first | (go_at_call 199; refine (isLow_any _ _).mono ?_; rintro e w' ⟨rfl, rfl⟩) | (go_at_call 200; refine (refDigit_any _ _).mono ?_; rintro e w' ⟨rfl, rfl⟩) | fail)
      refine (has_blk _ _ 12 oneLL (r.extract 0 1) _ rfl (three_blk _ _ _ _) (by decide)).mono ?_
      rintro e w' ⟨rfl, rfl⟩
      go_wp2
      exact bodyPost_ret (v := .agg #[.string ⟨#[]⟩, .string ⟨#[]⟩, .int .i64 0]) (by simp [results, Tryz.results159, go_sem]) rfl ⟨kNone, r.extract 0 0, 0, op_tok hr hlow hdig (opN_none htw ho').symm opK_zero, by rw [tokVal_none], (((Below.refl _ _).alloc (Nat.le_refl _) _).alloc (by simp) _).alloc (by simp; omega) _⟩

theorem tokenOf_any (r : ByteArray) (w : World) (hr : 0 < r.size) (hs : r.size ≤ 6000) :
    Calls Tryz.prog 159 #[.string r] w fun e w' => ∃ (kind text : ByteArray) (n : Nat), TokAt r 0 kind text n ∧ e = .returned (tokVal kind text) ∧ Below w.heap.size w w' := by
  by_cases h1 : lowI (byteI r 0) = true
  · exact tokenOf_low r w hr hs h1
  · have h1' : lowI (byteI r 0) = false := by simpa using h1
    by_cases h2 : digI (byteI r 0) = true
    · exact tokenOf_dig r w hr hs h1' h2
    · exact tokenOf_op r w hr hs h1' (by simpa using h2)
end Go.Proofs.YtglkpgcmlbhkpabGreatDoor
