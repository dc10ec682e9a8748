/-
  THE SMALL FUNCTIONS OF THE DOCUMENT'S ANSWER (lustrumref1), BY THEIR CONTRACTS: isLow, isDigit, Has, Words, IntOf, Bare, Fine.
-/
import Derived.Test.YtgbpccipdcajgaaGreatDoorQ04
import Derived.LoopTactic
import Derived.Deep.RegionWith
import Derived.Deep.DrawnRows
namespace Go.Proofs.YtgbpccipdcajgaaGreatDoor
open Go.RowKit
theorem isLow_any (c : Int) (w : World) : Calls Tryz.prog 93 #[.int .u8 c] w fun e w' => e = .returned (.bool (lowI c)) ∧ w' = w := by
 go_enter Tryz.func93, Tryz.ntmps93
 go_wp2
 all_goals (go_ret; exact ⟨ret_bool (by simp [lowI]; omega), rfl⟩)
theorem refDigit_any (c : Int) (w : World) : Calls Tryz.prog 94 #[.int .u8 c] w fun e w' => e = .returned (.bool (digI c)) ∧ w' = w := by
 go_enter Tryz.func94, Tryz.ntmps94
 go_wp2
 all_goals (go_ret; exact ⟨ret_bool (by simp [digI]; omega), rfl⟩)

theorem beq_swap (a b : List UInt8) : (a == b) = (b == a) := by
 rw [Bool.eq_iff_iff, beq_iff_eq, beq_iff_eq]; exact eq_comm
def amongB (ss : List (List UInt8)) (t : ByteArray) : Bool := ss.any fun l => t.toList == l

set_option maxHeartbeats 1000000 in
theorem index_any (b c : Nat) (ss : List (List UInt8)) (t : ByteArray) (w : World) (hc : ∀ k (h : k < ss.length), w.cell? ⟨b, k, none⟩ = some (.string ⟨ss[k].toArray⟩)) (hn : ss.length ≤ 1000) :
  Calls Tryz.prog 127 #[.slice (some ⟨b, 0, none⟩) ss.length c, .string t] w fun e w' => (∃ r : Int, e = .returned (.int .i64 r) ∧ (decide (0 ≤ r) = amongB ss t)) ∧ w' = w := by
 go_enter Tryz.func127, Tryz.ntmps127
 go_wp2
 go_loop [5] (fun i => ∃ k : Nat, k ≤ ss.length ∧ i = .int .i64 k ∧ Hid (∀ j (h : j < ss.length), j < k → (t.toList == ss[j]) = false)) (fun i => ss.length - (intOf i).toNat)
 case atStart => exact ⟨0, Nat.zero_le _, rfl, fun j _ h => by omega⟩
 case round =>
  obtain ⟨k, hk, rfl, hall⟩ := hrel
  by_cases hlt : k < ss.length
  ·have hck := hc k hlt
   have hi1 : (k : Int) < (ss.length : Int) := by omega
   by_cases hb : (t.toList == ss[k]) = true
   ·have hb' : (ss[k] == t.toList) = true := by rw [beq_swap]; exact hb
    go_wp2
    go_ret
    refine ⟨⟨k, rfl, ?_⟩, rfl⟩
    have h1 : amongB ss t = true := List.any_eq_true.2 ⟨ss[k], List.getElem_mem hlt, hb⟩
    rw [h1]; exact decide_eq_true (by omega)
   ·have hb0 : (t.toList == ss[k]) = false := by
     cases h : (t.toList == ss[k]) with
     | true => exact absurd h hb
     | false => rfl
    have hb' : (ss[k] == t.toList) = false := by rw [beq_swap]; exact hb0
    have HB : Hid ((t.toList == ss[k]) = false) := hb0
    clear hb hb0
    go_wp2
    refine ⟨⟨k + 1, by omega, by go_num, ?_⟩, by simp [intOf]; omega⟩
    intro j hj hjk
    by_cases e : j = k
    ·subst e; exact HB.out
    ·exact hall.out j hj (by omega)
  ·obtain rfl : k = ss.length := by omega
   go_wp2
   go_ret
   refine ⟨⟨-1, rfl, ?_⟩, rfl⟩
   have h1 : amongB ss t = false := by
    rw [amongB, List.any_eq_false]
    intro x hx
    obtain ⟨j, hj, rfl⟩ := List.mem_iff_getElem.1 hx
    rw [hall.out j hj hj]
    exact Bool.false_ne_true
   rw [h1]; rfl
theorem has_any (b c : Nat) (ss : List (List UInt8)) (t : ByteArray) (w : World) (hc : ∀ k (h : k < ss.length), w.cell? ⟨b, k, none⟩ = some (.string ⟨ss[k].toArray⟩)) (hn : ss.length ≤ 1000) :
  Calls Tryz.prog 95 #[.slice (some ⟨b, 0, none⟩) ss.length c, .string t] w fun e w' => e = .returned (.bool (amongB ss t)) ∧ w' = w := by
 go_enter Tryz.func95, Tryz.ntmps95
 go_wp2_with fail
 refine (index_any b c ss t _ hc hn).mono ?_
 rintro e w' ⟨⟨r, rfl, hr⟩, rfl⟩
 have HR : Hid (decide (0 ≤ r) = amongB ss t) := hr
 clear hr hc
 go_wp2
 all_goals go_ret
 all_goals exact ⟨ret_bool (by rw [← HR.out]), rfl⟩

def strCells (ss : List (List UInt8)) : Array Value := (ss.map fun l => Value.string ⟨l.toArray⟩).toArray
theorem strCells_at (ss : List (List UInt8)) (k : Nat) (h : k < ss.length) : (strCells ss)[k]? = some (.string ⟨ss[k].toArray⟩) := by
 simp [strCells, h]
theorem words_any (w : World) : Calls Tryz.prog 96 #[] w fun e w' => e = .returned (.slice (some ⟨w.heap.size, 0, none⟩) 21 21) ∧ w' = w.alloc (.cells (strCells wordL) 9) := by
 go_enter Tryz.func96, Tryz.ntmps96
 go_wp2
 go_ret
 exact ⟨rfl, rfl⟩
theorem valL_snoc (l : List UInt8) (c : UInt8) : valL (l ++ [c]) = 10 * valL l + (c.toNat - 48) := by simp [valL]
theorem take_snoc (t : ByteArray) (k : Nat) (h : k < t.size) : t.data.toList.take (k + 1) = t.data.toList.take k ++ [t[k]] := by
 rw [List.take_succ_eq_append_getElem (by simpa using h)]; rfl
theorem fold_ge : ∀ (l : List UInt8) (a : Nat), a * 10 ^ l.length ≤ l.foldl (fun n c => 10 * n + (c.toNat - 48)) a
 | [], a => by simp
 | c :: r, a => by
  have := fold_ge r (10 * a + (c.toNat - 48))
  rw [List.foldl_cons, List.length_cons, Nat.pow_succ]
  refine Nat.le_trans ?_ this
  rw [show a * (10 ^ r.length * 10) = (10 * a) * 10 ^ r.length from by rw [Nat.mul_comm 10 a, Nat.mul_assoc, Nat.mul_comm 10]]
  exact Nat.mul_le_mul_right _ (by omega)
theorem long_int (t : ByteArray) (h3 : 3 < t.size) (hd : ∀ k, k < t.size → digI (byteI t k) = true) : intB t = false := by
 by_cases hz : byteI t 0 = 48
 ·have h1 : 1 < t.size := by omega
  simp [intB, hz, h1]
 ·have h0 := hd 0 (by omega)
  have hl : t.data.toList.length = t.size := Array.length_toList
  rcases hx : t.data.toList with _ | ⟨c, r⟩
  ·rw [hx] at hl; simp at hl; omega
  ·have hb : byteI t 0 = (c.toNat : Int) := by
    rw [byteI_data t 0 (by omega)]
    simp [hx]
   rw [hb] at h0 hz
   simp only [digI, Bool.and_eq_true, decide_eq_true_eq] at h0
   have hv : 1000 ≤ valL t.data.toList := by
    rw [hx]
    show 1000 ≤ r.foldl _ (10 * 0 + (c.toNat - 48))
    refine Nat.le_trans ?_ (fold_ge r _)
    have hr : 3 ≤ r.length := by rw [hx] at hl; simp at hl; omega
    have hp : 10 ^ 3 ≤ 10 ^ r.length := Nat.pow_le_pow_right (by omega) hr
    have hc : 1 ≤ 10 * 0 + (c.toNat - 48) := by omega
    exact Nat.le_trans (by omega : 1000 ≤ 1 * 10 ^ 3) (Nat.mul_le_mul hc hp)
   have hn : ¬ valL t.data.toList ≤ 127 := by omega
   simp [intB, hn]
theorem intB_of (t : ByteArray) (ht : 0 < t.size) (hv : (valL t.data.toList : Int) ≤ 127) (h : (t.size : Int) ≤ 1 ∨ ((t[0].toNat : Int) == 48) = false) : intB t = true := by
 have h1 : valL t.data.toList ≤ 127 := by omega
 rcases h with h | h
 ·have h2 : ¬ 1 < t.size := by omega
  simp [intB, h1, h2]
 ·have hb : (byteI t 0 == 48) = false := by rw [byteI_lt ht]; exact h
  simp [intB, h1, hb]
theorem intB_big (t : ByteArray) (h : (127 : Int) < (valL t.data.toList : Int)) : intB t = false := by
 have h1 : ¬ valL t.data.toList ≤ 127 := by omega
 simp [intB, h1]
theorem intB_zero (t : ByteArray) (ht : 0 < t.size) (h1 : 1 < (t.size : Int)) (h : ((t[0].toNat : Int) == 48) = true) : intB t = false := by
 have h2 : 1 < t.size := by omega
 have hb : (byteI t 0 == 48) = true := by rw [byteI_lt ht]; exact h
 simp [intB, h2, hb]

set_option maxRecDepth 100000 in
set_option maxHeartbeats 1000000 in
theorem intOf_any (t : ByteArray) (w : World) (ht : 0 < t.size) (hs : t.size ≤ 9000000) (hd : ∀ k, k < t.size → digI (byteI t k) = true) :
  Calls Tryz.prog 97 #[.string t] w fun e w' => (∃ r : Int, e = .returned (.int .i64 r) ∧ decide (0 ≤ r) = intB t) ∧ w' = w := by
 have hlen : t.data.toList.length = t.size := Array.length_toList
 go_enter Tryz.func97, Tryz.ntmps97
 go_wp2
 go_loop [3, 4] (fun n i => ∃ (k v : Nat), k ≤ t.size ∧ k ≤ 4 ∧ v ≤ 10000 ∧ i = .int .i64 k ∧ n = .int .i64 v ∧ Hid (v = valL (t.data.toList.take k) ∧ v < 10 ^ k)) (fun _ i => 4 - (intOf i).toNat)
 case atStart => exact ⟨0, 0, Nat.zero_le _, by omega, by omega, rfl, rfl, rfl, by decide⟩
 case round =>
  obtain ⟨k, v, hk, hk4, hv, rfl, rfl, hval⟩ := hrel
  by_cases hlt : k < t.size ∧ k < 4
  ·obtain ⟨hl1, hl2⟩ := hlt
   have hdk := hd k hl1
   rw [byteI_lt hl1] at hdk
   simp only [digI, Bool.and_eq_true, decide_eq_true_eq] at hdk
   obtain ⟨q1, q2⟩ := hdk
   go_wp2
   obtain ⟨hv1, hv2⟩ := hval.out
   have hp : 10 ^ (k + 1) ≤ 10 ^ 4 := Nat.pow_le_pow_right (by omega) (by omega)
   have hlt' : 10 * v + (t[k].toNat - 48) < 10 ^ (k + 1) := by rw [Nat.pow_succ]; omega
   refine ⟨⟨k + 1, 10 * v + (t[k].toNat - 48), by omega, by omega, by omega, by go_num, ?_, ?_, hlt'⟩, by simp [intOf]; omega⟩
   ·have e : (10 * (v : Int) + ((t[k].toNat : Int) - 48)) = ((10 * v + (t[k].toNat - 48) : Nat) : Int) := by omega
    rw [e]
   ·rw [take_snoc t k hl1, valL_snoc, ← hv1]
  ·by_cases h4 : 3 < t.size
   ·have hB := long_int t h4 hd
    have HBB : Hid (intB t = false) := hB
    clear hd hB
    by_cases hkt : k < t.size
    ·go_wp2
     all_goals (go_ret; exact ⟨⟨-1, rfl, by rw [HBB.out]; rfl⟩, rfl⟩)
    ·go_wp2
     all_goals (go_ret; exact ⟨⟨-1, rfl, by rw [HBB.out]; rfl⟩, rfl⟩)
   ·obtain rfl : k = t.size := by omega
    have e1 := hval.out.1
    rw [List.take_of_length_le (by omega)] at e1
    subst e1
    clear hd
    go_wp2
    all_goals go_ret
    all_goals (first
     | exact ⟨⟨_, rfl, by rw [intB_big t ‹_›]; rfl⟩, rfl⟩
     | exact ⟨⟨_, rfl, by rw [intB_of t ht ‹_› (Or.inl ‹_›)]; exact decide_eq_true (by omega)⟩, rfl⟩
     | exact ⟨⟨_, rfl, by rw [intB_of t ht ‹_› (Or.inr (And.right ‹_›))]; exact decide_eq_true (by omega)⟩, rfl⟩
     | exact ⟨⟨_, rfl, by rw [intB_zero t ht ‹1 < (t.size : Int)› (by have h := ‹(3 < (t.size : Int) ∨ _) ∨ _›; rcases h with (h | h) | h; (exfalso; omega); (exfalso; omega); exact h)]; rfl⟩, rfl⟩)
end Go.Proofs.YtgbpccipdcajgaaGreatDoor
namespace Go.Proofs.YtgbpccipdcajgaaGreatDoor
open Go.RowKit
attribute [local go_sem ↓] Go.wp_at_zero Go.wp_at_succ
theorem slice_to (s : ByteArray) (n : Nat) (h : n ≤ s.size) (W : World) : (Instr.slice 9 (.string s) none (some (.int .i64 (n : Int))) none).run Tryz.prog W = .ok (.string (s.extract 0 n)) W := by
 have h3 : ¬ s.size < n := by omega
 simp [Instr.slice, Instr.sliceBounds, Instr.sliceBound, asIntOf, run_underlying Tryz.underlying9, h3, go_sem]
theorem word_short {t : ByteArray} (h : wordB t = true) : t.size ≤ 12 := by
 obtain ⟨l, hl, he⟩ := List.any_eq_true.1 h
 have e : t.data.toList = l := by rw [← ByteArray.toList_eq]; simpa using he
 have hsz : t.size = l.length := by rw [← e, Array.length_toList]; rfl
 have hall : (wordL.all fun l => decide (l.length ≤ 12)) = true := by decide
 have := List.all_eq_true.1 hall l hl
 rw [hsz]; simpa using this
theorem has_words (b c : Nat) (t : ByteArray) (w : World) (hc : w.heap[b]? = some (.cells (strCells wordL) 9 (0, 0))) :
  Calls Tryz.prog 95 #[.slice (some ⟨b, 0, none⟩) 21 c, .string t] w fun e w' => e = .returned (.bool (wordB t)) ∧ w' = w :=
 has_any b c wordL t w (fun k h => by rw [cell_of_row w b k _ _ _ hc]; exact strCells_at wordL k h) (by decide)

def tokVal (kind text : ByteArray) : Value := if kind.toList.isEmpty then .agg #[.string ⟨#[]⟩, .string ⟨#[]⟩, .int .i64 0] else .agg #[.string kind, .string text, .int .i64 0]
theorem tokVal_none {text : ByteArray} : tokVal kNone text = .agg #[.string ⟨#[]⟩, .string ⟨#[]⟩, .int .i64 0] := by simp [tokVal, kNone_list]
theorem tokVal_some {kind text : ByteArray} (h : kind.toList.isEmpty = false) : tokVal kind text = .agg #[.string kind, .string text, .int .i64 0] := by simp [tokVal, h]

theorem first_of {p : Int → Bool} {r : ByteArray} (h : p (byteI r 0) = true) : ∀ k, k < 1 → p (byteI r (0 + k)) = true := by
 intro k hk
 have e : k = 0 := by omega
 rw [e]; exact h
theorem two_blk (w : World) (o1 o2 : Obj) : ((w.alloc o1).alloc o2).heap[w.heap.size + 1]? = some o2 := by
 show ((w.heap.push _).push _)[w.heap.size + 1]? = _
 rw [Array.getElem?_push, if_pos (by simp)]

theorem ne_list {l : List UInt8} (c : UInt8) : ((⟨(c :: l).toArray⟩ : ByteArray)).toList.isEmpty = false := by rw [ByteArray.toList_eq]; rfl
theorem kWord_some : kWord.toList.isEmpty = false := ne_list _
theorem kName_some : kName.toList.isEmpty = false := ne_list _
theorem kInt_some : kInt.toList.isEmpty = false := ne_list _
theorem kOp_some : kOp.toList.isEmpty = false := ne_list _
theorem low_tok {r : ByteArray} {n : Nat} (hr : 0 < r.size) (hlow : lowI (byteI r 0) = true) (hrun : IsRun nameI r 0 n) {k : ByteArray} (hk : nameK (r.extract 0 n) = k) : TokAt r 0 k (r.extract 0 n) n := by
 have h := TokAt.low n hr hlow hrun
 rw [Nat.zero_add, hk] at h; exact h
theorem dig_tok {r : ByteArray} {n : Nat} (hr : 0 < r.size) (hlow : lowI (byteI r 0) = false) (hdig : digI (byteI r 0) = true) (hrun : IsRun digI r 0 n) {k : ByteArray} (hk : intK (r.extract 0 n) = k) : TokAt r 0 k (r.extract 0 n) n := by
 have h := TokAt.dig n hr hlow hdig hrun
 rw [Nat.zero_add, hk] at h; exact h
theorem extract_all (r : ByteArray) : r.extract 0 r.size = r := by simp
theorem op_tok {r : ByteArray} {n : Nat} (hr : 0 < r.size) (hlow : lowI (byteI r 0) = false) (hdig : digI (byteI r 0) = false) (hn : n = opN r) {k : ByteArray} (hk : opK (r.extract 0 n) = k) : TokAt r 0 k (r.extract 0 n) n := by
 have h := TokAt.op n hr hlow hdig (by rw [extract_all]; exact hn)
 rw [Nat.zero_add, hk] at h; exact h
theorem idx_mem : ∀ (l : List UInt8) (c : UInt8), 0 ≤ Lib.indexByte l c ↔ c ∈ l
 | [], c => ⟨fun h => absurd h (by show ¬ (0 : Int) ≤ -1; omega), fun h => by cases h⟩
 | b :: l, c => by
  have ih := idx_mem l c
  have hg := Lib.indexByte_ge l c
  rw [Lib.indexByte, List.mem_cons]
  by_cases h : (b == c) = true
  ·have e : b = c := beq_iff_eq.1 h
   rw [if_pos h]
   exact ⟨fun _ => Or.inl e.symm, fun _ => Int.le_refl 0⟩
  ·have hne : c ≠ b := fun e => h (by rw [e]; exact beq_self_eq_true b)
   rw [if_neg h]
   by_cases h2 : Lib.indexByte l c = -1
   ·rw [if_pos (beq_iff_eq.2 h2)]
    constructor
    ·intro x; omega
    ·rintro (x | x)
     ·exact absurd x hne
     ·have := ih.2 x; omega
   ·rw [if_neg (fun x => h2 (beq_iff_eq.1 x))]
    constructor
    ·intro _; exact Or.inr (ih.1 (by omega))
    ·rintro (x | x)
     ·exact absurd x hne
     ·have := ih.2 x; omega
def oneLL : List (List UInt8) := [[40], [41], [44], [59], [58], [61], [60], [62], [43], [45], [42], [47]]
theorem one_among {r : ByteArray} (hr : 0 < r.size) : amongB oneLL (r.extract 0 1) = oneB r := by
 have e : (r.extract 0 1).toList = [r[0]] := by
  rw [ByteArray.toList_eq, Lib.extract_data]
  have hl : r.data.toList.length = r.size := Array.length_toList
  rw [List.drop_zero, List.take_succ_eq_append_getElem (by omega)]
  rfl
 rw [oneB, dif_pos hr, amongB, e, Bool.eq_iff_iff, decide_eq_true_iff]
 refine Iff.trans ?_ (idx_mem oneL r[0]).symm
 simp [oneLL, oneL]
theorem has_blk (b c m : Nat) (ss : List (List UInt8)) (t : ByteArray) (w : World) (hm : ss.length = m) (hc : w.heap[b]? = some (.cells (strCells ss) 9 (0, 0))) (hn : m ≤ 1000) :
  Calls Tryz.prog 95 #[.slice (some ⟨b, 0, none⟩) m c, .string t] w fun e w' => e = .returned (.bool (amongB ss t)) ∧ w' = w := by
 subst hm
 exact has_any b c ss t w (fun k h => by rw [cell_of_row w b k _ _ _ hc]; exact strCells_at ss k h) hn

set_option maxRecDepth 100000 in
set_option maxHeartbeats 2000000 in
theorem tokenOf_low (r : ByteArray) (w : World) (hr : 0 < r.size) (hs : r.size ≤ 9000000) (hlow : lowI (byteI r 0) = true) :
  Calls Tryz.prog 60 #[.string r] w fun e w' => ∃ (kind text : ByteArray) (n : Nat), TokAt r 0 kind text n ∧ e = .returned (tokVal kind text) ∧ Below w.heap.size w w' := by
 have hlow' := hlow
 rw [byteI_lt hr] at hlow'
 go_enter Tryz.func60, Tryz.ntmps60
 go_wp2_with (go_at_call 93; refine (isLow_any _ _).mono ?_; rintro e w' ⟨rfl, rfl⟩)
 go_loop [3] (fun t => ∃ n : Nat, 1 ≤ n ∧ n ≤ r.size ∧ t = .int .i64 n ∧ Hid (∀ k, k < n → nameI (byteI r (0 + k)) = true)) (fun t => r.size - (intOf t).toNat)
 case atStart => exact ⟨1, Nat.le_refl _, hr, rfl, first_of (low_name hlow)⟩
 case round =>
  obtain ⟨n, hn1, hn2, rfl, hall⟩ := hrel
  by_cases hlt : n < r.size
  ·have hbyte := byteI_lt hlt
   have HB : Hid (byteI r n = (r[n].toNat : Int)) := hbyte
   clear hbyte
   by_cases h1 : lowI (r[n].toNat : Int) = true
   ·go_wp2_with (first | (go_at_call 93; refine (isLow_any _ _).mono ?_; rintro e w' ⟨rfl, rfl⟩) | (go_at_call 94; refine (refDigit_any _ _).mono ?_; rintro e w' ⟨rfl, rfl⟩))
    refine ⟨⟨n + 1, by omega, by omega, by go_num, ?_⟩, by simp [intOf]; omega⟩
    intro k hk
    by_cases e : k = n
    ·rw [e, Nat.zero_add, HB.out]; simp [nameI, *]
    ·exact hall.out k (by omega)
   ·have h1' : lowI (r[n].toNat : Int) = false := by simpa using h1
    clear h1
    by_cases h2 : digI (r[n].toNat : Int) = true
    ·go_wp2_with (first | (go_at_call 93; refine (isLow_any _ _).mono ?_; rintro e w' ⟨rfl, rfl⟩) | (go_at_call 94; refine (refDigit_any _ _).mono ?_; rintro e w' ⟨rfl, rfl⟩))
     refine ⟨⟨n + 1, by omega, by omega, by go_num, ?_⟩, by simp [intOf]; omega⟩
     intro k hk
     by_cases e : k = n
     ·rw [e, Nat.zero_add, HB.out]; simp [nameI, *]
     ·exact hall.out k (by omega)
    ·have h2' : digI (r[n].toNat : Int) = false := by simpa using h2
     clear h2
     by_cases h3 : ((r[n].toNat : Int) == 95) = true
     ·go_wp2_with (first | (go_at_call 93; refine (isLow_any _ _).mono ?_; rintro e w' ⟨rfl, rfl⟩) | (go_at_call 94; refine (refDigit_any _ _).mono ?_; rintro e w' ⟨rfl, rfl⟩))
      refine ⟨⟨n + 1, by omega, by omega, by go_num, ?_⟩, by simp [intOf]; omega⟩
      intro k hk
      by_cases e : k = n
      ·rw [e, Nat.zero_add, HB.out]; simp [nameI, *]
      ·exact hall.out k (by omega)
     ·have h3' : ((r[n].toNat : Int) == 95) = false := by simpa using h3
      clear h3
      have hrun : IsRun nameI r 0 n := ⟨by omega, hall.out, fun _ => by rw [Nat.zero_add, HB.out]; simp [nameI, h1', h2', h3']⟩
      go_wp2_with (first | (go_at_call 93; refine (isLow_any _ _).mono ?_; rintro e w' ⟨rfl, rfl⟩) | (go_at_call 94; refine (refDigit_any _ _).mono ?_; rintro e w' ⟨rfl, rfl⟩))
      clear h1' h2' h3'
      have hsl := slice_to r n hn2
      have hext : (r.extract 0 n).size = n := by rw [ByteArray.size_extract]; omega
      by_cases hw : wordB (r.extract 0 n) = true
      ·have hn12 : n ≤ 12 := by have := word_short hw; omega
       go_wp2_with fail
       go_region_with (first
        | (go_at_call 96; refine (words_any _).mono ?_; rintro e w' ⟨rfl, rfl⟩)
        | (go_at_call 95; refine (has_words _ _ (r.extract 0 n) _ ?_).mono ?_; exact two_blk _ _ _; rintro e w' ⟨rfl, rfl⟩))
       all_goals go_wp2
       all_goals exact bodyPost_ret (v := .agg #[.string kWord, .string (r.extract 0 n), .int .i64 0]) (by simp [results, Tryz.results60, go_sem, kWord]) rfl ⟨kWord, r.extract 0 n, n, low_tok hr hlow hrun (by rw [nameK, if_neg (by omega), if_pos hw]), by rw [tokVal_some kWord_some], (((Below.refl _ _).alloc (Nat.le_refl _) _).alloc (by simp) _).drew⟩
      ·have hw' : wordB (r.extract 0 n) = false := by simpa using hw
       clear hw
       by_cases hn12 : n ≤ 12
       ·go_wp2_with fail
        go_region_with (first
         | (go_at_call 96; refine (words_any _).mono ?_; rintro e w' ⟨rfl, rfl⟩)
         | (go_at_call 95; refine (has_words _ _ (r.extract 0 n) _ ?_).mono ?_; exact two_blk _ _ _; rintro e w' ⟨rfl, rfl⟩))
        all_goals go_wp2
        all_goals exact bodyPost_ret (v := .agg #[.string kName, .string (r.extract 0 n), .int .i64 0]) (by simp [results, Tryz.results60, go_sem, kName]) rfl ⟨kName, r.extract 0 n, n, low_tok hr hlow hrun (by rw [nameK, if_neg (by omega), if_neg (by rw [hw']; exact Bool.false_ne_true)]), by rw [tokVal_some kName_some], (((Below.refl _ _).alloc (Nat.le_refl _) _).alloc (by simp) _).drew⟩
       ·go_wp2_with fail
        go_region_with (first
         | (go_at_call 96; refine (words_any _).mono ?_; rintro e w' ⟨rfl, rfl⟩)
         | (go_at_call 95; refine (has_words _ _ (r.extract 0 n) _ ?_).mono ?_; exact two_blk _ _ _; rintro e w' ⟨rfl, rfl⟩))
        all_goals go_wp2
        all_goals exact bodyPost_ret (v := .agg #[.string ⟨#[]⟩, .string ⟨#[]⟩, .int .i64 0]) (by simp [results, Tryz.results60, go_sem]) rfl ⟨kNone, r.extract 0 n, n, low_tok hr hlow hrun (by rw [nameK, if_pos (by omega)]), by rw [tokVal_none], (((Below.refl _ _).alloc (Nat.le_refl _) _).alloc (by simp) _).drew⟩
  ·have hrun : IsRun nameI r 0 n := ⟨by omega, hall.out, fun h => by omega⟩
   go_wp2_with fail
   have hsl := slice_to r n hn2
   have hext : (r.extract 0 n).size = n := by rw [ByteArray.size_extract]; omega
   by_cases hw : wordB (r.extract 0 n) = true
   ·have hn12 : n ≤ 12 := by have := word_short hw; omega
    go_wp2_with fail
    go_region_with (first
     | (go_at_call 96; refine (words_any _).mono ?_; rintro e w' ⟨rfl, rfl⟩)
     | (go_at_call 95; refine (has_words _ _ (r.extract 0 n) _ ?_).mono ?_; exact two_blk _ _ _; rintro e w' ⟨rfl, rfl⟩))
    all_goals go_wp2
    all_goals exact bodyPost_ret (v := .agg #[.string kWord, .string (r.extract 0 n), .int .i64 0]) (by simp [results, Tryz.results60, go_sem, kWord]) rfl ⟨kWord, r.extract 0 n, n, low_tok hr hlow hrun (by rw [nameK, if_neg (by omega), if_pos hw]), by rw [tokVal_some kWord_some], (((Below.refl _ _).alloc (Nat.le_refl _) _).alloc (by simp) _).drew⟩
   ·have hw' : wordB (r.extract 0 n) = false := by simpa using hw
    clear hw
    by_cases hn12 : n ≤ 12
    ·go_wp2_with fail
     go_region_with (first
      | (go_at_call 96; refine (words_any _).mono ?_; rintro e w' ⟨rfl, rfl⟩)
      | (go_at_call 95; refine (has_words _ _ (r.extract 0 n) _ ?_).mono ?_; exact two_blk _ _ _; rintro e w' ⟨rfl, rfl⟩))
     all_goals go_wp2
     all_goals exact bodyPost_ret (v := .agg #[.string kName, .string (r.extract 0 n), .int .i64 0]) (by simp [results, Tryz.results60, go_sem, kName]) rfl ⟨kName, r.extract 0 n, n, low_tok hr hlow hrun (by rw [nameK, if_neg (by omega), if_neg (by rw [hw']; exact Bool.false_ne_true)]), by rw [tokVal_some kName_some], (((Below.refl _ _).alloc (Nat.le_refl _) _).alloc (by simp) _).drew⟩
    ·go_wp2_with fail
     go_region_with (first
      | (go_at_call 96; refine (words_any _).mono ?_; rintro e w' ⟨rfl, rfl⟩)
      | (go_at_call 95; refine (has_words _ _ (r.extract 0 n) _ ?_).mono ?_; exact two_blk _ _ _; rintro e w' ⟨rfl, rfl⟩))
     all_goals go_wp2
     all_goals exact bodyPost_ret (v := .agg #[.string ⟨#[]⟩, .string ⟨#[]⟩, .int .i64 0]) (by simp [results, Tryz.results60, go_sem]) rfl ⟨kNone, r.extract 0 n, n, low_tok hr hlow hrun (by rw [nameK, if_pos (by omega)]), by rw [tokVal_none], (((Below.refl _ _).alloc (Nat.le_refl _) _).alloc (by simp) _).drew⟩

set_option maxRecDepth 100000 in
set_option maxHeartbeats 2000000 in
theorem tokenOf_dig (r : ByteArray) (w : World) (hr : 0 < r.size) (hs : r.size ≤ 9000000) (hlow : lowI (byteI r 0) = false) (hdig : digI (byteI r 0) = true) :
  Calls Tryz.prog 60 #[.string r] w fun e w' => ∃ (kind text : ByteArray) (n : Nat), TokAt r 0 kind text n ∧ e = .returned (tokVal kind text) ∧ Below w.heap.size w w' := by
 have hlow' := hlow
 rw [byteI_lt hr] at hlow'
 have hdig' := hdig
 rw [byteI_lt hr] at hdig'
 go_enter Tryz.func60, Tryz.ntmps60
 go_wp2_with (first | (go_at_call 93; refine (isLow_any _ _).mono ?_; rintro e w' ⟨rfl, rfl⟩) | (go_at_call 94; refine (refDigit_any _ _).mono ?_; rintro e w' ⟨rfl, rfl⟩))
 go_loop [3] (fun t => ∃ n : Nat, 1 ≤ n ∧ n ≤ r.size ∧ t = .int .i64 n ∧ Hid (∀ k, k < n → digI (byteI r (0 + k)) = true)) (fun t => r.size - (intOf t).toNat)
 case atStart => exact ⟨1, Nat.le_refl _, hr, rfl, first_of hdig⟩
 case round =>
  obtain ⟨n, hn1, hn2, rfl, hall⟩ := hrel
  by_cases hlt : n < r.size
  ·have hbyte := byteI_lt hlt
   have HB : Hid (byteI r n = (r[n].toNat : Int)) := hbyte
   clear hbyte
   by_cases h1 : digI (r[n].toNat : Int) = true
   ·go_wp2_with (go_at_call 94; refine (refDigit_any _ _).mono ?_; rintro e w' ⟨rfl, rfl⟩)
    refine ⟨⟨n + 1, by omega, by omega, by go_num, ?_⟩, by simp [intOf]; omega⟩
    intro k hk
    by_cases e : k = n
    ·rw [e, Nat.zero_add, HB.out]; exact h1
    ·exact hall.out k (by omega)
   ·have h1' : digI (r[n].toNat : Int) = false := by simpa using h1
    clear h1
    have hrun : IsRun digI r 0 n := ⟨by omega, hall.out, fun _ => by rw [Nat.zero_add, HB.out]; exact h1'⟩
    go_wp2_with (first | (go_at_call 94; refine (refDigit_any _ _).mono ?_; rintro e w' ⟨rfl, rfl⟩) | fail)
    clear h1'
    have hsl := slice_to r n hn2
    have hext : (r.extract 0 n).size = n := by rw [ByteArray.size_extract]; omega
    have hdd : ∀ k, k < (r.extract 0 n).size → digI (byteI (r.extract 0 n) k) = true := by
     intro k hk
     rw [hext] at hk
     have e := extract_byte r 0 n k (by omega) hk
     rw [Nat.zero_add] at e
     rw [e]; exact hall.out k hk
    refine (intOf_any _ _ (by rw [hext]; omega) (by rw [hext]; omega) hdd).mono ?_
    rintro e w' ⟨⟨q, rfl, hq⟩, rfl⟩
    clear hdd
    by_cases hi : intB (r.extract 0 n) = true
    ·have hq0 : 0 ≤ q := by rw [hi] at hq; exact of_decide_eq_true hq
     clear hq
     go_wp2
     exact bodyPost_ret (v := .agg #[.string kInt, .string (r.extract 0 n), .int .i64 0]) (by simp [results, Tryz.results60, go_sem, kInt]) rfl ⟨kInt, r.extract 0 n, n, dig_tok hr hlow hdig hrun (by rw [intK, if_pos hi]), by rw [tokVal_some kInt_some], (Below.refl _ _).alloc (Nat.le_refl _) _⟩
    ·have hi' : intB (r.extract 0 n) = false := by simpa using hi
     have hq0 : ¬ 0 ≤ q := by rw [hi'] at hq; exact of_decide_eq_false hq
     clear hq hi
     go_wp2
     exact bodyPost_ret (v := .agg #[.string ⟨#[]⟩, .string ⟨#[]⟩, .int .i64 0]) (by simp [results, Tryz.results60, go_sem]) rfl ⟨kNone, r.extract 0 n, n, dig_tok hr hlow hdig hrun (by rw [intK, if_neg (by rw [hi']; exact Bool.false_ne_true)]), by rw [tokVal_none], (Below.refl _ _).alloc (Nat.le_refl _) _⟩
  ·have hrun : IsRun digI r 0 n := ⟨by omega, hall.out, fun h => by omega⟩
   go_wp2_with fail
   have hsl := slice_to r n hn2
   have hext : (r.extract 0 n).size = n := by rw [ByteArray.size_extract]; omega
   have hdd : ∀ k, k < (r.extract 0 n).size → digI (byteI (r.extract 0 n) k) = true := by
    intro k hk
    rw [hext] at hk
    have e := extract_byte r 0 n k (by omega) hk
    rw [Nat.zero_add] at e
    rw [e]; exact hall.out k hk
   refine (intOf_any _ _ (by rw [hext]; omega) (by rw [hext]; omega) hdd).mono ?_
   rintro e w' ⟨⟨q, rfl, hq⟩, rfl⟩
   clear hdd
   by_cases hi : intB (r.extract 0 n) = true
   ·have hq0 : 0 ≤ q := by rw [hi] at hq; exact of_decide_eq_true hq
    clear hq
    go_wp2
    exact bodyPost_ret (v := .agg #[.string kInt, .string (r.extract 0 n), .int .i64 0]) (by simp [results, Tryz.results60, go_sem, kInt]) rfl ⟨kInt, r.extract 0 n, n, dig_tok hr hlow hdig hrun (by rw [intK, if_pos hi]), by rw [tokVal_some kInt_some], (Below.refl _ _).alloc (Nat.le_refl _) _⟩
   ·have hi' : intB (r.extract 0 n) = false := by simpa using hi
    have hq0 : ¬ 0 ≤ q := by rw [hi'] at hq; exact of_decide_eq_false hq
    clear hq hi
    go_wp2
    exact bodyPost_ret (v := .agg #[.string ⟨#[]⟩, .string ⟨#[]⟩, .int .i64 0]) (by simp [results, Tryz.results60, go_sem]) rfl ⟨kNone, r.extract 0 n, n, dig_tok hr hlow hdig hrun (by rw [intK, if_neg (by rw [hi']; exact Bool.false_ne_true)]), by rw [tokVal_none], (Below.refl _ _).alloc (Nat.le_refl _) _⟩
end Go.Proofs.YtgbpccipdcajgaaGreatDoor
