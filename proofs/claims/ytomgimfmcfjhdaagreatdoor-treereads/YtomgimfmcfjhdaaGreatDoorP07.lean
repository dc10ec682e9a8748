/-
  THE SMALL FUNCTIONS OF THE DOCUMENT'S ANSWER (lustrumref1), BY THEIR CONTRACTS: isLow, isDigit, Has, Words, IntOf, Bare, Fine.
-/
import Derived.Test.YtomgimfmcfjhdaaGreatDoorP06
import Derived.LoopTactic
namespace Go.Proofs.YtomgimfmcfjhdaaGreatDoor
open Go.RowKit

theorem isLow_any (c : Int) (w : World) : Calls Tryz.prog 93 #[.int .u8 c] w fun e w' => e = .returned (.bool (lowI c)) ∧ w' = w := by
  go_enter Tryz.func93, Tryz.ntmps93
  go_wp2
  all_goals (go_ret; exact ⟨ret_bool (by simp [lowI]; omega), rfl⟩)
theorem refDigit_any (c : Int) (w : World) : Calls Tryz.prog 94 #[.int .u8 c] w fun e w' => e = .returned (.bool (digI c)) ∧ w' = w := by
  go_enter Tryz.func94, Tryz.ntmps94
  go_wp2
  all_goals (go_ret; exact ⟨ret_bool (by simp [digI]; omega), rfl⟩)

theorem beq_swap (a b : List UInt8) : (a == b) = (b == a) := by
  rw [Bool.eq_iff_iff, beq_iff_eq, beq_iff_eq]; exact eq_comm
/-- Is a text among these? -/
def amongB (ss : List (List UInt8)) (t : ByteArray) : Bool := ss.any fun l => t.toList == l

set_option maxHeartbeats 1000000 in
theorem index_any (b c : Nat) (ss : List (List UInt8)) (t : ByteArray) (w : World) (hc : ∀ k (h : k < ss.length), w.cell? ⟨b, k, none⟩ = some (.string ⟨ss[k].toArray⟩)) (hn : ss.length ≤ 1000) :
    Calls Tryz.prog 127 #[.slice (some ⟨b, 0, none⟩) ss.length c, .string t] w fun e w' => (∃ r : Int, e = .returned (.int .i64 r) ∧ (decide (0 ≤ r) = amongB ss t)) ∧ w' = w := by
  go_enter Tryz.func127, Tryz.ntmps127
  go_wp2
  go_loop [5] (fun i => ∃ k : Nat, k ≤ ss.length ∧ i = .int .i64 k ∧ Hid (∀ j (h : j < ss.length), j < k → (t.toList == ss[j]) = false)) (fun i => ss.length - (intOf i).toNat)
  case atStart => exact ⟨0, Nat.zero_le _, rfl, fun j _ h => by omega⟩
  case round =>
    obtain ⟨k, hk, rfl, hall⟩ := hrel
    by_cases hlt : k < ss.length
    · have hck := hc k hlt
      have hi1 : (k : Int) < (ss.length : Int) := by omega
      by_cases hb : (t.toList == ss[k]) = true
      · have hb' : (ss[k] == t.toList) = true := by rw [beq_swap]; exact hb
        go_wp2
        go_ret
        refine ⟨⟨k, rfl, ?_⟩, rfl⟩
        have h1 : amongB ss t = true := List.any_eq_true.2 ⟨ss[k], List.getElem_mem hlt, hb⟩
        rw [h1]; exact decide_eq_true (by omega)
      · have hb0 : (t.toList == ss[k]) = false := by
          cases h : (t.toList == ss[k]) with
          | true => exact absurd h hb
          | false => rfl
        have hb' : (ss[k] == t.toList) = false := by rw [beq_swap]; exact hb0
        have HB : Hid ((t.toList == ss[k]) = false) := hb0
        clear hb hb0
        go_wp2
        refine ⟨⟨k + 1, by omega, by go_num, ?_⟩, by simp [intOf]; omega⟩
        intro j hj hjk
        by_cases e : j = k
        · subst e; exact HB.out
        · exact hall.out j hj (by omega)
    · obtain rfl : k = ss.length := by omega
      go_wp2
      go_ret
      refine ⟨⟨-1, rfl, ?_⟩, rfl⟩
      have h1 : amongB ss t = false := by
        rw [amongB, List.any_eq_false]
        intro x hx
        obtain ⟨j, hj, rfl⟩ := List.mem_iff_getElem.1 hx
        rw [hall.out j hj hj]
        exact Bool.false_ne_true
      rw [h1]; rfl
theorem has_any (b c : Nat) (ss : List (List UInt8)) (t : ByteArray) (w : World) (hc : ∀ k (h : k < ss.length), w.cell? ⟨b, k, none⟩ = some (.string ⟨ss[k].toArray⟩)) (hn : ss.length ≤ 1000) :
    Calls Tryz.prog 95 #[.slice (some ⟨b, 0, none⟩) ss.length c, .string t] w fun e w' => e = .returned (.bool (amongB ss t)) ∧ w' = w := by
  go_enter Tryz.func95, Tryz.ntmps95
  go_wp2_with fail
  refine (index_any b c ss t _ hc hn).mono ?_
  rintro e w' ⟨⟨r, rfl, hr⟩, rfl⟩
  have HR : Hid (decide (0 ≤ r) = amongB ss t) := hr
  clear hr hc
  go_wp2
  all_goals go_ret
  all_goals exact ⟨ret_bool (by rw [← HR.out]), rfl⟩

def strCells (ss : List (List UInt8)) : Array Value := (ss.map fun l => Value.string ⟨l.toArray⟩).toArray
theorem strCells_at (ss : List (List UInt8)) (k : Nat) (h : k < ss.length) : (strCells ss)[k]? = some (.string ⟨ss[k].toArray⟩) := by
  simp [strCells, h]
theorem words_any (w : World) : Calls Tryz.prog 96 #[] w fun e w' => e = .returned (.slice (some ⟨w.heap.size, 0, none⟩) 21 21) ∧ w' = w.alloc (.cells (strCells wordL) 9) := by
  go_enter Tryz.func96, Tryz.ntmps96
  go_wp2
  go_ret
  exact ⟨rfl, rfl⟩
theorem bare_any (c : Int) (w : World) : Calls Tryz.prog 59 #[.int .i64 c] w fun e w' => e = .returned (.agg #[.int .i64 c, .int .i64 (-1)]) ∧ Below w.heap.size w w' := by
  go_enter Tryz.func59, Tryz.ntmps59
  go_wp2
  exact bodyPost_ret (v := .agg #[.int .i64 c, .int .i64 (-1)]) (by simp [results, Tryz.results59, go_sem]) rfl ⟨rfl, (Below.refl _ _).alloc (Nat.le_refl _) _⟩
theorem fine_any (w : World) : Calls Tryz.prog 39 #[] w fun e w' => e = .returned (.agg #[.int .i64 0, .int .i64 (-1)]) ∧ Below w.heap.size w w' := by
  go_enter Tryz.func39, Tryz.ntmps39
  go_wp2
  exact bodyPost_ret (v := .agg #[.int .i64 0, .int .i64 (-1)]) (by simp [results, Tryz.results39, go_sem]) rfl ⟨rfl, (Below.refl _ _).alloc (Nat.le_refl _) _⟩
end Go.Proofs.YtomgimfmcfjhdaaGreatDoor

/-
  lustrumref1.IntOf BY ITS CONTRACT: of digits: is it a number that the language has?
-/
namespace Go.Proofs.YtomgimfmcfjhdaaGreatDoor
open Go.RowKit

theorem valL_snoc (l : List UInt8) (c : UInt8) : valL (l ++ [c]) = 10 * valL l + (c.toNat - 48) := by simp [valL]
theorem take_snoc (t : ByteArray) (k : Nat) (h : k < t.size) : t.data.toList.take (k + 1) = t.data.toList.take k ++ [t[k]] := by
  rw [List.take_succ_eq_append_getElem (by simpa using h)]; rfl
theorem fold_ge : ∀ (l : List UInt8) (a : Nat), a * 10 ^ l.length ≤ l.foldl (fun n c => 10 * n + (c.toNat - 48)) a
  | [], a => by simp
  | c :: r, a => by
    have := fold_ge r (10 * a + (c.toNat - 48))
    rw [List.foldl_cons, List.length_cons, Nat.pow_succ]
    refine Nat.le_trans ?_ this
    rw [show a * (10 ^ r.length * 10) = (10 * a) * 10 ^ r.length from by rw [Nat.mul_comm 10 a, Nat.mul_assoc, Nat.mul_comm 10]]
    exact Nat.mul_le_mul_right _ (by omega)
/-- Four digits or more are none, be it for a 0 ahead. -/
theorem long_int (t : ByteArray) (h3 : 3 < t.size) (hd : ∀ k, k < t.size → digI (byteI t k) = true) : intB t = false := by
  by_cases hz : byteI t 0 = 48
  · have h1 : 1 < t.size := by omega
    simp [intB, hz, h1]
  · have h0 := hd 0 (by omega)
    have hl : t.data.toList.length = t.size := Array.length_toList
    rcases hx : t.data.toList with _ | ⟨c, r⟩
    · rw [hx] at hl; simp at hl; omega
    · have hb : byteI t 0 = (c.toNat : Int) := by
        rw [byteI_data t 0 (by omega)]
        simp [hx]
      rw [hb] at h0 hz
      simp only [digI, Bool.and_eq_true, decide_eq_true_eq] at h0
      have hv : 1000 ≤ valL t.data.toList := by
        rw [hx]
        show 1000 ≤ r.foldl _ (10 * 0 + (c.toNat - 48))
        refine Nat.le_trans ?_ (fold_ge r _)
        have hr : 3 ≤ r.length := by rw [hx] at hl; simp at hl; omega
        have hp : 10 ^ 3 ≤ 10 ^ r.length := Nat.pow_le_pow_right (by omega) hr
        have hc : 1 ≤ 10 * 0 + (c.toNat - 48) := by omega
        exact Nat.le_trans (by omega : 1000 ≤ 1 * 10 ^ 3) (Nat.mul_le_mul hc hp)
      have hn : ¬ valL t.data.toList ≤ 127 := by omega
      simp [intB, hn]
theorem intB_of (t : ByteArray) (ht : 0 < t.size) (hv : (valL t.data.toList : Int) ≤ 127) (h : (t.size : Int) ≤ 1 ∨ ((t[0].toNat : Int) == 48) = false) : intB t = true := by
  have h1 : valL t.data.toList ≤ 127 := by omega
  rcases h with h | h
  · have h2 : ¬ 1 < t.size := by omega
    simp [intB, h1, h2]
  · have hb : (byteI t 0 == 48) = false := by rw [byteI_lt ht]; exact h
    simp [intB, h1, hb]
theorem intB_big (t : ByteArray) (h : (127 : Int) < (valL t.data.toList : Int)) : intB t = false := by
  have h1 : ¬ valL t.data.toList ≤ 127 := by omega
  simp [intB, h1]
theorem intB_zero (t : ByteArray) (ht : 0 < t.size) (h1 : 1 < (t.size : Int)) (h : ((t[0].toNat : Int) == 48) = true) : intB t = false := by
  have h2 : 1 < t.size := by omega
  have hb : (byteI t 0 == 48) = true := by rw [byteI_lt ht]; exact h
  simp [intB, h2, hb]

set_option maxRecDepth 100000 in
set_option maxHeartbeats 1000000 in
theorem intOf_any (t : ByteArray) (w : World) (ht : 0 < t.size) (hs : t.size ≤ 6000) (hd : ∀ k, k < t.size → digI (byteI t k) = true) :
    Calls Tryz.prog 97 #[.string t] w fun e w' => (∃ r : Int, e = .returned (.int .i64 r) ∧ decide (0 ≤ r) = intB t) ∧ w' = w := by
  have hlen : t.data.toList.length = t.size := Array.length_toList
  go_enter Tryz.func97, Tryz.ntmps97
  go_wp2
  go_loop [3, 4] (fun n i => ∃ (k v : Nat), k ≤ t.size ∧ k ≤ 4 ∧ v ≤ 10000 ∧ i = .int .i64 k ∧ n = .int .i64 v ∧ Hid (v = valL (t.data.toList.take k) ∧ v < 10 ^ k)) (fun _ i => 4 - (intOf i).toNat)
  case atStart => exact ⟨0, 0, Nat.zero_le _, by omega, by omega, rfl, rfl, rfl, by decide⟩
  case round =>
    obtain ⟨k, v, hk, hk4, hv, rfl, rfl, hval⟩ := hrel
    by_cases hlt : k < t.size ∧ k < 4
    · obtain ⟨hl1, hl2⟩ := hlt
      have hdk := hd k hl1
      rw [byteI_lt hl1] at hdk
      simp only [digI, Bool.and_eq_true, decide_eq_true_eq] at hdk
      obtain ⟨q1, q2⟩ := hdk
      go_wp2
      obtain ⟨hv1, hv2⟩ := hval.out
      have hp : 10 ^ (k + 1) ≤ 10 ^ 4 := Nat.pow_le_pow_right (by omega) (by omega)
      have hlt' : 10 * v + (t[k].toNat - 48) < 10 ^ (k + 1) := by rw [Nat.pow_succ]; omega
      refine ⟨⟨k + 1, 10 * v + (t[k].toNat - 48), by omega, by omega, by omega, by go_num, ?_, ?_, hlt'⟩, by simp [intOf]; omega⟩
      · have e : (10 * (v : Int) + ((t[k].toNat : Int) - 48)) = ((10 * v + (t[k].toNat - 48) : Nat) : Int) := by omega
        rw [e]
      · rw [take_snoc t k hl1, valL_snoc, ← hv1]
    · by_cases h4 : 3 < t.size
      · have hB := long_int t h4 hd
        have HBB : Hid (intB t = false) := hB
        clear hd hB
        by_cases hkt : k < t.size
        · go_wp2
          all_goals (go_ret; exact ⟨⟨-1, rfl, by rw [HBB.out]; rfl⟩, rfl⟩)
        · go_wp2
          all_goals (go_ret; exact ⟨⟨-1, rfl, by rw [HBB.out]; rfl⟩, rfl⟩)
      · obtain rfl : k = t.size := by omega
        have e1 := hval.out.1
        rw [List.take_of_length_le (by omega)] at e1
        subst e1
        clear hd
        go_wp2
        all_goals go_ret
        all_goals (first
          | exact ⟨⟨_, rfl, by rw [intB_big t ‹_›]; rfl⟩, rfl⟩
          | exact ⟨⟨_, rfl, by rw [intB_of t ht ‹_› (Or.inl ‹_›)]; exact decide_eq_true (by omega)⟩, rfl⟩
          | exact ⟨⟨_, rfl, by rw [intB_of t ht ‹_› (Or.inr (And.right ‹_›))]; exact decide_eq_true (by omega)⟩, rfl⟩
          | exact ⟨⟨_, rfl, by rw [intB_zero t ht ‹1 < (t.size : Int)› (by have h := ‹(3 < (t.size : Int) ∨ _) ∨ _›; rcases h with (h | h) | h; (exfalso; omega); (exfalso; omega); exact h)]; rfl⟩, rfl⟩)
end Go.Proofs.YtomgimfmcfjhdaaGreatDoor
