/-
  lustrumlaw1.tokens BY ITS CONTRACT: the same tokens in new memory.
-/
import Derived.Test.YtkipbkhpomjhkaaGreatDoorOwn
import Derived.Test.YtkipbkhpomjhkaaGreatDoorTxtJ
import Derived.Deep.RegionLaw
namespace Go.Proofs.YtkipbkhpomjhkaaGreatDoor
open Go.RowKit
attribute [local go_sem ↓] Go.wp_at_zero Go.wp_at_succ

/-- Cells of the first n tokens. -/
def zCells (K X : Nat → ByteArray) (Z : Nat → Int) (n : Nat) : List Value := (List.range n).flatMap fun i => [.string (K i), .string (X i), .int .i64 (Z i)]
theorem zCells_snoc (K X : Nat → ByteArray) (Z : Nat → Int) (n : Nat) : zCells K X Z (n + 1) = zCells K X Z n ++ [.string (K n), .string (X n), .int .i64 (Z n)] := by
  simp [zCells, List.range_succ]
theorem zCells_length (K X : Nat → ByteArray) (Z : Nat → Int) (n : Nat) : (zCells K X Z n).length = n * 3 := by
  induction n with
  | zero => rfl
  | succ n ih => rw [zCells_snoc, List.length_append, ih]; simp; omega
theorem zCells_at (K X : Nat → ByteArray) (Z : Nat → Int) : ∀ (n i : Nat), i < n → (zCells K X Z n)[i * 3]? = some (.string (K i)) ∧ (zCells K X Z n)[i * 3 + 1]? = some (.string (X i)) ∧ (zCells K X Z n)[i * 3 + 2]? = some (.int .i64 (Z i))
  | 0, i, h => by omega
  | n + 1, i, h => by
    have hl := zCells_length K X Z n
    rw [zCells_snoc]
    by_cases e : i < n
    · obtain ⟨a, b, c⟩ := zCells_at K X Z n i e
      rw [List.getElem?_append_left (by omega), List.getElem?_append_left (by omega), List.getElem?_append_left (by omega)]
      exact ⟨a, b, c⟩
    · obtain rfl : i = n := by omega
      rw [List.getElem?_append_right (by omega), List.getElem?_append_right (by omega), List.getElem?_append_right (by omega), hl]
      simp
theorem toks_own {w : World} {base : Nat} {e : TypeId} {v : Value} {n : Nat} {K X : Nat → ByteArray} {Z : Nat → Int} (h : w.ownsRow base e 3 v n (zCells K X Z n)) : ∃ ao cap, v = .slice ao n cap ∧ n ≤ cap ∧ cap ≤ maxLen ∧ Toks w ao n K X Z := by
  obtain ⟨h1, h2⟩ := h
  rcases h2 with ⟨hv, h0⟩ | ⟨g, cap, cur, hv, hg, hh, hc1, hc2, hc3, hc4⟩
  · subst h0; exact ⟨none, 0, hv, Nat.le_refl _, Nat.zero_le _, fun i hi => by omega⟩
  · refine ⟨some ⟨g, 0, none⟩, cap, hv, ?_, ?_, fun i hi => ?_⟩
    · exact hc1
    · exact hc2
    have f : ∀ k x, (zCells K X Z n)[k]? = some x → w.cell? ⟨g, k, none⟩ = some x := by
      intro k x hx
      rw [cell_of_row w g k cur e (0, 0) hh]
      rw [← hc4, List.getElem?_take] at hx
      split at hx
      · simpa using hx
      · cases hx
    obtain ⟨a, b, c⟩ := zCells_at K X Z n i hi
    exact ⟨g, 0, rfl, by simpa using f _ _ a, by simpa using f _ _ b, by simpa using f _ _ c⟩

set_option maxHeartbeats 1000000 in
theorem tokens_any (w : World) (ao : Option Addr) (n c : Nat) (K X : Nat → ByteArray) (Z : Nat → Int) (T : Toks w ao n K X Z) (hn : n * 40 ≤ 140737488355328) :
    Calls Tryz.prog 6 #[.slice ao n c] w fun e w' => (∃ v, e = .returned v ∧ w'.ownsRow w.heap.size 37 3 v n (zCells K X Z n)) ∧ Below w.heap.size w w' := by
  obtain ⟨i0, hi0, hz0, hz1, hz2⟩ := info_parts Tryz.infoTok
  have H : Hid (Toks w ao n K X Z) := T
  clear T
  go_enter Tryz.func6, Tryz.ntmps6
  go_wp2
  go_loopw [3, 4] (fun v t wr => ∃ i : Nat, i ≤ n ∧ t = .int .i64 i ∧ wr.ownsRow w.heap.size 37 3 v i (zCells K X Z i) ∧ Below w.heap.size w wr) (fun _ t _ => n - (intOf t).toNat)
  case atStart => exact ⟨0, Nat.zero_le _, rfl, World.ownsRow_nil _ _ _ _, Below.refl _ _⟩
  case round =>
    obtain ⟨i, hi, rfl, hown, hb⟩ := hrel
    by_cases hlt : i < n
    · obtain ⟨b, off, rfl, c0, c1, c2⟩ := H.out i hlt
      have c0 := cell_keep hb c0
      have c1 := cell_keep hb c1
      have c2 := cell_keep hb c2
      have i0' : (0 : Int) ≤ (i : Int) := by omega
      have i1 : (i : Int) < (n : Int) := by omega
      have hn63 : i + 1 ≤ maxLen := by unfold maxLen; omega
      have hby : (i + 1) * 40 ≤ 140737488355328 := by omega
      have hdr : (wr.drew).ownsRow w.heap.size 37 3 u3 i (zCells K X Z i) := hown
      have HO : Hid (∀ o, (wr.drew.alloc o).ownsRow w.heap.size 37 3 u3 i (zCells K X Z i)) := fun o => hdr.alloc o
      have hnb : (wr.drew.alloc (.cells #[.string (K i), .string (X i), .int .i64 (Z i)] 37)).heap[wr.heap.size]? = some (.cells #[.string (K i), .string (X i), .int .i64 (Z i)] 37 (0, 0)) := by
        show (wr.heap.push _)[wr.heap.size]? = _
        simp
      have HN' : Hid _ := World.news_of_block hnb
      have hrow : ∀ k, u3.ownBlock = some k → w.heap.size ≤ k ∧ k < wr.heap.size := fun k hk => ownsRow_block hown hk
      have hsz : w.heap.size ≤ (wr.drew.alloc (.cells #[.string (K i), .string (X i), .int .i64 (Z i)] 37)).heap.size := Nat.le_trans hb.size (by show _ ≤ (wr.heap.push _).size; simp)
      clear hnb hdr
      go_wp2
      go_region_law (refine step_append_lies _ rfl (.tmp 11) (.tmp 28) 30 rfl w.heap.size 37 i0 _ 3 40 Tryz.underlying30 hi0 hz0 hz1 hz2 rfl (by omega) u3 i (zCells K X Z i) (by simp [Act.eval]) (HO.out _) ⟨wr.heap.size, 0, none⟩ 1 1 [.string (K i), .string (X i), .int .i64 (Z i)] (by simp [Act.eval]) rfl HN'.out (by simp [Value.oneCell']) (by omega) hn63 hby hsz _ rfl (fun g cap w3 hown3 hgrow hat hlt3 => ?_))
      all_goals
        rw [← zCells_snoc] at hown3
        have hB3 : Below w.heap.size w w3 := ((hb.alloc hb.size _).drew).grown hgrow (Nat.le_trans hb.size (by show _ ≤ (wr.heap.push _).size; simp)) (fun k hk => (hrow k hk).1)
        clear HO HN' hrow hsz hgrow hat hown c0 c1 c2
        go_wp2
        exact ⟨⟨i + 1, by omega, by go_num, hown3, hB3⟩, by simp [intOf]; omega⟩
    · go_wp2
      go_ret
      obtain rfl : i = n := by omega
      exact ⟨⟨_, rfl, hown⟩, hb⟩
end Go.Proofs.YtkipbkhpomjhkaaGreatDoor
