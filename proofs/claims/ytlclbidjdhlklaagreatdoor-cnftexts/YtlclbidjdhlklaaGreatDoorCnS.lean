/-
  lustrumref1.SameInts, lustrumlaw3.sameClauses BY CONTRACT: what is the same is the same.
-/
import Derived.Test.YtlclbidjdhlklaaGreatDoorCnU
import Derived.Deep.QuietTactic
import Derived.BigQuiet
namespace Go.Proofs.YtlclbidjdhlklaaGreatDoor
open Go.RowKit Go.Maps

/-- Ints one behind the other, wherever. -/
def IntsO (w : World) (o : Option Addr) (l : List Int) : Prop := ∀ k x, l[k]? = some x → ∃ b off, o = some ⟨b, off, none⟩ ∧ w.cell? ⟨b, off + k, none⟩ = some (.int .i64 x)
theorem IntsO.below {w w' : World} {o : Option Addr} {l : List Int} (h : IntsO w o l) (hb : Below w.heap.size w w') : IntsO w' o l := fun k x hk => by
  obtain ⟨b, off, e, hc⟩ := h k x hk
  exact ⟨b, off, e, cell_keep hb hc⟩
theorem IntsO.drew {w : World} {o : Option Addr} {l : List Int} (h : IntsO w o l) (n : Nat) : IntsO (w.drewN n) o l := fun k x hk => by
  obtain ⟨b, off, e, hc⟩ := h k x hk
  exact ⟨b, off, e, hc⟩
theorem IntsO.row {w : World} {V : Nat} {l : List Int} {t : TypeId} (hV : w.heap[V]? = some (.cells (rowI l) t (0, 0))) : IntsO w (some ⟨V, 0, none⟩) l := fun k x hk => ⟨V, 0, rfl, by rw [Nat.zero_add, cell_of_row w V _ _ t (0, 0) hV]; exact rowI_get hk⟩
set_option maxRecDepth 100000 in
set_option maxHeartbeats 1000000 in
theorem sameI_any (w : World) (o1 o2 : Option Addr) (n c1 c2 : Nat) (l : List Int) (h1 : IntsO w o1 l) (h2 : IntsO w o2 l) (hn : n = l.length) (hl : n ≤ 100000) :
    Calls Tryz.prog 26 #[.slice o1 n c1, .slice o2 n c2] w fun e w' => e = .returned (.bool true) ∧ ∃ k, w' = w.drewN k := by
  have H1 : Hid (IntsO w o1 l) := h1
  have H2 : Hid (IntsO w o2 l) := h2
  have HN : Hid (n = l.length) := hn
  have HL : Hid (n ≤ 100000) := hl
  clear h1 h2 hn hl
  go_enter Tryz.func26, Tryz.ntmps26
  go_wp2
  go_loopw [5] (fun i wr => ∃ j k : Nat, j ≤ n ∧ i = .int .i64 j ∧ wr = w.drewN k) (fun i _ => n - (intOf i).toNat)
  case atStart => exact ⟨0, 0, Nat.zero_le _, rfl, rfl⟩
  case round =>
    obtain ⟨j, k, hj, rfl, rfl⟩ := hrel
    by_cases hlt : j < n
    · obtain ⟨x, hx⟩ : ∃ x, l[j]? = some x := ⟨_, List.getElem?_eq_getElem (by have := HN.out; omega)⟩
      obtain ⟨b1, f1, rfl, q1⟩ := H1.out j x hx
      obtain ⟨b2, f2, rfl, q2⟩ := H2.out j x hx
      have hi0 : (0 : Int) ≤ (j : Int) := by omega
      have hi1 : (j : Int) < (n : Int) := by omega
      have N4 : Hid (wrap64 ((j : Int) + 1) = (j : Int) + 1) := by have := HL.out; unfold Hid wrap64; omega
      have HJ : Hid (j < n) := hlt
      clear hj hlt hx
      go_wp2
      go_quiet (fail)
      go_wp2
      exact ⟨⟨j + 1, _, HJ.out, by rw [N4.out]; rfl, rfl⟩, by rw [N4.out]; have := HJ.out; simp [intOf]; omega⟩
    · obtain rfl : j = n := by omega
      clear hj hlt
      go_wp2
      go_ret
      exact ⟨rfl, k, rfl⟩
/-- Whatever is drawn, ClsAt stands. -/
theorem ClsAt.drew {w : World} {v : Value} {cs : List (List Int)} (h : ClsAt w v cs) (n : Nat) : ClsAt (w.drewN n) v cs := h.below (below_drewM (Below.refl _ _) n)
set_option maxRecDepth 100000 in
set_option maxHeartbeats 2000000 in
theorem sameC_any (w : World) (o1 o2 : Option Addr) (n c1 c2 : Nat) (cs : List (List Int)) (h1 : ClsAt w (.slice o1 n c1) cs) (h2 : ClsAt w (.slice o2 n c2) cs) (hn : n = cs.length) (hl : sizC cs ≤ 100000) :
    Calls Tryz.prog 13 #[.slice o1 n c1, .slice o2 n c2] w fun e w' => e = .returned (.bool true) ∧ ∃ k, w' = w.drewN k := by
  have H1 : Hid (ClsAt w (.slice o1 n c1) cs) := h1
  have H2 : Hid (ClsAt w (.slice o2 n c2) cs) := h2
  have HN : Hid (n = cs.length) := hn
  have HL : Hid (sizC cs ≤ 100000) := hl
  have HNL : Hid (n ≤ 100000) := by have := sizC_len cs; unfold Hid; omega
  clear h1 h2 hn hl
  go_enter Tryz.func13, Tryz.ntmps13
  go_wp2
  go_loopw [5] (fun i wr => ∃ j k : Nat, j ≤ n ∧ i = .int .i64 j ∧ wr = w.drewN k) (fun i _ => n - (intOf i).toNat)
  case atStart => exact ⟨0, 0, Nat.zero_le _, rfl, rfl⟩
  case round =>
    obtain ⟨j, k, hj, rfl, hwr⟩ := hrel
    have HWR : Hid (wr = w.drewN k) := hwr
    by_cases hlt : j < n
    · obtain ⟨d, hd⟩ : ∃ d, cs[j]? = some d := ⟨_, List.getElem?_eq_getElem (by have := HN.out; omega)⟩
      have hk1 := H1.out.drew k
      have hk2 := H2.out.drew k
      rw [← hwr] at hk1 hk2
      obtain ⟨b1, f1, p1, e1, rfl, q1, i1⟩ := hk1.get hd
      obtain ⟨b2, f2, p2, e2, rfl, q2, i2⟩ := hk2.get hd
      have hsz := sizC_get hd
      have HC : Hid (∀ q, Calls Tryz.prog 26 #[.slice p1 d.length e1, .slice p2 d.length e2] (wr.drewN q) fun e w' => e = .returned (.bool true) ∧ ∃ m, w' = (wr.drewN q).drewN m) := fun q => sameI_any _ p1 p2 _ e1 e2 d (IntsO.drew i1 q) (IntsO.drew i2 q) rfl (by have := HL.out; omega)
      have hi0 : (0 : Int) ≤ (j : Int) := by omega
      have hi1 : (j : Int) < (n : Int) := by omega
      have N4 : Hid (wrap64 ((j : Int) + 1) = (j : Int) + 1) := by have := HNL.out; unfold Hid wrap64; omega
      have HJ : Hid (j < n) := hlt
      clear hj hlt hd i1 i2 hsz hk1 hk2 hwr
      go_wp2
      go_quiet ((go_at_call 26; exact Calls.quiet_of (HC.out _)))
      go_wp2
      exact ⟨⟨j + 1, k + nq, HJ.out, by rw [N4.out]; rfl, by rw [HWR.out, World.drewN_drewN]⟩, by rw [N4.out]; have := HJ.out; simp [intOf]; omega⟩
    · obtain rfl : j = n := by omega
      clear hj hlt hwr
      go_wp2
      go_ret
      exact ⟨rfl, k, HWR.out⟩
end Go.Proofs.YtlclbidjdhlklaaGreatDoor
