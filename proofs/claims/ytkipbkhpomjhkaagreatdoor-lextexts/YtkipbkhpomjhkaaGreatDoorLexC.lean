/-
  THE READER'S skip, BY ITS CONTRACT: from where it stands over blanks, lines and comments.
-/
import Derived.Test.YtkipbkhpomjhkaaGreatDoorLexB
import Derived.Test.YtkipbkhpomjhkaaGreatDoorLexQ
namespace Go.Proofs.YtkipbkhpomjhkaaGreatDoor
open Go.RowKit

/-- The number in a cell. -/
def cellNat (w : World) (b : Nat) : Nat := match w.cell? ⟨b, 0, none⟩ with | some (.int _ k) => k.toNat | _ => 0
theorem Rdr.nat {bs ba bc bt bk : Nat} {s : ByteArray} {i : Nat} {w : World} (R : Rdr bs ba bc bt bk s i w) : cellNat w ba = i := by
  simp [cellNat, R.ha]

theorem dash_any (s : ByteArray) (j : Nat) (w : World) (h : j ≤ s.size) : Calls Tryz.prog 29 #[.string (s.extract j s.size), .string ⟨#[45, 45]⟩] w fun e w' => e = .returned (.bool (comB s j)) ∧ w' = w := by
  refine (Tryz.strings_HasPrefix _ _ _).mono ?_
  rintro e w' ⟨rfl, rfl⟩
  exact ⟨ret_bool (com_prefix s j h), rfl⟩

set_option maxRecDepth 100000 in
set_option maxHeartbeats 1000000 in
theorem skip_any (bs ba bc bt bk : Nat) (s : ByteArray) (i : Nat) (w : World) (R : Rdr bs ba bc bt bk s i w) (hi : i ≤ s.size) (hs : s.size ≤ 6000) :
    Calls Tryz.prog 27 #[.pointer (some ⟨bt, 0, none⟩), .pointer (some ⟨bs, 0, none⟩), .pointer (some ⟨ba, 0, none⟩)] w fun e w' => e = .returned (.tuple #[]) ∧ ∃ j, Stands s i j ∧ comB s j = false ∧ Rdr bs ba bc bt bk s j w' ∧ Mv ba w w' := by
  have c1 := R.ht
  go_enter Tryz.func27, Tryz.ntmps27
  go_wp2_with fail
  refine (take_blankI bs ba bc bt bk s i _ R hi hs).mono ?_
  rintro e w1 ⟨n, hrun, rfl, R1, hm⟩
  clear c1
  go_wp2
  go_loopw [] (fun wr => ∃ j : Nat, Stands s i j ∧ Rdr bs ba bc bt bk s j wr ∧ Mv ba w wr) (fun wr => s.size - cellNat wr ba)
  case atStart => exact ⟨i + n, ⟨Skips.blanks n i hrun.le hrun.all, hrun.le, hrun.stop⟩, R1, hm⟩
  case round =>
    obtain ⟨j, St, Rr, hmr⟩ := hrel
    have c1 := Rr.hs
    have c2 := Rr.ha
    have c3 := Rr.ht
    have hsl := slice_from s j St.le
    by_cases hcom : comB s j = true
    · go_wp2_with fail
      refine (dash_any s j _ St.le).mono ?_
      rintro e w2 ⟨rfl, rfl⟩
      go_wp2_with fail
      refine (take_notNlI bs ba bc bt bk s j _ Rr St.le hs).mono ?_
      rintro e w3 ⟨m, hrun3, rfl, R3, hm3⟩
      have c4 := R3.ht
      clear c1 c2 c3
      go_wp2_with fail
      refine (take_blankI bs ba bc bt bk s (j + m) _ R3 hrun3.le hs).mono ?_
      rintro e w4 ⟨k, hrun4, rfl, R4, hm4⟩
      have h2 := com_first hcom hrun3
      clear c4
      go_wp2
      have hjl : j < s.size := by
        have := hrun3.le; omega
      have hn1 := Rr.nat
      have hn2 := R4.nat
      refine ⟨⟨j + m + k, ⟨St.skips.trans (.comment j m _ hcom (St.blank hjl) hrun3 (Skips.blanks k _ hrun4.le hrun4.all)), hrun4.le, hrun4.stop⟩, R4, (hmr.trans hm3).trans hm4⟩, ?_⟩
      rw [hn1, hn2]; have := hrun4.le; omega
    · have hcom' : comB s j = false := by simpa using hcom
      go_wp2_with fail
      refine (dash_any s j _ St.le).mono ?_
      rintro e w2 ⟨rfl, rfl⟩
      clear c1 c2 c3
      go_wp2
      go_end0
      exact ⟨rfl, j, St, hcom', Rr, hmr⟩
end Go.Proofs.YtkipbkhpomjhkaaGreatDoor
