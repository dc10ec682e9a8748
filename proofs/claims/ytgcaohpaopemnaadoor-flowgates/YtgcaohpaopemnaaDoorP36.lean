/-
  package word: bitsOf, numberOf, Value, Bits BY CONTRACT.
-/
import Derived.Test.YtgcaohpaopemnaaDoorP20
import Derived.Test.YtgcaohpaopemnaaDoorP01
import Derived.Handy
import Derived.Deep.QuietTactic
import Derived.BigQuiet
import Derived.WalkSmall
import Derived.Test.YtgcaohpaopemnaaDoorP10
namespace Go.Proofs.YtgcaohpaopemnaaDoor
open Go.RowKit Go.Maps

/-- A row of bools that is filled. -/
def rowQ (os : List Bool) (m : Nat) : List Bool := os ++ List.replicate (m - os.length) false
theorem rowQ_all {os : List Bool} {m : Nat} (h : os.length = m) : rowQ os m = os := by simp [rowQ, h]
theorem rowQ_at {os : List Bool} {m : Nat} (h : os.length < m) : (rowQ os m)[os.length]? = some false := by
  unfold rowQ
  rw [List.getElem?_append_right (Nat.le_refl _), Nat.sub_self, List.getElem?_replicate, if_pos (by omega)]
theorem rowQ_set {os : List Bool} {m : Nat} (h : os.length < m) (x : Bool) : (rowQ os m).set os.length x = rowQ (os ++ [x]) m := by
  unfold rowQ
  rw [List.set_append_right _ _ (Nat.le_refl _), Nat.sub_self]
  have : m - os.length = (m - (os ++ [x]).length) + 1 := by simp; omega
  rw [this, List.replicate_succ]
  simp
theorem rowQ_store {w : World} {V : Nat} {os : List Bool} {m : Nat} {t : TypeId} (hV : w.heap[V]? = some (.cells (rowB (rowQ os m)) t (0, 0))) (h : os.length < m) (x : Bool) :
    (w.setCell ⟨V, os.length, none⟩ (.bool x)).heap[V]? = some (.cells (rowB (rowQ (os ++ [x]) m)) t (0, 0)) := by
  rw [heap_setCell_at hV, rowB_set, rowQ_set h]
theorem rowQ_cell {w : World} {V : Nat} {os : List Bool} {m : Nat} {t : TypeId} (hV : w.heap[V]? = some (.cells (rowB (rowQ os m)) t (0, 0))) (h : os.length < m) : w.cell? ⟨V, os.length, none⟩ = some (.bool false) := by
  rw [cell_of_row w V _ _ t (0, 0) hV]; exact rowB_get (rowQ_at h)
/-- A number's bits. -/
def wordB (n : Int) (m : Nat) : List Bool := (List.range m).map (bitB n)
theorem wordB_succ (n : Int) (m : Nat) : wordB n (m + 1) = wordB n m ++ [bitB n m] := by simp [wordB, List.range_succ]
theorem wordB_length (n : Int) (m : Nat) : (wordB n m).length = m := by simp [wordB]
theorem wordB_get {n : Int} {m i : Nat} (h : i < m) : (wordB n m).getD i false = bitB n i := by simp [wordB, h]
theorem bits_or_new {n : Int} {i : Nat} (h0 : 0 ≤ n) (h1 : n < 2 ^ i) (hi : i < 62) : bits .or .i64 n (2 ^ i) = n + 2 ^ i := by
  have hp : (2 : Int) ^ i ≤ 2 ^ 61 := by
    have : (2 : Nat) ^ i ≤ 2 ^ 61 := Nat.pow_le_pow_right (by decide) (by omega)
    exact_mod_cast this
  have hq := two_pos i
  have e61 : (2 : Int) ^ 61 = 2305843009213693952 := by decide
  rw [e61] at hp
  obtain ⟨a, rfl⟩ := Int.eq_ofNat_of_zero_le h0
  have h1' : a < 2 ^ i := by exact_mod_cast h1
  have ha : (BitVec.ofInt 64 (a : Int)).toNat = a := by simp; omega
  have hb : (BitVec.ofInt 64 ((2 : Int) ^ i)).toNat = 2 ^ i := by
    have e : ((2 : Int) ^ i) = ((2 ^ i : Nat) : Int) := by simp
    rw [e] at hp ⊢
    simp; omega
  show IntKind.i64.wrap ((BitVec.ofInt 64 (a : Int) ||| BitVec.ofInt 64 (2 ^ i)).toNat : Int) = _
  have hor : a ||| 2 ^ i = a + 2 ^ i := by
    have := Nat.two_pow_add_eq_or_of_lt h1' 1
    rw [Nat.mul_one] at this
    rw [Nat.or_comm, ← this, Nat.add_comm]
  rw [BitVec.toNat_or, ha, hb, hor, IntKind.wrap_i64]
  have e : (((a + 2 ^ i : Nat)) : Int) = (a : Int) + 2 ^ i := by simp
  rw [e]
  omega
set_option maxRecDepth 100000 in
set_option maxHeartbeats 1000000 in
theorem numberOf_any (v : Value) (l : List Bool) (w : World) (hv : BoolsAt w v l) (hl : l.length ≤ 8) :
    Calls Tryd.prog 25 #[v] w fun e w' => e = .returned (.int .i64 (natF (fun i => l.getD i false) l.length)) ∧ w' = w := by
  obtain ⟨_, o, c, rfl, hc⟩ := hv
  have HC : Hid (∀ k x, l[k]? = some x → ∃ b off, o = some ⟨b, off, none⟩ ∧ w.cell? ⟨b, off + k, none⟩ = some (.bool x)) := hc
  have HL : Hid (l.length ≤ 8) := hl
  clear hc hl
  go_enter Tryd.func25, Tryd.ntmps25
  go_wp2
  go_loop [3, 8] (fun n t => ∃ j : Nat, j ≤ l.length ∧ t = .int .i64 j ∧ n = .int .i64 (natF (fun i => l.getD i false) j)) (fun _ t => l.length - (intOf t).toNat)
  case atStart => exact ⟨0, Nat.zero_le _, rfl, rfl⟩
  case round =>
    obtain ⟨j, hj, rfl, rfl⟩ := hrel
    by_cases hjl : j < l.length
    · obtain ⟨x, hx⟩ : ∃ x, l[j]? = some x := ⟨_, List.getElem?_eq_getElem hjl⟩
      obtain ⟨b, off, rfl, hcx⟩ := HC.out j x hx
      have i0' : (0 : Int) ≤ (j : Int) := by omega
      have i1' : (j : Int) < (l.length : Int) := by omega
      have i2' : (j : Int) ≤ 64 := by have := HL.out; omega
      have i3' : ((j : Int)).toNat = j := by omega
      have hlt := natF_lt (fun i => l.getD i false) j
      have hor := bits_or_new hlt.1 hlt.2 (by have := HL.out; omega)
      have hp : (2 : Int) ^ j ≤ 2 ^ 8 := by
        have : (2 : Nat) ^ j ≤ 2 ^ 8 := Nat.pow_le_pow_right (by decide) (by have := HL.out; omega)
        exact_mod_cast this
      have e8 : (2 : Int) ^ 8 = 256 := by decide
      rw [e8] at hp
      have hwp : wrap64 ((2 : Int) ^ j) = 2 ^ j := by have := two_pos j; unfold wrap64; omega
      have hnx : natF (fun i => l.getD i false) (j + 1) = natF (fun i => l.getD i false) j + bI x * 2 ^ j := by
        show natF _ j + bI (l.getD j false) * 2 ^ j = _
        rw [List.getD_eq_getElem?_getD, hx]; rfl
      obtain ⟨p, hpp⟩ : ∃ p, p = natF (fun i => l.getD i false) j := ⟨_, rfl⟩
      rw [← hpp] at hor hnx
      rw [← hpp]
      have HN : Hid (natF (fun i => l.getD i false) (j + 1) = p + bI x * 2 ^ j) := hnx
      have HJ : Hid (j < l.length) := hjl
      clear hx hj hjl hlt hp e8 hpp hnx
      cases x
      · go_wp2
        exact ⟨⟨j + 1, HJ.out, rfl, by rw [HN.out]; simp [bI]⟩, by have := HJ.out; simp [intOf]; omega⟩
      · go_wp2
        exact ⟨⟨j + 1, HJ.out, rfl, by rw [HN.out]; simp [bI]⟩, by have := HJ.out; simp [intOf]; omega⟩
    · obtain rfl : j = l.length := by omega
      clear hj hjl
      go_wp2
      go_ret
      exact ⟨rfl, rfl⟩
/-- The value of bits. -/
def valI (l : List Bool) : Int := let n := natF (fun i => l.getD i false) l.length; if l.length = 8 ∧ 128 ≤ n then n - 256 else n
def valK (l : List Bool) : Int := if l.length = 1 then 1 else 2
set_option maxRecDepth 100000 in
set_option maxHeartbeats 1000000 in
theorem value_ok (v : Value) (l : List Bool) (w : World) (hv : BoolsAt w v l) (hl : l.length = 1 ∨ l.length = 8) :
    Calls Tryd.prog 9 #[v] w fun e w' => e = .returned (.tuple #[.agg #[.int .i64 (valK l), .int .i64 (valI l)], .nilIface]) ∧ Below w.heap.size w w' := by
  have HV : Hid (BoolsAt w v l) := hv
  obtain ⟨_, o, c, rfl, hc⟩ := hv
  have hlt := natF_lt (fun i => l.getD i false) l.length
  have hb1 : ∀ v, Below w.heap.size w (w.alloc v) := fun v => (Below.refl _ _).alloc (Nat.le_refl _) _
  have HB : Hid (∀ v, Below w.heap.size w (w.alloc v)) := hb1
  obtain ⟨p, hp⟩ : ∃ p, p = natF (fun i => l.getD i false) l.length := ⟨_, rfl⟩
  have HL8 : Hid (l.length ≤ 8) := by unfold Hid; omega
  have HN : Hid (∀ w', BoolsAt w' (.slice o l.length c) l → Calls Tryd.prog 25 #[.slice o l.length c] w' fun e w'' => e = .returned (.int .i64 p) ∧ w'' = w') := fun w' h => by
    rw [hp]; exact numberOf_any _ l w' h HL8.out
  clear hc hb1
  rcases hl with h1 | h1
  · have E1 : Hid (valK l = 1) := by unfold Hid valK; rw [if_pos h1]
    have E2 : Hid (valI l = p) := by unfold Hid valI; simp only [← hp]; rw [if_neg (by omega)]
    clear hp hlt
    rw [h1] at HV HN
    rw [h1]
    clear h1
    go_enter Tryd.func9, Tryd.ntmps9
    go_wp2_with (go_at_call 25; refine (HN.out _ (HV.out.below (HB.out _))).mono ?_; rintro e w' ⟨rfl, rfl⟩)
    go_returns
    rw [E1.out, E2.out]
    exact ⟨rfl, HB.out _⟩
  · have E1 : Hid (valK l = 2) := by unfold Hid valK; rw [if_neg (by omega)]
    rw [← hp] at hlt
    rw [h1] at hlt
    have e8 : (2 : Int) ^ 8 = 256 := by decide
    rw [e8] at hlt
    by_cases h2 : 128 ≤ p
    · have E2 : Hid (valI l = p - 256) := by unfold Hid valI; simp only [← hp]; rw [if_pos ⟨h1, h2⟩]
      have d2 : (128 ≤ p) = True := eq_true h2
      have n1 : wrap64 (p - 256) = p - 256 := by unfold wrap64; omega
      clear hp hlt h2 e8
      rw [h1] at HV HN
      rw [h1]
      clear h1
      go_enter Tryd.func9, Tryd.ntmps9
      go_wp2_with (go_at_call 25; refine (HN.out _ (HV.out.below (HB.out _))).mono ?_; rintro e w' ⟨rfl, rfl⟩)
      go_returns
      rw [E1.out, E2.out]
      exact ⟨rfl, HB.out _⟩
    · have E2 : Hid (valI l = p) := by unfold Hid valI; simp only [← hp]; rw [if_neg (fun h => h2 h.2)]
      have d2 : (128 ≤ p) = False := eq_false h2
      clear hp hlt h2 e8
      rw [h1] at HV HN
      rw [h1]
      clear h1
      go_enter Tryd.func9, Tryd.ntmps9
      go_wp2_with (go_at_call 25; refine (HN.out _ (HV.out.below (HB.out _))).mono ?_; rintro e w' ⟨rfl, rfl⟩)
      go_returns
      rw [E1.out, E2.out]
      exact ⟨rfl, HB.out _⟩
set_option maxRecDepth 100000 in
set_option maxHeartbeats 1000000 in
theorem value_bad (o : Option Addr) (n c : Nat) (hn : n ≠ 1 ∧ n ≠ 8) (w : World) (t : TypeId) (p : Value) (he : w.cell? ⟨0, 0, none⟩ = some (.iface t p)) :
    Calls Tryd.prog 9 #[.slice o n c] w fun e w' => e = .returned (.tuple #[.agg #[.int .i64 0, .int .i64 0], .iface t p]) ∧ Below w.heap.size w w' := by
  have d1 : ((n : Int) == 1) = false := by simp; omega
  have d2 : ((n : Int) == 8) = false := by simp; omega
  have hb1 : Below w.heap.size w (w.alloc (.cells #[.int .i64 0, .int .i64 0] 24)) := (Below.refl _ _).alloc (Nat.le_refl _) _
  have he1 := cell_keep hb1 he
  clear hn
  go_enter Tryd.func9, Tryd.ntmps9
  go_wp2
  go_region
  all_goals go_wp2
  all_goals go_returns
  all_goals exact ⟨rfl, hb1.drew⟩
end Go.Proofs.YtgcaohpaopemnaaDoor

/-
  lustrumlaw3.coded BY ITS CONTRACT: an error's number is told.
-/
namespace Go.Proofs.YtgcaohpaopemnaaDoor
open Go.RowKit Go.Extern.Stop Go.Stop Go.Extern

end Go.Proofs.YtgcaohpaopemnaaDoor

/-
  A NEW GRAPH; A SENTINEL's NUMBER.
-/
namespace Go.Proofs.YtgcaohpaopemnaaDoor
open Go.RowKit Go.Maps

theorem new_graph (w : World) (t : TypeId) : GrAt w.heap.size [] 0 (fun k => k = w.heap.size) (w.alloc (.cells #[.slice none 0 0, .map none, .int .i64 0] t)) :=
  ⟨Gs.nil, rfl, fun k hk => by rw [hk]; simp, t, .slice none 0 0, .map none, heap_alloc_new _ _, World.ownsRow_nil _ _ _ _, fun k hk => by simp [Value.ownBlock] at hk, .inl ⟨rfl, fun p hp => by simp at hp⟩⟩
end Go.Proofs.YtgcaohpaopemnaaDoor
