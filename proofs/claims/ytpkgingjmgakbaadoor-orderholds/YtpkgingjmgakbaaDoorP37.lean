/-
  package order: needsItself BY CONTRACT.
-/
import Derived.Test.YtpkgingjmgakbaaDoorP36
namespace Go.Proofs.YtpkgingjmgakbaaDoor
open Go.RowKit Go.Maps

/-- A block of so many bools. -/
def BoAt (w : World) (W n : Nat) (g : Nat → Bool) : Prop := w.heap[W]? = some (.cells ((List.range n).map fun k => Value.bool (g k)).toArray 4 (0, 0))
theorem BoAt.cell {w : World} {W n : Nat} {g : Nat → Bool} (h : BoAt w W n g) {k : Nat} (hk : k < n) : w.cell? ⟨W, k, none⟩ = some (.bool (g k)) := by
  rw [cell_of_row w W k _ _ (0, 0) h]
  simp [hk]
theorem BoAt.free {w : World} {W n : Nat} {g : Nat → Bool} (h : BoAt w W n g) (k : Nat) : w.frozen? ⟨W, k, none⟩ = false := by
  unfold BoAt at h
  simp [World.frozen?, h]
theorem BoAt.lt {w : World} {W n : Nat} {g : Nat → Bool} (h : BoAt w W n g) : W < w.heap.size := (Array.getElem?_eq_some_iff.1 h).1
theorem BoAt.set {w : World} {W n : Nat} {g : Nat → Bool} (h : BoAt w W n g) (k : Nat) (v : Bool) : BoAt (w.setCell ⟨W, k, none⟩ (.bool v)) W n (fun j => if j = k then v else g j) := by
  unfold BoAt
  rw [heap_setCell_same w W k _ _ _ h]
  congr 2
  apply Array.toList_inj.1
  apply List.ext_getElem?
  intro j
  simp only [Array.toList_setIfInBounds, List.getElem?_map]
  by_cases hj : j < n
  · by_cases e : k = j
    · subst e
      rw [List.getElem?_set_self (by simpa using hj)]
      simp [hj]
    · rw [List.getElem?_set_ne e]
      have : ¬ j = k := fun h => e h.symm
      simp [hj, this]
  · rw [List.getElem?_eq_none (by simp; omega)]
    simp [hj]
theorem BoAt.made (w : World) (n : Nat) : BoAt (w.alloc (.cells (Array.replicate n (.bool false)) 4)) w.heap.size n (fun _ => false) := by
  unfold BoAt
  rw [heap_alloc_new]
  congr 2
  apply Array.toList_inj.1
  apply List.ext_getElem?
  intro j
  simp only [Array.toList_replicate, List.getElem?_replicate, List.getElem?_map]
  by_cases hj : j < n
  · simp [hj]
  · simp [hj]
theorem BoAt.one {w : World} {W n : Nat} {g h : Nat → Bool} (hg : BoAt w W n g) (hh : BoAt w W n h) {k : Nat} (hk : k < n) : g k = h k := by
  have h1 := hg.cell hk
  rw [hh.cell hk] at h1
  simpa using h1.symm
/-- How many have not been seen. -/
def uns (n : Nat) (g : Nat → Bool) : Nat := (List.range n).countP fun k => !g k
theorem uns_le (n : Nat) (g : Nat → Bool) : uns n g ≤ n := by
  have := List.countP_le_length (p := fun k => !g k) (l := List.range n)
  rwa [List.length_range] at this
theorem uns_congr {n : Nat} {g h : Nat → Bool} (e : ∀ k, k < n → g k = h k) : uns n g = uns n h := by
  unfold uns
  refine List.countP_congr fun k hk => ?_
  rw [e k (List.mem_range.1 hk)]
theorem cnt_less {g : Nat → Bool} {x : Nat} (h0 : g x = false) : ∀ l : List Nat, x ∈ l → l.countP (fun k => !(if k = x then true else g k)) + 1 ≤ l.countP (fun k => !g k)
  | [], h => by simp at h
  | y :: l, h => by
    rw [List.countP_cons, List.countP_cons]
    have hmono : ∀ l : List Nat, l.countP (fun k => !(if k = x then true else g k)) ≤ l.countP (fun k => !g k) := fun l => List.countP_mono_left fun k _ hk => by
      by_cases e : k = x
      · rw [if_pos e] at hk; simp at hk
      · rw [if_neg e] at hk; exact hk
    by_cases e : y = x
    · subst e
      have := hmono l
      simp only [if_pos, h0, Bool.not_true, Bool.not_false, Bool.false_eq_true, if_false]
      omega
    · have hm : x ∈ l := by
        rcases List.mem_cons.1 h with h | h
        · exact absurd h.symm e
        · exact h
      have := cnt_less h0 l hm
      rw [if_neg e]
      omega
theorem uns_less {n x : Nat} {g : Nat → Bool} (hx : x < n) (h0 : g x = false) : uns n (fun k => if k = x then true else g k) + 1 ≤ uns n g := cnt_less h0 _ (List.mem_range.2 hx)
/-- What needsItself has seen, from i on: X is being worked on. -/
structure Sn (nd : List (List Nat)) (i : Nat) (X : Nat → Prop) (ws : List Nat) (sf : Nat → Bool) : Prop where
  sound : ∀ x, sf x = true → Rch nd i x
  work : ∀ x ∈ ws, x < nd.length ∧ (x = i ∨ sf x = true)
  closed : ∀ x, (x = i ∨ sf x = true) → x ∈ ws ∨ X x ∨ ∀ k ∈ ndA nd x, sf k = true
theorem Sn.start (nd : List (List Nat)) {i : Nat} (hi : i < nd.length) : Sn nd i (fun _ => False) [i] (fun _ => false) :=
  ⟨fun x h => by simp at h, fun x hx => by rw [List.mem_singleton.1 hx]; exact ⟨hi, .inl rfl⟩, fun x hx => by
    rcases hx with rfl | hx
    · exact .inl (List.mem_singleton_self _)
    · simp at hx⟩
theorem Sn.pop {nd : List (List Nat)} {i x : Nat} {ws : List Nat} {sf : Nat → Bool} (h : Sn nd i (fun _ => False) (ws ++ [x]) sf) : Sn nd i (fun y => y = x) ws sf ∧ x < nd.length ∧ (x = i ∨ sf x = true) := by
  refine ⟨⟨h.sound, fun y hy => h.work y (List.mem_append_left _ hy), fun y hy => ?_⟩, h.work x (by simp)⟩
  rcases h.closed y hy with h1 | h1 | h1
  · rcases List.mem_append.1 h1 with h2 | h2
    · exact .inl h2
    · exact .inr (.inl (List.mem_singleton.1 h2))
  · exact h1.elim
  · exact .inr (.inr h1)
theorem Sn.see {nd : List (List Nat)} {i x z : Nat} {ws : List Nat} {sf : Nat → Bool} (h : Sn nd i (fun y => y = x) ws sf) (hx : x = i ∨ sf x = true) (hz : z ∈ ndA nd x) (hzn : z < nd.length) : Sn nd i (fun y => y = x) (ws ++ [z]) (fun k => if k = z then true else sf k) := by
  refine ⟨fun y hy => ?_, fun y hy => ?_, fun y hy => ?_⟩
  · by_cases e : y = z
    · subst e
      rcases hx with rfl | hx
      · exact .one _ _ hz
      · exact (h.sound x hx).snoc hz
    · rw [if_neg e] at hy
      exact h.sound y hy
  · rcases List.mem_append.1 hy with hy | hy
    · obtain ⟨h1, h2⟩ := h.work y hy
      refine ⟨h1, h2.imp id fun h3 => ?_⟩
      split
      · rfl
      · exact h3
    · rw [List.mem_singleton.1 hy]
      exact ⟨hzn, .inr (if_pos rfl)⟩
  · by_cases e : y = z
    · exact .inl (by rw [e]; simp)
    · have hy' : y = i ∨ sf y = true := by
        rcases hy with hy | hy
        · exact .inl hy
        · rw [if_neg e] at hy
          exact .inr hy
      rcases h.closed y hy' with h1 | h1 | h1
      · exact .inl (List.mem_append_left _ h1)
      · exact .inr (.inl h1)
      · exact .inr (.inr fun k hk => by
          split
          · rfl
          · exact h1 k hk)
theorem Sn.over {nd : List (List Nat)} {i x : Nat} {ws : List Nat} {sf : Nat → Bool} (h : Sn nd i (fun y => y = x) ws sf) (hx : ∀ k ∈ ndA nd x, sf k = true) : Sn nd i (fun _ => False) ws sf :=
  ⟨h.sound, h.work, fun y hy => by
    rcases h.closed y hy with h1 | h1 | h1
    · exact .inl h1
    · rw [h1]; exact .inr (.inr hx)
    · exact .inr (.inr h1)⟩
theorem Sn.end {nd : List (List Nat)} {i : Nat} {sf : Nat → Bool} (h : Sn nd i (fun _ => False) [] sf) : sf i = true ↔ Rch nd i i := by
  have hc : ∀ x, (x = i ∨ sf x = true) → ∀ k ∈ ndA nd x, sf k = true := fun x hx => by
    rcases h.closed x hx with h1 | h1 | h1
    · simp at h1
    · exact h1.elim
    · exact h1
  have hr : ∀ x y, Rch nd x y → (x = i ∨ sf x = true) → sf y = true := fun x y hr => by
    induction hr with
    | one x k hk => intro hx; exact hc x hx k hk
    | more x k j hk _ ih => intro hx; exact ih (.inr (hc x hx k hk))
  exact ⟨fun hs => h.sound i hs, fun hs => hr i i hs (.inl rfl)⟩
end Go.Proofs.YtpkgingjmgakbaaDoor
