/-
  THREE CLAUSES AT ONCE, IN MEMORY (the document's CnfOf appends them so).
-/
import Derived.Test.YtlclbidjdhlklaaDoorCnK
import Derived.Deep.RegionHeld3
namespace Go.Proofs.YtlclbidjdhlklaaDoor
open Go.RowKit Go.Maps

theorem cellA {w : World} {p : Addr} {v : Value} {o : Obj} (h : w.cell? p = some v) : (w.alloc o).cell? p = some v := cell_keep ((Below.refl _ _).alloc (Nat.le_refl _) _) h
theorem cellD {w : World} {p : Addr} {v : Value} (h : w.cell? p = some v) : w.drew.cell? p = some v := h
theorem newsD (w : World) (cs : Array Value) (t : TypeId) : ∀ (j : Nat) u, cs.toList[j]? = some u → ((w.alloc (.cells cs t)).drew).cell? ((⟨w.heap.size, 0, none⟩ : Addr).add j) = some u := World.news_of_block (heap_alloc_new w (.cells cs t))
theorem rowG {w W w7 : World} {row : Option Nat} {B : Nat} {ob : Obj} (hg : W.grownBy w7 row) (hb : Below w.heap.size w W) (h : w.heap[B]? = some ob) (hne : row ≠ some B) : w7.heap[B]? = some ob := by
  have hl : B < w.heap.size := (Array.getElem?_eq_some_iff.1 h).1
  rw [hg.block B (Nat.lt_of_lt_of_le hl hb.size) (fun e => hne e.symm), hb.block B hl]; exact h
theorem at0 (w : World) (a b c d : Obj) : (((((w.alloc a).alloc b).alloc c).alloc d).drew).heap[w.heap.size]? = some a := by
  have e : ((((w.alloc a).alloc b).alloc c).alloc d).heap[w.heap.size]? = some a := by
    have h1 := heap_alloc_new w a
    have h2 := ((((Below.refl (w.alloc a).heap.size (w.alloc a)).alloc (Nat.le_refl _) b).alloc (by simp) c).alloc (by simp <;> omega) d).block w.heap.size (by simp)
    rw [h2]; exact h1
  exact e
theorem at1 (w : World) (a b c d : Obj) : (((((w.alloc a).alloc b).alloc c).alloc d).drew).heap[w.heap.size + 1]? = some b := by
  have e : ((((w.alloc a).alloc b).alloc c).alloc d).heap[w.heap.size + 1]? = some b := by
    have h1 := heap_alloc_new (w.alloc a) b
    rw [World.size_alloc] at h1
    have h2 := (((Below.refl ((w.alloc a).alloc b).heap.size ((w.alloc a).alloc b)).alloc (Nat.le_refl _) c).alloc (by simp) d).block (w.heap.size + 1) (by simp)
    rw [h2]; exact h1
  exact e
theorem at2 (w : World) (a b c d : Obj) : (((((w.alloc a).alloc b).alloc c).alloc d).drew).heap[w.heap.size + 2]? = some c := by
  have e : ((((w.alloc a).alloc b).alloc c).alloc d).heap[w.heap.size + 2]? = some c := by
    have h1 := heap_alloc_new ((w.alloc a).alloc b) c
    rw [World.size_alloc, World.size_alloc] at h1
    have h2 := ((Below.refl (((w.alloc a).alloc b).alloc c).heap.size (((w.alloc a).alloc b).alloc c)).alloc (Nat.le_refl _) d).block (w.heap.size + 2) (by simp)
    rw [h2]; exact h1
  exact e
theorem below4 (w : World) (a b c d : Obj) : Below w.heap.size w (((((w.alloc a).alloc b).alloc c).alloc d).drew) := (((((Below.refl _ _).alloc (Nat.le_refl _) _).alloc (by simp) _).alloc (by simp <;> omega) _).alloc (by simp <;> omega) _).drew
/-- A clause just made. -/
structure NewC (w W : World) (b : Nat) (l : List Int) : Prop where
  row : ∃ t, W.heap[b]? = some (.cells (rowI l) t (0, 0))
  up : w.heap.size ≤ b
theorem grown3 {B : Nat} {n : Int} {cs : List (List Int)} {F : Nat → Prop} {w W w7 : World} {t : TypeId} {so : Option Addr} {sc : Nat} {vs : List Value} {l1 l2 l3 : List Int} {b1 b2 b3 n1 n2 n3 g cap : Nat} (hFB : F B) (hF : ∀ k, F k → k < w.heap.size) (h3 : w.heap[B]? = some (.cells #[.int .i64 n, .slice so cs.length sc] t (0, 0)))
    (h5 : ∀ k, (Value.slice so cs.length sc).ownBlock = some k → F k ∧ k ≠ B) (h6 : vs.length = cs.length) (h7 : ∀ (k : Nat) l, cs[k]? = some l → ∃ v, vs[k]? = some v ∧ ClIn (fun k => F k ∨ k < B) w v l)
    (hbW : Below w.heap.size w W) (k1 : NewC w W b1 l1) (k2 : NewC w W b2 l2) (k3 : NewC w W b3 l3) (e1 : n1 = l1.length) (e2 : n2 = l2.length) (e3 : n3 = l3.length)
    (hgrow : W.grownBy w7 (Value.slice so cs.length sc).ownBlock) (hat : (Value.slice so cs.length sc).ownBlock = some g ∨ g = W.heap.size)
    (hown : w7.ownsRow 0 80 1 (.slice (some ⟨g, 0, none⟩) (cs.length + 3) cap) (cs.length + 3) (vs ++ [.slice (some ⟨b1, 0, none⟩) n1 n1, .slice (some ⟨b2, 0, none⟩) n2 n2, .slice (some ⟨b3, 0, none⟩) n3 n3])) :
    FmAt B n (cs ++ [l1, l2, l3]) (fun k => F k ∨ k = g) (w7.setCell ⟨B, 1, none⟩ (.slice (some ⟨g, 0, none⟩) (cs.length + 3) cap)) := by
  subst e1
  subst e2
  subst e3
  have hBw : B < w.heap.size := hF B hFB
  have hgB : g ≠ B := by
    rcases hat with hat | hat
    · exact (h5 g hat).2
    · have := hbW.size; omega
  have hg7 : g < w7.heap.size := (hown.lt g rfl).2
  have h37 := rowG hgrow hbW h3 (fun e => (h5 B e).2 rfl)
  have hold : ∀ b, b < w.heap.size → ¬ F b → (w7.setCell ⟨B, 1, none⟩ (.slice (some ⟨g, 0, none⟩) (cs.length + 3) cap)).heap[b]? = w.heap[b]? := fun b hb hn => by
    rw [Below.heap_setCell _ _ _ _ (fun e => hn (by rw [show b = B from e]; exact hFB)), hgrow.block b (Nat.lt_of_lt_of_le hb hbW.size) (fun e => hn (h5 b e.symm).1), hbW.block b hb]
  have hnew : ∀ b l, NewC w W b l → ClIn (fun k => (F k ∨ k = g) ∨ k < B) (w7.setCell ⟨B, 1, none⟩ (.slice (some ⟨g, 0, none⟩) (cs.length + 3) cap)) (.slice (some ⟨b, 0, none⟩) l.length l.length) l := fun b l hk => by
    obtain ⟨⟨t', hr⟩, hu⟩ := hk
    have hbl : b < W.heap.size := (Array.getElem?_eq_some_iff.1 hr).1
    have hnF : ¬ F b := fun hf => by have := hF b hf; omega
    have hbg : b ≠ g := fun e => by
      rcases hat with hat | hat
      · exact hnF (by rw [e]; exact (h5 g hat).1)
      · omega
    have hr7 : (w7.setCell ⟨B, 1, none⟩ (.slice (some ⟨g, 0, none⟩) (cs.length + 3) cap)).heap[b]? = some (.cells (rowI l) t' (0, 0)) := by
      rw [Below.heap_setCell _ _ _ _ (show b ≠ B by omega), hgrow.block b hbl (fun e => hnF (h5 b e.symm).1)]; exact hr
    refine ⟨_, _, rfl, fun k x hk => ⟨b, 0, rfl, fun h => ?_, ?_⟩⟩
    · rcases h with (h | h) | h
      · exact hnF h
      · exact hbg h
      · omega
    · rw [Nat.zero_add, cell_of_row _ _ _ _ t' (0, 0) hr7]; exact rowI_get hk
  refine ⟨.inl hFB, fun k hk => ?_, t, _, vs ++ [.slice (some ⟨b1, 0, none⟩) l1.length l1.length, .slice (some ⟨b2, 0, none⟩) l2.length l2.length, .slice (some ⟨b3, 0, none⟩) l3.length l3.length], heap_setCell_at h37 _, ?_, fun k hk => ?_, ?_, fun k l hk => ?_⟩
  · rw [size_setCell]
    rcases hk with hk | hk
    · have := hF k hk; have := hbW.size; have := hgrow.size; omega
    · rw [hk]; exact hg7
  · have e : (cs ++ [l1, l2, l3]).length = cs.length + 3 := by simp
    rw [e]
    exact owns_keep hown (fun k hk => by
      have : k = g := by simpa [Value.ownBlock] using hk.symm
      subst this
      exact Below.heap_setCell _ _ _ _ hgB)
  · have : k = g := by simpa [Value.ownBlock] using hk.symm
    subst this
    exact ⟨.inr rfl, hgB⟩
  · simp [h6]
  · rcases Nat.lt_or_ge k cs.length with h | h
    · rw [List.getElem?_append_left h] at hk
      obtain ⟨u, hu, o', c', rfl, hc⟩ := h7 k l hk
      refine ⟨_, by rw [List.getElem?_append_left (by omega)]; exact hu, o', c', rfl, fun j x hj => ?_⟩
      obtain ⟨b, off, e, hn, hcx⟩ := hc j x hj
      have hbl : b < w.heap.size := cell_blkN hcx
      have hnF : ¬ F b := fun hf => hn (.inl hf)
      refine ⟨b, off, e, fun h => ?_, ?_⟩
      · rcases h with (h | h) | h
        · exact hnF h
        · rcases hat with hat | hat
          · exact hnF (by rw [h]; exact (h5 g hat).1)
          · have := hbW.size; omega
        · exact hn (.inr h)
      · have e := hold b hbl hnF
        simp only [World.cell?, e] at hcx ⊢
        exact hcx
    · rw [List.getElem?_append_right h] at hk
      obtain ⟨i, hi⟩ : ∃ i, k - cs.length = i := ⟨_, rfl⟩
      rw [hi] at hk
      have hvk : vs.length ≤ k := by omega
      rw [List.getElem?_append_right hvk, h6, hi]
      rcases i with _ | _ | _ | i
      · have : l = l1 := by simpa using hk.symm
        subst this
        exact ⟨_, rfl, hnew _ _ k1⟩
      · have : l = l2 := by simpa using hk.symm
        subst this
        exact ⟨_, rfl, hnew _ _ k2⟩
      · have : l = l3 := by simpa using hk.symm
        subst this
        exact ⟨_, rfl, hnew _ _ k3⟩
      · simp at hk
end Go.Proofs.YtlclbidjdhlklaaDoor
