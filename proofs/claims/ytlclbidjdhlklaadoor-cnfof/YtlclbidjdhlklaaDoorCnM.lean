/-
  A FORMULA THAT GROWS, BESIDE ITS NUMBERS AND MARKS, IN MEMORY.
-/
import Derived.Test.YtlclbidjdhlklaaDoorCnQ
namespace Go.Proofs.YtlclbidjdhlklaaDoor
open Go.RowKit Go.Maps

/-- A formula in block B, its numbers in the block behind it, marks in block H; all ahead of H is as it was. -/
def FmU (B : Nat) (n : Int) (cs : List (List Int)) (ns : List Int) (H : Nat) (bs : List Bool) (w0 w : World) : Prop :=
  ∃ F : Nat → Prop, FmAt B n cs F w ∧ (∀ j, F j → B ≤ j) ∧ ¬ F (B + 1) ∧ w.heap[B + 1]? = some (.cells (rowI ns) 3 (0, 0)) ∧ w.heap[H]? = some (.cells (rowB bs) 4 (0, 0)) ∧ Below H w0 w
theorem below_grown {H : Nat} {w0 W w7 : World} {row : Option Nat} (hb : Below H w0 W) (hH : H ≤ W.heap.size) (hg : W.grownBy w7 row) (hr : ∀ k, row = some k → H ≤ k) : Below H w0 w7 :=
  ⟨hg.os.trans hb.os, hg.tape.trans hb.tape, hg.output.trans hb.output, Nat.le_trans hb.size hg.size, fun k hk => (hg.block k (by omega) (fun e => by have := hr k e.symm; omega)).trans (hb.block k hk)⟩
theorem cellG {w W w7 : World} {row : Option Nat} {p : Addr} {v : Value} (hg : W.grownBy w7 row) (hb : Below w.heap.size w W) (h : w.cell? p = some v) (hne : row ≠ some p.block) : w7.cell? p = some v := by
  have hl := cell_blkN h
  have e : w7.heap[p.block]? = w.heap[p.block]? := by
    rw [hg.block p.block (Nat.lt_of_lt_of_le hl hb.size) (fun e => hne e.symm), hb.block p.block hl]
  simp only [World.cell?, e] at h ⊢
  exact h
theorem fin3 {B H : Nat} {n : Int} {cs : List (List Int)} {ns : List Int} {bs : List Bool} {F : Nat → Prop} {w0 w W w7 : World} {t : TypeId} {so : Option Addr} {sc : Nat} {vs : List Value} {l1 l2 l3 : List Int} {b1 b2 b3 n1 n2 n3 g cap : Nat} (hH : H < B) (hFB : F B) (hF : ∀ k, F k → k < w.heap.size) (h3 : w.heap[B]? = some (.cells #[.int .i64 n, .slice so cs.length sc] t (0, 0)))
    (h5 : ∀ k, (Value.slice so cs.length sc).ownBlock = some k → F k ∧ k ≠ B) (h6 : vs.length = cs.length) (h7 : ∀ (k : Nat) l, cs[k]? = some l → ∃ v, vs[k]? = some v ∧ ClIn (fun k => F k ∨ k < B) w v l)
    (hlo : ∀ j, F j → B ≤ j) (hU1 : ¬ F (B + 1)) (hU : w.heap[B + 1]? = some (.cells (rowI ns) 3 (0, 0))) (hV : w.heap[H]? = some (.cells (rowB bs) 4 (0, 0))) (hb : Below H w0 w)
    (hbW : Below w.heap.size w W) (k1 : NewC w W b1 l1) (k2 : NewC w W b2 l2) (k3 : NewC w W b3 l3) (e1 : n1 = l1.length) (e2 : n2 = l2.length) (e3 : n3 = l3.length)
    (hgrow : W.grownBy w7 (Value.slice so cs.length sc).ownBlock) (hat : (Value.slice so cs.length sc).ownBlock = some g ∨ g = W.heap.size)
    (hown : w7.ownsRow 0 80 1 (.slice (some ⟨g, 0, none⟩) (cs.length + 3) cap) (cs.length + 3) (vs ++ [.slice (some ⟨b1, 0, none⟩) n1 n1, .slice (some ⟨b2, 0, none⟩) n2 n2, .slice (some ⟨b3, 0, none⟩) n3 n3])) :
    FmU B n (cs ++ [l1, l2, l3]) ns H bs w0 (w7.setCell ⟨B, 1, none⟩ (.slice (some ⟨g, 0, none⟩) (cs.length + 3) cap)) := by
  have hBw : B < w.heap.size := hF B hFB
  have hUw : B + 1 < w.heap.size := (Array.getElem?_eq_some_iff.1 hU).1
  have hsW := hbW.size
  have hrow : ∀ k, (Value.slice so cs.length sc).ownBlock = some k → B ≤ k := fun k hk => hlo k (h5 k hk).1
  refine ⟨_, grown3 hFB hF h3 h5 h6 h7 hbW k1 k2 k3 e1 e2 e3 hgrow hat hown, fun j hj => ?_, fun hj => ?_, ?_, ?_, ?_⟩
  · rcases hj with hj | hj
    · exact hlo j hj
    · rcases hat with hat | hat
      · rw [hj]; exact hrow g hat
      · omega
  · rcases hj with hj | hj
    · exact hU1 hj
    · rcases hat with hat | hat
      · exact hU1 (by rw [hj]; exact (h5 g hat).1)
      · omega
  · rw [Below.heap_setCell _ _ _ _ (show B + 1 ≠ B by omega)]
    exact rowG hgrow hbW hU (fun e => hU1 (h5 _ e).1)
  · rw [Below.heap_setCell _ _ _ _ (show H ≠ B by omega)]
    exact rowG hgrow hbW hV (fun e => by have := hrow _ e; omega)
  · exact (below_grown (hb.trans (hbW.mono (by omega))) (by omega) hgrow (fun k hk => by have := hrow k hk; omega)).setCell (show H ≤ B by omega) _
theorem fin1 {B H : Nat} {n : Int} {cs : List (List Int)} {ns : List Int} {bs : List Bool} {F : Nat → Prop} {w0 w w2 w3 : World} {t : TypeId} {so : Option Addr} {sc : Nat} {v : Value} {vs : List Value} {l : List Int} {g cap : Nat} (hH : H < B) (hFB : F B) (hF : ∀ k, F k → k < w.heap.size) (h3 : w.heap[B]? = some (.cells #[.int .i64 n, .slice so cs.length sc] t (0, 0)))
    (h5 : ∀ k, (Value.slice so cs.length sc).ownBlock = some k → F k ∧ k ≠ B) (h6 : vs.length = cs.length) (h7 : ∀ (k : Nat) l, cs[k]? = some l → ∃ v, vs[k]? = some v ∧ ClIn (fun k => F k ∨ k < B) w v l)
    (hlo : ∀ j, F j → B ≤ j) (hU1 : ¬ F (B + 1)) (hU : w.heap[B + 1]? = some (.cells (rowI ns) 3 (0, 0))) (hV : w.heap[H]? = some (.cells (rowB bs) 4 (0, 0))) (hb : Below H w0 w)
    (hv : ClIn (fun k => F k ∨ k < B) w v l) (hbW : Below w.heap.size w w2) (hgrow : w2.grownBy w3 (Value.slice so cs.length sc).ownBlock) (hat : (Value.slice so cs.length sc).ownBlock = some g ∨ g = w2.heap.size) (hlt : g < w3.heap.size)
    (hown : w3.ownsRow 0 80 1 (.slice (some ⟨g, 0, none⟩) (cs.length + 1) cap) (cs.length + 1) (vs ++ [v])) :
    FmU B n (cs ++ [l]) ns H bs w0 (w3.setCell ⟨B, 1, none⟩ (.slice (some ⟨g, 0, none⟩) (cs.length + 1) cap)) := by
  have hBw : B < w.heap.size := hF B hFB
  have hUw : B + 1 < w.heap.size := (Array.getElem?_eq_some_iff.1 hU).1
  have hsW := hbW.size
  have hrow : ∀ k, (Value.slice so cs.length sc).ownBlock = some k → B ≤ k := fun k hk => hlo k (h5 k hk).1
  obtain ⟨m1, _, _⟩ := FmAt.grown hFB hF h3 h5 h6 h7 hv hbW hgrow hat hlt hown
  refine ⟨_, m1, fun j hj => ?_, fun hj => ?_, ?_, ?_, ?_⟩
  · rcases hj with hj | hj
    · exact hlo j hj
    · have := hj.1; omega
  · rcases hj with hj | hj
    · exact hU1 hj
    · have := hj.1; omega
  · rw [Below.heap_setCell _ _ _ _ (show B + 1 ≠ B by omega)]
    exact rowG hgrow hbW hU (fun e => hU1 (h5 _ e).1)
  · rw [Below.heap_setCell _ _ _ _ (show H ≠ B by omega)]
    exact rowG hgrow hbW hV (fun e => by have := hrow _ e; omega)
  · exact (below_grown (hb.trans (hbW.mono (by omega))) (by omega) hgrow (fun k hk => by have := hrow k hk; omega)).setCell (show H ≤ B by omega) _
/-- The same, the clause just made. -/
theorem fin1n {B H : Nat} {n : Int} {cs : List (List Int)} {ns : List Int} {bs : List Bool} {F : Nat → Prop} {w0 w w3 : World} {t ti : TypeId} {so : Option Addr} {sc : Nat} {vs : List Value} {l : List Int} {g cap m : Nat} {o2 : Obj} (hH : H < B) (hFB : F B) (hF : ∀ k, F k → k < w.heap.size) (h3 : w.heap[B]? = some (.cells #[.int .i64 n, .slice so cs.length sc] t (0, 0)))
    (h5 : ∀ k, (Value.slice so cs.length sc).ownBlock = some k → F k ∧ k ≠ B) (h6 : vs.length = cs.length) (h7 : ∀ (k : Nat) l, cs[k]? = some l → ∃ v, vs[k]? = some v ∧ ClIn (fun k => F k ∨ k < B) w v l)
    (hlo : ∀ j, F j → B ≤ j) (hU1 : ¬ F (B + 1)) (hU : w.heap[B + 1]? = some (.cells (rowI ns) 3 (0, 0))) (hV : w.heap[H]? = some (.cells (rowB bs) 4 (0, 0))) (hb : Below H w0 w)
    (hm : m = l.length) (hgrow : ((w.alloc (.cells (rowI l) ti)).alloc o2).drew.grownBy w3 (Value.slice so cs.length sc).ownBlock) (hat : (Value.slice so cs.length sc).ownBlock = some g ∨ g = ((w.alloc (.cells (rowI l) ti)).alloc o2).drew.heap.size) (hlt : g < w3.heap.size)
    (hown : w3.ownsRow 0 80 1 (.slice (some ⟨g, 0, none⟩) (cs.length + 1) cap) (cs.length + 1) (vs ++ [.slice (some ⟨w.heap.size, 0, none⟩) m m])) :
    FmU B n (cs ++ [l]) ns H bs w0 (w3.setCell ⟨B, 1, none⟩ (.slice (some ⟨g, 0, none⟩) (cs.length + 1) cap)) := by
  have hBw : B < w.heap.size := hF B hFB
  have hb1 : Below w.heap.size w (w.alloc (.cells (rowI l) ti)) := (Below.refl _ _).alloc (Nat.le_refl _) _
  have hv : ClIn (fun k => F k ∨ k < B) (w.alloc (.cells (rowI l) ti)) (.slice (some ⟨w.heap.size, 0, none⟩) m m) l := ClIn.new (fun k hk => by
    rcases hk with hk | hk
    · exact hF k hk
    · omega) l ti m hm
  exact fin1 hH hFB (fun k hk => Nat.lt_of_lt_of_le (hF k hk) hb1.size) (row_keep hb1 h3) h5 h6 (fun k l hk => by
    obtain ⟨v, hv, hc⟩ := h7 k l hk
    exact ⟨v, hv, hc.move (Mvd.of_below hb1)⟩) hlo hU1 (row_keep hb1 hU) (row_keep hb1 hV) (hb.trans (hb1.mono (by omega))) hv (((Below.refl _ _).alloc (Nat.le_refl _) o2).drew) hgrow hat hlt hown
theorem below2 (w : World) (a b : Obj) : Below w.heap.size w (((w.alloc a).alloc b).drew) := (((Below.refl _ _).alloc (Nat.le_refl _) _).alloc (by simp) _).drew
end Go.Proofs.YtlclbidjdhlklaaDoor
