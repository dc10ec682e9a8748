/-
  package cnf: Of BY CONTRACT.
-/
import Derived.Test.YtlclbidjdhlklaaGreatDoorCnG
namespace Go.Proofs.YtlclbidjdhlklaaGreatDoor
open Go.RowKit Go.Maps

/-- Clauses one behind the other. -/
def ClsAt (w : World) (v : Value) (cs : List (List Int)) : Prop := cs.length ≤ maxLen ∧ ∃ o c, v = .slice o cs.length c ∧ ∀ (k : Nat) l, cs[k]? = some l → ∃ b off v', o = some ⟨b, off, none⟩ ∧ w.cell? ⟨b, off + k, none⟩ = some v' ∧ ClIn (fun _ => False) w v' l
theorem ClIn.all {F : Nat → Prop} {w : World} {v : Value} {l : List Int} (h : ClIn F w v l) : ClIn (fun _ => False) w v l := by
  obtain ⟨o, c, rfl, h⟩ := h
  refine ⟨o, c, rfl, fun k x hk => ?_⟩
  obtain ⟨b, off, e, _, hc⟩ := h k x hk
  exact ⟨b, off, e, fun h => h, hc⟩
theorem ClIn.below {w w' : World} {v : Value} {l : List Int} (h : ClIn (fun _ => False) w v l) (hb : Below w.heap.size w w') : ClIn (fun _ => False) w' v l := h.move (Mvd.of_below hb)
theorem ClsAt.below {w w' : World} {v : Value} {cs : List (List Int)} (h : ClsAt w v cs) (hb : Below w.heap.size w w') : ClsAt w' v cs := by
  obtain ⟨hl, o, c, rfl, h⟩ := h
  refine ⟨hl, o, c, rfl, fun k l hk => ?_⟩
  obtain ⟨b, off, v', e, hc, hv⟩ := h k l hk
  exact ⟨b, off, v', e, cell_keep hb hc, hv.below hb⟩
theorem FmAt.row {B : Nat} {n : Int} {cs : List (List Int)} {F : Nat → Prop} {w : World} (h : FmAt B n cs F w) : ∃ t sv, w.heap[B]? = some (.cells #[.int .i64 n, sv] t (0, 0)) := by
  obtain ⟨h1, h2, t, sv, vs, h3, h4, h5, h6, h7⟩ := h
  exact ⟨t, sv, h3⟩
/-- The clauses are where they are, whatever is done ahead of the formula's block. -/
theorem FmAt.cells {B : Nat} {n : Int} {cs : List (List Int)} {F : Nat → Prop} {w : World} (h : FmAt B n cs F w) (hFB : ∀ k, F k → B ≤ k) : ∃ t sv, w.heap[B]? = some (.cells #[.int .i64 n, sv] t (0, 0)) ∧ sv.oneCell' = true ∧ ∀ w', (∀ k, B ≤ k → w'.heap[k]? = w.heap[k]?) → ClsAt w' sv cs := by
  obtain ⟨h1, h2, t, sv, vs, h3, h4, h5, h6, h7⟩ := h
  obtain ⟨o, c, rfl, hnm⟩ := owns_form h4
  refine ⟨t, _, h3, rfl, fun w' hw => ⟨hnm, o, c, rfl, fun k l hk => ?_⟩⟩
  have hlt : k < cs.length := (List.getElem?_eq_some_iff.1 hk).1
  obtain ⟨g, cap, e, _, _⟩ := h4.form (by omega)
  obtain ⟨rfl, rfl⟩ : o = some ⟨g, 0, none⟩ ∧ c = cap := by simpa using e
  obtain ⟨v, hv, o', c', rfl, hc⟩ := h7 k l hk
  refine ⟨g, 0, _, rfl, ?_, o', c', rfl, fun k x hk => ?_⟩
  · have hadd : ∀ j, (⟨g, 0, none⟩ : Addr).add j = ⟨g, 0 + j, none⟩ := fun j => by unfold Addr.add; split <;> simp_all
    have hc2 := h4.cells (g := g) rfl k _ hv
    rw [hadd] at hc2
    have hg : w'.heap[g]? = w.heap[g]? := hw g (hFB g (h5 g rfl).1)
    simp only [World.cell?, hg] at hc2 ⊢
    exact hc2
  · obtain ⟨b, off, e, hn, hc2⟩ := hc k x hk
    have hg : w'.heap[b]? = w.heap[b]? := hw b (by
      rcases Nat.lt_or_ge b B with h | h
      · exact absurd (.inr h) hn
      · exact h)
    refine ⟨b, off, e, fun h => h, ?_⟩
    simp only [World.cell?, hg] at hc2 ⊢
    exact hc2
/-- A new formula. -/
theorem FmAt.new (w : World) (t : TypeId) : FmAt w.heap.size 0 [] (fun k => k = w.heap.size) (w.alloc (.cells #[.int .i64 0, .slice none 0 0] t)) := by
  refine ⟨rfl, fun k hk => by rw [hk, World.size_alloc]; omega, t, _, [], heap_alloc_new _ _, World.ownsRow_nil _ _ _ _, fun k hk => by simp [Value.ownBlock] at hk, rfl, fun k l hk => by simp at hk⟩
theorem FmAt.vars {B : Nat} {n : Int} {cs : List (List Int)} {F : Nat → Prop} {w : World} (h : FmAt B n cs F w) (m : Int) : FmAt B m cs F (w.setCell ⟨B, 0, none⟩ (.int .i64 m)) ∧ Mvd F F w (w.setCell ⟨B, 0, none⟩ (.int .i64 m)) := by
  obtain ⟨h1, h2, t, sv, vs, h3, h4, h5, h6, h7⟩ := h
  have hbl : ∀ k, k ≠ B → (w.setCell ⟨B, 0, none⟩ (.int .i64 m)).heap[k]? = w.heap[k]? := fun k hk => Below.heap_setCell _ _ _ _ hk
  have hM : Mvd F F w (w.setCell ⟨B, 0, none⟩ (.int .i64 m)) := ⟨rfl, rfl, rfl, by rw [size_setCell]; exact Nat.le_refl _, fun k _ hn => hbl k (fun e => hn (by rw [e]; exact h1)), fun k hk => .inl hk⟩
  refine ⟨⟨h1, fun k hk => by rw [size_setCell]; exact h2 k hk, t, sv, vs, heap_setCell_at h3 _, owns_keep h4 (fun k hk => hbl k (h5 k hk).2), h5, h6, fun k l hk => ?_⟩, hM⟩
  obtain ⟨v, hv, hc⟩ := h7 k l hk
  exact ⟨v, hv, hc.move (hM.or B)⟩
theorem cell_blkN {w : World} {p : Addr} {v : Value} (hc : w.cell? p = some v) : p.block < w.heap.size := by
  rcases Nat.lt_or_ge p.block w.heap.size with h | h
  · exact h
  · simp [World.cell?, Array.getElem?_eq_none h] at hc
theorem any_has {gs : List (Int × Int)} {rs : List Int} : (rs.any fun x => !hasB gs x) = false ↔ ∀ x ∈ rs, HasL gs x := by
  rw [List.any_eq_false]
  constructor
  · intro h x hx
    have := h x hx
    rw [← hasB_iff]
    simpa using this
  · intro h x hx
    rw [hasB_t (h x hx)]; simp
/-- What Of answers. -/
def OfP (L : Nat) (gs : List (Int × Int)) (rs : List Int) (ts : TypeId) (qs : Value) (e : Ending) (w' : World) : Prop :=
  ((∀ x ∈ rs, HasL gs x) ∧ ∃ sv U, L ≤ U ∧ e = .returned (.tuple #[.agg #[.int .i64 (cntT (needL gs rs) (gs.length + 1) : Int), sv], .slice (some ⟨U, 0, none⟩) (gs.length + 1) (gs.length + 1), .nilIface]) ∧ (∀ w'', (∀ k, L ≤ k → w''.heap[k]? = w'.heap[k]?) → ClsAt w'' sv (allC gs (needL gs rs) rs)) ∧ w'.heap[U]? = some (.cells (rowI (numL (needL gs rs) (gs.length + 1))) 3 (0, 0)))
  ∨ ((¬ ∀ x ∈ rs, HasL gs x) ∧ e = .returned (.tuple #[.agg #[.int .i64 0, .slice none 0 0], .slice none 0 0, .iface ts qs]))
end Go.Proofs.YtlclbidjdhlklaaGreatDoor
