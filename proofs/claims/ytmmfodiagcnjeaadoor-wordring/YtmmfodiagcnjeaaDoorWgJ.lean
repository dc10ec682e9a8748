/-
  package word: Of BY CONTRACT.
-/
import Derived.Test.YtmmfodiagcnjeaaDoorWgI
namespace Go.Proofs.YtmmfodiagcnjeaaDoor
open Go.RowKit Go.Maps

/-- A cell that is written as it was. -/
theorem setCell_same {w : World} {b : Nat} {v : Value} {t : TypeId} (h : w.heap[b]? = some (.cells #[v] t (0, 0))) : w.setCell ⟨b, 0, none⟩ v = w := by
  have hlt := (Array.getElem?_eq_some_iff.1 h).1
  have hv := (Array.getElem?_eq_some_iff.1 h).2
  have e : (w.setCell ⟨b, 0, none⟩ v).heap = w.heap := by
    apply Array.ext_getElem?
    intro k
    by_cases hk : k = b
    · subst hk
      rw [heap_setCell_at h, h]; rfl
    · exact Below.heap_setCell w ⟨b, 0, none⟩ v k hk
  have : w.setCell ⟨b, 0, none⟩ v = { w with heap := (w.setCell ⟨b, 0, none⟩ v).heap } := rfl
  rw [this, e]
theorem Mvd.drewR {F F' : Nat → Prop} {w w' : World} (h : Mvd F F' w w') : Mvd F F' w w'.drew := ⟨h.os, h.tape, h.output, h.size, h.block, h.more⟩
theorem GrAt.drewR {G : Nat} {gs : List (Int × Int)} {ins : Nat} {F : Nat → Prop} {w : World} (h : GrAt G gs ins F w) : GrAt G gs ins F w.drew := h.below ((Below.refl _ _).drew)
theorem OfP.drewR {G : Nat} {gs : List (Int × Int)} {ins K len : Nat} {f : List Bool → Nat → Bool} {tf : List Bool → Bool} {F : Nat → Prop} {w w' : World} {uv tv : Value} (h : OfP G gs ins K len f tf F w w' uv tv) : OfP G gs ins K len f tf F w w'.drew uv tv := by
  obtain ⟨V, out, tr, gs', F', h1, h2, h3, h4, h5, h6, h7, h8, h9⟩ := h
  exact ⟨V, out, tr, gs', F', h1, h2, h3, h4, h5, h6, h7.drewR, h8.drewR, h9⟩
set_option maxRecDepth 100000 in
set_option maxHeartbeats 2000000 in
theorem of_any {G : Nat} {gs : List (Int × Int)} {ins : Nat} {F : Nat → Prop} {w : World} (h : GrAt G gs ins F w) (hl : gs.length < 89000) (s : ByteArray) (hs : s.size ≤ maxLen) (o : Option Addr) (n c : Nat) (ls : List (List Int)) (hv : WordsAt F w (.slice o n c) ls) (hn : n = ls.length) (hH : ∀ l ∈ ls, ∀ x ∈ l, HasL gs x) (et st : TypeId) (eq sq : Value) (he : w.cell? ⟨1, 0, none⟩ = some (.iface et eq)) (hsh : w.cell? ⟨2, 0, none⟩ = some (.iface st sq)) (K len : Nat) (f : List Bool → Nat → Bool) (tf : List Bool → Bool)
    (hval : askB s.data.toList ls = true → ∀ F1 w1, GrAt G gs ins F1 w1 → WordsAt F1 w1 (.slice o n c) ls → Calls Tryd.prog 25 #[.agg #[.pointer (some ⟨G, 0, none⟩)], .string s, .slice o n c] w1 (ValP G gs ins K len f tf F1 w1)) :
    Calls Tryd.prog 9 #[.pointer (some ⟨G, 0, none⟩), .string s, .slice o n c] w fun e w' =>
      (askB s.data.toList ls = true ∧ ∃ uv tv, e = .returned (.tuple #[uv, tv, .nilIface]) ∧ OfP G gs ins K len f tf F w w' uv tv) ∨
      (askB s.data.toList ls = false ∧ e = .returned (.tuple #[.slice none 0 0, .int .i64 0, .iface st sq]) ∧ GrAt G gs ins F w' ∧ Mvd F F w w') := by
  have hmf : ∀ (fn : Fn) (first cap : Array Value) (w : World), (Instr.makeFunc fn first cap).run Tryd.prog w = .ok (.func fn first cap) w := fun _ _ _ _ => rfl
  obtain ⟨w5, hw5⟩ : ∃ w5, w5 = ((((w.alloc (.cells #[.string s] 9)).alloc (.cells #[.slice o n c] 29)).alloc (.cells #[.slice none 0 0] 31)).alloc (.cells #[.int .i64 0] 34)).alloc (.cells #[.pointer (some ⟨G, 0, none⟩)] 63) := ⟨_, rfl⟩
  have hb5 : Below w.heap.size w w5 := by
    rw [hw5]
    exact (((((Below.refl _ _).alloc (Nat.le_refl _) _).alloc (by simp <;> omega) _).alloc (by simp <;> omega) _).alloc (by simp <;> omega) _).alloc (by simp <;> omega) _
  have r0 : w5.heap[w.heap.size]? = some (.cells #[.string s] 9 (0, 0)) := by
    rw [hw5]; exact alloc_row _ (alloc_row _ (alloc_row _ (alloc_row _ (heap_alloc_new _ _))))
  have r1 : w5.heap[w.heap.size + 1]? = some (.cells #[.slice o n c] 29 (0, 0)) := by
    have h := heap_alloc_new (w.alloc (.cells #[.string s] 9)) (.cells #[.slice o n c] 29)
    have e : (w.alloc (.cells #[.string s] 9)).heap.size = w.heap.size + 1 := by simp
    rw [e] at h
    rw [hw5]; exact alloc_row _ (alloc_row _ (alloc_row _ h))
  have r2 : w5.heap[w.heap.size + 1 + 1]? = some (.cells #[.slice none 0 0] 31 (0, 0)) := by
    have h := heap_alloc_new ((w.alloc (.cells #[.string s] 9)).alloc (.cells #[.slice o n c] 29)) (.cells #[.slice none 0 0] 31)
    have e : ((w.alloc (.cells #[.string s] 9)).alloc (.cells #[.slice o n c] 29)).heap.size = w.heap.size + 1 + 1 := by simp
    rw [e] at h
    rw [hw5]; exact alloc_row _ (alloc_row _ h)
  have r3 : w5.heap[w.heap.size + 1 + 1 + 1]? = some (.cells #[.int .i64 0] 34 (0, 0)) := by
    have h := heap_alloc_new (((w.alloc (.cells #[.string s] 9)).alloc (.cells #[.slice o n c] 29)).alloc (.cells #[.slice none 0 0] 31)) (.cells #[.int .i64 0] 34)
    have e : (((w.alloc (.cells #[.string s] 9)).alloc (.cells #[.slice o n c] 29)).alloc (.cells #[.slice none 0 0] 31)).heap.size = w.heap.size + 1 + 1 + 1 := by simp
    rw [e] at h
    rw [hw5]; exact alloc_row _ h
  have r4 : w5.heap[w.heap.size + 1 + 1 + 1 + 1]? = some (.cells #[.pointer (some ⟨G, 0, none⟩)] 63 (0, 0)) := by
    have h := heap_alloc_new ((((w.alloc (.cells #[.string s] 9)).alloc (.cells #[.slice o n c] 29)).alloc (.cells #[.slice none 0 0] 31)).alloc (.cells #[.int .i64 0] 34)) (.cells #[.pointer (some ⟨G, 0, none⟩)] 63)
    have e : ((((w.alloc (.cells #[.string s] 9)).alloc (.cells #[.slice o n c] 29)).alloc (.cells #[.slice none 0 0] 31)).alloc (.cells #[.int .i64 0] 34)).heap.size = w.heap.size + 1 + 1 + 1 + 1 := by simp
    rw [e] at h
    rw [hw5]; exact h
  have hF := h.2.2.1
  have hnF : ∀ k, w.heap.size ≤ k → ¬ F k := fun k hk hf => by have := hF _ hf; omega
  have HC := wcaught_any (w0 := w) (h.below hb5) (Mvd.of_below hb5) hl s hs o n c ls (hv.move (Mvd.of_below hb5)) hn hH et st eq sq (cell_keep hb5 he) (cell_keep hb5 hsh) (w.heap.size + 1 + 1 + 1 + 1) w.heap.size (w.heap.size + 1) (w.heap.size + 1 + 1) (w.heap.size + 1 + 1 + 1) ⟨r4, r0, r1, r2, r3⟩ ⟨hnF _ (by omega), hnF _ (by omega), hnF _ (by omega), hnF _ (by omega), hnF _ (by omega)⟩ (by omega) ⟨by omega, by omega⟩ K len f tf hval
  have HW5 : Hid (((((w.alloc (.cells #[.string s] 9)).alloc (.cells #[.slice o n c] 29)).alloc (.cells #[.slice none 0 0] 31)).alloc (.cells #[.int .i64 0] 34)).alloc (.cells #[.pointer (some ⟨G, 0, none⟩)] 63) = w5) := hw5.symm
  clear h hl hs hv hn hH he hsh hval r0 r1 r2 r3 r4 hF hnF hb5 hw5
  go_enter Tryd.func9, Tryd.ntmps9
  go_wp2_with fail
  rw [HW5.out]
  refine HC.mono ?_
  clear HC HW5
  rintro e w6 (⟨hk, rfl, uv, tv, hu, ht, hP⟩ | ⟨hk, rfl, hu, ht, hg, hm⟩)
  · have u0 : w6.cell? ⟨w.heap.size + 1 + 1, 0, none⟩ = some uv := by rw [cell_of_row _ _ 0 _ _ (0, 0) hu]; rfl
    have uf : w6.frozen? ⟨w.heap.size + 1 + 1, 0, none⟩ = false := frozen_row hu
    have t0 : w6.cell? ⟨w.heap.size + 1 + 1 + 1, 0, none⟩ = some tv := by rw [cell_of_row _ _ 0 _ _ (0, 0) ht]; rfl
    have tf0 : w6.frozen? ⟨w.heap.size + 1 + 1 + 1, 0, none⟩ = false := frozen_row ht
    have s1 := setCell_same hu
    have s2 := setCell_same ht
    have HK : Hid (askB s.data.toList ls = true) := hk
    have HP : Hid (OfP G gs ins K len f tf F w w6 uv tv) := hP
    obtain ⟨V, out, tr, gs', F', rfl, rfl, -⟩ := hP
    clear hk hu ht
    go_wp2
    go_region
    all_goals go_wp2
    all_goals refine bodyPost_ret (v := .tuple #[.slice (some ⟨V, 0, none⟩) len len, .int .i64 tr, .nilIface]) ?_ rfl ?_
    · simp [results, Tryd.results9, go_sem, u0, t0]
    · exact Or.inl ⟨HK.out, _, _, rfl, HP.out.drewR⟩
  · have u0 : w6.cell? ⟨w.heap.size + 1 + 1, 0, none⟩ = some (.slice none 0 0) := by rw [cell_of_row _ _ 0 _ _ (0, 0) hu]; rfl
    have uf : w6.frozen? ⟨w.heap.size + 1 + 1, 0, none⟩ = false := frozen_row hu
    have t0 : w6.cell? ⟨w.heap.size + 1 + 1 + 1, 0, none⟩ = some (.int .i64 0) := by rw [cell_of_row _ _ 0 _ _ (0, 0) ht]; rfl
    have tf0 : w6.frozen? ⟨w.heap.size + 1 + 1 + 1, 0, none⟩ = false := frozen_row ht
    have s1 := setCell_same hu
    have s2 := setCell_same ht
    have HK : Hid (askB s.data.toList ls = false) := hk
    have HP : Hid (GrAt G gs ins F w6 ∧ Mvd F F w w6) := ⟨hg, hm⟩
    clear hk hu ht hg hm
    go_wp2
    go_region
    all_goals go_wp2
    all_goals refine bodyPost_ret (v := .tuple #[.slice none 0 0, .int .i64 0, .iface st sq]) ?_ rfl ?_
    · simp [results, Tryd.results9, go_sem, u0, t0]
    · exact Or.inr ⟨HK.out, rfl, HP.out.1.drewR, HP.out.2.drewR⟩
end Go.Proofs.YtmmfodiagcnjeaaDoor
