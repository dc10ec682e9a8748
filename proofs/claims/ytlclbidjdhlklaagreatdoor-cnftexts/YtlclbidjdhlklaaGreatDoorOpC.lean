/-
  A FORMULA THAT IS HANDED IN, OPENED: its clauses; so many of them, and so long, as the form's own reach allows.
-/
import Derived.Test.YtlclbidjdhlklaaGreatDoorCtD
import Derived.Test.YtlclbidjdhlklaaGreatDoorRows
import Derived.Deep.Strs
import Derived.SizedLaws
namespace Go.Proofs.YtlclbidjdhlklaaGreatDoor
open Go.RowKit Go.Deep Go.WideShapes Go.ChangeShapes

theorem i64_of {a : Int} (h : (Lit.int .i64 a).wf = true) : I64 a := by
  simp [Lit.wf, IntKind.min, IntKind.max, IntKind.signed, IntKind.bits] at h
  unfold I64
  omega
theorem cells_int : Tryz.prog.cellsOf 3 = 1 := by kernel_rfl
theorem cells_clause : Tryz.prog.cellsOf 43 = 1 := by kernel_rfl
theorem cells_clauses : Tryz.prog.cellsOf 22 = 1 := by kernel_rfl
theorem cells_formula : Tryz.prog.cellsOf 24 = 2 := by kernel_rfl
theorem bytes_int : Tryz.prog.bytesOf 3 = 8 := by kernel_rfl
theorem bytes_clause : Tryz.prog.bytesOf 43 = 24 := by kernel_rfl
theorem weightsAll_in {H : Type} {P : Program} {e : TypeId} {d : DataW H} {k : Nat} (hk : k ∈ d.weights P e) : ∀ {l : List (DataW H)}, d ∈ l → k ∈ DataW.weightsAll P e l
  | x :: l, h => by
    simp only [DataW.weightsAll, List.mem_append]
    rcases List.mem_cons.1 h with e | h
    · subst e; exact Or.inl hk
    · exact Or.inr (weightsAll_in hk h)
section
variable {H : Type} {enc : TypeId × Value → H} {W : World} {sp : Nat → Bool}
theorem plain_at {a : Addr} {i : Nat} {v v0 : Value} (h0 : W.cell? (a.add 0) = some v0) (h : W.cell? (a.add i) = some v) : ∃ b off, a = ⟨b, off, none⟩ ∧ W.cell? ⟨b, off + i, none⟩ = some v := by
  obtain ⟨b, off, spot⟩ := a
  cases spot with
  | some k => simp [Addr.add, World.cell?] at h0; split at h0 <;> simp at h0
  | none => rw [add_plain] at h; exact ⟨b, off, rfl, h⟩
theorem trod_struct2 {P : Program} {base : Nat} {held : Bool} {t : TypeId} {f0 f1 : Field} {fuel : Nat} {cs : List Value} {x : DataW H × List MemPlace} (ht : P.underlying t = some (.struct #[f0, f1])) (h : DataW.trod enc P W base sp held fuel t cs = some x) :
    ∃ y0 y1 n, x.1 = .agg [y0.1, y1.1] ∧ cs.length = P.cellsOf t ∧ DataW.trod enc P W base sp held n f0.type ((cs.drop f0.offset).take (P.cellsOf f0.type)) = some y0 ∧ DataW.trod enc P W base sp held n f1.type ((cs.drop f1.offset).take (P.cellsOf f1.type)) = some y1 := by
  obtain ⟨xs, n, _, rfl, hl, hlen, hf⟩ := DataW.trod_struct ht h
  match xs, hlen with
  | [y0, y1], _ => exact ⟨y0, y1, n, rfl, hl, by simpa using hf 0 f0 rfl, by simpa using hf 1 f1 rfl⟩
set_option maxRecDepth 100000 in
theorem open_clause {fuel : Nat} {v : Value} {x : DataW H × List MemPlace} (h : DataW.trod enc Tryz.prog W 0 sp true fuel 43 [v] = some x) :
    ∃ l : List Int, ((v = .slice none 0 0 ∧ l = []) ∨ ∃ a' c', v = .slice (some a') l.length c' ∧ ∀ j x, l[j]? = some x → ∃ b' off', a' = ⟨b', off', none⟩ ∧ W.cell? ⟨b', off' + j, none⟩ = some (.int .i64 x)) ∧ (∀ x ∈ l, I64 x) ∧ ((∀ k ∈ x.1.weights Tryz.prog 43, k ≤ reachBytes) → l.length * 8 ≤ 140737488351232) := by
  rcases open_slice1 Tryz.underlying43 cells_int h with ⟨e, rfl⟩ | ⟨a, len, cap, m, n, V, D, Pl, e, hb, hl, hm, hmm, rfl, hx⟩
  · simp only [List.cons.injEq, and_true] at e
    exact ⟨[], .inl ⟨e, rfl⟩, fun x hx => by simp at hx, fun _ => by simp⟩
  simp only [List.cons.injEq, and_true] at e
  subst e
  have hlm : len ≤ m := by rw [hmm]; split <;> omega
  have each : ∀ i, i < len → ∃ q : Int, I64 q ∧ W.cell? (a.add i) = some (.int .i64 q) := by
    intro i hi
    obtain ⟨h1, h2⟩ := hx i (by omega)
    obtain ⟨p0, e0, _, z0⟩ := DataW.trod_int Tryz.underlying3 h2
    simp only [List.cons.injEq, and_true] at e0
    rw [e0] at h1
    exact ⟨p0, i64_of z0, h1⟩
  obtain ⟨q, hq⟩ := choose_lt each
  have hql : ((List.range len).map q).length = len := by simp
  refine ⟨(List.range len).map q, .inr ⟨a, cap, by rw [hql], fun i x hi => ?_⟩, fun x hx => ?_, fun hw => ?_⟩
  · have hil : i < len := by
      have := (List.getElem?_eq_some_iff.1 hi).1
      omega
    have e : x = q i := by
      rw [List.getElem?_map, List.getElem?_range hil] at hi
      simpa using hi.symm
    subst e
    exact plain_at (hq 0 (by omega)).2 (hq i hil).2
  · obtain ⟨i, hi, rfl⟩ := List.mem_map.1 hx
    exact (hq i (List.mem_range.1 hi)).1
  · simp only [DataW.weights, Tryz.underlying43, bytes_int, List.mem_cons, List.mem_append] at hw
    have h1 := hw _ (Or.inl rfl)
    simp only [List.length_map, List.length_range, reachBytes] at h1
    rw [hql]
    omega
set_option maxRecDepth 100000 in
theorem open_clauses {fuel : Nat} {v : Value} {x : DataW H × List MemPlace} (h : DataW.trod enc Tryz.prog W 0 sp true fuel 22 [v] = some x) :
    ∃ cs : List (List Int), ArgC W v cs ∧ (∀ c ∈ cs, ∀ x ∈ c, I64 x) ∧ ((∀ k ∈ x.1.weights Tryz.prog 22, k ≤ reachBytes) → Fits cs) := by
  rcases open_slice1 Tryz.underlying22 cells_clause h with ⟨e, rfl⟩ | ⟨a, len, cap, m, n, V, D, Pl, e, hb, hl, hm, hmm, rfl, hx⟩
  · simp only [List.cons.injEq, and_true] at e
    exact ⟨[], ⟨by simp [maxLen], .inl ⟨e, rfl⟩⟩, fun x hx => by simp at hx, fun _ => ⟨by simp, fun c hc => by simp at hc⟩⟩
  simp only [List.cons.injEq, and_true] at e
  subst e
  have hlm : len ≤ m := by rw [hmm]; split <;> omega
  obtain ⟨q, hq⟩ := choose_lt (n := len) (p := fun i (l : List Int) => ((V i = .slice none 0 0 ∧ l = []) ∨ ∃ a' c', V i = .slice (some a') l.length c' ∧ ∀ j x, l[j]? = some x → ∃ b' off', a' = ⟨b', off', none⟩ ∧ W.cell? ⟨b', off' + j, none⟩ = some (.int .i64 x)) ∧ (∀ x ∈ l, I64 x) ∧ ((∀ k ∈ (D i).weights Tryz.prog 43, k ≤ reachBytes) → l.length * 8 ≤ 140737488351232)) (fun i hi => open_clause (hx i (by omega)).2)
  have hql : ((List.range len).map q).length = len := by simp
  refine ⟨(List.range len).map q, ⟨by rw [hql]; omega, .inr ⟨a, cap, by rw [hql], fun i x hi => ?_⟩⟩, fun c hc => ?_, fun hw => ?_⟩
  · have hil : i < len := by
      have := (List.getElem?_eq_some_iff.1 hi).1
      omega
    have e : x = q i := by
      rw [List.getElem?_map, List.getElem?_range hil] at hi
      simpa using hi.symm
    subst e
    obtain ⟨b, off, e1, h1⟩ := plain_at (hx 0 (by omega)).1 (hx i (by omega)).1
    exact ⟨b, off, V i, e1, h1, (hq i hil).1⟩
  · obtain ⟨i, hi, rfl⟩ := List.mem_map.1 hc
    exact (hq i (List.mem_range.1 hi)).2.1
  · simp only [DataW.weights, Tryz.underlying22, bytes_clause, List.mem_cons, List.mem_append] at hw
    refine ⟨?_, fun c hc => ?_⟩
    · have h1 := hw _ (Or.inl rfl)
      simp only [List.length_map, List.length_range, reachBytes] at h1
      rw [hql]
      omega
    · obtain ⟨i, hi, rfl⟩ := List.mem_map.1 hc
      exact (hq i (List.mem_range.1 hi)).2.2 (fun k hk => hw k (Or.inr (Or.inl (weightsAll_in hk (List.mem_map.2 ⟨i, hi, rfl⟩)))))
set_option maxRecDepth 100000 in
theorem open_formula {fuel : Nat} {cs : List Value} {x : DataW H × List MemPlace} (h : DataW.trod enc Tryz.prog W 0 sp true fuel 24 cs = some x) (hw : ∀ k ∈ x.1.weights Tryz.prog 24, k ≤ reachBytes) :
    ∃ (n : Int) (v : Value) (l : List (List Int)), cs = [.int .i64 n, v] ∧ I64 n ∧ ArgC W v l ∧ (∀ c ∈ l, ∀ x ∈ c, I64 x) ∧ Fits l := by
  obtain ⟨y0, y1, n, hd, hl, h0, h1⟩ := trod_struct2 Tryz.underlying24 h
  rw [cells_formula] at hl
  match cs, hl with
  | [u0, u1], _ =>
    simp only [cells_int, cells_clauses, List.drop, List.take] at h0 h1
    obtain ⟨p0, e0, _, z0⟩ := DataW.trod_int Tryz.underlying3 h0
    simp only [List.cons.injEq, and_true] at e0
    subst e0
    obtain ⟨l, k1, k2, k3⟩ := open_clauses h1
    refine ⟨p0, u1, l, rfl, i64_of z0, k1, k2, k3 fun k hk => hw k ?_⟩
    rw [hd]
    simp only [DataW.weights, Tryz.underlying24]
    exact DataW.weights_mem_each (j := 1) rfl rfl k hk
end
end Go.Proofs.YtlclbidjdhlklaaGreatDoor
