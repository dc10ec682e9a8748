/-
  A PROGRAM THAT IS HANDED IN, OPENED: nodes, variables, equations, terms; so many of each as the form's own reach allows.
-/
import Derived.Test.YtglkpgcmlbhkpabGreatDoorQ27
import Derived.Test.YtglkpgcmlbhkpabGreatDoorRows
import Derived.Deep.Strs
import Derived.SizedLaws
namespace Go.Proofs.YtglkpgcmlbhkpabGreatDoor
open Go.RowKit Go.Deep Go.WideShapes Go.ChangeShapes

abbrev AnyB : Nat → Prop := fun _ => True
theorem weightsAll_in {H : Type} {P : Program} {e : TypeId} {d : DataW H} {k : Nat} (hk : k ∈ d.weights P e) : ∀ {l : List (DataW H)}, d ∈ l → k ∈ DataW.weightsAll P e l
  | x :: l, h => by
    simp only [DataW.weightsAll, List.mem_append]
    rcases List.mem_cons.1 h with e | h
    · subst e; exact Or.inl hk
    · exact Or.inr (weightsAll_in hk h)
theorem flat_len {g : Nat → List Value} {sz : Nat} : ∀ {n : Nat}, (∀ i, i < n → (g i).length = sz) → ((List.range n).flatMap g).length = n * sz
  | 0, _ => by simp
  | n + 1, hg => by
    rw [List.range_succ, List.flatMap_append, List.length_append, flat_len (fun i hi => hg i (by omega))]
    simp only [List.flatMap_cons, List.flatMap_nil, List.append_nil, hg n (by omega), Nat.add_mul, Nat.one_mul]
theorem flat_at {g : Nat → List Value} {sz : Nat} : ∀ {n : Nat}, (∀ i, i < n → (g i).length = sz) → ∀ {k : Nat} {x : Value}, ((List.range n).flatMap g)[k]? = some x → ∃ i j, i < n ∧ k = i * sz + j ∧ (g i)[j]? = some x
  | 0, _, k, x, h => by simp at h
  | n + 1, hg, k, x, h => by
    have hl := flat_len (n := n) (fun i hi => hg i (by omega))
    rw [List.range_succ, List.flatMap_append, List.getElem?_append] at h
    split at h
    · obtain ⟨i, j, h1, h2, h3⟩ := flat_at (fun i hi => hg i (by omega)) h
      exact ⟨i, j, by omega, h2, h3⟩
    · rw [hl] at h
      refine ⟨n, k - n * sz, by omega, by omega, ?_⟩
      simpa using h
theorem row_each {W : World} {a : Addr} {n cap sz : Nat} {g : Nat → List Value} (hsz : 0 < sz) (hn : n ≤ maxLen) (hg : ∀ i, i < n → (g i).length = sz) (hc : ∀ i, i < n → ∀ j x, (g i)[j]? = some x → W.cell? (a.add (i * sz + j)) = some x) : RowAt W AnyB sz (.slice (some a) n cap) n ((List.range n).flatMap g) := by
  refine ⟨flat_len hg, hn, some a, cap, rfl, fun k x hx => ?_⟩
  obtain ⟨i, j, hi, rfl, hx'⟩ := flat_at hg hx
  have h := hc i hi j x hx'
  obtain ⟨b, off, spot⟩ := a
  cases spot with
  | some k =>
    have h0 := hc 0 (by omega) 0 _ (List.getElem?_eq_getElem (by rw [hg 0 (by omega)]; exact hsz))
    simp [Addr.add, World.cell?] at h0
    split at h0 <;> simp at h0
  | none =>
    rw [add_plain] at h
    exact ⟨b, off, rfl, trivial, h⟩
section
variable {H : Type} {enc : TypeId × Value → H} {W : World} {sp : Nat → Bool}
/-- A slice, element by element. -/
theorem open_list {t e : TypeId} {sz by' : Nat} {P : Ex → List Value → Prop} {R : Ex → Prop} {N : Nat} (ht : Tryz.prog.underlying t = some (.slice e)) (hc : Tryz.prog.cellsOf e = sz) (hsz0 : 0 < sz) (hb : Tryz.prog.bytesOf e = by')
    (elem : ∀ (fuel : Nat) (cs : List Value) (x : DataW H × List MemPlace), SizeOf.sizeOf x.1 < N → DataW.trod enc Tryz.prog W 0 sp true fuel e cs = some x → ∃ ex, P ex cs ∧ ((∀ k ∈ x.1.weights Tryz.prog e, k ≤ reachBytes) → R ex))
    {fuel : Nat} {cs : List Value} {x : DataW H × List MemPlace} (h : DataW.trod enc Tryz.prog W 0 sp true fuel t cs = some x) (hN : SizeOf.sizeOf x.1 ≤ N) :
    ∃ (o : Option Addr) (n c : Nat) (f : Nat → Ex) (g : Nat → List Value), cs = [.slice o n c] ∧ RowAt W AnyB sz (.slice o n c) n ((List.range n).flatMap g) ∧ (∀ i, i < n → P (f i) (g i)) ∧ ((∀ k ∈ x.1.weights Tryz.prog t, k ≤ reachBytes) → n * by' ≤ reachBytes ∧ ∀ i, i < n → R (f i)) := by
  rcases open_slice ht h with ⟨rfl, rfl⟩ | ⟨a, len, cap, m, n, D, Pl, rfl, _, hl, hm, hmm, rfl, hx⟩
  · exact ⟨none, 0, 0, fun _ => .mk ⟨#[]⟩ 0 ⟨#[]⟩ [], fun _ => [], rfl, ⟨by simp, by unfold maxLen; omega, none, 0, rfl, fun k x hx => by simp at hx⟩, fun i hi => absurd hi (Nat.not_lt_zero _), fun _ => ⟨by simp, fun i hi => absurd hi (Nat.not_lt_zero _)⟩⟩
  have hlm : len ≤ m := by rw [hmm]; split <;> omega
  have each : ∀ i, i < len → ∃ q : Ex × List Value, q.2.length = sz ∧ (∀ j x, q.2[j]? = some x → W.cell? (a.add (i * sz + j)) = some x) ∧ P q.1 q.2 ∧ ((∀ k ∈ (D i).weights Tryz.prog e, k ≤ reachBytes) → R q.1) := by
    intro i hi
    obtain ⟨cs', h1, h2⟩ := hx i (by omega)
    rw [hc] at h1
    obtain ⟨_, hlen, hcell⟩ := World.cells?_some h1
    have hmem : D i ∈ (List.range len).map D := List.mem_map.2 ⟨i, List.mem_range.2 hi, rfl⟩
    have hsz : SizeOf.sizeOf (D i) < N := by
      have := List.sizeOf_lt_of_mem hmem
      simp only [DataW.slice.sizeOf_spec] at hN
      omega
    obtain ⟨ex, hP, hR⟩ := elem n cs' (D i, Pl i) hsz h2
    refine ⟨(ex, cs'), hlen, fun j x hx => ?_, hP, hR⟩
    have hj : j < sz := by rw [← hlen]; exact (List.getElem?_eq_some_iff.1 hx).1
    have := hcell j hj
    rw [add_add, hx] at this
    exact this
  have : Inhabited (Ex × List Value) := ⟨(.mk ⟨#[]⟩ 0 ⟨#[]⟩ [], [])⟩
  obtain ⟨q, hq⟩ := choose_lt each
  refine ⟨some a, len, cap, fun i => (q i).1, fun i => (q i).2, rfl, row_each hsz0 (by omega) (fun i hi => (hq i hi).1) (fun i hi => (hq i hi).2.1), fun i hi => (hq i hi).2.2.1, fun hw => ?_⟩
  simp only [DataW.weights, ht, hb, List.mem_cons, List.mem_append] at hw
  refine ⟨?_, fun i hi => (hq i hi).2.2.2 (fun k hk => hw k (Or.inr (Or.inl (weightsAll_in hk (List.mem_map.2 ⟨i, List.mem_range.2 hi, rfl⟩)))))⟩
  have h1 := hw _ (Or.inl rfl)
  simp only [List.length_map, List.length_range] at h1
  exact Nat.le_trans (Nat.mul_le_mul_right _ (Nat.le_add_right _ _)) h1
end
theorem ExIn.range {W : World} {f : Nat → Ex} {g : Nat → List Value} : ∀ {n : Nat}, (∀ i, i < n → ExIn W AnyB [f i] (g i)) → ExIn W AnyB ((List.range n).map f) ((List.range n).flatMap g)
  | 0, _ => .nil
  | n + 1, h => by
    rw [List.range_succ, List.map_append, List.flatMap_append]
    exact (ExIn.range (fun i hi => h i (by omega))).append (by simpa using h n (by omega))
theorem EqIn.range {W : World} {f : Nat → Ex} {g : Nat → List Value} : ∀ {n : Nat}, (∀ i, i < n → EqIn W AnyB [f i] (g i)) → EqIn W AnyB ((List.range n).map f) ((List.range n).flatMap g)
  | 0, _ => .nil
  | n + 1, h => by
    rw [List.range_succ, List.map_append, List.flatMap_append]
    exact (EqIn.range (fun i hi => h i (by omega))).append (by simpa using h n (by omega))
theorem NdIn.range {W : World} {f : Nat → Ex} {g : Nat → List Value} : ∀ {n : Nat}, (∀ i, i < n → NdIn W AnyB [f i] (g i)) → NdIn W AnyB ((List.range n).map f) ((List.range n).flatMap g)
  | 0, _ => .nil
  | n + 1, h => by
    rw [List.range_succ, List.map_append, List.flatMap_append]
    exact (NdIn.range (fun i hi => h i (by omega))).append (by simpa using h n (by omega))
theorem Fit.range {N : Nat} {f : Nat → Ex} : ∀ {n : Nat}, (∀ i, i < n → Fit N [f i]) → Fit N ((List.range n).map f)
  | 0, _ => .nil
  | n + 1, h => by
    rw [List.range_succ, List.map_append]
    exact (Fit.range (fun i hi => h i (by omega))).append (by simpa using h n (by omega))
theorem varCells_range {f : Nat → Ex} {g : Nat → List Value} : ∀ {n : Nat}, (∀ i, i < n → g i = [.string (f i).op, .int .i64 (f i).n]) → (List.range n).flatMap g = varCells ((List.range n).map f)
  | 0, _ => rfl
  | n + 1, h => by
    have ih := varCells_range (n := n) (fun i hi => h i (by omega))
    unfold varCells at ih ⊢
    rw [List.range_succ, List.map_append, List.flatMap_append, List.flatMap_append, ih]
    simp [h n (by omega)]
theorem nameCells_range {f : Nat → Ex} {g : Nat → List Value} : ∀ {n : Nat}, (∀ i, i < n → g i = [.string (f i).op]) → (List.range n).flatMap g = nameCells ((List.range n).map f)
  | 0, _ => rfl
  | n + 1, h => by
    have ih := nameCells_range (n := n) (fun i hi => h i (by omega))
    unfold nameCells at ih ⊢
    rw [List.range_succ, List.map_append, List.flatMap_append, List.map_append, ih]
    simp [h n (by omega)]
theorem list4 {α : Type} {l : List α} (h : l.length = 4) : ∃ x y z u, l = [x, y, z, u] := by
  match l, h with
  | [x, y, z, u], _ => exact ⟨x, y, z, u, rfl⟩
theorem list2 {α : Type} {l : List α} (h : l.length = 2) : ∃ x y, l = [x, y] := by
  match l, h with
  | [x, y], _ => exact ⟨x, y, rfl⟩
theorem list5 {α : Type} {l : List α} (h : l.length = 5) : ∃ x y z u v, l = [x, y, z, u, v] := by
  match l, h with
  | [x, y, z, u, v], _ => exact ⟨x, y, z, u, v, rfl⟩
theorem list6 {α : Type} {l : List α} (h : l.length = 6) : ∃ x y z u v w, l = [x, y, z, u, v, w] := by
  match l, h with
  | [x, y, z, u, v, w], _ => exact ⟨x, y, z, u, v, w, rfl⟩
theorem cE : Tryz.prog.cellsOf 38 = 4 := by kernel_rfl
theorem cV : Tryz.prog.cellsOf 41 = 2 := by kernel_rfl
theorem cQ : Tryz.prog.cellsOf 45 = 6 := by kernel_rfl
theorem cN : Tryz.prog.cellsOf 48 = 5 := by kernel_rfl
theorem cS : Tryz.prog.cellsOf 9 = 1 := by kernel_rfl
theorem cI : Tryz.prog.cellsOf 3 = 1 := by kernel_rfl
theorem cLE : Tryz.prog.cellsOf 36 = 1 := by kernel_rfl
theorem cLV : Tryz.prog.cellsOf 42 = 1 := by kernel_rfl
theorem cLQ : Tryz.prog.cellsOf 46 = 1 := by kernel_rfl
theorem cLS : Tryz.prog.cellsOf 43 = 1 := by kernel_rfl
theorem yE : Tryz.prog.bytesOf 38 = 64 := by kernel_rfl
theorem yV : Tryz.prog.bytesOf 41 = 24 := by kernel_rfl
theorem yQ : Tryz.prog.bytesOf 45 = 104 := by kernel_rfl
theorem yN : Tryz.prog.bytesOf 48 = 112 := by kernel_rfl
theorem yS : Tryz.prog.bytesOf 9 = 16 := by kernel_rfl
theorem reach47 : reachBytes ≤ 140737488355328 := by decide
section
variable {H : Type} {enc : TypeId × Value → H} {W : World} {sp : Nat → Bool}
theorem trodS2 {P : Program} {t : TypeId} {f0 f1 : Field} {fuel : Nat} {cs : List Value} {x : DataW H × List MemPlace} (ht : P.underlying t = some (.struct #[f0, f1])) (h : DataW.trod enc P W 0 sp true fuel t cs = some x) :
    ∃ y0 y1 n, x.1 = .agg [y0.1, y1.1] ∧ cs.length = P.cellsOf t ∧ DataW.trod enc P W 0 sp true n f0.type ((cs.drop f0.offset).take (P.cellsOf f0.type)) = some y0 ∧ DataW.trod enc P W 0 sp true n f1.type ((cs.drop f1.offset).take (P.cellsOf f1.type)) = some y1 := by
  obtain ⟨xs, n, _, rfl, hl, hlen, hf⟩ := DataW.trod_struct ht h
  match xs, hlen with
  | [y0, y1], _ => exact ⟨y0, y1, n, by simp, hl, by simpa using hf 0 f0 rfl, by simpa using hf 1 f1 rfl⟩
theorem trodS3 {P : Program} {t : TypeId} {f0 f1 f2 : Field} {fuel : Nat} {cs : List Value} {x : DataW H × List MemPlace} (ht : P.underlying t = some (.struct #[f0, f1, f2])) (h : DataW.trod enc P W 0 sp true fuel t cs = some x) :
    ∃ y0 y1 y2 n, x.1 = .agg [y0.1, y1.1, y2.1] ∧ cs.length = P.cellsOf t ∧ DataW.trod enc P W 0 sp true n f0.type ((cs.drop f0.offset).take (P.cellsOf f0.type)) = some y0 ∧ DataW.trod enc P W 0 sp true n f1.type ((cs.drop f1.offset).take (P.cellsOf f1.type)) = some y1 ∧ DataW.trod enc P W 0 sp true n f2.type ((cs.drop f2.offset).take (P.cellsOf f2.type)) = some y2 := by
  obtain ⟨xs, n, _, rfl, hl, hlen, hf⟩ := DataW.trod_struct ht h
  match xs, hlen with
  | [y0, y1, y2], _ => exact ⟨y0, y1, y2, n, by simp, hl, by simpa using hf 0 f0 rfl, by simpa using hf 1 f1 rfl, by simpa using hf 2 f2 rfl⟩
theorem trodS4 {P : Program} {t : TypeId} {f0 f1 f2 f3 : Field} {fuel : Nat} {cs : List Value} {x : DataW H × List MemPlace} (ht : P.underlying t = some (.struct #[f0, f1, f2, f3])) (h : DataW.trod enc P W 0 sp true fuel t cs = some x) :
    ∃ y0 y1 y2 y3 n, x.1 = .agg [y0.1, y1.1, y2.1, y3.1] ∧ cs.length = P.cellsOf t ∧ DataW.trod enc P W 0 sp true n f0.type ((cs.drop f0.offset).take (P.cellsOf f0.type)) = some y0 ∧ DataW.trod enc P W 0 sp true n f1.type ((cs.drop f1.offset).take (P.cellsOf f1.type)) = some y1 ∧ DataW.trod enc P W 0 sp true n f2.type ((cs.drop f2.offset).take (P.cellsOf f2.type)) = some y2 ∧ DataW.trod enc P W 0 sp true n f3.type ((cs.drop f3.offset).take (P.cellsOf f3.type)) = some y3 := by
  obtain ⟨xs, n, _, rfl, hl, hlen, hf⟩ := DataW.trod_struct ht h
  match xs, hlen with
  | [y0, y1, y2, y3], _ => exact ⟨y0, y1, y2, y3, n, by simp, hl, by simpa using hf 0 f0 rfl, by simpa using hf 1 f1 rfl, by simpa using hf 2 f2 rfl, by simpa using hf 3 f3 rfl⟩
theorem trodS5 {P : Program} {t : TypeId} {f0 f1 f2 f3 f4 : Field} {fuel : Nat} {cs : List Value} {x : DataW H × List MemPlace} (ht : P.underlying t = some (.struct #[f0, f1, f2, f3, f4])) (h : DataW.trod enc P W 0 sp true fuel t cs = some x) :
    ∃ y0 y1 y2 y3 y4 n, x.1 = .agg [y0.1, y1.1, y2.1, y3.1, y4.1] ∧ cs.length = P.cellsOf t ∧ DataW.trod enc P W 0 sp true n f0.type ((cs.drop f0.offset).take (P.cellsOf f0.type)) = some y0 ∧ DataW.trod enc P W 0 sp true n f1.type ((cs.drop f1.offset).take (P.cellsOf f1.type)) = some y1 ∧ DataW.trod enc P W 0 sp true n f2.type ((cs.drop f2.offset).take (P.cellsOf f2.type)) = some y2 ∧ DataW.trod enc P W 0 sp true n f3.type ((cs.drop f3.offset).take (P.cellsOf f3.type)) = some y3 ∧ DataW.trod enc P W 0 sp true n f4.type ((cs.drop f4.offset).take (P.cellsOf f4.type)) = some y4 := by
  obtain ⟨xs, n, _, rfl, hl, hlen, hf⟩ := DataW.trod_struct ht h
  match xs, hlen with
  | [y0, y1, y2, y3, y4], _ => exact ⟨y0, y1, y2, y3, y4, n, by simp, hl, by simpa using hf 0 f0 rfl, by simpa using hf 1 f1 rfl, by simpa using hf 2 f2 rfl, by simpa using hf 3 f3 rfl, by simpa using hf 4 f4 rfl⟩
set_option maxRecDepth 100000 in
theorem open_term : ∀ (N fuel : Nat) (cs : List Value) (x : DataW H × List MemPlace), SizeOf.sizeOf x.1 < N → DataW.trod enc Tryz.prog W 0 sp true fuel 38 cs = some x → ∃ ex, ExIn W AnyB [ex] cs ∧ ((∀ k ∈ x.1.weights Tryz.prog 38, k ≤ reachBytes) → Fit 2199023255552 [ex])
  | 0, _, _, _, h, _ => absurd h (Nat.not_lt_zero _)
  | N + 1, fuel, cs, x, hN, h => by
    obtain ⟨y0, y1, y2, y3, n, hx, hl, u0, u1, u2, u3⟩ := trodS4 Tryz.underlying38 h
    rw [cE] at hl
    obtain ⟨v0, v1, v2, v3, rfl⟩ := list4 hl
    simp only [cS, cI, cLE, List.drop, List.take] at u0 u1 u2 u3
    rw [hx] at hN
    rw [hx]
    obtain ⟨s0, e0, _, _⟩ := DataW.trod_string Tryz.underlying9 u0
    obtain ⟨n1, e1, _, _⟩ := DataW.trod_int Tryz.underlying3 u1
    obtain ⟨s2, e2, _, _⟩ := DataW.trod_string Tryz.underlying9 u2
    have h3 : SizeOf.sizeOf y3.1 ≤ N := by
      simp only [DataW.agg.sizeOf_spec, List.cons.sizeOf_spec] at hN
      omega
    obtain ⟨o, m, c, f, g, e3, hrow, hP, hR⟩ := open_list (N := N) Tryz.underlying36 cE (by omega) yE (fun fuel cs x hx h => open_term N fuel cs x hx h) u3 h3
    simp only [List.cons.injEq, and_true] at e0 e1 e2 e3
    subst e0 e1 e2 e3
    have hm : ((List.range m).map f).length = m := by simp
    refine ⟨.mk s0 n1 s2 ((List.range m).map f), .cons s0 n1 s2 _ [] _ _ [] (by rw [hm]; exact hrow) (ExIn.range hP) .nil, fun hw => ?_⟩
    have hw3 : (∀ k ∈ y3.1.weights Tryz.prog 36, k ≤ reachBytes) := fun k hk => hw k (by
      simp only [DataW.weights, Tryz.underlying38]
      exact DataW.weights_mem_each (j := 3) rfl rfl k hk)
    obtain ⟨r1, r2⟩ := hR hw3
    have := reach47
    exact .one (by rw [hm]; omega) (Fit.range r2)
set_option maxRecDepth 100000 in
theorem open_var (N fuel : Nat) (cs : List Value) (x : DataW H × List MemPlace) (_ : SizeOf.sizeOf x.1 < N) (h : DataW.trod enc Tryz.prog W 0 sp true fuel 41 cs = some x) : ∃ ex : Ex, cs = [.string ex.op, .int .i64 ex.n] ∧ ((∀ k ∈ x.1.weights Tryz.prog 41, k ≤ reachBytes) → True) := by
  obtain ⟨y0, y1, n, _, hl, u0, u1⟩ := trodS2 Tryz.underlying41 h
  rw [cV] at hl
  obtain ⟨v0, v1, rfl⟩ := list2 hl
  simp only [cS, cI, List.drop, List.take] at u0 u1
  obtain ⟨s0, e0, _, _⟩ := DataW.trod_string Tryz.underlying9 u0
  obtain ⟨n1, e1, _, _⟩ := DataW.trod_int Tryz.underlying3 u1
  simp only [List.cons.injEq, and_true] at e0 e1
  subst e0 e1
  exact ⟨.mk s0 n1 ⟨#[]⟩ [], rfl, fun _ => trivial⟩
set_option maxRecDepth 100000 in
theorem open_name (N fuel : Nat) (cs : List Value) (x : DataW H × List MemPlace) (_ : SizeOf.sizeOf x.1 < N) (h : DataW.trod enc Tryz.prog W 0 sp true fuel 9 cs = some x) : ∃ ex : Ex, cs = [.string ex.op] ∧ ((∀ k ∈ x.1.weights Tryz.prog 9, k ≤ reachBytes) → True) := by
  obtain ⟨s0, e0, _, _⟩ := DataW.trod_string Tryz.underlying9 h
  exact ⟨.mk s0 0 ⟨#[]⟩ [], e0, fun _ => trivial⟩
/-- Variables. -/
theorem open_vars {fuel : Nat} {cs : List Value} {x : DataW H × List MemPlace} (h : DataW.trod enc Tryz.prog W 0 sp true fuel 42 cs = some x) : ∃ (o : Option Addr) (c : Nat) (vs : List Ex), cs = [.slice o vs.length c] ∧ RowAt W AnyB 2 (.slice o vs.length c) vs.length (varCells vs) ∧ ((∀ k ∈ x.1.weights Tryz.prog 42, k ≤ reachBytes) → vs.length ≤ 5864062014805) := by
  obtain ⟨o, n, c, f, g, e, hrow, hP, hR⟩ := open_list (N := SizeOf.sizeOf x.1) (R := fun _ => True) Tryz.underlying42 cV (by omega) yV (fun fuel cs x hx h => open_var _ fuel cs x hx h) h (Nat.le_refl _)
  have hm : ((List.range n).map f).length = n := by simp
  refine ⟨o, c, (List.range n).map f, by rw [hm]; exact e, ?_, fun hw => ?_⟩
  · rw [hm, ← varCells_range hP]; exact hrow
  · have := (hR hw).1
    have := reach47
    rw [hm]; omega
theorem open_names {fuel : Nat} {cs : List Value} {x : DataW H × List MemPlace} (h : DataW.trod enc Tryz.prog W 0 sp true fuel 43 cs = some x) : ∃ (o : Option Addr) (c : Nat) (vs : List Ex), cs = [.slice o vs.length c] ∧ RowAt W AnyB 1 (.slice o vs.length c) vs.length (nameCells vs) ∧ ((∀ k ∈ x.1.weights Tryz.prog 43, k ≤ reachBytes) → vs.length ≤ 8796093022208) := by
  obtain ⟨o, n, c, f, g, e, hrow, hP, hR⟩ := open_list (N := SizeOf.sizeOf x.1) (R := fun _ => True) Tryz.underlying43 cS (by omega) yS (fun fuel cs x hx h => open_name _ fuel cs x hx h) h (Nat.le_refl _)
  have hm : ((List.range n).map f).length = n := by simp
  refine ⟨o, c, (List.range n).map f, by rw [hm]; exact e, ?_, fun hw => ?_⟩
  · rw [hm, ← nameCells_range hP]; exact hrow
  · have := (hR hw).1
    have := reach47
    rw [hm]; omega
/-- What an equation's lists are, at most. -/
def FitQ1 (ex : Ex) : Prop := ∀ (kind : ByteArray) (ns : List Ex) (op : ByteArray) (x : Int) (tx : ByteArray) (es : List Ex), ex = .mk kind 0 b0 [lst ns, .mk op x tx es] → ns.length ≤ 8796093022208 ∧ es.length ≤ 2199023255552 ∧ Fit 2199023255552 es
def FitN1 (ex : Ex) : Prop := ∀ (name : ByteArray) (ins outs owns qs : List Ex), ex = .mk name 0 b0 [lst ins, lst outs, lst owns, lst qs] → ins.length ≤ 5864062014805 ∧ outs.length ≤ 5864062014805 ∧ owns.length ≤ 5864062014805 ∧ qs.length ≤ 1353245080339 ∧ FitQ qs
set_option maxRecDepth 100000 in
theorem open_eqn (N fuel : Nat) (cs : List Value) (x : DataW H × List MemPlace) (_ : SizeOf.sizeOf x.1 < N) (h : DataW.trod enc Tryz.prog W 0 sp true fuel 45 cs = some x) : ∃ ex : Ex, EqIn W AnyB [ex] cs ∧ ((∀ k ∈ x.1.weights Tryz.prog 45, k ≤ reachBytes) → FitQ1 ex) := by
  obtain ⟨y0, y1, y2, n, hx, hl, u0, u1, u2⟩ := trodS3 Tryz.underlying45 h
  rw [cQ] at hl
  obtain ⟨v0, v1, v2, v3, v4, v5, rfl⟩ := list6 hl
  simp only [cS, cLS, cE, List.drop, List.take] at u0 u1 u2
  rw [hx]
  obtain ⟨s0, e0, _, _⟩ := DataW.trod_string Tryz.underlying9 u0
  obtain ⟨no, nc, ns, e1, hr1, hw1⟩ := open_names u1
  obtain ⟨ex, hE, hFE⟩ := open_term _ _ _ _ (Nat.lt_succ_self _) u2
  simp only [List.cons.injEq, and_true] at e0 e1
  subst e0 e1
  refine ⟨.mk s0 0 b0 [lst ns, ex], .cons s0 ns ex [] _ _ [] hr1 hE .nil, fun hw => ?_⟩
  have w1 := hw1 (fun k hk => hw k (by
    simp only [DataW.weights, Tryz.underlying45]
    exact DataW.weights_mem_each (j := 1) rfl rfl k hk))
  have w2 := hFE (fun k hk => hw k (by
    simp only [DataW.weights, Tryz.underlying45]
    exact DataW.weights_mem_each (j := 2) rfl rfl k hk))
  intro kind ns' op x tx es e
  simp only [Ex.mk.injEq, lst, List.cons.injEq, and_true, true_and] at e
  obtain ⟨_, rfl, rfl⟩ := e
  exact ⟨w1, w2.at (i := 0) (by simp) rfl⟩
set_option maxRecDepth 100000 in
theorem open_node (N fuel : Nat) (cs : List Value) (x : DataW H × List MemPlace) (_ : SizeOf.sizeOf x.1 < N) (h : DataW.trod enc Tryz.prog W 0 sp true fuel 48 cs = some x) : ∃ ex : Ex, NdIn W AnyB [ex] cs ∧ ((∀ k ∈ x.1.weights Tryz.prog 48, k ≤ reachBytes) → FitN1 ex) := by
  obtain ⟨y0, y1, y2, y3, y4, n, hx, hl, u0, u1, u2, u3, u4⟩ := trodS5 Tryz.underlying48 h
  rw [cN] at hl
  obtain ⟨v0, v1, v2, v3, v4, rfl⟩ := list5 hl
  simp only [cS, cLV, cLQ, List.drop, List.take] at u0 u1 u2 u3 u4
  rw [hx]
  obtain ⟨s0, e0, _, _⟩ := DataW.trod_string Tryz.underlying9 u0
  obtain ⟨o1, c1, ins, e1, hr1, hw1⟩ := open_vars u1
  obtain ⟨o2, c2, outs, e2, hr2, hw2⟩ := open_vars u2
  obtain ⟨o3, c3, owns, e3, hr3, hw3⟩ := open_vars u3
  obtain ⟨o4, n4, c4, f, g, e4, hr4, hP, hR⟩ := open_list (N := SizeOf.sizeOf y4.1) (P := fun ex cs => EqIn W AnyB [ex] cs) (R := FitQ1) Tryz.underlying46 cQ (by omega) yQ (fun fuel cs x hx h => open_eqn _ fuel cs x hx h) u4 (Nat.le_refl _)
  simp only [List.cons.injEq, and_true] at e0 e1 e2 e3 e4
  subst e0 e1 e2 e3 e4
  have hm : ((List.range n4).map f).length = n4 := by simp
  refine ⟨.mk s0 0 b0 [lst ins, lst outs, lst owns, lst ((List.range n4).map f)], .cons s0 ins outs owns _ [] _ _ _ _ _ [] hr1 hr2 hr3 (by rw [hm]; exact hr4) (EqIn.range hP) .nil, fun hw => ?_⟩
  have wj : ∀ (j : Nat) (t : TypeId) (d : DataW H), ([9, 42, 42, 42, 46] : List TypeId)[j]? = some t → [y0.1, y1.1, y2.1, y3.1, y4.1][j]? = some d → (∀ k ∈ d.weights Tryz.prog t, k ≤ reachBytes) := fun j t d ht hd k hk => hw k (by
    simp only [DataW.weights, Tryz.underlying48]
    exact DataW.weights_mem_each (j := j) ht hd k hk)
  have a1 := hw1 (wj 1 _ _ rfl rfl)
  have a2 := hw2 (wj 2 _ _ rfl rfl)
  have a3 := hw3 (wj 3 _ _ rfl rfl)
  obtain ⟨a4, a5⟩ := hR (wj 4 _ _ rfl rfl)
  have h47 := reach47
  intro name ins' outs' owns' qs' e
  simp only [Ex.mk.injEq, lst, List.cons.injEq, and_true, true_and] at e
  obtain ⟨_, rfl, rfl, rfl, rfl⟩ := e
  refine ⟨a1, a2, a3, by rw [hm]; omega, ?_⟩
  intro k hk kind ns op x tx es e
  rw [List.getElem_map, List.getElem_range] at e
  exact a5 k (by rw [hm] at hk; exact hk) kind ns op x tx es e
/-- A program. -/
theorem open_nodes {fuel : Nat} {cs : List Value} {x : DataW H × List MemPlace} (h : DataW.trod enc Tryz.prog W 0 sp true fuel 22 cs = some x) : ∃ (o : Option Addr) (c : Nat) (es : List Ex) (ys : List Value), cs = [.slice o es.length c] ∧ RowAt W AnyB 5 (.slice o es.length c) es.length ys ∧ NdIn W AnyB es ys ∧ ((∀ k ∈ x.1.weights Tryz.prog 22, k ≤ reachBytes) → es.length ≤ 1256584717458 ∧ FitN es) := by
  obtain ⟨o, n, c, f, g, e, hrow, hP, hR⟩ := open_list (N := SizeOf.sizeOf x.1) (P := fun ex cs => NdIn W AnyB [ex] cs) (R := FitN1) Tryz.underlying22 cN (by omega) yN (fun fuel cs x hx h => open_node _ fuel cs x hx h) h (Nat.le_refl _)
  have hm : ((List.range n).map f).length = n := by simp
  refine ⟨o, c, (List.range n).map f, _, by rw [hm]; exact e, by rw [hm]; exact hrow, NdIn.range hP, fun hw => ?_⟩
  obtain ⟨a4, a5⟩ := hR hw
  have h47 := reach47
  refine ⟨by rw [hm]; omega, ?_⟩
  intro i hi name ins outs owns qs e
  rw [List.getElem_map, List.getElem_range] at e
  exact a5 i (by rw [hm] at hi; exact hi) name ins outs owns qs e
end
end Go.Proofs.YtglkpgcmlbhkpabGreatDoor
