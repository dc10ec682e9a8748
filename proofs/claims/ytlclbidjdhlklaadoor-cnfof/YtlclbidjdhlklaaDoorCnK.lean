/-
  HOW GREAT THE NUMBERS OF CLAUSES ARE, AND HOW MANY.
-/
import Derived.Test.YtlclbidjdhlklaaDoorCnT
namespace Go.Proofs.YtlclbidjdhlklaaDoor

theorem sgnL_le {l : List Bool} {x : Int} {n : Nat} (h0 : 0 ≤ x) (h : x < 2 * (n : Int)) : -(cntT l n : Int) ≤ sgnL l x ∧ sgnL l x ≤ (cntT l n : Int) := by
  have h1 := numA_le (l := l) (k := (x / 2).toNat) (n := n) (by omega)
  have h2 := numA_range l (x / 2).toNat
  unfold sgnL
  split <;> omega
theorem gateC_range {gs : List (Int × Int)} (hg : Gs gs) {l : List Bool} {n : Nat} (hn : n < gs.length) : ∀ c ∈ gateC gs l n, ∀ x ∈ c, -(cntT l (gs.length + 1) : Int) ≤ x ∧ x ≤ (cntT l (gs.length + 1) : Int) := by
  intro c hc x hx
  unfold gateC at hc
  split at hc
  · rename_i h
    have hp : gs[n]? = some (gs.getD n (0, 0)) := by rw [List.getD_eq_getElem?_getD, List.getElem?_eq_getElem hn]; rfl
    have hlit := hg.lits hp h.2
    have ha := sgnL_le (l := l) (x := (gs.getD n (0, 0)).1) (n := gs.length + 1) (by omega) (by omega)
    have hb := sgnL_le (l := l) (x := (gs.getD n (0, 0)).2) (n := gs.length + 1) (by omega) (by omega)
    have hn1 := numA_le (l := l) (k := n + 1) (n := gs.length + 1) (by omega)
    have hn0 := numA_range l (n + 1)
    simp only [List.mem_cons, List.not_mem_nil, or_false] at hc
    rcases hc with rfl | rfl | rfl <;> simp only [List.mem_cons, List.not_mem_nil, or_false] at hx
    · rcases hx with rfl | rfl <;> omega
    · rcases hx with rfl | rfl <;> omega
    · rcases hx with rfl | rfl | rfl <;> omega
  · simp at hc
theorem rootC_range {l : List Bool} {x : Int} {n : Nat} (h0 : 0 ≤ x) (h : x < 2 * (n : Int)) : ∀ c ∈ rootC l x, ∀ y ∈ c, -(cntT l n : Int) ≤ y ∧ y ≤ (cntT l n : Int) := by
  intro c hc y hy
  unfold rootC at hc
  split at hc
  · simp at hc; subst hc; simp at hy
  · split at hc
    · simp at hc
    · simp at hc; subst hc
      simp at hy; subst hy
      exact sgnL_le h0 h
theorem allC_range {gs : List (Int × Int)} (hg : Gs gs) {l : List Bool} {rs : List Int} (hr : ∀ x ∈ rs, HasL gs x) : ∀ c ∈ allC gs l rs, ∀ x ∈ c, -(cntT l (gs.length + 1) : Int) ≤ x ∧ x ≤ (cntT l (gs.length + 1) : Int) := by
  intro c hc x hx
  unfold allC at hc
  rcases List.mem_append.1 hc with hc | hc
  · unfold gatesC at hc
    obtain ⟨n, hn, hc⟩ := List.mem_flatMap.1 hc
    exact gateC_range hg (List.mem_range.1 hn) c hc x hx
  · unfold rootsC at hc
    obtain ⟨y, hy, hc⟩ := List.mem_flatMap.1 hc
    have := hr y hy
    unfold HasL at this
    exact rootC_range this.1 (by omega) c hc x hx
theorem sizC_app (a b : List (List Int)) : sizC (a ++ b) = sizC a + sizC b := by simp [sizC]
theorem sizC_gate (gs : List (Int × Int)) (l : List Bool) (n : Nat) : sizC (gateC gs l n) ≤ 10 := by
  unfold gateC; split <;> simp [sizC]
theorem sizC_gates (gs : List (Int × Int)) (l : List Bool) (n : Nat) : sizC (gatesC gs l n) ≤ 10 * n := by
  induction n with
  | zero => simp [gatesC, sizC]
  | succ n ih => rw [gatesC_succ, sizC_app]; have := sizC_gate gs l n; omega
theorem sizC_root (l : List Bool) (x : Int) : sizC (rootC l x) ≤ 2 := by
  unfold rootC; split <;> (try split) <;> simp [sizC]
theorem sizC_roots (l : List Bool) : ∀ rs : List Int, sizC (rootsC l rs) ≤ 2 * rs.length
  | [] => by simp [rootsC, sizC]
  | x :: r => by
    have h1 := sizC_root l x
    have h2 := sizC_roots l r
    unfold rootsC at h2 ⊢
    rw [List.flatMap_cons, sizC_app, List.length_cons]
    omega
theorem sizC_all (gs : List (Int × Int)) (l : List Bool) (rs : List Int) : sizC (allC gs l rs) ≤ 10 * gs.length + 2 * rs.length := by
  unfold allC
  rw [sizC_app]
  have := sizC_gates gs l gs.length
  have := sizC_roots l rs
  omega
theorem all_take {c : List Int} {k : Nat} {x : Int} (h : c[k]? = some x) (f : Int → Bool) : (c.take (k + 1)).all f = ((c.take k).all f && f x) := by
  rw [List.take_add_one, h, List.all_append]; simp
end Go.Proofs.YtlclbidjdhlklaaDoor
