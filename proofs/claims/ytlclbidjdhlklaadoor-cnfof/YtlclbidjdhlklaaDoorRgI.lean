/-
  A REGION THAT DRAWS ITS ORDER, WHERE A CELL IS LOADED AND AT THE END WRITTEN: the load may be taken first, since what it reads stands until the store has come up, and the store waits for the load.
-/
import Derived.Test.YtlclbidjdhlklaaDoorProg
import Derived.Deep.RegionHeld3
namespace Go.Proofs.YtlclbidjdhlklaaDoor
open Go

section
variable {P : Program} {ops : Array Oper} {Q : Exit → Act → World → Prop} {md : Region.Mode} {S T : World → Prop} {c : Nat}

/-- S holds; T holds as long as number c has not come up. -/
def Till (S T : World → Prop) (c : Nat) (listed : Array Bool) (w : World) : Prop := S w ∧ (listed.getD c true = false → T w)
/-- Whatever order is picked from here on, and behind each operation that comes up 'Till' holds. -/
def wpTill (P : Program) (md : Region.Mode) (ops : Array Oper) (Q : Exit → Act → World → Prop) (S T : World → Prop) (c : Nat) : Nat → Array Bool → Act → World → Prop
  | 0, listed, a, w => Region.ready md ops listed = [] ∧ Q .normal a w
  | fuel + 1, listed, a, w =>
    (Region.ready md ops listed = [] → Q .normal a w) ∧
    ∀ i ∈ Region.ready md ops listed, wpOp P ops Q i (fun a' w' => Till S T c (listed.setIfInBounds i true) w' ∧ wpTill P md ops Q S T c fuel (listed.setIfInBounds i true) a' w') a w
theorem wpAny_of_till : ∀ (fuel : Nat) (listed : Array Bool) (a : Act) (w : World), wpTill P md ops Q S T c fuel listed a w → wpAny P md ops Q fuel listed a w
  | 0, _, _, _, h => h
  | fuel + 1, _, _, _, h => ⟨h.1, fun i hi => wpOp_mono (fun a' w' h' => wpAny_of_till fuel _ a' w' h'.2) (h.2 i hi)⟩
theorem unlisted {listed : Array Bool} {i c : Nat} (h : (listed.setIfInBounds i true).getD c true = false) : listed.getD c true = false := by
  by_cases e : i = c
  · subst e
    rcases Nat.lt_or_ge i listed.size with h' | h'
    · simp [h'] at h
    · simp at h
  · rwa [getD_set_ne true e] at h
theorem Till.back {listed : Array Bool} {i : Nat} {w : World} (h : Till S T c listed w) : Till S T c (listed.setIfInBounds i true) w := ⟨h.1, fun hc => h.2 (unlisted hc)⟩
theorem Till.last {listed : Array Bool} {w : World} (h : S w) : Till S T c (listed.setIfInBounds c true) w := ⟨h, fun hc => by
  rcases Nat.lt_or_ge c listed.size with h' | h'
  · simp [h'] at hc
  · simp at hc⟩
/-- An operation that yields its value wherever R holds may be taken first, if R holds as long as it has not come up. -/
theorem wpTill_first {R : World → Prop} {G : Array Bool → Prop} {i : Nat} {oi : Oper} {v : Value} (hi : ops[i]? = some oi) (hci : i ≠ c) (hsel : ∀ (j : Nat) (o : Oper) cs b, ops[j]? = some o → o.op ≠ .select cs b)
    (hQ : ∀ c a w, Q (.panic c) (a.put oi.dst v) w → Q (.panic c) a w) (hR : ∀ l w, G l → Till S T c l w → R w)
    (hG : ∀ l j, G l → i ∈ Region.ready md ops l → j ∈ Region.ready md ops l → j ≠ i → G (l.setIfInBounds j true)) :
    ∀ (fuel : Nat) (listed : Array Bool) (a : Act) (w : World),
      (∀ j oj, ops[j]? = some oj → j ≠ i → listed.getD j true = false → (∀ e ∈ oj.after, Region.binds md e = true → e.on ≠ i) → oi.apart ops oj = true) →
      i ∈ Region.ready md ops listed → G listed → YieldsIf P ops R oi v a → Till S T c listed w →
      wpTill P md ops Q S T c fuel (listed.setIfInBounds i true) (a.put oi.dst v) w → wpTill P md ops Q S T c (fuel + 1) listed a w := by
  intro fuel
  induction fuel with
  | zero =>
    intro listed a w _ hr hg hy hS H
    refine ⟨fun h => (by rw [h] at hr; cases hr), fun j hj => ?_⟩
    by_cases hji : j = i
    · subst hji; exact hy.wpOp hi (hR _ _ hg hS) ⟨hS.back, H⟩
    · have := ready_mono hj hji
      rw [H.1] at this
      cases this
  | succ fuel ih =>
    intro listed a w hfree hr hg hy hS H
    refine ⟨fun h => (by rw [h] at hr; cases hr), fun j hj => ?_⟩
    by_cases hji : j = i
    · subst hji; exact hy.wpOp hi (hR _ _ hg hS) ⟨hS.back, H⟩
    · obtain ⟨hjun, oj, hoj, hall⟩ := mem_ready.1 hj
      have hun := (mem_ready.1 hr).1
      have hnot : ∀ e ∈ oj.after, Region.binds md e = true → e.on ≠ i := fun e he hb heq => by
        have h1 := hall e he hb
        rw [heq] at h1
        rcases Nat.lt_or_ge i listed.size with h' | h'
        · simp [h'] at hun h1; rw [hun] at h1; cases h1
        · simp [Array.getElem?_eq_none h'] at h1
      have h2 := wpOp_putIf hoj (hfree j oj hoj hji hjun hnot) (fun cs b => hsel i oi cs b hi) (fun cs b => hsel j oj cs b hoj) hQ hy (H.2 j (ready_mono hj hji))
      have hcomm : (listed.setIfInBounds i true).setIfInBounds j true = (listed.setIfInBounds j true).setIfInBounds i true := Array.setIfInBounds_comm _ _ (Ne.symm hji)
      refine wpOp_mono (fun a' w' h3 => ?_) h2
      rw [hcomm] at h3
      have hT : Till S T c (listed.setIfInBounds j true) w' := ⟨h3.2.1.1, fun hc => h3.2.1.2 (by rw [getD_set_ne true hci]; exact hc)⟩
      refine ⟨hT, ih (listed.setIfInBounds j true) a' w' (fun k ok hk hki hunk hno => hfree k ok hk hki (unlisted hunk) hno) (ready_mono hr (Ne.symm hji)) (hG _ _ hg hr hj hji) h3.1 hT h3.2.2⟩
/-- What yields wherever S holds. -/
theorem wpTill_take {i : Nat} {oi : Oper} {v : Value} {fuel : Nat} {listed : Array Bool} {a : Act} {w : World} (hi : ops[i]? = some oi) (hci : (i == c) = false)
    (hs : Region.noSelect ops = true) (hf : Region.free md ops listed i = true) (hr : (Region.ready md ops listed).contains i = true)
    (hQ : ∀ c a w, Q (.panic c) (a.put oi.dst v) w → Q (.panic c) a w) (hy : YieldsIf P ops S oi v a) (hS : Till S T c listed w)
    (h : wpTill P md ops Q S T c fuel (listed.setIfInBounds i true) (a.put oi.dst v) w) : wpTill P md ops Q S T c (fuel + 1) listed a w :=
  wpTill_first (R := S) (G := fun _ => True) hi (by simpa using hci) (Region.noSelect_spec hs) hQ (fun _ _ _ h => h.1) (fun _ _ _ _ _ _ => trivial) fuel listed a w (Region.free_spec hi hf) (by simpa using hr) trivial hy hS h
/-- Number j waits for number i. -/
def waits (md : Region.Mode) (ops : Array Oper) (j i : Nat) : Bool := ((ops[j]?).map fun o => o.after.any fun e => Region.binds md e && e.on == i).getD false
theorem waits_not {i j : Nat} {listed : Array Bool} (h : waits md ops j i = true) (hi : listed.getD i true = false) : j ∉ Region.ready md ops listed := fun hj => by
  obtain ⟨_, o, ho, hall⟩ := mem_ready.1 hj
  simp only [waits, ho, Option.map_some, Option.getD_some] at h
  obtain ⟨e, he, hb⟩ := Array.any_eq_true'.1 h
  simp only [Bool.and_eq_true, beq_iff_eq] at hb
  have h1 := hall e he hb.1
  rw [hb.2] at h1
  rcases Nat.lt_or_ge i listed.size with h' | h'
  · simp [h'] at hi h1; rw [hi] at h1; cases h1
  · simp [Array.getElem?_eq_none h'] at h1
/-- What yields wherever T holds: number d waits for it, and c for d. -/
theorem wpTill_load {i : Nat} (d : Nat) {oi : Oper} {v : Value} {fuel : Nat} {listed : Array Bool} {a : Act} {w : World} (hi : ops[i]? = some oi) (hci : (i == c) = false)
    (hs : Region.noSelect ops = true) (hf : Region.free md ops listed i = true) (hr : (Region.ready md ops listed).contains i = true)
    (hd : waits md ops d i = true) (hc : waits md ops c d = true) (hdl : listed.getD d true = false) (hcl : listed.getD c true = false)
    (hQ : ∀ c a w, Q (.panic c) (a.put oi.dst v) w → Q (.panic c) a w) (hy : YieldsIf P ops T oi v a) (hS : Till S T c listed w)
    (h : wpTill P md ops Q S T c fuel (listed.setIfInBounds i true) (a.put oi.dst v) w) : wpTill P md ops Q S T c (fuel + 1) listed a w :=
  wpTill_first (R := T) (G := fun l => l.getD d true = false ∧ l.getD c true = false) hi (by simpa using hci) (Region.noSelect_spec hs) hQ (fun _ _ hg h => h.2 hg.2)
    (fun l j hg hri hrj _ => by
      have hui := (mem_ready.1 hri).1
      have n1 : j ≠ d := fun e => waits_not hd hui (by rw [← e]; exact hrj)
      have n2 : j ≠ c := fun e => waits_not hc hg.1 (by rw [← e]; exact hrj)
      exact ⟨by rw [getD_set_ne true n1]; exact hg.1, by rw [getD_set_ne true n2]; exact hg.2⟩)
    fuel listed a w (Region.free_spec hi hf) (by simpa using hr) ⟨hdl, hcl⟩ hy hS h
/-- Each of the operations 'rs' comes up next. -/
def AllTill (P : Program) (md : Region.Mode) (ops : Array Oper) (Q : Exit → Act → World → Prop) (S T : World → Prop) (c fuel : Nat) (listed : Array Bool) (a : Act) (w : World) (rs : List Nat) : Prop :=
  ∀ i ∈ rs, wpOp P ops Q i (fun a' w' => Till S T c (listed.setIfInBounds i true) w' ∧ wpTill P md ops Q S T c fuel (listed.setIfInBounds i true) a' w') a w
theorem AllTill.nil {fuel : Nat} {listed : Array Bool} {a : Act} {w : World} : AllTill P md ops Q S T c fuel listed a w [] := fun _ h => by cases h
theorem AllTill.cons {fuel : Nat} {listed : Array Bool} {a : Act} {w : World} {i : Nat} {o : Oper} {rs : List Nat} (ho : ops[i]? = some o)
    (h : ∀ K' : Act → World → Prop, Shut (∀ a w, Till S T c (listed.setIfInBounds i true) w → (Till S T c (listed.setIfInBounds i true) w → wpTill P md ops Q S T c fuel (listed.setIfInBounds i true) a w) → K' a w) → if Region.wanted o (yielded ops a.tmps) = true then Oper.wp P o a w K' Q else K' (a.put o.dst undef) w)
    (hs : AllTill P md ops Q S T c fuel listed a w rs) : AllTill P md ops Q S T c fuel listed a w (i :: rs) := fun j hj => by
  rcases List.mem_cons.1 hj with rfl | hj
  · exact wpOp_step ho (fun K' hK => h K' (fun a w hS hW => hK a w ⟨hS, hW hS⟩))
  · exact hs j hj
theorem wpTill_ready {rs : List Nat} {fuel : Nat} {listed : Array Bool} {a : Act} {w : World} (hr : Region.ready md ops listed = rs) (hne : rs ≠ [])
    (h : AllTill P md ops Q S T c fuel listed a w rs) : wpTill P md ops Q S T c (fuel + 1) listed a w := ⟨fun h0 => absurd (hr ▸ h0) hne, fun i hi => h i (hr ▸ hi)⟩
theorem wpTill_done {listed : Array Bool} {a : Act} {w : World} (hr : Region.ready md ops listed = []) (h : Q .normal a w) : ∀ fuel, wpTill P md ops Q S T c fuel listed a w
  | 0 => ⟨hr, h⟩
  | _ + 1 => ⟨fun _ => h, by rw [hr]; simp⟩
theorem wp_region_till {id : Nat} {a : Act} {w : World} (c : Nat) (S T : World → Prop) (hm : P.follows .mixedOrders = true) (hS : S w.drew) (hT : T w.drew)
    (h : Till S T c (Array.replicate ops.size false) w.drew → wpTill P .any ops Q S T c ops.size (Array.replicate ops.size false) a w.drew) : (Code.region id ops true).wp P Q a w :=
  wp_region_any hm (wpAny_of_till _ _ _ _ (h ⟨hS, fun _ => hT⟩))
end
end Go.Proofs.YtlclbidjdhlklaaDoor
