/-
  cnf.Text OF ANY FORMULA, lustrumlaw3.faulted BY CONTRACT; how long a text is.
-/
import Derived.Test.YtlclbidjdhlklaaGreatDoorCtT
import Derived.Test.YtlclbidjdhlklaaGreatDoorCtD
import Derived.Test.YtlclbidjdhlklaaGreatDoorCnRa
namespace Go.Proofs.YtlclbidjdhlklaaGreatDoor
open Go.RowKit Go.Maps

theorem dec_le : ∀ (k u : Nat), 0 < k → u < 10 ^ k → (Lib.decDigits u).length ≤ k
  | 0, _, h, _ => absurd h (by omega)
  | k + 1, u, _, hu => by
    rw [Lib.decDigits]
    split
    · simp
    · rename_i h10
      have hk : 0 < k := by
        rcases Nat.eq_zero_or_pos k with h | h
        · subst h; simp at hu; omega
        · exact h
      have := dec_le k (u / 10) hk (by rw [Nat.pow_succ] at hu; omega)
      rw [List.length_append, List.length_singleton]; omega
theorem itoa_seven {n : Int} (h : -1000000 < n ∧ n < 1000000) : (Lib.itoa n).length ≤ 7 := by
  unfold Lib.itoa
  split
  · have := dec_le 6 n.natAbs (by omega) (by omega)
    rw [List.length_cons]; omega
  · have := dec_le 6 n.toNat (by omega) (by omega)
    omega
theorem clause_len {c : List Int} (h : ∀ x ∈ c, -1000000 < x ∧ x < 1000000) : (clauseB c).length ≤ 8 * (c.length + 1) := by
  unfold clauseB
  rw [List.length_append]
  have h0 : (numB 0 10).length ≤ 8 := by unfold numB; rw [List.length_append, itoa_zero]; simp
  have h1 : (c.flatMap fun x => numB x 32).length ≤ 8 * c.length := by
    clear h0
    induction c with
    | nil => simp
    | cons x r ih =>
      have hx := itoa_seven (h x (List.mem_cons_self ..))
      have ih := ih (fun y hy => h y (List.mem_cons_of_mem _ hy))
      rw [List.flatMap_cons, List.length_append, List.length_cons]
      unfold numB at ih ⊢
      rw [List.length_append, List.length_singleton]
      omega
  omega
theorem text_len {n : Int} {cs : List (List Int)} (hn : -1000000 < n ∧ n < 1000000) (hl : cs.length < 1000000) (h : ∀ c ∈ cs, ∀ x ∈ c, -1000000 < x ∧ x < 1000000) : (textC n cs).length ≤ 30 + 8 * sizC cs := by
  have h1 : (cs.flatMap clauseB).length ≤ 8 * sizC cs := by
    clear hl hn
    induction cs with
    | nil => simp
    | cons c r ih =>
      have hc := clause_len (h c (List.mem_cons_self ..))
      have ih := ih (fun y hy => h y (List.mem_cons_of_mem _ hy))
      rw [List.flatMap_cons, List.length_append]
      simp only [sizC, List.map_cons, List.sum_cons] at ih ⊢
      omega
  have h2 := itoa_seven hn
  have h3 := itoa_seven (n := (cs.length : Int)) (by omega)
  unfold textC headB numB
  simp only [List.length_append, List.length_cons, List.length_nil]
  omega
/-! ### faulted -/
set_option maxHeartbeats 1000000 in
theorem faulted3_nil (w : World) (n : Int) :
    Calls Tryz.prog 9 #[.nilIface, .agg #[.int .i64 0, .int .i64 n]] w fun e w' => e = .returned (.bool true) ∧ Below w.heap.size w w' := by
  have hb0 : Below w.heap.size w (w.alloc (.cells #[.int .i64 0, .int .i64 n] 34)) := (Below.refl _ _).alloc (Nat.le_refl _) _
  go_enter Tryz.func9, Tryz.ntmps9
  go_wp2_with fail
  refine (code_nil _).mono ?_
  rintro e w1 ⟨rfl, hw⟩
  have hw2 := hw.symm
  subst hw2
  go_wp2
  all_goals go_ret
  all_goals exact ⟨rfl, hb0⟩
set_option maxHeartbeats 1000000 in
theorem faulted3_str (a : Nat → Addr) (w : World) (S : Sents a w) :
    Calls Tryz.prog 9 #[.iface 161 (.pointer (some (a 1))), .agg #[.int .i64 2, .int .i64 (-1)]] w fun e w' => e = .returned (.bool true) ∧ Below w.heap.size w w' := by
  have hb0 : Below w.heap.size w (w.alloc (.cells #[.int .i64 2, .int .i64 (-1)] 34)) := (Below.refl _ _).alloc (Nat.le_refl _) _
  obtain ⟨cb, tb, hrow⟩ := S.row 1 (by omega)
  have HC : Hid (Calls Tryz.prog 19 #[.iface 161 (.pointer (some (a 1)))] (w.alloc (.cells #[.int .i64 2, .int .i64 (-1)] 34)) fun e w' => e = .returned (.tuple #[.int .i64 (codeOf 1), .int .i64 (-1)]) ∧ Below (w.alloc (.cells #[.int .i64 2, .int .i64 (-1)] 34)).heap.size (w.alloc (.cells #[.int .i64 2, .int .i64 (-1)] 34)) w') := code_str a (a 1) 1 cb tb _ (S.below hb0) (row_keep hb0 hrow) (by omega) (fun j hj => S.inj 1 j (by omega) (by omega) (by omega)) (fun _ => rfl)
  clear hrow S
  go_enter Tryz.func9, Tryz.ntmps9
  go_wp2_with fail
  refine HC.out.mono ?_
  rintro e w1 ⟨rfl, hb⟩
  have c0 := cell_keep hb (p := ⟨w.heap.size, 0, none⟩) (v := .int .i64 2) (by simp)
  have c1 := cell_keep hb (p := ⟨w.heap.size, 0 + 1, none⟩) (v := .int .i64 (-1)) (by simp)
  rw [show codeOf 1 = 2 from rfl]
  clear HC
  go_wp2
  all_goals go_ret
  all_goals exact ⟨rfl, hb0.trans (hb.mono (by simp))⟩
set_option maxHeartbeats 1000000 in
theorem faulted3_fault (a : Nat → Addr) (w : World) (S : Sents a w) (p : Nat) (n : Int) (hp : w.heap[p]? = some (.cells #[.int .i64 n, .iface 161 (.pointer (some (a 2)))] 57 (0, 0))) :
    Calls Tryz.prog 9 #[.iface 55 (.pointer (some ⟨p, 0, none⟩)), .agg #[.int .i64 3, .int .i64 n]] w fun e w' => e = .returned (.bool true) ∧ Below w.heap.size w w' := by
  have hb0 : Below w.heap.size w (w.alloc (.cells #[.int .i64 3, .int .i64 n] 34)) := (Below.refl _ _).alloc (Nat.le_refl _) _
  obtain ⟨cb, tb, hrow⟩ := S.row 2 (by omega)
  have hp2 := row_keep hb0 hp
  have HC : Hid (Calls Tryz.prog 19 #[.iface 55 (.pointer (some ⟨p, 0, none⟩))] (w.alloc (.cells #[.int .i64 3, .int .i64 n] 34)) fun e w' => e = .returned (.tuple #[.int .i64 (codeOf 2), .int .i64 n]) ∧ Below (w.alloc (.cells #[.int .i64 3, .int .i64 n] 34)).heap.size (w.alloc (.cells #[.int .i64 3, .int .i64 n] 34)) w') := code_fault a (a 2) 2 p n cb tb _ (S.below hb0) (by rw [cell_of_row _ _ _ _ _ (0, 0) hp2]; rfl) (by rw [cell_of_row _ _ _ _ _ (0, 0) hp2]; rfl) (row_keep hb0 hrow) (by omega) (fun j hj => S.inj 2 j (by omega) (by omega) (by omega)) (fun _ => rfl)
  clear hrow S hp hp2
  go_enter Tryz.func9, Tryz.ntmps9
  go_wp2_with fail
  refine HC.out.mono ?_
  rintro e w1 ⟨rfl, hb⟩
  have c0 := cell_keep hb (p := ⟨w.heap.size, 0, none⟩) (v := .int .i64 3) (by simp)
  have c1 := cell_keep hb (p := ⟨w.heap.size, 0 + 1, none⟩) (v := .int .i64 n) (by simp)
  rw [show codeOf 2 = 3 from rfl]
  clear HC
  go_wp2
  all_goals go_ret
  all_goals exact ⟨rfl, hb0.trans (hb.mono (by simp))⟩
/-! ### Text -/
/-- What cnf.Text answers of any formula. -/
def TxtP (n : Int) (cs : List (List Int)) (tb ts : TypeId) (qb qs : Value) (e : Ending) (w' : World) : Prop :=
  (bndB n cs = true ∧ e = .returned (.tuple #[.string ⟨#[]⟩, .iface tb qb])) ∨
  (bndB n cs = false ∧ ∃ j P, firstB n cs = some j ∧ e = .returned (.tuple #[.string ⟨#[]⟩, .iface 55 (.pointer (some ⟨P, 0, none⟩))]) ∧ w'.heap[P]? = some (.cells #[.int .i64 j, .iface ts qs] 57 (0, 0))) ∨
  (bndB n cs = false ∧ firstB n cs = none ∧ e = .returned (.tuple #[.string ⟨(textC n cs).toArray⟩, .nilIface]))
set_option maxRecDepth 100000 in
set_option maxHeartbeats 2000000 in
theorem textE_any (w : World) (n : Int) (hn : I64 n) (v : Value) (cs : List (List Int)) (hv : ClsAt w v cs) (hI : ∀ c ∈ cs, ∀ x ∈ c, I64 x) (hs : sizC cs ≤ 1000 ∨ 500000 < cs.length) (htab : Lib.TabIs Tryz.prog w "internal/strconv.uint64pow10" .u64 Lib.pow10Tab) (tb ts : TypeId) (qb qs : Value) (hb : w.cell? ⟨0, 0, none⟩ = some (.iface tb qb)) (hsh : w.cell? ⟨1, 0, none⟩ = some (.iface ts qs)) :
    Calls Tryz.prog 6 #[.agg #[.int .i64 n, v]] w fun e w' => TxtP n cs tb ts qb qs e w' ∧ Below w.heap.size w w' := by
  by_cases hg : bndB n cs = false ∧ firstB n cs = none
  · have hs1 : sizC cs ≤ 1000 := hs.resolve_right fun h => by
      have h1 := hg.1
      unfold bndB at h1
      simp only [Bool.or_eq_false_iff, decide_eq_false_iff_not] at h1
      exact h1.2 h
    refine (text_any w n hn v cs hv hI (by omega) htab tb ts qb qs hb hsh hg).mono ?_
    rintro e w' ⟨rfl, hb'⟩
    exact ⟨.inr (.inr ⟨hg.1, hg.2, rfl⟩), hb'⟩
  · have HV : Hid (ClsAt w v cs) := hv
    obtain ⟨_, o, c, rfl, _⟩ := hv
    obtain ⟨w1, hw1⟩ : ∃ w1, w1 = w.alloc (.cells #[.int .i64 n, .slice o cs.length c] 31) := ⟨_, rfl⟩
    have hb1 : Below w.heap.size w w1 := by rw [hw1]; exact (Below.refl _ _).alloc (Nat.le_refl _) _
    have HCK : Hid (Calls Tryz.prog 10 #[.agg #[.int .i64 n, .slice o cs.length c]] w1 fun e w' => ChkP n cs tb ts qb qs e w' ∧ Below w1.heap.size w1 w') := checkF_any w1 n _ cs (HV.out.below hb1) (by omega) tb ts qb qs (cell_keep hb1 hb) (cell_keep hb1 hsh)
    have HW1 : Hid (w.alloc (.cells #[.int .i64 n, .slice o cs.length c] 31) = w1) := hw1.symm
    have HB1 : Hid (Below w.heap.size w w1) := hb1
    have HG : Hid (¬ (bndB n cs = false ∧ firstB n cs = none)) := hg
    clear hn hI hs htab hb hsh hw1 hb1 hg HV
    go_enter Tryz.func6, Tryz.ntmps6
    go_wp2_with fail
    rw [HW1.out]
    refine HCK.out.mono ?_
    rintro e w2 ⟨hk, hb2⟩
    have HB2 : Hid (Below w.heap.size w w2) := HB1.out.trans (hb2.mono HB1.out.size)
    clear hb2 HCK HW1
    rcases hk with ⟨h, rfl⟩ | ⟨h0, j, P, h, rfl, hr⟩ | ⟨h0, h1, _⟩
    · have H : Hid (bndB n cs = true) := h
      clear h
      go_wp2
      go_ret2
      exact ⟨.inl ⟨H.out, rfl⟩, HB2.out⟩
    · have H : Hid (bndB n cs = false ∧ firstB n cs = some j ∧ w2.heap[P]? = some (.cells #[.int .i64 j, .iface ts qs] 57 (0, 0))) := ⟨h0, h, hr⟩
      clear h0 h hr
      go_wp2
      go_ret2
      exact ⟨.inr (.inl ⟨H.out.1, j, P, H.out.2.1, rfl, H.out.2.2⟩), HB2.out⟩
    · exact absurd ⟨h0, h1⟩ HG.out
end Go.Proofs.YtlclbidjdhlklaaGreatDoor
