/-
  / and mod of numbers that are known: what bits come to; word.Of of them.
-/
import Derived.Test.YtgcaohpaopemnaaDoorP40
import Derived.Test.YtgcaohpaopemnaaDoorP44
import Derived.Test.YtgcaohpaopemnaaDoorP37
namespace Go.Proofs.YtgcaohpaopemnaaDoor
open Go.RowKit Go.Maps

theorem const_bit (n : Int) (inp : List Bool) {i : Nat} (hi : i < 8) : bitsL [] inp (wordI n 8) i = bitB n i := by
  have e : (wordI n 8)[i]? = some (bitI n i) := by simp [wordI, hi]
  rw [bitsL_get e]
  unfold bitB
  rcases bitI_cases n i with h | h
  · rw [h, val_zero]; rfl
  · rw [h, val_one]; rfl
theorem const_num (n : Int) (inp : List Bool) : natF (bitsL [] inp (wordI n 8)) 8 = n % 256 := by
  rw [natF_congr (fun i hi => const_bit n inp hi), natF_bits8]
theorem const_has (n : Int) : ∀ x ∈ wordI n 8, HasL [] x := fun x hx => by
  obtain ⟨i, hi⟩ : ∃ i, bitI n i = x := by
    simp only [wordI, List.mem_map] at hx
    obtain ⟨i, _, h⟩ := hx
    exact ⟨i, h⟩
  unfold HasL
  rcases bitI_cases n i with h | h <;> (rw [h] at hi; subst hi; simp)
theorem sgn7 {A : Nat → Bool} {n : Int} (h : natF A 8 = n % 256) (h1 : -128 ≤ n) (h2 : n ≤ 127) : A 7 = decide (n < 0) := by
  have e : natF A 8 = natF A 7 + bI (A 7) * 2 ^ 7 := rfl
  have e7 : (2 : Int) ^ 7 = 128 := by decide
  have h7 := natF_lt A 7
  rw [e7] at e h7
  rcases bI_cases (A 7) with ⟨h7', hb⟩ | ⟨h7', hb⟩
  · rw [hb] at e; rw [h7']; symm; exact decide_eq_true (by omega)
  · rw [hb] at e; rw [h7']; symm; exact decide_eq_false (by omega)
/-- A number without its sign. -/
def absI (n : Int) : Int := if n < 0 then -n else n
theorem abs_num {A : Nat → Bool} {n : Int} (h : natF A 8 = n % 256) (h1 : -128 ≤ n) (h2 : n ≤ 127) : natF (opB (A 7) A) 8 = absI n := by
  rw [opp_num, sgn7 h h1 h2, h]
  unfold absI
  by_cases hn : n < 0
  · simp only [hn, decide_true, if_true]; omega
  · simp only [hn, decide_false, if_false, Bool.false_eq_true]; omega
theorem tdiv_abs (a b : Int) : a.tdiv b = if (decide (a < 0) ^^ decide (b < 0)) = true then -(absI a / absI b) else absI a / absI b := by
  have key : ∀ x y : Int, 0 ≤ x → x.tdiv y = if decide (y < 0) = true then -(x / absI y) else x / absI y := fun x y hx => by
    rw [Int.tdiv_eq_ediv_of_nonneg hx]
    unfold absI
    by_cases hy : y < 0
    · simp only [hy, decide_true, if_true]
      rw [Int.ediv_neg, Int.neg_neg]
    · simp only [hy, decide_false, if_false, Bool.false_eq_true]
  by_cases ha : a < 0
  · have e : a.tdiv b = -((-a).tdiv b) := by rw [Int.neg_tdiv, Int.neg_neg]
    have ea : absI a = -a := by unfold absI; rw [if_pos ha]
    rw [e, key (-a) b (by omega), ea]
    by_cases hb : b < 0 <;> simp [ha, hb]
  · have ea : absI a = a := by unfold absI; rw [if_neg ha]
    rw [key a b (by omega), ea]
    by_cases hb : b < 0 <;> simp [ha, hb]
theorem tmod_abs (a b : Int) : a - a.tdiv b * b = if decide (a < 0) = true then -(absI a % absI b) else absI a % absI b := by
  rw [tdiv_abs, Int.emod_def]
  obtain ⟨q, hq⟩ : ∃ q, q = absI a / absI b := ⟨_, rfl⟩
  rw [← hq]
  clear hq
  unfold absI
  by_cases ha : a < 0 <;> by_cases hb : b < 0 <;> simp [ha, hb, Int.mul_neg, Int.mul_comm] <;> omega
theorem div_num {a b : Int} (ha : -128 ≤ a ∧ a ≤ 127) (hb : -128 ≤ b ∧ b ≤ 127) (h0 : b ≠ 0) (inp : List Bool) (q : Nat → Bool) (hq : natF (absB [] inp (wordI b 8)) 8 ≠ 0 → natF q 8 = natF (absB [] inp (wordI a 8)) 8 / natF (absB [] inp (wordI b 8)) 8) :
    natF (opB (bitsL [] inp (wordI a 8) 7 ^^ bitsL [] inp (wordI b 8) 7) q) 8 = divR false a b % 256 := by
  have ea := const_num a inp
  have eb := const_num b inp
  have e1 : natF (absB [] inp (wordI a 8)) 8 = absI a := abs_num ea ha.1 ha.2
  have e2 : natF (absB [] inp (wordI b 8)) 8 = absI b := abs_num eb hb.1 hb.2
  rw [e1, e2] at hq
  have hq' := hq (by unfold absI; split <;> omega)
  rw [opp_num, sgn7 ea ha.1 ha.2, sgn7 eb hb.1 hb.2, hq']
  unfold divR
  simp only [Bool.false_eq_true, if_false]
  rw [tdiv_abs]
theorem mod_num {a b : Int} (ha : -128 ≤ a ∧ a ≤ 127) (hb : -128 ≤ b ∧ b ≤ 127) (h0 : b ≠ 0) (inp : List Bool) (q : Nat → Bool) (hq : natF (absB [] inp (wordI b 8)) 8 ≠ 0 → natF q 8 = natF (absB [] inp (wordI a 8)) 8 % natF (absB [] inp (wordI b 8)) 8) :
    natF (opB (bitsL [] inp (wordI a 8) 7) q) 8 = divR true a b % 256 := by
  have ea := const_num a inp
  have eb := const_num b inp
  have e1 : natF (absB [] inp (wordI a 8)) 8 = absI a := abs_num ea ha.1 ha.2
  have e2 : natF (absB [] inp (wordI b 8)) 8 = absI b := abs_num eb hb.1 hb.2
  rw [e1, e2] at hq
  have hq' := hq (by unfold absI; split <;> omega)
  rw [opp_num, sgn7 ea ha.1 ha.2, hq']
  unfold divR
  simp only [if_true]
  rw [tmod_abs]
theorem zero_num {b : Int} (hb : -128 ≤ b ∧ b ≤ 127) (inp : List Bool) : (!orF (bitsL [] inp (wordI b 8)) 8) = decide (b = 0) := by
  rw [orF_nat, const_num]
  by_cases h : b = 0
  · subst h; rfl
  · rw [decide_eq_false h, decide_eq_true (show b % 256 ≠ 0 by omega)]; rfl
/-- The value of eight bits that come to a number, going around. -/
theorem val_around {L : List Bool} (hl : L.length = 8) {R : Int} (h : natF (fun i => L.getD i false) 8 = R % 256) : valI L = aroundI R ∧ valK L = 2 := by
  refine ⟨?_, by unfold valK; rw [hl]; rfl⟩
  unfold valI
  rw [hl]
  simp only [h]
  unfold aroundI
  by_cases h8 : 128 ≤ R % 256
  · rw [if_pos ⟨trivial, h8⟩]; omega
  · rw [if_neg (fun h => h8 h.2)]; omega
/-- What word.Of makes of / or mod of two ints that are known. -/
def DofP (W : World) (G : Nat) (md : Bool) (a b : Int) (F : Nat → Prop) (w : World) (e : Ending) (w' : World) : Prop :=
  ∃ (V : Nat) (out : List Int) (tr : Int) (gs' : List (Int × Int)) (F' : Nat → Prop), e = .returned (.tuple #[.slice (some ⟨V, 0, none⟩) 8 8, .int .i64 tr, .nilIface]) ∧ out.length = 8 ∧ W.heap.size ≤ V ∧ w'.heap[V]? = some (.cells (rowI out) 38 (0, 0)) ∧ ¬ F' V ∧ Sq W G gs' 0 F' w' ∧ gs'.length ≤ 1020 ∧ cntI gs' = 0 ∧ (∀ x ∈ out, HasL gs' x) ∧ HasL gs' tr ∧ valL gs' [] tr = decide (b = 0) ∧ (b ≠ 0 → numW gs' [] out = divR md a b % 256) ∧ Mvd F F' w w'
theorem dof_any {W : World} (S : Errs W) {G : Nat} {F : Nat → Prop} {w : World} (h : Sq W G [] 0 F w) (md : Bool) (oa ob : Option Addr) (ca cb : Nat) (a b : Int) (ha : -128 ≤ a ∧ a ≤ 127) (hb : -128 ≤ b ∧ b ≤ 127) (hx : Wd [] F w oa ca (wordI a 8)) (hy : Wd [] F w ob cb (wordI b 8)) :
    Calls Tryd.prog 7 #[.pointer (some ⟨G, 0, none⟩), .string (divS md), .slice (some ⟨w.heap.size, 0, none⟩) 2 2] (w.alloc (.cells #[.slice oa 8 ca, .slice ob 8 cb] 30)) (DofP W G md a b F w) := by
  obtain ⟨⟨et, eq, he⟩, ⟨st, sq, hsh⟩⟩ := S
  have hb1 : Below w.heap.size w (w.alloc (.cells #[.slice oa 8 ca, .slice ob 8 cb] 30)) := (Below.refl _ _).alloc (Nat.le_refl _) _
  have hm : Mvd F F w (w.alloc (.cells #[.slice oa 8 ca, .slice ob 8 cb] 30)) := Mvd.of_below hb1
  have hws := words_two hx.at_ hy.at_ hx.len hy.len h.gr.2.2.1 30
  have hH : ∀ l ∈ [wordI a 8, wordI b 8], ∀ x ∈ l, HasL [] x := fun l hl z hz => by
    simp at hl
    rcases hl with rfl | rfl
    · exact hx.has z hz
    · exact hy.has z hz
  have hk : askB (divS md).data.toList [wordI a 8, wordI b 8] = true := by
    cases md
    · exact ask_div hx.len hy.len
    · exact ask_mod hx.len hy.len
  have hsz : (divS md).size ≤ maxLen := by cases md <;> decide
  have fin : ∀ (Pr : (List Bool → Nat → Bool) → Prop) (e : Ending) (w2 : World), (∀ f, Pr f → b ≠ 0 → natF (f []) 8 = divR md a b % 256) →
      ((askB (divS md).data.toList [wordI a 8, wordI b 8] = true ∧ ∃ uv tv, e = .returned (.tuple #[uv, tv, .nilIface]) ∧ OfP G [] 0 1020 8 Pr (fun inp => !orF (bitsL [] inp (wordI b 8)) 8) F (w.alloc (.cells #[.slice oa 8 ca, .slice ob 8 cb] 30)) w2 uv tv) ∨
      (askB (divS md).data.toList [wordI a 8, wordI b 8] = false ∧ e = .returned (.tuple #[.slice none 0 0, .int .i64 0, .iface st sq]) ∧ GrAt G [] 0 F w2 ∧ Mvd F F (w.alloc (.cells #[.slice oa 8 ca, .slice ob 8 cb] 30)) w2)) → DofP W G md a b F w e w2 := by
    rintro Pr e w2 hP (⟨_, uv, tv, rfl, V, out, tr, gs', F', rfl, rfl, h1, h2, h3, h4, h5, h6, ⟨f, hf, h7⟩, h8, h9⟩ | ⟨hk', _⟩)
    · refine ⟨V, out, tr, gs', F', rfl, h1, ?_, h3, h4, h.step (hm.trans h6) h5, by have := h7.len; simpa using this, by rw [h7.ext.cnt]; rfl, h7.has, h8, by rw [h9 []]; exact zero_num hb [], fun h0 => ?_, hm.trans h6⟩
      · have := h.bel.size; have := hm.size; omega
      · rw [numW_of h7 h1 []]; exact hP f hf h0
    · exact absurd hk (by rw [hk']; simp)
  cases md
  · refine (of_any (h.gr.below hb1) (by simp) (divS false) hsz (some ⟨w.heap.size, 0, none⟩) 2 2 [wordI a 8, wordI b 8] hws rfl hH et st eq sq (cell_keep hb1 (cell_keep h.bel he)) (cell_keep hb1 (cell_keep h.bel hsh)) 1020 8 _ _ (fun _ F1 w1 g1 v1 => value_div g1 (by simp) _ _ (wordI a 8) (wordI b 8) v1 hx.len hy.len hx.has hy.has)).mono ?_
    rintro e w2 h2
    exact fin _ e w2 (fun f hf h0 => by obtain ⟨q, hq, rfl⟩ := hf; exact div_num ha hb h0 [] (q []) (hq [])) h2
  · refine (of_any (h.gr.below hb1) (by simp) (divS true) hsz (some ⟨w.heap.size, 0, none⟩) 2 2 [wordI a 8, wordI b 8] hws rfl hH et st eq sq (cell_keep hb1 (cell_keep h.bel he)) (cell_keep hb1 (cell_keep h.bel hsh)) 1020 8 _ _ (fun _ F1 w1 g1 v1 => value_mod g1 (by simp) _ _ (wordI a 8) (wordI b 8) v1 hx.len hy.len hx.has hy.has)).mono ?_
    rintro e w2 h2
    exact fin _ e w2 (fun f hf h0 => by obtain ⟨q, hq, rfl⟩ := hf; exact mod_num ha hb h0 [] (q []) (hq [])) h2
end Go.Proofs.YtgcaohpaopemnaaDoor
