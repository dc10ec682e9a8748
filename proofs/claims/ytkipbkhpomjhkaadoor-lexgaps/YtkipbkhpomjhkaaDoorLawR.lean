/-
  lustrumlaw1.one, faulted, LexReads, WALKED.
-/
import Derived.Test.YtkipbkhpomjhkaaDoorRefE
import Derived.Test.YtkipbkhpomjhkaaDoorSame
namespace Go.Proofs.YtkipbkhpomjhkaaDoor
open Go.RowKit

/-- A row of tokens, told by its cells. -/
theorem own_cells {w : World} {base : Nat} {e : TypeId} {v : Value} {l : List Tk} (h : w.ownsRow base e 3 v l.length (tkCells l)) (hn : 0 < l.length) :
    ∃ g cap, v = .slice (some ⟨g, 0, none⟩) l.length cap ∧ ∀ i (hi : i < l.length), w.cell? ⟨g, i * 3, none⟩ = some (.string l[i].kind) ∧ w.cell? ⟨g, i * 3 + 1, none⟩ = some (.string l[i].text) ∧ w.cell? ⟨g, i * 3 + 2, none⟩ = some (.int .i64 l[i].pos) := by
  obtain ⟨h1, h2⟩ := h
  rcases h2 with ⟨_, h0⟩ | ⟨g, cap, cur, hv, hg, hh, hc1, hc2, hc3, hc4⟩
  · omega
  · refine ⟨g, cap, hv, fun i hi => ?_⟩
    have f : ∀ k x, (tkCells l)[k]? = some x → w.cell? ⟨g, k, none⟩ = some x := by
      intro k x hx
      rw [cell_of_row w g k cur e (0, 0) hh]
      rw [← hc4, List.getElem?_take] at hx
      split at hx
      · simpa using hx
      · cases hx
    obtain ⟨a, b, c⟩ := tkCells_at l i hi
    exact ⟨f _ _ a, f _ _ b, f _ _ c⟩
theorem Lexes.ne {s : ByteArray} {i : Nat} {l : List Tk} (h : Lexes s i l none) : 0 < l.length := by
  cases h <;> simp

theorem Lexes.len {s : ByteArray} {i : Nat} {l : List Tk} {r : Option Nat} (h : Lexes s i l r) {N : Nat} (hN : s.size ≤ N) : l.length ≤ N + 1 := by
  have : ∀ {i : Nat} {l : List Tk} {r : Option Nat}, Lexes s i l r → i ≤ s.size → l.length + i ≤ s.size + 1 := by
    intro i l r h
    induction h with
    | fin i j n kind text => intro hi; simp only [List.length_cons, List.length_nil]; omega
    | bad i j n kind text => intro hi; simp only [List.length_nil]; omega
    | tok i j n kind text l r S c T h0 h1 _ ih =>
      intro hi
      have h2 := T.pos h0 h1
      have h3 := T.le S.le
      have h4 := S.skips.le
      have := ih h3
      simp only [List.length_cons]; omega
  rcases Nat.lt_or_ge s.size i with h1 | h1
  · have hij : ∀ {j}, Stands s i j → False := fun S => by have := S.skips.le; have := S.le; omega
    cases h with
    | fin _ _ _ _ _ S => exact (hij S).elim
    | bad _ _ _ _ _ S => exact (hij S).elim
    | tok _ _ _ _ _ _ _ S => exact (hij S).elim
  · have := this h h1; omega
def strA : ByteArray := ⟨#[97]⟩
theorem lexesA : Lexes strA 0 [⟨kName, strA, 0⟩, ⟨kEnd, ⟨#[]⟩, 1⟩] none := by
  have r : IsRun nameI strA 0 1 := ⟨by decide, first_of (by decide), fun h => absurd h (by decide)⟩
  have hw : wordB strA = false := by
    rw [wordB, show strA.toList = [97] from by rw [ByteArray.toList_eq]; rfl]; decide
  have hk : nameK (strA.extract 0 (0 + 1)) = kName := by
    rw [show strA.extract 0 (0 + 1) = strA from extract_all strA, nameK, if_neg (by decide), if_neg (by rw [hw]; exact Bool.false_ne_true)]
  have T := TokAt.low (s := strA) (j := 0) 1 (by decide) (by decide) r
  rw [hk, show strA.extract 0 (0 + 1) = strA from extract_all strA] at T
  refine .tok 0 0 1 kName strA _ _ ⟨.refl 0, by decide, fun _ => by decide⟩ (by decide) T kName_some (not_end (Or.inr (Or.inr (Or.inl rfl)))) ?_
  exact .fin 1 1 0 kEnd ⟨#[]⟩ ⟨.refl 1, by decide, fun h => absurd h (by decide)⟩ (by decide) (.fin rfl) (by rw [kEnd_list]; rfl) (by rw [kEnd_list]; rfl)

set_option maxRecDepth 100000 in
set_option maxHeartbeats 1000000 in
theorem one_any (w : World) (pT : Addr) (ev : Value) (hT : w.cell? ⟨0, 0, none⟩ = some (.iface 54 (.pointer (some pT)))) (hv : w.cell? ⟨11, 0, none⟩ = some ev) (hev : ev = .nilIface ∨ ∃ te pe, ev = .iface te pe) :
    Calls Tryd.prog 10 #[] w fun e w' => e = .returned (.bool true) ∧ Below w.heap.size w w' := by
  go_enter Tryd.func10, Tryd.ntmps10
  go_wp2_with fail
  refine (lex_any strA w pT ev (by decide) hT hv hev).mono ?_
  rintro e w1 ⟨hb, h⟩
  rcases h with ⟨l, v, hl, rfl, hown⟩ | ⟨l, j, p, hl, rfl, _, _⟩
  · obtain ⟨rfl, _⟩ := hl.one lexesA
    obtain ⟨g, cap, rfl, hc⟩ := own_cells hown (by decide)
    have c0 : w1.cell? ⟨g, 0, none⟩ = some (.string kName) := (hc 0 (by decide)).1
    have c3 : w1.cell? ⟨g, 3, none⟩ = some (.string kEnd) := (hc 1 (by decide)).1
    have n0 : kName.toList = [110, 97, 109, 101] := by rw [ByteArray.toList_eq]; rfl
    have n1 := kEnd_list
    clear hc hown hl
    simp only [List.length_cons, List.length_nil, Nat.zero_add]
    go_wp2
    go_ret
    exact ⟨rfl, hb⟩
  · exact absurd (hl.one lexesA).2 (by simp)

set_option maxHeartbeats 1000000 in
theorem faulted_str (a : Nat → Addr) (b : Addr) (m : Nat) (c n : Int) (cb : Array Value) (tb : TypeId) (w : World) (S : Sents a w) (hrow : w.heap[b.block]? = some (.cells cb tb (0, 0))) (hm : m ≤ 9) (hlt : ∀ j, j < m → b ≠ a j) (heq : m < 9 → a m = b) (hc : c = codeOf m) (hn : n = -1) :
    Calls Tryd.prog 13 #[.iface 54 (.pointer (some b)), .agg #[.int .i64 c, .int .i64 n]] w fun e w' => e = .returned (.bool true) ∧ Below w.heap.size w w' := by
  subst hc hn
  have hb0 : Below w.heap.size w (w.alloc (.cells #[.int .i64 (codeOf m), .int .i64 (-1)] 42)) := (Below.refl _ _).alloc (Nat.le_refl _) _
  go_enter Tryd.func13, Tryd.ntmps13
  go_wp2_with fail
  refine (code_str a b m cb tb _ (S.below hb0) (row_keep hb0 hrow) hm hlt heq).mono ?_
  rintro e w1 ⟨rfl, hb⟩
  have c0 := cell_keep hb (p := ⟨w.heap.size, 0, none⟩) (v := .int .i64 (codeOf m)) (by simp)
  have c1 := cell_keep hb (p := ⟨w.heap.size, 1, none⟩) (v := .int .i64 (-1)) (by simp)
  clear S hrow hlt heq
  go_wp2
  all_goals go_ret
  all_goals exact ⟨rfl, hb0.trans (hb.mono (by simp))⟩
set_option maxHeartbeats 1000000 in
theorem faulted_fault (a : Nat → Addr) (b : Addr) (m p : Nat) (c n : Int) (cb : Array Value) (tb : TypeId) (w : World) (S : Sents a w) (hp0 : w.cell? ⟨p, 0, none⟩ = some (.int .i64 n)) (hp1 : w.cell? ⟨p, 0 + 1, none⟩ = some (.iface 54 (.pointer (some b)))) (hrow : w.heap[b.block]? = some (.cells cb tb (0, 0))) (hm : m ≤ 9) (hlt : ∀ j, j < m → b ≠ a j) (heq : m < 9 → a m = b) (hc : c = codeOf m) :
    Calls Tryd.prog 13 #[.iface 30 (.pointer (some ⟨p, 0, none⟩)), .agg #[.int .i64 c, .int .i64 n]] w fun e w' => e = .returned (.bool true) ∧ Below w.heap.size w w' := by
  subst hc
  have hb0 : Below w.heap.size w (w.alloc (.cells #[.int .i64 (codeOf m), .int .i64 n] 42)) := (Below.refl _ _).alloc (Nat.le_refl _) _
  go_enter Tryd.func13, Tryd.ntmps13
  go_wp2_with fail
  refine (code_fault a b m p n cb tb _ (S.below hb0) (cell_keep hb0 hp0) (cell_keep hb0 hp1) (row_keep hb0 hrow) hm hlt heq).mono ?_
  rintro e w1 ⟨rfl, hb⟩
  have c0 := cell_keep hb (p := ⟨w.heap.size, 0, none⟩) (v := .int .i64 (codeOf m)) (by simp)
  have c1 := cell_keep hb (p := ⟨w.heap.size, 1, none⟩) (v := .int .i64 n) (by simp)
  clear S hrow hlt heq hp0 hp1
  go_wp2
  all_goals go_ret
  all_goals exact ⟨rfl, hb0.trans (hb.mono (by simp))⟩

set_option maxRecDepth 100000 in
set_option maxHeartbeats 2000000 in
theorem reads_walk (a : Nat → Addr) (s : ByteArray) (w : World) (ev : Value) (S : Sents a w) (hm : s.size ≤ maxLen) (hv : w.cell? ⟨11, 0, none⟩ = some ev) (hev : ev = .nilIface ∨ ∃ te pe, ev = .iface te pe) :
    Calls Tryd.prog 4 #[.string s] w fun e w' => e = .returned (.bool true) ∧ Below w.heap.size w w' := by
  unfold maxLen at hm
  go_enter Tryd.func4, Tryd.ntmps4
  go_wp2_with fail
  refine (one_any _ _ ev S.g0 hv hev).mono ?_
  rintro e w1 ⟨rfl, hb1⟩
  have S1 := S.below hb1
  have hv1 := cell_keep hb1 hv
  by_cases h1 : 6000 < s.size
  · go_wp2_with fail
    refine (lex_long s _ _ h1 (by unfold maxLen; omega) S1.g1 ⟨_, _, rfl⟩).mono ?_
    rintro e w2 ⟨rfl, k2, rfl⟩
    go_wp2_with fail
    refine (lexOf_long s _ h1 (by unfold maxLen; omega)).mono ?_
    rintro e w3 ⟨rfl, hb3⟩
    have hB3 : Below w1.heap.size w1 w3 := (below_drewN (Below.refl _ _) k2).trans hb3
    have hbA : Below w3.heap.size w3 (w3.alloc (.cells #[.int .i64 2, .int .i64 (-1)] 42)) := (Below.refl _ _).alloc (Nat.le_refl _) _
    have S4 := (S1.below hB3).below hbA
    obtain ⟨cb, tb, hrow⟩ := S4.row 1 (by omega)
    clear S1 hv1 hb3
    go_wp2_with fail
    refine (faulted_str a (a 1) 1 2 (-1) cb tb _ S4 hrow (by omega) (fun j hj => S.inj 1 j (by omega) (by omega) (by omega)) (fun _ => rfl) (by rw [codeOf_in (by omega)]; rfl) rfl).mono ?_
    rintro e w5 ⟨rfl, hb5⟩
    have hB : Below w.heap.size w w5 := hb1.trans (((hB3.trans (hbA.mono hB3.size)).trans (hb5.mono (Nat.le_trans hB3.size hbA.size))).mono hb1.size)
    clear S4 hrow S
    go_wp2
    go_ret
    exact ⟨rfl, hB⟩
  · by_cases h2 : 3000 < s.size
    · go_wp2
      go_ret
      exact ⟨rfl, hb1⟩
    · go_wp2_with fail
      refine (lex_any s _ _ ev (by omega) S1.g0 hv1 hev).mono ?_
      rintro e w2 ⟨hb2, hL⟩
      rcases hL with ⟨l, v, hl, rfl, hown⟩ | ⟨l, j, p, hl, rfl, hp0, hp1⟩
      · go_wp2_with fail
        refine (lexOf_any s _ (by omega)).mono ?_
        rintro e w3 ⟨hb3, hL⟩
        rcases hL with ⟨l', v', hl', rfl, hown'⟩ | ⟨l', j', hl', rfl⟩
        · obtain ⟨rfl, _⟩ := hl'.one hl
          have hpos := hl.ne
          obtain ⟨g, cap, rfl, hc⟩ := own_cells hown hpos
          obtain ⟨g', cap', rfl, hc'⟩ := own_cells hown' hpos
          have hlen : l'.length ≤ 6001 := hl.len (by omega)
          have hbA : Below w3.heap.size w3 (w3.alloc (.cells #[.int .i64 0, .int .i64 (-1)] 42)) := (Below.refl _ _).alloc (Nat.le_refl _) _
          have hB : Below w.heap.size w (w3.alloc (.cells #[.int .i64 0, .int .i64 (-1)] 42)) := hb1.trans ((hb2.trans ((hb3.trans (hbA.mono hb3.size)).mono hb2.size)).mono hb1.size)
          have hd : ∀ i (hi : i < l'.length), (w3.alloc (.cells #[.int .i64 0, .int .i64 (-1)] 42)).cell? ⟨g, i * 3, none⟩ = some (.string l'[i].kind) ∧ (w3.alloc (.cells #[.int .i64 0, .int .i64 (-1)] 42)).cell? ⟨g, i * 3 + 1, none⟩ = some (.string l'[i].text) ∧ (w3.alloc (.cells #[.int .i64 0, .int .i64 (-1)] 42)).cell? ⟨g, i * 3 + 2, none⟩ = some (.int .i64 l'[i].pos) := fun i hi => ⟨cell_keep hbA (cell_keep hb3 (hc i hi).1), cell_keep hbA (cell_keep hb3 (hc i hi).2.1), cell_keep hbA (cell_keep hb3 (hc i hi).2.2)⟩
          have hd' : ∀ i (hi : i < l'.length), (w3.alloc (.cells #[.int .i64 0, .int .i64 (-1)] 42)).cell? ⟨g', i * 3, none⟩ = some (.string l'[i].kind) ∧ (w3.alloc (.cells #[.int .i64 0, .int .i64 (-1)] 42)).cell? ⟨g', i * 3 + 1, none⟩ = some (.string l'[i].text) ∧ (w3.alloc (.cells #[.int .i64 0, .int .i64 (-1)] 42)).cell? ⟨g', i * 3 + 2, none⟩ = some (.int .i64 l'[i].pos) := fun i hi => ⟨cell_keep hbA (hc' i hi).1, cell_keep hbA (hc' i hi).2.1, cell_keep hbA (hc' i hi).2.2⟩
          have HD : Hid _ := hd
          have HD' : Hid _ := hd'
          clear hd hd' hc hc' hown hown' S1 hv1 hbA
          go_wp2
          go_loopw [8] (fun t wr => ∃ (i k : Nat), i ≤ l'.length ∧ t = .int .i64 i ∧ wr = (w3.alloc (.cells #[.int .i64 0, .int .i64 (-1)] 42)).drewN k) (fun t _ => l'.length - (intOf t).toNat)
          case atStart => exact ⟨0, 0, Nat.zero_le _, rfl, rfl⟩
          case round =>
            obtain ⟨i, k, hi, rfl, rfl⟩ := hrel
            by_cases hlt : i < l'.length
            · obtain ⟨x0, x1, x2⟩ := HD.out i hlt
              obtain ⟨y0, y1, y2⟩ := HD'.out i hlt
              have i0 : (0 : Int) ≤ (i : Int) := by omega
              have i1 : (i : Int) < (l'.length : Int) := by omega
              go_wp2
              go_quiet (fail)
              go_wp2
              refine ⟨⟨i + 1, _, by omega, by go_num, rfl⟩, ?_⟩
              simp [intOf]; omega
            · go_wp2
              go_ret
              exact ⟨rfl, below_drewN hB k⟩
        · exact absurd (hl'.one hl).2 (by simp)
      · go_wp2_with fail
        refine (lexOf_any s _ (by omega)).mono ?_
        rintro e w3 ⟨hb3, hL⟩
        rcases hL with ⟨l', v', hl', rfl, hown'⟩ | ⟨l', j', hl', rfl⟩
        · exact absurd (hl'.one hl).2 (by simp)
        · obtain ⟨rfl, hj⟩ := hl'.one hl
          obtain rfl := Option.some.inj hj
          have hbA : Below w3.heap.size w3 (w3.alloc (.cells #[.int .i64 1, .int .i64 j'] 42)) := (Below.refl _ _).alloc (Nat.le_refl _) _
          have S4 := ((S1.below hb2).below hb3).below hbA
          obtain ⟨cb, tb, hrow⟩ := S4.row 0 (by omega)
          have q0 := cell_keep hbA (cell_keep hb3 hp0)
          have q1 := cell_keep hbA (cell_keep hb3 hp1)
          clear S1 hv1 hp0 hp1
          go_wp2_with fail
          refine (faulted_fault a (a 0) 0 p 1 j' cb tb _ S4 q0 q1 hrow (by omega) (fun j hj => by omega) (fun _ => rfl) (by rw [codeOf_in (by omega)]; rfl)).mono ?_
          rintro e w5 ⟨rfl, hb5⟩
          have hB : Below w.heap.size w w5 := hb1.trans ((hb2.trans (((hb3.trans (hbA.mono hb3.size)).trans (hb5.mono (Nat.le_trans hb3.size hbA.size))).mono hb2.size)).mono hb1.size)
          clear S4 hrow S q0 q1
          go_wp2
          go_ret
          exact ⟨rfl, hB⟩
end Go.Proofs.YtkipbkhpomjhkaaDoor
