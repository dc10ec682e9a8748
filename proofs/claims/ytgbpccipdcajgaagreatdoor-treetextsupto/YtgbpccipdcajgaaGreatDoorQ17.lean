/-
  HOW LONG THE LISTS ARE THAT ARE READ (mathematics alone): no longer than there are tokens, and four.
-/
import Derived.Test.YtgbpccipdcajgaaGreatDoorQ06
import Derived.Test.YtgbpccipdcajgaaGreatDoorQ15
import Derived.Deep.QuietTactic
import Derived.BigQuiet
import Derived.WalkSmall
import Derived.Test.YtgbpccipdcajgaaGreatDoorQ14
import Derived.Test.YtgbpccipdcajgaaGreatDoorQ04
namespace Go.Proofs.YtgbpccipdcajgaaGreatDoor
inductive Fit (N : Nat) : List Ex → Prop
 | nil : Fit N []
 | cons (op : ByteArray) (n : Int) (s : ByteArray) (l es : List Ex) : l.length ≤ N → Fit N l → Fit N es → Fit N (.mk op n s l :: es)
theorem Fit.append {N : Nat} {a b : List Ex} (h : Fit N a) (g : Fit N b) : Fit N (a ++ b) := by
 induction h with
 | nil => exact g
 | cons op n s l es h1 h2 _ _ ih => exact .cons op n s l _ h1 h2 ih
theorem Fit.one {N : Nat} {op : ByteArray} {n : Int} {s : ByteArray} {l : List Ex} (h1 : l.length ≤ N) (h2 : Fit N l) : Fit N [.mk op n s l] := .cons op n s l [] h1 h2 .nil
section
variable (l : List Tk)
end
section
variable {l : List Tk}
theorem tx_lt {i : Nat} {x : List UInt8} (h : tx l i x = true) (hx : x ≠ []) : i < l.length := by
 rcases Nat.lt_or_ge i l.length with h1 | h1
 ·exact h1
 ·exfalso
  have : tkx l i = b0 := by unfold tkx; rw [dif_neg (by omega)]
  rw [tx, this, ByteArray.toList_eq] at h
  simp at h
  exact hx h
theorem kind_lt {i : Nat} {x : List UInt8} (h : ((tkk l i).toList == x) = true) (hx : x ≠ []) : i < l.length := by
 rcases Nat.lt_or_ge i l.length with h1 | h1
 ·exact h1
 ·exfalso
  have : tkk l i = b0 := by unfold tkk; rw [dif_neg (by omega)]
  rw [this, ByteArray.toList_eq] at h
  simp at h
  exact hx h
end
end Go.Proofs.YtgbpccipdcajgaaGreatDoor
namespace Go.Proofs.YtgbpccipdcajgaaGreatDoor
open Go.RowKit
attribute [local go_sem ↓] Go.wp_at_zero Go.wp_at_succ
theorem size_part {l : List Ex} {i : Nat} (hi : i < l.length) {op : ByteArray} {n : Int} {s : ByteArray} {es : List Ex} (e : l[i] = .mk op n s es) : SizeOf.sizeOf es < SizeOf.sizeOf l := by
 have h := List.sizeOf_lt_of_mem (List.getElem_mem hi)
 rw [e] at h
 simp only [Ex.mk.sizeOf_spec] at h
 omega
abbrev reObj (op : ByteArray) (n : Int) (s : ByteArray) (v : Value) : Obj := .cells #[.string op, .int .i64 n, .string s, v] 94
set_option maxHeartbeats 1000000 in
theorem eqTexts_any (w : World) (S S' : Nat → Prop) (o o' : Option Addr) (c c' : Nat) (ns : List Ex) (h1 : RowAt w S 1 (.slice o ns.length c) ns.length (nameCells ns)) (h2 : RowAt w S' 1 (.slice o' ns.length c') ns.length (nameCells ns)) :
  Calls Tryz.prog 146 #[.slice o ns.length c, .slice o' ns.length c'] w fun e w' => e = .returned (.bool true) ∧ ∃ k, w' = w.drewN k := by
 have hl := h1.len
 unfold maxLen at hl
 have H1 : Hid _ := h1
 have H2 : Hid _ := h2
 clear h1 h2
 go_enter Tryz.func146, Tryz.ntmps146
 go_wp2
 go_loopw [13] (fun i wr => ∃ j k : Nat, j ≤ ns.length ∧ i = .int .i64 j ∧ wr = w.drewN k) (fun i _ => ns.length - (intOf i).toNat)
 case atStart => exact ⟨0, 0, Nat.zero_le _, rfl, rfl⟩
 case round =>
  obtain ⟨j, k, hj, rfl, rfl⟩ := hrel
  by_cases hlt : j < ns.length
  ·obtain ⟨b, off, rfl, _, hc⟩ := row_get H1.out (by rw [nameCells_length]; omega)
   obtain ⟨b', off', rfl, _, hc'⟩ := row_get H2.out (by rw [nameCells_length]; omega)
   have x0 := hc j _ (nameCells_at hlt)
   have x1 := hc' j _ (nameCells_at hlt)
   clear hc hc'
   have hi0 : (0 : Int) ≤ (j : Int) := by omega
   have hi1 : (j : Int) < (ns.length : Int) := by omega
   go_wp2
   go_quiet (fail)
   go_wp2
   refine ⟨⟨j + 1, _, by omega, by go_num, rfl⟩, ?_⟩
   simp [intOf]; omega
  ·go_wp2
   go_ret
   exact ⟨rfl, k, rfl⟩
set_option maxHeartbeats 1000000 in
theorem eqVars_any (w : World) (S S' : Nat → Prop) (o o' : Option Addr) (c c' : Nat) (vs : List Ex) (h1 : RowAt w S 2 (.slice o vs.length c) vs.length (varCells vs)) (h2 : RowAt w S' 2 (.slice o' vs.length c') vs.length (varCells vs)) :
  Calls Tryz.prog 121 #[.slice o vs.length c, .slice o' vs.length c'] w fun e w' => e = .returned (.bool true) ∧ ∃ k, w' = w.drewN k := by
 have hl := h1.len
 unfold maxLen at hl
 have H1 : Hid _ := h1
 have H2 : Hid _ := h2
 clear h1 h2
 go_enter Tryz.func121, Tryz.ntmps121
 go_wp2
 go_loopw [13] (fun i wr => ∃ j k : Nat, j ≤ vs.length ∧ i = .int .i64 j ∧ wr = w.drewN k) (fun i _ => vs.length - (intOf i).toNat)
 case atStart => exact ⟨0, 0, Nat.zero_le _, rfl, rfl⟩
 case round =>
  obtain ⟨j, k, hj, rfl, rfl⟩ := hrel
  by_cases hlt : j < vs.length
  ·obtain ⟨b, off, rfl, _, hc⟩ := row_get H1.out (by rw [varCells_length]; omega)
   obtain ⟨b', off', rfl, _, hc'⟩ := row_get H2.out (by rw [varCells_length]; omega)
   have x0 := hc _ _ (varCells_at hlt).1
   have x1 := hc _ _ (varCells_at hlt).2
   have y0 := hc' _ _ (varCells_at hlt).1
   have y1 := hc' _ _ (varCells_at hlt).2
   rw [← Nat.add_assoc] at x1 y1
   clear hc hc'
   have hi0 : (0 : Int) ≤ (j : Int) := by omega
   have hi1 : (j : Int) < (vs.length : Int) := by omega
   go_wp2
   go_quiet (fail)
   go_wp2
   refine ⟨⟨j + 1, _, by omega, by go_num, rfl⟩, ?_⟩
   simp [intOf]; omega
  ·go_wp2
   go_ret
   exact ⟨rfl, k, rfl⟩
abbrev teObj (op : ByteArray) (n : Int) (s : ByteArray) (v : Value) : Obj := .cells #[.string op, .int .i64 n, .string s, v] 105
abbrev AlikeT (m : Nat) : Prop := ∀ (op : ByteArray) (n : Int) (s : ByteArray) (l : List Ex), SizeOf.sizeOf l < m → ∀ (w : World) (S S' : Nat → Prop) (o o' : Option Addr) (c c' : Nat) (ys ys' : List Value), RowAt w S 4 (.slice o l.length c) l.length ys → ExIn w S l ys → RowAt w S' 4 (.slice o' l.length c') l.length ys' → ExIn w S' l ys' →
  Calls Tryz.prog 147 #[.agg #[.string op, .int .i64 n, .string s, .slice o l.length c], .agg #[.string op, .int .i64 n, .string s, .slice o' l.length c']] w fun e w' => e = .returned (.bool true) ∧ Below w.heap.size w w'
set_option maxRecDepth 100000 in
set_option maxHeartbeats 1000000 in
theorem eqfE_any (m : Nat) (IH : AlikeT m) (l : List Ex) (hm : SizeOf.sizeOf l < m + 1) (w : World) (S S' : Nat → Prop) (o o' : Option Addr) (c c' : Nat) (ys ys' : List Value) (h1 : RowAt w S 4 (.slice o l.length c) l.length ys) (h2 : ExIn w S l ys) (h3 : RowAt w S' 4 (.slice o' l.length c') l.length ys') (h4 : ExIn w S' l ys') :
  Calls Tryz.prog 163 #[.slice o l.length c, .slice o' l.length c', .func (.func 147) #[] #[]] w fun e w' => e = .returned (.bool true) ∧ Below w.heap.size w w' := by
 have hl := h1.len
 unfold maxLen at hl
 have H1 : Hid (RowAt w S 4 (.slice o l.length c) l.length ys) := h1
 have H2 : Hid (ExIn w S l ys) := h2
 have H3 : Hid (RowAt w S' 4 (.slice o' l.length c') l.length ys') := h3
 have H4 : Hid (ExIn w S' l ys') := h4
 have HI : Hid (AlikeT m) := IH
 clear h1 h2 h3 h4 IH
 go_enter Tryz.func163, Tryz.ntmps163
 go_wp2
 go_loopw [17] (fun t wr => ∃ i : Nat, i ≤ l.length ∧ t = .int .i64 i ∧ Below w.heap.size w wr) (fun t _ => l.length - (intOf t).toNat)
 case atStart => exact ⟨0, Nat.zero_le _, rfl, Below.refl _ _⟩
 case round =>
  obtain ⟨i, hi, rfl, hbr⟩ := hrel
  by_cases hlt : i < l.length
  ·obtain ⟨op', n', s', es, oo, cc, zs, e, m0, m1, m2, m3, r1, r2⟩ := H2.out.at hlt
   obtain ⟨op'', n'', s'', es', oo', cc', zs', e', k0, k1, k2, k3, r3, r4⟩ := H4.out.at hlt
   rw [e] at e'
   injection e' with e1 e2 e3 e4
   subst e1 e2 e3 e4
   obtain ⟨p, f, rfl, _, g⟩ := row_get H1.out (by have := H1.out.1; omega)
   obtain ⟨p', f', rfl, _, g'⟩ := row_get H3.out (by have := H3.out.1; omega)
   have x0 := cell_keep hbr (g _ _ m0)
   have x1 := cell_keep hbr (g _ _ m1)
   have x2 := cell_keep hbr (g _ _ m2)
   have x3 := cell_keep hbr (g _ _ m3)
   have y0 := cell_keep hbr (g' _ _ k0)
   have y1 := cell_keep hbr (g' _ _ k1)
   have y2 := cell_keep hbr (g' _ _ k2)
   have y3 := cell_keep hbr (g' _ _ k3)
   rw [← Nat.add_assoc] at x1 x2 x3 y1 y2 y3
   clear m0 m1 m2 m3 k0 k1 k2 k3
   have i0 : (0 : Int) ≤ (i : Int) := by omega
   have i1 : (i : Int) < (l.length : Int) := by omega
   have hpl : p' < wr.heap.size := lt_of_cell y0
   have hsz := size_part hlt e
   have hbz := hbr.size
   have hbA : Below w.heap.size w ((wr.alloc (teObj op' n' s' (.slice oo es.length cc))).alloc (teObj op' n' s' (.slice oo' es.length cc'))) := (hbr.alloc hbz _).alloc (by simp; omega) _
   have Hr : Hid (Calls Tryz.prog 147 #[.agg #[.string op', .int .i64 n', .string s', .slice oo es.length cc], .agg #[.string op', .int .i64 n', .string s', .slice oo' es.length cc']] ((wr.alloc (teObj op' n' s' (.slice oo es.length cc))).alloc (teObj op' n' s' (.slice oo' es.length cc'))) fun e w' => e = .returned (.bool true) ∧ Below ((wr.alloc (teObj op' n' s' (.slice oo es.length cc))).alloc (teObj op' n' s' (.slice oo' es.length cc'))).heap.size ((wr.alloc (teObj op' n' s' (.slice oo es.length cc))).alloc (teObj op' n' s' (.slice oo' es.length cc'))) w') := HI.out op' n' s' es (by omega) ((wr.alloc (teObj op' n' s' (.slice oo es.length cc))).alloc (teObj op' n' s' (.slice oo' es.length cc'))) S S' oo oo' cc cc' zs zs' (r1.keep (Stays.below hbA (fun k hk => hk))) (r2.keep (Stays.below hbA (fun k hk => hk))) (r3.keep (Stays.below hbA (fun k hk => hk))) (r4.keep (Stays.below hbA (fun k hk => hk)))
   clear g g' r1 r2 r3 r4 hsz
   go_wp2_with fail
   refine Hr.out.mono ?_
   rintro e w4 ⟨rfl, hb4⟩
   go_wp2
   exact ⟨⟨i + 1, by omega, by go_num, hbA.trans (hb4.mono (by simp; omega))⟩, by simp [intOf]; omega⟩
  ·go_wp2
   go_ret
   exact ⟨rfl, hbr⟩

set_option maxRecDepth 100000 in
set_option maxHeartbeats 1000000 in
theorem alikeTerms_any : ∀ (m : Nat), AlikeT m
 | 0 => fun _ _ _ _ h => absurd h (Nat.not_lt_zero _)
 | m + 1 => by
  intro op n s l hm w S S' o o' c c' ys ys' h1 h2 h3 h4
  have IH := alikeTerms_any m
  have hbA : Below w.heap.size w ((w.alloc (teObj op n s (.slice o l.length c))).alloc (teObj op n s (.slice o' l.length c'))) := ((Below.refl _ _).alloc (Nat.le_refl _) _).alloc (by simp) _
  have h1 := h1.keep (Stays.below hbA (fun k hk => hk))
  have h2 := h2.keep (Stays.below hbA (fun k hk => hk))
  have h3 := h3.keep (Stays.below hbA (fun k hk => hk))
  have h4 := h4.keep (Stays.below hbA (fun k hk => hk))
  have Hr : Hid (Calls Tryz.prog 163 #[.slice o l.length c, .slice o' l.length c', .func (.func 147) #[] #[]] ((w.alloc (teObj op n s (.slice o l.length c))).alloc (teObj op n s (.slice o' l.length c'))) fun e w' => e = .returned (.bool true) ∧ Below ((w.alloc (teObj op n s (.slice o l.length c))).alloc (teObj op n s (.slice o' l.length c'))).heap.size ((w.alloc (teObj op n s (.slice o l.length c))).alloc (teObj op n s (.slice o' l.length c'))) w') := eqfE_any m IH l hm _ S S' o o' c c' ys ys' h1 h2 h3 h4
  clear h1 h2 h3 h4 IH
  go_enter Tryz.func147, Tryz.ntmps147
  go_wp2_with fail
  refine Hr.out.mono ?_
  rintro e w4 ⟨rfl, hb4⟩
  go_wp2
  go_ret
  exact ⟨rfl, hbA.trans (hb4.mono (by simp; omega))⟩
end Go.Proofs.YtgbpccipdcajgaaGreatDoor
namespace Go.Proofs.YtgbpccipdcajgaaGreatDoor
structure Has (s : ByteArray) (i : Nat) (x : List UInt8) : Prop where
 le : i + x.length ≤ s.size
 at' : ∀ k (h : k < x.length), byteI s (i + k) = (x[k].toNat : Int)
theorem Has.split {s : ByteArray} {i : Nat} {x y : List UInt8} (h : Has s i (x ++ y)) : Has s i x ∧ Has s (i + x.length) y := by
 have hl := h.le
 rw [List.length_append] at hl
 refine ⟨⟨by omega, fun k hk => ?_⟩, ⟨by omega, fun k hk => ?_⟩⟩
 ·have := h.at' k (by rw [List.length_append]; omega)
  rwa [List.getElem_append_left hk] at this
 ·have := h.at' (x.length + k) (by rw [List.length_append]; omega)
  rw [List.getElem_append_right (by omega)] at this
  rw [Nat.add_assoc, this]
  simp
theorem Has.head {s : ByteArray} {i : Nat} {c : UInt8} {x : List UInt8} (h : Has s i (c :: x)) : i < s.size ∧ byteI s i = (c.toNat : Int) := by
 have := h.le
 rw [List.length_cons] at this
 exact ⟨by omega, h.at' 0 (by simp)⟩
theorem Has.tail {s : ByteArray} {i : Nat} {c : UInt8} {x : List UInt8} (h : Has s i (c :: x)) : Has s (i + 1) x := (Has.split (x := [c]) (y := x) h).2
theorem Has.text {s : ByteArray} {i : Nat} {x : List UInt8} (h : Has s i x) : s.extract i (i + x.length) = sOf x := by
 have hl := h.le
 have hd : s.data.toList.length = s.size := Array.length_toList
 apply ByteArray.ext
 apply Array.toList_inj.1
 rw [Lib.extract_data]
 show _ = x
 apply List.ext_getElem
 ·rw [List.length_take, List.length_drop]; omega
 ·intro k h1 h2
  rw [List.getElem_take, List.getElem_drop]
  have h3 := h.at' k h2
  rw [byteI_data s (i + k) (by omega)] at h3
  exact UInt8.toNat_inj.1 (by omega)
theorem sOf_bytes (s : ByteArray) : sOf s.toList = s := by rw [ByteArray.toList_eq]; rfl
theorem bytes_len (s : ByteArray) : s.toList.length = s.size := by rw [ByteArray.toList_eq]; exact Array.length_toList

structure Tok (s : ByteArray) (j : Nat) (kind text : ByteArray) (n : Nat) : Prop where
 le : j < s.size
 at' : TokAt s j kind text n
 com : comB s j = false
 blank : blankI (byteI s j) = false
 some : kind.toList.isEmpty = false
 more : (kind.toList == [101, 110, 100]) = false
theorem Reads.put {s : ByteArray} {l : List Tk} {i j n : Nat} {kind text : ByteArray} (R : Reads s l i) (hs : Skips s i j) (T : Tok s j kind text n) : Reads s (l ++ [⟨kind, text, j⟩]) (j + n) :=
 Reads.tok l i j n kind text R ⟨hs, by have := T.le; omega, fun _ => T.blank⟩ T.com T.at' T.some T.more
theorem com_no {s : ByteArray} {j : Nat} (h : byteI s j ≠ 45) : comB s j = false := by
 simp [comB, h]
theorem low_facts {c : Int} (h : lowI c = true) : c ≠ 45 ∧ blankI c = false := by
 simp only [lowI, Bool.and_eq_true, decide_eq_true_eq] at h
 refine ⟨by omega, ?_⟩
 simp only [blankI, Bool.or_eq_false_iff, beq_eq_false_iff_ne]
 omega
theorem dig_facts {c : Int} (h : digI c = true) : c ≠ 45 ∧ blankI c = false ∧ lowI c = false := by
 simp only [digI, Bool.and_eq_true, decide_eq_true_eq] at h
 refine ⟨by omega, ?_, ?_⟩
 ·simp only [blankI, Bool.or_eq_false_iff, beq_eq_false_iff_ne]
  omega
 ·simp only [lowI, Bool.and_eq_false_iff, decide_eq_false_iff_not]
  omega
theorem byteI_list {t : ByteArray} {k : Nat} (h : k < t.toList.length) : byteI t k = (t.toList[k].toNat : Int) := by
 have h1 : k < t.size := by rw [← bytes_len]; exact h
 rw [byteI_data t k h1]
 congr 2
 simp only [ByteArray.toList_eq]
theorem Tok.name {s t : ByteArray} {j : Nat} (ht : NmOk t) (H : Has s j t.toList) (stop : j + t.toList.length < s.size → nameI (byteI s (j + t.toList.length)) = false) : Tok s j kName t t.toList.length := by
 have hp := ht.pos
 have hn := bytes_len t
 have h0 : byteI s j = byteI t 0 := by
  rw [byteI_list (t := t) (k := 0) (by omega)]; exact H.at' 0 (by omega)
 have hlow : lowI (byteI s j) = true := by rw [h0]; exact ht.low
 have hr : IsRun nameI s j t.toList.length := ⟨H.le, fun k hk => by rw [H.at' k hk, ← byteI_list hk]; exact ht.all k (by omega), stop⟩
 have hle := H.le
 have T := TokAt.low (s := s) (j := j) t.toList.length (by omega) hlow hr
 rw [H.text, sOf_bytes] at T
 have hk : nameK t = kName := by
  have := ht.len
  simp only [nameK, ht.word]
  rw [if_neg (by omega), if_neg Bool.false_ne_true]
 rw [hk] at T
 exact ⟨by omega, T, com_no (low_facts hlow).1, (low_facts hlow).2, by rw [ByteArray.toList_eq]; rfl, by rw [ByteArray.toList_eq]; rfl⟩
theorem Tok.int {s t : ByteArray} {j : Nat} {n : Int} (ht : IntOk t n) (H : Has s j t.toList) (stop : j + t.toList.length < s.size → nameI (byteI s (j + t.toList.length)) = false) : Tok s j kInt t t.toList.length := by
 have hp := ht.pos
 have hn := bytes_len t
 have h0 : byteI s j = byteI t 0 := by
  rw [byteI_list (t := t) (k := 0) (by omega)]; exact H.at' 0 (by omega)
 have hdig : digI (byteI s j) = true := by rw [h0]; exact ht.all 0 hp
 have hr : IsRun digI s j t.toList.length := ⟨H.le, fun k hk => by rw [H.at' k hk, ← byteI_list hk]; exact ht.all k (by omega), fun h => by
  have := stop h
  simp only [nameI, Bool.or_eq_false_iff] at this
  exact this.1.2⟩
 have hle := H.le
 have T := TokAt.dig (s := s) (j := j) t.toList.length (by omega) (dig_facts hdig).2.2 hdig hr
 rw [H.text, sOf_bytes] at T
 have hk : intK t = kInt := by simp [intK, ht.ok]
 rw [hk] at T
 exact ⟨by omega, T, com_no (dig_facts hdig).1, (dig_facts hdig).2.1, by rw [ByteArray.toList_eq]; rfl, by rw [ByteArray.toList_eq]; rfl⟩
theorem word_facts : ∀ x ∈ wordL, 0 < x.length ∧ x.length ≤ 12 ∧ ∀ c ∈ x, lowI c.toNat = true := by decide
theorem Tok.word {s : ByteArray} {x : List UInt8} {j : Nat} (hx : x ∈ wordL) (H : Has s j x) (stop : j + x.length < s.size → nameI (byteI s (j + x.length)) = false) : Tok s j kWord (sOf x) x.length := by
 obtain ⟨hp, hl, hc⟩ := word_facts x hx
 have hle := H.le
 have hlow : lowI (byteI s j) = true := by
  have := H.at' 0 hp
  rw [Nat.add_zero] at this
  rw [this]; exact hc _ (List.getElem_mem hp)
 have hr : IsRun nameI s j x.length := ⟨H.le, fun k hk => by rw [H.at' k hk]; exact low_name (hc _ (List.getElem_mem hk)), stop⟩
 have T := TokAt.low (s := s) (j := j) x.length (by omega) hlow hr
 rw [H.text] at T
 have hk : nameK (sOf x) = kWord := by
  have h1 : (sOf x).size = x.length := by rw [← bytes_len, sOf_list]
  have h2 : wordB (sOf x) = true := by
   rw [wordB, List.any_eq_true]
   exact ⟨x, hx, by rw [sOf_list]; exact beq_self_eq_true x⟩
  simp only [nameK, h1, h2]
  rw [if_neg (by omega), if_pos trivial]
 rw [hk] at T
 exact ⟨by omega, T, com_no (low_facts hlow).1, (low_facts hlow).2, by rw [ByteArray.toList_eq]; rfl, by rw [ByteArray.toList_eq]; rfl⟩
theorem rest_list {s : ByteArray} {j : Nat} (h : j ≤ s.size) : (s.extract j s.size).size = s.size - j ∧ ∀ k, j + k < s.size → byteI (s.extract j s.size) k = byteI s (j + k) := by
 have hz : (s.extract j s.size).size = s.size - j := by rw [ByteArray.size_extract]; omega
 refine ⟨hz, fun k hk => ?_⟩
 have hd : s.data.toList.length = s.size := Array.length_toList
 rw [byteI_data _ k (by omega), byteI_data s (j + k) hk]
 congr 2
 simp only [Lib.extract_data]
 rw [List.getElem_take, List.getElem_drop]
theorem two_list {r : ByteArray} (h : 1 < r.size) : ∃ a b : UInt8, (r.extract 0 2).toList = [a, b] ∧ byteI r 0 = (a.toNat : Int) ∧ byteI r 1 = (b.toNat : Int) := by
 have hd : r.data.toList.length = r.size := Array.length_toList
 refine ⟨r.data.toList[0], r.data.toList[1], ?_, byteI_data r 0 (by omega), byteI_data r 1 h⟩
 rw [ByteArray.toList_eq, Lib.extract_data]
 apply List.ext_getElem
 ·rw [List.length_take, List.length_drop]; simp; omega
 ·intro k h1 h2
  rw [List.getElem_take, List.getElem_drop]
  simp only [List.length_cons, List.length_nil] at h2
  match k, h2 with
  | 0, _ => rfl
  | 1, _ => rfl
theorem one_facts : ∀ c ∈ oneL, lowI c.toNat = false ∧ digI c.toNat = false ∧ blankI c.toNat = false ∧ 0 ≤ Lib.indexByte oneL c := by decide
theorem opK_kOp {x : List UInt8} (hx : x ≠ []) : opK (sOf x) = kOp := by
 rw [opK, sOf_list, if_neg (by simpa using hx)]
theorem Tok.op1 {s : ByteArray} {c : UInt8} {j : Nat} (hc : c ∈ oneL) (H : Has s j [c]) (nx : ∀ b : UInt8, j + 1 < s.size → byteI s (j + 1) = (b.toNat : Int) → [c, b] ∉ twoL ∧ ¬ (c = 45 ∧ b = 45)) : Tok s j kOp (sOf [c]) 1 := by
 obtain ⟨hj, hb⟩ := H.head
 obtain ⟨f1, f2, f3, f4⟩ := one_facts c hc
 obtain ⟨rz, rb⟩ := rest_list (s := s) (j := j) (by omega)
 have h2 : twoB (s.extract j s.size) = false := by
  by_cases h1 : 1 < (s.extract j s.size).size
  ·obtain ⟨a, b, e, ea, eb⟩ := two_list h1
   rw [rb 0 (by omega)] at ea
   rw [rb 1 (by omega)] at eb
   rw [Nat.add_zero, hb] at ea
   have hac : c = a := UInt8.toNat_inj.1 (by omega)
   subst hac
   have := (nx b (by omega) eb).1
   simp only [twoB, h1, decide_true, Bool.true_and]
   rw [List.any_eq_false]
   intro y hy
   rw [e]
   intro hyy
   exact this (by rw [beq_iff_eq] at hyy; rw [hyy]; exact hy)
  ·exact twoB_short (by omega)
 have h1 : oneB (s.extract j s.size) = true := by
  have hz : 0 < (s.extract j s.size).size := by omega
  rw [oneB, dif_pos hz]
  have e0 : (s.extract j s.size)[0] = c := by
   have := rb 0 (by omega)
   rw [byteI_lt hz, Nat.add_zero, hb] at this
   exact UInt8.toNat_inj.1 (by omega)
  rw [e0]
  exact decide_eq_true f4
 have T := TokAt.op (s := s) (j := j) 1 hj (by rw [hb]; exact f1) (by rw [hb]; exact f2) (opN_one h2 h1).symm
 have ht : s.extract j (j + 1) = sOf [c] := H.text
 rw [ht, opK_kOp (by simp)] at T
 refine ⟨hj, T, ?_, by rw [hb]; exact f3, by rw [ByteArray.toList_eq]; rfl, by rw [ByteArray.toList_eq]; rfl⟩
 by_cases h45 : c = 45
 ·by_cases hj1 : j + 1 < s.size
  ·have hx : (byteI s (j + 1) == 45) = false := by
    rw [beq_eq_false_iff_ne]
    intro e
    exact (nx 45 hj1 (by rw [e]; rfl)).2 ⟨h45, rfl⟩
   simp [comB, hx]
  ·simp [comB, hj1]
 ·refine com_no ?_
  rw [hb]
  intro e
  exact h45 (UInt8.toNat_inj.1 (by have : (45 : UInt8).toNat = 45 := rfl; omega))
theorem two_facts : ∀ x ∈ twoL, ∃ a b, x = [a, b] ∧ lowI a.toNat = false ∧ digI a.toNat = false ∧ blankI a.toNat = false ∧ ¬ (a = 45 ∧ b = 45) := by
 intro x hx
 simp only [twoL, List.mem_cons, List.not_mem_nil, or_false] at hx
 rcases hx with rfl | rfl | rfl | rfl | rfl <;> exact ⟨_, _, rfl, by decide, by decide, by decide, by decide⟩
theorem Tok.op2 {s : ByteArray} {x : List UInt8} {j : Nat} (hx : x ∈ twoL) (H : Has s j x) : Tok s j kOp (sOf x) x.length := by
 obtain ⟨a, b, rfl, f1, f2, f3, f4⟩ := two_facts x hx
 obtain ⟨hj, hb⟩ := H.head
 obtain ⟨hj1, hb1⟩ := H.tail.head
 obtain ⟨rz, rb⟩ := rest_list (s := s) (j := j) (by omega)
 have h2 : twoB (s.extract j s.size) = true := by
  have h1 : 1 < (s.extract j s.size).size := by omega
  obtain ⟨a', b', e, ea, eb⟩ := two_list h1
  rw [rb 0 (by omega), Nat.add_zero, hb] at ea
  rw [rb 1 (by omega), hb1] at eb
  have e1 : a = a' := UInt8.toNat_inj.1 (by omega)
  have e2 : b = b' := UInt8.toNat_inj.1 (by omega)
  subst e1 e2
  simp only [twoB, h1, decide_true, Bool.true_and]
  rw [List.any_eq_true]
  exact ⟨_, hx, by rw [e]; exact beq_self_eq_true _⟩
 have T := TokAt.op (s := s) (j := j) 2 hj (by rw [hb]; exact f1) (by rw [hb]; exact f2) (opN_two h2).symm
 have ht : s.extract j (j + 2) = sOf [a, b] := H.text
 rw [ht, opK_kOp (by simp)] at T
 refine ⟨hj, T, ?_, by rw [hb]; exact f3, by rw [ByteArray.toList_eq]; rfl, by rw [ByteArray.toList_eq]; rfl⟩
 by_cases h45 : a = 45
 ·have hx : (byteI s (j + 1) == 45) = false := by
   rw [beq_eq_false_iff_ne, hb1]
   intro e
   exact f4 ⟨h45, UInt8.toNat_inj.1 (by have : (45 : UInt8).toNat = 45 := rfl; omega)⟩
  simp [comB, hx]
 ·refine com_no ?_
  rw [hb]
  intro e
  exact h45 (UInt8.toNat_inj.1 (by have : (45 : UInt8).toNat = 45 := rfl; omega))

def Lx (P : Int → Bool) (p : List Pc) (x : List UInt8) : Prop := ∀ (s : ByteArray) (l : List Tk) (i0 i : Nat), Reads s l i0 → Skips s i0 i → Has s i x → (i + x.length < s.size → P (byteI s (i + x.length)) = true) →
 ∃ ts : List Tk, Reads s (l ++ ts) (i + x.length) ∧ ts.map (fun t => (t.kind, t.text)) = p
def anyI (_ : Int) : Bool := true
def offI (c : Int) : Bool := !nameI c
def gapI (c : Int) : Bool := c == 32
def numI (c : Int) : Bool := c != 45 && c != 62
theorem Lx.mono {P Q : Int → Bool} {p : List Pc} {x : List UInt8} (h : Lx P p x) (hq : ∀ c, Q c = true → P c = true) : Lx Q p x := fun s l i0 i R S H st => h s l i0 i R S H fun g => hq _ (st g)
theorem Lx.seq {P Q : Int → Bool} {p q : List Pc} {x y : List UInt8} (h : Lx P p x) (g : Lx Q q y) (hy : ∃ c r, y = c :: r ∧ P (c.toNat : Int) = true) : Lx Q (p ++ q) (x ++ y) := by
 intro s l i0 i R S H st
 obtain ⟨c, r, rfl, hc⟩ := hy
 obtain ⟨H1, H2⟩ := H.split
 obtain ⟨ts, R1, e1⟩ := h s l i0 i R S H1 fun _ => by rw [H2.head.2]; exact hc
 rw [List.length_append, ← Nat.add_assoc] at st ⊢
 obtain ⟨us, R2, e2⟩ := g s _ _ _ R1 (.refl _) H2 st
 exact ⟨ts ++ us, by rw [← List.append_assoc]; exact R2, by rw [List.map_append, e1, e2]⟩
theorem Lx.gap {P Q : Int → Bool} {p q : List Pc} {x y : List UInt8} (h : Lx P p x) (g : Lx Q q y) (hp : P 32 = true) : Lx Q (p ++ q) (x ++ (32 :: y)) := by
 intro s l i0 i R S H st
 obtain ⟨H1, H2⟩ := H.split
 obtain ⟨hlt, hb⟩ := H2.head
 have hb' : byteI s (i + x.length) = 32 := hb
 obtain ⟨ts, R1, e1⟩ := h s l i0 i R S H1 fun _ => by rw [hb']; exact hp
 have el : i + (x ++ (32 :: y)).length = i + x.length + 1 + y.length := by rw [List.length_append, List.length_cons]; omega
 rw [el] at st ⊢
 obtain ⟨us, R2, e2⟩ := g s _ _ _ R1 (.blank _ _ hlt (by rw [hb']; rfl) (.refl _)) H2.tail st
 exact ⟨ts ++ us, by rw [← List.append_assoc]; exact R2, by rw [List.map_append, e1, e2]⟩
theorem Lx.name {t : ByteArray} (ht : NmOk t) : Lx offI [nameP t] t.toList := fun s l i0 i R S H st =>
 ⟨[⟨kName, t, i⟩], R.put S (Tok.name ht H fun g => by simpa [offI] using st g), rfl⟩
theorem Lx.int {t : ByteArray} {n : Int} (ht : IntOk t n) : Lx offI [intP t] t.toList := fun s l i0 i R S H st =>
 ⟨[⟨kInt, t, i⟩], R.put S (Tok.int ht H fun g => by simpa [offI] using st g), rfl⟩
theorem Lx.word {x : List UInt8} (hx : x ∈ wordL) : Lx offI [wordP x] x := fun s l i0 i R S H st =>
 ⟨[⟨kWord, sOf x, i⟩], R.put S (Tok.word hx H fun g => by simpa [offI] using st g), rfl⟩
theorem Lx.op2 {x : List UInt8} (hx : x ∈ twoL) : Lx anyI [opP x] x := fun _ _ _ i R S H _ =>
 ⟨[⟨kOp, sOf x, i⟩], R.put S (Tok.op2 hx H), rfl⟩
theorem single_facts : ∀ c ∈ oneL, c ≠ 60 → c ≠ 62 → c ≠ 61 → c ≠ 45 → ∀ x ∈ twoL, x.head? ≠ some c := by decide
theorem gap_facts : ∀ c ∈ oneL, [c, 32] ∉ twoL := by decide
theorem Lx.op1 {c : UInt8} (hc : c ∈ oneL) (h1 : c ≠ 60) (h2 : c ≠ 62) (h3 : c ≠ 61) (h4 : c ≠ 45) : Lx anyI [opP [c]] [c] := fun _ _ _ i R S H _ =>
 ⟨[⟨kOp, sOf [c], i⟩], R.put S (Tok.op1 hc H fun _ _ _ => ⟨fun hm => single_facts c hc h1 h2 h3 h4 _ hm rfl, fun h => h4 h.1⟩), rfl⟩
theorem Lx.opG {c : UInt8} (hc : c ∈ oneL) : Lx gapI [opP [c]] [c] := fun s _ _ i R S H st =>
 ⟨[⟨kOp, sOf [c], i⟩], R.put S (Tok.op1 hc H fun b hj hb => by
  have h32 : byteI s (i + 1) = 32 := by simpa [gapI] using st hj
  rw [h32] at hb
  obtain rfl : b = 32 := UInt8.toNat_inj.1 (by have : (32 : UInt8).toNat = 32 := rfl; omega)
  exact ⟨gap_facts c hc, fun h => by cases h.2⟩), rfl⟩
theorem minus_facts : ∀ b : UInt8, b ≠ 45 → b ≠ 62 → [45, b] ∉ twoL := by
 intro b h1 h2 hm
 simp only [twoL, List.mem_cons, List.cons.injEq, List.not_mem_nil, or_false, and_true] at hm
 rcases hm with h | h | h | h | h
 ·exact absurd h.1 (by decide)
 ·exact absurd h.1 (by decide)
 ·exact absurd h.1 (by decide)
 ·exact absurd h.1 (by decide)
 ·exact h2 h.2
theorem Lx.minus : Lx numI [opP tMinus] tMinus := fun s _ _ i R S H st =>
 ⟨[⟨kOp, sOf [45], i⟩], R.put S (Tok.op1 (by decide) H fun b hj hb => by
  have h32 : byteI s (i + 1) ≠ 45 ∧ byteI s (i + 1) ≠ 62 := by simpa [numI, tMinus] using st hj
  rw [hb] at h32
  have e1 : b ≠ 45 := fun e => h32.1 (by rw [e]; rfl)
  have e2 : b ≠ 62 := fun e => h32.2 (by rw [e]; rfl)
  exact ⟨minus_facts b e1 e2, fun h => e1 h.2⟩), rfl⟩
theorem Lx.piece {y : List UInt8} (hy : y ∈ [tArrow, tFby, tOr, tXor, tAnd, tPlus, tMinus, tMul, tDiv, tMod, tEq, tNe, tLt, tLe, tGt, tGe, tImp]) : Lx gapI [piece y] y := by
 have go : ∀ c, gapI c = true → offI c = true := fun c h => by
  have : c = 32 := by simpa [gapI] using h
  rw [this]; rfl
 have ga : ∀ c, gapI c = true → anyI c = true := fun _ _ => rfl
 simp only [List.mem_cons, List.not_mem_nil, or_false] at hy
 rcases hy with rfl | rfl | rfl | rfl | rfl | rfl | rfl | rfl | rfl | rfl | rfl | rfl | rfl | rfl | rfl | rfl | rfl
 ·exact (Lx.op2 (by decide)).mono ga
 ·exact (Lx.word (by decide)).mono go
 ·exact (Lx.word (by decide)).mono go
 ·exact (Lx.word (by decide)).mono go
 ·exact (Lx.word (by decide)).mono go
 ·exact Lx.opG (by decide)
 ·exact Lx.opG (by decide)
 ·exact Lx.opG (by decide)
 ·exact Lx.opG (by decide)
 ·exact (Lx.word (by decide)).mono go
 ·exact Lx.opG (by decide)
 ·exact (Lx.op2 (by decide)).mono ga
 ·exact Lx.opG (by decide)
 ·exact (Lx.op2 (by decide)).mono ga
 ·exact Lx.opG (by decide)
 ·exact (Lx.op2 (by decide)).mono ga
 ·exact (Lx.op2 (by decide)).mono ga

theorem Pr.head {L k : Nat} {e : Ex} {p : List Pc} {x : List UInt8} (h : Pr L e k p x) : ∃ c y, x = c :: y ∧ c ≠ 62 := by
 have nm : ∀ {s : ByteArray}, NmOk s → ∃ c y, s.toList = c :: y ∧ c ≠ 62 := fun {s} hs => by
  have hl := bytes_len s
  have hp := hs.pos
  have h0 := hs.low
  rw [byteI_list (by omega)] at h0
  rcases hx : s.toList with _ | ⟨c, y⟩
  ·rw [hx] at hl; simp at hl; omega
  ·refine ⟨c, y, rfl, fun e => ?_⟩
   subst e
   simp only [hx, List.getElem_cons_zero] at h0
   cases h0
 induction h with
 | brk => exact ⟨40, _, rfl, by decide⟩
 | int L t n _ ht =>
  have hl := bytes_len t
  have hp := ht.pos
  have h0 := ht.all 0 hp
  rw [byteI_list (by omega)] at h0
  rcases hx : t.toList with _ | ⟨c, y⟩
  ·rw [hx] at hl; simp at hl; omega
  ·refine ⟨c, y, rfl, fun e => ?_⟩
   subst e
   simp only [hx, List.getElem_cons_zero] at h0
   cases h0
 | bool L y _ hy =>
  simp only [List.mem_cons, List.not_mem_nil, or_false] at hy
  rcases hy with rfl | rfl <;> exact ⟨_, _, rfl, by decide⟩
 | name L s _ hs => exact nm hs
 | call L s ps _ hs _ _ =>
  obtain ⟨c, y, hx, hc⟩ := nm hs
  exact ⟨c, _, by rw [hx]; rfl, hc⟩
 | cond => exact ⟨105, _, rfl, by decide⟩
 | arrow y a b ka kb pa pb xa xb _ _ _ iha _ => obtain ⟨t, q, rfl, hf⟩ := iha; exact ⟨t, _, rfl, hf⟩
 | left L v y a b ka kb pa pb xa xb hl _ _ _ iha _ => obtain ⟨t, q, rfl, hf⟩ := iha; exact ⟨t, _, rfl, hf⟩
 | cmp L y a b ka kb pa pb xa xb hl _ _ _ iha _ => obtain ⟨t, q, rfl, hf⟩ := iha; exact ⟨t, _, rfl, hf⟩
 | not => exact ⟨110, _, rfl, by decide⟩
 | neg => exact ⟨45, _, rfl, by decide⟩
 | pre => exact ⟨112, _, rfl, by decide⟩
theorem joinX_lex : ∀ (ps : List Part), ps ≠ [] → (∀ q ∈ ps, Lx offI q.2.2.1 q.2.2.2) → (∀ q ∈ ps, q.2.2.2 ≠ []) → Lx offI (joinC ps) (joinX ps) ∧ joinX ps ≠ []
 | [], h, _, _ => absurd rfl h
 | [q], _, ih, hn => ⟨ih q List.mem_cons_self, hn q List.mem_cons_self⟩
 | q :: r :: t, _, ih, hn => by
  obtain ⟨h1, _⟩ := joinX_lex (r :: t) (by simp) (fun z hz => ih z (List.mem_cons_of_mem _ hz)) (fun z hz => hn z (List.mem_cons_of_mem _ hz))
  have h2 : Lx offI ([opP tComma] ++ joinC (r :: t)) (tComma ++ (32 :: joinX (r :: t))) := Lx.gap (Lx.op1 (by decide) (by decide) (by decide) (by decide) (by decide)) h1 rfl
  refine ⟨Lx.seq (ih q List.mem_cons_self) h2 ⟨44, _, rfl, rfl⟩, ?_⟩
  intro h
  exact hn q List.mem_cons_self (List.append_eq_nil_iff.1 h).1
theorem Pr.lex {L k : Nat} {e : Ex} {p : List Pc} {x : List UInt8} (h : Pr L e k p x) : Lx offI p x := by
 have hopen : Lx anyI [opP tOpen] tOpen := Lx.op1 (by decide) (by decide) (by decide) (by decide) (by decide)
 have hshut : Lx offI [opP tShut] tShut := (Lx.op1 (by decide) (by decide) (by decide) (by decide) (by decide)).mono fun _ _ => rfl
 have bin : ∀ {y : List UInt8} {pa pb : List Pc} {xa xb : List UInt8}, y ∈ [tArrow, tFby, tOr, tXor, tAnd, tPlus, tMinus, tMul, tDiv, tMod, tEq, tNe, tLt, tLe, tGt, tGe, tImp] → Lx offI pa xa → Lx offI pb xb → Lx offI (pa ++ Go.Proofs.YtgbpccipdcajgaaGreatDoor.piece y :: pb) (xa ++ (32 :: (y ++ (32 :: xb)))) := fun hy ha hb =>
  Lx.gap (q := Go.Proofs.YtgbpccipdcajgaaGreatDoor.piece _ :: _) ha (Lx.gap (p := [Go.Proofs.YtgbpccipdcajgaaGreatDoor.piece _]) (Lx.piece hy) hb rfl) rfl
 induction h with
 | brk L k e p x _ hp ih =>
  obtain ⟨c, y, hx, _⟩ := hp.head
  refine Lx.seq (p := [opP tOpen]) hopen (Lx.seq ih hshut ⟨41, _, rfl, rfl⟩) ⟨c, y ++ tShut, by rw [hx]; rfl, rfl⟩
 | int L t n _ ht => exact Lx.int ht
 | bool L y _ hy => exact Lx.word (by revert y; decide)
 | name L s _ hs => exact Lx.name hs
 | call L s ps _ hs hp ih =>
  by_cases he : ps = []
  ·subst he
   exact Lx.seq (p := [nameP s]) (Lx.name hs) (Lx.seq (p := [opP tOpen]) hopen hshut ⟨41, _, rfl, rfl⟩) ⟨40, _, rfl, rfl⟩
  ·obtain ⟨h1, h2⟩ := joinX_lex ps he (fun q hq => ih q hq) fun q hq => by
    obtain ⟨c, y, hx, _⟩ := (hp q hq).head
    rw [hx]; simp
   obtain ⟨c, y, hc⟩ := List.exists_cons_of_ne_nil h2
   exact Lx.seq (p := [nameP s]) (Lx.name hs) (Lx.seq (p := [opP tOpen]) hopen (Lx.seq h1 hshut ⟨41, _, rfl, rfl⟩) ⟨c, y ++ tShut, by rw [hc]; rfl, rfl⟩) ⟨40, _, rfl, rfl⟩
 | cond a b c ka kb kc pa pb pc xa xb xc _ _ _ iha ihb ihc =>
  exact Lx.gap (p := [wordP tIf]) (Lx.word (by decide)) (Lx.gap iha (Lx.gap (p := [wordP tThen]) (Lx.word (by decide)) (Lx.gap ihb (Lx.gap (p := [wordP tElse]) (Lx.word (by decide)) ihc rfl) rfl) rfl) rfl) rfl
 | arrow y a b ka kb pa pb xa xb hy _ _ iha ihb => exact bin (by revert y; decide) iha ihb
 | left L v y a b ka kb pa pb xa xb _ hy _ _ iha ihb => exact bin (by revert y; cases v <;> decide) iha ihb
 | cmp L y a b ka kb pa pb xa xb _ hy _ _ iha ihb => exact bin (by revert y; decide) iha ihb
 | not L a k p x _ _ ih => exact Lx.gap (p := [wordP tNot]) (Lx.word (by decide)) ih rfl
 | neg L a k p x _ h45 hp ih =>
  obtain ⟨c, y, hx, hc⟩ := hp.head
  refine Lx.seq (p := [opP tMinus]) Lx.minus ih ⟨c, y, hx, ?_⟩
  have h1 : c ≠ 45 := fun e => h45 (by rw [hx, e]; rfl)
  simp only [numI, Bool.and_eq_true, bne_iff_ne, ne_eq]
  refine ⟨fun e => h1 (UInt8.toNat_inj.1 (by have : (45 : UInt8).toNat = 45 := rfl; omega)), fun e => hc (UInt8.toNat_inj.1 (by have : (62 : UInt8).toNat = 62 := rfl; omega))⟩
 | pre L a k p x _ _ ih => exact Lx.gap (p := [wordP tPre]) (Lx.word (by decide)) ih rfl
theorem extract_byteN {s : ByteArray} {j n k : Nat} (hl : j + n ≤ s.size) (hk : k < n) : byteI (s.extract j (j + n)) k = byteI s (j + k) := by
 have hd : s.data.toList.length = s.size := Array.length_toList
 have hz : (s.extract j (j + n)).size = n := by rw [ByteArray.size_extract]; omega
 rw [byteI_data _ k (by omega), byteI_data s (j + k) (by omega)]
 congr 2
 simp only [Lib.extract_data]
 rw [List.getElem_take, List.getElem_drop]
theorem TokAt.name {s : ByteArray} {j n : Nat} {kind text : ByteArray} (h : TokAt s j kind text n) (hk : kind.toList = [110, 97, 109, 101]) : NmOk text := by
 cases h with
 | fin => rw [kEnd_list] at hk; cases hk
 | low n hj hlow r =>
  have hl := r.le
  have hz : (s.extract j (j + n)).size = n := by rw [ByteArray.size_extract]; omega
  have hn : 0 < n := by
   rcases Nat.eq_zero_or_pos n with h | h
   ·subst h
    have := r.stop (by omega)
    rw [Nat.add_zero, low_name hlow] at this; cases this
   ·exact h
  unfold nameK at hk
  split at hk
  ·rw [kNone_list] at hk; cases hk
  ·split at hk
   ·rw [ByteArray.toList_eq] at hk; cases hk
   ·rename_i h12 hw
    exact ⟨by omega, by omega, by rw [extract_byteN hl hn]; exact hlow, fun k hk => by rw [extract_byteN hl (by omega)]; exact r.all k (by omega), by simpa using hw⟩
 | dig n _ _ _ _ =>
  unfold intK at hk
  split at hk
  ·rw [ByteArray.toList_eq] at hk; cases hk
  ·rw [kNone_list] at hk; cases hk
 | op n _ _ _ _ =>
  unfold opK at hk
  split at hk
  ·rw [kNone_list] at hk; cases hk
  ·rw [ByteArray.toList_eq] at hk; cases hk
theorem Lexes.names {s : ByteArray} {i : Nat} {l : List Tk} {r : Option Nat} (h : Lexes s i l r) : ∀ t ∈ l, t.kind.toList = [110, 97, 109, 101] → NmOk t.text := by
 induction h with
 | fin i j n kind text S c T h0 h1 =>
  intro t ht hk
  simp only [List.mem_cons, List.not_mem_nil, or_false] at ht
  subst ht
  exact T.name hk
 | bad => intro t ht; cases ht
 | tok i j n kind text l r S c T h0 h1 _ ih =>
  intro t ht hk
  rcases List.mem_cons.1 ht with rfl | ht
  ·exact T.name hk
  ·exact ih t ht hk
def LexNm (l : List Tk) : Prop := ∀ i, isName l i = true → NmOk (tkx l i)
theorem Lexes.nm {s : ByteArray} {i : Nat} {l : List Tk} {r : Option Nat} (h : Lexes s i l r) : LexNm l := fun k hk => by
 have hlt := kind_lt hk (by simp)
 have e1 : tkk l k = l[k].kind := dif_pos hlt
 have e2 : tkx l k = l[k].text := dif_pos hlt
 rw [e2]
 refine h.names _ (List.getElem_mem hlt) ?_
 rw [isName, e1, beq_iff_eq] at hk
 exact hk

inductive NmT : Ex → Prop
 | mk (op : ByteArray) (n : Int) (s : ByteArray) (l : List Ex) : (op.toList = [110, 97, 109, 101] ∨ op.toList = [99, 97, 108, 108] → NmOk s) → (∀ e ∈ l, NmT e) → NmT (.mk op n s l)
def All (P : Ex → Prop) (l : List Ex) : Prop := ∀ e ∈ l, P e
theorem All.app {P : Ex → Prop} {a b : List Ex} (h : All P a) (g : All P b) : All P (a ++ b) := fun e he => (List.mem_append.1 he).elim (h e) (g e)
theorem All.one {P : Ex → Prop} {e : Ex} (h : P e) : All P [e] := fun x hx => by rw [List.mem_singleton.1 hx]; exact h
theorem All.nil {P : Ex → Prop} : All P [] := fun _ h => by cases h
section
variable {l : List Tk} {Q : List Ex → Prop} {i d : Nat}
theorem txs_text {ys : List (List UInt8)} (h : txs l i ys = true) : (tkx l i).toList ∈ ys := by
 rw [txs, List.any_eq_true] at h
 obtain ⟨y, hy, h⟩ := h
 rw [tx, beq_iff_eq] at h
 rw [h]; exact hy
theorem NmT.op {op : ByteArray} {es : List Ex} {n : Int} {ys : List (List UInt8)} (h : op.toList ∈ ys) (hy : ∀ y ∈ ys, y ≠ [110, 97, 109, 101] ∧ y ≠ [99, 97, 108, 108]) (he : All NmT es) : NmT (.mk op n b0 es) :=
 .mk _ _ _ _ (fun hc => hc.elim (fun e => absurd e (hy _ h).1) (fun e => absurd e (hy _ h).2)) he
end
end Go.Proofs.YtgbpccipdcajgaaGreatDoor
