/-
  package types: caught$1 BY CONTRACT: nothing was thrown; a wrong type was.
-/
import Derived.Test.YtpkgingjmgakbaaDoorP08
import Derived.Defers
import Derived.Recover
import Derived.Laws.Pointers
import Derived.Deep.DrawnRows
import Derived.Test.YtpkgingjmgakbaaDoorP05
import Derived.Test.YtpkgingjmgakbaaDoorP04
namespace Go.Proofs.YtpkgingjmgakbaaDoor
open Go.RowKit
attribute [local go_sem ↓] Go.wp_at_zero Go.wp_at_succ

set_option maxRecDepth 100000 in
theorem tcatch_idle (p : Addr) (w : World) :
    CallsD Tryd.prog 60 #[.pointer (some p)] .returning w fun e u' w' => e = .returned (.tuple #[]) ∧ u' = .returning ∧ w' = w := by
  refine callsD_of_wpS Tryd.func60 rfl fun c₀ cs hu => ?_
  apply wpS_seq
  apply wpS_region
  simp [wpOpsS, go_sem, recoverD, hu, Tryd.ntmps60, Exit.thenS]
  refine wpS_of_wp ?_
  have hf : #[Value.pointer (some p)] ++ (Array.replicate 20 undef).setIfInBounds 5 Value.nilIface = #[.pointer (some p), undef, undef, undef, undef, undef, .nilIface, undef, undef, undef, undef, undef, undef, undef, undef, undef, undef, undef, undef, undef, undef] := by kernel_rfl
  rw [hf]
  obtain ⟨Q, hQ⟩ : ∃ Q : Exit → Act → World → Prop, Q = fun e a' w' => bodyPostS Tryd.prog Tryd.f60 c₀ cs (fun e u' w' => e = Ending.returned (Value.tuple #[]) ∧ u' = FrameMode.returning ∧ w' = w) e a' (c₀ :: cs) w' := ⟨_, rfl⟩
  rw [← hQ]
  have HQ : Hid (Q = _) := hQ
  clear hQ hf
  go_wp2
  rw [HQ.out]
  cases c₀
  simp_all [bodyPostS, results, Tryd.results60]
/-- A wrong type, thrown. -/
def wrongT : Value := .iface 139 (.agg #[])
theorem wrongT_name (w : World) : (Instr.typeAssert (.iface 139 (.agg #[])) 20 138 true).run Tryd.prog w = .ok (.tuple #[.agg #[], .bool false]) w := by kernel_rfl
theorem wrongT_type (w : World) : (Instr.typeAssert (.iface 139 (.agg #[])) 20 139 true).run Tryd.prog w = .ok (.tuple #[.agg #[], .bool true]) w := by kernel_rfl
set_option maxRecDepth 100000 in
set_option maxHeartbeats 1000000 in
theorem tcatch_wrong (b : Nat) (v ev : Value) (older : List PanicEntry) (w : World) (hc : w.cell? ⟨b, 0, none⟩ = some v) (hz : w.frozen? ⟨b, 0, none⟩ = false) (he : w.cell? ⟨4, 0, none⟩ = some ev) (hev : ∃ t q, ev = .iface t q) :
    CallsD Tryd.prog 60 #[.pointer (some ⟨b, 0, none⟩)] (.panicking ({ v := wrongT, recovered := false } :: older)) w fun e u' w' =>
      e = .returned (.tuple #[]) ∧ u' = .panicking ({ v := wrongT, recovered := true } :: older) ∧ ∃ o, w' = (w.setCell ⟨b, 0, none⟩ ev).alloc o := by
  obtain ⟨et, eq, rfl⟩ := hev
  refine callsD_of_wpS Tryd.func60 rfl fun c₀ cs hu => ?_
  apply wpS_seq
  apply wpS_region
  simp [wpOpsS, go_sem, recoverD, hu, Tryd.ntmps60, Exit.thenS]
  refine wpS_of_wp ?_
  have hf : #[Value.pointer (some ⟨b, 0, none⟩)] ++ (Array.replicate 20 undef).setIfInBounds 5 wrongT = #[.pointer (some ⟨b, 0, none⟩), undef, undef, undef, undef, undef, .iface 139 (.agg #[]), undef, undef, undef, undef, undef, undef, undef, undef, undef, undef, undef, undef, undef, undef] := by kernel_rfl
  rw [hf]
  clear hf
  have h1 := wrongT_name
  have h2 := wrongT_type
  have hbl : b < w.heap.size := by
    rcases Nat.lt_or_ge b w.heap.size with h | h
    · exact h
    · simp [World.cell?, Array.getElem?_eq_none h] at hc
  have hel : 4 < w.heap.size := by
    rcases Nat.lt_or_ge 4 w.heap.size with h | h
    · exact h
    · simp [World.cell?, Array.getElem?_eq_none h] at he
  refine Code.wp_mono (Q := fun e a' w' => e = Exit.normal ∧ a'.defers = [] ∧ ∃ o, w' = (w.setCell ⟨b, 0, none⟩ (.iface et eq)).alloc o) ?_ ?_
  · rintro e a' w' ⟨rfl, hd, o, rfl⟩
    cases c₀
    simp_all [bodyPostS, results, Tryd.results60]
    exact ⟨o, rfl⟩
  · go_wp2
    exact ⟨_, rfl⟩
end Go.Proofs.YtpkgingjmgakbaaDoor

/-
  WHAT A LOOK INTO types.signs TELLS.
-/
namespace Go.Proofs.YtpkgingjmgakbaaDoor
open Go.RowKit Go.Maps

theorem FnAt.look {w : World} {b n : Nat} {f : List UInt8 → Option Value} (h : FnAt w b n f) {t e : TypeId} (ht : Tryd.prog.underlying t = some (.map 9 e)) {z : Value} (hz : (zeroValue e).run Tryd.prog w = .ok z w) (s : ByteArray) (hs : s.size ≤ maxLen) :
    (Instr.lookup t (.map (some b)) (.string s) true).run Tryd.prog w = .ok (.tuple #[(f s.data.toList).getD z, .bool (f s.data.toList).isSome]) w := by
  obtain ⟨D, h, k⟩ := h
  obtain ⟨v, ps, r1, r2⟩ := h.look_ok strKeyed ht hz (show heldE z = some (.held z, []) from rfl) (WideMaps.keyOf_string_mk Tryd.underlying9 hs)
  obtain ⟨k1, k2⟩ := k s.data.toList
  rw [r1, k1]
  have e1 : (DataW.held v : DataW Value) = D.atKey (.string s.data.toList) (.held z) := by
    have : some ((DataW.held v : DataW Value), ([] : List MemPlace)) = some (D.atKey (.string s.data.toList) (.held z), ps) := r2
    exact congrArg Prod.fst (Option.some.inj this)
  cases hf : f s.data.toList with
  | none =>
    rw [hf] at k1
    rw [atKey_of_not_has k1] at e1
    have e2 := DataW.held.inj e1
    rw [e2]; rfl
  | some v0 =>
    rw [k2 v0 (.held z) hf] at e1
    have e2 := DataW.held.inj e1
    rw [e2]; rfl
theorem fset_pos {f : List UInt8 → Option Value} {k s : List UInt8} {v : Value} (h : s = k) : fset f k v s = some v := by unfold fset; rw [if_pos h]
theorem fset_neg {f : List UInt8 → Option Value} {k s : List UInt8} {v : Value} (h : ¬ s = k) : fset f k v s = f s := by unfold fset; rw [if_neg h]
theorem ints_none (w : World) : IntsAt w (.slice none 0 0) [] := ⟨by unfold maxLen; simp, none, 0, rfl, fun k x hk => by simp at hk⟩
/-- The types that an operator takes, those that it gives. -/
def signRow (s : List UInt8) : Option (List Int × List Int) := if s = [105, 102] then some ([1, 0, 0], [0]) else if s = [102, 98, 121] then some ([0, 0], [0]) else if s = [45, 62] then some ([0, 0], [0]) else if s = [112, 114, 101] then some ([0], [0]) else if s = [60, 62] then some ([0, 0], [1]) else if s = [61] then some ([0, 0], [1]) else if s = [62, 61] then some ([2, 2], [1]) else if s = [62] then some ([2, 2], [1]) else if s = [60, 61] then some ([2, 2], [1]) else if s = [60] then some ([2, 2], [1]) else if s = [109, 111, 100] then some ([2, 2], [2]) else if s = [47] then some ([2, 2], [2]) else if s = [42] then some ([2, 2], [2]) else if s = [45] then some ([2, 2], [2]) else if s = [43] then some ([2, 2], [2]) else if s = [110, 101, 103] then some ([2], [2]) else if s = [61, 62] then some ([1, 1], [1]) else if s = [120, 111, 114] then some ([1, 1], [1]) else if s = [111, 114] then some ([1, 1], [1]) else if s = [97, 110, 100] then some ([1, 1], [1]) else if s = [110, 111, 116] then some ([1], [1]) else if s = [102, 97, 108, 115, 101] then some ([], [1]) else if s = [116, 114, 117, 101] then some ([], [1]) else if s = [105, 110, 116] then some ([], [2]) else none
theorem sign_look {B C : Nat} {w : World} (R : SignRows B C w) (s : List UInt8) : (signsF B C s = none ∧ signRow s = none) ∨ ∃ o1 c1 o2 c2 tk gv, signsF B C s = some (.agg #[.slice o1 tk.length c1, .slice o2 gv.length c2]) ∧ signRow s = some (tk, gv) ∧ IntsAt w (.slice o1 tk.length c1) tk ∧ IntsAt w (.slice o2 gv.length c2) gv ∧ tk.length ≤ 10 ∧ gv.length = 1 := by
  unfold signsF signRow
  by_cases h : s = [105, 102]
  · right
    rw [fset_pos h, if_pos h]
    exact ⟨_, _, _, _, [1, 0, 0], [0], rfl, rfl, ints_of_row (l := [1, 0, 0]) R.r6 (by decide), ints_of_row (l := [0]) R.r0 (by decide), by decide, by decide⟩
  rw [fset_neg h, if_neg h]
  clear h
  by_cases h : s = [102, 98, 121]
  · right
    rw [fset_pos h, if_pos h]
    exact ⟨_, _, _, _, [0, 0], [0], rfl, rfl, ints_of_row (l := [0, 0]) R.r1 (by decide), ints_of_row (l := [0]) R.r0 (by decide), by decide, by decide⟩
  rw [fset_neg h, if_neg h]
  clear h
  by_cases h : s = [45, 62]
  · right
    rw [fset_pos h, if_pos h]
    exact ⟨_, _, _, _, [0, 0], [0], rfl, rfl, ints_of_row (l := [0, 0]) R.r1 (by decide), ints_of_row (l := [0]) R.r0 (by decide), by decide, by decide⟩
  rw [fset_neg h, if_neg h]
  clear h
  by_cases h : s = [112, 114, 101]
  · right
    rw [fset_pos h, if_pos h]
    exact ⟨_, _, _, _, [0], [0], rfl, rfl, ints_of_row (l := [0]) R.r0 (by decide), ints_of_row (l := [0]) R.r0 (by decide), by decide, by decide⟩
  rw [fset_neg h, if_neg h]
  clear h
  by_cases h : s = [60, 62]
  · right
    rw [fset_pos h, if_pos h]
    exact ⟨_, _, _, _, [0, 0], [1], rfl, rfl, ints_of_row (l := [0, 0]) R.r1 (by decide), ints_of_row (l := [1]) R.r2 (by decide), by decide, by decide⟩
  rw [fset_neg h, if_neg h]
  clear h
  by_cases h : s = [61]
  · right
    rw [fset_pos h, if_pos h]
    exact ⟨_, _, _, _, [0, 0], [1], rfl, rfl, ints_of_row (l := [0, 0]) R.r1 (by decide), ints_of_row (l := [1]) R.r2 (by decide), by decide, by decide⟩
  rw [fset_neg h, if_neg h]
  clear h
  by_cases h : s = [62, 61]
  · right
    rw [fset_pos h, if_pos h]
    exact ⟨_, _, _, _, [2, 2], [1], rfl, rfl, ints_of_row (l := [2, 2]) R.r5 (by decide), ints_of_row (l := [1]) R.r2 (by decide), by decide, by decide⟩
  rw [fset_neg h, if_neg h]
  clear h
  by_cases h : s = [62]
  · right
    rw [fset_pos h, if_pos h]
    exact ⟨_, _, _, _, [2, 2], [1], rfl, rfl, ints_of_row (l := [2, 2]) R.r5 (by decide), ints_of_row (l := [1]) R.r2 (by decide), by decide, by decide⟩
  rw [fset_neg h, if_neg h]
  clear h
  by_cases h : s = [60, 61]
  · right
    rw [fset_pos h, if_pos h]
    exact ⟨_, _, _, _, [2, 2], [1], rfl, rfl, ints_of_row (l := [2, 2]) R.r5 (by decide), ints_of_row (l := [1]) R.r2 (by decide), by decide, by decide⟩
  rw [fset_neg h, if_neg h]
  clear h
  by_cases h : s = [60]
  · right
    rw [fset_pos h, if_pos h]
    exact ⟨_, _, _, _, [2, 2], [1], rfl, rfl, ints_of_row (l := [2, 2]) R.r5 (by decide), ints_of_row (l := [1]) R.r2 (by decide), by decide, by decide⟩
  rw [fset_neg h, if_neg h]
  clear h
  by_cases h : s = [109, 111, 100]
  · right
    rw [fset_pos h, if_pos h]
    exact ⟨_, _, _, _, [2, 2], [2], rfl, rfl, ints_of_row (l := [2, 2]) R.r5 (by decide), ints_of_row (l := [2]) R.r4 (by decide), by decide, by decide⟩
  rw [fset_neg h, if_neg h]
  clear h
  by_cases h : s = [47]
  · right
    rw [fset_pos h, if_pos h]
    exact ⟨_, _, _, _, [2, 2], [2], rfl, rfl, ints_of_row (l := [2, 2]) R.r5 (by decide), ints_of_row (l := [2]) R.r4 (by decide), by decide, by decide⟩
  rw [fset_neg h, if_neg h]
  clear h
  by_cases h : s = [42]
  · right
    rw [fset_pos h, if_pos h]
    exact ⟨_, _, _, _, [2, 2], [2], rfl, rfl, ints_of_row (l := [2, 2]) R.r5 (by decide), ints_of_row (l := [2]) R.r4 (by decide), by decide, by decide⟩
  rw [fset_neg h, if_neg h]
  clear h
  by_cases h : s = [45]
  · right
    rw [fset_pos h, if_pos h]
    exact ⟨_, _, _, _, [2, 2], [2], rfl, rfl, ints_of_row (l := [2, 2]) R.r5 (by decide), ints_of_row (l := [2]) R.r4 (by decide), by decide, by decide⟩
  rw [fset_neg h, if_neg h]
  clear h
  by_cases h : s = [43]
  · right
    rw [fset_pos h, if_pos h]
    exact ⟨_, _, _, _, [2, 2], [2], rfl, rfl, ints_of_row (l := [2, 2]) R.r5 (by decide), ints_of_row (l := [2]) R.r4 (by decide), by decide, by decide⟩
  rw [fset_neg h, if_neg h]
  clear h
  by_cases h : s = [110, 101, 103]
  · right
    rw [fset_pos h, if_pos h]
    exact ⟨_, _, _, _, [2], [2], rfl, rfl, ints_of_row (l := [2]) R.r4 (by decide), ints_of_row (l := [2]) R.r4 (by decide), by decide, by decide⟩
  rw [fset_neg h, if_neg h]
  clear h
  by_cases h : s = [61, 62]
  · right
    rw [fset_pos h, if_pos h]
    exact ⟨_, _, _, _, [1, 1], [1], rfl, rfl, ints_of_row (l := [1, 1]) R.r3 (by decide), ints_of_row (l := [1]) R.r2 (by decide), by decide, by decide⟩
  rw [fset_neg h, if_neg h]
  clear h
  by_cases h : s = [120, 111, 114]
  · right
    rw [fset_pos h, if_pos h]
    exact ⟨_, _, _, _, [1, 1], [1], rfl, rfl, ints_of_row (l := [1, 1]) R.r3 (by decide), ints_of_row (l := [1]) R.r2 (by decide), by decide, by decide⟩
  rw [fset_neg h, if_neg h]
  clear h
  by_cases h : s = [111, 114]
  · right
    rw [fset_pos h, if_pos h]
    exact ⟨_, _, _, _, [1, 1], [1], rfl, rfl, ints_of_row (l := [1, 1]) R.r3 (by decide), ints_of_row (l := [1]) R.r2 (by decide), by decide, by decide⟩
  rw [fset_neg h, if_neg h]
  clear h
  by_cases h : s = [97, 110, 100]
  · right
    rw [fset_pos h, if_pos h]
    exact ⟨_, _, _, _, [1, 1], [1], rfl, rfl, ints_of_row (l := [1, 1]) R.r3 (by decide), ints_of_row (l := [1]) R.r2 (by decide), by decide, by decide⟩
  rw [fset_neg h, if_neg h]
  clear h
  by_cases h : s = [110, 111, 116]
  · right
    rw [fset_pos h, if_pos h]
    exact ⟨_, _, _, _, [1], [1], rfl, rfl, ints_of_row (l := [1]) R.r2 (by decide), ints_of_row (l := [1]) R.r2 (by decide), by decide, by decide⟩
  rw [fset_neg h, if_neg h]
  clear h
  by_cases h : s = [102, 97, 108, 115, 101]
  · right
    rw [fset_pos h, if_pos h]
    exact ⟨_, _, _, _, [], [1], rfl, rfl, ints_none w, ints_of_row (l := [1]) R.r2 (by decide), by decide, by decide⟩
  rw [fset_neg h, if_neg h]
  clear h
  by_cases h : s = [116, 114, 117, 101]
  · right
    rw [fset_pos h, if_pos h]
    exact ⟨_, _, _, _, [], [1], rfl, rfl, ints_none w, ints_of_row (l := [1]) R.r2 (by decide), by decide, by decide⟩
  rw [fset_neg h, if_neg h]
  clear h
  by_cases h : s = [105, 110, 116]
  · right
    rw [fset_pos h, if_pos h]
    exact ⟨_, _, _, _, [], [2], rfl, rfl, ints_none w, ints_of_row (l := [2]) R.r4 (by decide), by decide, by decide⟩
  rw [fset_neg h, if_neg h]
  clear h
  exact .inl ⟨rfl, rfl⟩
end Go.Proofs.YtpkgingjmgakbaaDoor

/-
  TYPES OF TERMS WITHOUT CALLS, AS MATHEMATICS.
-/
namespace Go.Proofs.YtpkgingjmgakbaaDoor

/-- The type of what an operator makes of parts of such types. -/
def opK (op : List UInt8) (ps : List Int) : Option Int :=
  match signRow op with
  | none => none
  | some (tk, gv) => (fitK tk ps 0).map fun f => (giveK gv f).headD 0
/-- The letters of "name", "call". -/
def lName : List UInt8 := [110, 97, 109, 101]
def lCall : List UInt8 := [99, 97, 108, 108]
mutual
/-- A term's type, and those of all its parts, itself the last; none: a type is wrong. -/
def tyE (kd : List UInt8 → Option Int) : Ex → Option (Int × List Int)
  | .mk op _ s l =>
    if op.data.toList = lName then (kd s.data.toList).map fun k => (k, [k])
    else
      match tyL kd l with
      | none => none
      | some (ks, ps) => (opK op.data.toList ks).map fun k => (k, ps ++ [k])
/-- The types of terms, and those of all their parts. -/
def tyL (kd : List UInt8 → Option Int) : List Ex → Option (List Int × List Int)
  | [] => some ([], [])
  | e :: es =>
    match tyE kd e with
    | none => none
    | some (k, ps) =>
      match tyL kd es with
      | none => none
      | some (ks, qs) => some (k :: ks, ps ++ qs)
end
mutual
/-- A term that may stand in a flat program: operators that there are, of as many parts, names that there are; no calls. -/
def okE (kd : List UInt8 → Option Int) : Ex → Prop
  | .mk op _ s l => op.size ≤ maxLen ∧ s.size ≤ maxLen ∧ op.data.toList ≠ lCall ∧ (if op.data.toList = lName then (∃ k, kd s.data.toList = some k) ∧ l = [] else ∃ tk gv, signRow op.data.toList = some (tk, gv) ∧ l.length = tk.length) ∧ okL kd l
def okL (kd : List UInt8 → Option Int) : List Ex → Prop
  | [] => True
  | e :: es => okE kd e ∧ okL kd es
end
theorem okL_get {kd : List UInt8 → Option Int} : ∀ {l : List Ex} {i : Nat} {e : Ex}, okL kd l → l[i]? = some e → okE kd e
  | [], i, e, _, h => by simp at h
  | x :: l, 0, e, hk, h => by
    obtain rfl : x = e := by simpa using h
    unfold okL at hk
    exact hk.1
  | x :: l, i + 1, e, hk, h => by
    unfold okL at hk
    exact okL_get hk.2 (by simpa using h)
/-- From the left: the types of the first so many. -/
theorem tyL_take {kd : List UInt8 → Option Int} : ∀ {l : List Ex} {i : Nat} {e : Ex} {ks ps : List Int}, l[i]? = some e → tyL kd (l.take i) = some (ks, ps) → tyL kd (l.take (i + 1)) = (tyE kd e).map fun x => (ks ++ [x.1], ps ++ x.2)
  | [], i, e, ks, ps, h, _ => by simp at h
  | x :: l, 0, e, ks, ps, h, ht => by
    obtain rfl : x = e := by simpa using h
    simp only [List.take_zero] at ht
    unfold tyL at ht
    obtain ⟨rfl, rfl⟩ : [] = ks ∧ [] = ps := by simpa using ht
    simp only [List.take_succ_cons, List.take_zero]
    unfold tyL
    cases tyE kd x with
    | none => rfl
    | some r => simp [tyL]
  | x :: l, i + 1, e, ks, ps, h, ht => by
    have h' : l[i]? = some e := by simpa using h
    simp only [List.take_succ_cons] at ht ⊢
    unfold tyL at ht ⊢
    cases hx : tyE kd x with
    | none => rw [hx] at ht; cases ht
    | some r =>
      rw [hx] at ht
      simp only at ht ⊢
      cases hl : tyL kd (l.take i) with
      | none => rw [hl] at ht; cases ht
      | some q =>
        rw [hl] at ht
        obtain ⟨rfl, rfl⟩ : r.1 :: q.1 = ks ∧ r.2 ++ q.2 = ps := by simpa using ht
        rw [tyL_take h' hl]
        cases tyE kd e with
        | none => rfl
        | some y => simp
theorem tyL_none {kd : List UInt8 → Option Int} : ∀ {l : List Ex} {i : Nat}, tyL kd (l.take i) = none → tyL kd l = none
  | [], i, h => by simp [tyL] at h
  | x :: l, 0, h => by simp [tyL] at h
  | x :: l, i + 1, h => by
    simp only [List.take_succ_cons] at h
    unfold tyL at h ⊢
    cases hx : tyE kd x with
    | none => rfl
    | some r =>
      rw [hx] at h
      simp only at h ⊢
      cases hl : tyL kd (l.take i) with
      | none => rw [tyL_none hl]
      | some q => rw [hl] at h; cases h
theorem tyL_len {kd : List UInt8 → Option Int} : ∀ {l : List Ex} {ks ps : List Int}, tyL kd l = some (ks, ps) → ks.length = l.length
  | [], ks, ps, h => by
    unfold tyL at h
    obtain ⟨rfl, _⟩ : [] = ks ∧ [] = ps := by simpa using h
    rfl
  | x :: l, ks, ps, h => by
    unfold tyL at h
    cases hx : tyE kd x with
    | none => rw [hx] at h; cases h
    | some r =>
      rw [hx] at h
      simp only at h
      cases hl : tyL kd l with
      | none => rw [hl] at h; cases h
      | some q =>
        rw [hl] at h
        obtain ⟨rfl, _⟩ : r.1 :: q.1 = ks ∧ r.2 ++ q.2 = ps := by simpa using h
        simp [tyL_len hl]
end Go.Proofs.YtpkgingjmgakbaaDoor
