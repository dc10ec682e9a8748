/-
  package word: ask BY CONTRACT.
-/
import Derived.Test.YtpiglmaojonbnaaGreatDoorP16
namespace Go.Proofs.YtpiglmaojonbnaaGreatDoor
open Go.RowKit Go.Maps

set_option maxRecDepth 100000 in
set_option maxHeartbeats 2000000 in
theorem ask_any {G : Nat} {gs : List (Int × Int)} {ins : Nat} {F : Nat → Prop} {w : World} (h : GrAt G gs ins F w) (hl : gs.length < 89000) (s : ByteArray) (hs : s.size ≤ maxLen) (o : Option Addr) (n c : Nat) (ls : List (List Int)) (hv : WordsAt F w (.slice o n c) ls) (hn : n = ls.length) (hH : ∀ l ∈ ls, ∀ x ∈ l, HasL gs x) (et st : TypeId) (eq sq : Value) (he : w.cell? ⟨0, 0, none⟩ = some (.iface et eq)) (hsh : w.cell? ⟨1, 0, none⟩ = some (.iface st sq)) :
    Calls Tryz.prog 20 #[.agg #[.pointer (some ⟨G, 0, none⟩)], .string s, .slice o n c] w fun e w' => (askB s.data.toList ls = true ∧ e = .returned (.tuple #[]) ∧ ∃ F', GrAt G gs ins F' w' ∧ Mvd F F' w w') ∨ (askB s.data.toList ls = false ∧ ThrewS e ∧ Below w.heap.size w w') := by
  have hb1 : Below w.heap.size w (w.alloc (.cells #[.pointer (some ⟨G, 0, none⟩)] 60)) := (Below.refl _ _).alloc (Nat.le_refl _) _
  obtain ⟨w1, hw1⟩ : ∃ w1, w1 = w.alloc (.cells #[.pointer (some ⟨G, 0, none⟩)] 60) := ⟨_, rfl⟩
  have hr1 : w1.heap[w.heap.size]? = some (.cells #[.pointer (some ⟨G, 0, none⟩)] 60 (0, 0)) := by rw [hw1]; exact heap_alloc_new _ _
  rw [← hw1] at hb1
  have HW1 : Hid (w.alloc (.cells #[.pointer (some ⟨G, 0, none⟩)] 60) = w1) := hw1.symm
  have HB1 : Hid (Below w.heap.size w w1) := hb1
  have HR1 : Hid (w1.heap[w.heap.size]? = _) := hr1
  have hF := h.2.2.1
  have HF0 : Hid (¬ F w.heap.size) := fun hf => by have := hF _ hf; omega
  have HG : Hid (GrAt G gs ins F w) := h
  have HL : Hid (gs.length < 89000) := hl
  have HS : Hid (s.size ≤ maxLen) := hs
  have HV : Hid (WordsAt F w (.slice o n c) ls) := hv
  have HN : Hid (n = ls.length) := hn
  have HN1 : Hid (n ≤ 100) := by rw [hn]; exact hv.1
  have HH : Hid (∀ l ∈ ls, ∀ x ∈ l, HasL gs x) := hH
  have HE : Hid (w.cell? ⟨0, 0, none⟩ = some (.iface et eq)) := he
  have HSH : Hid (w.cell? ⟨1, 0, none⟩ = some (.iface st sq)) := hsh
  clear hb1 hw1 hr1 hF h hl hs hv hn hH he hsh
  go_enter Tryz.func20, Tryz.ntmps20
  go_wp2_with fail
  rw [HW1.out]
  refine (wkinds_any (F := F) _ _ _ ls (HV.out.move (Mvd.of_below HB1.out)) HN.out).mono ?_
  rintro e w2 ⟨V, rfl, hV2, hb2⟩
  have hbb2 : Below w.heap.size w w2 := HB1.out.trans (hb2.mono HB1.out.size)
  have hik : IntsAt w2 (.slice (some ⟨V, 0, none⟩) (ls.map kindL).length n) (ls.map kindL) := ints_of_row hV2 (by rw [List.length_map]; have := HN.out; have := HN1.out; unfold maxLen; omega)
  have hres := result_any w2 s HS.out _ _ _ hik (by rw [List.length_map]; have := HN.out; have := HN1.out; omega) et st eq sq (cell_keep hbb2 HE.out) (cell_keep hbb2 HSH.out)
  have HRES : Hid (Calls Tryz.prog 34 #[.string s, .slice (some ⟨V, 0, none⟩) n n] w2 fun e w' => Below w2.heap.size w2 w' ∧ ∃ k err, e = .returned (.tuple #[.int .i64 k, err]) ∧ ((resK s.data.toList (ls.map kindL) = some k ∧ err = .nilIface) ∨ (resK s.data.toList (ls.map kindL) = none ∧ ∃ t q, err = .iface t q))) := by
    have hlm : (ls.map kindL).length = n := by rw [List.length_map]; exact HN.out.symm
    rw [hlm] at hres
    exact hres
  have HB2 : Hid (Below w.heap.size w w2) := hbb2
  have HR2 : Hid (w2.heap[w.heap.size]? = _) := row_keep hb2 HR1.out
  clear hb2 hbb2 hik hres hV2
  go_wp2_with fail
  refine HRES.out.mono ?_
  rintro e w3 ⟨hb3, k, err, rfl, ⟨hk, rfl⟩ | ⟨hk, t, q, rfl⟩⟩
  · have HB3 : Hid (Below w.heap.size w w3) := HB2.out.trans (hb3.mono HB2.out.size)
    have hr3 := row_keep hb3 HR2.out
    have c3 : w3.cell? ⟨w.heap.size, 0, none⟩ = some (.pointer (some ⟨G, 0, none⟩)) := by rw [cell_of_row w3 _ 0 _ _ (0, 0) hr3]; rfl
    have HC3 : Hid (w3.cell? ⟨w.heap.size, 0, none⟩ = _) := c3
    by_cases h0 : n = 0
    · have E : Hid (askB s.data.toList ls = false) := by
        have : ls = [] := List.eq_nil_of_length_eq_zero (by have := HN.out; omega)
        unfold Hid askB; rw [this]; simp
      have d0 : (((n : Nat) : Int) == 0) = true := by simp; omega
      clear hb3 hr3 h0 hk c3
      go_wp2
      exact ⟨rfl, Or.inr ⟨E.out, rfl, HB3.out⟩⟩
    · have E : Hid (askB s.data.toList ls = true) := by
        unfold Hid askB; rw [hk]
        cases hls : ls with
        | nil => exact absurd (by have := HN.out; rw [hls] at this; exact this) h0
        | cons => rfl
      have d0 : (((n : Nat) : Int) == 0) = false := by simp; omega
      clear hb3 hr3 h0 hk c3
      go_wp2
      go_loopw [30] (fun t wr => ∃ (j : Nat) (Fj : Nat → Prop), j ≤ n ∧ t = .int .i64 j ∧ wr.cell? ⟨w.heap.size, 0, none⟩ = some (.pointer (some ⟨G, 0, none⟩)) ∧ ¬ Fj w.heap.size ∧ GrAt G gs ins Fj wr ∧ Mvd F Fj w wr) (fun t _ => n - (intOf t).toNat)
      case atStart => exact ⟨0, F, Nat.zero_le _, rfl, HC3.out, HF0.out, HG.out.below HB3.out, Mvd.of_below HB3.out⟩
      case round =>
        obtain ⟨j, Fj, hj, rfl, hcM, hnM, hG, hM⟩ := hrel
        by_cases hjl : j < n
        · obtain ⟨l, hl⟩ : ∃ l, ls[j]? = some l := ⟨_, List.getElem?_eq_getElem (by have := HN.out; omega)⟩
          obtain ⟨b, off, o', c', rfl, hnb, hcb, hL⟩ := (HV.out.move hM).get hl
          have i0' : (0 : Int) ≤ (j : Int) := by omega
          have i1' : (j : Int) < (n : Int) := by omega
          have N4 : Hid (wrap64 ((j : Int) + 1) = (j : Int) + 1) := by have := HN1.out; unfold Hid wrap64; omega
          have HJ : Hid (j < n) := hjl
          have HcM : Hid (wr.cell? ⟨w.heap.size, 0, none⟩ = some (.pointer (some ⟨G, 0, none⟩))) := hcM
          have HnM : Hid (¬ Fj w.heap.size) := hnM
          have HGj : Hid (GrAt G gs ins Fj wr) := hG
          have HMj : Hid (Mvd F Fj w wr) := hM
          have HLl : Hid (LitsAt Fj wr (.slice o' l.length c') l) := hL
          have HHl : Hid (∀ x ∈ l, HasL gs x) := HH.out l (List.mem_of_getElem? hl)
          have HL1 : Hid (l.length ≤ 1000) := hL.1
          clear hj hjl hl hnb hL hcM hnM hG hM
          go_wp2
          rename World => wq
          go_loopw [36] (fun t wr => ∃ (i : Nat) (Fi : Nat → Prop), i ≤ l.length ∧ t = .int .i64 i ∧ wr.cell? ⟨w.heap.size, 0, none⟩ = some (.pointer (some ⟨G, 0, none⟩)) ∧ ¬ Fi w.heap.size ∧ GrAt G gs ins Fi wr ∧ Mvd Fj Fi wq wr) (fun t _ => l.length - (intOf t).toNat)
          case atStart => exact ⟨0, Fj, Nat.zero_le _, rfl, HcM.out, HnM.out, HGj.out, Mvd.refl _ _⟩
          case round =>
            obtain ⟨i, Fi, hi, rfl, hcM, hnM, hG, hM⟩ := hrel
            by_cases hil : i < l.length
            · obtain ⟨x, hx⟩ : ∃ x, l[i]? = some x := ⟨_, List.getElem?_eq_getElem hil⟩
              obtain ⟨bx, fx, rfl, _, hmv⟩ := HLl.out.at hx
              obtain ⟨hnx, hcx⟩ := hmv _ _ hM
              have i2' : (0 : Int) ≤ (i : Int) := by omega
              have i3' : (i : Int) < (l.length : Int) := by omega
              have N5 : Hid (wrap64 ((i : Int) + 1) = (i : Int) + 1) := by have := HL1.out; unfold Hid wrap64; omega
              have HI : Hid (i < l.length) := hil
              have HG5 : Hid (GrAt G gs ins Fi wr) := hG
              have HM5 : Hid (Mvd Fj Fi wq wr) := hM
              have HN5 : Hid (¬ Fi w.heap.size) := hnM
              have HX : Hid (HasL gs x) := HHl.out x (List.mem_of_getElem? hx)
              have HC5 : Hid (wr.cell? ⟨w.heap.size, 0, none⟩ = some (.pointer (some ⟨G, 0, none⟩))) := hcM
              clear hi hil hx hmv hnx hG hM hnM
              go_wp2_with (go_at_call 36; refine (mand_one HG5.out HL.out _ HX.out).mono ?_; rintro e w5 ⟨y, F5, rfl, G5, M5⟩)
              have hk5 := M5.cell HC5.out HN5.out
              exact ⟨⟨i + 1, F5, HI.out, by rw [N5.out]; rfl, hk5.1, hk5.2, G5, HM5.out.trans M5⟩, by rw [N5.out]; have := HI.out; simp [intOf]; omega⟩
            · obtain rfl : i = l.length := by omega
              have HG5 : Hid (GrAt G gs ins Fi wr) := hG
              have HM5 : Hid (Mvd Fj Fi wq wr) := hM
              have HN5 : Hid (¬ Fi w.heap.size) := hnM
              have HC5 : Hid (wr.cell? ⟨w.heap.size, 0, none⟩ = some (.pointer (some ⟨G, 0, none⟩))) := hcM
              clear hi hil hG hM hnM hcM
              go_wp2
              exact ⟨⟨j + 1, Fi, HJ.out, by rw [N4.out]; rfl, HC5.out, HN5.out, HG5.out, HMj.out.trans HM5.out⟩, by rw [N4.out]; have := HJ.out; simp [intOf]; omega⟩
        · obtain rfl : j = n := by omega
          have HE2 : Hid (GrAt G gs ins Fj wr ∧ Mvd F Fj w wr) := ⟨hG, hM⟩
          clear hj hjl hG hM hnM hcM
          go_wp2
          go_end0
          exact Or.inl ⟨E.out, rfl, Fj, HE2.out.1, HE2.out.2⟩
  · have HB3 : Hid (Below w.heap.size w w3) := HB2.out.trans (hb3.mono HB2.out.size)
    have E : Hid (askB s.data.toList ls = false) := by unfold Hid askB; rw [hk]; rfl
    clear hb3 hk
    go_wp2
    exact ⟨rfl, Or.inr ⟨E.out, rfl, HB3.out⟩⟩
end Go.Proofs.YtpiglmaojonbnaaGreatDoor

/-
  package word: caught$1, Of$1, caught BY CONTRACT.
-/
namespace Go.Proofs.YtpiglmaojonbnaaGreatDoor
open Go.RowKit Go.Maps

/-- Words were made, of some bits. -/
def MadsQ (gs gs' : List (Int × Int)) (K : Nat) (out : List Int) (Pr : (List Bool → Nat → Bool) → Prop) : Prop := ∃ f, Pr f ∧ Mads gs gs' K out f
/-- What an operator makes. -/
def ValP (G : Nat) (gs : List (Int × Int)) (ins K len : Nat) (f : (List Bool → Nat → Bool) → Prop) (tf : List Bool → Bool) (F1 : Nat → Prop) (w1 : World) (e : Ending) (w' : World) : Prop :=
  ∃ (V : Nat) (out : List Int) (tr : Int) (gs' : List (Int × Int)) (F' : Nat → Prop), e = .returned (.tuple #[.slice (some ⟨V, 0, none⟩) len len, .int .i64 tr]) ∧ out.length = len ∧ w1.heap.size ≤ V ∧ w'.heap[V]? = some (.cells (rowI out) 39 (0, 0)) ∧ ¬ F' V ∧ GrAt G gs' ins F' w' ∧ Mvd F1 F' w1 w' ∧ MadsQ gs gs' K out f ∧ HasL gs' tr ∧ ∀ inp, valL gs' inp tr = tf inp
set_option maxRecDepth 100000 in
theorem wcatch_idle (p : Addr) (w : World) :
    CallsD Tryz.prog 33 #[.pointer (some p)] .returning w fun e u' w' => e = .returned (.tuple #[]) ∧ u' = .returning ∧ w' = w := by
  refine callsD_of_wpS Tryz.func33 rfl fun c₀ cs hu => ?_
  apply wpS_seq
  apply wpS_region
  simp [wpOpsS, go_sem, recoverD, hu, Tryz.ntmps33, Exit.thenS]
  refine wpS_of_wp ?_
  have hf : #[Value.pointer (some p)] ++ (Array.replicate 16 undef).setIfInBounds 4 Value.nilIface = #[.pointer (some p), undef, undef, undef, undef, .nilIface, undef, undef, undef, undef, undef, undef, undef, undef, undef, undef, undef] := by kernel_rfl
  rw [hf]
  obtain ⟨Q, hQ⟩ : ∃ Q : Exit → Act → World → Prop, Q = fun e a' w' => bodyPostS Tryz.prog Tryz.f33 c₀ cs (fun e u' w' => e = Ending.returned (Value.tuple #[]) ∧ u' = FrameMode.returning ∧ w' = w) e a' (c₀ :: cs) w' := ⟨_, rfl⟩
  rw [← hQ]
  have HQ : Hid (Q = _) := hQ
  clear hQ hf
  go_wp2
  rw [HQ.out]
  cases c₀
  simp_all [bodyPostS, results, Tryz.results33]
theorem wrongS_type (w : World) : (Instr.typeAssert (.iface 80 (.agg #[])) 20 80 true).run Tryz.prog w = .ok (.tuple #[.agg #[], .bool true]) w := by kernel_rfl
def wrongS : Value := .iface 80 (.agg #[])
set_option maxRecDepth 100000 in
set_option maxHeartbeats 1000000 in
theorem wcatch_wrong (b : Nat) (v ev : Value) (older : List PanicEntry) (w : World) (hc : w.cell? ⟨b, 0, none⟩ = some v) (hz : w.frozen? ⟨b, 0, none⟩ = false) (he : w.cell? ⟨1, 0, none⟩ = some ev) (hev : ∃ t q, ev = .iface t q) :
    CallsD Tryz.prog 33 #[.pointer (some ⟨b, 0, none⟩)] (.panicking ({ v := wrongS, recovered := false } :: older)) w fun e u' w' =>
      e = .returned (.tuple #[]) ∧ u' = .panicking ({ v := wrongS, recovered := true } :: older) ∧ ∃ o, w' = (w.setCell ⟨b, 0, none⟩ ev).alloc o := by
  obtain ⟨et, eq, rfl⟩ := hev
  refine callsD_of_wpS Tryz.func33 rfl fun c₀ cs hu => ?_
  apply wpS_seq
  apply wpS_region
  simp [wpOpsS, go_sem, recoverD, hu, Tryz.ntmps33, Exit.thenS]
  refine wpS_of_wp ?_
  have hf : #[Value.pointer (some ⟨b, 0, none⟩)] ++ (Array.replicate 16 undef).setIfInBounds 4 wrongS = #[.pointer (some ⟨b, 0, none⟩), undef, undef, undef, undef, .iface 80 (.agg #[]), undef, undef, undef, undef, undef, undef, undef, undef, undef, undef, undef] := by kernel_rfl
  rw [hf]
  clear hf
  have h2 := wrongS_type
  have hbl : b < w.heap.size := cell_blk hc
  have hel : 1 < w.heap.size := cell_blk he
  refine Code.wp_mono (Q := fun e a' w' => e = Exit.normal ∧ a'.defers = [] ∧ ∃ o, w' = (w.setCell ⟨b, 0, none⟩ (.iface et eq)).alloc o) ?_ ?_
  · rintro e a' w' ⟨rfl, hd, o, rfl⟩
    cases c₀
    simp_all [bodyPostS, results, Tryz.results33]
    exact ⟨o, rfl⟩
  · go_wp2
    exact ⟨_, rfl⟩
/-- The variables of Of, as its work captures them. -/
structure Caps (w : World) (G bm bo bl bu bt : Nat) (s : ByteArray) (lv u t : Value) : Prop where
  m : w.heap[bm]? = some (.cells #[.pointer (some ⟨G, 0, none⟩)] 60 (0, 0))
  o : w.heap[bo]? = some (.cells #[.string s] 9 (0, 0))
  l : w.heap[bl]? = some (.cells #[lv] 32 (0, 0))
  u : w.heap[bu]? = some (.cells #[u] 38 (0, 0))
  t : w.heap[bt]? = some (.cells #[t] 39 (0, 0))
theorem Caps.keep {w w' : World} {F F' : Nat → Prop} {G bm bo bl bu bt : Nat} {s : ByteArray} {lv u t : Value} (h : Caps w G bm bo bl bu bt s lv u t) (hm : Mvd F F' w w') (hn : ¬ F bm ∧ ¬ F bo ∧ ¬ F bl ∧ ¬ F bu ∧ ¬ F bt) : Caps w' G bm bo bl bu bt s lv u t ∧ ¬ F' bm ∧ ¬ F' bo ∧ ¬ F' bl ∧ ¬ F' bu ∧ ¬ F' bt :=
  ⟨⟨(hm.rowKept h.m hn.1).1, (hm.rowKept h.o hn.2.1).1, (hm.rowKept h.l hn.2.2.1).1, (hm.rowKept h.u hn.2.2.2.1).1, (hm.rowKept h.t hn.2.2.2.2).1⟩, (hm.rowKept h.m hn.1).2, (hm.rowKept h.o hn.2.1).2, (hm.rowKept h.l hn.2.2.1).2, (hm.rowKept h.u hn.2.2.2.1).2, (hm.rowKept h.t hn.2.2.2.2).2⟩
set_option maxRecDepth 100000 in
set_option maxHeartbeats 2000000 in
theorem of1_any {G : Nat} {gs : List (Int × Int)} {ins : Nat} {F : Nat → Prop} {w : World} (h : GrAt G gs ins F w) (hl : gs.length < 89000) (s : ByteArray) (hs : s.size ≤ maxLen) (o : Option Addr) (n c : Nat) (ls : List (List Int)) (hv : WordsAt F w (.slice o n c) ls) (hn : n = ls.length) (hH : ∀ l ∈ ls, ∀ x ∈ l, HasL gs x) (et st : TypeId) (eq sq : Value) (he : w.cell? ⟨0, 0, none⟩ = some (.iface et eq)) (hsh : w.cell? ⟨1, 0, none⟩ = some (.iface st sq))
    (bm bo bl bu bt : Nat) (hcap : Caps w G bm bo bl bu bt s (.slice o n c) (.slice none 0 0) (.int .i64 0)) (hnc : ¬ F bm ∧ ¬ F bo ∧ ¬ F bl ∧ ¬ F bu ∧ ¬ F bt) (hut : bu ≠ bt) (K len : Nat) (f : (List Bool → Nat → Bool) → Prop) (tf : List Bool → Bool)
    (hval : askB s.data.toList ls = true → ∀ F1 w1, GrAt G gs ins F1 w1 → WordsAt F1 w1 (.slice o n c) ls → Calls Tryz.prog 21 #[.agg #[.pointer (some ⟨G, 0, none⟩)], .string s, .slice o n c] w1 (ValP G gs ins K len f tf F1 w1)) :
    Calls Tryz.prog 19 #[.pointer (some ⟨bm, 0, none⟩), .pointer (some ⟨bo, 0, none⟩), .pointer (some ⟨bl, 0, none⟩), .pointer (some ⟨bu, 0, none⟩), .pointer (some ⟨bt, 0, none⟩)] w fun e w' =>
      (askB s.data.toList ls = true ∧ e = .returned (.tuple #[]) ∧ ∃ (V : Nat) (out : List Int) (tr : Int) (gs' : List (Int × Int)) (F' : Nat → Prop) (w2 : World), w' = (w2.setCell ⟨bu, 0, none⟩ (.slice (some ⟨V, 0, none⟩) len len)).setCell ⟨bt, 0, none⟩ (.int .i64 tr) ∧ Caps w2 G bm bo bl bu bt s (.slice o n c) (.slice none 0 0) (.int .i64 0) ∧ (¬ F' bm ∧ ¬ F' bo ∧ ¬ F' bl ∧ ¬ F' bu ∧ ¬ F' bt) ∧ out.length = len ∧ w.heap.size ≤ V ∧ w2.heap[V]? = some (.cells (rowI out) 39 (0, 0)) ∧ ¬ F' V ∧ GrAt G gs' ins F' w2 ∧ Mvd F F' w w2 ∧ MadsQ gs gs' K out f ∧ HasL gs' tr ∧ ∀ inp, valL gs' inp tr = tf inp) ∨
      (askB s.data.toList ls = false ∧ ThrewS e ∧ Below w.heap.size w w') := by
  have m0 : w.cell? ⟨bm, 0, none⟩ = some (.pointer (some ⟨G, 0, none⟩)) := by rw [cell_of_row w _ 0 _ _ (0, 0) hcap.m]; rfl
  have o0 : w.cell? ⟨bo, 0, none⟩ = some (.string s) := by rw [cell_of_row w _ 0 _ _ (0, 0) hcap.o]; rfl
  have l0 : w.cell? ⟨bl, 0, none⟩ = some (.slice o n c) := by rw [cell_of_row w _ 0 _ _ (0, 0) hcap.l]; rfl
  have HASK : Hid (Calls Tryz.prog 20 #[.agg #[.pointer (some ⟨G, 0, none⟩)], .string s, .slice o n c] w fun e w' => (askB s.data.toList ls = true ∧ e = .returned (.tuple #[]) ∧ ∃ F', GrAt G gs ins F' w' ∧ Mvd F F' w w') ∨ (askB s.data.toList ls = false ∧ ThrewS e ∧ Below w.heap.size w w')) := ask_any h hl s hs o n c ls hv hn hH et st eq sq he hsh
  have HV : Hid (WordsAt F w (.slice o n c) ls) := hv
  have HCAP : Hid (Caps w G bm bo bl bu bt s (.slice o n c) (.slice none 0 0) (.int .i64 0)) := hcap
  have HNC : Hid (¬ F bm ∧ ¬ F bo ∧ ¬ F bl ∧ ¬ F bu ∧ ¬ F bt) := hnc
  have HVAL : Hid (askB s.data.toList ls = true → ∀ F1 w1, GrAt G gs ins F1 w1 → WordsAt F1 w1 (.slice o n c) ls → Calls Tryz.prog 21 #[.agg #[.pointer (some ⟨G, 0, none⟩)], .string s, .slice o n c] w1 (ValP G gs ins K len f tf F1 w1)) := hval
  have HUT : Hid (bu ≠ bt) := hut
  clear h hl hs hv hn hH he hsh hcap hnc hval hut
  go_enter Tryz.func19, Tryz.ntmps19
  go_wp2_with fail
  refine HASK.out.mono ?_
  rintro e w1 (⟨hk, rfl, F1, g1, m1⟩ | ⟨hk, ht, hb⟩)
  · have hcap1 := HCAP.out.keep m1 HNC.out
    have m2 : w1.cell? ⟨bm, 0, none⟩ = some (.pointer (some ⟨G, 0, none⟩)) := by rw [cell_of_row w1 _ 0 _ _ (0, 0) hcap1.1.m]; rfl
    have o2 : w1.cell? ⟨bo, 0, none⟩ = some (.string s) := by rw [cell_of_row w1 _ 0 _ _ (0, 0) hcap1.1.o]; rfl
    have l2 : w1.cell? ⟨bl, 0, none⟩ = some (.slice o n c) := by rw [cell_of_row w1 _ 0 _ _ (0, 0) hcap1.1.l]; rfl
    have HC1 : Hid (Caps w1 G bm bo bl bu bt s (.slice o n c) (.slice none 0 0) (.int .i64 0)) := hcap1.1
    have HN1 : Hid (¬ F1 bm ∧ ¬ F1 bo ∧ ¬ F1 bl ∧ ¬ F1 bu ∧ ¬ F1 bt) := hcap1.2
    have HM1 : Hid (Mvd F F1 w w1) := m1
    have HK : Hid (askB s.data.toList ls = true) := hk
    have HVL : Hid (Calls Tryz.prog 21 #[.agg #[.pointer (some ⟨G, 0, none⟩)], .string s, .slice o n c] w1 (ValP G gs ins K len f tf F1 w1)) := HVAL.out hk F1 w1 g1 (HV.out.move m1)
    clear m0 o0 l0 hk g1 m1 hcap1
    go_wp2_with fail
    refine HVL.out.mono ?_
    rintro e w2 ⟨V, out, tr, gs', F', rfl, h1, h2, h3, h4, g2, m3, d2, t1, t2⟩
    have hcap2 := HC1.out.keep m3 HN1.out
    have u0 : w2.cell? ⟨bu, 0, none⟩ = some (.slice none 0 0) := by rw [cell_of_row w2 _ 0 _ _ (0, 0) hcap2.1.u]; rfl
    have uf : w2.frozen? ⟨bu, 0, none⟩ = false := frozen_row hcap2.1.u
    have t0 : (w2.setCell ⟨bu, 0, none⟩ (.slice (some ⟨V, 0, none⟩) len len)).cell? ⟨bt, 0, none⟩ = some (.int .i64 0) := by
      rw [cell_apart (fun e => HUT.out (by have e' : bt = bu := e; exact e'.symm)), cell_of_row w2 _ 0 _ _ (0, 0) hcap2.1.t]; rfl
    have tf' : (w2.setCell ⟨bu, 0, none⟩ (.slice (some ⟨V, 0, none⟩) len len)).frozen? ⟨bt, 0, none⟩ = false := by
      have e : (w2.setCell ⟨bu, 0, none⟩ (.slice (some ⟨V, 0, none⟩) len len)).heap[bt]? = w2.heap[bt]? := Below.heap_setCell w2 ⟨bu, 0, none⟩ _ _ (fun e => HUT.out (by have e' : bt = bu := e; exact e'.symm))
      exact frozen_row (e.trans hcap2.1.t)
    have HEND : Hid (Caps w2 G bm bo bl bu bt s (.slice o n c) (.slice none 0 0) (.int .i64 0) ∧ (¬ F' bm ∧ ¬ F' bo ∧ ¬ F' bl ∧ ¬ F' bu ∧ ¬ F' bt) ∧ out.length = len ∧ w.heap.size ≤ V ∧ w2.heap[V]? = some (.cells (rowI out) 39 (0, 0)) ∧ ¬ F' V ∧ GrAt G gs' ins F' w2 ∧ Mvd F F' w w2 ∧ MadsQ gs gs' K out f ∧ HasL gs' tr ∧ ∀ inp, valL gs' inp tr = tf inp) := ⟨hcap2.1, hcap2.2, h1, by have := HM1.out.size; omega, h3, h4, g2, HM1.out.trans m3, d2, t1, t2⟩
    clear hcap2 h1 h2 h3 h4 g2 m3 d2 t1 t2 m2 o2 l2
    go_wp2
    go_end0
    exact Or.inl ⟨HK.out, rfl, V, out, tr, gs', F', w2, rfl, HEND.out⟩
  · unfold ThrewS at ht
    subst ht
    have HB : Hid (Below w.heap.size w w1) := hb
    have HK : Hid (askB s.data.toList ls = false) := hk
    clear hb hk
    go_wp2
    exact ⟨rfl, Or.inr ⟨HK.out, rfl, HB.out⟩⟩
end Go.Proofs.YtpiglmaojonbnaaGreatDoor
