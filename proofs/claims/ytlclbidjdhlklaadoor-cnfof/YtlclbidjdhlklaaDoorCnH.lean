/-
  package cnf: Of BY CONTRACT.
-/
import Derived.Test.YtlclbidjdhlklaaDoorCnG
namespace Go.Proofs.YtlclbidjdhlklaaDoor
open Go.RowKit Go.Maps

/-- Clauses one behind the other. -/
def ClsAt (w : World) (v : Value) (cs : List (List Int)) : Prop := cs.length ≤ maxLen ∧ ∃ o c, v = .slice o cs.length c ∧ ∀ (k : Nat) l, cs[k]? = some l → ∃ b off v', o = some ⟨b, off, none⟩ ∧ w.cell? ⟨b, off + k, none⟩ = some v' ∧ ClIn (fun _ => False) w v' l
theorem ClIn.all {F : Nat → Prop} {w : World} {v : Value} {l : List Int} (h : ClIn F w v l) : ClIn (fun _ => False) w v l := by
  obtain ⟨o, c, rfl, h⟩ := h
  refine ⟨o, c, rfl, fun k x hk => ?_⟩
  obtain ⟨b, off, e, _, hc⟩ := h k x hk
  exact ⟨b, off, e, fun h => h, hc⟩
theorem ClIn.below {w w' : World} {v : Value} {l : List Int} (h : ClIn (fun _ => False) w v l) (hb : Below w.heap.size w w') : ClIn (fun _ => False) w' v l := h.move (Mvd.of_below hb)
theorem ClsAt.below {w w' : World} {v : Value} {cs : List (List Int)} (h : ClsAt w v cs) (hb : Below w.heap.size w w') : ClsAt w' v cs := by
  obtain ⟨hl, o, c, rfl, h⟩ := h
  refine ⟨hl, o, c, rfl, fun k l hk => ?_⟩
  obtain ⟨b, off, v', e, hc, hv⟩ := h k l hk
  exact ⟨b, off, v', e, cell_keep hb hc, hv.below hb⟩
theorem FmAt.row {B : Nat} {n : Int} {cs : List (List Int)} {F : Nat → Prop} {w : World} (h : FmAt B n cs F w) : ∃ t sv, w.heap[B]? = some (.cells #[.int .i64 n, sv] t (0, 0)) := by
  obtain ⟨h1, h2, t, sv, vs, h3, h4, h5, h6, h7⟩ := h
  exact ⟨t, sv, h3⟩
/-- The clauses are where they are, whatever is done ahead of the formula's block. -/
theorem FmAt.cells {B : Nat} {n : Int} {cs : List (List Int)} {F : Nat → Prop} {w : World} (h : FmAt B n cs F w) (hFB : ∀ k, F k → B ≤ k) : ∃ t sv, w.heap[B]? = some (.cells #[.int .i64 n, sv] t (0, 0)) ∧ sv.oneCell' = true ∧ ∀ w', (∀ k, B ≤ k → w'.heap[k]? = w.heap[k]?) → ClsAt w' sv cs := by
  obtain ⟨h1, h2, t, sv, vs, h3, h4, h5, h6, h7⟩ := h
  obtain ⟨o, c, rfl, hnm⟩ := owns_form h4
  refine ⟨t, _, h3, rfl, fun w' hw => ⟨hnm, o, c, rfl, fun k l hk => ?_⟩⟩
  have hlt : k < cs.length := (List.getElem?_eq_some_iff.1 hk).1
  obtain ⟨g, cap, e, _, _⟩ := h4.form (by omega)
  obtain ⟨rfl, rfl⟩ : o = some ⟨g, 0, none⟩ ∧ c = cap := by simpa using e
  obtain ⟨v, hv, o', c', rfl, hc⟩ := h7 k l hk
  refine ⟨g, 0, _, rfl, ?_, o', c', rfl, fun k x hk => ?_⟩
  · have hadd : ∀ j, (⟨g, 0, none⟩ : Addr).add j = ⟨g, 0 + j, none⟩ := fun j => by unfold Addr.add; split <;> simp_all
    have hc2 := h4.cells (g := g) rfl k _ hv
    rw [hadd] at hc2
    have hg : w'.heap[g]? = w.heap[g]? := hw g (hFB g (h5 g rfl).1)
    simp only [World.cell?, hg] at hc2 ⊢
    exact hc2
  · obtain ⟨b, off, e, hn, hc2⟩ := hc k x hk
    have hg : w'.heap[b]? = w.heap[b]? := hw b (by
      rcases Nat.lt_or_ge b B with h | h
      · exact absurd (.inr h) hn
      · exact h)
    refine ⟨b, off, e, fun h => h, ?_⟩
    simp only [World.cell?, hg] at hc2 ⊢
    exact hc2
/-- A new formula. -/
theorem FmAt.new (w : World) (t : TypeId) : FmAt w.heap.size 0 [] (fun k => k = w.heap.size) (w.alloc (.cells #[.int .i64 0, .slice none 0 0] t)) := by
  refine ⟨rfl, fun k hk => by rw [hk, World.size_alloc]; omega, t, _, [], heap_alloc_new _ _, World.ownsRow_nil _ _ _ _, fun k hk => by simp [Value.ownBlock] at hk, rfl, fun k l hk => by simp at hk⟩
theorem FmAt.vars {B : Nat} {n : Int} {cs : List (List Int)} {F : Nat → Prop} {w : World} (h : FmAt B n cs F w) (m : Int) : FmAt B m cs F (w.setCell ⟨B, 0, none⟩ (.int .i64 m)) ∧ Mvd F F w (w.setCell ⟨B, 0, none⟩ (.int .i64 m)) := by
  obtain ⟨h1, h2, t, sv, vs, h3, h4, h5, h6, h7⟩ := h
  have hbl : ∀ k, k ≠ B → (w.setCell ⟨B, 0, none⟩ (.int .i64 m)).heap[k]? = w.heap[k]? := fun k hk => Below.heap_setCell _ _ _ _ hk
  have hM : Mvd F F w (w.setCell ⟨B, 0, none⟩ (.int .i64 m)) := ⟨rfl, rfl, rfl, by rw [size_setCell]; exact Nat.le_refl _, fun k _ hn => hbl k (fun e => hn (by rw [e]; exact h1)), fun k hk => .inl hk⟩
  refine ⟨⟨h1, fun k hk => by rw [size_setCell]; exact h2 k hk, t, sv, vs, heap_setCell_at h3 _, owns_keep h4 (fun k hk => hbl k (h5 k hk).2), h5, h6, fun k l hk => ?_⟩, hM⟩
  obtain ⟨v, hv, hc⟩ := h7 k l hk
  exact ⟨v, hv, hc.move (hM.or B)⟩
theorem cell_blkN {w : World} {p : Addr} {v : Value} (hc : w.cell? p = some v) : p.block < w.heap.size := by
  rcases Nat.lt_or_ge p.block w.heap.size with h | h
  · exact h
  · simp [World.cell?, Array.getElem?_eq_none h] at hc
theorem any_has {gs : List (Int × Int)} {rs : List Int} : (rs.any fun x => !hasB gs x) = false ↔ ∀ x ∈ rs, HasL gs x := by
  rw [List.any_eq_false]
  constructor
  · intro h x hx
    have := h x hx
    rw [← hasB_iff]
    simpa using this
  · intro h x hx
    rw [hasB_t (h x hx)]; simp
/-- What Of answers. -/
def OfP (L : Nat) (gs : List (Int × Int)) (rs : List Int) (ts : TypeId) (qs : Value) (e : Ending) (w' : World) : Prop :=
  ((∀ x ∈ rs, HasL gs x) ∧ ∃ sv U, L ≤ U ∧ e = .returned (.tuple #[.agg #[.int .i64 (cntT (needL gs rs) (gs.length + 1) : Int), sv], .slice (some ⟨U, 0, none⟩) (gs.length + 1) (gs.length + 1), .nilIface]) ∧ (∀ w'', (∀ k, L ≤ k → w''.heap[k]? = w'.heap[k]?) → ClsAt w'' sv (allC gs (needL gs rs) rs)) ∧ w'.heap[U]? = some (.cells (rowI (numL (needL gs rs) (gs.length + 1))) 3 (0, 0)))
  ∨ ((¬ ∀ x ∈ rs, HasL gs x) ∧ e = .returned (.tuple #[.agg #[.int .i64 0, .slice none 0 0], .slice none 0 0, .iface ts qs]))
set_option maxRecDepth 100000 in
set_option maxHeartbeats 4000000 in
theorem of_any {G : Nat} {gs : List (Int × Int)} {ins : Nat} {E : Nat → Prop} {w : World} (hg : GrAt G gs ins E w) (hgl : gs.length ≤ 1000) (o : Option Addr) (m c : Nat) (rs : List Int) (hv : IntsAt w (.slice o m c) rs) (hm : m = rs.length) (hms : m ≤ 1000) (hI : ∀ x ∈ rs, I64 x)
    (ts te : TypeId) (qs qe : Value) (hsh : w.cell? ⟨0, 0, none⟩ = some (.iface ts qs)) (he : w.cell? ⟨8, 0, none⟩ = some (.iface te qe)) :
    Calls Tryd.prog 7 #[.pointer (some ⟨G, 0, none⟩), .slice o m c] w fun e w' => Below w.heap.size w w' ∧ OfP w.heap.size gs rs ts qs e w' := by
  obtain ⟨w1, hw1⟩ : ∃ w1, w1 = (w.alloc (.cells #[.pointer (some ⟨G, 0, none⟩)] 25)).alloc (.cells #[.int .i64 0, .slice none 0 0] 34) := ⟨_, rfl⟩
  have hb1 : Below w.heap.size w w1 := by rw [hw1]; exact ((Below.refl _ _).alloc (Nat.le_refl _) _).alloc (by simp) _
  have hs1 : w1.heap.size = w.heap.size + 2 := by rw [hw1]; simp
  have hP1 : w1.heap[w.heap.size]? = some (.cells #[.pointer (some ⟨G, 0, none⟩)] 25 (0, 0)) := by rw [hw1]; exact alloc_row _ (heap_alloc_new _ _)
  have hR1 : w1.heap[w.heap.size + 1]? = some (.cells #[.int .i64 0, .slice none 0 0] 34 (0, 0)) := by rw [hw1]; have := heap_alloc_new (w.alloc (.cells #[.pointer (some ⟨G, 0, none⟩)] 25)) (.cells #[.int .i64 0, .slice none 0 0] 34); simpa using this
  have cP : w1.cell? ⟨w.heap.size, 0, none⟩ = some (.pointer (some ⟨G, 0, none⟩)) := by rw [cell_of_row w1 _ _ _ _ (0, 0) hP1]; rfl
  have HCON : Hid (Calls Tryd.prog 26 #[.slice o m c, .func (.func 25) #[] #[.pointer (some ⟨w.heap.size, 0, none⟩)]] w1 fun e w' => e = .returned (.bool (rs.any fun x => !hasB gs x)) ∧ w' = w1) := ocontains_any (hg.below hb1) (Nat.le_trans hgl (by omega)) _ cP o m c rs (hv.keep hb1) hm hms hI
  have HW1 : Hid ((w.alloc (.cells #[.pointer (some ⟨G, 0, none⟩)] 25)).alloc (.cells #[.int .i64 0, .slice none 0 0] 34) = w1) := hw1.symm
  have HG : Hid (GrAt G gs ins E w1) := hg.below hb1
  have HV : Hid (IntsAt w1 (.slice o m c) rs) := hv.keep hb1
  have HGL : Hid (gs.length ≤ 1000) := hgl
  have HM : Hid (m = rs.length) := hm
  have HMS : Hid (m ≤ 1000) := hms
  have HB1 : Hid (Below w.heap.size w w1) := hb1
  have HS1 : Hid (w1.heap.size = w.heap.size + 2) := hs1
  have HP1 : Hid (w1.heap[w.heap.size]? = _) := hP1
  have HR1 : Hid (w1.heap[w.heap.size + 1]? = some (.cells #[.int .i64 0, .slice none 0 0] 34 (0, 0))) := hR1
  have HSH : Hid (w1.cell? ⟨0, 0, none⟩ = some (.iface ts qs)) := cell_keep hb1 hsh
  have HE : Hid (w1.cell? ⟨8, 0, none⟩ = some (.iface te qe)) := cell_keep hb1 he
  have HEL : Hid (8 < w.heap.size) := cell_blkN he
  have HGW : Hid (∀ k, E k → k < w.heap.size) := hg.2.2.1
  have HVW : Hid (IntsAt w (.slice o m c) rs) := hv
  clear hg hgl hv hm hms hI hsh he hw1 hb1 hs1 hP1 hR1 cP
  go_enter Tryd.func7, Tryd.ntmps7
  go_wp2_with fail
  rw [HW1.out]
  refine HCON.out.mono ?_
  rintro e w' ⟨rfl, hw⟩
  have hw2 := hw.symm
  subst hw2
  cases hq : rs.any fun x => !hasB gs x
  · have HALL : Hid (∀ x ∈ rs, HasL gs x) := any_has.1 hq
    have c0 : w1.cell? ⟨w.heap.size, 0, none⟩ = some (.pointer (some ⟨G, 0, none⟩)) := by rw [cell_of_row w1 _ _ _ _ (0, 0) HP1.out]; rfl
    have hc0 : ((w1.alloc (.cells #[.int .i64 0, .slice none 0 0] 34)).alloc (.cells #[.slice none 0 0] 23)).cell? ⟨w.heap.size, 0, none⟩ = some (.pointer (some ⟨G, 0, none⟩)) := cell_keep (((Below.refl _ _).alloc (Nat.le_refl _) _).alloc (by simp) _) c0
    go_wp2_with fail
    clear c0 hc0
    obtain ⟨w2, hw2⟩ : ∃ w2, w2 = (w1.alloc (.cells #[.int .i64 0, .slice none 0 0] 34)).alloc (.cells #[.slice none 0 0] 23) := ⟨_, rfl⟩
    have hb2 : Below w1.heap.size w1 w2 := by rw [hw2]; exact ((Below.refl _ _).alloc (Nat.le_refl _) _).alloc (by simp) _
    have hs2 : w2.heap.size = w1.heap.size + 2 := by rw [hw2]; simp
    have hfm2 : FmAt w1.heap.size 0 [] (fun k => k = w1.heap.size) w2 := by rw [hw2]; exact (FmAt.new w1 _).below ((Below.refl _ _).alloc (Nat.le_refl _) _)
    have hC2 : w2.heap[w1.heap.size + 1]? = some (.cells #[.slice none 0 0] 23 (0, 0)) := by rw [hw2]; have := heap_alloc_new (w1.alloc (.cells #[.int .i64 0, .slice none 0 0] 34)) (.cells #[.slice none 0 0] 23); simpa using this
    rw [← hw2]
    have HB2 : Hid (Below w1.heap.size w1 w2) := hb2
    have HS2 : Hid (w2.heap.size = w1.heap.size + 2) := hs2
    have HFM2 : Hid (FmAt w1.heap.size 0 [] (fun k => k = w1.heap.size) w2) := hfm2
    have HC2 : Hid (w2.heap[w1.heap.size + 1]? = some (.cells #[.slice none 0 0] 23 (0, 0))) := hC2
    clear hw2 hb2 hs2 hfm2 hC2
    refine (needed_any (HG.out.below HB2.out) (Nat.le_trans HGL.out (by omega)) o m c rs (HV.out.keep HB2.out) HM.out HMS.out HALL.out).mono ?_
    rintro e w3 ⟨V, rfl, hV3, hb3⟩
    have HV3 : Hid (w3.heap[V]? = _) := hV3
    have HB3 : Hid (Below w2.heap.size w2 w3) := hb3
    clear hV3 hb3
    go_wp2_with fail
    refine (numbered_any w3 V (gs.length + 1) (needL gs rs) HV3.out (needL_length gs rs) (by have := HGL.out; omega)).mono ?_
    rintro e w4 ⟨U, hUl, rfl, hU4, hb4⟩
    have hb24 : Below w2.heap.size w2 w4 := HB3.out.trans (hb4.mono HB3.out.size)
    have hfm4 := HFM2.out.below hb24
    have hC4 := row_keep hb24 HC2.out
    obtain ⟨t4, sv4, hB4⟩ := hfm4.row
    obtain ⟨cn, hcn⟩ : ∃ cn : Int, cn = (cntT (needL gs rs) (gs.length + 1) : Int) := ⟨_, rfl⟩
    rw [← hcn]
    have x0 : w4.cell? ⟨w1.heap.size, 0, none⟩ = some (.int .i64 0) := by rw [cell_of_row w4 _ _ _ _ (0, 0) hB4]; rfl
    have f0 : w4.frozen? ⟨w1.heap.size, 0, none⟩ = false := frozen_row hB4
    obtain ⟨hfm5, hmv5⟩ := hfm4.vars cn
    have hC5 : (w4.setCell ⟨w1.heap.size, 0, none⟩ (.int .i64 cn)).heap[w1.heap.size + 1]? = some (.cells #[.slice none 0 0] 23 (0, 0)) := by
      have e := Below.heap_setCell w4 ⟨w1.heap.size, 0, none⟩ (.int .i64 cn) (w1.heap.size + 1) (by show w1.heap.size + 1 ≠ w1.heap.size; omega)
      rw [e]; exact hC4
    have x1 : (w4.setCell ⟨w1.heap.size, 0, none⟩ (.int .i64 cn)).cell? ⟨w1.heap.size + 1, 0, none⟩ = some (.slice none 0 0) := by rw [cell_of_row _ _ _ _ _ (0, 0) hC5]; rfl
    have f1 : (w4.setCell ⟨w1.heap.size, 0, none⟩ (.int .i64 cn)).frozen? ⟨w1.heap.size + 1, 0, none⟩ = false := frozen_row hC5
    have hsz4 := hb24.size
    have hs2 := HS2.out
    have hs3 := HB3.out.size
    have hne1 : U ≠ w1.heap.size := by omega
    have hne2 : U ≠ w1.heap.size + 1 := by omega
    obtain ⟨w6, hw6⟩ : ∃ w6, w6 = (w4.setCell ⟨w1.heap.size, 0, none⟩ (.int .i64 cn)).setCell ⟨w1.heap.size + 1, 0, none⟩ (.slice (some ⟨U, 0, none⟩) (gs.length + 1) (gs.length + 1)) := ⟨_, rfl⟩
    have hmv6 : Mvd (fun k => k = w1.heap.size + 1) (fun k => k = w1.heap.size + 1) (w4.setCell ⟨w1.heap.size, 0, none⟩ (.int .i64 cn)) w6 := by
      rw [hw6]
      exact ⟨rfl, rfl, rfl, Nat.le_of_eq (size_setCell _ _ _).symm, fun k _ hn => Below.heap_setCell _ _ _ _ hn, fun k hk => .inl hk⟩
    have hC6 : w6.heap[w1.heap.size + 1]? = some (.cells #[.slice (some ⟨U, 0, none⟩) (gs.length + 1) (gs.length + 1)] 23 (0, 0)) := by rw [hw6, heap_setCell_at hC5]; rfl
    have hU5 : (w4.setCell ⟨w1.heap.size, 0, none⟩ (.int .i64 cn)).heap[U]? = some (.cells (rowI (numL (needL gs rs) (gs.length + 1))) 3 (0, 0)) := by rw [Below.heap_setCell w4 ⟨w1.heap.size, 0, none⟩ (.int .i64 cn) U hne1]; exact hU4
    have hU6 : w6.heap[U]? = some (.cells (rowI (numL (needL gs rs) (gs.length + 1))) 3 (0, 0)) := by
      have e := hmv6.rowN hU5 hne2
      exact e.1
    have hfm6 : FmAt w1.heap.size cn [] (fun k => k = w1.heap.size) w6 := by
      obtain ⟨k1, k2, t, sv, vs, k3, k4, k5, k6, k7⟩ := hfm5
      have hnB : w1.heap.size ≠ w1.heap.size + 1 := by omega
      exact ⟨k1, fun k hk => Nat.lt_of_lt_of_le (k2 k hk) hmv6.size, t, sv, vs, (hmv6.rowN k3 hnB).1, owns_keep k4 (fun k hk => absurd (k5 k hk).1 (k5 k hk).2), k5, k6, fun k l hk => by simp at hk⟩
    have hMv : Mvd (fun k => k = w1.heap.size ∨ k = w1.heap.size + 1) (fun k => k = w1.heap.size ∨ k = w1.heap.size + 1) w4 w6 := by
      refine ⟨hmv6.os.trans hmv5.os, hmv6.tape.trans hmv5.tape, hmv6.output.trans hmv5.output, Nat.le_trans hmv5.size hmv6.size, fun k hk hn => ?_, fun k hk => .inl hk⟩
      rw [hmv6.block k (Nat.lt_of_lt_of_le hk hmv5.size) (fun h => hn (.inr h)), hmv5.block k hk (fun h => hn (.inl h))]
    have hb26 : Below w1.heap.size w1 w6 := hMv.below (HB2.out.trans (hb24.mono (by omega))) (by omega) (fun k hk => by omega)
    have HB6 : Hid (Below w1.heap.size w1 w6) := hb26
    have HFM6 : Hid (FmAt w1.heap.size cn [] (fun k => k = w1.heap.size) w6) := hfm6
    have HC6 : Hid (w6.heap[w1.heap.size + 1]? = some (.cells #[.slice (some ⟨U, 0, none⟩) (gs.length + 1) (gs.length + 1)] 23 (0, 0))) := hC6
    have HU6 : Hid (w6.heap[U]? = some (.cells (rowI (numL (needL gs rs) (gs.length + 1))) 3 (0, 0))) := hU6
    have HNE : Hid (U ≠ w1.heap.size ∧ U ≠ w1.heap.size + 1 ∧ w1.heap.size ≤ U) := ⟨hne1, hne2, by omega⟩
    have HCN : Hid (cn = (cntT (needL gs rs) (gs.length + 1) : Int)) := hcn
    have z0 : w6.cell? ⟨w.heap.size, 0, none⟩ = some (.pointer (some ⟨G, 0, none⟩)) := by rw [cell_of_row w6 _ _ _ _ (0, 0) (row_keep hb26 HP1.out)]; rfl
    have z1 : w6.cell? ⟨w1.heap.size + 1, 0, none⟩ = some (.slice (some ⟨U, 0, none⟩) (gs.length + 1) (gs.length + 1)) := by rw [cell_of_row w6 _ _ _ _ (0, 0) hC6]; rfl
    have hw6' := hw6.symm
    clear hUl hU4 hb4 hb24 hfm4 hC4 hB4 hcn hfm5 hmv5 hC5 hsz4 hs2 hs3 hne1 hne2 hw6 hmv6 hC6 hU5 hU6 hfm6 hMv hb26
    go_wp2_with fail
    have hw1 := HS1.out
    have hl0 : numA (needL gs rs) 0 = 0 := by unfold numA; rw [List.getD_eq_getElem?_getD, needL_zero]; rfl
    refine (sayGates_any (F := fun k => k = w1.heap.size) (HG.out.below HB6.out) HGL.out (fun k hk h => by have := HGW.out k hk; omega) rfl HFM6.out (needL gs rs) hl0 _ _ HU6.out HC6.out HNE.out.1 (by omega) te qe (cell_keep HB6.out HE.out) (by have := HEL.out; omega)).mono ?_
    rintro e w7 ⟨rfl, F7, hfm7, hmv7⟩
    have hb7 : Below w1.heap.size w1 w7 := hmv7.below HB6.out HB6.out.size (fun k hk => by omega)
    obtain ⟨hU7, hnU7⟩ := hmv7.rowN HU6.out HNE.out.1
    obtain ⟨hC7, hnC7⟩ := hmv7.rowN HC6.out (show ¬ w1.heap.size + 1 = w1.heap.size by omega)
    have hF7 : ∀ k, F7 k → w1.heap.size ≤ k := fun k hk => by
      rcases hmv7.more k hk with h1 | h1
      · omega
      · have := HB6.out.size; omega
    have HFM7 : Hid (FmAt w1.heap.size cn (gatesC gs (needL gs rs) gs.length) F7 w7) := hfm7
    have HB7 : Hid (Below w1.heap.size w1 w7) := hb7
    have HU7 : Hid (w7.heap[U]? = _ ∧ ¬ F7 U) := ⟨hU7, hnU7⟩
    have HC7 : Hid (w7.heap[w1.heap.size + 1]? = _ ∧ ¬ F7 (w1.heap.size + 1)) := ⟨hC7, hnC7⟩
    have HF7 : Hid (∀ k, F7 k → w1.heap.size ≤ k) := hF7
    clear hfm7 hmv7 hb7 hU7 hnU7 hC7 hnC7 hF7 hw1 hl0 z0 z1
    go_wp2_with fail
    refine (sayRoots_any HFM7.out (by have := gatesC_length gs (needL gs rs) gs.length; have := HGL.out; omega) (needL gs rs) _ _ HU7.out.1 HC7.out.1 HU7.out.2 HC7.out.2 (by have := HGL.out; omega) o m c rs (HV.out.keep HB7.out) (fun hm b off ho hf => by
        obtain ⟨x, hx⟩ : ∃ x, rs[0]? = some x := ⟨_, List.getElem?_eq_getElem (by have := HM.out; omega)⟩
        obtain ⟨b', off', e', hc'⟩ := HVW.out.get hx
        have hl := cell_blkN hc'
        rw [ho] at e'
        have hbb : b = b' := by simpa using (Addr.mk.inj (Option.some.inj e')).1
        have := HF7.out b hf
        have := HS1.out
        simp only at hl
        omega) HM.out HMS.out (fun x hx => by have := HALL.out x hx; unfold HasL at this; omega)).mono ?_
    rintro e w8 ⟨rfl, F8, hfm8, hmv8⟩
    have hb8 : Below w1.heap.size w1 w8 := hmv8.below HB7.out HB7.out.size HF7.out
    obtain ⟨hU8, hnU8⟩ := hmv8.rowN HU7.out.1 HU7.out.2
    obtain ⟨hC8, hnC8⟩ := hmv8.rowN HC7.out.1 HC7.out.2
    have hF8 : ∀ k, F8 k → w1.heap.size ≤ k := fun k hk => by
      rcases hmv8.more k hk with h1 | h1
      · exact HF7.out k h1
      · have := HB7.out.size; omega
    obtain ⟨t8, sv, hB8, hone, hcls⟩ := hfm8.cells hF8
    obtain ⟨_, so, sc, rfl, _⟩ := hcls w8 (fun _ _ => rfl)
    have hR8 := row_keep hb8 HR1.out
    have y0 : w8.cell? ⟨w1.heap.size, 0, none⟩ = some (.int .i64 cn) := by rw [cell_of_row w8 _ _ _ _ (0, 0) hB8]; rfl
    have y1 : w8.cell? ⟨w1.heap.size, 0 + 1, none⟩ = some (.slice so (gatesC gs (needL gs rs) gs.length ++ rootsC (needL gs rs) rs).length sc) := by rw [cell_of_row w8 _ _ _ _ (0, 0) hB8]; rfl
    have y2 : w8.cell? ⟨w1.heap.size + 1, 0, none⟩ = some (.slice (some ⟨U, 0, none⟩) (gs.length + 1) (gs.length + 1)) := by rw [cell_of_row w8 _ _ _ _ (0, 0) hC8]; rfl
    have y3 : w8.cell? ⟨w.heap.size + 1, 0, none⟩ = some (.int .i64 0) := by rw [cell_of_row w8 _ _ _ _ (0, 0) hR8]; rfl
    have y4 : w8.cell? ⟨w.heap.size + 1, 0 + 1, none⟩ = some (.slice none 0 0) := by rw [cell_of_row w8 _ _ _ _ (0, 0) hR8]; rfl
    have f3 : w8.frozen? ⟨w.heap.size + 1, 0, none⟩ = false := frozen_row hR8
    have f4 : w8.frozen? ⟨w.heap.size + 1, 0 + 1, none⟩ = false := frozen_row hR8
    obtain ⟨sn, hsn⟩ : ∃ sn, sn = (gatesC gs (needL gs rs) gs.length ++ rootsC (needL gs rs) rs).length := ⟨_, rfl⟩
    rw [← hsn] at hcls y1
    have hRl : w.heap.size + 1 < w1.heap.size := by have := HS1.out; omega
    have HFIN : Hid (Below w.heap.size w (((w8.setCell ⟨w.heap.size + 1, 0, none⟩ (.int .i64 cn)).setCell ⟨w.heap.size + 1, 1, none⟩ (.slice so sn sc)).drew) ∧ (((w8.setCell ⟨w.heap.size + 1, 0, none⟩ (.int .i64 cn)).setCell ⟨w.heap.size + 1, 1, none⟩ (.slice so sn sc)).drew).heap[w.heap.size + 1]? = some (.cells #[.int .i64 cn, .slice so sn sc] 34 (0, 0)) ∧ (∀ w'', (∀ k, w.heap.size ≤ k → w''.heap[k]? = (((w8.setCell ⟨w.heap.size + 1, 0, none⟩ (.int .i64 cn)).setCell ⟨w.heap.size + 1, 1, none⟩ (.slice so sn sc)).drew).heap[k]?) → ClsAt w'' (.slice so sn sc) (allC gs (needL gs rs) rs)) ∧ (((w8.setCell ⟨w.heap.size + 1, 0, none⟩ (.int .i64 cn)).setCell ⟨w.heap.size + 1, 1, none⟩ (.slice so sn sc)).drew).heap[U]? = some (.cells (rowI (numL (needL gs rs) (gs.length + 1))) 3 (0, 0))) := by
      have hblk : ∀ k, k ≠ w.heap.size + 1 → (((w8.setCell ⟨w.heap.size + 1, 0, none⟩ (.int .i64 cn)).setCell ⟨w.heap.size + 1, 1, none⟩ (.slice so sn sc)).drew).heap[k]? = w8.heap[k]? := fun k hk => by
        show ((w8.setCell ⟨w.heap.size + 1, 0, none⟩ (.int .i64 cn)).setCell ⟨w.heap.size + 1, 1, none⟩ (.slice so sn sc)).heap[k]? = _
        rw [Below.heap_setCell _ _ _ _ hk, Below.heap_setCell _ _ _ _ hk]
      refine ⟨?_, heap_setCell_at (i := 1) (heap_setCell_at (i := 0) hR8 _) _, fun w'' hw'' => hcls _ (fun k hk => (hw'' k (by omega)).trans (hblk k (by omega))), ?_⟩
      · have hbw : Below w.heap.size w w8 := HB1.out.trans (hb8.mono (by omega))
        exact ((hbw.setCell (by show w.heap.size ≤ w.heap.size + 1; omega) _).setCell (by show w.heap.size ≤ w.heap.size + 1; omega) _).drew
      · rw [hblk U (fun h => ?_)]
        · exact hU8
        · have := HNE.out.2.2; omega
    have hne8 : w1.heap.size + 1 ≠ w.heap.size + 1 := by omega
    have y5 : ((w8.setCell ⟨w.heap.size + 1, 0, none⟩ (.int .i64 cn)).setCell ⟨w.heap.size + 1, 1, none⟩ (.slice so sn sc)).cell? ⟨w1.heap.size + 1, 0, none⟩ = some (.slice (some ⟨U, 0, none⟩) (gs.length + 1) (gs.length + 1)) := by
      have e1 := Below.heap_setCell (w8.setCell ⟨w.heap.size + 1, 0, none⟩ (.int .i64 cn)) ⟨w.heap.size + 1, 1, none⟩ (.slice so sn sc) (w1.heap.size + 1) hne8
      have e2 := Below.heap_setCell w8 ⟨w.heap.size + 1, 0, none⟩ (.int .i64 cn) (w1.heap.size + 1) hne8
      rw [cell_of_row _ _ _ _ _ (0, 0) ((e1.trans e2).trans hC8)]; rfl
    have y6 : ((w8.setCell ⟨w.heap.size + 1, 0, none⟩ (.int .i64 cn)).setCell ⟨w.heap.size + 1, 1, none⟩ (.slice so sn sc)).drew.cell? ⟨w1.heap.size + 1, 0, none⟩ = some (.slice (some ⟨U, 0, none⟩) (gs.length + 1) (gs.length + 1)) := y5
    clear hne8 hfm8 hmv8 hb8 hU8 hnU8 hC8 hnC8 hF8 hB8 hone hcls hR8 hsn hRl
    go_wp2
    go_region
    all_goals clear y0 y1 y2 y3 y4 y5 y6 f3 f4
    all_goals go_wp2
    all_goals obtain ⟨wf, hwf⟩ : ∃ wf, wf = ((w8.setCell ⟨w.heap.size + 1, 0, none⟩ (.int .i64 cn)).setCell ⟨w.heap.size + 1, 1, none⟩ (.slice so sn sc)).drew := ⟨_, rfl⟩
    all_goals rw [← hwf] at HFIN
    all_goals rw [← hwf]
    all_goals have y0 : wf.cell? ⟨w.heap.size + 1, 0, none⟩ = some (.int .i64 cn) := by rw [cell_of_row _ _ 0 _ _ (0, 0) HFIN.out.2.1]; rfl
    all_goals have y1 : wf.cell? ⟨w.heap.size + 1, 1, none⟩ = some (.slice so sn sc) := by rw [cell_of_row _ _ 1 _ _ (0, 0) HFIN.out.2.1]; rfl
    all_goals refine bodyPost_ret (v := .tuple #[.agg #[.int .i64 cn, .slice so sn sc], .slice (some ⟨U, 0, none⟩) (gs.length + 1) (gs.length + 1), .nilIface]) (by simp [results, Tryd.results7, go_sem, y0, y1]) rfl ?_
    all_goals exact ⟨HFIN.out.1, .inl ⟨HALL.out, _, U, by have := HNE.out.2.2; have := HS1.out; omega, by rw [HCN.out], HFIN.out.2.2.1, HFIN.out.2.2.2⟩⟩
  · have HNALL : Hid (¬ ∀ x ∈ rs, HasL gs x) := fun h => by rw [any_has.2 h] at hq; cases hq
    have c0 : w1.cell? ⟨0, 0, none⟩ = some (.iface ts qs) := HSH.out
    have c1 : w1.cell? ⟨w.heap.size + 1, 0, none⟩ = some (.int .i64 0) := by rw [cell_of_row w1 _ _ _ _ (0, 0) HR1.out]; rfl
    have c2 : w1.cell? ⟨w.heap.size + 1, 0 + 1, none⟩ = some (.slice none 0 0) := by rw [cell_of_row w1 _ _ _ _ (0, 0) HR1.out]; rfl
    have f1 : w1.frozen? ⟨w.heap.size + 1, 0, none⟩ = false := frozen_row HR1.out
    have f2 : w1.frozen? ⟨w.heap.size + 1, 0 + 1, none⟩ = false := frozen_row HR1.out
    have HBF : Hid (Below w.heap.size w (((w1.setCell ⟨w.heap.size + 1, 0, none⟩ (.int .i64 0)).setCell ⟨w.heap.size + 1, 1, none⟩ (.slice none 0 0)).drew)) := ((HB1.out.setCell (by show w.heap.size ≤ w.heap.size + 1; omega) _).setCell (by show w.heap.size ≤ w.heap.size + 1; omega) _).drew
    have hR2 := heap_setCell_at (i := 1) (heap_setCell_at (i := 0) HR1.out (.int .i64 0)) (.slice none 0 0)
    have HR2 : Hid ((((w1.setCell ⟨w.heap.size + 1, 0, none⟩ (.int .i64 0)).setCell ⟨w.heap.size + 1, 1, none⟩ (.slice none 0 0)).drew).heap[w.heap.size + 1]? = some (.cells #[.int .i64 0, .slice none 0 0] 34 (0, 0))) := hR2
    clear hR2
    go_wp2
    go_region
    all_goals clear c0 c1 c2 f1 f2
    all_goals go_wp2
    all_goals obtain ⟨wf, hwf⟩ : ∃ wf, wf = ((w1.setCell ⟨w.heap.size + 1, 0, none⟩ (.int .i64 0)).setCell ⟨w.heap.size + 1, 1, none⟩ (.slice none 0 0)).drew := ⟨_, rfl⟩
    all_goals rw [← hwf] at HR2 HBF
    all_goals rw [← hwf]
    all_goals have y0 : wf.cell? ⟨w.heap.size + 1, 0, none⟩ = some (.int .i64 0) := by rw [cell_of_row _ _ 0 _ _ (0, 0) HR2.out]; rfl
    all_goals have y1 : wf.cell? ⟨w.heap.size + 1, 1, none⟩ = some (.slice none 0 0) := by rw [cell_of_row _ _ 1 _ _ (0, 0) HR2.out]; rfl
    all_goals refine bodyPost_ret (v := .tuple #[.agg #[.int .i64 0, .slice none 0 0], .slice none 0 0, .iface ts qs]) (by simp [results, Tryd.results7, go_sem, y0, y1]) rfl ?_
    all_goals exact ⟨HBF.out, .inr ⟨HNALL.out, rfl⟩⟩
end Go.Proofs.YtlclbidjdhlklaaDoor
