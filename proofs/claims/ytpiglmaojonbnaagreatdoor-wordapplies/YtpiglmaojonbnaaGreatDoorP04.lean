/-
  package graph: Gates, Inputs, Not, BY CONTRACT.
-/
import Derived.Test.YtpiglmaojonbnaaGreatDoorP03
import Derived.Deep.QuietTactic
import Derived.BigQuiet
import Derived.WalkSmall
import Derived.LoopTactic
import Derived.Deep.RegionLaw
namespace Go.Proofs.YtpiglmaojonbnaaGreatDoor
open Go.RowKit Go.Maps
theorem gates_any {G : Nat} {gs : List (Int × Int)} {ins : Nat} {F : Nat → Prop} {w : World} (h : GrAt G gs ins F w) (hl : gs.length ≤ 100000) :
    Calls Tryz.prog 32 #[.pointer (some ⟨G, 0, none⟩)] w fun e w' => e = .returned (.int .i64 ((gs.length : Int) + 1)) ∧ w' = w := by
  obtain ⟨t, sv, mv, h3, c0, c1, c2, h4, h5, h6⟩ := h.cells
  obtain ⟨o, c, rfl, hn⟩ := owns_form h4
  go_enter Tryz.func32, Tryz.ntmps32
  go_wp2
  go_ret
  exact ⟨by rw [Int.add_comm]; rfl, rfl⟩
theorem xor_one (n : Nat) : n ^^^ 1 = if n % 2 = 0 then n + 1 else n - 1 := by
  have h1 : (n ^^^ 1) / 2 = n / 2 := by rw [Nat.xor_div_two]; simp
  have h2 : (n ^^^ 1) % 2 = (n % 2 + 1) % 2 := by have := Nat.xor_mod_two_eq_one (a := n) (b := 1); omega
  split <;> omega
theorem bits_turn {a : Int} (ha : I64 a) : bits .xor .i64 a 1 = turnL a := by
  unfold I64 at ha
  have h1 : ((BitVec.ofInt 64 a).toNat : Int) = a % 18446744073709551616 := by simp [BitVec.toNat_ofInt]; omega
  show IntKind.i64.wrap ((BitVec.ofInt 64 a ^^^ BitVec.ofInt 64 1).toNat : Int) = _
  have h2 : (BitVec.ofInt 64 (1 : Int)).toNat = 1 := by decide
  rw [BitVec.toNat_xor, h2, xor_one, IntKind.wrap_i64]
  unfold turnL
  split <;> split <;> omega
theorem not_any (a : Int) (w : World) (ha : I64 a) :
    Calls Tryz.prog 60 #[.int .i64 a] w fun e w' => e = .returned (.int .i64 (turnL a)) ∧ w' = w := by
  go_enter Tryz.func60, Tryz.ntmps60
  go_wp2
  go_ret
  exact ⟨by rw [← bits_turn ha]; rfl, rfl⟩

/-- Numbers one behind the other. -/
def IntsAt (w : World) (v : Value) (l : List Int) : Prop := l.length ≤ maxLen ∧ ∃ o c, v = .slice o l.length c ∧ ∀ k x, l[k]? = some x → ∃ b off, o = some ⟨b, off, none⟩ ∧ w.cell? ⟨b, off + k, none⟩ = some (.int .i64 x)
set_option maxHeartbeats 1000000 in
theorem has_any {G : Nat} {gs : List (Int × Int)} {ins : Nat} {F : Nat → Prop} {w : World} (h : GrAt G gs ins F w) (hl : gs.length ≤ 100000) (v : Value) (l : List Int) (hv : IntsAt w v l) (hI : ∀ x ∈ l, I64 x) :
    Calls Tryz.prog 25 #[.pointer (some ⟨G, 0, none⟩), v] w fun e w' => e = .returned (.bool (l.all fun x => hasB gs x)) ∧ w' = w := by
  obtain ⟨hlen, o, c, rfl, hc⟩ := hv
  unfold maxLen at hlen
  go_enter Tryz.func25, Tryz.ntmps25
  go_wp2
  go_loop [9] (fun i => ∃ j : Nat, j ≤ l.length ∧ i = .int .i64 j ∧ ∀ k x, k < j → l[k]? = some x → HasL gs x) (fun i => l.length - (intOf i).toNat)
  case atStart => exact ⟨0, Nat.zero_le _, rfl, fun k x hk => by omega⟩
  case round =>
    obtain ⟨j, hj, rfl, hall⟩ := hrel
    by_cases hjl : j < l.length
    · obtain ⟨x, hx⟩ : ∃ x, l[j]? = some x := ⟨_, List.getElem?_eq_getElem hjl⟩
      obtain ⟨b, off, rfl, hcx⟩ := hc j x hx
      have hix := hI x (List.mem_of_getElem? hx)
      unfold I64 at hix
      have HX : Hid (∀ k x, l[k]? = some x → ∃ b' off', some (⟨b, off, none⟩ : Addr) = some ⟨b', off', none⟩ ∧ w.cell? ⟨b', off' + k, none⟩ = some (.int .i64 x)) := hc
      clear hc
      have hno : ¬ HasL gs x → (l.all fun x => hasB gs x) = false := fun hn => by
        rw [List.all_eq_false]; exact ⟨x, List.mem_of_getElem? hx, by rw [hasB_f hn]; simp⟩
      have HN : Hid (¬ HasL gs x → (l.all fun x => hasB gs x) = false) := hno
      clear hno
      have HH : Hid (∀ k x, k < j → l[k]? = some x → HasL gs x) := hall
      clear hall hI
      by_cases hneg : x < 0
      · go_wp2
        go_ret
        exact ⟨by rw [HN.out (by unfold HasL; omega)]; rfl, rfl⟩
      · by_cases hbig : (gs.length : Int) + 1 ≤ x / 2
        · go_wp2_with (go_at_call 32; refine (gates_any h hl).mono ?_; rintro e w' ⟨rfl, rfl⟩)
          go_ret
          exact ⟨by rw [HN.out (by unfold HasL; omega)]; rfl, rfl⟩
        · go_wp2_with (go_at_call 32; refine (gates_any h hl).mono ?_; rintro e w' ⟨rfl, rfl⟩)
          go_round
          case rel =>
            refine ⟨j + 1, by omega, by go_num, fun k y hk hy => ?_⟩
            rcases Nat.lt_or_ge k j with h1 | h1
            · exact HH.out k y h1 hy
            · obtain rfl : k = j := by omega
              rw [hx] at hy
              cases hy
              unfold HasL; omega
          case measure => simp [intOf]; omega
    · obtain rfl : j = l.length := by omega
      have he : (l.all fun x => hasB gs x) = true := by
        rw [List.all_eq_true]
        intro x hx
        obtain ⟨k, hk, rfl⟩ := List.getElem_of_mem hx
        exact hasB_t (hall k _ hk (List.getElem?_eq_getElem hk))
      have HE : Hid ((l.all fun x => hasB gs x) = true) := he
      clear he hc hI
      go_wp2
      go_ret
      exact ⟨by rw [HE.out]; rfl, rfl⟩
end Go.Proofs.YtpiglmaojonbnaaGreatDoor

/-
  package graph: add BY ITS CONTRACT (where there is room: fewer gates than may be).
-/
namespace Go.Proofs.YtpiglmaojonbnaaGreatDoor
open Go.RowKit Go.Maps
theorem Tryz.infoPair : (Tryz.prog.info? 58).map (fun i => (i.zero, i.size, i.bytes)) = some (some (.agg #[.int .i64 0, .int .i64 0]), 2, 16) := by kernel_rfl
theorem heap_grown {w w' : World} {row : Option Nat} (hg : w.grownBy w' row) {b : Nat} {o : Obj} (hne : row ≠ some b) (h : w.heap[b]? = some o) : w'.heap[b]? = some o := by
  rw [hg.block b (Array.getElem?_eq_some_iff.1 h).1 (fun e => hne e.symm)]; exact h
theorem alloc_row {w : World} (o : Obj) {k : Nat} {x : Obj} (h : w.heap[k]? = some x) : (w.alloc o).heap[k]? = some x := by
  rw [Below.heap_alloc w o k (Array.getElem?_eq_some_iff.1 h).1]; exact h

theorem size_setCell (w : World) (a : Addr) (u : Value) : (w.setCell a u).heap.size = w.heap.size := by simp [World.setCell]
theorem add_end {G : Nat} {gs : List (Int × Int)} {ins : Nat} {F : Nat → Prop} {w w1 w2 w3 : World} {a b : Int} {t : TypeId} {sv mv : Value} {g cap : Nat} (h : GrAt G gs ins F w) (hb1 : Below w.heap.size w w1) (h3 : w1.heap[G]? = some (.cells #[sv, mv, .int .i64 ins] t (0, 0)))
    (h5 : ∀ k, sv.ownBlock = some k → F k ∧ k ≠ G) (h6 : MapAt gs mv F w1) (hb2 : Below w1.heap.size w1 w2) (hgrow : w2.grownBy w3 sv.ownBlock) (hat : sv.ownBlock = some g ∨ g = w2.heap.size) (hlt : g < w3.heap.size)
    (hown : w3.ownsRow 0 58 2 (.slice (some ⟨g, 0, none⟩) (gs.length + 1) cap) (gs.length + 1) (pcells gs ++ [.int .i64 a, .int .i64 b])) :
    ∃ F', GrRaw G (gs ++ [(a, b)]) gs ins F' (w3.setCell ⟨G, 0, none⟩ (.slice (some ⟨g, 0, none⟩) (gs.length + 1) cap)) ∧ Mvd F F' w (w3.setCell ⟨G, 0, none⟩ (.slice (some ⟨g, 0, none⟩) (gs.length + 1) cap)) := by
  have hF := h.2.2.1
  have hs : w.heap.size ≤ w3.heap.size := Nat.le_trans hb1.size (Nat.le_trans hb2.size hgrow.size)
  have hk : ∀ k, k < w.heap.size → sv.ownBlock ≠ some k → w3.heap[k]? = w.heap[k]? := fun k hk hne => by
    rw [hgrow.block k (by have := hb1.size; have := hb2.size; omega) (fun e => hne e.symm), hb2.block k (by have := hb1.size; omega), hb1.block k hk]
  have hgG : g ≠ G := by
    rcases hat with hat | hat
    · exact (h5 g hat).2
    · have := hF G h.2.1; have := hb1.size; have := hb2.size; omega
  have h33 : w3.heap[G]? = some (.cells #[sv, mv, .int .i64 ins] t (0, 0)) := by
    rw [hk G (hF G h.2.1) (fun e => (h5 G e).2 rfl), ← hb1.block G (hF G h.2.1)]; exact h3
  refine ⟨With F w w3, ⟨.inl h.2.1, fun k hk => ?_, t, _, mv, heap_setCell_at h33 _, ?_, fun k hk => ?_, ?_⟩, ⟨?_, ?_, ?_, ?_, fun k hk' hn => ?_, fun k hk => ?_⟩⟩
  · rw [size_setCell]
    rcases hk with hk | hk
    · have := hF k hk; omega
    · exact hk.2
  · rw [pcells_app]
    have e : (gs ++ [(a, b)]).length = gs.length + 1 := by simp
    rw [e]
    exact owns_keep hown (fun k hk => by
      have : k = g := by simpa [Value.ownBlock] using hk.symm
      subst this
      exact Below.heap_setCell _ _ _ _ hgG)
  · have : k = g := by simpa [Value.ownBlock] using hk.symm
    subst this
    refine ⟨?_, hgG⟩
    rcases hat with hat | hat
    · exact .inl (h5 k hat).1
    · exact .inr ⟨by have := hb1.size; have := hb2.size; omega, hlt⟩
  · rcases h6 with h6 | ⟨B, n, D, rfl, hB, hn, hm, r⟩
    · exact .inl h6
    · have hm' := hm
      obtain ⟨es, clock, hbB, _⟩ := hm'
      have hBlt := hF B hB
      have hBG : B ≠ G := fun e => by subst e; rw [h3] at hbB; cases hbB
      have hBr : sv.ownBlock ≠ some B := fun e => by
        obtain ⟨_, _, _, t', sv', mv', q3, q4, q5, _⟩ := h
        rw [← hb1.block G (hF G ‹_›)] at q3
        rw [q3] at h3
        simp only [Option.some.injEq, Obj.cells.injEq] at h3
        have : sv' = sv := (List.cons.inj (congrArg Array.toList h3.1)).1
        subst this
        obtain ⟨_, q4⟩ := q4
        rcases q4 with ⟨rfl, _⟩ | ⟨g', cap', cur', rfl, _, hg', _⟩
        · simp [Value.ownBlock] at e
        · simp [Value.ownBlock] at e
          subst e
          rw [hb1.block g' hBlt, hg'] at hbB
          cases hbB
      refine .inr ⟨B, n, D, rfl, .inl hB, hn, map_keep hm ?_, r⟩
      rw [Below.heap_setCell _ _ _ _ hBG, hk B hBlt hBr, ← hb1.block B hBlt]
  · exact hgrow.os.trans (hb2.os.trans hb1.os)
  · exact hgrow.tape.trans (hb2.tape.trans hb1.tape)
  · exact hgrow.output.trans (hb2.output.trans hb1.output)
  · rw [size_setCell]; exact hs
  · rw [Below.heap_setCell _ _ _ _ (fun e => hn (by rw [show k = G from e]; exact h.2.1)), hk k hk' (fun e => hn (h5 k e).1)]
  · rw [size_setCell]; exact hk

set_option maxRecDepth 100000 in
set_option maxHeartbeats 2000000 in
theorem add_any {G : Nat} {gs : List (Int × Int)} {ins : Nat} {F : Nat → Prop} {w : World} (h : GrAt G gs ins F w) (hl : gs.length < 90000) (a b : Int) :
    Calls Tryz.prog 17 #[.pointer (some ⟨G, 0, none⟩), .agg #[.int .i64 a, .int .i64 b]] w fun e w' => e = .returned (.tuple #[.int .i64 (2 * (gs.length : Int) + 2), .nilIface]) ∧ ∃ F', GrRaw G (gs ++ [(a, b)]) gs ins F' w' ∧ Mvd F F' w w' := by
  have hb1 : Below w.heap.size w (w.alloc (.cells #[.int .i64 a, .int .i64 b] 58)) := (Below.refl _ _).alloc (Nat.le_refl _) _
  have h1 := h.below hb1
  obtain ⟨t, sv, mv, h3, c0, c1, c2, h4, h5, h6⟩ := h1.cells
  obtain ⟨o, c, rfl, hn⟩ := owns_form h4
  obtain ⟨i0, hi0, hz0, hz1, hz2⟩ := info_parts Tryz.infoPair
  have hG : G < w.heap.size := h.2.2.1 G h.2.1
  have H3 : Hid _ := h3
  have H4 : Hid (World.ownsRow _ _ _ _ _ _ _) := h4
  have H5 : Hid (∀ k, _) := h5
  have H6 : Hid (MapAt _ _ _ _) := h6
  have H1 : Hid (GrAt _ _ _ _ _) := h1
  have H0 : Hid (GrAt _ _ _ _ _) := h
  clear h3 h4 h5 h6 h1 h c1 c2
  go_enter Tryz.func17, Tryz.ntmps17
  go_wp2_with fail
  refine (gates_any H1.out (by omega)).mono ?_
  rintro e w' ⟨rfl, hw⟩
  subst hw
  have hd : ((100000 : Int) ≤ (gs.length : Int) + 1) = False := eq_false (by omega)
  have HL : Hid (gs.length < 90000) := hl
  clear hl hn
  obtain ⟨w1, hw1⟩ : ∃ w1, w1 = w.alloc (.cells #[.int .i64 a, .int .i64 b] 58) := ⟨_, rfl⟩
  have p0 : w1.cell? ⟨w.heap.size, 0, none⟩ = some (.int .i64 a) := by rw [hw1]; simp
  have p1 : w1.cell? ⟨w.heap.size, 0 + 1, none⟩ = some (.int .i64 b) := by rw [hw1]; simp
  have hs1 : w1.heap.size = w.heap.size + 1 := by rw [hw1]; simp
  have HS : Hid (w1.heap.size = w.heap.size + 1) := hs1
  clear hs1
  rw [← hw1] at hb1 c0 H3 H4 H6 H1
  rw [← hw1]
  clear hw1
  have hby : (gs.length + 1) * 16 ≤ 140737488355328 := by have := HL.out; omega
  have hn63 : gs.length + 1 ≤ maxLen := by have := HL.out; unfold maxLen; omega
  have hdr : (w1.drew).ownsRow 0 58 2 (.slice o gs.length c) gs.length (pcells gs) := H4.out
  have HO : Hid (∀ o', (w1.drew.alloc o').ownsRow 0 58 2 (.slice o gs.length c) gs.length (pcells gs)) := fun o' => hdr.alloc o'
  have hnb : (w1.drew.alloc (.cells #[.int .i64 a, .int .i64 b] 58)).heap[w1.heap.size]? = some (.cells #[.int .i64 a, .int .i64 b] 58) := by
    show (w1.heap.push _)[w1.heap.size]? = _
    simp
  have HN' : Hid _ := World.news_of_block hnb
  have HG : Hid ((w1.drew.alloc (.cells #[.int .i64 a, .int .i64 b] 58)).heap[G]? = _) := alloc_row (w := w1.drew) _ H3.out
  have HR : Hid ((Value.slice o gs.length c).ownBlock ≠ some G) := fun hk => (H5.out G hk).2 rfl
  clear hnb hdr
  have hG1 : G < w1.heap.size := by rw [HS.out]; omega
  have hP1 : w.heap.size < w1.heap.size := by rw [HS.out]; omega
  have HB : Hid (_ ≤ _) := hby
  have HM : Hid (_ ≤ _) := hn63
  clear hby hn63
  go_wp2
  go_region_law (first
    | (refine step_append_lies _ rfl (.tmp 14) (.tmp 16) 28 rfl 0 58 i0 _ 2 16 Tryz.underlying28 hi0 hz0 hz1 hz2 rfl (by omega) (.slice o gs.length c) gs.length (pcells gs) (by simp [Act.eval]) (HO.out _) ⟨w1.heap.size, 0, none⟩ 1 1 [.int .i64 a, .int .i64 b] (by simp [Act.eval]) rfl HN'.out (by simp [Value.oneCell']) (by omega) HM.out HB.out (Nat.zero_le _) _ rfl ?_; intro g cap w3 hown3 hgrow hat hlt3; have HG3 : Hid (w3.heap[G]? = _) := heap_grown hgrow HR.out HG.out; have q0 := cell_of_row w3 G 0 _ _ (0, 0) HG3.out; have qf := frozen_row (i := 0) HG3.out))
  all_goals
    have HE : Hid (∃ F', GrRaw G (gs ++ [(a, b)]) gs ins F' (w3.setCell ⟨G, 0, none⟩ (.slice (some ⟨g, 0, none⟩) (gs.length + 1) cap)) ∧ Mvd F F' w (w3.setCell ⟨G, 0, none⟩ (.slice (some ⟨g, 0, none⟩) (gs.length + 1) cap))) :=
      add_end H0.out hb1 H3.out H5.out H6.out ((Below.refl _ _).alloc (Nat.le_refl _) _).drew hgrow hat hlt3 hown3
    clear HO HN' HG HR hown3 hgrow hat hlt3 H0 hb1 H3 H5 H6 H4 H1 HB HM hd hi0 hz0 hz1 hz2 c0 p0 p1
    go_wp2
    go_ret2
    have hwr : wrap64 (2 * ((gs.length : Int) + 1)) = 2 * (gs.length : Int) + 2 := by have := HL.out; unfold wrap64; omega
    exact ⟨by rw [← hwr]; rfl, HE.out⟩
end Go.Proofs.YtpiglmaojonbnaaGreatDoor
