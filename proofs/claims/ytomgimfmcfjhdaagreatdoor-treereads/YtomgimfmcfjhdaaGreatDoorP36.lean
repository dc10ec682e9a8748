/-
  lustrumlaw1.TreeReads, WALKED.
-/
import Derived.Test.YtomgimfmcfjhdaaGreatDoorP09
import Derived.Test.YtomgimfmcfjhdaaGreatDoorP35
import Derived.Test.YtomgimfmcfjhdaaGreatDoorP26
import Derived.Test.YtomgimfmcfjhdaaGreatDoorP30
import Derived.Test.YtomgimfmcfjhdaaGreatDoorP28
namespace Go.Proofs.YtomgimfmcfjhdaaGreatDoor
open Go.RowKit
attribute [local go_sem ↓] Go.wp_at_zero Go.wp_at_succ

theorem Fit.mono {N M : Nat} {l : List Ex} (h : Fit N l) (hm : N ≤ M) : Fit M l := by
  induction h with
  | nil => exact .nil
  | cons op n s l es h1 _ _ ih1 ih2 => exact .cons op n s l es (by omega) ih1 ih2
set_option maxRecDepth 100000 in
set_option maxHeartbeats 2000000 in
theorem tree_walk (a : Nat → Addr) (s : ByteArray) (w : World) (ev : Value) (S : Sents a w) (hm : s.size ≤ maxLen) (hv : w.cell? ⟨11, 0, none⟩ = some ev) (hev : ev = .nilIface ∨ ∃ te pe, ev = .iface te pe) :
    Calls Tryz.prog 4 #[.string s] w fun e w' => e = .returned (.bool true) ∧ Below w.heap.size w w' := by
  unfold maxLen at hm
  go_enter Tryz.func4, Tryz.ntmps4
  go_wp2_with fail
  refine (pass_any _ _ _ ev S.g0 S.g1 hv hev).mono ?_
  rintro e w1 ⟨rfl, hb1⟩
  have S1 := S.below hb1
  have hv1 := cell_keep hb1 hv
  by_cases h1 : 6000 < s.size
  · go_wp2_with fail
    refine (read_long s _ _ _ h1 (by unfold maxLen; omega) S1.g1).mono ?_
    rintro e w2 ⟨rfl, hb2⟩
    go_wp2_with fail
    refine (treeOf_long s _ h1 (by unfold maxLen; omega)).mono ?_
    rintro e w3 ⟨rfl, hb3⟩
    have hB3 : Below w1.heap.size w1 w3 := hb2.trans (hb3.mono hb2.size)
    have hbA : Below w3.heap.size w3 (w3.alloc (.cells #[.int .i64 2, .int .i64 (-1)] 44)) := (Below.refl _ _).alloc (Nat.le_refl _) _
    have S4 := (S1.below hB3).below hbA
    obtain ⟨cb, tb, hrow⟩ := S4.row 1 (by omega)
    clear S1 hv1 hb3
    go_wp2_with fail
    refine (faulted_str a (a 1) 1 2 (-1) cb tb _ S4 hrow (by omega) (fun j hj => S.inj 1 j (by omega) (by omega) (by omega)) (fun _ => rfl) (by rw [codeOf_in (by omega)]; rfl) rfl).mono ?_
    rintro e w5 ⟨rfl, hb5⟩
    have hB : Below w.heap.size w w5 := hb1.trans (((hB3.trans (hbA.mono hB3.size)).trans (hb5.mono (Nat.le_trans hB3.size hbA.size))).mono hb1.size)
    clear S4 hrow S
    go_wp2
    go_ret
    exact ⟨rfl, hB⟩
  · by_cases h2 : 2500 < s.size
    · go_wp2
      go_ret
      exact ⟨rfl, hb1⟩
    · go_wp2_with fail
      refine (read_any s _ _ _ ev (by omega) S1.g0 S1.g1 hv1 hev).mono ?_
      rintro e w2 ⟨hb2, hL⟩
      rcases hL with ⟨l, es, j, v, hl, hP, rfl, hN⟩ | ⟨l, j, p, bd, hl, hP, hj, rfl, hp0, hp1⟩ | ⟨l, j, p, hl, rfl, hp0, hp1⟩
      · have T : Tkl l := hl.toks (by omega)
        go_wp2_with fail
        refine (treeOf_any s _ (by omega) l hl T).mono ?_
        rintro e w3 ⟨hb3, hT⟩
        rcases hT with ⟨es', j', v', hP', rfl, hN'⟩ | ⟨j', bd, hP', _⟩
        · have he := hP.one hP'
          injection he with he _
          subst he
          obtain ⟨hfit, hlen⟩ := hP.fit
          have hll : l.length ≤ 6001 := hl.len (by omega)
          obtain ⟨ys, hrow, hin⟩ := hN
          obtain ⟨ys', hrow', hin'⟩ := hN'
          obtain ⟨so, sc, rfl⟩ := hrow.form
          obtain ⟨so', sc', rfl⟩ := hrow'.form
          have hbA : Below w3.heap.size w3 (w3.alloc (.cells #[.int .i64 0, .int .i64 (-1)] 44)) := (Below.refl _ _).alloc (Nat.le_refl _) _
          have hB2 : Below w2.heap.size w2 (w3.alloc (.cells #[.int .i64 0, .int .i64 (-1)] 44)) := hb3.trans (hbA.mono hb3.size)
          have R1 := hrow.keep (Stays.below hB2 (fun k hk => hk))
          have R2 := hin.keep (Stays.below hB2 (fun k hk => hk))
          have R3 := hrow'.keep (Stays.below hbA (fun k hk => hk))
          have R4 := hin'.keep (Stays.below hbA (fun k hk => hk))
          have hB : Below w.heap.size w (w3.alloc (.cells #[.int .i64 0, .int .i64 (-1)] 44)) := hb1.trans ((hb2.trans (hB2.mono hb2.size)).mono hb1.size)
          have HR1 : Hid _ := R1
          have HR2 : Hid _ := R2
          have HR3 : Hid _ := R3
          have HR4 : Hid _ := R4
          clear R1 R2 R3 R4 hrow hin hrow' hin' S1 hv1
          go_wp2_with fail
          refine (backNodes_any _ (From w1.heap.size) so sc es ys HR1.out HR2.out (by omega) (hfit.mono (by omega))).mono ?_
          rintro e w4 ⟨⟨qo, qc, zs, rfl, hq1, hq2⟩, hb4⟩
          have HR5 : Hid _ := hq1
          have HR6 : Hid _ := hq2
          clear hq1 hq2
          go_wp2_with fail
          refine (sameNodes_any _ (fun _ => True) (From w2.heap.size) qo so' qc sc' es zs ys' HR5.out HR6.out (RowAt.keep HR3.out (Stays.below hb4 (fun k hk => hk))) (NdIn.keep HR4.out (Stays.below hb4 (fun k hk => hk)))).mono ?_
          rintro e w5 ⟨rfl, hb5⟩
          have hBB : Below w.heap.size w w5 := hB.trans ((hb4.trans (hb5.mono hb4.size)).mono hB.size)
          clear S
          go_wp2
          go_ret
          exact ⟨rfl, hBB⟩
        · exact absurd (hP.one hP') (by simp)
      · have T : Tkl l := hl.toks (by omega)
        go_wp2_with fail
        refine (treeOf_any s _ (by omega) l hl T).mono ?_
        rintro e w3 ⟨hb3, hT⟩
        rcases hT with ⟨es', j', v', hP', rfl, hN'⟩ | ⟨j', bd', hP', hj', rfl⟩
        · exact absurd (hP.one hP') (by simp)
        · have he := hP.one hP'
          injection he with e1 e2
          subst e1 e2
          have hbA : ∀ o, Below w3.heap.size w3 (w3.alloc o) := fun o => (Below.refl _ _).alloc (Nat.le_refl _) o
          cases bd with
          | false =>
            have S4 := ((S1.below hb2).below hb3).below (hbA (.cells #[.int .i64 1, .int .i64 (tkp l j)] 44))
            obtain ⟨cb, tb, hrow⟩ := S4.row 0 (by omega)
            have q0 := cell_keep (hbA (.cells #[.int .i64 1, .int .i64 (tkp l j)] 44)) (cell_keep hb3 hp0)
            have q1 := cell_keep (hbA (.cells #[.int .i64 1, .int .i64 (tkp l j)] 44)) (cell_keep hb3 hp1)
            have HA : Hid _ := hbA
            clear S1 hv1 hp0 hp1 hbA
            simp only [Bool.false_eq_true, if_false] at q1 ⊢
            go_wp2_with fail
            refine (faulted_fault a (a 0) 0 p 1 (tkp l j) cb tb _ S4 q0 q1 hrow (by omega) (fun j hj => by omega) (fun _ => rfl) (by rw [codeOf_in (by omega)]; rfl)).mono ?_
            rintro e w5 ⟨rfl, hb5⟩
            have hB : Below w.heap.size w w5 := hb1.trans ((hb2.trans (((hb3.trans ((HA.out _).mono hb3.size)).trans (hb5.mono (Nat.le_trans hb3.size (HA.out _).size))).mono hb2.size)).mono hb1.size)
            clear S4 hrow S q0 q1
            go_wp2
            go_ret
            exact ⟨rfl, hB⟩
          | true =>
            have S4 := ((S1.below hb2).below hb3).below (hbA (.cells #[.int .i64 2, .int .i64 (tkp l j)] 44))
            obtain ⟨cb, tb, hrow⟩ := S4.row 1 (by omega)
            have q0 := cell_keep (hbA (.cells #[.int .i64 2, .int .i64 (tkp l j)] 44)) (cell_keep hb3 hp0)
            have q1 := cell_keep (hbA (.cells #[.int .i64 2, .int .i64 (tkp l j)] 44)) (cell_keep hb3 hp1)
            have HA : Hid _ := hbA
            clear S1 hv1 hp0 hp1 hbA
            simp only [if_true] at q1 ⊢
            go_wp2_with fail
            refine (faulted_fault a (a 1) 1 p 2 (tkp l j) cb tb _ S4 q0 q1 hrow (by omega) (fun j hj => S.inj 1 j (by omega) (by omega) (by omega)) (fun _ => rfl) (by rw [codeOf_in (by omega)]; rfl)).mono ?_
            rintro e w5 ⟨rfl, hb5⟩
            have hB : Below w.heap.size w w5 := hb1.trans ((hb2.trans (((hb3.trans ((HA.out _).mono hb3.size)).trans (hb5.mono (Nat.le_trans hb3.size (HA.out _).size))).mono hb2.size)).mono hb1.size)
            clear S4 hrow S q0 q1
            go_wp2
            go_ret
            exact ⟨rfl, hB⟩
      · go_wp2_with fail
        refine (treeOf_bad s _ (by omega) l j hl).mono ?_
        rintro e w3 ⟨rfl, hb3⟩
        have hbA : Below w3.heap.size w3 (w3.alloc (.cells #[.int .i64 1, .int .i64 j] 44)) := (Below.refl _ _).alloc (Nat.le_refl _) _
        have S4 := ((S1.below hb2).below hb3).below hbA
        obtain ⟨cb, tb, hrow⟩ := S4.row 0 (by omega)
        have q0 := cell_keep hbA (cell_keep hb3 hp0)
        have q1 := cell_keep hbA (cell_keep hb3 hp1)
        clear S1 hv1 hp0 hp1
        go_wp2_with fail
        refine (faulted_fault a (a 0) 0 p 1 j cb tb _ S4 q0 q1 hrow (by omega) (fun j hj => by omega) (fun _ => rfl) (by rw [codeOf_in (by omega)]; rfl)).mono ?_
        rintro e w5 ⟨rfl, hb5⟩
        have hB : Below w.heap.size w w5 := hb1.trans ((hb2.trans (((hb3.trans (hbA.mono hb3.size)).trans (hb5.mono (Nat.le_trans hb3.size hbA.size))).mono hb2.size)).mono hb1.size)
        clear S4 hrow S q0 q1
        go_wp2
        go_ret
        exact ⟨rfl, hB⟩
end Go.Proofs.YtomgimfmcfjhdaaGreatDoor
