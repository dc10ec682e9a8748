/-
  lustrumlaw1.TreeTwice, WALKED.
-/
import Derived.Test.YtglkpgcmlbhkpabGreatDoorP28
import Derived.Test.YtglkpgcmlbhkpabGreatDoorP33
import Derived.Test.YtglkpgcmlbhkpabGreatDoorP34
import Derived.Test.YtglkpgcmlbhkpabGreatDoorP45
namespace Go.Proofs.YtglkpgcmlbhkpabGreatDoor
open Go.RowKit
attribute [local go_sem ↓] Go.wp_at_zero Go.wp_at_succ

theorem Fit.mono {N M : Nat} {l : List Ex} (h : Fit N l) (hm : N ≤ M) : Fit M l := by
  induction h with
  | nil => exact .nil
  | cons op n s l es h1 _ _ ih1 ih2 => exact .cons op n s l es (by omega) ih1 ih2
/-- What the calls need of the world. -/
structure Env (pT pB pS : Addr) (ev : Value) (w : World) : Prop where
  hS : w.cell? ⟨0, 0, none⟩ = some (.iface 325 (.pointer (some pS)))
  hT : w.cell? ⟨1, 0, none⟩ = some (.iface 325 (.pointer (some pT)))
  hB : w.cell? ⟨2, 0, none⟩ = some (.iface 325 (.pointer (some pB)))
  hv : w.cell? ⟨11, 0, none⟩ = some ev
  hev : ev = .nilIface ∨ ∃ te pe, ev = .iface te pe
  tab : TabAt w
  hgz : 13 < w.heap.size
theorem Env.below {pT pB pS : Addr} {ev : Value} {w w' : World} (E : Env pT pB pS ev w) (hb : Below w.heap.size w w') : Env pT pB pS ev w' :=
  ⟨cell_keep hb E.hS, cell_keep hb E.hT, cell_keep hb E.hB, cell_keep hb E.hv, E.hev, E.tab.keep (hb.block _ E.hgz), Nat.lt_of_lt_of_le E.hgz hb.size⟩
theorem SameNds.same_call (es es' : List Ex) (hsame : SameNds es es') (w : World) (S S' : Nat → Prop) (o o' : Option Addr) (c c' : Nat) (ys ys' : List Value) (h1 : RowAt w S 5 (.slice o es.length c) es.length ys) (h2 : NdIn w S es ys) (h3 : RowAt w S' 5 (.slice o' es'.length c') es'.length ys') (h4 : NdIn w S' es' ys') :
    (Calls Tryz.prog 14 #[.slice o es.length c, .slice o' es'.length c'] w fun e w' => e = .returned (.bool true) ∧ Below w.heap.size w w') ∧ (Calls Tryz.prog 14 #[.slice o' es'.length c', .slice o es.length c] w fun e w' => e = .returned (.bool true) ∧ Below w.heap.size w w') := by
  have h2' := h2.same hsame
  rw [hsame.1] at h1 ⊢
  exact ⟨sameNodes_any w S S' o o' c c' es' ys ys' h1 h2' h3 h4, sameNodes_any w S' S o' o c' c es' ys' ys h3 h4 h1 h2'⟩
/-- read again, what was written. -/
theorem read_known (t : ByteArray) (w : World) (pT pB pS : Addr) (ev : Value) (E : Env pT pB pS ev w) (ht : t.size ≤ 6000) (l : List Tk) (es : List Ex) (j : Nat) (hl : Lexes t 0 l none) (hP : Parse l (.nodes []) 0 0 (.ok es j)) :
    Calls Tryz.prog 13 #[.string t] w fun e w' => Below w.heap.size w w' ∧ ∃ so sc ys, e = .returned (.tuple #[.slice so es.length sc, .nilIface]) ∧ RowAt w' (From w.heap.size) 5 (.slice so es.length sc) es.length ys ∧ NdIn w' (From w.heap.size) es ys := by
  refine (read_any t w pT pB ev ht E.hT E.hB E.hv E.hev).mono ?_
  rintro e w' ⟨hb, hR⟩
  refine ⟨hb, ?_⟩
  rcases hR with ⟨l', es', j', v, hl', hP', rfl, hN⟩ | ⟨l', j', p, bd, hl', hP', _⟩ | ⟨l', j', p, hl', _⟩
  · obtain ⟨rfl, _⟩ := hl'.one hl
    have he := hP'.one hP
    injection he with he _
    subst he
    obtain ⟨ys, hrow, hin⟩ := hN
    obtain ⟨so, sc, rfl⟩ := hrow.form
    exact ⟨so, sc, ys, rfl, hrow, hin⟩
  · obtain ⟨rfl, _⟩ := hl'.one hl
    exact absurd (hP'.one hP) (by simp)
  · exact absurd (hl'.one hl).2 (by simp)
theorem known_fit {t : ByteArray} (ht : t.size ≤ 6000) {l : List Tk} {es : List Ex} {j : Nat} (hl : Lexes t 0 l none) (hP : Parse l (.nodes []) 0 0 (.ok es j)) : es.length ≤ 1000000 ∧ Fit 1000000 es := by
  obtain ⟨hfit, hlen⟩ := hP.fit
  have hll : l.length ≤ 6001 := hl.len (by omega)
  exact ⟨by omega, hfit.mono (by omega)⟩
set_option maxRecDepth 100000 in
set_option maxHeartbeats 4000000 in
theorem twice_walk (pT pB pS : Addr) (ev : Value) (es : List Ex) (S : Nat → Prop) (o : Option Addr) (c : Nat) (ys : List Value) (s : ByteArray) (w : World) (E : Env pT pB pS ev w) (h1 : RowAt w S 5 (.slice o es.length c) es.length ys) (h2 : NdIn w S es ys) (hlen : es.length ≤ 1256584717458) (hf : FitN es) (hm : s.size ≤ maxLen) :
    Calls Tryz.prog 3 #[.slice o es.length c, .string s] w fun e w' => e = .returned (.bool true) ∧ Below w.heap.size w w' := by
  unfold maxLen at hm
  have HE : Hid (Env pT pB pS ev w) := E
  have H1 : Hid (RowAt w S 5 (.slice o es.length c) es.length ys) := h1
  have H2 : Hid (NdIn w S es ys) := h2
  have HP : Hid (∀ w', Below w.heap.size w w' → Calls Tryz.prog 9 #[] w' fun e w'' => e = .returned (.bool true) ∧ Below w'.heap.size w' w'') := fun w' hb => pass_any w' pT pB ev (E.below hb).hT (E.below hb).hB (E.below hb).hv (E.below hb).hev
  have HW : Hid (∀ w', Below w.heap.size w w' → Calls Tryz.prog 10 #[.slice o es.length c] w' (Numbers w')) := fun w' hb => weight_any w' S o c es ys (h1.keep (Stays.below hb (fun k hk => hk))) (h2.keep (Stays.below hb (fun k hk => hk)))
  have HN : Hid (∀ w', Below w.heap.size w w' → Calls Tryz.prog 12 #[.slice o es.length c] w' fun e w'' => (∃ so sc ys', e = .returned (.slice so es.length sc) ∧ RowAt w'' (fun _ => True) 5 (.slice so es.length sc) es.length ys' ∧ NdIn w'' (fun _ => True) es ys') ∧ Below w'.heap.size w' w'') := fun w' hb => nodesOf_any w' S o c es ys (h1.keep (Stays.below hb (fun k hk => hk))) (h2.keep (Stays.below hb (fun k hk => hk))) hlen hf
  clear E h1 h2 hf hlen
  go_enter Tryz.func3, Tryz.ntmps3
  go_wp2_with fail
  refine (HP.out w (Below.refl _ _)).mono ?_
  rintro e w1 ⟨rfl, hb1⟩
  go_wp2_with fail
  refine (HW.out w1 hb1).mono ?_
  rintro e w2 ⟨⟨kw, rfl⟩, hb2'⟩
  have hb2 := hb1.trans (hb2'.mono hb1.size)
  by_cases hkw : 1500 < kw
  · go_wp2
    go_ret
    exact ⟨rfl, hb2⟩
  · by_cases hs : 2500 < s.size
    · go_wp2
      go_ret
      exact ⟨rfl, hb2⟩
    · have hs' : ¬ ((2500 : Int) < (s.size : Int)) := by omega
      go_wp2_with fail
      refine (HN.out w2 hb2).mono ?_
      rintro e w3 ⟨⟨so, sc, zs, rfl, hr3, hn3⟩, hb3'⟩
      have hb3 := hb2.trans (hb3'.mono hb2.size)
      have E3 := HE.out.below hb3
      have HT3 : Hid (Calls Tryz.prog 11 #[.slice so es.length sc] w3 fun e w' => Below w3.heap.size w3 w' ∧ ((∃ (t : ByteArray) (l : List Tk) (es' : List Ex) (j : Nat), e = .returned (.tuple #[.string t, .nilIface]) ∧ t.size ≤ 6000 ∧ Lexes t 0 l none ∧ Parse l (.nodes []) 0 0 (.ok es' j) ∧ SameNds es es') ∨ e = .returned (.tuple #[.string ⟨#[]⟩, .iface 325 (.pointer (some pS))]))) := wtext_any es (fun _ => True) so sc zs w3 hr3 hn3 pT pB pS ev E3.hS E3.hT E3.hB E3.hv E3.hev E3.tab E3.hgz
      clear hr3 hn3 E3 HP HW HN
      go_wp2_with fail
      refine HT3.out.mono ?_
      rintro e w4 ⟨hb4', ⟨t, lt, es', j, rfl, ht6, hlx, hpr, hsame⟩ | rfl⟩
      · have hb4 := hb3.trans (hb4'.mono hb3.size)
        have HRK : Hid (Calls Tryz.prog 13 #[.string t] w4 fun e w' => Below w4.heap.size w4 w' ∧ ∃ so sc ys, e = .returned (.tuple #[.slice so es'.length sc, .nilIface]) ∧ RowAt w' (From w4.heap.size) 5 (.slice so es'.length sc) es'.length ys ∧ NdIn w' (From w4.heap.size) es' ys) := read_known t w4 pT pB pS ev (HE.out.below hb4) ht6 lt es' j hlx hpr
        have HKK : Hid (SameNds es es' ∧ es'.length ≤ 1000000 ∧ Fit 1000000 es') := ⟨hsame, known_fit ht6 hlx hpr⟩
        clear hsame hlx hpr
        go_wp2_with fail
        refine HRK.out.mono ?_
        rintro e w5 ⟨hb5', so5, sc5, ys5, rfl, hr5, hn5⟩
        have hb5 := hb4.trans (hb5'.mono hb4.size)
        have HBK : Hid (Calls Tryz.prog 15 #[.slice so5 es'.length sc5] w5 fun e w' => (∃ so sc ys', e = .returned (.slice so es'.length sc) ∧ RowAt w' (fun _ => True) 5 (.slice so es'.length sc) es'.length ys' ∧ NdIn w' (fun _ => True) es' ys') ∧ Below w5.heap.size w5 w') := backNodes_any w5 _ so5 sc5 es' ys5 hr5 hn5 HKK.out.2.1 HKK.out.2.2
        clear hr5 hn5
        go_wp2_with fail
        refine HBK.out.mono ?_
        rintro e w6 ⟨⟨qo, qc, us, rfl, hq1, hq2⟩, hb6'⟩
        have hb6 := hb5.trans (hb6'.mono hb5.size)
        have HSK : Hid (Calls Tryz.prog 14 #[.slice qo es'.length qc, .slice o es.length c] w6 fun e w' => e = .returned (.bool true) ∧ Below w6.heap.size w6 w') := (SameNds.same_call es es' HKK.out.1 w6 S _ o qo c qc ys us (H1.out.keep (Stays.below hb6 (fun k hk => hk))) (H2.out.keep (Stays.below hb6 (fun k hk => hk))) hq1 hq2).2
        clear hq1 hq2
        go_wp2_with fail
        refine HSK.out.mono ?_
        rintro e w7 ⟨rfl, hb7'⟩
        have hb7 := hb6.trans (hb7'.mono hb6.size)
        have EZ := HE.out.below hb7
        have HRS : Hid (Calls Tryz.prog 13 #[.string s] w7 fun e w' => Below w7.heap.size w7 w' ∧
              ((∃ (l : List Tk) (es : List Ex) (j : Nat) (v : Value), Lexes s 0 l none ∧ Parse l (.nodes []) 0 0 (.ok es j) ∧ e = .returned (.tuple #[v, .nilIface]) ∧ NodesV w7.heap.size w' es v) ∨ ∃ p, e = .returned (.tuple #[.slice none 0 0, .iface 111 (.pointer (some ⟨p, 0, none⟩))]))) := (read_any s w7 pT pB ev (by omega) EZ.hT EZ.hB EZ.hv EZ.hev).mono (by
                rintro e w' ⟨hb, hR⟩
                refine ⟨hb, ?_⟩
                rcases hR with h | ⟨l, j, p, bd, _, _, _, rfl, _⟩ | ⟨l, j, p, _, rfl, _⟩
                · exact Or.inl h
                · exact Or.inr ⟨p, rfl⟩
                · exact Or.inr ⟨p, rfl⟩)
        clear EZ
        go_wp2_with fail
        refine HRS.out.mono ?_
        rintro e x1 ⟨hx1', ⟨l1, es1, j1, v1, hl1, hp1, rfl, hN1⟩ | ⟨p1, rfl⟩⟩
        · obtain ⟨ys1, hrow1, hin1⟩ := hN1
          obtain ⟨so1, sc1, rfl⟩ := hrow1.form
          have hx1 := hb7.trans (hx1'.mono hb7.size)
          have E1 := HE.out.below hx1
          have hfit1 := known_fit (by omega) hl1 hp1
          have HT1 : Hid (Calls Tryz.prog 11 #[.slice so1 es1.length sc1] x1 fun e w' => Below x1.heap.size x1 w' ∧ ((∃ (t : ByteArray) (l : List Tk) (es' : List Ex) (j : Nat), e = .returned (.tuple #[.string t, .nilIface]) ∧ t.size ≤ 6000 ∧ Lexes t 0 l none ∧ Parse l (.nodes []) 0 0 (.ok es' j) ∧ SameNds es1 es') ∨ e = .returned (.tuple #[.string ⟨#[]⟩, .iface 325 (.pointer (some pS))]))) := wtext_any es1 _ so1 sc1 ys1 x1 hrow1 hin1 pT pB pS ev E1.hS E1.hT E1.hB E1.hv E1.hev E1.tab E1.hgz
          have HX1 : Hid (RowAt x1 (From w7.heap.size) 5 (.slice so1 es1.length sc1) es1.length ys1 ∧ NdIn x1 (From w7.heap.size) es1 ys1 ∧ es1.length ≤ 1000000 ∧ Fit 1000000 es1) := ⟨hrow1, hin1, hfit1⟩
          clear hrow1 hin1 E1 hl1 hp1 hfit1
          go_wp2_with fail
          refine HT1.out.mono ?_
          rintro e x2 ⟨hx2', ⟨t2, l2, es2, j2, rfl, ht2, hl2, hp2, hsm⟩ | rfl⟩
          · have hx2 := hx1.trans (hx2'.mono hx1.size)
            have HR2 : Hid (Calls Tryz.prog 13 #[.string t2] x2 fun e w' => Below x2.heap.size x2 w' ∧ ∃ so sc ys, e = .returned (.tuple #[.slice so es2.length sc, .nilIface]) ∧ RowAt w' (From x2.heap.size) 5 (.slice so es2.length sc) es2.length ys ∧ NdIn w' (From x2.heap.size) es2 ys) := read_known t2 x2 pT pB pS ev (HE.out.below hx2) ht2 l2 es2 j2 hl2 hp2
            have HK : Hid (SameNds es1 es2 ∧ es2.length ≤ 1000000 ∧ Fit 1000000 es2) := ⟨hsm, known_fit ht2 hl2 hp2⟩
            clear hsm hl2 hp2
            go_wp2_with fail
            refine HR2.out.mono ?_
            rintro e x3 ⟨hx3', so2, sc2, ys2, rfl, hrow2, hin2⟩
            have hx3 := hx2.trans (hx3'.mono hx2.size)
            have hx13 : Below x1.heap.size x1 x3 := hx2'.trans (hx3'.mono hx2'.size)
            have HB1 : Hid (Calls Tryz.prog 15 #[.slice so1 es1.length sc1] x3 fun e w' => (∃ so sc ys', e = .returned (.slice so es1.length sc) ∧ RowAt w' (fun _ => True) 5 (.slice so es1.length sc) es1.length ys' ∧ NdIn w' (fun _ => True) es1 ys') ∧ Below x3.heap.size x3 w') := backNodes_any x3 _ so1 sc1 es1 ys1 (HX1.out.1.keep (Stays.below hx13 (fun k hk => hk))) (HX1.out.2.1.keep (Stays.below hx13 (fun k hk => hk))) HX1.out.2.2.1 HX1.out.2.2.2
            have HX3 : Hid (RowAt x3 (From x2.heap.size) 5 (.slice so2 es2.length sc2) es2.length ys2 ∧ NdIn x3 (From x2.heap.size) es2 ys2) := ⟨hrow2, hin2⟩
            clear hrow2 hin2
            go_wp2_with fail
            refine HB1.out.mono ?_
            rintro e x4 ⟨⟨qo1, qc1, us1, rfl, hq1, hq2⟩, hx4'⟩
            have hx4 := hx3.trans (hx4'.mono hx3.size)
            have HB2 : Hid (Calls Tryz.prog 15 #[.slice so2 es2.length sc2] x4 fun e w' => (∃ so sc ys', e = .returned (.slice so es2.length sc) ∧ RowAt w' (fun _ => True) 5 (.slice so es2.length sc) es2.length ys' ∧ NdIn w' (fun _ => True) es2 ys') ∧ Below x4.heap.size x4 w') := backNodes_any x4 _ so2 sc2 es2 ys2 (HX3.out.1.keep (Stays.below hx4' (fun k hk => hk))) (HX3.out.2.keep (Stays.below hx4' (fun k hk => hk))) HK.out.2.1 HK.out.2.2
            have HX4 : Hid (RowAt x4 (fun _ => True) 5 (.slice qo1 es1.length qc1) es1.length us1 ∧ NdIn x4 (fun _ => True) es1 us1) := ⟨hq1, hq2⟩
            clear hq1 hq2
            go_wp2_with fail
            refine HB2.out.mono ?_
            rintro e x5 ⟨⟨qo2, qc2, us2, rfl, hq3, hq4⟩, hx5'⟩
            have hx5 := hx4.trans (hx5'.mono hx4.size)
            have HSN : Hid (Calls Tryz.prog 14 #[.slice qo1 es1.length qc1, .slice qo2 es2.length qc2] x5 fun e w' => e = .returned (.bool true) ∧ Below x5.heap.size x5 w') := (SameNds.same_call es1 es2 HK.out.1 x5 _ _ qo1 qo2 qc1 qc2 us1 us2 (HX4.out.1.keep (Stays.below hx5' (fun k hk => hk))) (HX4.out.2.keep (Stays.below hx5' (fun k hk => hk))) hq3 hq4).1
            clear hq3 hq4
            go_wp2_with fail
            refine HSN.out.mono ?_
            rintro e x6 ⟨rfl, hx6'⟩
            have hx6 := hx5.trans (hx6'.mono hx5.size)
            go_wp2
            go_ret
            exact ⟨rfl, hx6⟩
          · have hx2 := hx1.trans (hx2'.mono hx1.size)
            go_wp2
            go_ret
            exact ⟨rfl, hx2⟩
        · have hx1 := hb7.trans (hx1'.mono hb7.size)
          go_wp2
          go_ret
          exact ⟨rfl, hx1⟩
      · have hb4 := hb3.trans (hb4'.mono hb3.size)
        have EZ := HE.out.below hb4
        have HRS : Hid (Calls Tryz.prog 13 #[.string s] w4 fun e w' => Below w4.heap.size w4 w' ∧
              ((∃ (l : List Tk) (es : List Ex) (j : Nat) (v : Value), Lexes s 0 l none ∧ Parse l (.nodes []) 0 0 (.ok es j) ∧ e = .returned (.tuple #[v, .nilIface]) ∧ NodesV w4.heap.size w' es v) ∨ ∃ p, e = .returned (.tuple #[.slice none 0 0, .iface 111 (.pointer (some ⟨p, 0, none⟩))]))) := (read_any s w4 pT pB ev (by omega) EZ.hT EZ.hB EZ.hv EZ.hev).mono (by
                rintro e w' ⟨hb, hR⟩
                refine ⟨hb, ?_⟩
                rcases hR with h | ⟨l, j, p, bd, _, _, _, rfl, _⟩ | ⟨l, j, p, _, rfl, _⟩
                · exact Or.inl h
                · exact Or.inr ⟨p, rfl⟩
                · exact Or.inr ⟨p, rfl⟩)
        clear EZ
        go_wp2_with fail
        refine HRS.out.mono ?_
        rintro e x1 ⟨hx1', ⟨l1, es1, j1, v1, hl1, hp1, rfl, hN1⟩ | ⟨p1, rfl⟩⟩
        · obtain ⟨ys1, hrow1, hin1⟩ := hN1
          obtain ⟨so1, sc1, rfl⟩ := hrow1.form
          have hx1 := hb4.trans (hx1'.mono hb4.size)
          have E1 := HE.out.below hx1
          have hfit1 := known_fit (by omega) hl1 hp1
          have HT1 : Hid (Calls Tryz.prog 11 #[.slice so1 es1.length sc1] x1 fun e w' => Below x1.heap.size x1 w' ∧ ((∃ (t : ByteArray) (l : List Tk) (es' : List Ex) (j : Nat), e = .returned (.tuple #[.string t, .nilIface]) ∧ t.size ≤ 6000 ∧ Lexes t 0 l none ∧ Parse l (.nodes []) 0 0 (.ok es' j) ∧ SameNds es1 es') ∨ e = .returned (.tuple #[.string ⟨#[]⟩, .iface 325 (.pointer (some pS))]))) := wtext_any es1 _ so1 sc1 ys1 x1 hrow1 hin1 pT pB pS ev E1.hS E1.hT E1.hB E1.hv E1.hev E1.tab E1.hgz
          have HX1 : Hid (RowAt x1 (From w4.heap.size) 5 (.slice so1 es1.length sc1) es1.length ys1 ∧ NdIn x1 (From w4.heap.size) es1 ys1 ∧ es1.length ≤ 1000000 ∧ Fit 1000000 es1) := ⟨hrow1, hin1, hfit1⟩
          clear hrow1 hin1 E1 hl1 hp1 hfit1
          go_wp2_with fail
          refine HT1.out.mono ?_
          rintro e x2 ⟨hx2', ⟨t2, l2, es2, j2, rfl, ht2, hl2, hp2, hsm⟩ | rfl⟩
          · have hx2 := hx1.trans (hx2'.mono hx1.size)
            have HR2 : Hid (Calls Tryz.prog 13 #[.string t2] x2 fun e w' => Below x2.heap.size x2 w' ∧ ∃ so sc ys, e = .returned (.tuple #[.slice so es2.length sc, .nilIface]) ∧ RowAt w' (From x2.heap.size) 5 (.slice so es2.length sc) es2.length ys ∧ NdIn w' (From x2.heap.size) es2 ys) := read_known t2 x2 pT pB pS ev (HE.out.below hx2) ht2 l2 es2 j2 hl2 hp2
            have HK : Hid (SameNds es1 es2 ∧ es2.length ≤ 1000000 ∧ Fit 1000000 es2) := ⟨hsm, known_fit ht2 hl2 hp2⟩
            clear hsm hl2 hp2
            go_wp2_with fail
            refine HR2.out.mono ?_
            rintro e x3 ⟨hx3', so2, sc2, ys2, rfl, hrow2, hin2⟩
            have hx3 := hx2.trans (hx3'.mono hx2.size)
            have hx13 : Below x1.heap.size x1 x3 := hx2'.trans (hx3'.mono hx2'.size)
            have HB1 : Hid (Calls Tryz.prog 15 #[.slice so1 es1.length sc1] x3 fun e w' => (∃ so sc ys', e = .returned (.slice so es1.length sc) ∧ RowAt w' (fun _ => True) 5 (.slice so es1.length sc) es1.length ys' ∧ NdIn w' (fun _ => True) es1 ys') ∧ Below x3.heap.size x3 w') := backNodes_any x3 _ so1 sc1 es1 ys1 (HX1.out.1.keep (Stays.below hx13 (fun k hk => hk))) (HX1.out.2.1.keep (Stays.below hx13 (fun k hk => hk))) HX1.out.2.2.1 HX1.out.2.2.2
            have HX3 : Hid (RowAt x3 (From x2.heap.size) 5 (.slice so2 es2.length sc2) es2.length ys2 ∧ NdIn x3 (From x2.heap.size) es2 ys2) := ⟨hrow2, hin2⟩
            clear hrow2 hin2
            go_wp2_with fail
            refine HB1.out.mono ?_
            rintro e x4 ⟨⟨qo1, qc1, us1, rfl, hq1, hq2⟩, hx4'⟩
            have hx4 := hx3.trans (hx4'.mono hx3.size)
            have HB2 : Hid (Calls Tryz.prog 15 #[.slice so2 es2.length sc2] x4 fun e w' => (∃ so sc ys', e = .returned (.slice so es2.length sc) ∧ RowAt w' (fun _ => True) 5 (.slice so es2.length sc) es2.length ys' ∧ NdIn w' (fun _ => True) es2 ys') ∧ Below x4.heap.size x4 w') := backNodes_any x4 _ so2 sc2 es2 ys2 (HX3.out.1.keep (Stays.below hx4' (fun k hk => hk))) (HX3.out.2.keep (Stays.below hx4' (fun k hk => hk))) HK.out.2.1 HK.out.2.2
            have HX4 : Hid (RowAt x4 (fun _ => True) 5 (.slice qo1 es1.length qc1) es1.length us1 ∧ NdIn x4 (fun _ => True) es1 us1) := ⟨hq1, hq2⟩
            clear hq1 hq2
            go_wp2_with fail
            refine HB2.out.mono ?_
            rintro e x5 ⟨⟨qo2, qc2, us2, rfl, hq3, hq4⟩, hx5'⟩
            have hx5 := hx4.trans (hx5'.mono hx4.size)
            have HSN : Hid (Calls Tryz.prog 14 #[.slice qo1 es1.length qc1, .slice qo2 es2.length qc2] x5 fun e w' => e = .returned (.bool true) ∧ Below x5.heap.size x5 w') := (SameNds.same_call es1 es2 HK.out.1 x5 _ _ qo1 qo2 qc1 qc2 us1 us2 (HX4.out.1.keep (Stays.below hx5' (fun k hk => hk))) (HX4.out.2.keep (Stays.below hx5' (fun k hk => hk))) hq3 hq4).1
            clear hq3 hq4
            go_wp2_with fail
            refine HSN.out.mono ?_
            rintro e x6 ⟨rfl, hx6'⟩
            have hx6 := hx5.trans (hx6'.mono hx5.size)
            go_wp2
            go_ret
            exact ⟨rfl, hx6⟩
          · have hx2 := hx1.trans (hx2'.mono hx1.size)
            go_wp2
            go_ret
            exact ⟨rfl, hx2⟩
        · have hx1 := hb4.trans (hx1'.mono hb4.size)
          go_wp2
          go_ret
          exact ⟨rfl, hx1⟩
end Go.Proofs.YtglkpgcmlbhkpabGreatDoor
