/-
  package tree's READER OF NODES: equation BY ITS CONTRACT.
-/
import Derived.Test.YtglkpgcmlbhkpabGreatDoorP18
namespace Go.Proofs.YtglkpgcmlbhkpabGreatDoor
open Go.RowKit
attribute [local go_sem ↓] Go.wp_at_zero Go.wp_at_succ

abbrev zEq : Obj := .cells #[.string ⟨#[]⟩, .slice none 0 0, .string ⟨#[]⟩, .int .i64 0, .string ⟨#[]⟩, .slice none 0 0] 98
theorem blk6 {w : World} {b : Nat} {x0 x1 x2 x3 x4 x5 : Value} {t : TypeId} (h : w.heap[b]? = some (.cells #[x0, x1, x2, x3, x4, x5] t (0, 0))) : w.cell? ⟨b, 0, none⟩ = some x0 ∧ w.cell? ⟨b, 1, none⟩ = some x1 ∧ w.cell? ⟨b, 2, none⟩ = some x2 ∧ w.cell? ⟨b, 3, none⟩ = some x3 ∧ w.cell? ⟨b, 4, none⟩ = some x4 ∧ w.cell? ⟨b, 5, none⟩ = some x5 ∧ ∀ k, w.frozen? ⟨b, k, none⟩ = false :=
  ⟨by simp [World.cell?, h], by simp [World.cell?, h], by simp [World.cell?, h], by simp [World.cell?, h], by simp [World.cell?, h], by simp [World.cell?, h], fun k => by simp [World.frozen?, h]⟩
/-- An equation in memory by its value. -/
def EqV (base : Nat) (w' : World) (es : List Ex) (v : Value) : Prop := ∃ xs, v = .agg xs ∧ es.length = 1 ∧ EqIn w' (From base) es xs.toList
theorem RowAt.none {w : World} {S : Nat → Prop} {size : Nat} : RowAt w S size (.slice .none 0 0) 0 [] := ⟨by simp, by simp [maxLen], .none, 0, rfl, fun k x hx => by simp at hx⟩

set_option maxRecDepth 100000 in
set_option maxHeartbeats 1000000 in
theorem equation_any (C : Rc) (i d : Nat) (w : World) (T : Tkl C.l) (R : Rd C i d w) :
    Calls Tryz.prog 155 #[.pointer (some ⟨C.b, 0, none⟩)] w (Ret C .eq i d w (EqV w.heap.size)) := by
  have hlt := R.lt
  have hbl := R.blt
  have hbA : Below w.heap.size w ((w.alloc zEq).alloc zEq) := ((Below.refl _ _).alloc (Nat.le_refl _) _).alloc (by simp) _
  have HZ : Hid _ := alloc_row zEq (heap_alloc_new w zEq)
  have HQ : Hid _ := two_new w zEq zEq
  have RA := R.below hbA
  by_cases h : txs C.l i [tAssert, tCheck] = true
  · have hi : i + 1 < C.l.length := T.next_txs R.lt (by decide) h
    go_enter Tryz.func155, Tryz.ntmps155
    go_wp2_with fail
    refine (is_new C i d _ RA [tAssert, tCheck] _ 2 (by simp) rfl (by decide)).mono ?_
    rintro e w1 ⟨rfl, hb1⟩
    have hs1 := hb1.size
    simp only [World.size_alloc] at hs1
    go_wp2_with fail
    refine (take_any C i d _ (RA.below hb1) hi).mono ?_
    rintro e w2 ⟨rfl, R2, hm2⟩
    have hs2 := hm2.size
    have hM2 : Mv C.b w w2 := ((Mv.of_below hbA).trans (Mv.of_below hb1)).trans hm2
    have hq2 := hm2.row (k := w.heap.size + 1) (by omega) (row_keep hb1 HQ.out)
    have hz2 := hm2.row (k := w.heap.size) (by omega) (row_keep hb1 HZ.out)
    obtain ⟨y0, y1, y2, y3, y4, y5, yf⟩ := blk6 hq2
    have HQ2 : Hid _ := set_row (k := 0) (v := .string (tkx C.l i)) hq2
    have HZ2 : Hid _ := (Below.heap_setCell w2 ⟨w.heap.size + 1, 0, none⟩ (.string (tkx C.l i)) w.heap.size (by simp)).trans hz2
    have hB2 : Below w.heap.size w2 (w2.setCell ⟨w.heap.size + 1, 0, none⟩ (.string (tkx C.l i))) := (Below.refl _ _).setCell (by simp) _
    clear hq2 hz2
    have R3 := R.upon R2 hB2
    have hM3 := hM2.upon hB2
    go_wp2_with fail
    refine (term_any _ C (i + 1) d _ T R3 (Nat.le_refl _)).mono ?_
    rintro e w4 ⟨hm4, h4⟩
    have hs4 := hm4.size
    simp only [World.size_setCell] at hs4
    clear y0 y1 y2 y3 y4 y5 yf
    rcases h4 with ⟨es, j, v, hp, rfl, ⟨ex, rfl, hv⟩, R4, hij⟩ | ⟨j, bd, hp, hj, p, rfl, q0, q1⟩
    · obtain ⟨op, x, s, l, so, sc, ys, rfl, rfl, hrow, hin⟩ := hv.one
      have hq4 := hm4.row (k := w.heap.size + 1) (by omega) HQ2.out
      have hz4 := hm4.row (k := w.heap.size) (by omega) HZ2.out
      obtain ⟨y0, y1, y2, y3, y4, y5, yf⟩ := blk6 hq4
      have HQ4 : Hid _ := hq4
      have HZ4 : Hid _ := hz4
      clear hq4 hz4
      go_wp2_with fail
      have hBq : Below w.heap.size w4 (setL w4 (w.heap.size + 1) 2 [.string op, .int .i64 x, .string s, .slice so l.length sc]) := setL_below (by omega) _ _ _
      have HQ5 : Hid ((setL w4 (w.heap.size + 1) 2 [.string op, .int .i64 x, .string s, .slice so l.length sc]).heap[w.heap.size + 1]? = some (.cells #[.string (tkx C.l i), .slice none 0 0, .string op, .int .i64 x, .string s, .slice so l.length sc] 98 (0, 0))) := set_row (set_row (set_row (set_row HQ4.out)))
      have HZ5 : Hid _ := (setL_block (N := w.heap.size + 1) (k := w.heap.size) (by omega) [.string op, .int .i64 x, .string s, .slice so l.length sc] 2 w4).trans HZ4.out
      have R5 := R.upon R4 hBq
      refine (expect_any C j d _ R5 T tSemi (by decide)).mono ?_
      rintro e w5 ⟨hm5, h5⟩
      have hs5 := hm5.size
      rw [setL_size] at hs5
      have hM5 : Mv C.b w w5 := ((hM3.trans hm4).upon hBq).trans hm5
      clear y0 y1 y2 y3 y4 y5 yf
      rcases h5 with ⟨hx, rfl, R6⟩ | ⟨hx, hj, p, rfl, q0, q1⟩
      · obtain ⟨y0, y1, y2, y3, y4, y5, yf⟩ := blk6 (hm5.row (by omega) HQ5.out)
        obtain ⟨z0, z1, z2, z3, z4, z5, zf⟩ := blk6 (hm5.row (by omega) HZ5.out)
        have hBz : Below w.heap.size w5 (setL w5 w.heap.size 0 [.string (tkx C.l i), .slice none 0 0, .string op, .int .i64 x, .string s, .slice so l.length sc]) := setL_below (Nat.le_refl _) _ _ _
        have St : Stays (From (w2.setCell ⟨w.heap.size + 1, 0, none⟩ (.string (tkx C.l i))).heap.size) (From w.heap.size) w4 (setL w5 w.heap.size 0 [.string (tkx C.l i), .slice none 0 0, .string op, .int .i64 x, .string s, .slice so l.length sc]) := ((setL_stays (S' := fun k => w.heap.size + 1 < k) (fun k hk => by unfold From at hk; simp only [World.size_setCell] at hk; omega) _ _ _).trans (Stays.mv hm5 (fun k hk => ⟨by omega, hk⟩)) (by rw [setL_size]; exact Nat.le_refl _)).trans (setL_stays (fun k hk => by unfold From; omega) _ _ _) (by omega)
        go_wp2
        exact bodyPost_ret (v := .agg #[.string (tkx C.l i), .slice none 0 0, .string op, .int .i64 x, .string s, .slice so l.length sc]) (by simp [results, Tryz.results155, go_sem, z0, z1, z2, z3, z4, z5]) rfl ⟨hM5.upon hBz, Or.inl ⟨_, j + 1, _, Run.ifT h (Run.then hp (Run.exp hx Run.done)), rfl, ⟨_, rfl, rfl, .cons (tkx C.l i) [] (.mk op x s l) [] (.slice none 0 0) [.string op, .int .i64 x, .string s, .slice so l.length sc] [] RowAt.none (.cons op x s l [] _ ys [] (hrow.keep St) (hin.keep St) .nil) .nil⟩, R.upon R6 hBz, by omega⟩⟩
      · go_wp2
        exact ⟨rfl, hM5, Or.inr ⟨j, false, Run.ifT h (Run.then hp (Run.unexp hx)), hj, p, rfl, q0, q1⟩⟩
    · go_wp2
      exact ⟨rfl, hM3.trans hm4, Or.inr ⟨j, bd, Run.ifT h (Run.stop hp), hj, p, rfl, q0, q1⟩⟩
  · have h' : txs C.l i [tAssert, tCheck] = false := by simpa using h
    clear h
    go_enter Tryz.func155, Tryz.ntmps155
    go_wp2_with fail
    refine (is_new C i d _ RA [tAssert, tCheck] _ 2 (by simp) rfl (by decide)).mono ?_
    rintro e w1 ⟨rfl, hb1⟩
    have hs1 := hb1.size
    simp only [World.size_alloc] at hs1
    have hM1 : Mv C.b w w1 := (Mv.of_below hbA).trans (Mv.of_below hb1)
    have hq1 := row_keep hb1 HQ.out
    have hz1 := row_keep hb1 HZ.out
    obtain ⟨y0, y1, y2, y3, y4, y5, yf⟩ := blk6 hq1
    have HQ1 : Hid _ := set_row (k := 0) (v := .string ⟨#[115, 101, 116]⟩) hq1
    have HZ1 : Hid _ := (Below.heap_setCell w1 ⟨w.heap.size + 1, 0, none⟩ (.string ⟨#[115, 101, 116]⟩) w.heap.size (by simp)).trans hz1
    have hB1 : Below w.heap.size w1 (w1.setCell ⟨w.heap.size + 1, 0, none⟩ (.string ⟨#[115, 101, 116]⟩)) := (Below.refl _ _).setCell (by simp) _
    clear hq1 hz1
    have R1 := R.upon (RA.below hb1) hB1
    have hM1' := hM1.upon hB1
    go_wp2_with fail
    refine (names_any C i d _ T R1).mono ?_
    rintro e w2 ⟨hm2, h2⟩
    have hs2 := hm2.size
    simp only [World.size_setCell] at hs2
    clear y0 y1 y2 y3 y4 y5 yf
    rcases h2 with ⟨ns, k, nv, hN, rfl, hrowN, R2, hik⟩ | ⟨j, bd, hN, hj, p, rfl, q0, q1⟩
    · obtain ⟨a1, a2, no, nc, rfl, a3⟩ := hrowN
      have HRN : Hid (RowAt w2 (From (w1.setCell ⟨w.heap.size + 1, 0, none⟩ (.string ⟨#[115, 101, 116]⟩)).heap.size) 1 (.slice no ns.length nc) ns.length (nameCells ns)) := ⟨a1, a2, no, nc, rfl, a3⟩
      clear a1 a3
      have hq2 := hm2.row (k := w.heap.size + 1) (by omega) HQ1.out
      have hz2 := hm2.row (k := w.heap.size) (by omega) HZ1.out
      obtain ⟨y0, y1, y2, y3, y4, y5, yf⟩ := blk6 hq2
      have HQ2 : Hid _ := set_row (k := 1) (v := .slice no ns.length nc) hq2
      have HZ2 : Hid _ := (Below.heap_setCell w2 ⟨w.heap.size + 1, 1, none⟩ (.slice no ns.length nc) w.heap.size (by simp)).trans hz2
      have hB2 : Below w.heap.size w2 (w2.setCell ⟨w.heap.size + 1, 1, none⟩ (.slice no ns.length nc)) := (Below.refl _ _).setCell (by simp) _
      clear hq2 hz2
      have R2' := R.upon R2 hB2
      have hM2' := (hM1'.trans hm2).upon hB2
      go_wp2_with fail
      refine (expect_any C k d _ R2' T tEq (by decide)).mono ?_
      rintro e w3 ⟨hm3, h3⟩
      have hs3 := hm3.size
      simp only [World.size_setCell] at hs3
      have hM3 := hM2'.trans hm3
      clear y0 y1 y2 y3 y4 y5 yf
      rcases h3 with ⟨hx3, rfl, R3⟩ | ⟨hx3, hj, p, rfl, q0, q1⟩
      · go_wp2_with fail
        refine (term_any _ C (k + 1) d _ T R3 (Nat.le_refl _)).mono ?_
        rintro e w4 ⟨hm4, h4⟩
        have hs4 := hm4.size
        rcases h4 with ⟨es, j, v, hp, rfl, ⟨ex, rfl, hv⟩, R4, hij⟩ | ⟨j, bd, hp, hj, p, rfl, q0, q1⟩
        · obtain ⟨op, x, s, l, so, sc, ys, rfl, rfl, hrow, hin⟩ := hv.one
          have hq4 := hm4.row (k := w.heap.size + 1) (by omega) (hm3.row (by omega) HQ2.out)
          have hz4 := hm4.row (k := w.heap.size) (by omega) (hm3.row (by omega) HZ2.out)
          obtain ⟨y0, y1, y2, y3, y4, y5, yf⟩ := blk6 hq4
          have HQ4 : Hid _ := hq4
          have HZ4 : Hid _ := hz4
          clear hq4 hz4
          have StN : Stays (From (w1.setCell ⟨w.heap.size + 1, 0, none⟩ (.string ⟨#[115, 101, 116]⟩)).heap.size) (fun k => w.heap.size + 1 < k) w2 w4 := (Stays.set (S' := fun k => w.heap.size + 1 < k) (p := ⟨w.heap.size + 1, 1, none⟩) (.slice no ns.length nc) (fun k hk => by unfold From at hk; simp only [World.size_setCell] at hk; exact ⟨by show k ≠ w.heap.size + 1; omega, by omega⟩)).trans (Stays.mv (hm3.trans hm4) (fun k hk => ⟨by omega, hk⟩)) (by simp)
          have HRN4 : Hid (RowAt w4 (fun k => w.heap.size + 1 < k) 1 (.slice no ns.length nc) ns.length (nameCells ns)) := HRN.out.keep StN
          have hEq : ∀ (r : Res), Run C.l (expA C.l k tEq fun j => endA C.l sSet ns j d) r → Parse C.l .eq i d r := fun r hr => Run.ifF h' (hN (fun ns j => expA C.l j tEq fun j => endA C.l sSet ns j d) r hr)
          go_wp2_with fail
          have hBq : Below w.heap.size w4 (setL w4 (w.heap.size + 1) 2 [.string op, .int .i64 x, .string s, .slice so l.length sc]) := setL_below (by omega) _ _ _
          have HQ5 : Hid ((setL w4 (w.heap.size + 1) 2 [.string op, .int .i64 x, .string s, .slice so l.length sc]).heap[w.heap.size + 1]? = some (.cells #[.string ⟨#[115, 101, 116]⟩, .slice no ns.length nc, .string op, .int .i64 x, .string s, .slice so l.length sc] 98 (0, 0))) := set_row (set_row (set_row (set_row HQ4.out)))
          have HZ5 : Hid _ := (setL_block (N := w.heap.size + 1) (k := w.heap.size) (by omega) [.string op, .int .i64 x, .string s, .slice so l.length sc] 2 w4).trans HZ4.out
          have R5 := R.upon R4 hBq
          refine (expect_any C j d _ R5 T tSemi (by decide)).mono ?_
          rintro e w5 ⟨hm5, h5⟩
          have hs5 := hm5.size
          rw [setL_size] at hs5
          have hM5 : Mv C.b w w5 := ((hM3.trans hm4).upon hBq).trans hm5
          clear y0 y1 y2 y3 y4 y5 yf
          rcases h5 with ⟨hx, rfl, R6⟩ | ⟨hx, hj, p, rfl, q0, q1⟩
          · obtain ⟨y0, y1, y2, y3, y4, y5, yf⟩ := blk6 (hm5.row (by omega) HQ5.out)
            obtain ⟨z0, z1, z2, z3, z4, z5, zf⟩ := blk6 (hm5.row (by omega) HZ5.out)
            have hBz : Below w.heap.size w5 (setL w5 w.heap.size 0 [.string ⟨#[115, 101, 116]⟩, .slice no ns.length nc, .string op, .int .i64 x, .string s, .slice so l.length sc]) := setL_below (Nat.le_refl _) _ _ _
            have St : Stays (From w3.heap.size) (From w.heap.size) w4 (setL w5 w.heap.size 0 [.string ⟨#[115, 101, 116]⟩, .slice no ns.length nc, .string op, .int .i64 x, .string s, .slice so l.length sc]) := ((setL_stays (S' := fun k => w.heap.size + 1 < k) (fun k hk => by unfold From at hk; omega) _ _ _).trans (Stays.mv hm5 (fun k hk => ⟨by omega, hk⟩)) (by rw [setL_size]; exact Nat.le_refl _)).trans (setL_stays (fun k hk => by unfold From; omega) _ _ _) (by omega)
            have StM : Stays (fun k => w.heap.size + 1 < k) (From w.heap.size) w4 (setL w5 w.heap.size 0 [.string ⟨#[115, 101, 116]⟩, .slice no ns.length nc, .string op, .int .i64 x, .string s, .slice so l.length sc]) := ((setL_stays (S' := fun k => w.heap.size + 1 < k) (fun k hk => ⟨by omega, hk⟩) _ _ _).trans (Stays.mv hm5 (fun k hk => ⟨by omega, hk⟩)) (by rw [setL_size]; exact Nat.le_refl _)).trans (setL_stays (fun k hk => by unfold From; omega) _ _ _) (by omega)
            go_wp2
            exact bodyPost_ret (v := .agg #[.string ⟨#[115, 101, 116]⟩, .slice no ns.length nc, .string op, .int .i64 x, .string s, .slice so l.length sc]) (by simp [results, Tryz.results155, go_sem, z0, z1, z2, z3, z4, z5]) rfl ⟨hM5.upon hBz, Or.inl ⟨_, j + 1, _, hEq _ (Run.exp hx3 (Run.then hp (Run.exp hx Run.done))), rfl, ⟨_, rfl, rfl, .cons ⟨#[115, 101, 116]⟩ ns (.mk op x s l) [] (.slice no ns.length nc) [.string op, .int .i64 x, .string s, .slice so l.length sc] [] (HRN4.out.keep StM) (.cons op x s l [] _ ys [] (hrow.keep St) (hin.keep St) .nil) .nil⟩, R.upon R6 hBz, by omega⟩⟩
          · go_wp2
            exact ⟨rfl, hM5, Or.inr ⟨j, false, hEq _ (Run.exp hx3 (Run.then hp (Run.unexp hx))), hj, p, rfl, q0, q1⟩⟩
        · go_wp2
          exact ⟨rfl, hM3.trans hm4, Or.inr ⟨j, bd, Run.ifF h' (hN (fun ns j => expA C.l j tEq fun j => endA C.l sSet ns j d) _ (Run.exp hx3 (Run.stop hp))), hj, p, rfl, q0, q1⟩⟩
      · go_wp2
        exact ⟨rfl, hM3, Or.inr ⟨k, false, Run.ifF h' (hN (fun ns j => expA C.l j tEq fun j => endA C.l sSet ns j d) _ (Run.unexp hx3)), hj, p, rfl, q0, q1⟩⟩
    · go_wp2
      exact ⟨rfl, hM1'.trans hm2, Or.inr ⟨j, bd, Run.ifF h' (hN (fun ns j => expA C.l j tEq fun j => endA C.l sSet ns j d)), hj, p, rfl, q0, q1⟩⟩
end Go.Proofs.YtglkpgcmlbhkpabGreatDoor
