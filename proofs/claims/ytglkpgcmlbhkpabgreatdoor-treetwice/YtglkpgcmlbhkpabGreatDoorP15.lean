/-
  package tree's READER OF TERMS: unary, bracketed, arguments, nameOrCall, atom BY THEIR CONTRACTS.
-/
import Derived.Test.YtglkpgcmlbhkpabGreatDoorP14
import Derived.Test.YtglkpgcmlbhkpabGreatDoorP03
namespace Go.Proofs.YtglkpgcmlbhkpabGreatDoor
open Go.RowKit
attribute [local go_sem ↓] Go.wp_at_zero Go.wp_at_succ

set_option maxRecDepth 100000 in
set_option maxHeartbeats 1000000 in
theorem unary_fits (n : Nat) (hU : ∀ m, m < n → Fits 261 .un m) (hA : Fits 262 .atom n) : Fits 261 .un n := by
  intro C i d w T R hn
  have HU : Hid (∀ m, m < n → Fits 261 .un m) := hU
  have HA : Hid (Fits 262 .atom n) := hA
  clear hU hA
  have hlt := R.lt
  have hbl := R.blt
  have hbA : Below w.heap.size w (w.alloc zTerm) := (Below.refl _ _).alloc (Nat.le_refl _) _
  have HZ : Hid _ := heap_alloc_new w zTerm
  have RA := R.below hbA
  by_cases h : txs C.l i [tMinus] = true
  · have hi : i + 1 < C.l.length := T.next_txs R.lt (by decide) h
    have ht : tx C.l i tMinus = true := by rw [← txs_one]; exact h
    go_enter Tryz.func261, Tryz.ntmps261
    go_wp2_with fail
    refine (is_new C i d _ RA [tMinus] _ 1 (by simp) rfl (by decide)).mono ?_
    rintro e w1 ⟨rfl, hb1⟩
    have hs1 := hb1.size
    simp only [World.size_alloc] at hs1
    go_wp2_with fail
    refine (prefix_un (n - 1) (HU.out (n - 1) (by omega)) C i d _ T (RA.below hb1) hi (by omega) _).mono ?_
    rintro e w2 ⟨hm2, h2⟩
    rcases h2 with ⟨hd, hj, p, rfl, q0, q1⟩ | ⟨hd, ex, j, v, hp, rfl, hv, R2, hij⟩ | ⟨hd, j, bd, hp, hj, p, rfl, q0, q1⟩
    · subst hd
      go_wp2
      exact ⟨rfl, ((Mv.of_below hbA).trans (Mv.of_below hb1)).trans hm2, Or.inr ⟨i, true, Run.ifT ht (Run.deep rfl), hj, p, rfl, q0, q1⟩⟩
    · obtain ⟨op, x, s, l, so, sc, ys, he, rfl, hrow, hin⟩ := hv.one
      injection he with e1 e2 e3 e4
      subst e1 e2 e3 e4
      obtain ⟨z0, z1, z2, z3, zf⟩ := blk4 (hm2.row (by omega) (row_keep hb1 HZ.out))
      go_wp2
      have hE := ret4 (op := ⟨#[110, 101, 103]⟩) (x := 0) (s := b0) R R2 (((Mv.of_below hbA).trans (Mv.of_below hb1)).trans hm2) hrow hin (fun k hk => by unfold From at hk; omega)
      exact bodyPost_ret (v := .agg #[.string ⟨#[110, 101, 103]⟩, .int .i64 0, .string b0, .slice so 1 sc]) (by simp [results, Tryz.results261, go_sem, z0, z1, z2, z3]) rfl ⟨hE.1, Or.inl ⟨_, j, _, Run.ifT ht (Run.down hd (Run.then hp Run.done)), rfl, ⟨_, rfl, hE.2.1⟩, hE.2.2, by omega⟩⟩
    · go_wp2
      exact ⟨rfl, ((Mv.of_below hbA).trans (Mv.of_below hb1)).trans hm2, Or.inr ⟨j, bd, Run.ifT ht (Run.down hd (Run.stop hp)), hj, p, rfl, q0, q1⟩⟩
  · have h' : txs C.l i [tMinus] = false := by simpa using h
    clear h
    have ht : tx C.l i tMinus = false := by rw [← txs_one]; exact h'
    by_cases g : txs C.l i [tPre] = true
    · have hi : i + 1 < C.l.length := T.next_txs R.lt (by decide) g
      have gt : tx C.l i tPre = true := by rw [← txs_one]; exact g
      go_enter Tryz.func261, Tryz.ntmps261
      go_wp2_with fail
      refine (is_new C i d _ RA [tMinus] _ 1 (by simp) rfl (by decide)).mono ?_
      rintro e w0 ⟨rfl, hb0⟩
      have hs0 := hb0.size
      simp only [World.size_alloc] at hs0
      have R0 := RA.below hb0
      go_wp2_with fail
      refine (is_new C i d _ R0 [tPre] _ 1 (by simp) rfl (by decide)).mono ?_
      rintro e w1 ⟨rfl, hb1⟩
      have hs1 := hb1.size
      have hM1 : Mv C.b w w1 := ((Mv.of_below hbA).trans (Mv.of_below hb0)).trans (Mv.of_below hb1)
      go_wp2_with fail
      refine (prefix_un (n - 1) (HU.out (n - 1) (by omega)) C i d _ T (R0.below hb1) hi (by omega) _).mono ?_
      rintro e w2 ⟨hm2, h2⟩
      rcases h2 with ⟨hd, hj, p, rfl, q0, q1⟩ | ⟨hd, ex, j, v, hp, rfl, hv, R2, hij⟩ | ⟨hd, j, bd, hp, hj, p, rfl, q0, q1⟩
      · subst hd
        go_wp2
        exact ⟨rfl, hM1.trans hm2, Or.inr ⟨i, true, Run.ifF ht (Run.ifT gt (Run.deep rfl)), hj, p, rfl, q0, q1⟩⟩
      · obtain ⟨op, x, s, l, so, sc, ys, he, rfl, hrow, hin⟩ := hv.one
        injection he with e1 e2 e3 e4
        subst e1 e2 e3 e4
        obtain ⟨z0, z1, z2, z3, zf⟩ := blk4 (hm2.row (by omega) (row_keep hb1 (row_keep hb0 HZ.out)))
        go_wp2
        have hE := ret4 (op := ⟨#[112, 114, 101]⟩) (x := 0) (s := b0) R R2 (hM1.trans hm2) hrow hin (fun k hk => by unfold From at hk; omega)
        exact bodyPost_ret (v := .agg #[.string ⟨#[112, 114, 101]⟩, .int .i64 0, .string b0, .slice so 1 sc]) (by simp [results, Tryz.results261, go_sem, z0, z1, z2, z3]) rfl ⟨hE.1, Or.inl ⟨_, j, _, Run.ifF ht (Run.ifT gt (Run.down hd (Run.then hp Run.done))), rfl, ⟨_, rfl, hE.2.1⟩, hE.2.2, by omega⟩⟩
      · go_wp2
        exact ⟨rfl, hM1.trans hm2, Or.inr ⟨j, bd, Run.ifF ht (Run.ifT gt (Run.down hd (Run.stop hp))), hj, p, rfl, q0, q1⟩⟩
    · have g' : txs C.l i [tPre] = false := by simpa using g
      clear g
      have gt : tx C.l i tPre = false := by rw [← txs_one]; exact g'
      go_enter Tryz.func261, Tryz.ntmps261
      go_wp2_with fail
      refine (is_new C i d _ RA [tMinus] _ 1 (by simp) rfl (by decide)).mono ?_
      rintro e w0 ⟨rfl, hb0⟩
      have hs0 := hb0.size
      simp only [World.size_alloc] at hs0
      have R0 := RA.below hb0
      go_wp2_with fail
      refine (is_new C i d _ R0 [tPre] _ 1 (by simp) rfl (by decide)).mono ?_
      rintro e w1 ⟨rfl, hb1⟩
      have hs1 := hb1.size
      have hM1 : Mv C.b w w1 := ((Mv.of_below hbA).trans (Mv.of_below hb0)).trans (Mv.of_below hb1)
      go_wp2_with fail
      refine (HA.out C i d _ T (R0.below hb1) hn).mono ?_
      rintro e w2 ⟨hm2, h2⟩
      rcases h2 with ⟨es, j, v, hp, rfl, ⟨ex, rfl, hv⟩, R2, hij⟩ | ⟨j, bd, hp, hj, p, rfl, q0, q1⟩
      · obtain ⟨op, x, s, l, so, sc, ys, rfl, rfl, hrow, hin⟩ := hv.one
        obtain ⟨z0, z1, z2, z3, zf⟩ := blk4 (hm2.row (by omega) (row_keep hb1 (row_keep hb0 HZ.out)))
        go_wp2
        have hE := ret4 (op := op) (x := x) (s := s) R R2 (hM1.trans hm2) hrow hin (fun k hk => by unfold From at hk; omega)
        exact bodyPost_ret (v := .agg #[.string op, .int .i64 x, .string s, .slice so l.length sc]) (by simp [results, Tryz.results261, go_sem, z0, z1, z2, z3]) rfl ⟨hE.1, Or.inl ⟨_, j, _, Run.ifF ht (Run.ifF gt (Run.tail hp)), rfl, ⟨_, rfl, hE.2.1⟩, hE.2.2, hij⟩⟩
      · go_wp2
        exact ⟨rfl, hM1.trans hm2, Or.inr ⟨j, bd, Run.ifF ht (Run.ifF gt (Run.tail hp)), hj, p, rfl, q0, q1⟩⟩

set_option maxRecDepth 100000 in
set_option maxHeartbeats 1000000 in
theorem bracketed_any (n : Nat) (hT : ∀ m, m < n → Fits 198 .term m) (C : Rc) (i d : Nat) (w : World) (T : Tkl C.l) (R : Rd C i d w) (hn : C.l.length - i ≤ n) (g1 : isInt C.l i = false) (g2 : txs C.l i [tTrue, tFalse] = false) (g3 : isName C.l i = false) :
    Calls Tryz.prog 264 #[.pointer (some ⟨C.b, 0, none⟩)] w (Ret C .atom i d w (TermV w.heap.size)) := by
  have HT : Hid (∀ m, m < n → Fits 198 .term m) := hT
  clear hT
  have hlt := R.lt
  have hbl := R.blt
  have hbA : Below w.heap.size w (w.alloc zTerm) := (Below.refl _ _).alloc (Nat.le_refl _) _
  have HZ : Hid _ := heap_alloc_new w zTerm
  have RA := R.below hbA
  by_cases h : txs C.l i [tOpen] = true
  · have hi : i + 1 < C.l.length := T.next_txs R.lt (by decide) h
    have ht : tx C.l i tOpen = true := by rw [← txs_one]; exact h
    go_enter Tryz.func264, Tryz.ntmps264
    go_wp2_with fail
    refine (is_new C i d _ RA [tOpen] _ 1 (by simp) rfl (by decide)).mono ?_
    rintro e w1 ⟨rfl, hb1⟩
    have hs1 := hb1.size
    simp only [World.size_alloc] at hs1
    have hM1 : Mv C.b w w1 := (Mv.of_below hbA).trans (Mv.of_below hb1)
    go_wp2_with fail
    refine (enter_any C i d _ (RA.below hb1) hi).mono ?_
    rintro e w2 ⟨hm2, h2⟩
    have hs2 := hm2.size
    rcases h2 with ⟨hd, rfl, R2⟩ | ⟨hd, hj, p, rfl, q0, q1⟩
    · go_wp2_with fail
      refine (HT.out (n - 1) (by omega) C (i + 1) (d + 1) _ T R2 (by omega)).mono ?_
      rintro e w3 ⟨hm3, h3⟩
      have hs3 := hm3.size
      rcases h3 with ⟨es, j, v, hp, rfl, ⟨ex, rfl, hv⟩, R3, hij⟩ | ⟨j, bd, hp, hj, p, rfl, q0, q1⟩
      · obtain ⟨op, x, s, l, so, sc, ys, rfl, rfl, hrow, hin⟩ := hv.one
        have hbB : Below w3.heap.size w3 (w3.alloc (.cells #[.string op, .int .i64 x, .string s, .slice so l.length sc] 62)) := (Below.refl _ _).alloc (Nat.le_refl _) _
        have HN3 : Hid _ := heap_alloc_new w3 (.cells #[.string op, .int .i64 x, .string s, .slice so l.length sc] 62)
        have HZ3 : Hid _ := row_keep hbB (hm3.row (by omega) (hm2.row (by omega) (row_keep hb1 HZ.out)))
        go_wp2_with fail
        refine (leave_any C j d _ (R3.below hbB)).mono ?_
        rintro e w4 ⟨rfl, R4, hm4⟩
        have hs4 := hm4.size
        simp only [World.size_alloc] at hs4
        go_wp2_with fail
        refine (expect_any C j d _ R4 T tShut (by decide)).mono ?_
        rintro e w5 ⟨hm5, h5⟩
        have hs5 := hm5.size
        have hM5 : Mv C.b w w5 := (((hM1.trans hm2).trans (hm3.trans (Mv.of_below hbB))).trans hm4).trans hm5
        rcases h5 with ⟨hx, rfl, R5⟩ | ⟨hx, hj, p, rfl, q0, q1⟩
        · obtain ⟨z0, z1, z2, z3, zf⟩ := blk4 (hm5.row (by omega) (hm4.row (by omega) HZ3.out))
          obtain ⟨c0, c1, c2, c3, _⟩ := blk4 (hm5.row (by omega) (hm4.row (by omega) HN3.out))
          have St : Stays (From w2.heap.size) (fun k => w.heap.size < k) w3 w5 := (Stays.below (S' := fun k => w.heap.size < k) hbB (fun k hk => by unfold From at hk; omega)).trans (Stays.mv (hm4.trans hm5) (fun k hk => ⟨by omega, hk⟩)) (by simp)
          go_wp2
          have hE := ret4 (op := op) (x := x) (s := s) R R5 hM5 (hrow.keep St) (hin.keep St) (fun k hk => hk)
          exact bodyPost_ret (v := .agg #[.string op, .int .i64 x, .string s, .slice so l.length sc]) (by simp [results, Tryz.results264, go_sem, z0, z1, z2, z3]) rfl ⟨hE.1, Or.inl ⟨_, j + 1, _, Run.ifF g1 (Run.ifF g2 (Run.ifF g3 (Run.ifT ht (Run.down hd (Run.then hp (Run.exp hx Run.done)))))), rfl, ⟨_, rfl, hE.2.1⟩, hE.2.2, by omega⟩⟩
        · go_wp2
          exact ⟨rfl, hM5, Or.inr ⟨j, false, Run.ifF g1 (Run.ifF g2 (Run.ifF g3 (Run.ifT ht (Run.down hd (Run.then hp (Run.unexp hx)))))), hj, p, rfl, q0, q1⟩⟩
      · go_wp2
        exact ⟨rfl, (hM1.trans hm2).trans hm3, Or.inr ⟨j, bd, Run.ifF g1 (Run.ifF g2 (Run.ifF g3 (Run.ifT ht (Run.down hd (Run.stop hp))))), hj, p, rfl, q0, q1⟩⟩
    · subst hd
      go_wp2
      exact ⟨rfl, hM1.trans hm2, Or.inr ⟨i, true, Run.ifF g1 (Run.ifF g2 (Run.ifF g3 (Run.ifT ht (Run.deep rfl)))), hj, p, rfl, q0, q1⟩⟩
  · have h' : txs C.l i [tOpen] = false := by simpa using h
    clear h
    have ht : tx C.l i tOpen = false := by rw [← txs_one]; exact h'
    go_enter Tryz.func264, Tryz.ntmps264
    go_wp2_with fail
    refine (is_new C i d _ RA [tOpen] _ 1 (by simp) rfl (by decide)).mono ?_
    rintro e w1 ⟨rfl, hb1⟩
    have R1 := RA.below hb1
    have hT1 := R1.hT
    go_wp2_with fail
    refine (fail_any C i d _ R1 _ false rfl).mono ?_
    rintro e w2 ⟨⟨hj, p, rfl, q0, q1⟩, hb2⟩
    go_wp2
    exact ⟨rfl, ((Mv.of_below hbA).trans (Mv.of_below hb1)).trans (Mv.of_below hb2), Or.inr ⟨i, false, Run.ifF g1 (Run.ifF g2 (Run.ifF g3 (Run.ifF ht (.ret _)))), hj, p, rfl, q0, q1⟩⟩
end Go.Proofs.YtglkpgcmlbhkpabGreatDoor
