/-
  package tree's WRITER: fail, put, between, kind BY THEIR CONTRACTS, where nothing is known of the texts: it writes on, or it gives up.
-/
import Derived.Test.YtglkpgcmlbhkpabGreatDoorP21
import Derived.Test.YtglkpgcmlbhkpabGreatDoorP34
import Derived.Test.YtglkpgcmlbhkpabGreatDoorP23
namespace Go.Proofs.YtglkpgcmlbhkpabGreatDoor
open Go.RowKit
attribute [local go_sem ↓] Go.wp_at_zero Go.wp_at_succ

/-- The writer has given up. -/
def WThrew (pS : Addr) (e : Ending) : Prop := e = .panicked [{ v := .iface 165 (.agg #[.iface 325 (.pointer (some pS))]), recovered := false }]
/-- It writes on, or it gives up. -/
def WAny (B b d : Nat) (pS : Addr) (w : World) (e : Ending) (w' : World) : Prop := Below B w w' ∧ Kept b w w' ∧ ((∃ l, e = .returned (.tuple #[]) ∧ WT B b l d w' ∧ l.length ≤ 6000) ∨ WThrew pS e)
/-- The table of strconv lies as it is. -/
def TabAt (w : World) : Prop := Lib.TabIs Tryz.prog w "internal/strconv.uint64pow10" .u64 Lib.pow10Tab
theorem Tryz.tabNamed : Tryz.prog.globalNamed "internal/strconv.uint64pow10" = some 13 := by kernel_rfl
theorem TabAt.keep {w w' : World} (h : TabAt w) (hb : w'.heap[13]? = w.heap[13]?) : TabAt w' := by
  unfold TabAt Lib.TabIs World.var? at h ⊢
  rw [Tryz.tabNamed] at h ⊢
  simp only [Option.bind_some] at h ⊢
  rw [hb]
  exact h
/-- A writer at work, and the error that it gives up with. -/
structure WSt (B b d : Nat) (pS : Addr) (w : World) : Prop where
  wt : ∃ l, WT B b l d w ∧ l.length ≤ 6000
  err : w.cell? ⟨0, 0, none⟩ = some (.iface 325 (.pointer (some pS)))
  low : 0 < B
  tab : TabAt w
  low2 : 13 < B
theorem WSt.lt {B b d : Nat} {pS : Addr} {w : World} (h : WSt B b d pS w) : b < w.heap.size := by obtain ⟨l, h, _⟩ := h.wt; exact h.lt
theorem WSt.le {B b d : Nat} {pS : Addr} {w : World} (h : WSt B b d pS w) : B ≤ b := by obtain ⟨l, h, _⟩ := h.wt; exact h.le
theorem WSt.alloc {B b d : Nat} {pS : Addr} {w : World} (h : WSt B b d pS w) (o : Obj) : WSt B b d pS (w.alloc o) := by
  have hl := h.lt
  have hB := h.le
  obtain ⟨⟨l, h1, h2⟩, h3, h4, h5, h6⟩ := h
  exact ⟨⟨l, h1.alloc _, h2⟩, cell_keep ((Below.refl _ _).alloc (Nat.le_refl _) _) h3, h4, h5.keep (((Below.refl _ _).alloc (Nat.le_refl w.heap.size) _).block _ (by omega)), h6⟩
theorem WSt.next {B b d e : Nat} {pS : Addr} {w w' : World} {l : List UInt8} (h : WSt B b d pS w) (hb : Below B w w') (h1 : WT B b l e w') (h2 : l.length ≤ 6000) : WSt B b e pS w' :=
  ⟨⟨l, h1, h2⟩, by rw [World.cell?_of_block (w := w) (hb.block _ h.low)]; exact h.err, h.low, h.tab.keep (hb.block _ h.low2), h.low2⟩
set_option maxRecDepth 100000 in
set_option maxHeartbeats 1000000 in
theorem wfail_any (b : Nat) (pS : Addr) (w : World) (h : w.cell? ⟨0, 0, none⟩ = some (.iface 325 (.pointer (some pS)))) :
    Calls Tryz.prog 180 #[.pointer (some ⟨b, 0, none⟩)] w fun e w' => WThrew pS e ∧ w' = w := by
  go_enter Tryz.func180, Tryz.ntmps180
  go_wp2
  exact ⟨rfl, rfl, rfl⟩
set_option maxRecDepth 100000 in
set_option maxHeartbeats 1000000 in
theorem put_any (B b d : Nat) (pS : Addr) (w : World) (q : Nat) (xs : List ByteArray) (n : Nat) (hn : xs.length = n) (h : WSt B b d pS w) (hq : w.heap[q]? = some (.cells (xs.map Value.string).toArray 9 (0, 0))) (hqb : q ≠ b) (hn1 : n ≤ 1000) :
    Calls Tryz.prog 129 #[.pointer (some ⟨b, 0, none⟩), .slice (some ⟨q, 0, none⟩) n n] w fun e w' => WAny B b d pS w e w' := by
  subst hn
  have HQ : Hid (w.heap[q]? = some (.cells (xs.map Value.string).toArray 9 (0, 0))) := hq
  have hB := h.le
  have hlt := h.lt
  clear hq
  go_enter Tryz.func129, Tryz.ntmps129
  go_wp2
  go_loopw [8] (fun t wr => ∃ i : Nat, i ≤ xs.length ∧ t = .int .i64 i ∧ WSt B b d pS wr ∧ Below B w wr ∧ Kept b w wr) (fun t _ => xs.length - (intOf t).toNat)
  case atStart => exact ⟨0, Nat.zero_le _, rfl, h, Below.refl _ _, Lib.OthersKept.refl _ _ _⟩
  case round =>
    obtain ⟨i, hi, rfl, hr, hb, hk⟩ := hrel
    by_cases hl : i < xs.length
    · have hqr := hk q _ HQ.out (by simpa using hqb) (by intro c fz e; injection e with _ e; exact absurd e (by decide))
      have c0 : wr.cell? ⟨q, i, none⟩ = some (.string xs[i]) := by simp [World.cell?, hqr, hl]
      have i0 : (0 : Int) ≤ (i : Int) := by omega
      have i1 : (i : Int) < (xs.length : Int) := by omega
      obtain ⟨l, hw, hl6⟩ := hr.wt
      have hel : (Lib.byteCells l).length = l.length := Lib.byteCells_length l
      have c2 := Wr.most hw
      have hc := hr.err
      clear hqr
      by_cases h6 : 6000 < l.length + xs[i].size
      · have e5 : (6000 : Int) - ((Lib.byteCells l).length : Int) < (xs[i].size : Int) := by omega
        go_wp2_with fail
        go_quiet (exact Calls.quiet_of_same (wlen_any B b _ d _ (Wr.drewN hw _)))
        go_wp2_with fail
        refine (wfail_any b pS (wr.drewN nq) hc).mono ?_
        rintro e w3 ⟨rfl, rfl⟩
        go_wp2
        exact ⟨rfl, below_drewN hb nq, hk, Or.inr rfl⟩
      · have e5 : ¬ ((6000 : Int) - ((Lib.byteCells l).length : Int) < (xs[i].size : Int)) := by omega
        have hBw : B ≤ wr.heap.size := Nat.le_trans hB (Nat.le_of_lt hw.lt)
        go_wp2_with fail
        go_quiet (exact Calls.quiet_of_same (wlen_any B b _ d _ (Wr.drewN hw _)))
        go_wp2_with fail
        refine (wstr_any B b _ d xs[i] (wr.drewN nq) (Wr.drewN hw nq) (by omega) hBw).mono ?_
        rintro e w3 ⟨rfl, hr3, hb3', hk3'⟩
        have hb3 : Below B wr w3 := (below_drewN (Below.refl B wr) nq).trans hb3'
        have hk3 : Kept b wr w3 := hk3'
        have hr3' : WT B b (l ++ xs[i].data.toList) d w3 := by
          show Wr B b (Lib.byteCells (l ++ xs[i].data.toList)) d w3
          rw [byteCells_append]
          exact hr3
        have hlen : (l ++ xs[i].data.toList).length ≤ 6000 := by
          have : xs[i].data.toList.length = xs[i].size := rfl
          rw [List.length_append]; omega
        go_wp2
        exact ⟨⟨i + 1, by omega, by go_num, hr.next hb3 hr3' hlen, hb.trans hb3, hk.trans hk3⟩, by simp [intOf]; omega⟩
    · obtain ⟨l, hw, hl6⟩ := hr.wt
      go_wp2
      go_end0
      exact ⟨hb, hk, Or.inl ⟨l, rfl, hw, hl6⟩⟩
end Go.Proofs.YtglkpgcmlbhkpabGreatDoor

/-
  package tree's WRITER: between, kind, vars, names BY THEIR CONTRACTS, where nothing is known of the texts: it writes on, or it gives up.
-/
namespace Go.Proofs.YtglkpgcmlbhkpabGreatDoor
open Go.RowKit
attribute [local go_sem ↓] Go.wp_at_zero Go.wp_at_succ

theorem put_newA (B b d : Nat) (pS : Addr) (w : World) (xs : List ByteArray) (q n : Nat) (hq : w.heap.size = q) (hn : xs.length = n) (h : WSt B b d pS w) (hn1 : n ≤ 1000) (cur : Array Value) (hc : cur = (xs.map Value.string).toArray) :
    Calls Tryz.prog 129 #[.pointer (some ⟨b, 0, none⟩), .slice (some ⟨q, 0, none⟩) n n] (w.alloc (.cells cur 9)) fun e w' => WAny B b d pS w e w' := by
  subst hq hc
  have hlt := h.lt
  have hle := h.le
  refine (put_any B b d pS _ w.heap.size xs n hn (h.alloc _) (heap_alloc_new w _) (by omega) hn1).mono ?_
  rintro e w' ⟨h1, h2, h3⟩
  exact ⟨((Below.refl _ _).alloc (by omega) _).trans h1, (Kept.alloc b w _).trans h2, h3⟩
set_option maxRecDepth 100000 in
set_option maxHeartbeats 1000000 in
theorem between_any (B b d : Nat) (pS : Addr) (w : World) (i : Nat) (s : ByteArray) (h : WSt B b d pS w) :
    Calls Tryz.prog 182 #[.pointer (some ⟨b, 0, none⟩), .int .i64 i, .string s] w fun e w' => WAny B b d pS w e w' := by
  by_cases hi : 0 < i
  · have hi' : (0 : Int) < (i : Int) := by omega
    go_enter Tryz.func182, Tryz.ntmps182
    go_wp2_with fail
    refine (put_newA B b d pS _ [s] _ 1 rfl rfl h (by decide) _ rfl).mono ?_
    rintro e w' ⟨h1, h2, ⟨l, rfl, h3, h4⟩ | ht⟩
    · go_wp2
      go_end0
      exact ⟨h1, h2, Or.inl ⟨l, rfl, h3, h4⟩⟩
    · unfold WThrew at ht
      subst ht
      go_wp2
      exact ⟨rfl, h1, h2, Or.inr rfl⟩
  · obtain rfl : i = 0 := by omega
    obtain ⟨l, h3, h4⟩ := h.wt
    go_enter Tryz.func182, Tryz.ntmps182
    go_wp2
    go_end0
    exact ⟨Below.refl _ _, Lib.OthersKept.refl _ _ _, Or.inl ⟨l, rfl, h3, h4⟩⟩
set_option maxRecDepth 100000 in
set_option maxHeartbeats 1000000 in
theorem wkind_any (B b d : Nat) (pS : Addr) (w : World) (k : Int) (h : WSt B b d pS w) :
    Calls Tryz.prog 183 #[.pointer (some ⟨b, 0, none⟩), .int .i64 k] w fun e w' => WAny B b d pS w e w' := by
  by_cases h1 : k = 1
  · subst h1
    go_enter Tryz.func183, Tryz.ntmps183
    go_wp2_with fail
    refine (put_newA B b d pS _ [sBool] _ 1 rfl rfl h (by decide) _ rfl).mono ?_
    rintro e w' ⟨h1, h2, ⟨l, rfl, h3, h4⟩ | ht⟩
    · go_wp2
      go_end0
      exact ⟨h1, h2, Or.inl ⟨l, rfl, h3, h4⟩⟩
    · unfold WThrew at ht
      subst ht
      go_wp2
      exact ⟨rfl, h1, h2, Or.inr rfl⟩
  · by_cases h2 : k = 2
    · subst h2
      go_enter Tryz.func183, Tryz.ntmps183
      go_wp2_with fail
      refine (put_newA B b d pS _ [⟨#[105, 110, 116]⟩] _ 1 rfl rfl h (by decide) _ rfl).mono ?_
      rintro e w' ⟨h1, h2, ⟨l, rfl, h3, h4⟩ | ht⟩
      · go_wp2
        go_end0
        exact ⟨h1, h2, Or.inl ⟨l, rfl, h3, h4⟩⟩
      · unfold WThrew at ht
        subst ht
        go_wp2
        exact ⟨rfl, h1, h2, Or.inr rfl⟩
    · have e1 : (k == 1) = false := by simpa using h1
      have e2 : (k == 2) = false := by simpa using h2
      have hc := h.err
      clear h1 h2
      go_enter Tryz.func183, Tryz.ntmps183
      go_wp2_with fail
      refine (wfail_any b pS _ hc).mono ?_
      rintro e w3 ⟨ht, rfl⟩
      unfold WThrew at ht
      subst ht
      go_wp2
      exact ⟨rfl, Below.refl _ _, Lib.OthersKept.refl _ _ _, Or.inr rfl⟩
theorem below_row {B : Nat} {w w' : World} {size n : Nat} {v : Value} {xs : List Value} (h : RowAt w (fun k => k < B) size v n xs) (hb : Below B w w') : RowAt w' (fun k => k < B) size v n xs := h.keep (fun k hk _ => ⟨hk, hb.block k hk⟩)
set_option maxRecDepth 100000 in
set_option maxHeartbeats 1000000 in
theorem wvars_any (B b d : Nat) (pS : Addr) (w : World) (o : Option Addr) (c : Nat) (vs : List Ex) (h : WSt B b d pS w) (hr : RowAt w (fun k => k < B) 2 (.slice o vs.length c) vs.length (varCells vs)) :
    Calls Tryz.prog 130 #[.pointer (some ⟨b, 0, none⟩), .slice o vs.length c] w fun e w' => WAny B b d pS w e w' := by
  have hl := hr.len
  unfold maxLen at hl
  have HR : Hid (RowAt w (fun k => k < B) 2 (.slice o vs.length c) vs.length (varCells vs)) := hr
  have hle := h.le
  clear hr
  go_enter Tryz.func130, Tryz.ntmps130
  go_wp2
  go_loopw [8] (fun t wr => ∃ i : Nat, i ≤ vs.length ∧ t = .int .i64 i ∧ WSt B b d pS wr ∧ Below B w wr ∧ Kept b w wr) (fun t _ => vs.length - (intOf t).toNat)
  case atStart => exact ⟨0, Nat.zero_le _, rfl, h, Below.refl _ _, Lib.OthersKept.refl _ _ _⟩
  case round =>
    obtain ⟨i, hi, rfl, hw, hb, hk⟩ := hrel
    by_cases hlt : i < vs.length
    · have hrr := below_row HR.out hb
      obtain ⟨q, off, rfl, _, g⟩ := row_get hrr (by rw [varCells_length]; omega)
      have c0 := g _ _ (varCells_at hlt).1
      have c1 := g _ _ (varCells_at hlt).2
      rw [← Nat.add_assoc] at c1
      have i0 : (0 : Int) ≤ (i : Int) := by omega
      have i1 : (i : Int) < (vs.length : Int) := by omega
      have hwl := hw.lt
      have h0 := hw.alloc (.cells #[.string vs[i].op, .int .i64 vs[i].n] 170)
      have HN : Hid _ := heap_alloc_new wr (.cells #[.string vs[i].op, .int .i64 vs[i].n] 170)
      have bz : Below B wr (wr.alloc (.cells #[.string vs[i].op, .int .i64 vs[i].n] 170)) := (Below.refl _ _).alloc (by omega) _
      clear hrr g
      go_wp2_with fail
      refine (between_any B b d pS _ i _ h0).mono ?_
      rintro e w1 ⟨b1, k1, ⟨l1, rfl, h1, g1⟩ | ht⟩
      · have s1 := h0.next b1 h1 g1
        have HN1 : Hid _ := kept_row k1 HN.out (by omega) (by intro c fz e; injection e with _ e; exact absurd e (by decide))
        obtain ⟨y0, y1, _⟩ := blk2 HN1.out
        have hl1 : wr.heap.size < w1.heap.size := lt_of_cell y0
        go_wp2_with fail
        refine (put_newA B b d pS _ [vs[i].op, ⟨#[58, 32]⟩] _ 2 rfl rfl s1 (by decide) _ rfl).mono ?_
        rintro e w2 ⟨b2, k2, ⟨l2, rfl, h2, g2⟩ | ht⟩
        · have s2 := s1.next b2 h2 g2
          have HN2 : Hid _ := kept_row k2 HN1.out (by omega) (by intro c fz e; injection e with _ e; exact absurd e (by decide))
          obtain ⟨z0, z1, _⟩ := blk2 HN2.out
          go_wp2_with fail
          refine (wkind_any B b d pS _ _ s2).mono ?_
          rintro e w3 ⟨b3, k3, ⟨l3, rfl, h3, g3⟩ | ht⟩
          · go_wp2
            exact ⟨⟨i + 1, by omega, by go_num, s2.next b3 h3 g3, (((hb.trans bz).trans b1).trans b2).trans b3, (((hk.trans (Kept.alloc b wr _)).trans k1).trans k2).trans k3⟩, by simp [intOf]; omega⟩
          · unfold WThrew at ht
            subst ht
            go_wp2
            exact ⟨rfl, (((hb.trans bz).trans b1).trans b2).trans b3, (((hk.trans (Kept.alloc b wr _)).trans k1).trans k2).trans k3, Or.inr rfl⟩
        · unfold WThrew at ht
          subst ht
          go_wp2
          exact ⟨rfl, ((hb.trans bz).trans b1).trans b2, ((hk.trans (Kept.alloc b wr _)).trans k1).trans k2, Or.inr rfl⟩
      · unfold WThrew at ht
        subst ht
        go_wp2
        exact ⟨rfl, (hb.trans bz).trans b1, (hk.trans (Kept.alloc b wr _)).trans k1, Or.inr rfl⟩
    · obtain ⟨l, h1, g1⟩ := hw.wt
      go_wp2
      go_end0
      exact ⟨hb, hk, Or.inl ⟨l, rfl, h1, g1⟩⟩
end Go.Proofs.YtglkpgcmlbhkpabGreatDoor

/-
  package tree's WRITER: names BY ITS CONTRACT, where nothing is known of the texts: it writes on, or it gives up.
-/
namespace Go.Proofs.YtglkpgcmlbhkpabGreatDoor
open Go.RowKit
attribute [local go_sem ↓] Go.wp_at_zero Go.wp_at_succ

set_option maxRecDepth 100000 in
set_option maxHeartbeats 1000000 in
theorem wnames_any (B b d : Nat) (pS : Addr) (w : World) (o : Option Addr) (c : Nat) (ns : List Ex) (h : WSt B b d pS w) (hr : RowAt w (fun k => k < B) 1 (.slice o ns.length c) ns.length (nameCells ns)) :
    Calls Tryz.prog 184 #[.pointer (some ⟨b, 0, none⟩), .slice o ns.length c] w fun e w' => WAny B b d pS w e w' := by
  have hl := hr.len
  unfold maxLen at hl
  have HR : Hid (RowAt w (fun k => k < B) 1 (.slice o ns.length c) ns.length (nameCells ns)) := hr
  have hle := h.le
  clear hr
  by_cases h1 : ns.length = 1
  · obtain ⟨q, off, rfl, _, g⟩ := row_get HR.out (by rw [nameCells_length]; omega)
    have c0 := g 0 _ (nameCells_at (by omega))
    rw [Nat.add_zero] at c0
    clear g
    rw [h1]
    go_enter Tryz.func184, Tryz.ntmps184
    go_wp2_with fail
    refine (put_newA B b d pS _ [ns[0].op] _ 1 rfl rfl h (by decide) _ rfl).mono ?_
    rintro e w1 ⟨b1, k1, ⟨l1, rfl, h1, g1⟩ | ht⟩
    · go_wp2
      go_end0
      exact ⟨b1, k1, Or.inl ⟨l1, rfl, h1, g1⟩⟩
    · unfold WThrew at ht
      subst ht
      go_wp2
      exact ⟨rfl, b1, k1, Or.inr rfl⟩
  · have h1' : ((ns.length : Int) == 1) = false := by simp; omega
    go_enter Tryz.func184, Tryz.ntmps184
    go_wp2_with fail
    refine (put_newA B b d pS _ [⟨#[40]⟩] _ 1 rfl rfl h (by decide) _ rfl).mono ?_
    rintro e w1 ⟨b1, k1, ⟨l1, rfl, h1, g1⟩ | ht⟩
    · have s1 := h.next b1 h1 g1
      clear h1
      go_wp2
      go_loopw [20] (fun t wr => ∃ i : Nat, i ≤ ns.length ∧ t = .int .i64 i ∧ WSt B b d pS wr ∧ Below B w wr ∧ Kept b w wr) (fun t _ => ns.length - (intOf t).toNat)
      case atStart => exact ⟨0, Nat.zero_le _, rfl, s1, b1, k1⟩
      case round =>
        clear s1
        obtain ⟨i, hi, rfl, hw, hb, hk⟩ := hrel
        by_cases hlt : i < ns.length
        · have hrr := below_row HR.out hb
          obtain ⟨q, off, rfl, _, g⟩ := row_get hrr (by rw [nameCells_length]; omega)
          have c0 := g _ _ (nameCells_at hlt)
          have i0 : (0 : Int) ≤ (i : Int) := by omega
          have i1 : (i : Int) < (ns.length : Int) := by omega
          clear hrr g
          go_wp2_with fail
          refine (between_any B b d pS _ i _ hw).mono ?_
          rintro e w2 ⟨b2, k2, ⟨l2, rfl, h2, g2⟩ | ht⟩
          · have s2 := hw.next b2 h2 g2
            go_wp2_with fail
            refine (put_newA B b d pS _ [ns[i].op] _ 1 rfl rfl s2 (by decide) _ rfl).mono ?_
            rintro e w3 ⟨b3, k3, ⟨l3, rfl, h3, g3⟩ | ht⟩
            · go_wp2
              exact ⟨⟨i + 1, by omega, by go_num, s2.next b3 h3 g3, (hb.trans b2).trans b3, (hk.trans k2).trans k3⟩, by simp [intOf]; omega⟩
            · unfold WThrew at ht
              subst ht
              go_wp2
              exact ⟨rfl, (hb.trans b2).trans b3, (hk.trans k2).trans k3, Or.inr rfl⟩
          · unfold WThrew at ht
            subst ht
            go_wp2
            exact ⟨rfl, hb.trans b2, hk.trans k2, Or.inr rfl⟩
        · go_wp2_with fail
          refine (put_newA B b d pS _ [⟨#[41]⟩] _ 1 rfl rfl hw (by decide) _ rfl).mono ?_
          rintro e w2 ⟨b2, k2, ⟨l2, rfl, h2, g2⟩ | ht⟩
          · go_wp2
            go_end0
            exact ⟨hb.trans b2, hk.trans k2, Or.inl ⟨l2, rfl, h2, g2⟩⟩
          · unfold WThrew at ht
            subst ht
            go_wp2
            exact ⟨rfl, hb.trans b2, hk.trans k2, Or.inr rfl⟩
    · unfold WThrew at ht
      subst ht
      go_wp2
      exact ⟨rfl, b1, k1, Or.inr rfl⟩
end Go.Proofs.YtglkpgcmlbhkpabGreatDoor
