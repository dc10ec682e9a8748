/-
  package tree's WRITER: neg and call, by what is known of terms that are smaller.
-/
import Derived.Test.YtglkpgcmlbhkpabGreatDoorP37
namespace Go.Proofs.YtglkpgcmlbhkpabGreatDoor
open Go.RowKit
attribute [local go_sem ↓] Go.wp_at_zero Go.wp_at_succ

theorem below_ex {B : Nat} {w w' : World} {l : List Ex} {xs : List Value} (h : ExIn w (fun k => k < B) l xs) (hb : Below B w w') : ExIn w' (fun k => k < B) l xs := h.keep (fun k hk _ => ⟨hk, hb.block k hk⟩)
set_option maxRecDepth 100000 in
set_option maxHeartbeats 1000000 in
theorem wneg_any (B b : Nat) (pS : Addr) (m : Nat) (IH : TermAny B b pS m) (op : ByteArray) (n : Int) (s : ByteArray) (l : List Ex) (hm : SizeOf.sizeOf l < m) (w : World) (d : Nat) (o : Option Addr) (c : Nat) (ys : List Value) (least : Int) (hd : d ≤ 6000) (h : WSt B b d pS w) (h1 : RowAt w (fun k => k < B) 4 (.slice o l.length c) l.length ys) (h2 : ExIn w (fun k => k < B) l ys) :
    Calls Tryz.prog 230 #[.pointer (some ⟨b, 0, none⟩), .agg #[.string op, .int .i64 n, .string s, .slice o l.length c], .int .i64 least] w fun e w' => WAny B b d pS w e w' := by
  have hlt := h.lt
  have hle := h.le
  have bz : Below B w (w.alloc (teObj op n s (.slice o l.length c))) := (Below.refl _ _).alloc (by omega) _
  have HE : Hid _ := heap_alloc_new w (teObj op n s (.slice o l.length c))
  have s0 := h.alloc (teObj op n s (.slice o l.length c))
  have HT : Hid (∀ (w' : World) (least' : Int), Below B w w' → WSt B b d pS w' → Calls Tryz.prog 185 #[.pointer (some ⟨b, 0, none⟩), .agg #[.string op, .int .i64 n, .string s, .slice o l.length c], .int .i64 least'] w' fun e w'' => WAny B b d pS w' e w'') := fun w' least' hb hw => IH op n s l hm w' d o c ys least' hd hw (below_row h1 hb) (below_ex h2 hb)
  clear IH h1 h2
  by_cases hn : (op.toList == [110, 101, 103]) = true
  all_goals
    first | (have hn' : (op.toList == [110, 101, 103]) = true := hn; clear hn) | (have hn' : (op.toList == [110, 101, 103]) = false := (by simpa using hn); clear hn)
    go_enter Tryz.func230, Tryz.ntmps230
    go_wp2_with fail
    refine (put_newA B b d pS _ [⟨#[45]⟩] _ 1 (by simp) rfl s0 (by decide) _ rfl).mono ?_
    rintro e w1 ⟨b1, k1, ⟨l1, rfl, h1, g1⟩ | ht⟩
    · have s1 := s0.next b1 h1 g1
      have HE1 : Hid _ := kept_row k1 HE.out (by omega) (by intro c fz e; injection e with _ e; exact absurd e (by decide))
      obtain ⟨y0, y1, y2, y3, _⟩ := blk4 HE1.out
      go_wp2_with fail
      refine (HT.out _ _ (bz.trans b1) s1).mono ?_
      rintro e w2 ⟨b2, k2, ⟨l2, rfl, h2, g2⟩ | ht⟩
      · go_wp2
        go_end0
        exact ⟨(bz.trans b1).trans b2, ((Kept.alloc b w _).trans k1).trans k2, Or.inl ⟨l2, rfl, h2, g2⟩⟩
      · unfold WThrew at ht
        subst ht
        go_wp2
        exact ⟨rfl, (bz.trans b1).trans b2, ((Kept.alloc b w _).trans k1).trans k2, Or.inr rfl⟩
    · unfold WThrew at ht
      subst ht
      go_wp2
      exact ⟨rfl, bz.trans b1, (Kept.alloc b w _).trans k1, Or.inr rfl⟩
set_option maxRecDepth 100000 in
set_option maxHeartbeats 1000000 in
theorem wcall_any (B b : Nat) (pS : Addr) (m : Nat) (IH : TermAny B b pS m) (op : ByteArray) (n : Int) (s : ByteArray) (l : List Ex) (hm : SizeOf.sizeOf l < m + 1) (w : World) (d : Nat) (o : Option Addr) (c : Nat) (ys : List Value) (hd : d ≤ 6000) (h : WSt B b d pS w) (h1 : RowAt w (fun k => k < B) 4 (.slice o l.length c) l.length ys) (h2 : ExIn w (fun k => k < B) l ys) :
    Calls Tryz.prog 229 #[.pointer (some ⟨b, 0, none⟩), .agg #[.string op, .int .i64 n, .string s, .slice o l.length c]] w fun e w' => WAny B b d pS w e w' := by
  have hl := h1.len
  unfold maxLen at hl
  have hlt := h.lt
  have hle := h.le
  have bz : Below B w (w.alloc (teObj op n s (.slice o l.length c))) := (Below.refl _ _).alloc (by omega) _
  have HE : Hid _ := heap_alloc_new w (teObj op n s (.slice o l.length c))
  have s0 := h.alloc (teObj op n s (.slice o l.length c))
  have H1 : Hid (RowAt w (fun k => k < B) 4 (.slice o l.length c) l.length ys) := h1
  have H2 : Hid (ExIn w (fun k => k < B) l ys) := h2
  have HI : Hid (TermAny B b pS m) := IH
  clear IH h1 h2
  go_enter Tryz.func229, Tryz.ntmps229
  go_wp2_with fail
  refine (put_newA B b d pS _ [s, ⟨#[40]⟩] _ 2 (by simp) rfl s0 (by decide) _ rfl).mono ?_
  rintro e w1 ⟨b1, k1, ⟨l1, rfl, h1, g1⟩ | ht⟩
  · have s1 := s0.next b1 h1 g1
    have HE1 : Hid _ := kept_row k1 HE.out (by omega) (by intro c fz e; injection e with _ e; exact absurd e (by decide))
    obtain ⟨y0, y1, y2, y3, _⟩ := blk4 HE1.out
    have bb1 := bz.trans b1
    have kk1 := (Kept.alloc b w (teObj op n s (.slice o l.length c))).trans k1
    clear h1 k1 b1
    go_wp2
    go_loopw [14] (fun t wr => ∃ i : Nat, i ≤ l.length ∧ t = .int .i64 i ∧ WSt B b d pS wr ∧ Below B w wr ∧ Kept b w wr) (fun t _ => l.length - (intOf t).toNat)
    case atStart => exact ⟨0, Nat.zero_le _, rfl, s1, bb1, kk1⟩
    case round =>
      clear s1 bb1 kk1 y0 y1 y2 y3
      obtain ⟨i, hi, rfl, hw, hb, hk⟩ := hrel
      by_cases hlt : i < l.length
      · obtain ⟨op', n', s', es, oo, cc, zs, e, x0, x1, x2, x3, t1, t2⟩ := H2.out.at hlt
        have hrr := below_row H1.out hb
        obtain ⟨q, off, rfl, _, g⟩ := row_get hrr (by have := hrr.1; omega)
        have x0 := g _ _ x0
        have x1 := g _ _ x1
        have x2 := g _ _ x2
        have x3 := g _ _ x3
        rw [← Nat.add_assoc] at x1 x2 x3
        have i0 : (0 : Int) ≤ (i : Int) := by omega
        have i1 : (i : Int) < (l.length : Int) := by omega
        have hsz := size_part hlt e
        have hwl := hw.lt
        have sA := hw.alloc (teObj op' n' s' (.slice oo es.length cc))
        have HN : Hid _ := heap_alloc_new wr (teObj op' n' s' (.slice oo es.length cc))
        have bA : Below B wr (wr.alloc (teObj op' n' s' (.slice oo es.length cc))) := (Below.refl _ _).alloc (by omega) _
        have HT : Hid (∀ (w' : World), Below B w w' → WSt B b d pS w' → Calls Tryz.prog 185 #[.pointer (some ⟨b, 0, none⟩), .agg #[.string op', .int .i64 n', .string s', .slice oo es.length cc], .int .i64 0] w' fun e w'' => WAny B b d pS w' e w'') := fun w' hb hw => HI.out op' n' s' es (by omega) w' d oo cc zs 0 hd hw (below_row t1 hb) (below_ex t2 hb)
        clear hrr g t1 t2 hsz
        go_wp2_with fail
        refine (between_any B b d pS _ i _ sA).mono ?_
        rintro e w2 ⟨b2, k2, ⟨l2, rfl, h2, g2⟩ | ht⟩
        · have s2 := sA.next b2 h2 g2
          have HN2 : Hid _ := kept_row k2 HN.out (by omega) (by intro c fz e; injection e with _ e; exact absurd e (by decide))
          obtain ⟨z0, z1, z2, z3, _⟩ := blk4 HN2.out
          go_wp2_with fail
          refine (HT.out _ ((hb.trans bA).trans b2) s2).mono ?_
          rintro e w3 ⟨b3, k3, ⟨l3, rfl, h3, g3⟩ | ht⟩
          · go_wp2
            exact ⟨⟨i + 1, by omega, by go_num, s2.next b3 h3 g3, ((hb.trans bA).trans b2).trans b3, ((hk.trans (Kept.alloc b wr _)).trans k2).trans k3⟩, by simp [intOf]; omega⟩
          · unfold WThrew at ht
            subst ht
            go_wp2
            exact ⟨rfl, ((hb.trans bA).trans b2).trans b3, ((hk.trans (Kept.alloc b wr _)).trans k2).trans k3, Or.inr rfl⟩
        · unfold WThrew at ht
          subst ht
          go_wp2
          exact ⟨rfl, (hb.trans bA).trans b2, (hk.trans (Kept.alloc b wr _)).trans k2, Or.inr rfl⟩
      · go_wp2_with fail
        refine (put_newA B b d pS _ [⟨#[41]⟩] _ 1 (by simp) rfl hw (by decide) _ rfl).mono ?_
        rintro e w2 ⟨b2, k2, ⟨l2, rfl, h2, g2⟩ | ht⟩
        · go_wp2
          go_end0
          exact ⟨hb.trans b2, hk.trans k2, Or.inl ⟨l2, rfl, h2, g2⟩⟩
        · unfold WThrew at ht
          subst ht
          go_wp2
          exact ⟨rfl, hb.trans b2, hk.trans k2, Or.inr rfl⟩
  · unfold WThrew at ht
    subst ht
    go_wp2
    exact ⟨rfl, bz.trans b1, (Kept.alloc b w _).trans k1, Or.inr rfl⟩
end Go.Proofs.YtglkpgcmlbhkpabGreatDoor
