/-
  package tree's WRITER: a part of a term, neg and call, to the byte, by what is known of terms that are smaller.
-/
import Derived.Test.YtglkpgcmlbhkpabGreatDoorQ37
import Derived.Test.YtglkpgcmlbhkpabGreatDoorQ30
namespace Go.Proofs.YtglkpgcmlbhkpabGreatDoor
open Go.RowKit
attribute [local go_sem ↓] Go.wp_at_zero Go.wp_at_succ

/-- term, of terms that are smaller: its text, or it gives up. -/
abbrev TermX (K : Prop) (B b : Nat) (pS : Addr) (m : Nat) : Prop := ∀ (op : ByteArray) (n : Int) (s : ByteArray) (l : List Ex), SizeOf.sizeOf l < m → ∀ (lx : List UInt8) (w : World) (d : Nat) (o : Option Addr) (c : Nat) (ys : List Value) (least : Nat), d ≤ 6000 → (6000 < d + dpt (.mk op n s l) → K) → WStX B b d pS lx w → RowAt w (fun k => k < B) 4 (.slice o l.length c) l.length ys → ExIn w (fun k => k < B) l ys →
    Calls Tryz.prog 185 #[.pointer (some ⟨b, 0, none⟩), .agg #[.string op, .int .i64 n, .string s, .slice o l.length c], .int .i64 least] w fun e w' => WAnyX K B b d pS lx (tw least (.mk op n s l)) w e w'
set_option maxRecDepth 100000 in
set_option maxHeartbeats 4000000 in
theorem part_x (K : Prop) (B b : Nat) (pS : Addr) (m : Nat) (IH : TermX K B b pS m) (op : ByteArray) (n : Int) (s : ByteArray) (l : List Ex) (hm : SizeOf.sizeOf l < m + 1) (lx : List UInt8) (w : World) (d : Nat) (o : Option Addr) (c : Nat) (ys : List Value) (hd : d ≤ 6000) (hK : 6000 < d + dptL l → K) (h : WStX B b d pS lx w) (h1 : RowAt w (fun k => k < B) 4 (.slice o l.length c) l.length ys) (h2 : ExIn w (fun k => k < B) l ys) (bw be bs q : Nat) (lv : Int) (ps : List Nat) (i : Nat) (hi : i < l.length) (hp : i < ps.length)
    (r1 : w.heap[bw]? = some (.cells #[.pointer (some ⟨b, 0, none⟩)] 85 (0, 0))) (r2 : w.heap[be]? = some (teObj op n s (.slice o l.length c))) (r3 : w.heap[bs]? = some (shObj lv (.slice (some ⟨q, 0, none⟩) ps.length ps.length))) (r4 : w.heap[q]? = some (.cells (intCells ps).toArray 3 (0, 0))) :
    Calls Tryz.prog 228 #[.int .i64 i, .pointer (some ⟨bw, 0, none⟩), .pointer (some ⟨be, 0, none⟩), .pointer (some ⟨bs, 0, none⟩)] w fun e w' => WAnyX K B b d pS lx (tw ps[i] l[i]) w e w' := by
  obtain ⟨op', n', s', es, oo, cc, zs, e, x0, x1, x2, x3, t1, t2⟩ := h2.at hi
  obtain ⟨p, f, rfl, _, g⟩ := row_get h1 (by have := h1.1; omega)
  have x0 := g _ _ x0
  have x1 := g _ _ x1
  have x2 := g _ _ x2
  have x3 := g _ _ x3
  rw [← Nat.add_assoc] at x1 x2 x3
  have hsz := size_part hi e
  have i0 : (0 : Int) ≤ (i : Int) := by omega
  have i1 : (i : Int) < (l.length : Int) := by omega
  have i2 : (i : Int) < (ps.length : Int) := by omega
  have y1 := (tblk1 r1).1
  have y2 := (blk4 r2).2.2.2.1
  have y3 := (blk2 r3).2.1
  have y4 : w.cell? ⟨q, i, none⟩ = some (.int .i64 (ps[i] : Nat)) := by
    rw [cell_of_row w q i _ _ _ r4]; simpa using intCells_at hp
  have Hr : Hid (Calls Tryz.prog 185 #[.pointer (some ⟨b, 0, none⟩), .agg #[.string op', .int .i64 n', .string s', .slice oo es.length cc], .int .i64 (ps[i] : Nat)] w.drew fun e w' => WAnyX K B b d pS lx (tw ps[i] l[i]) w.drew e w') := e ▸ IH op' n' s' es (by omega) lx w.drew d oo cc zs ps[i] hd (fun hh => hK (by have := dpt_part l i hi; rw [e] at this; omega)) ⟨h.wt, h.len, h.err, h.low, h.tab, h.low2⟩ t1 (t2.keep (Stays.below (Below.drew (Below.refl _ _)) (fun _ hk => hk)))
  clear g r1 r2 r3 r4 h1 h2 IH t1 t2
  go_enter Tryz.func228, Tryz.ntmps228
  go_wp2
  go_region_law (refine step_call rfl 185 #[.pointer (some ⟨b, 0, none⟩), .agg #[.string op', .int .i64 n', .string s', .slice oo es.length cc], .int .i64 (ps[i] : Nat)] (by kernel_rfl) ?_; refine Hr.out.mono ?_; rintro e w4 ⟨b4, k4, h4⟩; rcases h4 with ⟨l4, rfl, h4, g4, hq⟩ | ⟨ht, hr⟩; rotate_left; (unfold WThrew at ht; subst ht; exact ⟨rfl, Below.trans (Below.drew (Below.refl B w)) b4, k4, Or.inr ⟨rfl, hr⟩⟩); dsimp only)
  all_goals
    go_wp2
    go_end0
    exact ⟨Below.trans (Below.drew (Below.refl B w)) b4, k4, Or.inl ⟨l4, rfl, h4, g4, hq⟩⟩
set_option maxRecDepth 100000 in
set_option maxHeartbeats 1000000 in
theorem wneg_x (K : Prop) (B b : Nat) (pS : Addr) (m : Nat) (IH : TermX K B b pS m) (op : ByteArray) (n : Int) (s : ByteArray) (l : List Ex) (hm : SizeOf.sizeOf l < m) (lx : List UInt8) (w : World) (d : Nat) (o : Option Addr) (c : Nat) (ys : List Value) (least : Nat) (hd : d ≤ 6000) (hK : 6000 < d + dpt (.mk op n s l) → K) (h : WStX B b d pS lx w) (h1 : RowAt w (fun k => k < B) 4 (.slice o l.length c) l.length ys) (h2 : ExIn w (fun k => k < B) l ys) :
    Calls Tryz.prog 230 #[.pointer (some ⟨b, 0, none⟩), .agg #[.string op, .int .i64 n, .string s, .slice o l.length c], .int .i64 least] w fun e w' => WAnyX K B b d pS lx (catX (some [45]) (tw (if op.toList = [110, 101, 103] then 8 else least) (.mk op n s l))) w e w' := by
  have hlt := h.lt
  have hle := h.le
  have bz : Below B w (w.alloc (teObj op n s (.slice o l.length c))) := (Below.refl _ _).alloc (by omega) _
  have HE : Hid _ := heap_alloc_new w (teObj op n s (.slice o l.length c))
  have s0 := h.alloc (teObj op n s (.slice o l.length c))
  have HT : Hid (∀ (lx' : List UInt8) (w' : World) (least' : Nat), Below B w w' → WStX B b d pS lx' w' → Calls Tryz.prog 185 #[.pointer (some ⟨b, 0, none⟩), .agg #[.string op, .int .i64 n, .string s, .slice o l.length c], .int .i64 least'] w' fun e w'' => WAnyX K B b d pS lx' (tw least' (.mk op n s l)) w' e w'') := fun lx' w' least' hb hw => IH op n s l hm lx' w' d o c ys least' hd hK hw (below_row h1 hb) (below_ex h2 hb)
  clear IH h1 h2
  by_cases hn : (op.toList == [110, 101, 103]) = true
  all_goals
    first | (have hn' : (op.toList == [110, 101, 103]) = true := hn; rw [if_pos (by simpa using hn)]; clear hn) | (have hn' : (op.toList == [110, 101, 103]) = false := (by simpa using hn); rw [if_neg (by simpa using hn)]; clear hn)
    go_enter Tryz.func230, Tryz.ntmps230
    go_wp2_with fail
    refine (put_newX K B b d pS _ _ [⟨#[45]⟩] [45] rfl _ 1 (by simp) rfl s0 (by decide) _ rfl).mono ?_
    rintro e w1 ⟨b1, k1, ⟨l1, rfl, h1, g1, y1, q1, rfl⟩ | ⟨ht, hr⟩⟩
    · have s1 := s0.next b1 h1 g1
      have HE1 : Hid _ := kept_row k1 HE.out (by omega) (by intro c fz e; injection e with _ e; exact absurd e (by decide))
      obtain ⟨y0, y1, y2, y3, _⟩ := blk4 HE1.out
      go_wp2_with fail
      refine (HT.out _ _ _ (bz.trans b1) s1).mono ?_
      rintro e w2 ⟨b2, k2, ⟨l2, rfl, h2, g2, hq⟩ | ⟨ht, hr⟩⟩
      · go_wp2
        go_end0
        exact ⟨(bz.trans b1).trans b2, ((Kept.alloc b w _).trans k1).trans k2, Or.inl ⟨l2, rfl, h2, g2, hq.lift q1⟩⟩
      · unfold WThrew at ht
        subst ht
        go_wp2
        exact ⟨rfl, (bz.trans b1).trans b2, ((Kept.alloc b w _).trans k1).trans k2, Or.inr ⟨rfl, hr.lift q1⟩⟩
    · unfold WThrew at ht
      subst ht
      go_wp2
      exact ⟨rfl, bz.trans b1, (Kept.alloc b w _).trans k1, Or.inr ⟨rfl, hr.more _⟩⟩
set_option maxRecDepth 100000 in
set_option maxHeartbeats 1000000 in
theorem wcall_x (K : Prop) (B b : Nat) (pS : Addr) (m : Nat) (IH : TermX K B b pS m) (op : ByteArray) (n : Int) (s : ByteArray) (l : List Ex) (hm : SizeOf.sizeOf l < m + 1) (lx : List UInt8) (w : World) (d : Nat) (o : Option Addr) (c : Nat) (ys : List Value) (hd : d ≤ 6000) (hK : 6000 < d + dptL l → K) (h : WStX B b d pS lx w) (h1 : RowAt w (fun k => k < B) 4 (.slice o l.length c) l.length ys) (h2 : ExIn w (fun k => k < B) l ys) :
    Calls Tryz.prog 229 #[.pointer (some ⟨b, 0, none⟩), .agg #[.string op, .int .i64 n, .string s, .slice o l.length c]] w fun e w' => WAnyX K B b d pS lx (catX (some (s.data.toList ++ [40])) (catX (lstX (fun i a => catX (sepX [44, 32] i) (tw 0 a)) 0 l) (some [41]))) w e w' := by
  have hl := h1.len
  unfold maxLen at hl
  have hlt := h.lt
  have hle := h.le
  have bz : Below B w (w.alloc (teObj op n s (.slice o l.length c))) := (Below.refl _ _).alloc (by omega) _
  have HE : Hid _ := heap_alloc_new w (teObj op n s (.slice o l.length c))
  have s0 := h.alloc (teObj op n s (.slice o l.length c))
  have H1 : Hid (RowAt w (fun k => k < B) 4 (.slice o l.length c) l.length ys) := h1
  have H2 : Hid (ExIn w (fun k => k < B) l ys) := h2
  have HI : Hid (TermX K B b pS m) := IH
  clear IH h1 h2
  go_enter Tryz.func229, Tryz.ntmps229
  go_wp2_with fail
  refine (put_newX K B b d pS _ _ [s, ⟨#[40]⟩] (s.data.toList ++ [40]) (by simp [flat]) _ 2 (by simp) rfl s0 (by decide) _ rfl).mono ?_
  rintro e w1 ⟨b1, k1, ⟨l1, rfl, h1, g1, y0, q0, rfl⟩ | ⟨ht, hr⟩⟩
  · have s1 := s0.next b1 h1 g1
    have HE1 : Hid _ := kept_row k1 HE.out (by omega) (by intro c fz e; injection e with _ e; exact absurd e (by decide))
    obtain ⟨z0, z1, z2, z3, _⟩ := blk4 HE1.out
    have bb1 := bz.trans b1
    have kk1 := (Kept.alloc b w (teObj op n s (.slice o l.length c))).trans k1
    clear h1 k1 b1
    go_wp2
    go_loopw [14] (fun t wr => ∃ i : Nat, i ≤ l.length ∧ t = .int .i64 i ∧ (∃ x, WStX B b d pS (lx ++ y0 ++ x) wr ∧ lstX (fun i a => catX (sepX [44, 32] i) (tw 0 a)) 0 l = catX (some x) (lstX (fun i a => catX (sepX [44, 32] i) (tw 0 a)) i (l.drop i))) ∧ Below B w wr ∧ Kept b w wr) (fun t _ => l.length - (intOf t).toNat)
    case atStart => exact ⟨0, Nat.zero_le _, rfl, ⟨[], by rw [List.append_nil]; exact s1, by rw [catX_nil]; rfl⟩, bb1, kk1⟩
    case round =>
      clear s1 bb1 kk1 z0 z1 z2 z3
      obtain ⟨i, hi, rfl, ⟨x, hw, hx0⟩, hb, hk⟩ := hrel
      have HX : Hid (lstX (fun i a => catX (sepX [44, 32] i) (tw 0 a)) 0 l = catX (some x) (lstX (fun i a => catX (sepX [44, 32] i) (tw 0 a)) i (l.drop i))) := hx0
      clear hx0
      by_cases hlt : i < l.length
      · obtain ⟨op', n', s', es, oo, cc, zs, e, x0, x1, x2, x3, t1, t2⟩ := H2.out.at hlt
        have hrr := below_row H1.out hb
        obtain ⟨q, off, rfl, _, g⟩ := row_get hrr (by have := hrr.1; omega)
        have x0 := g _ _ x0
        have x1 := g _ _ x1
        have x2 := g _ _ x2
        have x3 := g _ _ x3
        rw [← Nat.add_assoc] at x1 x2 x3
        have i0 : (0 : Int) ≤ (i : Int) := by omega
        have i1 : (i : Int) < (l.length : Int) := by omega
        have hsz := size_part hlt e
        have hwl := hw.lt
        have sA := hw.alloc (teObj op' n' s' (.slice oo es.length cc))
        have HN : Hid _ := heap_alloc_new wr (teObj op' n' s' (.slice oo es.length cc))
        have bA : Below B wr (wr.alloc (teObj op' n' s' (.slice oo es.length cc))) := (Below.refl _ _).alloc (by omega) _
        have hdp := dpt_part l i hlt
        rw [e] at hdp
        have HT : Hid (∀ (lx' : List UInt8) (w' : World), Below B w w' → WStX B b d pS lx' w' → Calls Tryz.prog 185 #[.pointer (some ⟨b, 0, none⟩), .agg #[.string op', .int .i64 n', .string s', .slice oo es.length cc], .int .i64 0] w' fun e w'' => WAnyX K B b d pS lx' (tw 0 l[i]) w' e w'') := e ▸ fun lx' w' hb hw => HI.out op' n' s' es (by omega) lx' w' d oo cc zs 0 hd (fun hh => hK (by omega)) hw (below_row t1 hb) (below_ex t2 hb)
        clear hrr g t1 t2 hsz hdp
        go_wp2_with fail
        refine (between_x K B b d pS _ _ i _ sA).mono ?_
        rintro e w2 ⟨b2, k2, ⟨l2, rfl, h2, g2, y2, q2, rfl⟩ | ⟨ht, hr⟩⟩
        · have s2 := sA.next b2 h2 g2
          have HN2 : Hid _ := kept_row k2 HN.out (by omega) (by intro c fz e; injection e with _ e; exact absurd e (by decide))
          obtain ⟨z0, z1, z2, z3, _⟩ := blk4 HN2.out
          go_wp2_with fail
          refine (HT.out _ _ ((hb.trans bA).trans b2) s2).mono ?_
          rintro e w3 ⟨b3, k3, ⟨l3, rfl, h3, g3, y3, q3, rfl⟩ | ⟨ht, hr⟩⟩
          · go_wp2
            exact ⟨⟨i + 1, by omega, by go_num, ⟨x ++ (y2 ++ y3), by have := s2.next b3 h3 g3; simpa only [List.append_assoc] using this, lst_next hlt HX.out (show catX (sepX [44, 32] i) (tw 0 l[i]) = some (y2 ++ y3) from by rw [show sepX [44, 32] i = some y2 from q2, q3]; rfl)⟩, ((hb.trans bA).trans b2).trans b3, ((hk.trans (Kept.alloc b wr _)).trans k2).trans k3⟩, by simp [intOf]; omega⟩
          · unfold WThrew at ht
            subst ht
            go_wp2
            exact ⟨rfl, ((hb.trans bA).trans b2).trans b3, ((hk.trans (Kept.alloc b wr _)).trans k2).trans k3, Or.inr ⟨rfl, ((lst_rsn hlt HX.out (hr.lift q2)).more _).lift q0⟩⟩
        · unfold WThrew at ht
          subst ht
          go_wp2
          exact ⟨rfl, (hb.trans bA).trans b2, (hk.trans (Kept.alloc b wr _)).trans k2, Or.inr ⟨rfl, ((lst_rsn hlt HX.out (hr.more _)).more _).lift q0⟩⟩
      · go_wp2_with fail
        refine (put_newX K B b d pS _ _ [⟨#[41]⟩] [41] rfl _ 1 (by simp) rfl hw (by decide) _ rfl).mono ?_
        rintro e w2 ⟨b2, k2, ⟨l2, rfl, h2, g2, y2, q2, rfl⟩ | ⟨ht, hr⟩⟩
        · go_wp2
          go_end0
          exact ⟨hb.trans b2, hk.trans k2, Or.inl ⟨_, rfl, h2, g2, (Ok.lift (Ok.this q2) (lst_done (by omega) HX.out)).lift q0⟩⟩
        · unfold WThrew at ht
          subst ht
          go_wp2
          exact ⟨rfl, hb.trans b2, hk.trans k2, Or.inr ⟨rfl, (Rsn.lift hr (lst_done (by omega) HX.out)).lift q0⟩⟩
  · unfold WThrew at ht
    subst ht
    go_wp2
    exact ⟨rfl, bz.trans b1, (Kept.alloc b w _).trans k1, Or.inr ⟨rfl, hr.more _⟩⟩
end Go.Proofs.YtglkpgcmlbhkpabGreatDoor
