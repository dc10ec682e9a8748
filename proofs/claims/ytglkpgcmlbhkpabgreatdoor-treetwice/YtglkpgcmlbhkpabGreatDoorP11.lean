/-
  package tree's READER OF TERMS: fromLeft, prefix BY THEIR CONTRACTS.
-/
import Derived.Test.YtglkpgcmlbhkpabGreatDoorP10
namespace Go.Proofs.YtglkpgcmlbhkpabGreatDoor
open Go.RowKit
attribute [local go_sem ↓] Go.wp_at_zero Go.wp_at_succ

/-- What a method that reads answers. -/
def Ret (C : Rc) (c : Cd) (i d : Nat) (w : World) (V : World → List Ex → Value → Prop) (e : Ending) (w' : World) : Prop :=
  Mv C.b w w' ∧ ((∃ es j v, Parse C.l c i d (.ok es j) ∧ e = .returned v ∧ V w' es v ∧ Rd C j d w' ∧ i < j) ∨ (∃ j bd, Parse C.l c i d (.bad j bd) ∧ Threw C j bd e w'))
def TermV (base : Nat) (w' : World) (es : List Ex) (v : Value) : Prop := ∃ ex, es = [ex] ∧ ExV w' (From base) ex v
/-- A method reads this, where at most n tokens are left. -/
def Fits (f : FuncId) (c : Cd) (n : Nat) : Prop := ∀ (C : Rc) (i d : Nat) (w : World), Tkl C.l → Rd C i d w → C.l.length - i ≤ n → Calls Tryz.prog f #[.pointer (some ⟨C.b, 0, none⟩)] w (Ret C c i d w (TermV w.heap.size))

theorem Stays.mv {S S' : Nat → Prop} {b : Nat} {w w' : World} (h : Mv b w w') (hs : ∀ k, S k → k ≠ b ∧ S' k) : Stays S S' w w' := fun k hk hl => ⟨(hs k hk).2, h.block k hl (by intro e; injection e with e; exact (hs k hk).1 e)⟩
theorem Stays.below {S S' : Nat → Prop} {w w' : World} (h : Below w.heap.size w w') (hs : ∀ k, S k → S' k) : Stays S S' w w' := fun k hk hl => ⟨hs k hk, h.block k hl⟩
theorem Stays.alloc {S S' : Nat → Prop} {w : World} (o : Obj) (hs : ∀ k, S k → S' k) : Stays S S' w (w.alloc o) := Stays.below ((Below.refl _ _).alloc (Nat.le_refl _) _) hs
theorem Stays.set {S S' : Nat → Prop} {w : World} {p : Addr} (v : Value) (hs : ∀ k, S k → k ≠ p.block ∧ S' k) : Stays S S' w (w.setCell p v) := fun k hk _ => ⟨(hs k hk).2, Below.heap_setCell _ _ _ _ (hs k hk).1⟩

theorem blk4 {w : World} {b : Nat} {x y z u : Value} {t : TypeId} (h : w.heap[b]? = some (.cells #[x, y, z, u] t (0, 0))) : w.cell? ⟨b, 0, none⟩ = some x ∧ w.cell? ⟨b, 1, none⟩ = some y ∧ w.cell? ⟨b, 2, none⟩ = some z ∧ w.cell? ⟨b, 3, none⟩ = some u ∧ ∀ k, w.frozen? ⟨b, k, none⟩ = false :=
  ⟨by simp [World.cell?, h], by simp [World.cell?, h], by simp [World.cell?, h], by simp [World.cell?, h], fun k => by simp [World.frozen?, h]⟩
theorem Mv.row {b k : Nat} {w w' : World} {o : Obj} (h : Mv b w w') (hn : k ≠ b) (hr : w.heap[k]? = some o) : w'.heap[k]? = some o := by
  rw [h.block k (Array.getElem?_eq_some_iff.1 hr).1 (by intro e; injection e with e; exact hn e)]; exact hr
theorem alloc_row {k : Nat} {w : World} {o : Obj} (o' : Obj) (hr : w.heap[k]? = some o) : (w.alloc o').heap[k]? = some o := by
  rw [heap_alloc_old (h := (Array.getElem?_eq_some_iff.1 hr).1)]; exact hr

/-- Four cells of a block, written one behind the other. -/
def set4 (w : World) (N : Nat) (a b c e : Value) : World := (((w.setCell ⟨N, 0, none⟩ a).setCell ⟨N, 1, none⟩ b).setCell ⟨N, 2, none⟩ c).setCell ⟨N, 3, none⟩ e
section
variable {w : World} {N : Nat} {a b c e : Value}
theorem set4_block {k : Nat} (h : k ≠ N) : (set4 w N a b c e).heap[k]? = w.heap[k]? := by
  unfold set4
  rw [Below.heap_setCell _ _ _ _ h, Below.heap_setCell _ _ _ _ h, Below.heap_setCell _ _ _ _ h, Below.heap_setCell _ _ _ _ h]
theorem set4_size : (set4 w N a b c e).heap.size = w.heap.size := by simp [set4, World.setCell]
theorem set4_below {H : Nat} (h : H ≤ N) : Below H w (set4 w N a b c e) := ⟨rfl, rfl, rfl, by rw [set4_size]; exact Nat.le_refl _, fun k hk => set4_block (by omega)⟩
theorem set4_stays {S S' : Nat → Prop} (hs : ∀ k, S k → k ≠ N ∧ S' k) : Stays S S' w (set4 w N a b c e) := fun k hk _ => ⟨(hs k hk).2, set4_block (hs k hk).1⟩
end
theorem Stays.trans {S S' S'' : Nat → Prop} {a b c : World} (h : Stays S S' a b) (g : Stays S' S'' b c) (hs : a.heap.size ≤ b.heap.size) : Stays S S'' a c := fun k hk hl => by
  have h1 := h k hk hl
  have h2 := g k h1.1 (by omega)
  exact ⟨h2.1, h2.2.trans h1.2⟩
theorem RowAt.blk {w : World} {S : Nat → Prop} {size n g c : Nat} {cur : Array Value} {t : TypeId} {xs : List Value} (h : w.heap[g]? = some (.cells cur t (0, 0))) (hx : cur.toList = xs) (hl : xs.length = n * size) (hn : n ≤ maxLen) (hS : S g) : RowAt w S size (.slice (some ⟨g, 0, none⟩) n c) n xs := by
  refine ⟨hl, hn, _, c, rfl, fun k x hk => ⟨g, 0, rfl, hS, ?_⟩⟩
  rw [Nat.zero_add, cell_of_row w g k cur t (0, 0) h]
  rw [← hx] at hk; simpa using hk
theorem Mv.upon {b : Nat} {w w1 w2 : World} (h : Mv b w w1) (g : Below w.heap.size w1 w2) : Mv b w w2 :=
  ⟨g.os.trans h.os, g.tape.trans h.tape, g.output.trans h.output, Nat.le_trans h.size g.size, fun k hk hn => (g.block k hk).trans (h.block k hk hn)⟩
theorem Rd.upon {C : Rc} {i d j e : Nat} {w w1 w2 : World} (R : Rd C i d w) (R1 : Rd C j e w1) (g : Below w.heap.size w1 w2) : Rd C j e w2 := by
  have f : ∀ {p : Addr} {v : Value}, p.block < w.heap.size → w1.cell? p = some v → w2.cell? p = some v := fun {p} {v} hp hc => by
    rw [World.cell?_of_block (w := w1) (g.block p.block hp)]; exact hc
  have hb := R.blt
  have hg : C.g < w.heap.size := lt_of_cell (R.row i R.lt).1
  refine ⟨f hb R1.c0, f hb R1.c1, f hb R1.c2, fun k => ?_, fun k hk => ⟨f hg (R1.row k hk).1, f hg (R1.row k hk).2.1, f hg (R1.row k hk).2.2⟩, R1.ne, R1.lt, R1.len, R1.dp, f (lt_of_cell R.hT) R1.hT, f (lt_of_cell R.hB) R1.hB, R1.nT, R1.nB⟩
  rw [World.frozen?_of_block (w := w1) (g.block C.b hb)]; exact R1.fz k

set_option maxRecDepth 100000 in
set_option maxHeartbeats 400000 in
theorem prefix_not (n : Nat) (hK : Fits 242 .not n) (C : Rc) (i d : Nat) (w : World) (T : Tkl C.l) (R : Rd C i d w) (hi : i + 1 < C.l.length) (hn : C.l.length - (i + 1) ≤ n) (o : ByteArray) :
    Calls Tryz.prog 246 #[.pointer (some ⟨C.b, 0, none⟩), .string o, .func (.func 242) #[.pointer (some ⟨C.b, 0, none⟩)] #[]] w fun e w' => Mv C.b w w' ∧
      ((d = 20 ∧ Threw C i true e w') ∨ (d ≠ 20 ∧ ∃ ex j v, Parse C.l .not (i + 1) (d + 1) (.ok [ex] j) ∧ e = .returned v ∧ ExV w' (From w.heap.size) (.mk o 0 b0 [ex]) v ∧ Rd C j d w' ∧ i < j) ∨ (d ≠ 20 ∧ ∃ j bd, Parse C.l .not (i + 1) (d + 1) (.bad j bd) ∧ Threw C j bd e w')) := by
  have HK : Hid (Fits 242 .not n) := hK
  clear hK
  have hbA : Below w.heap.size w (w.alloc (.cells #[.string ⟨#[]⟩, .int .i64 0, .string ⟨#[]⟩, .slice none 0 0] 62)) := (Below.refl _ _).alloc (Nat.le_refl _) _
  have hbl := R.blt
  go_enter Tryz.func246, Tryz.ntmps246
  go_wp2_with fail
  refine (enter_any C i d _ (R.below hbA) hi).mono ?_
  rintro e w1 ⟨hm1, h1⟩
  rcases h1 with ⟨hd, rfl, R1⟩ | ⟨hd, hj, p, rfl, q0, q1⟩
  · have hs1 := hm1.size
    simp only [World.size_alloc] at hs1
    have hr1 := hm1.row (k := w.heap.size) (by omega) (heap_alloc_new w _)
    have HR1 : Hid _ := hr1
    clear hr1
    go_wp2_with fail
    refine (HK.out C (i + 1) (d + 1) _ T R1 hn).mono ?_
    rintro e w2 ⟨hm2, h2⟩
    rcases h2 with ⟨es, j, v, hp, rfl, ⟨ex, rfl, hv⟩, R2, hij⟩ | ⟨j, bd, hp, hj, p, rfl, q0, q1⟩
    · obtain ⟨op, x, s, l, so, sc, ys, rfl, rfl, hrow, hin⟩ := hv.one
      have hs2 := hm2.size
      have hr2 := alloc_row (.cells #[.string op, .int .i64 x, .string s, .slice so l.length sc] 62) (hm2.row (by omega) HR1.out)
      have hn2 := heap_alloc_new w2 (.cells #[.string op, .int .i64 x, .string s, .slice so l.length sc] 62)
      have HR2 : Hid _ := hr2
      have HN2 : Hid _ := hn2
      have hbB : Below w2.heap.size w2 (w2.alloc (.cells #[.string op, .int .i64 x, .string s, .slice so l.length sc] 62)) := (Below.refl _ _).alloc (Nat.le_refl _) _
      clear hr2 hn2
      go_wp2_with fail
      refine (leave_any C j d _ (R2.below hbB)).mono ?_
      rintro e w3 ⟨rfl, R3, hm3⟩
      have hs3 := hm3.size
      simp only [World.size_alloc] at hs3
      have hlt3 : w.heap.size < w3.heap.size := by omega
      have hne3 : w.heap.size ≠ w3.heap.size := by omega
      obtain ⟨c0, c1, c2, c3, _⟩ := blk4 (hm3.row (by omega) HN2.out)
      obtain ⟨z0, z1, z2, z3, zf⟩ := blk4 (hm3.row (by omega) HR2.out)
      go_wp2
      have hW : Below w.heap.size w3 ((set4 w3 w.heap.size (.string o) (.int .i64 0) (.string ⟨#[]⟩) (.slice (some ⟨w3.heap.size, 0, none⟩) 1 1)).alloc (.cells #[.string op, .int .i64 x, .string s, .slice so l.length sc] 62)) := (set4_below (Nat.le_refl _)).alloc (by rw [set4_size]; omega) _
      have hM : Mv C.b w w3 := (((Mv.of_below hbA).trans hm1).trans (hm2.trans (Mv.of_below hbB))).trans hm3
      have St : Stays (From w1.heap.size) (From w.heap.size) w2 ((set4 w3 w.heap.size (.string o) (.int .i64 0) (.string ⟨#[]⟩) (.slice (some ⟨w3.heap.size, 0, none⟩) 1 1)).alloc (.cells #[.string op, .int .i64 x, .string s, .slice so l.length sc] 62)) :=
        (((Stays.alloc _ (fun k hk => hk)).trans (Stays.mv (S' := From w1.heap.size) hm3 (fun k hk => ⟨by unfold From at hk; omega, hk⟩)) (by simp)).trans (set4_stays (S' := From w.heap.size) (fun k hk => by unfold From at *; omega)) (by omega)).trans (Stays.alloc _ (fun k hk => hk)) (by rw [set4_size]; omega)
      refine bodyPost_ret (v := .agg #[.string o, .int .i64 0, .string ⟨#[]⟩, .slice (some ⟨w3.heap.size, 0, none⟩) 1 1]) (by simp [results, Tryz.results246, go_sem, z0, z1, z2, z3, hlt3]) rfl ⟨hM.upon hW, Or.inr (Or.inl ⟨hd, _, j, _, hp, rfl, ?_, R.upon R3 hW, by omega⟩)⟩
      have hnew : ((set4 w3 w.heap.size (.string o) (.int .i64 0) (.string ⟨#[]⟩) (.slice (some ⟨w3.heap.size, 0, none⟩) 1 1)).alloc (.cells #[.string op, .int .i64 x, .string s, .slice so l.length sc] 62)).heap[w3.heap.size]? = some (.cells #[.string op, .int .i64 x, .string s, .slice so l.length sc] 62 (0, 0)) := by
        have := heap_alloc_new (set4 w3 w.heap.size (.string o) (.int .i64 0) (.string ⟨#[]⟩) (.slice (some ⟨w3.heap.size, 0, none⟩) 1 1)) (.cells #[.string op, .int .i64 x, .string s, .slice so l.length sc] 62)
        rw [set4_size] at this; exact this
      exact .mk (l := [.mk op x s l]) (RowAt.blk hnew rfl rfl (by unfold maxLen; decide) (by unfold From; omega)) (.cons op x s l [] _ ys [] (hrow.keep St) (hin.keep St) .nil)
    · go_wp2
      exact ⟨rfl, ((Mv.of_below hbA).trans hm1).trans hm2, Or.inr (Or.inr ⟨hd, j, bd, hp, hj, p, rfl, q0, q1⟩)⟩
  · go_wp2
    exact ⟨rfl, (Mv.of_below hbA).trans hm1, Or.inl ⟨hd, hj, p, rfl, q0, q1⟩⟩

set_option maxRecDepth 100000 in
set_option maxHeartbeats 400000 in
theorem prefix_un (n : Nat) (hK : Fits 261 .un n) (C : Rc) (i d : Nat) (w : World) (T : Tkl C.l) (R : Rd C i d w) (hi : i + 1 < C.l.length) (hn : C.l.length - (i + 1) ≤ n) (o : ByteArray) :
    Calls Tryz.prog 246 #[.pointer (some ⟨C.b, 0, none⟩), .string o, .func (.func 261) #[.pointer (some ⟨C.b, 0, none⟩)] #[]] w fun e w' => Mv C.b w w' ∧
      ((d = 20 ∧ Threw C i true e w') ∨ (d ≠ 20 ∧ ∃ ex j v, Parse C.l .un (i + 1) (d + 1) (.ok [ex] j) ∧ e = .returned v ∧ ExV w' (From w.heap.size) (.mk o 0 b0 [ex]) v ∧ Rd C j d w' ∧ i < j) ∨ (d ≠ 20 ∧ ∃ j bd, Parse C.l .un (i + 1) (d + 1) (.bad j bd) ∧ Threw C j bd e w')) := by
  have HK : Hid (Fits 261 .un n) := hK
  clear hK
  have hbA : Below w.heap.size w (w.alloc (.cells #[.string ⟨#[]⟩, .int .i64 0, .string ⟨#[]⟩, .slice none 0 0] 62)) := (Below.refl _ _).alloc (Nat.le_refl _) _
  have hbl := R.blt
  go_enter Tryz.func246, Tryz.ntmps246
  go_wp2_with fail
  refine (enter_any C i d _ (R.below hbA) hi).mono ?_
  rintro e w1 ⟨hm1, h1⟩
  rcases h1 with ⟨hd, rfl, R1⟩ | ⟨hd, hj, p, rfl, q0, q1⟩
  · have hs1 := hm1.size
    simp only [World.size_alloc] at hs1
    have hr1 := hm1.row (k := w.heap.size) (by omega) (heap_alloc_new w _)
    have HR1 : Hid _ := hr1
    clear hr1
    go_wp2_with fail
    refine (HK.out C (i + 1) (d + 1) _ T R1 hn).mono ?_
    rintro e w2 ⟨hm2, h2⟩
    rcases h2 with ⟨es, j, v, hp, rfl, ⟨ex, rfl, hv⟩, R2, hij⟩ | ⟨j, bd, hp, hj, p, rfl, q0, q1⟩
    · obtain ⟨op, x, s, l, so, sc, ys, rfl, rfl, hrow, hin⟩ := hv.one
      have hs2 := hm2.size
      have hr2 := alloc_row (.cells #[.string op, .int .i64 x, .string s, .slice so l.length sc] 62) (hm2.row (by omega) HR1.out)
      have hn2 := heap_alloc_new w2 (.cells #[.string op, .int .i64 x, .string s, .slice so l.length sc] 62)
      have HR2 : Hid _ := hr2
      have HN2 : Hid _ := hn2
      have hbB : Below w2.heap.size w2 (w2.alloc (.cells #[.string op, .int .i64 x, .string s, .slice so l.length sc] 62)) := (Below.refl _ _).alloc (Nat.le_refl _) _
      clear hr2 hn2
      go_wp2_with fail
      refine (leave_any C j d _ (R2.below hbB)).mono ?_
      rintro e w3 ⟨rfl, R3, hm3⟩
      have hs3 := hm3.size
      simp only [World.size_alloc] at hs3
      have hlt3 : w.heap.size < w3.heap.size := by omega
      have hne3 : w.heap.size ≠ w3.heap.size := by omega
      obtain ⟨c0, c1, c2, c3, _⟩ := blk4 (hm3.row (by omega) HN2.out)
      obtain ⟨z0, z1, z2, z3, zf⟩ := blk4 (hm3.row (by omega) HR2.out)
      go_wp2
      have hW : Below w.heap.size w3 ((set4 w3 w.heap.size (.string o) (.int .i64 0) (.string ⟨#[]⟩) (.slice (some ⟨w3.heap.size, 0, none⟩) 1 1)).alloc (.cells #[.string op, .int .i64 x, .string s, .slice so l.length sc] 62)) := (set4_below (Nat.le_refl _)).alloc (by rw [set4_size]; omega) _
      have hM : Mv C.b w w3 := (((Mv.of_below hbA).trans hm1).trans (hm2.trans (Mv.of_below hbB))).trans hm3
      have St : Stays (From w1.heap.size) (From w.heap.size) w2 ((set4 w3 w.heap.size (.string o) (.int .i64 0) (.string ⟨#[]⟩) (.slice (some ⟨w3.heap.size, 0, none⟩) 1 1)).alloc (.cells #[.string op, .int .i64 x, .string s, .slice so l.length sc] 62)) :=
        (((Stays.alloc _ (fun k hk => hk)).trans (Stays.mv (S' := From w1.heap.size) hm3 (fun k hk => ⟨by unfold From at hk; omega, hk⟩)) (by simp)).trans (set4_stays (S' := From w.heap.size) (fun k hk => by unfold From at *; omega)) (by omega)).trans (Stays.alloc _ (fun k hk => hk)) (by rw [set4_size]; omega)
      refine bodyPost_ret (v := .agg #[.string o, .int .i64 0, .string ⟨#[]⟩, .slice (some ⟨w3.heap.size, 0, none⟩) 1 1]) (by simp [results, Tryz.results246, go_sem, z0, z1, z2, z3, hlt3]) rfl ⟨hM.upon hW, Or.inr (Or.inl ⟨hd, _, j, _, hp, rfl, ?_, R.upon R3 hW, by omega⟩)⟩
      have hnew : ((set4 w3 w.heap.size (.string o) (.int .i64 0) (.string ⟨#[]⟩) (.slice (some ⟨w3.heap.size, 0, none⟩) 1 1)).alloc (.cells #[.string op, .int .i64 x, .string s, .slice so l.length sc] 62)).heap[w3.heap.size]? = some (.cells #[.string op, .int .i64 x, .string s, .slice so l.length sc] 62 (0, 0)) := by
        have := heap_alloc_new (set4 w3 w.heap.size (.string o) (.int .i64 0) (.string ⟨#[]⟩) (.slice (some ⟨w3.heap.size, 0, none⟩) 1 1)) (.cells #[.string op, .int .i64 x, .string s, .slice so l.length sc] 62)
        rw [set4_size] at this; exact this
      exact .mk (l := [.mk op x s l]) (RowAt.blk hnew rfl rfl (by unfold maxLen; decide) (by unfold From; omega)) (.cons op x s l [] _ ys [] (hrow.keep St) (hin.keep St) .nil)
    · go_wp2
      exact ⟨rfl, ((Mv.of_below hbA).trans hm1).trans hm2, Or.inr (Or.inr ⟨hd, j, bd, hp, hj, p, rfl, q0, q1⟩)⟩
  · go_wp2
    exact ⟨rfl, (Mv.of_below hbA).trans hm1, Or.inl ⟨hd, hj, p, rfl, q0, q1⟩⟩

end Go.Proofs.YtglkpgcmlbhkpabGreatDoor
