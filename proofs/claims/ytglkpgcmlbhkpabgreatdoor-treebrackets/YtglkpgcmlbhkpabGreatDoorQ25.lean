/-
  lustrumlaw1.backNodes BY ITS CONTRACT: the same in new memory.
-/
import Derived.Test.YtglkpgcmlbhkpabGreatDoorQ23
import Derived.Test.YtglkpgcmlbhkpabGreatDoorQ24
import Derived.Deep.RegionHeld3
import Derived.Deep.Cut
import Derived.Deep.CutRange
import Derived.Deep.DeepCutAuto
namespace Go.Proofs.YtglkpgcmlbhkpabGreatDoor
open Go.RowKit
attribute [local go_sem ↓] Go.wp_at_zero Go.wp_at_succ

abbrev rzNode : Obj := .cells #[.string ⟨#[]⟩, .slice none 0 0, .slice none 0 0, .slice none 0 0, .slice none 0 0] 48
theorem below_cell' {w w' : World} (h : Below w.heap.size w w') {p : Addr} {v : Value} (hc : w.cell? p = some v) : w'.cell? p = some v := cell_keep h hc
theorem ownsRow_same {base : Nat} {w w' : World} {e : TypeId} {size : Nat} {v : Value} {n : Nat} {xs : List Value} (h : w.ownsRow base e size v n xs) (hb : Below w.heap.size w w') : w'.ownsRow base e size v n xs :=
  h.kept (row := none) ⟨hb.os, hb.tape, hb.output, hb.size, fun k hk _ => hb.block k hk⟩ (by cases hv : v.ownBlock with | none => exact Or.inl rfl | some k => exact Or.inr (by simp))
theorem drew_new (w : World) (o : Obj) : ((w.alloc o).drew).heap[w.heap.size]? = some o := heap_alloc_new w o
theorem below_set5 {n N : Nat} {w w' : World} {a b c d e : Value} (h : Below n w w') (hn : n ≤ N) : Below n w (((((w'.setCell ⟨N, 0, none⟩ a).setCell ⟨N, 1, none⟩ b).setCell ⟨N, 2, none⟩ c).setCell ⟨N, 3, none⟩ d).setCell ⟨N, 4, none⟩ e) :=
  ((((h.setCell hn _).setCell hn _).setCell hn _).setCell hn _).setCell hn _
theorem grow_g0 {wr v1 w5 : World} {u : Value} {EO : Obj} {g2 n cap : Nat} (hb1 : Below wr.heap.size wr v1) (hgrow : (v1.alloc EO).grownBy w5 u.ownBlock) (hat : u.ownBlock = some g2 ∨ g2 = v1.heap.size + 1) {S S' : Nat → Prop} (hS : ∀ k, S k → k < wr.heap.size → u.ownBlock ≠ some k ∧ ((Value.slice (some ⟨g2, 0, none⟩) n cap).ownBlock ≠ some k → S' k)) : Stays S S' wr w5 := fun k hk hl => by
  obtain ⟨h2, h3⟩ := hS k hk hl
  have hs := hb1.size
  refine ⟨h3 ?_, ?_⟩
  · intro e
    simp only [Value.ownBlock, Option.some.injEq] at e
    rcases hat with h | h
    · rw [h, e] at h2; exact h2 rfl
    · omega
  · exact (hgrow.block k (by simp; omega) (fun e => h2 e.symm)).trans ((heap_alloc_old _ _ (by omega)).trans (hb1.block k hl))
theorem grow_gen {wr v1 w5 : World} {u x : Value} {EO : Obj} {nb g2 n cap : Nat} (hb1 : Below wr.heap.size wr v1) (hgrow : (v1.alloc EO).grownBy w5 u.ownBlock) (hat : u.ownBlock = some g2 ∨ g2 = v1.heap.size + 1) {S S' : Nat → Prop} (hS : ∀ k, S k → k < wr.heap.size → k ≠ nb ∧ u.ownBlock ≠ some k ∧ ((Value.slice (some ⟨g2, 0, none⟩) n cap).ownBlock ≠ some k → S' k)) : Stays S S' wr (w5.setCell ⟨nb, 4, none⟩ x) := fun k hk hl => by
  have h := grow_g0 (S := S) (S' := S') (n := n) (cap := cap) hb1 hgrow hat (fun k hk hl => (hS k hk hl).2) k hk hl
  exact ⟨h.1, (Below.heap_setCell _ _ _ _ (hS k hk hl).1).trans h.2⟩
/-- A new node in memory, no equations yet. -/
def BN (wq : World) (name : ByteArray) (ins outs owns : List Ex) (s : Value) (wc : World) : Prop := ∃ (nb : Nat) (so1 : Option Addr) (sc1 : Nat) (so2 : Option Addr) (sc2 : Nat) (so3 : Option Addr) (sc3 : Nat), s = .pointer (some ⟨nb, 0, none⟩) ∧ wq.heap.size ≤ nb ∧ nb < wc.heap.size ∧ Below wq.heap.size wq wc ∧ Hid (wc.heap[nb]? = some (.cells #[.string name, .slice so1 ins.length sc1, .slice so2 outs.length sc2, .slice so3 owns.length sc3, .slice none 0 0] 48)) ∧ Hid (RowAt wc (fun k => wq.heap.size ≤ k ∧ k ≠ nb) 2 (.slice so1 ins.length sc1) ins.length (varCells ins)) ∧ Hid (RowAt wc (fun k => wq.heap.size ≤ k ∧ k ≠ nb) 2 (.slice so2 outs.length sc2) outs.length (varCells outs)) ∧ Hid (RowAt wc (fun k => wq.heap.size ≤ k ∧ k ≠ nb) 2 (.slice so3 owns.length sc3) owns.length (varCells owns))
theorem row_fin {v wc : World} {n nb lo : Nat} {o : Option Addr} {c : Nat} {vs : List Ex} (hr : RowAt v (From n) 2 (.slice o vs.length c) vs.length (varCells vs)) (hlo : lo ≤ n) (hne : nb < n ∨ v.heap.size ≤ nb) (hbl : ∀ k, k < v.heap.size → k ≠ nb → wc.heap[k]? = v.heap[k]?) : RowAt wc (fun k => lo ≤ k ∧ k ≠ nb) 2 (.slice o vs.length c) vs.length (varCells vs) :=
  hr.keep (fun k hk hl => by
    unfold From at hk
    have hkn : k ≠ nb := by omega
    exact ⟨⟨by omega, hkn⟩, hbl k hl hkn⟩)
section
variable {wq v1 v2 v3 : World} {n1 n2 n3 : Nat} {name : ByteArray} {ins outs owns : List Ex} {so1 so2 so3 : Option Addr} {sc1 sc2 sc3 : Nat}
theorem bn_late (hq1 : Below wq.heap.size wq v1) (hc2 : Below v1.heap.size v1 v2) (hc3 : Below v2.heap.size v2 v3) (hr1 : RowAt v1 (From n1) 2 (.slice so1 ins.length sc1) ins.length (varCells ins)) (hr2 : RowAt v2 (From n2) 2 (.slice so2 outs.length sc2) outs.length (varCells outs)) (hr3 : RowAt v3 (From n3) 2 (.slice so3 owns.length sc3) owns.length (varCells owns)) (h1 : wq.heap.size ≤ n1) (h2 : wq.heap.size ≤ n2) (h3 : wq.heap.size ≤ n3) : BN wq name ins outs owns (.pointer (some ⟨v3.heap.size, 0, none⟩)) (v3.alloc (.cells #[.string name, .slice so1 ins.length sc1, .slice so2 outs.length sc2, .slice so3 owns.length sc3, .slice none 0 0] 48)) := by
  have z1 := hq1.size
  have z2 := hc2.size
  have z3 := hc3.size
  have hq3 : Below wq.heap.size wq v3 := (hq1.trans (hc2.mono z1)).trans (hc3.mono (by omega))
  exact ⟨v3.heap.size, so1, sc1, so2, sc2, so3, sc3, rfl, by omega, by simp, hq3.alloc (by omega) _, heap_alloc_new _ _, row_fin hr1 h1 (by omega) (fun k hk _ => (heap_alloc_old _ _ (by omega)).trans ((hc3.block k (by omega)).trans (hc2.block k hk))), row_fin hr2 h2 (by omega) (fun k hk _ => (heap_alloc_old _ _ (by omega)).trans (hc3.block k hk)), row_fin hr3 h3 (by omega) (fun k hk _ => heap_alloc_old _ _ hk)⟩
theorem bn_early (nb : Nat) (hz : v3.heap[nb]? = some rzNode) (hq1 : Below wq.heap.size wq v1) (hc2 : Below v1.heap.size v1 v2) (hc3 : Below v2.heap.size v2 v3) (hr1 : RowAt v1 (From n1) 2 (.slice so1 ins.length sc1) ins.length (varCells ins)) (hr2 : RowAt v2 (From n2) 2 (.slice so2 outs.length sc2) outs.length (varCells outs)) (hr3 : RowAt v3 (From n3) 2 (.slice so3 owns.length sc3) owns.length (varCells owns)) (h1 : wq.heap.size ≤ n1) (h2 : wq.heap.size ≤ n2) (h3 : wq.heap.size ≤ n3) (hnb : wq.heap.size ≤ nb) (e1 : nb < n1 ∨ v1.heap.size ≤ nb) (e2 : nb < n2 ∨ v2.heap.size ≤ nb) (e3 : nb < n3 ∨ v3.heap.size ≤ nb) :
    BN wq name ins outs owns (.pointer (some ⟨nb, 0, none⟩)) (((((v3.setCell ⟨nb, 0, none⟩ (.string name)).setCell ⟨nb, 1, none⟩ (.slice so1 ins.length sc1)).setCell ⟨nb, 2, none⟩ (.slice so2 outs.length sc2)).setCell ⟨nb, 3, none⟩ (.slice so3 owns.length sc3)).setCell ⟨nb, 4, none⟩ (.slice none 0 0)) := by
  have z1 := hq1.size
  have z2 := hc2.size
  have z3 := hc3.size
  have hq3 : Below wq.heap.size wq v3 := (hq1.trans (hc2.mono z1)).trans (hc3.mono (by omega))
  have F : ∀ k, k ≠ nb → (((((v3.setCell ⟨nb, 0, none⟩ (.string name)).setCell ⟨nb, 1, none⟩ (.slice so1 ins.length sc1)).setCell ⟨nb, 2, none⟩ (.slice so2 outs.length sc2)).setCell ⟨nb, 3, none⟩ (.slice so3 owns.length sc3)).setCell ⟨nb, 4, none⟩ (.slice none 0 0)).heap[k]? = v3.heap[k]? := fun k hk => (Below.heap_setCell _ _ _ _ hk).trans ((Below.heap_setCell _ _ _ _ hk).trans ((Below.heap_setCell _ _ _ _ hk).trans ((Below.heap_setCell _ _ _ _ hk).trans (Below.heap_setCell _ _ _ _ hk))))
  have hlt := (Array.getElem?_eq_some_iff.1 hz).1
  exact ⟨nb, so1, sc1, so2, sc2, so3, sc3, rfl, hnb, by simpa using hlt, below_set5 hq3 hnb, set_row (set_row (set_row (set_row (set_row hz)))), row_fin hr1 h1 e1 (fun k hk hn => (F k hn).trans ((hc3.block k (by omega)).trans (hc2.block k hk))), row_fin hr2 h2 e2 (fun k hk hn => (F k hn).trans (hc3.block k hk)), row_fin hr3 h3 e3 (fun k hk hn => F k hn)⟩
end
set_option linter.unusedSimpArgs false in
set_option maxRecDepth 100000 in
set_option maxHeartbeats 40000000 in
theorem backNodes_any (w : World) (S : Nat → Prop) (o : Option Addr) (c : Nat) (l : List Ex) (ys : List Value) (h1 : RowAt w S 5 (.slice o l.length c) l.length ys) (h2 : NdIn w S l ys) (hl : l.length ≤ 1000000) (hf : Fit 1000000 l) :
    Calls Tryz.prog 15 #[.slice o l.length c] w fun e w' => (∃ so sc ys', e = .returned (.slice so l.length sc) ∧ RowAt w' (fun _ => True) 5 (.slice so l.length sc) l.length ys' ∧ NdIn w' (fun _ => True) l ys') ∧ Below w.heap.size w w' := by
  obtain ⟨i0, hi0, hz0, hz1, hz2⟩ := info_parts Tryz.infoRNode
  have H1 : Hid (RowAt w S 5 (.slice o l.length c) l.length ys) := h1
  have H2 : Hid (NdIn w S l ys) := h2
  clear h1 h2
  go_enter Tryz.func15, Tryz.ntmps15
  go_wp2
  go_loopw [3, 4] (fun v t wr => ∃ (i : Nat) (so : Option Addr) (sc : Nat) (cells : List Value), i ≤ l.length ∧ t = .int .i64 i ∧ v = .slice so i sc ∧ Hid (wr.ownsRow w.heap.size 48 5 (.slice so i sc) i cells) ∧ Hid (NdIn wr (fun k => (Value.slice so i sc).ownBlock ≠ some k) (l.take i) cells) ∧ Below w.heap.size w wr) (fun _ t _ => l.length - (intOf t).toNat)
  case atStart => exact ⟨0, none, 0, [], Nat.zero_le _, rfl, rfl, World.ownsRow_nil _ _ _ _, .nil, Below.refl _ _⟩
  case round =>
    obtain ⟨i, so, sc, cells, hi, rfl, rfl, HO, HI, hb⟩ := hrel
    rename World => wq
    have hbz := hb.size
    by_cases hlt : i < l.length
    · obtain ⟨name, ins, outs, owns, qs, o1, c1, o2, c2, o3, c3, o4, c4, zs, e, m0, m1, m2, m3, m4, r1, r2, r3, r4, r5⟩ := H2.out.at hlt
      obtain ⟨p, f, rfl, _, g⟩ := row_get H1.out (by have := H1.out.1; omega)
      have x0 := cell_keep hb (g _ _ m0)
      have x1 := cell_keep hb (g _ _ m1)
      have x2 := cell_keep hb (g _ _ m2)
      have x3 := cell_keep hb (g _ _ m3)
      have x4 := cell_keep hb (g _ _ m4)
      rw [← Nat.add_assoc] at x1 x2 x3 x4
      have i0' : (0 : Int) ≤ (i : Int) := by omega
      have i1 : (i : Int) < (l.length : Int) := by omega
      obtain ⟨_, hfn⟩ := hf.at hlt e
      obtain ⟨hfi, _⟩ := hfn.at (i := 0) (by simp) rfl
      obtain ⟨hfo, _⟩ := hfn.at (i := 1) (by simp) rfl
      obtain ⟨hfw, _⟩ := hfn.at (i := 2) (by simp) rfl
      obtain ⟨hfq, hfqs⟩ := hfn.at (i := 3) (by simp) rfl
      have HS : Hid (∀ w', Below wq.heap.size wq w' → w'.cell? ⟨p, f + i * 5, none⟩ = some (.string name) ∧ w'.cell? ⟨p, f + i * 5 + 1, none⟩ = some (.slice o1 ins.length c1) ∧ w'.cell? ⟨p, f + i * 5 + 2, none⟩ = some (.slice o2 outs.length c2) ∧ w'.cell? ⟨p, f + i * 5 + 3, none⟩ = some (.slice o3 owns.length c3) ∧ Below wq.heap.size wq w') := fun w' hb => ⟨cell_keep hb x0, cell_keep hb x1, cell_keep hb x2, cell_keep hb x3, hb⟩
      have HV : ∀ {o' : Option Addr} {c' : Nat} {vs : List Ex}, RowAt w S 2 (.slice o' vs.length c') vs.length (varCells vs) → vs.length ≤ 1000000 → Hid (∀ w', Below wq.heap.size wq w' → Calls Tryz.prog 46 #[.slice o' vs.length c'] w' fun e w'' => (∃ so sc, e = .returned (.slice so vs.length sc) ∧ RowAt w'' (From w'.heap.size) 2 (.slice so vs.length sc) vs.length (varCells vs)) ∧ Below w'.heap.size w' w'') := fun h hn w' hb' => backVars_any w' S _ _ _ (h.keep (Stays.below (hb.trans (hb'.mono hbz)) (fun _ h => h))) hn
      have HVi := HV r1 hfi
      have HVo := HV r2 hfo
      have HVw := HV r3 hfw
      have X4 : Hid (w.cell? ⟨p, f + i * 5 + 4, none⟩ = some (.slice o4 qs.length c4)) := by rw [Nat.add_assoc]; exact g _ _ m4
      have HR : Hid (RowAt w S 6 (.slice o4 qs.length c4) qs.length zs ∧ EqIn w S qs zs) := ⟨r4, r5⟩
      have e' : Hid (l[i] = .mk name 0 b0 [lst ins, lst outs, lst owns, lst qs]) := e
      clear HV r1 r2 r3 r4 r5 g m0 m1 m2 m3 m4 hfn e x0 x1 x2 x3 x4
      go_upto_region 5 with fail
      go_cut [5] (fun s wc => BN wq name ins outs owns s wc)
      case first =>
        refine wp_region_held_drew (S := fun w' => w'.cell? ⟨p, f + i * 5, none⟩ = some (.string name) ∧ w'.cell? ⟨p, f + i * 5 + 1, none⟩ = some (.slice o1 ins.length c1) ∧ w'.cell? ⟨p, f + i * 5 + 2, none⟩ = some (.slice o2 outs.length c2) ∧ w'.cell? ⟨p, f + i * 5 + 3, none⟩ = some (.slice o3 owns.length c3) ∧ Below wq.heap.size wq w') (by kernel_rfl) (HS.out _ (Below.drew (Below.refl wq.heap.size wq))) (fun hHeld => ?_)
        refine wpAnyH_take (i := 0) (v := ?_) rfl (by kernel_rfl) (by kernel_rfl) (by kernel_rfl) (fun _ _ _ h => h) (Or.inl ⟨by rfl, ?_⟩) (by assumption) ?_
        rotate_left
        · intro w hSw
          (try dsimp only at hSw)
          go_simp
          (try with_reducible rfl)
        (try simp only [Act.put, List.setIfInBounds_toArray, List.set_cons_zero, List.set_cons_succ])
        refine wpAnyH_take (i := 1) (v := ?_) rfl (by kernel_rfl) (by kernel_rfl) (by kernel_rfl) (fun _ _ _ h => h) (Or.inl ⟨by rfl, ?_⟩) (by assumption) ?_
        rotate_left
        · intro w hSw
          (try dsimp only at hSw)
          go_simp
          (try with_reducible rfl)
        (try simp only [Act.put, List.setIfInBounds_toArray, List.set_cons_zero, List.set_cons_succ])
        refine wpAnyH_take (i := 2) (v := ?_) rfl (by kernel_rfl) (by kernel_rfl) (by kernel_rfl) (fun _ _ _ h => h) (Or.inl ⟨by rfl, ?_⟩) (by assumption) ?_
        rotate_left
        · intro w hSw
          (try dsimp only at hSw)
          go_simp
          (try with_reducible rfl)
        (try simp only [Act.put, List.setIfInBounds_toArray, List.set_cons_zero, List.set_cons_succ])
        refine wpAnyH_take (i := 3) (v := ?_) rfl (by kernel_rfl) (by kernel_rfl) (by kernel_rfl) (fun _ _ _ h => h) (Or.inl ⟨by rfl, ?_⟩) (by assumption) ?_
        rotate_left
        · intro w hSw
          (try dsimp only at hSw)
          go_simp
          (try with_reducible rfl)
        (try simp only [Act.put, List.setIfInBounds_toArray, List.set_cons_zero, List.set_cons_succ])
        refine wpAnyH_take (i := 4) (v := ?_) rfl (by kernel_rfl) (by kernel_rfl) (by kernel_rfl) (fun _ _ _ h => h) (Or.inl ⟨by rfl, ?_⟩) (by assumption) ?_
        rotate_left
        · intro w hSw
          (try dsimp only at hSw)
          go_simp
          (try with_reducible rfl)
        (try simp only [Act.put, List.setIfInBounds_toArray, List.set_cons_zero, List.set_cons_succ])
        refine wpAnyH_take (i := 5) (v := ?_) rfl (by kernel_rfl) (by kernel_rfl) (by kernel_rfl) (fun _ _ _ h => h) (Or.inl ⟨by rfl, ?_⟩) (by assumption) ?_
        rotate_left
        · intro w hSw
          (try dsimp only at hSw)
          go_simp
          (try with_reducible rfl)
        (try simp only [Act.put, List.setIfInBounds_toArray, List.set_cons_zero, List.set_cons_succ])
        refine wpAnyH_take (i := 6) (v := ?_) rfl (by kernel_rfl) (by kernel_rfl) (by kernel_rfl) (fun _ _ _ h => h) (Or.inl ⟨by rfl, ?_⟩) (by assumption) ?_
        rotate_left
        · intro w hSw
          (try dsimp only at hSw)
          go_simp
          (try with_reducible rfl)
        (try simp only [Act.put, List.setIfInBounds_toArray, List.set_cons_zero, List.set_cons_succ])
        refine wpAnyH_take (i := 7) (v := ?_) rfl (by kernel_rfl) (by kernel_rfl) (by kernel_rfl) (fun _ _ _ h => h) (Or.inl ⟨by rfl, ?_⟩) (by assumption) ?_
        rotate_left
        · intro w hSw
          (try dsimp only at hSw)
          go_simp
          (try with_reducible rfl)
        (try simp only [Act.put, List.setIfInBounds_toArray, List.set_cons_zero, List.set_cons_succ])
        refine wpAnyH_take (i := 8) (v := ?_) rfl (by kernel_rfl) (by kernel_rfl) (by kernel_rfl) (fun _ _ _ h => h) (Or.inl ⟨by rfl, ?_⟩) (by assumption) ?_
        rotate_left
        · intro w hSw
          (try dsimp only at hSw)
          go_simp
          (try with_reducible rfl)
        (try simp only [Act.put, List.setIfInBounds_toArray, List.set_cons_zero, List.set_cons_succ])
        refine wpAnyH_take (i := 9) (v := ?_) rfl (by kernel_rfl) (by kernel_rfl) (by kernel_rfl) (fun _ _ _ h => h) (Or.inl ⟨by rfl, ?_⟩) (by assumption) ?_
        rotate_left
        · intro w hSw
          (try dsimp only at hSw)
          go_simp
          (try with_reducible rfl)
        (try simp only [Act.put, List.setIfInBounds_toArray, List.set_cons_zero, List.set_cons_succ])
        refine wpAnyH_take (i := 11) (v := ?_) rfl (by kernel_rfl) (by kernel_rfl) (by kernel_rfl) (fun _ _ _ h => h) (Or.inl ⟨by rfl, ?_⟩) (by assumption) ?_
        rotate_left
        · intro w hSw
          (try dsimp only at hSw)
          go_simp
          (try with_reducible rfl)
        (try simp only [Act.put, List.setIfInBounds_toArray, List.set_cons_zero, List.set_cons_succ])
        refine wpAnyH_take (i := 12) (v := ?_) rfl (by kernel_rfl) (by kernel_rfl) (by kernel_rfl) (fun _ _ _ h => h) (Or.inl ⟨by rfl, ?_⟩) (by assumption) ?_
        rotate_left
        · intro w hSw
          (try dsimp only at hSw)
          go_simp
          (try with_reducible rfl)
        (try simp only [Act.put, List.setIfInBounds_toArray, List.set_cons_zero, List.set_cons_succ])
        refine wpAnyH_take (i := 13) (v := ?_) rfl (by kernel_rfl) (by kernel_rfl) (by kernel_rfl) (fun _ _ _ h => h) (Or.inl ⟨by rfl, ?_⟩) (by assumption) ?_
        rotate_left
        · intro w hSw
          (try dsimp only at hSw)
          go_simp
          (try with_reducible rfl)
        (try simp only [Act.put, List.setIfInBounds_toArray, List.set_cons_zero, List.set_cons_succ])
        refine wpAnyH_take (i := 14) (v := ?_) rfl (by kernel_rfl) (by kernel_rfl) (by kernel_rfl) (fun _ _ _ h => h) (Or.inl ⟨by rfl, ?_⟩) (by assumption) ?_
        rotate_left
        · intro w hSw
          (try dsimp only at hSw)
          go_simp
          (try with_reducible rfl)
        (try simp only [Act.put, List.setIfInBounds_toArray, List.set_cons_zero, List.set_cons_succ])
        refine wpAnyH_take (i := 15) (v := ?_) rfl (by kernel_rfl) (by kernel_rfl) (by kernel_rfl) (fun _ _ _ h => h) (Or.inl ⟨by rfl, ?_⟩) (by assumption) ?_
        rotate_left
        · intro w hSw
          (try dsimp only at hSw)
          go_simp
          (try with_reducible rfl)
        (try simp only [Act.put, List.setIfInBounds_toArray, List.set_cons_zero, List.set_cons_succ])
        refine wpAnyH_take (i := 17) (v := ?_) rfl (by kernel_rfl) (by kernel_rfl) (by kernel_rfl) (fun _ _ _ h => h) (Or.inl ⟨by rfl, ?_⟩) (by assumption) ?_
        rotate_left
        · intro w hSw
          (try dsimp only at hSw)
          go_simp
          (try with_reducible rfl)
        (try simp only [Act.put, List.setIfInBounds_toArray, List.set_cons_zero, List.set_cons_succ])
        refine wpAnyH_take (i := 18) (v := ?_) rfl (by kernel_rfl) (by kernel_rfl) (by kernel_rfl) (fun _ _ _ h => h) (Or.inl ⟨by rfl, ?_⟩) (by assumption) ?_
        rotate_left
        · intro w hSw
          (try dsimp only at hSw)
          go_simp
          (try with_reducible rfl)
        (try simp only [Act.put, List.setIfInBounds_toArray, List.set_cons_zero, List.set_cons_succ])
        refine wpAnyH_take (i := 19) (v := ?_) rfl (by kernel_rfl) (by kernel_rfl) (by kernel_rfl) (fun _ _ _ h => h) (Or.inl ⟨by rfl, ?_⟩) (by assumption) ?_
        rotate_left
        · intro w hSw
          (try dsimp only at hSw)
          go_simp
          (try with_reducible rfl)
        (try simp only [Act.put, List.setIfInBounds_toArray, List.set_cons_zero, List.set_cons_succ])
        refine wpAnyH_take (i := 20) (v := ?_) rfl (by kernel_rfl) (by kernel_rfl) (by kernel_rfl) (fun _ _ _ h => h) (Or.inl ⟨by rfl, ?_⟩) (by assumption) ?_
        rotate_left
        · intro w hSw
          (try dsimp only at hSw)
          go_simp
          (try with_reducible rfl)
        (try simp only [Act.put, List.setIfInBounds_toArray, List.set_cons_zero, List.set_cons_succ])
        refine wpAnyH_take (i := 21) (v := ?_) rfl (by kernel_rfl) (by kernel_rfl) (by kernel_rfl) (fun _ _ _ h => h) (Or.inl ⟨by rfl, ?_⟩) (by assumption) ?_
        rotate_left
        · intro w hSw
          (try dsimp only at hSw)
          go_simp
          (try with_reducible rfl)
        (try simp only [Act.put, List.setIfInBounds_toArray, List.set_cons_zero, List.set_cons_succ])
        refine wpAnyH_ready (rs := [10, 24]) (by kernel_rfl) (by simp) ?_
        refine AllReadyH.cons rfl (fun K hK => ?_) ?_
        · -- the first call
          refine step_call rfl 46 #[.slice o1 ins.length c1] (by kernel_rfl) ?_
          refine (HVi.out _ (Below.drew (Below.refl wq.heap.size wq))).mono ?_
          rintro e v1 ⟨⟨so1, sc1, rfl, hr1⟩, hb1⟩
          have hq1 := Below.trans (Below.drew (Below.refl wq.heap.size wq)) (hb1.mono (Below.size (Below.drew (Below.refl wq.heap.size wq))))
          dsimp only
          refine hK.out _ _ ?_ (fun hHeld => ?_)
          · exact HS.out _ hq1
          clear hK K
          (try simp only [Act.put, List.setIfInBounds_toArray, List.set_cons_zero, List.set_cons_succ])
          refine wpAnyH_ready (rs := [16, 24]) (by kernel_rfl) (by simp) ?_
          refine AllReadyH.cons rfl (fun K hK => ?_) ?_
          · -- the second call
            refine step_call rfl 46 #[.slice o2 outs.length c2] (by kernel_rfl) ?_
            refine (HVo.out _ hq1).mono ?_
            rintro e v2 ⟨⟨so2, sc2, rfl, hr2⟩, hb2⟩
            have hq2 := Below.trans hq1 (hb2.mono (Below.size hq1))
            dsimp only
            have hc2 : Below v1.heap.size v1 v2 := hb2
            refine hK.out _ _ ?_ (fun hHeld => ?_)
            · exact HS.out _ hq2
            clear hK K
            (try simp only [Act.put, List.setIfInBounds_toArray, List.set_cons_zero, List.set_cons_succ])
            refine wpAnyH_ready (rs := [22, 24]) (by kernel_rfl) (by simp) ?_
            refine AllReadyH.cons rfl (fun K hK => ?_) ?_
            · -- the third call
              refine step_call rfl 46 #[.slice o3 owns.length c3] (by kernel_rfl) ?_
              refine (HVw.out _ hq2).mono ?_
              rintro e v3 ⟨⟨so3, sc3, rfl, hr3⟩, hb3⟩
              have hq3 := Below.trans hq2 (hb3.mono (Below.size hq2))
              dsimp only
              have hc3 : Below v2.heap.size v2 v3 := hb3
              refine hK.out _ _ ?_ (fun hHeld => ?_)
              · exact HS.out _ hq3
              clear hK K
              (try simp only [Act.put, List.setIfInBounds_toArray, List.set_cons_zero, List.set_cons_succ])
              refine wpAnyH_take (i := 23) (v := ?_) rfl (by kernel_rfl) (by kernel_rfl) (by kernel_rfl) (fun _ _ _ h => h) (Or.inl ⟨by rfl, ?_⟩) (by assumption) ?_
              rotate_left
              · intro w hSw
                (try dsimp only at hSw)
                go_simp
                (try with_reducible rfl)
              (try simp only [Act.put, List.setIfInBounds_toArray, List.set_cons_zero, List.set_cons_succ])
              refine wpAnyH_ready (rs := [24]) (by kernel_rfl) (by simp) ?_
              refine AllReadyH.cons rfl (fun K hK => ?_) AllReadyH.nil
              go_simp
              refine hK.out _ _ ?_ (fun hHeld => ?_)
              · exact HS.out _ (Below.alloc hq3 (Below.size hq3) _)
              clear hK K
              (try simp only [Act.put, List.setIfInBounds_toArray, List.set_cons_zero, List.set_cons_succ])
              refine wpAnyH_ready (rs := [25]) (by kernel_rfl) (by simp) ?_
              refine AllReadyH.cons rfl (fun K hK => ?_) AllReadyH.nil
              go_simp
              refine hK.out _ _ ?_ (fun hHeld => ?_)
              · exact HS.out _ (Below.alloc hq3 (Below.size hq3) _)
              clear hK K
              (try simp only [Act.put, List.setIfInBounds_toArray, List.set_cons_zero, List.set_cons_succ])
              refine wpAnyH_done (by kernel_rfl) ?_ _
              go_wp2
              go_meet
              case rel =>
                have z1 := hq1.size
                have z2 := hc2.size
                have z3 := hc3.size
                exact bn_late hq1 hc2 hc3 hr1 hr2 hr3 (by first | omega | exact Nat.le_refl _ | (simp; omega) | (simp; done) | (show _ ≤ (Array.push _ _).size; simp; omega) | (show _ ≤ (Array.push _ _).size; simp; done)) (by first | omega | exact Nat.le_refl _ | (simp; omega) | (simp; done) | (show _ ≤ (Array.push _ _).size; simp; omega) | (show _ ≤ (Array.push _ _).size; simp; done)) (by first | omega | exact Nat.le_refl _ | (simp; omega) | (simp; done) | (show _ ≤ (Array.push _ _).size; simp; omega) | (show _ ≤ (Array.push _ _).size; simp; done))
            · refine AllReadyH.cons rfl (fun K hK => ?_) AllReadyH.nil
              go_simp
              refine hK.out _ _ ?_ (fun hHeld => ?_)
              · exact HS.out _ (Below.alloc hq2 (Below.size hq2) _)
              clear hK K
              (try simp only [Act.put, List.setIfInBounds_toArray, List.set_cons_zero, List.set_cons_succ])
              refine wpAnyH_ready (rs := [22]) (by kernel_rfl) (by simp) ?_
              refine AllReadyH.cons rfl (fun K hK => ?_) AllReadyH.nil
              refine step_call rfl 46 #[.slice o3 owns.length c3] (by kernel_rfl) ?_
              refine (HVw.out _ (Below.alloc hq2 (Below.size hq2) rzNode)).mono ?_
              rintro e v3 ⟨⟨so3, sc3, rfl, hr3⟩, hb3⟩
              have hq3 := Below.trans (Below.alloc hq2 (Below.size hq2) rzNode) (hb3.mono (Below.size (Below.alloc hq2 (Below.size hq2) rzNode)))
              dsimp only
              have hz3 : v3.heap[v2.heap.size]? = some rzNode := row_keep hb3 (heap_alloc_new v2 rzNode)
              have hc3 : Below v2.heap.size v2 v3 := Below.trans (Below.alloc (Below.refl _ _) (Nat.le_refl _) _) (hb3.mono (by simp))
              refine hK.out _ _ ?_ (fun hHeld => ?_)
              · exact HS.out _ hq3
              clear hK K
              (try simp only [Act.put, List.setIfInBounds_toArray, List.set_cons_zero, List.set_cons_succ])
              refine wpAnyH_take (i := 23) (v := ?_) rfl (by kernel_rfl) (by kernel_rfl) (by kernel_rfl) (fun _ _ _ h => h) (Or.inl ⟨by rfl, ?_⟩) (by assumption) ?_
              rotate_left
              · intro w hSw
                (try dsimp only at hSw)
                go_simp
                (try with_reducible rfl)
              (try simp only [Act.put, List.setIfInBounds_toArray, List.set_cons_zero, List.set_cons_succ])
              obtain ⟨a0, a1, a2, a3, a4, af⟩ := blk5 hz3
              have af0 := af 0
              have af1 := af 1
              have af2 := af 2
              have af3 := af 3
              have af4 := af 4
              have hzl := lt_of_cell a0
              clear af
              refine wpAnyH_ready (rs := [25]) (by kernel_rfl) (by simp) ?_
              refine AllReadyH.cons rfl (fun K hK => ?_) AllReadyH.nil
              go_simp
              refine hK.out _ _ ?_ (fun hHeld => ?_)
              · exact HS.out _ (below_set5 hq3 hq2.size)
              clear hK K
              (try simp only [Act.put, List.setIfInBounds_toArray, List.set_cons_zero, List.set_cons_succ])
              refine wpAnyH_done (by kernel_rfl) ?_ _
              go_wp2
              go_meet
              case rel =>
                have z1 := hq1.size
                have z2 := hc2.size
                have z3 := hc3.size
                have y3 := (Array.getElem?_eq_some_iff.1 hz3).1
                exact bn_early _ hz3 hq1 hc2 hc3 hr1 hr2 hr3 (by first | omega | exact Nat.le_refl _ | (simp; omega) | (simp; done) | (show _ ≤ (Array.push _ _).size; simp; omega) | (show _ ≤ (Array.push _ _).size; simp; done)) (by first | omega | exact Nat.le_refl _ | (simp; omega) | (simp; done) | (show _ ≤ (Array.push _ _).size; simp; omega) | (show _ ≤ (Array.push _ _).size; simp; done)) (by first | omega | exact Nat.le_refl _ | (simp; omega) | (simp; done) | (show _ ≤ (Array.push _ _).size; simp; omega) | (show _ ≤ (Array.push _ _).size; simp; done)) (by first | omega | exact Nat.le_refl _ | (simp; omega) | (simp; done) | (show _ ≤ (Array.push _ _).size; simp; omega) | (show _ ≤ (Array.push _ _).size; simp; done)) (by first | omega | exact Or.inl (by simp) | exact Or.inr (Nat.le_refl _) | exact Or.inl (by show _ < (Array.push _ _).size; simp)) (by first | omega | exact Or.inl (by simp) | exact Or.inr (Nat.le_refl _) | exact Or.inl (by show _ < (Array.push _ _).size; simp)) (by first | omega | exact Or.inl (by simp) | exact Or.inr (Nat.le_refl _) | exact Or.inl (by show _ < (Array.push _ _).size; simp))
          · refine AllReadyH.cons rfl (fun K hK => ?_) AllReadyH.nil
            go_simp
            refine hK.out _ _ ?_ (fun hHeld => ?_)
            · exact HS.out _ (Below.alloc hq1 (Below.size hq1) _)
            clear hK K
            (try simp only [Act.put, List.setIfInBounds_toArray, List.set_cons_zero, List.set_cons_succ])
            refine wpAnyH_ready (rs := [16]) (by kernel_rfl) (by simp) ?_
            refine AllReadyH.cons rfl (fun K hK => ?_) AllReadyH.nil
            refine step_call rfl 46 #[.slice o2 outs.length c2] (by kernel_rfl) ?_
            refine (HVo.out _ (Below.alloc hq1 (Below.size hq1) rzNode)).mono ?_
            rintro e v2 ⟨⟨so2, sc2, rfl, hr2⟩, hb2⟩
            have hq2 := Below.trans (Below.alloc hq1 (Below.size hq1) rzNode) (hb2.mono (Below.size (Below.alloc hq1 (Below.size hq1) rzNode)))
            dsimp only
            have hz2 : v2.heap[v1.heap.size]? = some rzNode := row_keep hb2 (heap_alloc_new v1 rzNode)
            have hc2 : Below v1.heap.size v1 v2 := Below.trans (Below.alloc (Below.refl _ _) (Nat.le_refl _) _) (hb2.mono (by simp))
            refine hK.out _ _ ?_ (fun hHeld => ?_)
            · exact HS.out _ hq2
            clear hK K
            (try simp only [Act.put, List.setIfInBounds_toArray, List.set_cons_zero, List.set_cons_succ])
            refine wpAnyH_ready (rs := [22]) (by kernel_rfl) (by simp) ?_
            refine AllReadyH.cons rfl (fun K hK => ?_) AllReadyH.nil
            refine step_call rfl 46 #[.slice o3 owns.length c3] (by kernel_rfl) ?_
            refine (HVw.out _ hq2).mono ?_
            rintro e v3 ⟨⟨so3, sc3, rfl, hr3⟩, hb3⟩
            have hq3 := Below.trans hq2 (hb3.mono (Below.size hq2))
            dsimp only
            have hz3 := row_keep hb3 hz2
            have hc3 : Below v2.heap.size v2 v3 := hb3
            refine hK.out _ _ ?_ (fun hHeld => ?_)
            · exact HS.out _ hq3
            clear hK K
            (try simp only [Act.put, List.setIfInBounds_toArray, List.set_cons_zero, List.set_cons_succ])
            refine wpAnyH_take (i := 23) (v := ?_) rfl (by kernel_rfl) (by kernel_rfl) (by kernel_rfl) (fun _ _ _ h => h) (Or.inl ⟨by rfl, ?_⟩) (by assumption) ?_
            rotate_left
            · intro w hSw
              (try dsimp only at hSw)
              go_simp
              (try with_reducible rfl)
            (try simp only [Act.put, List.setIfInBounds_toArray, List.set_cons_zero, List.set_cons_succ])
            obtain ⟨a0, a1, a2, a3, a4, af⟩ := blk5 hz3
            have af0 := af 0
            have af1 := af 1
            have af2 := af 2
            have af3 := af 3
            have af4 := af 4
            have hzl := lt_of_cell a0
            clear af
            refine wpAnyH_ready (rs := [25]) (by kernel_rfl) (by simp) ?_
            refine AllReadyH.cons rfl (fun K hK => ?_) AllReadyH.nil
            go_simp
            refine hK.out _ _ ?_ (fun hHeld => ?_)
            · exact HS.out _ (below_set5 hq3 hq1.size)
            clear hK K
            (try simp only [Act.put, List.setIfInBounds_toArray, List.set_cons_zero, List.set_cons_succ])
            refine wpAnyH_done (by kernel_rfl) ?_ _
            go_wp2
            go_meet
            case rel =>
              have z1 := hq1.size
              have z2 := hc2.size
              have z3 := hc3.size
              have y2 := (Array.getElem?_eq_some_iff.1 hz2).1
              have y3 := (Array.getElem?_eq_some_iff.1 hz3).1
              exact bn_early _ hz3 hq1 hc2 hc3 hr1 hr2 hr3 (by first | omega | exact Nat.le_refl _ | (simp; omega) | (simp; done) | (show _ ≤ (Array.push _ _).size; simp; omega) | (show _ ≤ (Array.push _ _).size; simp; done)) (by first | omega | exact Nat.le_refl _ | (simp; omega) | (simp; done) | (show _ ≤ (Array.push _ _).size; simp; omega) | (show _ ≤ (Array.push _ _).size; simp; done)) (by first | omega | exact Nat.le_refl _ | (simp; omega) | (simp; done) | (show _ ≤ (Array.push _ _).size; simp; omega) | (show _ ≤ (Array.push _ _).size; simp; done)) (by first | omega | exact Nat.le_refl _ | (simp; omega) | (simp; done) | (show _ ≤ (Array.push _ _).size; simp; omega) | (show _ ≤ (Array.push _ _).size; simp; done)) (by first | omega | exact Or.inl (by simp) | exact Or.inr (Nat.le_refl _) | exact Or.inl (by show _ < (Array.push _ _).size; simp)) (by first | omega | exact Or.inl (by simp) | exact Or.inr (Nat.le_refl _) | exact Or.inl (by show _ < (Array.push _ _).size; simp)) (by first | omega | exact Or.inl (by simp) | exact Or.inr (Nat.le_refl _) | exact Or.inl (by show _ < (Array.push _ _).size; simp))
        · refine AllReadyH.cons rfl (fun K hK => ?_) AllReadyH.nil
          go_simp
          refine hK.out _ _ ?_ (fun hHeld => ?_)
          · exact HS.out _ (Below.drew (Below.alloc (Below.refl wq.heap.size wq) (Nat.le_refl _) rzNode))
          clear hK K
          (try simp only [Act.put, List.setIfInBounds_toArray, List.set_cons_zero, List.set_cons_succ])
          refine wpAnyH_ready (rs := [10]) (by kernel_rfl) (by simp) ?_
          refine AllReadyH.cons rfl (fun K hK => ?_) AllReadyH.nil
          refine step_call rfl 46 #[.slice o1 ins.length c1] (by kernel_rfl) ?_
          refine (HVi.out _ (Below.drew (Below.alloc (Below.refl wq.heap.size wq) (Nat.le_refl _) rzNode))).mono ?_
          rintro e v1 ⟨⟨so1, sc1, rfl, hr1⟩, hb1⟩
          have hq1 := Below.trans (Below.drew (Below.alloc (Below.refl wq.heap.size wq) (Nat.le_refl _) rzNode)) (hb1.mono (Below.size (Below.drew (Below.alloc (Below.refl wq.heap.size wq) (Nat.le_refl _) rzNode))))
          dsimp only
          have hz1 : v1.heap[wq.heap.size]? = some rzNode := row_keep hb1 (drew_new wq rzNode)
          refine hK.out _ _ ?_ (fun hHeld => ?_)
          · exact HS.out _ hq1
          clear hK K
          (try simp only [Act.put, List.setIfInBounds_toArray, List.set_cons_zero, List.set_cons_succ])
          refine wpAnyH_ready (rs := [16]) (by kernel_rfl) (by simp) ?_
          refine AllReadyH.cons rfl (fun K hK => ?_) AllReadyH.nil
          refine step_call rfl 46 #[.slice o2 outs.length c2] (by kernel_rfl) ?_
          refine (HVo.out _ hq1).mono ?_
          rintro e v2 ⟨⟨so2, sc2, rfl, hr2⟩, hb2⟩
          have hq2 := Below.trans hq1 (hb2.mono (Below.size hq1))
          dsimp only
          have hz2 := row_keep hb2 hz1
          have hc2 : Below v1.heap.size v1 v2 := hb2
          refine hK.out _ _ ?_ (fun hHeld => ?_)
          · exact HS.out _ hq2
          clear hK K
          (try simp only [Act.put, List.setIfInBounds_toArray, List.set_cons_zero, List.set_cons_succ])
          refine wpAnyH_ready (rs := [22]) (by kernel_rfl) (by simp) ?_
          refine AllReadyH.cons rfl (fun K hK => ?_) AllReadyH.nil
          refine step_call rfl 46 #[.slice o3 owns.length c3] (by kernel_rfl) ?_
          refine (HVw.out _ hq2).mono ?_
          rintro e v3 ⟨⟨so3, sc3, rfl, hr3⟩, hb3⟩
          have hq3 := Below.trans hq2 (hb3.mono (Below.size hq2))
          dsimp only
          have hz3 := row_keep hb3 hz2
          have hc3 : Below v2.heap.size v2 v3 := hb3
          refine hK.out _ _ ?_ (fun hHeld => ?_)
          · exact HS.out _ hq3
          clear hK K
          (try simp only [Act.put, List.setIfInBounds_toArray, List.set_cons_zero, List.set_cons_succ])
          refine wpAnyH_take (i := 23) (v := ?_) rfl (by kernel_rfl) (by kernel_rfl) (by kernel_rfl) (fun _ _ _ h => h) (Or.inl ⟨by rfl, ?_⟩) (by assumption) ?_
          rotate_left
          · intro w hSw
            (try dsimp only at hSw)
            go_simp
            (try with_reducible rfl)
          (try simp only [Act.put, List.setIfInBounds_toArray, List.set_cons_zero, List.set_cons_succ])
          obtain ⟨a0, a1, a2, a3, a4, af⟩ := blk5 hz3
          have af0 := af 0
          have af1 := af 1
          have af2 := af 2
          have af3 := af 3
          have af4 := af 4
          have hzl := lt_of_cell a0
          clear af
          refine wpAnyH_ready (rs := [25]) (by kernel_rfl) (by simp) ?_
          refine AllReadyH.cons rfl (fun K hK => ?_) AllReadyH.nil
          go_simp
          refine hK.out _ _ ?_ (fun hHeld => ?_)
          · exact HS.out _ (below_set5 hq3 (Nat.le_refl _))
          clear hK K
          (try simp only [Act.put, List.setIfInBounds_toArray, List.set_cons_zero, List.set_cons_succ])
          refine wpAnyH_done (by kernel_rfl) ?_ _
          go_wp2
          go_meet
          case rel =>
            have z1 := hq1.size
            have z2 := hc2.size
            have z3 := hc3.size
            have y1 := (Array.getElem?_eq_some_iff.1 hz1).1
            have y2 := (Array.getElem?_eq_some_iff.1 hz2).1
            have y3 := (Array.getElem?_eq_some_iff.1 hz3).1
            exact bn_early _ hz3 hq1 hc2 hc3 hr1 hr2 hr3 (by first | omega | exact Nat.le_refl _ | (simp; omega) | (simp; done) | (show _ ≤ (Array.push _ _).size; simp; omega) | (show _ ≤ (Array.push _ _).size; simp; done)) (by first | omega | exact Nat.le_refl _ | (simp; omega) | (simp; done) | (show _ ≤ (Array.push _ _).size; simp; omega) | (show _ ≤ (Array.push _ _).size; simp; done)) (by first | omega | exact Nat.le_refl _ | (simp; omega) | (simp; done) | (show _ ≤ (Array.push _ _).size; simp; omega) | (show _ ≤ (Array.push _ _).size; simp; done)) (by first | omega | exact Nat.le_refl _ | (simp; omega) | (simp; done) | (show _ ≤ (Array.push _ _).size; simp; omega) | (show _ ≤ (Array.push _ _).size; simp; done)) (by first | omega | exact Or.inl (by simp) | exact Or.inr (Nat.le_refl _) | exact Or.inl (by show _ < (Array.push _ _).size; simp)) (by first | omega | exact Or.inl (by simp) | exact Or.inr (Nat.le_refl _) | exact Or.inl (by show _ < (Array.push _ _).size; simp)) (by first | omega | exact Or.inl (by simp) | exact Or.inr (Nat.le_refl _) | exact Or.inl (by show _ < (Array.push _ _).size; simp))
      case rest =>
        clear HS HVi HVo HVw
        obtain ⟨nb, so1, sc1, so2, sc2, so3, sc3, rfl, hnb, hnl, hbc, HN, HR1, HR2, HR3⟩ := hcut
        rename World => wd
        obtain ⟨iv, hiv, hv0, hv1, hv2⟩ := info_parts Tryz.infoREq
        have hcz := hbc.size
        have hbd : Below w.heap.size w wd := hb.trans (hbc.mono hbz)
        go_wp2
        go_loopw [6] (fun t wr => ∃ (k : Nat) (qo : Option Addr) (qc : Nat) (cs : List Value), k ≤ qs.length ∧ t = .int .i64 k ∧ Mv nb wd wr ∧ Hid (wr.heap[nb]? = some (.cells #[.string name, .slice so1 ins.length sc1, .slice so2 outs.length sc2, .slice so3 owns.length sc3, .slice qo k qc] 48)) ∧ Hid (wr.ownsRow wd.heap.size 45 6 (.slice qo k qc) k cs) ∧ Hid (EqIn wr (fun k' => (k' < w.heap.size ∨ wq.heap.size ≤ k') ∧ k' ≠ nb ∧ (Value.slice qo k qc).ownBlock ≠ some k') (qs.take k) cs)) (fun t _ => qs.length - (intOf t).toNat)
        case atStart => exact ⟨0, none, 0, [], Nat.zero_le _, rfl, Mv.refl _ _, HN, World.ownsRow_nil _ _ _ _, .nil⟩
        case round =>
          clear HN
          obtain ⟨k, qo, qc, cs, hk, rfl, hmv, HNr, HOr, HQr⟩ := hrel
          have hmz := hmv.size
          have hbr : Below w.heap.size w wr := hbd.trans ⟨hmv.os, hmv.tape, hmv.output, hmv.size, fun k hk => hmv.block k (by omega) (by intro e; injection e with e; omega)⟩
          have hbrz := hbr.size
          obtain ⟨n0, n1, n2, n3, n4, nf⟩ := blk5 HNr.out
          have hnr : nb < wr.heap.size := lt_of_cell n0
          have X4r := below_cell' hbr X4.out
          by_cases hlk : k < qs.length
          · obtain ⟨kind, ns, no, nc, op, x, tx, es, eo, ec, us, e, x0, x1, x2, x3, x4, x5, r1, r2, r3⟩ := HR.out.2.at hlk
            obtain ⟨p4, f4, rfl, _, g4⟩ := row_get HR.out.1 (by have := HR.out.1.1; omega)
            have i0' : (0 : Int) ≤ (k : Int) := by omega
            have i1' : (k : Int) < (qs.length : Int) := by omega
            obtain ⟨_, hfe⟩ := hfqs.at hlk e
            obtain ⟨hfl, hff⟩ := hfe.at (i := 1) (by simp) rfl
            have W0 := g4 _ _ x0
            have W1 := g4 _ _ x1
            have W2 := g4 _ _ x2
            have W3 := g4 _ _ x3
            have W4 := g4 _ _ x4
            have W5 := g4 _ _ x5
            rw [← Nat.add_assoc] at W1 W2 W3 W4 W5
            have HS : Hid (∀ w', Below w.heap.size w w' → w'.cell? ⟨p, f + i * 5 + 4, none⟩ = some (.slice (some ⟨p4, f4, none⟩) qs.length c4) ∧ w'.cell? ⟨p4, f4 + k * 6, none⟩ = some (.string kind) ∧ w'.cell? ⟨p4, f4 + k * 6 + 1, none⟩ = some (.slice no ns.length nc) ∧ w'.cell? ⟨p4, f4 + k * 6 + 2, none⟩ = some (.string op) ∧ w'.cell? ⟨p4, f4 + k * 6 + 3, none⟩ = some (.int .i64 x) ∧ w'.cell? ⟨p4, f4 + k * 6 + 4, none⟩ = some (.string tx) ∧ w'.cell? ⟨p4, f4 + k * 6 + 5, none⟩ = some (.slice eo es.length ec) ∧ Below w.heap.size w w') := fun w' hb => ⟨below_cell' hb X4.out, below_cell' hb W0, below_cell' hb W1, below_cell' hb W2, below_cell' hb W3, below_cell' hb W4, below_cell' hb W5, hb⟩
            have HE : Hid (∀ w', Below w.heap.size w w' → Calls Tryz.prog 47 #[.agg #[.string op, .int .i64 x, .string tx, .slice eo es.length ec]] w' fun e w'' => (∃ so sc ys', e = .returned (.agg #[.string op, .int .i64 x, .string tx, .slice so es.length sc]) ∧ RowAt w'' (From w'.heap.size) 4 (.slice so es.length sc) es.length ys' ∧ ExIn w'' (From w'.heap.size) es ys') ∧ Below w'.heap.size w' w'') := fun w' hb => back_any (SizeOf.sizeOf es + 1) op x tx es (by omega) hfl hff w' S eo ec us (r2.keep (Stays.below hb (fun k hk => hk))) (r3.keep (Stays.below hb (fun k hk => hk)))
            have HM : Hid (RowAt w S 1 (.slice no ns.length nc) ns.length (nameCells ns)) := r1
            have e2 : Hid (qs[k] = .mk kind 0 b0 [lst ns, .mk op x tx es]) := e
            have hn63 : k + 1 ≤ maxLen := by unfold maxLen; omega
            have hby : (k + 1) * 104 ≤ 140737488355328 := by omega
            have hrw : Hid (∀ j, (Value.slice qo k qc).ownBlock = some j → wd.heap.size ≤ j ∧ j < wr.heap.size) := fun j hj => ownsRow_block HOr.out hj
            clear g4 r1 r2 r3 hfe hfl hff x0 x1 x2 x3 x4 x5 W0 W1 W2 W3 W4 W5 e
            go_wp2
            refine wp_region_held_drew (S := fun w' => w'.cell? ⟨p, f + i * 5 + 4, none⟩ = some (.slice (some ⟨p4, f4, none⟩) qs.length c4) ∧ w'.cell? ⟨p4, f4 + k * 6, none⟩ = some (.string kind) ∧ w'.cell? ⟨p4, f4 + k * 6 + 1, none⟩ = some (.slice no ns.length nc) ∧ w'.cell? ⟨p4, f4 + k * 6 + 2, none⟩ = some (.string op) ∧ w'.cell? ⟨p4, f4 + k * 6 + 3, none⟩ = some (.int .i64 x) ∧ w'.cell? ⟨p4, f4 + k * 6 + 4, none⟩ = some (.string tx) ∧ w'.cell? ⟨p4, f4 + k * 6 + 5, none⟩ = some (.slice eo es.length ec) ∧ Below w.heap.size w w') (by kernel_rfl) (HS.out _ (Below.drew hbr)) (fun hHeld => ?_)
            refine wpAnyH_take (i := 0) (v := ?_) rfl (by kernel_rfl) (by kernel_rfl) (by kernel_rfl) (fun _ _ _ h => h) (Or.inl ⟨by rfl, ?_⟩) (by assumption) ?_
            rotate_left
            · intro w hSw
              (try dsimp only at hSw)
              go_simp
              (try with_reducible rfl)
            (try simp only [Act.put, List.setIfInBounds_toArray, List.set_cons_zero, List.set_cons_succ])
            refine wpAnyH_take (i := 2) (v := ?_) rfl (by kernel_rfl) (by kernel_rfl) (by kernel_rfl) (fun _ _ _ h => h) (Or.inl ⟨by rfl, ?_⟩) (by assumption) ?_
            rotate_left
            · intro w hSw
              (try dsimp only at hSw)
              go_simp
              (try with_reducible rfl)
            (try simp only [Act.put, List.setIfInBounds_toArray, List.set_cons_zero, List.set_cons_succ])
            refine wpAnyH_take (i := 3) (v := ?_) rfl (by kernel_rfl) (by kernel_rfl) (by kernel_rfl) (fun _ _ _ h => h) (Or.inl ⟨by rfl, ?_⟩) (by assumption) ?_
            rotate_left
            · intro w hSw
              (try dsimp only at hSw)
              go_simp
              (try with_reducible rfl)
            (try simp only [Act.put, List.setIfInBounds_toArray, List.set_cons_zero, List.set_cons_succ])
            refine wpAnyH_take (i := 4) (v := ?_) rfl (by kernel_rfl) (by kernel_rfl) (by kernel_rfl) (fun _ _ _ h => h) (Or.inl ⟨by rfl, ?_⟩) (by assumption) ?_
            rotate_left
            · intro w hSw
              (try dsimp only at hSw)
              go_simp
              (try with_reducible rfl)
            (try simp only [Act.put, List.setIfInBounds_toArray, List.set_cons_zero, List.set_cons_succ])
            refine wpAnyH_take (i := 5) (v := ?_) rfl (by kernel_rfl) (by kernel_rfl) (by kernel_rfl) (fun _ _ _ h => h) (Or.inl ⟨by rfl, ?_⟩) (by assumption) ?_
            rotate_left
            · intro w hSw
              (try dsimp only at hSw)
              go_simp
              (try with_reducible rfl)
            (try simp only [Act.put, List.setIfInBounds_toArray, List.set_cons_zero, List.set_cons_succ])
            refine wpAnyH_take (i := 6) (v := ?_) rfl (by kernel_rfl) (by kernel_rfl) (by kernel_rfl) (fun _ _ _ h => h) (Or.inl ⟨by rfl, ?_⟩) (by assumption) ?_
            rotate_left
            · intro w hSw
              (try dsimp only at hSw)
              go_simp
              (try with_reducible rfl)
            (try simp only [Act.put, List.setIfInBounds_toArray, List.set_cons_zero, List.set_cons_succ])
            refine wpAnyH_take (i := 7) (v := ?_) rfl (by kernel_rfl) (by kernel_rfl) (by kernel_rfl) (fun _ _ _ h => h) (Or.inl ⟨by rfl, ?_⟩) (by assumption) ?_
            rotate_left
            · intro w hSw
              (try dsimp only at hSw)
              go_simp
              (try with_reducible rfl)
            (try simp only [Act.put, List.setIfInBounds_toArray, List.set_cons_zero, List.set_cons_succ])
            refine wpAnyH_take (i := 8) (v := ?_) rfl (by kernel_rfl) (by kernel_rfl) (by kernel_rfl) (fun _ _ _ h => h) (Or.inl ⟨by rfl, ?_⟩) (by assumption) ?_
            rotate_left
            · intro w hSw
              (try dsimp only at hSw)
              go_simp
              (try with_reducible rfl)
            (try simp only [Act.put, List.setIfInBounds_toArray, List.set_cons_zero, List.set_cons_succ])
            refine wpAnyH_take (i := 9) (v := ?_) rfl (by kernel_rfl) (by kernel_rfl) (by kernel_rfl) (fun _ _ _ h => h) (Or.inl ⟨by rfl, ?_⟩) (by assumption) ?_
            rotate_left
            · intro w hSw
              (try dsimp only at hSw)
              go_simp
              (try with_reducible rfl)
            (try simp only [Act.put, List.setIfInBounds_toArray, List.set_cons_zero, List.set_cons_succ])
            refine wpAnyH_take (i := 10) (v := ?_) rfl (by kernel_rfl) (by kernel_rfl) (by kernel_rfl) (fun _ _ _ h => h) (Or.inl ⟨by rfl, ?_⟩) (by assumption) ?_
            rotate_left
            · intro w hSw
              (try dsimp only at hSw)
              go_simp
              (try with_reducible rfl)
            (try simp only [Act.put, List.setIfInBounds_toArray, List.set_cons_zero, List.set_cons_succ])
            refine wpAnyH_take (i := 11) (v := ?_) rfl (by kernel_rfl) (by kernel_rfl) (by kernel_rfl) (fun _ _ _ h => h) (Or.inl ⟨by rfl, ?_⟩) (by assumption) ?_
            rotate_left
            · intro w hSw
              (try dsimp only at hSw)
              go_simp
              (try with_reducible rfl)
            (try simp only [Act.put, List.setIfInBounds_toArray, List.set_cons_zero, List.set_cons_succ])
            refine wpAnyH_take (i := 12) (v := ?_) rfl (by kernel_rfl) (by kernel_rfl) (by kernel_rfl) (fun _ _ _ h => h) (Or.inl ⟨by rfl, ?_⟩) (by assumption) ?_
            rotate_left
            · intro w hSw
              (try dsimp only at hSw)
              go_simp
              (try with_reducible rfl)
            (try simp only [Act.put, List.setIfInBounds_toArray, List.set_cons_zero, List.set_cons_succ])
            refine wpAnyH_take (i := 13) (v := ?_) rfl (by kernel_rfl) (by kernel_rfl) (by kernel_rfl) (fun _ _ _ h => h) (Or.inl ⟨by rfl, ?_⟩) (by assumption) ?_
            rotate_left
            · intro w hSw
              (try dsimp only at hSw)
              go_simp
              (try with_reducible rfl)
            (try simp only [Act.put, List.setIfInBounds_toArray, List.set_cons_zero, List.set_cons_succ])
            refine wpAnyH_take (i := 14) (v := ?_) rfl (by kernel_rfl) (by kernel_rfl) (by kernel_rfl) (fun _ _ _ h => h) (Or.inl ⟨by rfl, ?_⟩) (by assumption) ?_
            rotate_left
            · intro w hSw
              (try dsimp only at hSw)
              go_simp
              (try with_reducible rfl)
            (try simp only [Act.put, List.setIfInBounds_toArray, List.set_cons_zero, List.set_cons_succ])
            refine wpAnyH_take (i := 15) (v := ?_) rfl (by kernel_rfl) (by kernel_rfl) (by kernel_rfl) (fun _ _ _ h => h) (Or.inl ⟨by rfl, ?_⟩) (by assumption) ?_
            rotate_left
            · intro w hSw
              (try dsimp only at hSw)
              go_simp
              (try with_reducible rfl)
            (try simp only [Act.put, List.setIfInBounds_toArray, List.set_cons_zero, List.set_cons_succ])
            refine wpAnyH_take (i := 16) (v := ?_) rfl (by kernel_rfl) (by kernel_rfl) (by kernel_rfl) (fun _ _ _ h => h) (Or.inl ⟨by rfl, ?_⟩) (by assumption) ?_
            rotate_left
            · intro w hSw
              (try dsimp only at hSw)
              go_simp
              (try with_reducible rfl)
            (try simp only [Act.put, List.setIfInBounds_toArray, List.set_cons_zero, List.set_cons_succ])
            refine wpAnyH_take (i := 17) (v := ?_) rfl (by kernel_rfl) (by kernel_rfl) (by kernel_rfl) (fun _ _ _ h => h) (Or.inl ⟨by rfl, ?_⟩) (by assumption) ?_
            rotate_left
            · intro w hSw
              (try dsimp only at hSw)
              go_simp
              (try with_reducible rfl)
            (try simp only [Act.put, List.setIfInBounds_toArray, List.set_cons_zero, List.set_cons_succ])
            refine wpAnyH_take (i := 18) (v := ?_) rfl (by kernel_rfl) (by kernel_rfl) (by kernel_rfl) (fun _ _ _ h => h) (Or.inl ⟨by rfl, ?_⟩) (by assumption) ?_
            rotate_left
            · intro w hSw
              (try dsimp only at hSw)
              go_simp
              (try with_reducible rfl)
            (try simp only [Act.put, List.setIfInBounds_toArray, List.set_cons_zero, List.set_cons_succ])
            refine wpAnyH_take (i := 19) (v := ?_) rfl (by kernel_rfl) (by kernel_rfl) (by kernel_rfl) (fun _ _ _ h => h) (Or.inl ⟨by rfl, ?_⟩) (by assumption) ?_
            rotate_left
            · intro w hSw
              (try dsimp only at hSw)
              go_simp
              (try with_reducible rfl)
            (try simp only [Act.put, List.setIfInBounds_toArray, List.set_cons_zero, List.set_cons_succ])
            refine wpAnyH_take (i := 20) (v := ?_) rfl (by kernel_rfl) (by kernel_rfl) (by kernel_rfl) (fun _ _ _ h => h) (Or.inl ⟨by rfl, ?_⟩) (by assumption) ?_
            rotate_left
            · intro w hSw
              (try dsimp only at hSw)
              go_simp
              (try with_reducible rfl)
            (try simp only [Act.put, List.setIfInBounds_toArray, List.set_cons_zero, List.set_cons_succ])
            refine wpAnyH_take (i := 21) (v := ?_) rfl (by kernel_rfl) (by kernel_rfl) (by kernel_rfl) (fun _ _ _ h => h) (Or.inl ⟨by rfl, ?_⟩) (by assumption) ?_
            rotate_left
            · intro w hSw
              (try dsimp only at hSw)
              go_simp
              (try with_reducible rfl)
            (try simp only [Act.put, List.setIfInBounds_toArray, List.set_cons_zero, List.set_cons_succ])
            refine wpAnyH_take (i := 22) (v := ?_) rfl (by kernel_rfl) (by kernel_rfl) (by kernel_rfl) (fun _ _ _ h => h) (Or.inl ⟨by rfl, ?_⟩) (by assumption) ?_
            rotate_left
            · intro w hSw
              (try dsimp only at hSw)
              go_simp
              (try with_reducible rfl)
            (try simp only [Act.put, List.setIfInBounds_toArray, List.set_cons_zero, List.set_cons_succ])
            refine wpAnyH_take (i := 23) (v := ?_) rfl (by kernel_rfl) (by kernel_rfl) (by kernel_rfl) (fun _ _ _ h => h) (Or.inl ⟨by rfl, ?_⟩) (by assumption) ?_
            rotate_left
            · intro w hSw
              (try dsimp only at hSw)
              go_simp
              (try with_reducible rfl)
            (try simp only [Act.put, List.setIfInBounds_toArray, List.set_cons_zero, List.set_cons_succ])
            refine wpAnyH_take (i := 24) (v := ?_) rfl (by kernel_rfl) (by kernel_rfl) (by kernel_rfl) (fun _ _ _ h => h) (Or.inl ⟨by rfl, ?_⟩) (by assumption) ?_
            rotate_left
            · intro w hSw
              (try dsimp only at hSw)
              go_simp
              (try with_reducible rfl)
            (try simp only [Act.put, List.setIfInBounds_toArray, List.set_cons_zero, List.set_cons_succ])
            refine wpAnyH_take (i := 25) (v := ?_) rfl (by kernel_rfl) (by kernel_rfl) (by kernel_rfl) (fun _ _ _ h => h) (Or.inl ⟨by rfl, ?_⟩) (by assumption) ?_
            rotate_left
            · intro w hSw
              (try dsimp only at hSw)
              go_simp
              (try with_reducible rfl)
            (try simp only [Act.put, List.setIfInBounds_toArray, List.set_cons_zero, List.set_cons_succ])
            refine wpAnyH_take (i := 26) (v := ?_) rfl (by kernel_rfl) (by kernel_rfl) (by kernel_rfl) (fun _ _ _ h => h) (Or.inl ⟨by rfl, ?_⟩) (by assumption) ?_
            rotate_left
            · intro w hSw
              (try dsimp only at hSw)
              go_simp
              (try with_reducible rfl)
            (try simp only [Act.put, List.setIfInBounds_toArray, List.set_cons_zero, List.set_cons_succ])
            refine wpAnyH_take (i := 27) (v := ?_) rfl (by kernel_rfl) (by kernel_rfl) (by kernel_rfl) (fun _ _ _ h => h) (Or.inl ⟨by rfl, ?_⟩) (by assumption) ?_
            rotate_left
            · intro w hSw
              (try dsimp only at hSw)
              go_simp
              (try with_reducible rfl)
            (try simp only [Act.put, List.setIfInBounds_toArray, List.set_cons_zero, List.set_cons_succ])
            refine wpAnyH_take (i := 28) (v := ?_) rfl (by kernel_rfl) (by kernel_rfl) (by kernel_rfl) (fun _ _ _ h => h) (Or.inl ⟨by rfl, ?_⟩) (by assumption) ?_
            rotate_left
            · intro w hSw
              (try dsimp only at hSw)
              go_simp
              (try with_reducible rfl)
            (try simp only [Act.put, List.setIfInBounds_toArray, List.set_cons_zero, List.set_cons_succ])
            refine wpAnyH_ready (rs := [1, 29]) (by kernel_rfl) (by simp) ?_
            refine AllReadyH.cons rfl (fun K hK => ?_) ?_
            · -- the load first
              go_simp
              refine hK.out _ _ ?_ (fun hHeld => ?_)
              · exact HS.out _ (Below.drew hbr)
              clear hK K
              (try simp only [Act.put, List.setIfInBounds_toArray, List.set_cons_zero, List.set_cons_succ])
              refine wpAnyH_ready (rs := [29]) (by kernel_rfl) (by simp) ?_
              refine AllReadyH.cons rfl (fun K hK => ?_) AllReadyH.nil
              (refine step_call rfl 47 #[.agg #[.string op, .int .i64 x, .string tx, .slice eo es.length ec]] (by kernel_rfl) ?_; refine (HE.out _ hbr.drew).mono ?_; rintro e v1 ⟨⟨so', sc', ys', rfl, hrow', hin'⟩, hb1⟩; have hb1' : Below wr.heap.size wr v1 := Below.trans (Below.drew (Below.refl _ _)) hb1; have hq1 : Below w.heap.size w v1 := hbr.trans (hb1'.mono hbrz); have hz1 := hb1'.size; have HN1 : Hid _ := row_keep hb1' HNr.out; have v4 := (blk5 HN1.out).2.2.2.2.1; have hltn : nb < v1.heap.size := (by omega); have HO4 : Hid _ := (ownsRow_mv (ba := nb) HOr.out (Mv.of_below hb1') hnl).alloc (.cells #[.string kind, .slice no ns.length nc, .string op, .int .i64 x, .string tx, .slice so' es.length sc'] 45); have HN4 : Hid _ := World.news_of_block (heap_alloc_new v1 (.cells #[.string kind, .slice no ns.length nc, .string op, .int .i64 x, .string tx, .slice so' es.length sc'] 45)))
              dsimp only
              refine hK.out _ _ ?_ (fun hHeld => ?_)
              · exact HS.out _ hq1
              clear hK K
              (try simp only [Act.put, List.setIfInBounds_toArray, List.set_cons_zero, List.set_cons_succ])
              refine wpAnyH_take (i := 30) (v := ?_) rfl (by kernel_rfl) (by kernel_rfl) (by kernel_rfl) (fun _ _ _ h => h) (Or.inl ⟨by rfl, ?_⟩) (by assumption) ?_
              rotate_left
              · intro w hSw
                (try dsimp only at hSw)
                go_simp
                (try with_reducible rfl)
              (try simp only [Act.put, List.setIfInBounds_toArray, List.set_cons_zero, List.set_cons_succ])
              refine wpAnyH_ready (rs := [31]) (by kernel_rfl) (by simp) ?_
              refine AllReadyH.cons rfl (fun K hK => ?_) AllReadyH.nil
              go_simp
              refine hK.out _ _ ?_ (fun hHeld => ?_)
              · exact HS.out _ (Below.alloc hq1 (Below.size hq1) _)
              clear hK K
              (try simp only [Act.put, List.setIfInBounds_toArray, List.set_cons_zero, List.set_cons_succ])
              refine wpAnyH_ready (rs := [32]) (by kernel_rfl) (by simp) ?_
              refine AllReadyH.cons rfl (fun K hK => ?_) AllReadyH.nil
              (refine step_append_lies _ rfl (.tmp 48) (.tmp 78) 46 rfl wd.heap.size 45 iv _ 6 104 Tryz.underlying46 hiv hv0 hv1 hv2 rfl (by omega) (.slice qo k qc) k cs (by simp [Act.eval]) HO4.out ⟨v1.heap.size, 0, none⟩ 1 1 [.string kind, .slice no ns.length nc, .string op, .int .i64 x, .string tx, .slice so' es.length sc'] (by simp [Act.eval]) rfl HN4.out (by simp [Value.oneCell']) (by omega) hn63 hby (by rw [World.size_alloc]; omega) (v1.heap.size + 1) (by simp) ?_; intro g2 cap w5 hown5 hgrow hat hlt5; have HN5 : Hid _ := heap_grown hgrow (b := nb) (fun hk => by have := (hrw.out _ hk).1; omega) (alloc_row _ HN1.out); have c4 := (blk5 HN5.out).2.2.2.2.1; have cf := (blk5 HN5.out).2.2.2.2.2 4; have hq5 : Below w.heap.size w w5 := (hq1.alloc hq1.size _).grown hgrow (by rw [World.size_alloc]; have := hq1.size; omega) (fun j hj => by have := (hrw.out j hj).1; omega); have hnw : w.heap.size ≤ (⟨nb, 4, none⟩ : Addr).block := (by show w.heap.size ≤ nb; omega))
              refine hK.out _ _ ?_ (fun hHeld => ?_)
              · exact HS.out _ hq5
              clear hK K
              (try simp only [Act.put, List.setIfInBounds_toArray, List.set_cons_zero, List.set_cons_succ])
              refine wpAnyH_take (i := 33) (v := ?_) rfl (by kernel_rfl) (by kernel_rfl) (by kernel_rfl) (fun _ _ _ h => h) (Or.inl ⟨by rfl, ?_⟩) (by assumption) ?_
              rotate_left
              · intro w hSw
                (try dsimp only at hSw)
                go_simp
                (try with_reducible rfl)
              (try simp only [Act.put, List.setIfInBounds_toArray, List.set_cons_zero, List.set_cons_succ])
              refine wpAnyH_ready (rs := [34]) (by kernel_rfl) (by simp) ?_
              refine AllReadyH.cons rfl (fun K hK => ?_) AllReadyH.nil
              go_simp
              refine hK.out _ _ ?_ (fun hHeld => ?_)
              · exact HS.out _ (Below.setCell hq5 hnw _)
              clear hK K
              (try simp only [Act.put, List.setIfInBounds_toArray, List.set_cons_zero, List.set_cons_succ])
              refine wpAnyH_done (by kernel_rfl) ?_ _
              have hz5 := hq5.size
              have hg2 : wd.heap.size ≤ g2 := by
                rcases hat with h | h
                · exact (hrw.out g2 h).1
                · omega
              have hBf : Below w.heap.size w (w5.setCell ⟨nb, 4, none⟩ (.slice (some ⟨g2, 0, none⟩) (k + 1) cap)) := hq5.setCell hnw _
              have StO : Stays (fun k' => (k' < w.heap.size ∨ wq.heap.size ≤ k') ∧ k' ≠ nb ∧ (Value.slice qo k qc).ownBlock ≠ some k') (fun k' => (k' < w.heap.size ∨ wq.heap.size ≤ k') ∧ k' ≠ nb ∧ (Value.slice (some ⟨g2, 0, none⟩) (k + 1) cap).ownBlock ≠ some k') wr (w5.setCell ⟨nb, 4, none⟩ (.slice (some ⟨g2, 0, none⟩) (k + 1) cap)) := grow_gen (n := k + 1) (cap := cap) hb1' hgrow hat (fun j hj _ => ⟨hj.2.1, hj.2.2, fun h => ⟨hj.1, hj.2.1, h⟩⟩)
              have StN : Stays (From wr.drew.heap.size) (fun k' => (k' < w.heap.size ∨ wq.heap.size ≤ k') ∧ k' ≠ nb ∧ (Value.slice (some ⟨g2, 0, none⟩) (k + 1) cap).ownBlock ≠ some k') v1 (w5.setCell ⟨nb, 4, none⟩ (.slice (some ⟨g2, 0, none⟩) (k + 1) cap)) := grow_gen (n := k + 1) (cap := cap) (Below.refl _ _) hgrow hat (fun j hj _ => by
                have hj' : wr.heap.size ≤ j := hj
                exact ⟨by omega, fun h => by have := (hrw.out j h).2; omega, fun h => ⟨Or.inr (by omega), by omega, h⟩⟩)
              have StW : Stays S (fun k' => (k' < w.heap.size ∨ wq.heap.size ≤ k') ∧ k' ≠ nb ∧ (Value.slice (some ⟨g2, 0, none⟩) (k + 1) cap).ownBlock ≠ some k') w (w5.setCell ⟨nb, 4, none⟩ (.slice (some ⟨g2, 0, none⟩) (k + 1) cap)) := fun j _ hl => ⟨⟨Or.inl hl, by omega, by intro h; simp only [Value.ownBlock, Option.some.injEq] at h; omega⟩, hBf.block j hl⟩
              have hgz := hgrow.size
              simp only [World.size_alloc] at hgz
              have hmf : Mv nb wd (w5.setCell ⟨nb, 4, none⟩ (.slice (some ⟨g2, 0, none⟩) (k + 1) cap)) := ⟨(by first | exact hBf.os.trans hbd.os.symm | exact hbd.os.symm.trans hBf.os), (by first | exact hBf.tape.trans hbd.tape.symm | exact hbd.tape.symm.trans hBf.tape), (by first | exact hBf.output.trans hbd.output.symm | exact hbd.output.symm.trans hBf.output), by simp; omega, fun j hj hn => (Below.heap_setCell _ _ _ _ (fun e => hn (by rw [e]))).trans ((hgrow.block j (by simp; omega) (fun e => by have := (hrw.out _ e.symm).1; omega)).trans ((heap_alloc_old _ _ (by omega)).trans ((hb1'.block j (by omega)).trans (hmv.block j hj hn))))⟩
              have HQ5 : Hid (EqIn (w5.setCell ⟨nb, 4, none⟩ (.slice (some ⟨g2, 0, none⟩) (k + 1) cap)) (fun k' => (k' < w.heap.size ∨ wq.heap.size ≤ k') ∧ k' ≠ nb ∧ (Value.slice (some ⟨g2, 0, none⟩) (k + 1) cap).ownBlock ≠ some k') (qs.take (k + 1)) (cs ++ [.string kind, .slice no ns.length nc, .string op, .int .i64 x, .string tx, .slice so' es.length sc'])) := by
                rw [List.take_succ_eq_append_getElem hlk, e2.out]
                exact (HQr.out.keep StO).append (.cons kind ns (.mk op x tx es) [] _ _ [] (HM.out.keep StW) (.cons op x tx es [] _ ys' [] (hrow'.keep StN) (hin'.keep StN) .nil) .nil)
              clear StO StN StW hrow' hin' HS HE
              go_wp2
              exact ⟨⟨k + 1, some ⟨g2, 0, none⟩, cap, _, by omega, by go_num, hmf, set_row HN5.out, ownsRow_mv hown5 (Mv.setAt nb 4 _ _) hnl, HQ5⟩, by simp [intOf]; omega⟩
            · refine AllReadyH.cons rfl (fun K hK => ?_) AllReadyH.nil
              (refine step_call rfl 47 #[.agg #[.string op, .int .i64 x, .string tx, .slice eo es.length ec]] (by kernel_rfl) ?_; refine (HE.out _ hbr.drew).mono ?_; rintro e v1 ⟨⟨so', sc', ys', rfl, hrow', hin'⟩, hb1⟩; have hb1' : Below wr.heap.size wr v1 := Below.trans (Below.drew (Below.refl _ _)) hb1; have hq1 : Below w.heap.size w v1 := hbr.trans (hb1'.mono hbrz); have hz1 := hb1'.size; have HN1 : Hid _ := row_keep hb1' HNr.out; have v4 := (blk5 HN1.out).2.2.2.2.1; have hltn : nb < v1.heap.size := (by omega); have HO4 : Hid _ := (ownsRow_mv (ba := nb) HOr.out (Mv.of_below hb1') hnl).alloc (.cells #[.string kind, .slice no ns.length nc, .string op, .int .i64 x, .string tx, .slice so' es.length sc'] 45); have HN4 : Hid _ := World.news_of_block (heap_alloc_new v1 (.cells #[.string kind, .slice no ns.length nc, .string op, .int .i64 x, .string tx, .slice so' es.length sc'] 45)))
              dsimp only
              refine hK.out _ _ ?_ (fun hHeld => ?_)
              · exact HS.out _ hq1
              clear hK K
              (try simp only [Act.put, List.setIfInBounds_toArray, List.set_cons_zero, List.set_cons_succ])
              refine wpAnyH_take (i := 30) (v := ?_) rfl (by kernel_rfl) (by kernel_rfl) (by kernel_rfl) (fun _ _ _ h => h) (Or.inl ⟨by rfl, ?_⟩) (by assumption) ?_
              rotate_left
              · intro w hSw
                (try dsimp only at hSw)
                go_simp
                (try with_reducible rfl)
              (try simp only [Act.put, List.setIfInBounds_toArray, List.set_cons_zero, List.set_cons_succ])
              refine wpAnyH_ready (rs := [1, 31]) (by kernel_rfl) (by simp) ?_
              refine AllReadyH.cons rfl (fun K hK => ?_) ?_
              · -- the load behind the call
                go_simp
                refine hK.out _ _ ?_ (fun hHeld => ?_)
                · exact HS.out _ hq1
                clear hK K
                (try simp only [Act.put, List.setIfInBounds_toArray, List.set_cons_zero, List.set_cons_succ])
                refine wpAnyH_ready (rs := [31]) (by kernel_rfl) (by simp) ?_
                refine AllReadyH.cons rfl (fun K hK => ?_) AllReadyH.nil
                go_simp
                refine hK.out _ _ ?_ (fun hHeld => ?_)
                · exact HS.out _ (Below.alloc hq1 (Below.size hq1) _)
                clear hK K
                (try simp only [Act.put, List.setIfInBounds_toArray, List.set_cons_zero, List.set_cons_succ])
                refine wpAnyH_ready (rs := [32]) (by kernel_rfl) (by simp) ?_
                refine AllReadyH.cons rfl (fun K hK => ?_) AllReadyH.nil
                (refine step_append_lies _ rfl (.tmp 48) (.tmp 78) 46 rfl wd.heap.size 45 iv _ 6 104 Tryz.underlying46 hiv hv0 hv1 hv2 rfl (by omega) (.slice qo k qc) k cs (by simp [Act.eval]) HO4.out ⟨v1.heap.size, 0, none⟩ 1 1 [.string kind, .slice no ns.length nc, .string op, .int .i64 x, .string tx, .slice so' es.length sc'] (by simp [Act.eval]) rfl HN4.out (by simp [Value.oneCell']) (by omega) hn63 hby (by rw [World.size_alloc]; omega) (v1.heap.size + 1) (by simp) ?_; intro g2 cap w5 hown5 hgrow hat hlt5; have HN5 : Hid _ := heap_grown hgrow (b := nb) (fun hk => by have := (hrw.out _ hk).1; omega) (alloc_row _ HN1.out); have c4 := (blk5 HN5.out).2.2.2.2.1; have cf := (blk5 HN5.out).2.2.2.2.2 4; have hq5 : Below w.heap.size w w5 := (hq1.alloc hq1.size _).grown hgrow (by rw [World.size_alloc]; have := hq1.size; omega) (fun j hj => by have := (hrw.out j hj).1; omega); have hnw : w.heap.size ≤ (⟨nb, 4, none⟩ : Addr).block := (by show w.heap.size ≤ nb; omega))
                refine hK.out _ _ ?_ (fun hHeld => ?_)
                · exact HS.out _ hq5
                clear hK K
                (try simp only [Act.put, List.setIfInBounds_toArray, List.set_cons_zero, List.set_cons_succ])
                refine wpAnyH_take (i := 33) (v := ?_) rfl (by kernel_rfl) (by kernel_rfl) (by kernel_rfl) (fun _ _ _ h => h) (Or.inl ⟨by rfl, ?_⟩) (by assumption) ?_
                rotate_left
                · intro w hSw
                  (try dsimp only at hSw)
                  go_simp
                  (try with_reducible rfl)
                (try simp only [Act.put, List.setIfInBounds_toArray, List.set_cons_zero, List.set_cons_succ])
                refine wpAnyH_ready (rs := [34]) (by kernel_rfl) (by simp) ?_
                refine AllReadyH.cons rfl (fun K hK => ?_) AllReadyH.nil
                go_simp
                refine hK.out _ _ ?_ (fun hHeld => ?_)
                · exact HS.out _ (Below.setCell hq5 hnw _)
                clear hK K
                (try simp only [Act.put, List.setIfInBounds_toArray, List.set_cons_zero, List.set_cons_succ])
                refine wpAnyH_done (by kernel_rfl) ?_ _
                have hz5 := hq5.size
                have hg2 : wd.heap.size ≤ g2 := by
                  rcases hat with h | h
                  · exact (hrw.out g2 h).1
                  · omega
                have hBf : Below w.heap.size w (w5.setCell ⟨nb, 4, none⟩ (.slice (some ⟨g2, 0, none⟩) (k + 1) cap)) := hq5.setCell hnw _
                have StO : Stays (fun k' => (k' < w.heap.size ∨ wq.heap.size ≤ k') ∧ k' ≠ nb ∧ (Value.slice qo k qc).ownBlock ≠ some k') (fun k' => (k' < w.heap.size ∨ wq.heap.size ≤ k') ∧ k' ≠ nb ∧ (Value.slice (some ⟨g2, 0, none⟩) (k + 1) cap).ownBlock ≠ some k') wr (w5.setCell ⟨nb, 4, none⟩ (.slice (some ⟨g2, 0, none⟩) (k + 1) cap)) := grow_gen (n := k + 1) (cap := cap) hb1' hgrow hat (fun j hj _ => ⟨hj.2.1, hj.2.2, fun h => ⟨hj.1, hj.2.1, h⟩⟩)
                have StN : Stays (From wr.drew.heap.size) (fun k' => (k' < w.heap.size ∨ wq.heap.size ≤ k') ∧ k' ≠ nb ∧ (Value.slice (some ⟨g2, 0, none⟩) (k + 1) cap).ownBlock ≠ some k') v1 (w5.setCell ⟨nb, 4, none⟩ (.slice (some ⟨g2, 0, none⟩) (k + 1) cap)) := grow_gen (n := k + 1) (cap := cap) (Below.refl _ _) hgrow hat (fun j hj _ => by
                  have hj' : wr.heap.size ≤ j := hj
                  exact ⟨by omega, fun h => by have := (hrw.out j h).2; omega, fun h => ⟨Or.inr (by omega), by omega, h⟩⟩)
                have StW : Stays S (fun k' => (k' < w.heap.size ∨ wq.heap.size ≤ k') ∧ k' ≠ nb ∧ (Value.slice (some ⟨g2, 0, none⟩) (k + 1) cap).ownBlock ≠ some k') w (w5.setCell ⟨nb, 4, none⟩ (.slice (some ⟨g2, 0, none⟩) (k + 1) cap)) := fun j _ hl => ⟨⟨Or.inl hl, by omega, by intro h; simp only [Value.ownBlock, Option.some.injEq] at h; omega⟩, hBf.block j hl⟩
                have hgz := hgrow.size
                simp only [World.size_alloc] at hgz
                have hmf : Mv nb wd (w5.setCell ⟨nb, 4, none⟩ (.slice (some ⟨g2, 0, none⟩) (k + 1) cap)) := ⟨(by first | exact hBf.os.trans hbd.os.symm | exact hbd.os.symm.trans hBf.os), (by first | exact hBf.tape.trans hbd.tape.symm | exact hbd.tape.symm.trans hBf.tape), (by first | exact hBf.output.trans hbd.output.symm | exact hbd.output.symm.trans hBf.output), by simp; omega, fun j hj hn => (Below.heap_setCell _ _ _ _ (fun e => hn (by rw [e]))).trans ((hgrow.block j (by simp; omega) (fun e => by have := (hrw.out _ e.symm).1; omega)).trans ((heap_alloc_old _ _ (by omega)).trans ((hb1'.block j (by omega)).trans (hmv.block j hj hn))))⟩
                have HQ5 : Hid (EqIn (w5.setCell ⟨nb, 4, none⟩ (.slice (some ⟨g2, 0, none⟩) (k + 1) cap)) (fun k' => (k' < w.heap.size ∨ wq.heap.size ≤ k') ∧ k' ≠ nb ∧ (Value.slice (some ⟨g2, 0, none⟩) (k + 1) cap).ownBlock ≠ some k') (qs.take (k + 1)) (cs ++ [.string kind, .slice no ns.length nc, .string op, .int .i64 x, .string tx, .slice so' es.length sc'])) := by
                  rw [List.take_succ_eq_append_getElem hlk, e2.out]
                  exact (HQr.out.keep StO).append (.cons kind ns (.mk op x tx es) [] _ _ [] (HM.out.keep StW) (.cons op x tx es [] _ ys' [] (hrow'.keep StN) (hin'.keep StN) .nil) .nil)
                clear StO StN StW hrow' hin' HS HE
                go_wp2
                exact ⟨⟨k + 1, some ⟨g2, 0, none⟩, cap, _, by omega, by go_num, hmf, set_row HN5.out, ownsRow_mv hown5 (Mv.setAt nb 4 _ _) hnl, HQ5⟩, by simp [intOf]; omega⟩
              · refine AllReadyH.cons rfl (fun K hK => ?_) AllReadyH.nil
                go_simp
                refine hK.out _ _ ?_ (fun hHeld => ?_)
                · exact HS.out _ (Below.alloc hq1 (Below.size hq1) _)
                clear hK K
                (try simp only [Act.put, List.setIfInBounds_toArray, List.set_cons_zero, List.set_cons_succ])
                refine wpAnyH_ready (rs := [1]) (by kernel_rfl) (by simp) ?_
                refine AllReadyH.cons rfl (fun K hK => ?_) AllReadyH.nil
                go_simp
                refine hK.out _ _ ?_ (fun hHeld => ?_)
                · exact HS.out _ (Below.alloc hq1 (Below.size hq1) _)
                clear hK K
                (try simp only [Act.put, List.setIfInBounds_toArray, List.set_cons_zero, List.set_cons_succ])
                refine wpAnyH_ready (rs := [32]) (by kernel_rfl) (by simp) ?_
                refine AllReadyH.cons rfl (fun K hK => ?_) AllReadyH.nil
                (refine step_append_lies _ rfl (.tmp 48) (.tmp 78) 46 rfl wd.heap.size 45 iv _ 6 104 Tryz.underlying46 hiv hv0 hv1 hv2 rfl (by omega) (.slice qo k qc) k cs (by simp [Act.eval]) HO4.out ⟨v1.heap.size, 0, none⟩ 1 1 [.string kind, .slice no ns.length nc, .string op, .int .i64 x, .string tx, .slice so' es.length sc'] (by simp [Act.eval]) rfl HN4.out (by simp [Value.oneCell']) (by omega) hn63 hby (by rw [World.size_alloc]; omega) (v1.heap.size + 1) (by simp) ?_; intro g2 cap w5 hown5 hgrow hat hlt5; have HN5 : Hid _ := heap_grown hgrow (b := nb) (fun hk => by have := (hrw.out _ hk).1; omega) (alloc_row _ HN1.out); have c4 := (blk5 HN5.out).2.2.2.2.1; have cf := (blk5 HN5.out).2.2.2.2.2 4; have hq5 : Below w.heap.size w w5 := (hq1.alloc hq1.size _).grown hgrow (by rw [World.size_alloc]; have := hq1.size; omega) (fun j hj => by have := (hrw.out j hj).1; omega); have hnw : w.heap.size ≤ (⟨nb, 4, none⟩ : Addr).block := (by show w.heap.size ≤ nb; omega))
                refine hK.out _ _ ?_ (fun hHeld => ?_)
                · exact HS.out _ hq5
                clear hK K
                (try simp only [Act.put, List.setIfInBounds_toArray, List.set_cons_zero, List.set_cons_succ])
                refine wpAnyH_take (i := 33) (v := ?_) rfl (by kernel_rfl) (by kernel_rfl) (by kernel_rfl) (fun _ _ _ h => h) (Or.inl ⟨by rfl, ?_⟩) (by assumption) ?_
                rotate_left
                · intro w hSw
                  (try dsimp only at hSw)
                  go_simp
                  (try with_reducible rfl)
                (try simp only [Act.put, List.setIfInBounds_toArray, List.set_cons_zero, List.set_cons_succ])
                refine wpAnyH_ready (rs := [34]) (by kernel_rfl) (by simp) ?_
                refine AllReadyH.cons rfl (fun K hK => ?_) AllReadyH.nil
                go_simp
                refine hK.out _ _ ?_ (fun hHeld => ?_)
                · exact HS.out _ (Below.setCell hq5 hnw _)
                clear hK K
                (try simp only [Act.put, List.setIfInBounds_toArray, List.set_cons_zero, List.set_cons_succ])
                refine wpAnyH_done (by kernel_rfl) ?_ _
                have hz5 := hq5.size
                have hg2 : wd.heap.size ≤ g2 := by
                  rcases hat with h | h
                  · exact (hrw.out g2 h).1
                  · omega
                have hBf : Below w.heap.size w (w5.setCell ⟨nb, 4, none⟩ (.slice (some ⟨g2, 0, none⟩) (k + 1) cap)) := hq5.setCell hnw _
                have StO : Stays (fun k' => (k' < w.heap.size ∨ wq.heap.size ≤ k') ∧ k' ≠ nb ∧ (Value.slice qo k qc).ownBlock ≠ some k') (fun k' => (k' < w.heap.size ∨ wq.heap.size ≤ k') ∧ k' ≠ nb ∧ (Value.slice (some ⟨g2, 0, none⟩) (k + 1) cap).ownBlock ≠ some k') wr (w5.setCell ⟨nb, 4, none⟩ (.slice (some ⟨g2, 0, none⟩) (k + 1) cap)) := grow_gen (n := k + 1) (cap := cap) hb1' hgrow hat (fun j hj _ => ⟨hj.2.1, hj.2.2, fun h => ⟨hj.1, hj.2.1, h⟩⟩)
                have StN : Stays (From wr.drew.heap.size) (fun k' => (k' < w.heap.size ∨ wq.heap.size ≤ k') ∧ k' ≠ nb ∧ (Value.slice (some ⟨g2, 0, none⟩) (k + 1) cap).ownBlock ≠ some k') v1 (w5.setCell ⟨nb, 4, none⟩ (.slice (some ⟨g2, 0, none⟩) (k + 1) cap)) := grow_gen (n := k + 1) (cap := cap) (Below.refl _ _) hgrow hat (fun j hj _ => by
                  have hj' : wr.heap.size ≤ j := hj
                  exact ⟨by omega, fun h => by have := (hrw.out j h).2; omega, fun h => ⟨Or.inr (by omega), by omega, h⟩⟩)
                have StW : Stays S (fun k' => (k' < w.heap.size ∨ wq.heap.size ≤ k') ∧ k' ≠ nb ∧ (Value.slice (some ⟨g2, 0, none⟩) (k + 1) cap).ownBlock ≠ some k') w (w5.setCell ⟨nb, 4, none⟩ (.slice (some ⟨g2, 0, none⟩) (k + 1) cap)) := fun j _ hl => ⟨⟨Or.inl hl, by omega, by intro h; simp only [Value.ownBlock, Option.some.injEq] at h; omega⟩, hBf.block j hl⟩
                have hgz := hgrow.size
                simp only [World.size_alloc] at hgz
                have hmf : Mv nb wd (w5.setCell ⟨nb, 4, none⟩ (.slice (some ⟨g2, 0, none⟩) (k + 1) cap)) := ⟨(by first | exact hBf.os.trans hbd.os.symm | exact hbd.os.symm.trans hBf.os), (by first | exact hBf.tape.trans hbd.tape.symm | exact hbd.tape.symm.trans hBf.tape), (by first | exact hBf.output.trans hbd.output.symm | exact hbd.output.symm.trans hBf.output), by simp; omega, fun j hj hn => (Below.heap_setCell _ _ _ _ (fun e => hn (by rw [e]))).trans ((hgrow.block j (by simp; omega) (fun e => by have := (hrw.out _ e.symm).1; omega)).trans ((heap_alloc_old _ _ (by omega)).trans ((hb1'.block j (by omega)).trans (hmv.block j hj hn))))⟩
                have HQ5 : Hid (EqIn (w5.setCell ⟨nb, 4, none⟩ (.slice (some ⟨g2, 0, none⟩) (k + 1) cap)) (fun k' => (k' < w.heap.size ∨ wq.heap.size ≤ k') ∧ k' ≠ nb ∧ (Value.slice (some ⟨g2, 0, none⟩) (k + 1) cap).ownBlock ≠ some k') (qs.take (k + 1)) (cs ++ [.string kind, .slice no ns.length nc, .string op, .int .i64 x, .string tx, .slice so' es.length sc'])) := by
                  rw [List.take_succ_eq_append_getElem hlk, e2.out]
                  exact (HQr.out.keep StO).append (.cons kind ns (.mk op x tx es) [] _ _ [] (HM.out.keep StW) (.cons op x tx es [] _ ys' [] (hrow'.keep StN) (hin'.keep StN) .nil) .nil)
                clear StO StN StW hrow' hin' HS HE
                go_wp2
                exact ⟨⟨k + 1, some ⟨g2, 0, none⟩, cap, _, by omega, by go_num, hmf, set_row HN5.out, ownsRow_mv hown5 (Mv.setAt nb 4 _ _) hnl, HQ5⟩, by simp [intOf]; omega⟩
          · obtain rfl : k = qs.length := by omega
            have hQ := HQr.out
            rw [List.take_length] at hQ
            have HQ' : Hid _ := hQ
            have HRq : Hid (RowAt wr (From wd.heap.size) 6 (.slice qo qs.length qc) qs.length cs) := RowAt.of_owns HOr.out
            have hbqr : Below wq.heap.size wq wr := hbc.trans ⟨hmv.os, hmv.tape, hmv.output, hmv.size, fun k hk => hmv.block k (by omega) (by intro e; injection e with e; omega)⟩
            have HO6 : Hid _ := (ownsRow_same HO.out hbqr).alloc (.cells #[.string name, .slice so1 ins.length sc1, .slice so2 outs.length sc2, .slice so3 owns.length sc3, .slice qo qs.length qc] 48)
            have HN6 : Hid _ := World.news_of_block (heap_alloc_new wr (.cells #[.string name, .slice so1 ins.length sc1, .slice so2 outs.length sc2, .slice so3 owns.length sc3, .slice qo qs.length qc] 48))
            have hn63 : i + 1 ≤ maxLen := by unfold maxLen; omega
            have hby : (i + 1) * 112 ≤ 140737488355328 := by omega
            have hrw : Hid (∀ j, (Value.slice so i sc).ownBlock = some j → w.heap.size ≤ j ∧ j < wq.heap.size) := fun j hj => ownsRow_block HO.out hj
            have hqrz := hbqr.size
            clear hQ
            go_wp2_with (at_builtin; refine wpList_append_lies _ rfl _ _ _ rfl w.heap.size 48 i0 _ 5 112 Tryz.underlying22 hi0 hz0 hz1 hz2 rfl (by omega) _ i cells rfl HO6.out ⟨wr.heap.size, 0, none⟩ 1 1 [.string name, .slice so1 ins.length sc1, .slice so2 outs.length sc2, .slice so3 owns.length sc3, .slice qo qs.length qc] rfl rfl HN6.out (by simp [Value.oneCell']) (by omega) hn63 hby (by simp <;> omega) (wr.heap.size + 1) (by simp) ?_; intro g2 cap w5 hown5 hgrow hat hlt5)
            have hat' : (Value.slice so i sc).ownBlock = some g2 ∨ g2 = wr.heap.size + 1 := hat
            have hgr' : (wr.alloc (.cells #[.string name, .slice so1 ins.length sc1, .slice so2 outs.length sc2, .slice so3 owns.length sc3, .slice qo qs.length qc] 48)).grownBy w5 (Value.slice so i sc).ownBlock := hgrow
            have hB5 : Below w.heap.size w w5 := (hbr.alloc hbrz _).grown hgr' (by rw [World.size_alloc]; omega) (fun j hj => (hrw.out j hj).1)
            have StO : Stays (fun k => (Value.slice so i sc).ownBlock ≠ some k) (fun k => (Value.slice (some ⟨g2, 0, none⟩) (i + 1) cap).ownBlock ≠ some k) wq w5 := grow_g0 (n := i + 1) (cap := cap) hbqr hgr' hat' (fun j hj _ => ⟨hj, fun h => h⟩)
            have StR : ∀ {S' : Nat → Prop}, (∀ j, S' j → j < w.heap.size ∨ wq.heap.size ≤ j) → Stays S' (fun k => (Value.slice (some ⟨g2, 0, none⟩) (i + 1) cap).ownBlock ≠ some k) wr w5 := fun hs => grow_g0 (n := i + 1) (cap := cap) (Below.refl _ _) hgr' hat' (fun j hj _ => ⟨fun h => by have := hrw.out j h; have := hs j hj; omega, fun h => h⟩)
            have StM : Stays (fun k => wq.heap.size ≤ k ∧ k ≠ nb) (fun k => wq.heap.size ≤ k ∧ k ≠ nb) wd wr := Stays.mv hmv (fun k hk => ⟨hk.2, hk⟩)
            have HI5 : Hid (NdIn w5 (fun k => (Value.slice (some ⟨g2, 0, none⟩) (i + 1) cap).ownBlock ≠ some k) (l.take (i + 1)) (cells ++ [.string name, .slice so1 ins.length sc1, .slice so2 outs.length sc2, .slice so3 owns.length sc3, .slice qo qs.length qc])) := by
              rw [List.take_succ_eq_append_getElem hlt, e'.out]
              exact (HI.out.keep StO).append (.cons name ins outs owns qs [] _ _ _ _ cs [] ((HR1.out.keep StM).keep (StR (fun j hj => Or.inr hj.1))) ((HR2.out.keep StM).keep (StR (fun j hj => Or.inr hj.1))) ((HR3.out.keep StM).keep (StR (fun j hj => Or.inr hj.1))) (HRq.out.keep (StR (fun j hj => Or.inr (by unfold From at hj; omega)))) (HQ'.out.keep (StR (fun j hj => hj.1))) .nil)
            clear StO StR StM
            go_wp2
            exact ⟨⟨i + 1, some ⟨g2, 0, none⟩, cap, _, by omega, by go_num, rfl, hown5, HI5, hB5⟩, by simp [intOf]; omega⟩
    · go_wp2
      go_ret
      obtain rfl : i = l.length := by omega
      have hI := HI.out
      rw [List.take_length] at hI
      exact ⟨⟨so, sc, cells, rfl, (RowAt.of_owns HO.out).keep (fun k hk _ => ⟨trivial, rfl⟩), hI.keep (fun k hk _ => ⟨trivial, rfl⟩)⟩, hb⟩
end Go.Proofs.YtglkpgcmlbhkpabGreatDoor
