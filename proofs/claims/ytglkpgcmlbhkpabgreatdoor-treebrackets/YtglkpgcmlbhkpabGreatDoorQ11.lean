/-
  package tree's WRITER: its builder of text, that lies in it: Len, WriteString, String BY THEIR CONTRACTS.
-/
import Derived.Test.YtglkpgcmlbhkpabGreatDoorQ10
import Derived.Lib.Builder
import Derived.Lib.AppendStr
import Derived.Lib.UnsafeStr
import Derived.Lib.OthersKept
import Derived.Laws.Externs
import Derived.WalkKit
import Derived.Shelf.RegionOpenPlain
import Derived.Deep.QuietTactic
import Derived.BigQuiet
import Derived.WalkSmall
namespace Go.Proofs.YtglkpgcmlbhkpabGreatDoor
open Go.RowKit
attribute [local go_sem ↓] Go.wp_at_zero Go.wp_at_succ

/-- A writer in memory: what its builder's address holds, the bytes of its buffer, how deep it is. -/
def WrAt (B b : Nat) (p : Value) (bs : List Value) (d : Nat) (w : World) : Prop :=
  B ≤ b ∧ ∃ v, w.heap[b]? = some (.cells #[p, v, .int .i64 6000, .int .i64 d] 91 (0, 0)) ∧ w.ownsRow B 5 1 v bs.length bs ∧ v.ownBlock ≠ some b
def Wr (B b : Nat) (bs : List Value) (d : Nat) (w : World) : Prop := WrAt B b (.pointer none) bs d w ∨ WrAt B b (.pointer (some ⟨b, 0, none⟩)) bs d w
abbrev Kept (b : Nat) (w w' : World) : Prop := Lib.OthersKept 5 (some b) w w'
theorem WrAt.lt {B b : Nat} {p : Value} {bs : List Value} {d : Nat} {w : World} (h : WrAt B b p bs d w) : b < w.heap.size := by
  obtain ⟨_, v, hb, _⟩ := h
  exact (Array.getElem?_eq_some_iff.1 hb).1
theorem Wr.lt {B b : Nat} {bs : List Value} {d : Nat} {w : World} (h : Wr B b bs d w) : b < w.heap.size := h.elim (·.lt) (·.lt)
theorem Wr.le {B b : Nat} {bs : List Value} {d : Nat} {w : World} (h : Wr B b bs d w) : B ≤ b := h.elim (·.1) (·.1)
theorem Wr.of {B b : Nat} {bs : List Value} {d : Nat} {w : World} (h : Wr B b bs d w) : ∃ p, (p = .pointer none ∨ p = .pointer (some ⟨b, 0, none⟩)) ∧ WrAt B b p bs d w := h.elim (fun h => ⟨_, .inl rfl, h⟩) (fun h => ⟨_, .inr rfl, h⟩)
theorem WrAt.used {B b : Nat} {p : Value} {bs : List Value} {d : Nat} {w : World} (h : WrAt B b p bs d w) (q : Value) : WrAt B b q bs d (w.setCell ⟨b, 0, none⟩ q) := by
  have hlt := h.lt
  obtain ⟨hB, v, hb, hown, hne⟩ := h
  refine ⟨hB, v, ?_, ?_, hne⟩
  · simp [World.setCell, Array.getElem?_modify, hb]
  · exact hown.kept (row := some b) ⟨rfl, rfl, rfl, by simp [World.setCell], fun k _ hk => Below.heap_setCell _ _ _ _ (fun e => hk (by simp [e]))⟩ (Or.inr hne)
theorem Tryz.infoByte : (Tryz.prog.info? 5).map (fun i => (i.zero, i.size, i.bytes)) = some (some (.int .u8 0), 1, 1) := by kernel_rfl
theorem Tryz.sizeBuilder : (Tryz.prog.info? 89).map (·.size) = some 2 := by kernel_rfl
theorem Tryz.liesBuilder : liesAt Tryz.prog Tryz.prog.depth 91 (4 / Tryz.prog.cellsOf 91) 0 89 1 = true := by kernel_rfl

set_option maxRecDepth 100000 in
set_option maxHeartbeats 1000000 in
theorem wcheck_used (b : Nat) (w : World) (h0 : w.cell? ⟨b, 0, none⟩ = some (.pointer (some ⟨b, 0, none⟩))) :
    Calls Tryz.prog 210 #[.pointer (some ⟨b, 0, none⟩)] w fun e w' => e = .returned (.tuple #[]) ∧ w' = w := by
  obtain ⟨j, hj, _⟩ := Option.map_eq_some_iff.1 Tryz.sizeBuilder
  go_enter Tryz.func210, Tryz.ntmps210
  go_wp2
  rw [Lib.run_neq_ptr_same w _ Tryz.underlying86 hj]
  go_wp2
  go_end0
  exact ⟨rfl, rfl⟩
set_option maxRecDepth 100000 in
set_option maxHeartbeats 1000000 in
theorem wcheck_fresh (b : Nat) (w : World) (h0 : w.cell? ⟨b, 0, none⟩ = some (.pointer none)) (hsh : w.shape? b = some (91, 4)) (hfz : w.frozen? ⟨b, 0, none⟩ = false) :
    Calls Tryz.prog 210 #[.pointer (some ⟨b, 0, none⟩)] w fun e w' => e = .returned (.tuple #[]) ∧ w' = w.setCell ⟨b, 0, none⟩ (.pointer (some ⟨b, 0, none⟩)) := by
  obtain ⟨j, hj, hjs⟩ := Option.map_eq_some_iff.1 Tryz.sizeBuilder
  go_enter Tryz.func210, Tryz.ntmps210
  go_wp2
  rw [Lib.run_to_unsafe w ⟨b, 0, none⟩ Tryz.underlying86 Tryz.underlying178 hj (by rw [hjs]; decide) hsh (by simp)]
  simp only [Result.andThen]
  rw [Oper.upon_value]
  go_wp2
  rw [run_callFunc_extern Tryz.func227 (by kernel_rfl) (by kernel_rfl) (by kernel_rfl) (e := Extern.AbiNoEscape.same) (by kernel_rfl)]
  rw [Lib.run_noEscape]
  simp only [Result.andThen]
  rw [Oper.upon_value]
  go_wp2
  rw [Lib.run_from_unsafe w ⟨b, 0, none⟩ Tryz.underlying178 Tryz.underlying86 hj hsh Tryz.liesBuilder]
  simp only [Result.andThen]
  rw [Oper.upon_value]
  go_wp2
  go_end0
  exact ⟨rfl, rfl⟩
theorem wcheck_any (B b : Nat) (bs : List Value) (d : Nat) (w : World) (h : Wr B b bs d w) :
    Calls Tryz.prog 210 #[.pointer (some ⟨b, 0, none⟩)] w fun e w' => e = .returned (.tuple #[]) ∧ WrAt B b (.pointer (some ⟨b, 0, none⟩)) bs d w' ∧ Below B w w' ∧ Kept b w w' := by
  rcases h with h | h
  · have h' := h
    obtain ⟨hB, v, hb, _⟩ := h
    refine (wcheck_fresh b w (by simp [World.cell?, hb]) (by simp [World.shape?, hb]) (by simp [World.frozen?, hb])).mono ?_
    rintro e w' ⟨rfl, rfl⟩
    exact ⟨rfl, h'.used _, (Below.refl B w).setCell (p := ⟨b, 0, none⟩) hB _, (Lib.OthersKept.refl _ _ _).setCell ⟨b, 0, none⟩ rfl _⟩
  · have h' := h
    obtain ⟨hB, v, hb, _⟩ := h
    refine (wcheck_used b w (by simp [World.cell?, hb])).mono ?_
    rintro e w' ⟨rfl, rfl⟩
    exact ⟨rfl, h', Below.refl B _, Lib.OthersKept.refl _ _ _⟩
theorem own_slice {w : World} {B : Nat} {e : TypeId} {n : Nat} {v : Value} {xs : List Value} (h : w.ownsRow B e 1 v n xs) : ∃ ao cap, v = .slice ao n cap := by
  rcases h.2 with ⟨hv, h0⟩ | ⟨g, cap, cur, hv, _⟩
  · exact ⟨none, 0, by rw [hv, h0]⟩
  · exact ⟨_, _, hv⟩
set_option maxRecDepth 100000 in
set_option maxHeartbeats 1000000 in
theorem wlen_any (B b : Nat) (bs : List Value) (d : Nat) (w : World) (h : Wr B b bs d w) :
    Calls Tryz.prog 179 #[.pointer (some ⟨b, 0, none⟩)] w fun e w' => e = .returned (.int .i64 bs.length) ∧ w' = w := by
  obtain ⟨p, _, hB, v, hb, hown, hne⟩ := h.of
  obtain ⟨ao, cap, rfl⟩ := own_slice hown
  have c1 : w.cell? ⟨b, 1, none⟩ = some (.slice ao bs.length cap) := by simp [World.cell?, hb]
  go_enter Tryz.func179, Tryz.ntmps179
  go_wp2
  go_ret
  exact ⟨rfl, rfl⟩
set_option maxRecDepth 100000 in
set_option maxHeartbeats 1000000 in
theorem wstr_any (B b : Nat) (bs : List Value) (d : Nat) (s : ByteArray) (w : World) (h : Wr B b bs d w) (hlen : bs.length + s.size ≤ 140737488355328) (hBw : B ≤ w.heap.size) :
    Calls Tryz.prog 181 #[.pointer (some ⟨b, 0, none⟩), .string s] w fun e w' => e = .returned (.tuple #[.int .i64 s.size, .nilIface]) ∧ Wr B b (bs ++ Lib.strCells s) d w' ∧ Below B w w' ∧ Kept b w w' := by
  obtain ⟨i0, hi, hz0, hz1, hz2⟩ := info_parts Tryz.infoByte
  go_enter Tryz.func181, Tryz.ntmps181
  go_wp2_with fail
  refine (wcheck_any B b bs d _ h).mono ?_
  rintro e w1 ⟨rfl, h1, hb1, hk1⟩
  obtain ⟨hB, v, hbk, hown, hne⟩ := h1
  have c0 : w1.cell? ⟨b, 0, none⟩ = some (.pointer (some ⟨b, 0, none⟩)) := by simp [World.cell?, hbk]
  have c1 : w1.cell? ⟨b, 1, none⟩ = some v := by simp [World.cell?, hbk]
  go_wp2_with (at_builtin; refine Lib.wpList_append_own_string _ rfl _ _ 87 9 rfl B 5 i0 Tryz.underlying87 Tryz.underlying9 hi hz0 hz1 hz2 _ _ _ rfl hown s rfl ?c3 ?c4 ?c5 ?_)
  case c3 => unfold maxLen; omega
  case c4 => omega
  case c5 => have := hb1.size; omega
  intro v' w2 hown' hgrow _
  have hlt : b < w1.heap.size := (Array.getElem?_eq_some_iff.1 hbk).1
  have hb2 : w2.heap[b]? = some (.cells #[.pointer (some ⟨b, 0, none⟩), v, .int .i64 6000, .int .i64 d] 91 (0, 0)) := by
    rw [hgrow.block b hlt (fun e => hne e.symm)]
    exact hbk
  have d0 : w2.cell? ⟨b, 0, none⟩ = some (.pointer (some ⟨b, 0, none⟩)) := by simp [World.cell?, hb2]
  have d1 : w2.cell? ⟨b, 1, none⟩ = some v := by simp [World.cell?, hb2]
  have f1 : w2.frozen? ⟨b, 1, none⟩ = false := Lib.frozen_of_heap hb2 1
  obtain ⟨ao, n', cap, rfl⟩ : ∃ ao n' cap, v' = .slice ao n' cap := by
    obtain ⟨ao, cap, e⟩ := own_slice hown'
    exact ⟨ao, _, cap, e⟩
  go_wp2
  go_ret2
  have hne' := Lib.ownBlock_ne hown' hb2 (by decide)
  refine ⟨rfl, Or.inr ⟨hB, _, set_row hb2, ?_, hne'⟩, ?_, ?_⟩
  · rw [List.length_append, Lib.strCells_length]
    exact hown'.kept (row := some b) ⟨rfl, rfl, rfl, by simp [World.setCell], fun k _ hk => Below.heap_setCell _ _ _ _ (fun e => hk (by simp [e]))⟩ (Or.inr hne')
  · exact (hb1.grown hgrow (by have := hb1.size; omega) (fun k hk => (hown.lt k hk).1)).setCell (p := ⟨b, 1, none⟩) hB _
  · refine (hk1.grown hgrow (fun g hg => ?_)).setCell ⟨b, 1, none⟩ rfl _
    rcases hown.2 with ⟨hv, _⟩ | ⟨g', cap, cur, hv, _, hh, _⟩
    · rw [hv] at hg; cases hg
    · rw [hv] at hg; cases hg; exact ⟨_, _, hh⟩
theorem Tryz.cellsByte : Tryz.prog.cellsOf 5 = 1 := by kernel_rfl
set_option maxRecDepth 100000 in
set_option maxHeartbeats 1000000 in
theorem wString_any (B b : Nat) (l : List UInt8) (d : Nat) (w : World) (h : Wr B b (Lib.byteCells l) d w) (h0 : l ≠ []) :
    Calls Tryz.prog 37 #[.pointer (some ⟨b, 0, none⟩)] w fun e w' => e = .returned (.string ⟨l.toArray⟩) ∧ Below B w w' ∧ Kept b w w' := by
  obtain ⟨p, _, hB, v, hbk, hown, hne⟩ := h.of
  have hl0 : l.length ≠ 0 := by simpa using h0
  rw [Lib.byteCells_length] at hown
  obtain ⟨g, cap, cur, rfl, hbg, hg, hnc, hcm, hcs, htake⟩ : ∃ g cap cur, v = .slice (some ⟨g, 0, none⟩) l.length cap ∧ B ≤ g ∧ w.heap[g]? = some (.cells cur 5 (0, 0)) ∧ l.length ≤ cap ∧ cap ≤ maxLen ∧ cur.size = cap * 1 ∧ cur.toList.take (l.length * 1) = Lib.byteCells l := by
    rcases hown.2 with ⟨_, hz⟩ | ⟨g, cap, cur, hv, r⟩
    · exact absurd hz hl0
    · exact ⟨g, cap, cur, hv, r⟩
  have c1 : w.drew.cell? ⟨b, 1, none⟩ = some (.slice (some ⟨g, 0, none⟩) l.length cap) := by
    have : w.drew.heap[b]? = some (.cells #[p, .slice (some ⟨g, 0, none⟩) l.length cap, .int .i64 6000, .int .i64 d] 91 (0, 0)) := hbk
    simp [World.cell?, this]
  have hSD : (Builtin.unsafeSliceData_ #[87] 167 #[.slice (some ⟨g, 0, none⟩) l.length cap]).run Tryz.prog w.drew = .ok (.pointer (some ⟨g, 0, none⟩)) w.drew :=
    Lib.run_unsafeSliceData_row _ _ _ _ _ _ (by omega)
  have hUS : (Builtin.unsafeString_ #[167, 3] 9 #[.pointer (some ⟨g, 0, none⟩), .int .i64 l.length]).run Tryz.prog w.drew = .ok (.string ⟨l.toArray⟩) (w.drew.freeze ⟨g, 0, none⟩ l.length) := by
    refine Lib.run_unsafeString_row w.drew 167 3 9 5 Tryz.underlying167 Tryz.cellsByte g cur.size (by have hg' : w.drew.heap[g]? = some (.cells cur 5 (0, 0)) := hg; simp [World.shape?, hg']) l h0 (by omega) (by unfold maxLen at hcm; omega) ?_
    intro j x hx
    have hj : j < l.length := (List.getElem?_eq_some_iff.1 hx).1
    have e : (⟨g, 0, none⟩ : Addr).add j = ⟨g, j, none⟩ := by cases j <;> simp [Addr.add]
    rw [e]
    show w.cell? ⟨g, j, none⟩ = _
    rw [cell_of_row w g j cur 5 (0, 0) hg]
    have hx' : (Lib.byteCells l)[j]? = some (.int .u8 x.toNat) := by simp [Lib.byteCells, hx]
    rw [← htake, List.getElem?_take] at hx'
    split at hx'
    · simpa using hx'
    · cases hx'
  have mixed : Tryz.prog.follows Departure.mixedOrders = true := by kernel_rfl
  go_enter Tryz.func37, Tryz.ntmps37
  go_wp2
  go_region_o
  all_goals (go_wp2; go_ret; exact ⟨rfl, Lib.below_freeze (Below.drew (Below.refl B w)) (p := ⟨g, 0, none⟩) hbg _, Lib.OthersKept.freeze (Lib.OthersKept.drew (Lib.OthersKept.refl _ _ _)) ⟨g, 0, none⟩ _ ⟨_, _, hg⟩⟩)
end Go.Proofs.YtglkpgcmlbhkpabGreatDoor

/-
  package tree's WRITER: put BY ITS CONTRACT (where there is room).
-/
namespace Go.Proofs.YtglkpgcmlbhkpabGreatDoor
open Go.RowKit
attribute [local go_sem ↓] Go.wp_at_zero Go.wp_at_succ

/-- A writer that has written these bytes. -/
def WT (B b : Nat) (l : List UInt8) (d : Nat) (w : World) : Prop := Wr B b (Lib.byteCells l) d w
/-- All of these, one behind the other. -/
def cat : List ByteArray → List UInt8
  | [] => []
  | x :: xs => x.data.toList ++ cat xs
theorem cat_append (xs ys : List ByteArray) : cat (xs ++ ys) = cat xs ++ cat ys := by
  induction xs with
  | nil => rfl
  | cons x xs ih => simp [cat, ih]
theorem byteCells_append (l : List UInt8) (s : ByteArray) : Lib.byteCells (l ++ s.data.toList) = Lib.byteCells l ++ Lib.strCells s := by
  simp [Lib.byteCells, Lib.strCells]
theorem Wr.kept {B b : Nat} {bs : List Value} {d : Nat} {w : World} (h : Wr B b bs d w) (o : Obj) : Wr B b bs d (w.alloc o) := by
  have hl := h.lt
  rcases h with ⟨hB, v, hb, hown, hne⟩ | ⟨hB, v, hb, hown, hne⟩
  · exact Or.inl ⟨hB, v, alloc_row _ hb, hown.alloc _, hne⟩
  · exact Or.inr ⟨hB, v, alloc_row _ hb, hown.alloc _, hne⟩
theorem Wr.most {B b : Nat} {bs : List Value} {d : Nat} {w : World} (h : Wr B b bs d w) : w.cell? ⟨b, 2, none⟩ = some (.int .i64 6000) := by
  obtain ⟨p, _, _, v, hb, _⟩ := h.of
  simp [World.cell?, hb]
theorem Wr.drewN {B b : Nat} {bs : List Value} {d : Nat} {w : World} (h : Wr B b bs d w) (n : Nat) : Wr B b bs d (w.drewN n) := h

theorem cat_take_succ : ∀ (xs : List ByteArray) (i : Nat) (hi : i < xs.length), cat (xs.take (i + 1)) = cat (xs.take i) ++ xs[i].data.toList
  | [], i, hi => by simp at hi
  | x :: xs, 0, _ => by simp [cat]
  | x :: xs, i + 1, hi => by simp [cat, cat_take_succ xs i (by simpa using hi)]
theorem cat_take_le : ∀ (xs : List ByteArray) (i : Nat), (cat (xs.take i)).length ≤ (cat xs).length
  | [], i => by simp
  | x :: xs, 0 => by simp [cat]
  | x :: xs, i + 1 => by have := cat_take_le xs i; simp [cat]; omega

set_option maxRecDepth 100000 in
set_option maxHeartbeats 1000000 in
theorem put_ok (B b : Nat) (l : List UInt8) (d : Nat) (w : World) (q : Nat) (xs : List ByteArray) (n : Nat) (hn : xs.length = n) (h : WT B b l d w) (hq : w.heap[q]? = some (.cells (xs.map Value.string).toArray 9 (0, 0))) (hqb : q ≠ b) (hBw : B ≤ w.heap.size) (hl : l.length + (cat xs).length ≤ 6000) (hn1 : n ≤ 1000) :
    Calls Tryz.prog 129 #[.pointer (some ⟨b, 0, none⟩), .slice (some ⟨q, 0, none⟩) n n] w fun e w' => e = .returned (.tuple #[]) ∧ WT B b (l ++ cat xs) d w' ∧ Below B w w' ∧ Kept b w w' := by
  subst hn
  have HQ : Hid (w.heap[q]? = some (.cells (xs.map Value.string).toArray 9 (0, 0))) := hq
  clear hq
  go_enter Tryz.func129, Tryz.ntmps129
  go_wp2
  go_loopw [8] (fun t wr => ∃ i : Nat, i ≤ xs.length ∧ t = .int .i64 i ∧ WT B b (l ++ cat (xs.take i)) d wr ∧ Below B w wr ∧ Kept b w wr) (fun t _ => xs.length - (intOf t).toNat)
  case atStart => exact ⟨0, Nat.zero_le _, rfl, by simpa [cat] using h, Below.refl _ _, Lib.OthersKept.refl _ _ _⟩
  case round =>
    obtain ⟨i, hi, rfl, hr, hb, hk⟩ := hrel
    by_cases hlt : i < xs.length
    · have hqr := hk q _ HQ.out (by simpa using hqb) (by intro c fz e; injection e with _ e; exact absurd e (by decide))
      have c0 : wr.cell? ⟨q, i, none⟩ = some (.string xs[i]) := by simp [World.cell?, hqr, hlt]
      have i0 : (0 : Int) ≤ (i : Int) := by omega
      have i1 : (i : Int) < (xs.length : Int) := by omega
      have e1 := cat_take_succ xs i hlt
      have e2 := cat_take_le xs (i + 1)
      have e3 : (Lib.byteCells (l ++ cat (xs.take i))).length = l.length + (cat (xs.take i)).length := by rw [Lib.byteCells_length, List.length_append]
      have e4 : l.length + (cat (xs.take i)).length + xs[i].size ≤ 6000 := by
        have : (cat (xs.take (i + 1))).length = (cat (xs.take i)).length + xs[i].size := by rw [e1, List.length_append]; rfl
        omega
      have e5 : ¬ ((6000 : Int) - ((Lib.byteCells (l ++ cat (xs.take i))).length : Int) < (xs[i].size : Int)) := by omega
      have c2 := Wr.most hr
      have hB := hr.le
      clear hqr
      go_wp2_with fail
      go_quiet (exact Calls.quiet_of_same (wlen_any B b _ d _ (Wr.drewN hr _)))
      go_wp2_with fail
      refine (wstr_any B b _ d xs[i] (wr.drewN nq) (Wr.drewN hr nq) (by omega) (Nat.le_trans hBw hb.size)).mono ?_
      rintro e w3 ⟨rfl, hr3, hb3', hk3'⟩
      have hb3 : Below B wr w3 := (below_drewN (Below.refl B wr) nq).trans hb3'
      have hk3 : Kept b wr w3 := hk3'
      go_wp2
      refine ⟨⟨i + 1, by omega, by go_num, ?_, hb.trans hb3, hk.trans hk3⟩, by simp [intOf]; omega⟩
      rw [e1, ← List.append_assoc]
      show Wr B b (Lib.byteCells ((l ++ cat (xs.take i)) ++ xs[i].data.toList)) d w3
      rw [byteCells_append]
      exact hr3
    · obtain rfl : i = xs.length := by omega
      rw [List.take_length] at hr
      go_wp2
      go_end0
      exact ⟨rfl, hr, hb, hk⟩
end Go.Proofs.YtglkpgcmlbhkpabGreatDoor
