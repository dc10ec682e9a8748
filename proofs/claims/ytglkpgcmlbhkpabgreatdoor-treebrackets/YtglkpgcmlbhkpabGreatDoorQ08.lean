/-
  lex.Lex BY ITS CONTRACTS: of a text of more than 6000 bytes: the error that ErrBound holds; of any other one: its tokens in new memory, or a new *api.Fault with ErrText where none begins. What was in memory stays. Conditions: ErrText, ErrBound and strconv's ErrRange hold errors.
-/
import Derived.Test.YtglkpgcmlbhkpabGreatDoorQ05
import Derived.Deep.AppendLies
import Derived.OwnWalk
import Derived.Test.YtglkpgcmlbhkpabGreatDoorQ07
import Derived.Test.YtglkpgcmlbhkpabGreatDoorQ01
import Derived.Deep.QuietTactic
import Derived.BigQuiet
import Derived.WalkSmall
import Derived.Test.YtglkpgcmlbhkpabGreatDoorQ06
namespace Go.Proofs.YtglkpgcmlbhkpabGreatDoor
open Go.RowKit
attribute [local go_sem ↓] Go.wp_at_zero Go.wp_at_succ

theorem Tryz.infoTok : (Tryz.prog.info? 174).map (fun i => (i.zero, i.size, i.bytes)) = some (some (.agg #[.string ⟨#[]⟩, .string ⟨#[]⟩, .int .i64 0]), 3, 40) := by kernel_rfl

theorem lex_long (s : ByteArray) (w : World) (vB : Value) (h : 6000 < s.size) (hm : s.size ≤ maxLen) (hB : w.cell? ⟨2, 0, none⟩ = some vB) (hv : ∃ t x, vB = .iface t x) :
    Calls Tryz.prog 40 #[.string s] w fun e w' => e = .returned (.tuple #[.slice none 0 0, vB]) ∧ ∃ k, w' = w.drewN k := by
  obtain ⟨t, x, rfl⟩ := hv
  unfold maxLen at hm
  go_enter Tryz.func40, Tryz.ntmps40
  go_wp2
  go_quiet (fail)
  go_wp2
  go_ret2
  exact ⟨rfl, _, rfl⟩

theorem ownsRow_mv {ba base : Nat} {w w' : World} {e : TypeId} {size : Nat} {v : Value} {n : Nat} {xs : List Value} (h : w.ownsRow base e size v n xs) (hm : Mv ba w w') (hb : ba < base) : w'.ownsRow base e size v n xs := by
  obtain ⟨h1, h2⟩ := h
  refine ⟨h1, ?_⟩
  rcases h2 with h2 | ⟨g, cap, cur, hv, hg, hh, r⟩
  · exact Or.inl h2
  · refine Or.inr ⟨g, cap, cur, hv, hg, ?_, r⟩
    have hl : g < w.heap.size := by
      rcases Nat.lt_or_ge g w.heap.size with h | h
      · exact h
      · rw [Array.getElem?_eq_none h] at hh; cases hh
    rw [hm.block g hl (by intro e; injection e with e; omega)]; exact hh

theorem ownsRow_low {base base' : Nat} {w : World} {e : TypeId} {size : Nat} {v : Value} {n : Nat} {xs : List Value} (h : w.ownsRow base e size v n xs) (hb : base' ≤ base) : w.ownsRow base' e size v n xs := by
  obtain ⟨h1, h2⟩ := h
  refine ⟨h1, ?_⟩
  rcases h2 with h2 | ⟨g, cap, cur, hv, hg, r⟩
  · exact Or.inl h2
  · exact Or.inr ⟨g, cap, cur, hv, Nat.le_trans hb hg, r⟩
theorem ownsRow_block {base : Nat} {w : World} {e : TypeId} {size : Nat} {v : Value} {n : Nat} {xs : List Value} (h : w.ownsRow base e size v n xs) {k : Nat} (hk : v.ownBlock = some k) : base ≤ k ∧ k < w.heap.size := by
  obtain ⟨_, h2⟩ := h
  rcases h2 with ⟨rfl, _⟩ | ⟨g, cap, cur, rfl, hg, hh, r⟩
  · cases hk
  · have e : g = k := by simpa [Value.ownBlock] using hk
    subst e
    refine ⟨hg, ?_⟩
    rcases Nat.lt_or_ge g w.heap.size with h | h
    · exact h
    · rw [Array.getElem?_eq_none h] at hh; cases hh
theorem cell_grown {w w' : World} {row : Option Nat} (hg : w.grownBy w' row) {p : Addr} {v : Value} (hr : row ≠ some p.block) (hc : w.cell? p = some v) : w'.cell? p = some v := by
  rw [World.cell?_of_block (w := w) (hg.block p.block (lt_of_cell hc) (Ne.symm hr))]; exact hc
theorem Rdr.grown {bs ba bc bt bk B : Nat} {s : ByteArray} {i : Nat} {w w' : World} {row : Option Nat} (R : Rdr bs ba bc bt bk s i w) (hg : w.grownBy w' row) (hr : ∀ k, row = some k → B ≤ k) (l1 : bs < B) (l2 : ba < B) (l3 : bc < B) (l4 : bt < B) (l5 : bk < B) : Rdr bs ba bc bt bk s i w' := by
  have f : ∀ {b : Nat}, b < B → row ≠ some b := fun {b} hb e => by have := hr b e; omega
  exact ⟨cell_grown hg (f l1) R.hs, cell_grown hg (f l2) R.ha, by rw [World.frozen?_of_block (w := w) (hg.block ba R.lt (Ne.symm (f l2)))]; exact R.hf, cell_grown hg (f l3) R.hc, cell_grown hg (f l4) R.ht, cell_grown hg (f l5) R.hk, R.ns, R.nc, R.nt, R.nk⟩

set_option maxRecDepth 100000 in
set_option maxHeartbeats 2000000 in
theorem lex_any (s : ByteArray) (w : World) (pT : Addr) (ev : Value) (hs : s.size ≤ 6000) (hT : w.cell? ⟨1, 0, none⟩ = some (.iface 325 (.pointer (some pT)))) (hv : w.cell? ⟨11, 0, none⟩ = some ev) (hev : ev = .nilIface ∨ ∃ te pe, ev = .iface te pe) :
    Calls Tryz.prog 40 #[.string s] w fun e w' => Below w.heap.size w w' ∧
      ((∃ (l : List Tk) (v : Value), Lexes s 0 l none ∧ e = .returned (.tuple #[v, .nilIface]) ∧ w'.ownsRow w.heap.size 174 3 v l.length (tkCells l)) ∨
       (∃ (l : List Tk) (j p : Nat), Lexes s 0 l (some j) ∧ e = .returned (.tuple #[.slice none 0 0, .iface 111 (.pointer (some ⟨p, 0, none⟩))]) ∧ w'.cell? ⟨p, 0, none⟩ = some (.int .i64 j) ∧ w'.cell? ⟨p, 0 + 1, none⟩ = some (.iface 325 (.pointer (some pT))))) := by
  obtain ⟨i0, hi0, hz0, hz1, hz2⟩ := info_parts Tryz.infoTok
  go_enter Tryz.func40, Tryz.ntmps40
  go_wp2_with fail
  refine (reader_any s _).mono ?_
  rintro e w1 ⟨bs, ba, bc, bt, bk, rfl, hba, R, hb⟩
  go_wp2
  go_loopw [5] (fun v wr => ∃ (l : List Tk) (i : Nat), Reads s l i ∧ wr.ownsRow w1.heap.size 174 3 v l.length (tkCells l) ∧ Rdr bs ba bc bt bk s i wr ∧ Below w.heap.size w wr ∧ w1.heap.size ≤ wr.heap.size) (fun _ wr => s.size - cellNat wr ba)
  case atStart => exact ⟨[], 0, .start, ⟨rfl, Or.inl ⟨rfl, rfl⟩⟩, R, hb, Nat.le_refl _⟩
  case round =>
    obtain ⟨l, i, hrd, hown, Rr, hbr, hsz⟩ := hrel
    have hle := hrd.le
    have hvr := cell_keep hbr hv
    have hTr := cell_keep hbr hT
    have hgb : 11 ≠ ba := by have := lt_of_cell hv; have h2 : 11 < w.heap.size := this; omega
    go_wp2_with fail
    refine (next_any bs ba bc bt bk s i _ Rr hle.1 hs ev hvr hev hgb).mono ?_
    rintro e w2 ⟨j, n, kind, text, St, hcom, T, rfl, R2, hm2⟩
    have hba2 : ba < w1.heap.size := R.lt
    have hown2 := ownsRow_mv hown hm2 hba2
    have hT2 := hm2.cell (p := ⟨1, 0, none⟩) (by have := lt_of_cell hT; have h2 : 1 < w.heap.size := this; show 1 ≠ ba; omega) hTr
    have hb2 : Below w.heap.size w w2 := ⟨hm2.os.trans hbr.os, hm2.tape.trans hbr.tape, hm2.output.trans hbr.output, Nat.le_trans hbr.size hm2.size, fun k hk => (hm2.block k (Nat.lt_of_lt_of_le hk hbr.size) (by intro e; injection e with e; omega)).trans (hbr.block k hk)⟩
    have lT := lt_of_cell hT2
    have hsz2 : w1.heap.size ≤ w2.heap.size := Nat.le_trans hsz hm2.size
    clear hvr hTr hown
    have hnb : ((w2.alloc (.cells #[.string kind, .string text, .int .i64 j] 174)).alloc (.cells #[.string kind, .string text, .int .i64 j] 174)).heap[w2.heap.size + 1]? = some (.cells #[.string kind, .string text, .int .i64 j] 174 (0, 0)) := by
      show ((w2.heap.push _).push _)[w2.heap.size + 1]? = _
      rw [Array.getElem?_push, if_pos (by simp)]
    have hn63 : l.length + 1 ≤ maxLen := by unfold maxLen; omega
    have hby : (l.length + 1) * 40 ≤ 140737488355328 := by omega
    by_cases h0 : kind.toList.isEmpty = true
    · clear hnb hn63 hby
      go_wp2
      go_region
      all_goals
        go_wp2
        go_ret2
        refine ⟨((hb2.alloc hb2.size _).alloc (Nat.le_trans hb2.size (by simp)) _).drew, Or.inr ⟨_, j, w2.heap.size + 1, hrd.lexes (.bad i j n kind text St hcom T h0), rfl, ?_, ?_⟩⟩
        · show ((w2.alloc _).alloc _).cell? _ = _
          rw [World.cell?_alloc_at _ _ _ _ (by simp)]; rfl
        · show ((w2.alloc _).alloc _).cell? _ = _
          rw [World.cell?_alloc_at _ _ _ _ (by simp)]; rfl
    · have h0' : kind.toList.isEmpty = false := by simpa using h0
      clear h0
      have HN := World.news_of_block hnb
      have HN' : Hid _ := HN
      clear HN hnb
      have hrow : ∀ k, u5.ownBlock = some k → w1.heap.size ≤ k ∧ k < w2.heap.size := fun k hk => ownsRow_block hown2 hk
      have hw2k : u5.ownBlock ≠ some w2.heap.size := fun e => by have := (hrow _ e).2; omega
      have hkc : ((w2.alloc (.cells #[.string kind, .string text, .int .i64 j] 174)).alloc (.cells #[.string kind, .string text, .int .i64 j] 174)).cell? ⟨w2.heap.size, 0, none⟩ = some (.string kind) := by
        rw [World.cell?_alloc_past _ _ _ (by simp), World.cell?_alloc_at _ _ _ _ rfl]; rfl
      have l1 := lt_of_cell R.hs
      have l3 := lt_of_cell R.hc
      have l4 := lt_of_cell R.ht
      have l5 := lt_of_cell R.hk
      by_cases h1 : (kind.toList == [101, 110, 100]) = true
      · go_wp2_with (at_builtin; refine wpList_append_lies _ rfl _ _ _ rfl w1.heap.size 174 i0 _ 3 40 Tryz.underlying99 hi0 hz0 hz1 hz2 rfl (by omega) _ l.length (tkCells l) rfl ((hown2.alloc _).alloc _) ⟨w2.heap.size + 1, 0, none⟩ 1 1 [.string kind, .string text, .int .i64 j] rfl rfl HN'.out (by simp [Value.oneCell']) (by omega) hn63 hby (by simp; omega) (w2.heap.size + 1 + 1) (by simp) ?_; intro g cap w3 hown3 hgrow hat hlt; have hk3 := cell_grown (p := ⟨w2.heap.size, 0, none⟩) hgrow hw2k hkc)
        go_ret2
        refine ⟨((hb2.alloc hb2.size _).alloc (Nat.le_trans hb2.size (by simp)) _).grown hgrow (Nat.le_trans hb2.size (by simp; omega)) (fun k hk => Nat.le_trans hb.size (hrow k hk).1), Or.inl ⟨l ++ [⟨kind, text, j⟩], _, hrd.lexes (.fin i j n kind text St hcom T h0' h1), rfl, ?_⟩⟩
        rw [tkCells_snoc, List.length_append]
        exact ownsRow_low hown3 hb.size
      · have h1' : (kind.toList == [101, 110, 100]) = false := by simpa using h1
        clear h1
        go_wp2_with (at_builtin; refine wpList_append_lies _ rfl _ _ _ rfl w1.heap.size 174 i0 _ 3 40 Tryz.underlying99 hi0 hz0 hz1 hz2 rfl (by omega) _ l.length (tkCells l) rfl ((hown2.alloc _).alloc _) ⟨w2.heap.size + 1, 0, none⟩ 1 1 [.string kind, .string text, .int .i64 j] rfl rfl HN'.out (by simp [Value.oneCell']) (by omega) hn63 hby (by simp; omega) (w2.heap.size + 1 + 1) (by simp) ?_; intro g cap w3 hown3 hgrow hat hlt; have hk3 := cell_grown (p := ⟨w2.heap.size, 0, none⟩) hgrow hw2k hkc)
        have R3 := ((R2.alloc _).alloc _).grown hgrow (fun k hk => (hrow k hk).1) l1 hba2 l3 l4 l5
        have hp := T.pos h0' h1'
        have hl2 := T.le St.le
        have hij := St.skips.le
        have hn1 := Rr.nat
        have hn2 := R3.nat
        refine ⟨⟨l ++ [⟨kind, text, j⟩], j + n, .tok l i j n kind text hrd St hcom T h0' h1', ?_, R3, ((hb2.alloc hb2.size _).alloc (Nat.le_trans hb2.size (by simp)) _).grown hgrow (Nat.le_trans hb2.size (by simp; omega)) (fun k hk => Nat.le_trans hb.size (hrow k hk).1), Nat.le_trans hsz2 (Nat.le_trans (by simp; omega) hgrow.size)⟩, ?_⟩
        · rw [tkCells_snoc, List.length_append]
          exact hown3
        · rw [hn1, hn2]; omega
end Go.Proofs.YtglkpgcmlbhkpabGreatDoor

/-
  lustrumref1.LexOf BY ITS CONTRACTS: of a text of more than 6000 bytes: the bound; of any other one: its tokens in new memory, or where none begins.
-/
namespace Go.Proofs.YtglkpgcmlbhkpabGreatDoor
open Go.RowKit

theorem byte_from (s : ByteArray) (j k : Nat) (h : j + k < s.size) : byteI (s.extract j s.size) k = byteI s (j + k) := by
  rw [byteI_lt (by rw [ByteArray.size_extract]; omega), byteI_lt h, ByteArray.getElem_extract]
theorem run_from {p : Int → Bool} {s : ByteArray} {j n : Nat} (hj : j ≤ s.size) (r : IsRun p (s.extract j s.size) 0 n) : IsRun p s j n := by
  have hsz : (s.extract j s.size).size = s.size - j := by rw [ByteArray.size_extract]; omega
  have hle := r.le
  rw [hsz] at hle
  refine ⟨by omega, fun k hk => ?_, fun h => ?_⟩
  · have := r.all k hk
    rw [Nat.zero_add, byte_from s j k (by omega)] at this; exact this
  · have := r.stop (by rw [hsz]; omega)
    rw [Nat.zero_add, byte_from s j n h] at this; exact this
theorem extract_from (s : ByteArray) (j n : Nat) (h : j + n ≤ s.size) : (s.extract j s.size).extract 0 (0 + n) = s.extract j (j + n) := by
  rw [ByteArray.extract_extract, Nat.add_zero, Nat.zero_add, Nat.min_eq_left h]
theorem tok_from {s : ByteArray} {j n : Nat} {k t : ByteArray} (hj : j < s.size) (T : TokAt (s.extract j s.size) 0 k t n) : TokAt s j k t n := by
  have hsz : (s.extract j s.size).size = s.size - j := by rw [ByteArray.size_extract]; omega
  have hb : byteI (s.extract j s.size) 0 = byteI s j := byte_from s j 0 (by omega)
  cases T with
  | fin h => omega
  | low n h1 h2 r =>
    have r' := run_from (by omega) r
    rw [extract_from s j n r'.le]
    exact .low n hj (by rw [← hb]; exact h2) r'
  | dig n h1 h2 h3 r =>
    have r' := run_from (by omega) r
    rw [extract_from s j n r'.le]
    exact .dig n hj (by rw [← hb]; exact h2) (by rw [← hb]; exact h3) r'
  | op n h1 h2 h3 h4 =>
    rw [extract_all] at h4
    have hn := opN_le (s.extract j s.size)
    rw [extract_from s j n (by omega)]
    exact .op n hj (by rw [← hb]; exact h2) (by rw [← hb]; exact h3) h4
theorem slice_two (s : ByteArray) (p : Nat) (h : p + 1 < s.size) (W : World) : (Instr.slice 9 (.string s) (some (.int .i64 (p : Int))) (some (.int .i64 ((p : Int) + 2))) none).run Tryz.prog W = .ok (.string (s.extract p (p + 2))) W :=
  slice_mid s p 2 (by omega) W
theorem two_dash (s : ByteArray) (p : Nat) (h : p + 1 < s.size) : ((s.extract p (p + 2)).toList == [45, 45]) = comB s p := by
  have hl : s.data.toList.length = s.size := Array.length_toList
  have e : (s.extract p (p + 2)).toList = [s[p], s[p + 1]] := by
    rw [ByteArray.toList_eq, Lib.extract_data, show p + 2 - p = 2 from by omega, List.drop_eq_getElem_cons (by omega), List.drop_eq_getElem_cons (by omega)]
    rfl
  rw [e, comB, byteI_lt (by omega : p < s.size), byteI_lt h]
  have e1 : ∀ c : UInt8, (c == (45 : UInt8)) = ((c.toNat : Int) == 45) := fun c => byte_toNat (n := 45) (by decide)
  simp only [h, decide_true, Bool.true_and]
  rw [← e1, ← e1]
  simp

theorem Tryz.infoRTok : (Tryz.prog.info? 269).map (fun i => (i.zero, i.size, i.bytes)) = some (some (.agg #[.string ⟨#[]⟩, .string ⟨#[]⟩, .int .i64 0]), 3, 40) := by kernel_rfl
theorem TokAt.size {s : ByteArray} {j n : Nat} {kind text : ByteArray} (T : TokAt s j kind text n) (hj : j ≤ s.size) : text.size = n := by
  have hle := T.le hj
  cases T with
  | fin h => rfl
  | low n _ _ _ => exact extract_size s j n hle
  | dig n _ _ _ _ => exact extract_size s j n hle
  | op n _ _ _ _ => exact extract_size s j n hle
theorem not_end {k : ByteArray} (h : k = kNone ∨ k = kWord ∨ k = kName ∨ k = kInt ∨ k = kOp) : (k.toList == [101, 110, 100]) = false := by
  rcases h with rfl | rfl | rfl | rfl | rfl <;> (rw [ByteArray.toList_eq]; rfl)
theorem TokAt.notEnd {s : ByteArray} {j n : Nat} {kind text : ByteArray} (T : TokAt s j kind text n) (hj : j < s.size) : (kind.toList == [101, 110, 100]) = false := by
  cases T with
  | fin h => omega
  | low n _ _ _ => refine not_end ?_; unfold nameK; split; (exact Or.inl rfl); split; (exact Or.inr (Or.inl rfl)); exact Or.inr (Or.inr (Or.inl rfl))
  | dig n _ _ _ _ => refine not_end ?_; unfold intK; split; (exact Or.inr (Or.inr (Or.inr (Or.inl rfl)))); exact Or.inl rfl
  | op n _ _ _ _ => refine not_end ?_; unfold opK; split; (exact Or.inl rfl); exact Or.inr (Or.inr (Or.inr (Or.inr rfl)))
theorem blk2 {w : World} {b : Nat} {x y : Value} {t : TypeId} (h : w.heap[b]? = some (.cells #[x, y] t (0, 0))) : w.cell? ⟨b, 0, none⟩ = some x ∧ w.cell? ⟨b, 1, none⟩ = some y ∧ ∀ k, w.frozen? ⟨b, k, none⟩ = false :=
  ⟨by simp [World.cell?, h], by simp [World.cell?, h], fun k => by simp [World.frozen?, h]⟩
theorem ownsRow_keep {base : Nat} {w w' : World} {e : TypeId} {size : Nat} {v : Value} {n : Nat} {xs : List Value} (h : w.ownsRow base e size v n xs) (hb : Below w.heap.size w w') : w'.ownsRow base e size v n xs := by
  obtain ⟨h1, h2⟩ := h
  refine ⟨h1, ?_⟩
  rcases h2 with h2 | ⟨g, cap, cur, hv, hg, hh, r⟩
  · exact Or.inl h2
  · exact Or.inr ⟨g, cap, cur, hv, hg, row_keep hb hh, r⟩
theorem heap_grown {w w' : World} {row : Option Nat} (hg : w.grownBy w' row) {b : Nat} {o : Obj} (hr : row ≠ some b) (hc : w.heap[b]? = some o) : w'.heap[b]? = some o := by
  have hl : b < w.heap.size := by
    rcases Nat.lt_or_ge b w.heap.size with h | h
    · exact h
    · rw [Array.getElem?_eq_none h] at hc; cases hc
  rw [hg.block b hl (Ne.symm hr)]; exact hc

/-- What the loop holds: tokens so far, a place behind them, the result's own variable. -/
structure At (s : ByteArray) (w : World) (l : List Tk) (i p : Nat) (v : Value) (wr : World) : Prop where
  reads : Reads s l i
  skips : Skips s i p
  le : p ≤ s.size
  own : wr.ownsRow (w.heap.size + 1) 269 3 v l.length (tkCells l)
  below : Below w.heap.size w wr
  size : w.heap.size < wr.heap.size
  blk : wr.heap[w.heap.size]? = some (.cells #[.int .i64 0, .int .i64 0] 55 (0, 0))

end Go.Proofs.YtglkpgcmlbhkpabGreatDoor

/-
  lustrumlaw1.coded BY ITS CONTRACT: an error's number is told.
-/
namespace Go.Proofs.YtglkpgcmlbhkpabGreatDoor
open Go.RowKit Go.Extern.Stop Go.Stop Go.Extern

theorem coded_nil (w : World) : Calls Tryz.prog 25 #[.nilIface, .int .i64 0] w fun e w' => e = .returned (.bool true) ∧ w' = w := by
  go_enter Tryz.func25, Tryz.ntmps25
  go_wp2_with (go_at_call 17; refine (code_nil _).mono ?_; rintro e w' ⟨rfl, rfl⟩)
  go_ret
  exact ⟨rfl, rfl⟩

set_option maxHeartbeats 1000000 in
theorem coded_str (a : Nat → Addr) (b : Addr) (m : Nat) (c : Int) (cb : Array Value) (tb : TypeId) (w : World) (S : Sents a w) (hrow : w.heap[b.block]? = some (.cells cb tb (0, 0))) (hm : m ≤ 9) (hlt : ∀ j, j < m → b ≠ a j) (heq : m < 9 → a m = b) (hc : c = codeOf m) :
    Calls Tryz.prog 25 #[.iface 325 (.pointer (some b)), .int .i64 c] w fun e w' => e = .returned (.bool true) ∧ Below w.heap.size w w' := by
  subst hc
  go_enter Tryz.func25, Tryz.ntmps25
  go_wp2_with (go_at_call 17; refine (code_str a b m cb tb _ S hrow hm hlt heq).mono ?_; rintro e w' ⟨rfl, hb⟩)
  go_ret
  exact ⟨rfl, hb⟩
end Go.Proofs.YtglkpgcmlbhkpabGreatDoor

/-
  lustrumlaw1.one BY ITS CONTRACT, and what a list of tokens in memory holds cell by cell.
-/
namespace Go.Proofs.YtglkpgcmlbhkpabGreatDoor
open Go.RowKit

/-- A row of tokens, told by its cells. -/
theorem own_cells {w : World} {base : Nat} {e : TypeId} {v : Value} {l : List Tk} (h : w.ownsRow base e 3 v l.length (tkCells l)) (hn : 0 < l.length) :
    ∃ g cap, v = .slice (some ⟨g, 0, none⟩) l.length cap ∧ ∀ i (hi : i < l.length), w.cell? ⟨g, i * 3, none⟩ = some (.string l[i].kind) ∧ w.cell? ⟨g, i * 3 + 1, none⟩ = some (.string l[i].text) ∧ w.cell? ⟨g, i * 3 + 2, none⟩ = some (.int .i64 l[i].pos) := by
  obtain ⟨h1, h2⟩ := h
  rcases h2 with ⟨_, h0⟩ | ⟨g, cap, cur, hv, hg, hh, hc1, hc2, hc3, hc4⟩
  · omega
  · refine ⟨g, cap, hv, fun i hi => ?_⟩
    have f : ∀ k x, (tkCells l)[k]? = some x → w.cell? ⟨g, k, none⟩ = some x := by
      intro k x hx
      rw [cell_of_row w g k cur e (0, 0) hh]
      rw [← hc4, List.getElem?_take] at hx
      split at hx
      · simpa using hx
      · cases hx
    obtain ⟨a, b, c⟩ := tkCells_at l i hi
    exact ⟨f _ _ a, f _ _ b, f _ _ c⟩
theorem Lexes.ne {s : ByteArray} {i : Nat} {l : List Tk} (h : Lexes s i l none) : 0 < l.length := by
  cases h <;> simp

theorem Lexes.len {s : ByteArray} {i : Nat} {l : List Tk} {r : Option Nat} (h : Lexes s i l r) {N : Nat} (hN : s.size ≤ N) : l.length ≤ N + 1 := by
  have : ∀ {i : Nat} {l : List Tk} {r : Option Nat}, Lexes s i l r → i ≤ s.size → l.length + i ≤ s.size + 1 := by
    intro i l r h
    induction h with
    | fin i j n kind text => intro hi; simp only [List.length_cons, List.length_nil]; omega
    | bad i j n kind text => intro hi; simp only [List.length_nil]; omega
    | tok i j n kind text l r S c T h0 h1 _ ih =>
      intro hi
      have h2 := T.pos h0 h1
      have h3 := T.le S.le
      have h4 := S.skips.le
      have := ih h3
      simp only [List.length_cons]; omega
  rcases Nat.lt_or_ge s.size i with h1 | h1
  · have hij : ∀ {j}, Stands s i j → False := fun S => by have := S.skips.le; have := S.le; omega
    cases h with
    | fin _ _ _ _ _ S => exact (hij S).elim
    | bad _ _ _ _ _ S => exact (hij S).elim
    | tok _ _ _ _ _ _ _ S => exact (hij S).elim
  · have := this h h1; omega
def strA : ByteArray := ⟨#[97]⟩
theorem lexesA : Lexes strA 0 [⟨kName, strA, 0⟩, ⟨kEnd, ⟨#[]⟩, 1⟩] none := by
  have r : IsRun nameI strA 0 1 := ⟨by decide, first_of (by decide), fun h => absurd h (by decide)⟩
  have hw : wordB strA = false := by
    rw [wordB, show strA.toList = [97] from by rw [ByteArray.toList_eq]; rfl]; decide
  have hk : nameK (strA.extract 0 (0 + 1)) = kName := by
    rw [show strA.extract 0 (0 + 1) = strA from extract_all strA, nameK, if_neg (by decide), if_neg (by rw [hw]; exact Bool.false_ne_true)]
  have T := TokAt.low (s := strA) (j := 0) 1 (by decide) (by decide) r
  rw [hk, show strA.extract 0 (0 + 1) = strA from extract_all strA] at T
  refine .tok 0 0 1 kName strA _ _ ⟨.refl 0, by decide, fun _ => by decide⟩ (by decide) T kName_some (not_end (Or.inr (Or.inr (Or.inl rfl)))) ?_
  exact .fin 1 1 0 kEnd ⟨#[]⟩ ⟨.refl 1, by decide, fun h => absurd h (by decide)⟩ (by decide) (.fin rfl) (by rw [kEnd_list]; rfl) (by rw [kEnd_list]; rfl)

end Go.Proofs.YtglkpgcmlbhkpabGreatDoor

/-
  WHAT TOKENS ARE THAT ARE READ OF BYTES, IN PLAIN MATHEMATICS: a text tells its kind; the end is the last one.
-/
namespace Go.Proofs.YtglkpgcmlbhkpabGreatDoor
open Go.RowKit

def opLL : List (List UInt8) := twoL ++ oneLL
/-- A token as it is read. -/
inductive TkOk : Tk → Prop
  | low (t : Tk) : 0 < t.text.size → t.text.size ≤ 12 → lowI (byteI t.text 0) = true → (∀ k, k < t.text.size → nameI (byteI t.text k) = true) → t.kind = (if wordB t.text then kWord else kName) → TkOk t
  | dig (t : Tk) : 0 < t.text.size → (∀ k, k < t.text.size → digI (byteI t.text k) = true) → intB t.text = true → t.kind = kInt → TkOk t
  | op (t : Tk) : opLL.any (fun x => t.text.toList == x) = true → t.kind = kOp → TkOk t
  | fin (t : Tk) : t.text = b0 → t.kind = kEnd → TkOk t
structure Tkl (l : List Tk) : Prop where
  ne : 0 < l.length
  len : l.length ≤ 6001
  ok : ∀ i (h : i < l.length), TkOk l[i]
  fin : ∀ i (h : i < l.length), l[i].kind = kEnd ↔ i + 1 = l.length
  tsz : ∀ i (h : i < l.length), l[i].text.size ≤ 6000
  psz : ∀ i (h : i < l.length), l[i].pos ≤ 6000

theorem toList_data (t : ByteArray) : t.toList = t.data.toList := ByteArray.toList_eq t
theorem byteI_head {t : ByteArray} {c : UInt8} {r : List UInt8} (h : t.toList = c :: r) : byteI t 0 = (c.toNat : Int) := by
  rw [toList_data] at h
  have hs : 0 < t.size := by
    have : t.data.toList.length = t.size := Array.length_toList
    rw [h] at this; simp at this; omega
  rw [byteI_data t 0 hs]; simp [h]
theorem ne_kinds : kWord ≠ kEnd ∧ kName ≠ kEnd ∧ kInt ≠ kEnd ∧ kOp ≠ kEnd := by
  refine ⟨?_, ?_, ?_, ?_⟩ <;> (intro h; injection h with h; revert h; decide)
theorem TkOk.of {s : ByteArray} {j n : Nat} {kind text : ByteArray} (T : TokAt s j kind text n) (h0 : kind.toList.isEmpty = false) : TkOk ⟨kind, text, j⟩ := by
  cases T with
  | fin h => exact .fin _ rfl rfl
  | low n h1 h2 r =>
    have hp := IsRun.le r
    have hn : 0 < n := by
      rcases Nat.eq_zero_or_pos n with h | h
      · subst h
        have := r.stop (by omega)
        rw [Nat.add_zero, low_name h2] at this; cases this
      · exact h
    have hsz : (s.extract j (j + n)).size = n := extract_size s j n hp
    have hk : nameK (s.extract j (j + n)) ≠ kNone := fun e => by rw [e, kNone_list] at h0; cases h0
    have hk' := hk
    unfold nameK at hk'
    split at hk'
    · exact absurd rfl hk'
    · rename_i h12
      refine .low _ (by rw [hsz]; exact hn) (by show (s.extract j (j + n)).size ≤ 12; omega) ?_ ?_ ?_
      · show lowI (byteI (s.extract j (j + n)) 0) = true
        rw [extract_byte s j n 0 hp hn, Nat.add_zero]; exact h2
      · intro k hk
        have hk2 : k < n := by have : k < (s.extract j (j + n)).size := hk; omega
        show nameI (byteI (s.extract j (j + n)) k) = true
        rw [extract_byte s j n k hp hk2]; exact r.all k hk2
      · show nameK (s.extract j (j + n)) = _
        rw [nameK, if_neg h12]
  | dig n h1 h2 h3 r =>
    have hp := IsRun.le r
    have hn : 0 < n := by
      rcases Nat.eq_zero_or_pos n with h | h
      · subst h
        have := r.stop (by omega)
        rw [Nat.add_zero, h3] at this; cases this
      · exact h
    have hsz : (s.extract j (j + n)).size = n := extract_size s j n hp
    have hb : intB (s.extract j (j + n)) = true := by
      by_cases h : intB (s.extract j (j + n)) = true
      · exact h
      · rw [intK, if_neg h, kNone_list] at h0; cases h0
    refine .dig _ (by rw [hsz]; exact hn) ?_ hb (by show intK _ = _; rw [intK, if_pos hb])
    intro k hk
    have hk2 : k < n := by have : k < (s.extract j (j + n)).size := hk; omega
    show digI (byteI (s.extract j (j + n)) k) = true
    rw [extract_byte s j n k hp hk2]; exact r.all k hk2
  | op n h1 h2 h3 e =>
    have hle := opN_le (s.extract j s.size)
    rw [ByteArray.size_extract] at hle
    have hne : (s.extract j (j + n)).toList ≠ [] := by
      intro h
      have ek : opK (s.extract j (j + n)) = kNone := by simp [opK, h]
      rw [ek, kNone_list] at h0; cases h0
    have hx : (s.extract j s.size).extract 0 n = s.extract j (j + n) := by
      rw [ByteArray.extract_extract]; congr 1; omega
    refine .op _ ?_ (by show opK _ = _; rw [opK, if_neg (by simpa using hne)])
    show opLL.any (fun x => (s.extract j (j + n)).toList == x) = true
    by_cases h2 : twoB (s.extract j s.size) = true
    · have en : n = 2 := by rw [e, opN_two h2]
      subst en
      simp only [twoB, Bool.and_eq_true] at h2
      rw [hx] at h2
      simp only [opLL, List.any_append, h2.2, Bool.true_or]
    · have h2' : twoB (s.extract j s.size) = false := by simpa using h2
      by_cases h4 : oneB (s.extract j s.size) = true
      · have en : n = 1 := by rw [e, opN_one h2' h4]
        subst en
        have hr : 0 < (s.extract j s.size).size := by rw [ByteArray.size_extract]; omega
        have := one_among hr
        rw [h4, hx] at this
        simp only [amongB] at this
        simp only [opLL, List.any_append, this, Bool.or_true]
      · have en : n = 0 := by rw [e, opN_none h2' (by simpa using h4)]
        subst en
        exfalso; apply hne
        rw [nil_iff, ByteArray.size_extract]; omega
theorem TkOk.noEnd {t : Tk} (h : TkOk t) (hx : t.kind ≠ kEnd) : t.text.size ≠ 0 := by
  cases h with
  | low h => omega
  | dig h => omega
  | op h =>
    intro h0
    have e : t.text.toList = [] := by rw [nil_iff]; exact h0
    rw [e] at h
    revert h; decide
  | fin _ h => exact absurd h hx
theorem TokAt.tsize {s : ByteArray} {j n : Nat} {kind text : ByteArray} (T : TokAt s j kind text n) : text.size ≤ s.size := by
  cases T with
  | fin => exact Nat.zero_le _
  | low n => rw [ByteArray.size_extract]; omega
  | dig n => rw [ByteArray.size_extract]; omega
  | op n => rw [ByteArray.size_extract]; omega
theorem toks_of {s : ByteArray} {i : Nat} {l : List Tk} {r : Option Nat} (h : Lexes s i l r) (hr : r = none) (hs : s.size ≤ 6000) :
    0 < l.length ∧ (∀ i (h : i < l.length), TkOk l[i]) ∧ (∀ i (h : i < l.length), l[i].kind = kEnd ↔ i + 1 = l.length) ∧ (∀ i (h : i < l.length), l[i].text.size ≤ 6000) ∧ (∀ i (h : i < l.length), l[i].pos ≤ 6000) := by
  induction h with
  | bad => cases hr
  | fin i j n kind text S c T h0 h1 =>
    have hk := TkOk.of T h0
    have he : kind = kEnd := by
      have e : kind.toList = kEnd.toList := by rw [kEnd_list]; simpa using h1
      rw [toList_data, toList_data] at e
      apply ByteArray.ext; apply Array.ext'; exact e
    refine ⟨by simp, ?_, ?_, ?_, ?_⟩
    · intro i hi
      have : i = 0 := by simp at hi; omega
      subst this; exact hk
    · intro i hi
      have : i = 0 := by simp at hi; omega
      subst this
      exact ⟨fun _ => rfl, fun _ => he⟩
    · intro i hi
      have : i = 0 := by simp at hi; omega
      subst this
      exact Nat.le_trans T.tsize hs
    · intro i hi
      have : i = 0 := by simp at hi; omega
      subst this
      have := S.le
      show j ≤ 6000; omega
  | tok i j n kind text l r S c T h0 h1 _ ih =>
    obtain ⟨a1, a2, a3, a4, a5⟩ := ih hr
    have hk := TkOk.of T h0
    have hne : kind ≠ kEnd := fun e => by rw [e, kEnd_list] at h1; cases h1
    refine ⟨by simp, ?_, ?_, ?_, ?_⟩
    · intro i hi
      cases i with
      | zero => exact hk
      | succ i => exact a2 i (by simpa using hi)
    · intro i hi
      cases i with
      | zero => exact ⟨fun e => absurd e hne, fun e => by simp only [List.length_cons] at e; omega⟩
      | succ i =>
        have := a3 i (by simpa using hi)
        simp only [List.getElem_cons_succ, List.length_cons]
        rw [this]; omega
    · intro i hi
      cases i with
      | zero => exact Nat.le_trans T.tsize hs
      | succ i => exact a4 i (by simpa using hi)
    · intro i hi
      cases i with
      | zero => have := S.le; show j ≤ 6000; omega
      | succ i => exact a5 i (by simpa using hi)
theorem Lexes.toks {s : ByteArray} {l : List Tk} (h : Lexes s 0 l none) (hs : s.size ≤ 6000) : Tkl l := by
  obtain ⟨a1, a2, a3, a4, a5⟩ := toks_of h rfl hs
  exact ⟨a1, h.len hs, a2, a3, a4, a5⟩

section
variable {l : List Tk}
theorem tkx_lt {i : Nat} (h : i < l.length) : tkx l i = l[i].text := dif_pos h
theorem tkk_lt {i : Nat} (h : i < l.length) : tkk l i = l[i].kind := dif_pos h
theorem Tkl.next (T : Tkl l) {i : Nat} (hi : i < l.length) (h : l[i].kind ≠ kEnd) : i + 1 < l.length := by
  have := T.fin i hi
  rcases Nat.lt_or_ge (i + 1) l.length with g | g
  · exact g
  · exact absurd (this.2 (by omega)) h
theorem Tkl.end_text (T : Tkl l) {i : Nat} (hi : i < l.length) (h : l[i].kind = kEnd) : l[i].text.toList = [] := by
  have hne := ne_kinds
  cases T.ok i hi with
  | low _ _ _ _ hk => rw [h] at hk; split at hk; exact absurd hk.symm hne.1; exact absurd hk.symm hne.2.1
  | dig _ _ _ hk => rw [h] at hk; exact absurd hk.symm hne.2.2.1
  | op _ hk => rw [h] at hk; exact absurd hk.symm hne.2.2.2
  | fin h1 _ => rw [h1]; exact kNone_list
theorem Tkl.next_tx (T : Tkl l) {i : Nat} (hi : i < l.length) {c : UInt8} {r : List UInt8} (h : tx l i (c :: r) = true) : i + 1 < l.length := by
  refine T.next hi fun e => ?_
  have := T.end_text hi e
  rw [tx, tkx_lt hi, this] at h; cases h
theorem list_kind {t : ByteArray} {a b : List UInt8} (h : (t.toList == a) = true) (g : t.toList = b) (hne : a ≠ b) : False := by
  have : t.toList = a := by simpa using h
  exact hne (this.symm.trans g)
theorem Tkl.next_name (T : Tkl l) {i : Nat} (hi : i < l.length) (h : isName l i = true) : i + 1 < l.length := by
  refine T.next hi fun e => ?_
  rw [isName, tkk_lt hi, e] at h
  exact list_kind h kEnd_list (by decide)
theorem Tkl.next_int (T : Tkl l) {i : Nat} (hi : i < l.length) (h : isInt l i = true) : i + 1 < l.length := by
  refine T.next hi fun e => ?_
  rw [isInt, tkk_lt hi, e] at h
  exact list_kind h kEnd_list (by decide)
theorem Tkl.next_txs (T : Tkl l) {i : Nat} (hi : i < l.length) {xs : List (List UInt8)} (hx : [] ∉ xs) (h : txs l i xs = true) : i + 1 < l.length := by
  simp only [txs, List.any_eq_true] at h
  obtain ⟨x, hm, h⟩ := h
  cases x with
  | nil => exact absurd hm hx
  | cons c r => exact T.next_tx hi h
theorem kindLists : kWord.toList = [119, 111, 114, 100] ∧ kName.toList = [110, 97, 109, 101] ∧ kInt.toList = [105, 110, 116] ∧ kOp.toList = [111, 112] := by
  refine ⟨?_, ?_, ?_, ?_⟩ <;> (rw [ByteArray.toList_eq]; rfl)
/-- A word's text is a word's alone. -/
theorem Tkl.word (T : Tkl l) {i : Nat} (hi : i < l.length) {x : List UInt8} (hx : x ∈ wordL) (h : tx l i x = true) : l[i].kind = kWord := by
  rw [tx, tkx_lt hi] at h
  have hl : l[i].text.toList = x := by simpa using h
  have hw : wordB l[i].text = true := by simp only [wordB, List.any_eq_true]; exact ⟨x, hx, h⟩
  have hlow : ∃ c r, x = c :: r ∧ lowI (c.toNat : Int) = true := by
    have : ∀ x ∈ wordL, ∃ c r, x = c :: r ∧ lowI (c.toNat : Int) = true := by
      intro x hx
      simp only [wordL, List.mem_cons, List.not_mem_nil, or_false] at hx
      rcases hx with rfl | rfl | rfl | rfl | rfl | rfl | rfl | rfl | rfl | rfl | rfl | rfl | rfl | rfl | rfl | rfl | rfl | rfl | rfl | rfl | rfl <;> exact ⟨_, _, rfl, by decide⟩
    exact this x hx
  obtain ⟨c, r, rfl, hc⟩ := hlow
  cases T.ok i hi with
  | low _ _ _ _ hk => rw [hk, if_pos hw]
  | dig h0 hd _ _ =>
    exfalso
    have := hd 0 h0
    rw [byteI_head hl] at this
    simp only [digI, lowI, Bool.and_eq_true, decide_eq_true_eq] at this hc
    omega
  | op h _ =>
    exfalso
    rw [hl] at h
    have : ∀ x ∈ opLL, ∀ c r, x = c :: r → lowI (c.toNat : Int) = false := by
      intro x hx c r e
      simp only [opLL, twoL, oneLL, List.mem_append, List.mem_cons, List.not_mem_nil, or_false] at hx
      rcases hx with (rfl | rfl | rfl | rfl | rfl) | (rfl | rfl | rfl | rfl | rfl | rfl | rfl | rfl | rfl | rfl | rfl | rfl) <;> (injection e with e1 _; subst e1; decide)
    simp only [List.any_eq_true] at h
    obtain ⟨y, hy, hyx⟩ := h
    have hyx' : c :: r = y := by simpa using hyx
    have := this y hy c r hyx'.symm
    rw [hc] at this; cases this
  | fin h _ => rw [h, show b0.toList = [] from kNone_list] at hl; cases hl
/-- An operator's text is an operator's alone. -/
theorem Tkl.oper (T : Tkl l) {i : Nat} (hi : i < l.length) {x : List UInt8} (hx : x ∈ opLL) (h : tx l i x = true) : l[i].kind = kOp := by
  rw [tx, tkx_lt hi] at h
  have hl : l[i].text.toList = x := by simpa using h
  have hlow : ∃ c r, x = c :: r ∧ lowI (c.toNat : Int) = false ∧ digI (c.toNat : Int) = false := by
    have : ∀ x ∈ opLL, ∃ c r, x = c :: r ∧ lowI (c.toNat : Int) = false ∧ digI (c.toNat : Int) = false := by
      intro x hx
      simp only [opLL, twoL, oneLL, List.mem_append, List.mem_cons, List.not_mem_nil, or_false] at hx
      rcases hx with (rfl | rfl | rfl | rfl | rfl) | (rfl | rfl | rfl | rfl | rfl | rfl | rfl | rfl | rfl | rfl | rfl | rfl) <;> exact ⟨_, _, rfl, by decide, by decide⟩
    exact this x hx
  obtain ⟨c, r, rfl, hc, hd'⟩ := hlow
  cases T.ok i hi with
  | low _ _ h2 _ _ => rw [byteI_head hl, hc] at h2; cases h2
  | dig h0 hd _ _ => have := hd 0 h0; rw [byteI_head hl, hd'] at this; cases this
  | op _ hk => exact hk
  | fin h _ => rw [h, show b0.toList = [] from kNone_list] at hl; cases hl
theorem Tkl.int (T : Tkl l) {i : Nat} (hi : i < l.length) (h : isInt l i = true) : 0 < l[i].text.size ∧ (∀ k, k < l[i].text.size → digI (byteI l[i].text k) = true) ∧ intB l[i].text = true := by
  rw [isInt, tkk_lt hi] at h
  have hK := kindLists
  cases T.ok i hi with
  | low _ _ _ _ hk => rw [hk] at h; split at h; exact (list_kind h hK.1 (by decide)).elim; exact (list_kind h hK.2.1 (by decide)).elim
  | dig a b c _ => exact ⟨a, b, c⟩
  | op _ hk => rw [hk] at h; exact (list_kind h hK.2.2.2 (by decide)).elim
  | fin _ hk => rw [hk] at h; exact (list_kind h kEnd_list (by decide)).elim
end
/-- What digits come to, told twice. -/
theorem decOf_val (x : List UInt8) (h : ∀ c ∈ x, 48 ≤ c.toNat) : decOf x = (valL x : Int) := by
  have : ∀ (x : List UInt8) (a : Nat), (∀ c ∈ x, 48 ≤ c.toNat) → x.foldl (fun n c => 10 * n + ((c.toNat : Int) - 48)) (a : Int) = ((x.foldl (fun n c => 10 * n + (c.toNat - 48)) a : Nat) : Int) := by
    intro x
    induction x with
    | nil => intro a _; rfl
    | cons c r ih =>
      intro a h
      have hc := h c List.mem_cons_self
      simp only [List.foldl_cons]
      rw [← ih _ (fun y hy => h y (List.mem_cons_of_mem _ hy))]
      congr 1; omega
  exact this x 0 h
end Go.Proofs.YtglkpgcmlbhkpabGreatDoor
