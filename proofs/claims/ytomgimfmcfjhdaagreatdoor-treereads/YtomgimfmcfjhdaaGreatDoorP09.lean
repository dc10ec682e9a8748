/-
  lustrumref1.LexOf BY ITS CONTRACTS: of a text of more than 6000 bytes: the bound; of any other one: its tokens in new memory, or where none begins.
-/
import Derived.Test.YtomgimfmcfjhdaaGreatDoorP08
import Derived.Test.YtomgimfmcfjhdaaGreatDoorP06
import Derived.Test.YtomgimfmcfjhdaaGreatDoorP01
namespace Go.Proofs.YtomgimfmcfjhdaaGreatDoor
open Go.RowKit

theorem byte_from (s : ByteArray) (j k : Nat) (h : j + k < s.size) : byteI (s.extract j s.size) k = byteI s (j + k) := by
  rw [byteI_lt (by rw [ByteArray.size_extract]; omega), byteI_lt h, ByteArray.getElem_extract]
theorem run_from {p : Int → Bool} {s : ByteArray} {j n : Nat} (hj : j ≤ s.size) (r : IsRun p (s.extract j s.size) 0 n) : IsRun p s j n := by
  have hsz : (s.extract j s.size).size = s.size - j := by rw [ByteArray.size_extract]; omega
  have hle := r.le
  rw [hsz] at hle
  refine ⟨by omega, fun k hk => ?_, fun h => ?_⟩
  · have := r.all k hk
    rw [Nat.zero_add, byte_from s j k (by omega)] at this; exact this
  · have := r.stop (by rw [hsz]; omega)
    rw [Nat.zero_add, byte_from s j n h] at this; exact this
theorem extract_from (s : ByteArray) (j n : Nat) (h : j + n ≤ s.size) : (s.extract j s.size).extract 0 (0 + n) = s.extract j (j + n) := by
  rw [ByteArray.extract_extract, Nat.add_zero, Nat.zero_add, Nat.min_eq_left h]
theorem tok_from {s : ByteArray} {j n : Nat} {k t : ByteArray} (hj : j < s.size) (T : TokAt (s.extract j s.size) 0 k t n) : TokAt s j k t n := by
  have hsz : (s.extract j s.size).size = s.size - j := by rw [ByteArray.size_extract]; omega
  have hb : byteI (s.extract j s.size) 0 = byteI s j := byte_from s j 0 (by omega)
  cases T with
  | fin h => omega
  | low n h1 h2 r =>
    have r' := run_from (by omega) r
    rw [extract_from s j n r'.le]
    exact .low n hj (by rw [← hb]; exact h2) r'
  | dig n h1 h2 h3 r =>
    have r' := run_from (by omega) r
    rw [extract_from s j n r'.le]
    exact .dig n hj (by rw [← hb]; exact h2) (by rw [← hb]; exact h3) r'
  | op n h1 h2 h3 h4 =>
    rw [extract_all] at h4
    have hn := opN_le (s.extract j s.size)
    rw [extract_from s j n (by omega)]
    exact .op n hj (by rw [← hb]; exact h2) (by rw [← hb]; exact h3) h4
theorem slice_two (s : ByteArray) (p : Nat) (h : p + 1 < s.size) (W : World) : (Instr.slice 9 (.string s) (some (.int .i64 (p : Int))) (some (.int .i64 ((p : Int) + 2))) none).run Tryz.prog W = .ok (.string (s.extract p (p + 2))) W :=
  slice_mid s p 2 (by omega) W
theorem two_dash (s : ByteArray) (p : Nat) (h : p + 1 < s.size) : ((s.extract p (p + 2)).toList == [45, 45]) = comB s p := by
  have hl : s.data.toList.length = s.size := Array.length_toList
  have e : (s.extract p (p + 2)).toList = [s[p], s[p + 1]] := by
    rw [ByteArray.toList_eq, Lib.extract_data, show p + 2 - p = 2 from by omega, List.drop_eq_getElem_cons (by omega), List.drop_eq_getElem_cons (by omega)]
    rfl
  rw [e, comB, byteI_lt (by omega : p < s.size), byteI_lt h]
  have e1 : ∀ c : UInt8, (c == (45 : UInt8)) = ((c.toNat : Int) == 45) := fun c => byte_toNat (n := 45) (by decide)
  simp only [h, decide_true, Bool.true_and]
  rw [← e1, ← e1]
  simp

theorem lexOf_long (s : ByteArray) (w : World) (h : 6000 < s.size) (hm : s.size ≤ maxLen) :
    Calls Tryz.prog 24 #[.string s] w fun e w' => e = .returned (.tuple #[.slice none 0 0, .agg #[.int .i64 2, .int .i64 (-1)]]) ∧ Below w.heap.size w w' := by
  unfold maxLen at hm
  go_enter Tryz.func24, Tryz.ntmps24
  go_wp2_with fail
  refine (bare_any _ _).mono ?_
  rintro e w1 ⟨rfl, hb⟩
  have hb0 : Below w.heap.size w (w.alloc (.cells #[.int .i64 0, .int .i64 0] 44)) := (Below.refl _ _).alloc (Nat.le_refl _) _
  have c0 := cell_keep hb (p := ⟨w.heap.size, 0, none⟩) (v := .int .i64 0) (by simp)
  have c1 := cell_keep hb (p := ⟨w.heap.size, 1, none⟩) (v := .int .i64 0) (by simp)
  have f0 : ∀ k, w1.frozen? ⟨w.heap.size, k, none⟩ = false := fun k => by rw [hb.frozen (p := ⟨w.heap.size, k, none⟩) (by simp)]; simp
  go_wp2
  refine bodyPost_ret (v := .tuple #[.slice none 0 0, .agg #[.int .i64 2, .int .i64 (-1)]]) (by simp [results, Tryz.results24, go_sem, c0, c1]) rfl ⟨rfl, ?_⟩
  exact ((hb0.trans (hb.mono (by simp))).setCell (Nat.le_refl _) _).setCell (Nat.le_refl _) _

theorem Tryz.infoRTok : (Tryz.prog.info? 25).map (fun i => (i.zero, i.size, i.bytes)) = some (some (.agg #[.string ⟨#[]⟩, .string ⟨#[]⟩, .int .i64 0]), 3, 40) := by kernel_rfl
theorem TokAt.size {s : ByteArray} {j n : Nat} {kind text : ByteArray} (T : TokAt s j kind text n) (hj : j ≤ s.size) : text.size = n := by
  have hle := T.le hj
  cases T with
  | fin h => rfl
  | low n _ _ _ => exact extract_size s j n hle
  | dig n _ _ _ _ => exact extract_size s j n hle
  | op n _ _ _ _ => exact extract_size s j n hle
theorem not_end {k : ByteArray} (h : k = kNone ∨ k = kWord ∨ k = kName ∨ k = kInt ∨ k = kOp) : (k.toList == [101, 110, 100]) = false := by
  rcases h with rfl | rfl | rfl | rfl | rfl <;> (rw [ByteArray.toList_eq]; rfl)
theorem TokAt.notEnd {s : ByteArray} {j n : Nat} {kind text : ByteArray} (T : TokAt s j kind text n) (hj : j < s.size) : (kind.toList == [101, 110, 100]) = false := by
  cases T with
  | fin h => omega
  | low n _ _ _ => refine not_end ?_; unfold nameK; split; (exact Or.inl rfl); split; (exact Or.inr (Or.inl rfl)); exact Or.inr (Or.inr (Or.inl rfl))
  | dig n _ _ _ _ => refine not_end ?_; unfold intK; split; (exact Or.inr (Or.inr (Or.inr (Or.inl rfl)))); exact Or.inl rfl
  | op n _ _ _ _ => refine not_end ?_; unfold opK; split; (exact Or.inl rfl); exact Or.inr (Or.inr (Or.inr (Or.inr rfl)))
theorem blk2 {w : World} {b : Nat} {x y : Value} {t : TypeId} (h : w.heap[b]? = some (.cells #[x, y] t (0, 0))) : w.cell? ⟨b, 0, none⟩ = some x ∧ w.cell? ⟨b, 1, none⟩ = some y ∧ ∀ k, w.frozen? ⟨b, k, none⟩ = false :=
  ⟨by simp [World.cell?, h], by simp [World.cell?, h], fun k => by simp [World.frozen?, h]⟩
theorem ownsRow_keep {base : Nat} {w w' : World} {e : TypeId} {size : Nat} {v : Value} {n : Nat} {xs : List Value} (h : w.ownsRow base e size v n xs) (hb : Below w.heap.size w w') : w'.ownsRow base e size v n xs := by
  obtain ⟨h1, h2⟩ := h
  refine ⟨h1, ?_⟩
  rcases h2 with h2 | ⟨g, cap, cur, hv, hg, hh, r⟩
  · exact Or.inl h2
  · exact Or.inr ⟨g, cap, cur, hv, hg, row_keep hb hh, r⟩
theorem heap_grown {w w' : World} {row : Option Nat} (hg : w.grownBy w' row) {b : Nat} {o : Obj} (hr : row ≠ some b) (hc : w.heap[b]? = some o) : w'.heap[b]? = some o := by
  have hl : b < w.heap.size := by
    rcases Nat.lt_or_ge b w.heap.size with h | h
    · exact h
    · rw [Array.getElem?_eq_none h] at hc; cases hc
  rw [hg.block b hl (Ne.symm hr)]; exact hc

/-- What the loop holds: tokens so far, a place behind them, the result's own variable. -/
structure At (s : ByteArray) (w : World) (l : List Tk) (i p : Nat) (v : Value) (wr : World) : Prop where
  reads : Reads s l i
  skips : Skips s i p
  le : p ≤ s.size
  own : wr.ownsRow (w.heap.size + 1) 25 3 v l.length (tkCells l)
  below : Below w.heap.size w wr
  size : w.heap.size < wr.heap.size
  blk : wr.heap[w.heap.size]? = some (.cells #[.int .i64 0, .int .i64 0] 44 (0, 0))

set_option maxRecDepth 100000 in
set_option maxHeartbeats 4000000 in
theorem lexOf_any (s : ByteArray) (w : World) (hs : s.size ≤ 6000) :
    Calls Tryz.prog 24 #[.string s] w fun e w' => Below w.heap.size w w' ∧
      ((∃ (l : List Tk) (v : Value), Lexes s 0 l none ∧ e = .returned (.tuple #[v, .agg #[.int .i64 0, .int .i64 (-1)]]) ∧ w'.ownsRow w.heap.size 25 3 v l.length (tkCells l)) ∨
       (∃ (l : List Tk) (j : Nat), Lexes s 0 l (some j) ∧ e = .returned (.tuple #[.slice none 0 0, .agg #[.int .i64 1, .int .i64 j]]))) := by
  obtain ⟨i0, hi0, hz0, hz1, hz2⟩ := info_parts Tryz.infoRTok
  go_enter Tryz.func24, Tryz.ntmps24
  go_wp2
  go_loopw [4, 5] (fun v t wr => ∃ (l : List Tk) (i p : Nat), t = .int .i64 p ∧ At s w l i p v wr) (fun _ t _ => s.size - (intOf t).toNat)
  case atStart => exact ⟨[], 0, 0, rfl, ⟨.start, .refl 0, Nat.zero_le _, ⟨rfl, Or.inl ⟨rfl, rfl⟩⟩, (Below.refl _ _).alloc (Nat.le_refl _) _, by simp, by show (w.heap.push _)[w.heap.size]? = _; simp⟩⟩
  case round =>
    obtain ⟨l, i, p, rfl, A⟩ := hrel
    have hle := A.le
    by_cases hlt : p < s.size
    · have hbyte := byteI_lt hlt
      have HB : Hid (byteI s p = (s[p].toNat : Int)) := hbyte
      clear hbyte
      by_cases b1 : ((s[p].toNat : Int) == 32) = true
      · go_wp2
        refine ⟨⟨l, i, p + 1, by go_num, ⟨A.reads, A.skips.trans (.blank p _ hlt (by rw [HB.out]; simp [blankI, b1]) (.refl _)), by omega, A.own, A.below, A.size, A.blk⟩⟩, by simp [intOf]; omega⟩
      · have b1' : ((s[p].toNat : Int) == 32) = false := by simpa using b1
        clear b1
        by_cases b2 : ((s[p].toNat : Int) == 10) = true
        · go_wp2
          refine ⟨⟨l, i, p + 1, by go_num, ⟨A.reads, A.skips.trans (.blank p _ hlt (by rw [HB.out]; simp [blankI, b2]) (.refl _)), by omega, A.own, A.below, A.size, A.blk⟩⟩, by simp [intOf]; omega⟩
        · have b2' : ((s[p].toNat : Int) == 10) = false := by simpa using b2
          clear b2
          have hbl : blankI (byteI s p) = false := by rw [HB.out]; simp [blankI, b1', b2']
          by_cases hc : comB s p = true
          · have h2 : p + 1 < s.size := by simp [comB] at hc; omega
            have hsl := slice_two s p h2
            have hdd := two_dash s p h2
            rw [hc] at hdd
            go_wp2
            go_loop [5] (fun t => ∃ q : Nat, p ≤ q ∧ q ≤ s.size ∧ t = .int .i64 q ∧ Hid (∀ k, p + k < q → notNlI (byteI s (p + k)) = true)) (fun t => s.size - (intOf t).toNat)
            case atStart => exact ⟨p, Nat.le_refl _, hle, rfl, fun k hk => by omega⟩
            case round =>
              obtain ⟨q, hpq, hq, rfl, hall⟩ := hrel
              clear hsl hdd
              by_cases hql : q < s.size
              · have hqb := byteI_lt hql
                have HQ : Hid (byteI s q = (s[q].toNat : Int)) := hqb
                clear hqb
                by_cases hnl : ((s[q].toNat : Int) != 10) = true
                · go_wp2
                  refine ⟨⟨q + 1, by omega, by omega, by go_num, ?_⟩, by simp [intOf]; omega⟩
                  intro k hk
                  by_cases e : p + k = q
                  · rw [e, HQ.out]; exact hnl
                  · exact hall.out k (by omega)
                · have hnl' : ((s[q].toNat : Int) != 10) = false := by simpa using hnl
                  clear hnl
                  have hrun : IsRun notNlI s p (q - p) := ⟨by omega, fun k hk => hall.out k (by omega), fun _ => by rw [show p + (q - p) = q from by omega, HQ.out]; exact hnl'⟩
                  have h2n := com_first hc hrun
                  have hsk := A.skips.trans (.comment p (q - p) q hc hbl hrun (by rw [show p + (q - p) = q from by omega]; exact .refl _))
                  go_wp2
                  refine ⟨⟨l, i, q, rfl, ⟨A.reads, hsk, hq, A.own, A.below, A.size, A.blk⟩⟩, by simp [intOf]; omega⟩
              · have hrun : IsRun notNlI s p (q - p) := ⟨by omega, fun k hk => hall.out k (by omega), fun h => by omega⟩
                have h2n := com_first hc hrun
                have hsk := A.skips.trans (.comment p (q - p) q hc hbl hrun (by rw [show p + (q - p) = q from by omega]; exact .refl _))
                go_wp2
                refine ⟨⟨l, i, q, rfl, ⟨A.reads, hsk, hq, A.own, A.below, A.size, A.blk⟩⟩, by simp [intOf]; omega⟩
          · have hc' : comB s p = false := by simpa using hc
            clear hc
            by_cases h2 : p + 1 < s.size
            · have hsl := slice_two s p h2
              have hdd := two_dash s p h2
              rw [hc'] at hdd
              have hsf := slice_from s p hle
              go_wp2_with fail
              have hxz : (s.extract p s.size).size = s.size - p := by rw [ByteArray.size_extract]; omega
              refine (tokenOf_any (s.extract p s.size) _ (by omega) (by omega)).mono ?_
              rintro e w2 ⟨kind, text, n, T0, he, hb2⟩
              have T := tok_from hlt T0
              have St : Stands s i p := ⟨A.skips, A.le, fun _ => hbl⟩
              have hB2 : Below w.heap.size w w2 := A.below.trans (hb2.mono A.below.size)
              have hown2 := ownsRow_keep A.own hb2
              have kb := row_keep hb2 A.blk
              have hz2' : w.heap.size < w2.heap.size := Nat.lt_of_lt_of_le A.size hb2.size
              have hrd := A.reads.le
              have hij := A.skips.le
              clear hsf hxz T0
              by_cases h0 : kind.toList.isEmpty = true
              · have tv : tokVal kind text = .agg #[.string ⟨#[]⟩, .string ⟨#[]⟩, .int .i64 0] := by simp [tokVal, h0]
                rw [tv] at he
                subst he
                obtain ⟨c0, c1, f0⟩ := blk2 kb
                clear tv
                go_wp2
                refine bodyPost_ret (v := .tuple #[.slice none 0 0, .agg #[.int .i64 1, .int .i64 p]]) (by simp [results, Tryz.results24, go_sem, c0, c1, hz2']) rfl ⟨?_, Or.inr ⟨_, p, A.reads.lexes (.bad i p n kind text St hc' T h0), rfl⟩⟩
                exact ((hB2.setCell (Nat.le_refl _) _).setCell (Nat.le_refl _) _).alloc (by simp [World.setCell]; omega) _
              · have h0' : kind.toList.isEmpty = false := by simpa using h0
                have h1' := T.notEnd hlt
                rw [tokVal_some h0'] at he
                subst he
                clear h0
                have hnb : ((w2.alloc (.cells #[.string kind, .string text, .int .i64 p] 25)).alloc (.cells #[.string kind, .string text, .int .i64 p] 25)).heap[w2.heap.size + 1]? = some (.cells #[.string kind, .string text, .int .i64 p] 25 (0, 0)) := two_blk _ _ _
                have HN := World.news_of_block hnb
                have HN' : Hid _ := HN
                clear HN hnb
                have hn63 : l.length + 1 ≤ maxLen := by unfold maxLen; omega
                have hby : (l.length + 1) * 40 ≤ 140737488355328 := by omega
                have hrow : ∀ k, u4.ownBlock = some k → w.heap.size + 1 ≤ k ∧ k < w2.heap.size := fun k hk => ownsRow_block hown2 hk
                have hw2k : u4.ownBlock ≠ some w2.heap.size := fun e => by have := (hrow _ e).2; omega
                have hw0k : u4.ownBlock ≠ some w.heap.size := fun e => by have := (hrow _ e).1; omega
                have hkc : ((w2.alloc (.cells #[.string kind, .string text, .int .i64 p] 25)).alloc (.cells #[.string kind, .string text, .int .i64 p] 25)).cell? ⟨w2.heap.size, 1, none⟩ = some (.string text) := by
                  rw [World.cell?_alloc_past _ _ _ (by simp), World.cell?_alloc_at _ _ _ _ rfl]; rfl
                have hts := T.size hle
                have htl := T.le hle
                have hpos := T.pos h0' h1'
                have HS : Hid (text.size = n) := hts
                have htb : text.size ≤ 6000 := by omega
                clear hts
                go_wp2_with (at_builtin; refine wpList_append_lies _ rfl _ _ _ rfl (w.heap.size + 1) 25 i0 _ 3 40 Tryz.underlying22 hi0 hz0 hz1 hz2 rfl (by omega) _ l.length (tkCells l) rfl ((hown2.alloc _).alloc _) ⟨w2.heap.size + 1, 0, none⟩ 1 1 [.string kind, .string text, .int .i64 p] rfl rfl HN'.out (by simp [Value.oneCell']) (by omega) hn63 hby (by simp; omega) (w2.heap.size + 1 + 1) (by simp) ?_; intro g cap w3 hown3 hgrow hat hlt3; have hk3 := cell_grown (p := ⟨w2.heap.size, 1, none⟩) hgrow hw2k hkc)
                have hkb : ((w2.alloc (.cells #[.string kind, .string text, .int .i64 p] 25)).alloc (.cells #[.string kind, .string text, .int .i64 p] 25)).heap[w.heap.size]? = some (.cells #[.int .i64 0, .int .i64 0] 44 (0, 0)) := by
                  rw [Below.heap_alloc _ _ _ (by simp; omega), Below.heap_alloc _ _ _ hz2']; exact kb
                refine ⟨⟨l ++ [⟨kind, text, p⟩], p + n, p + n, ?_, ⟨.tok l i p n kind text A.reads St hc' T h0' h1', .refl _, htl, ?_, ((hB2.alloc hB2.size _).alloc (Nat.le_trans hB2.size (by simp)) _).grown hgrow (Nat.le_trans hB2.size (by simp; omega)) (fun k hk => by have := (hrow k hk).1; omega), ?_, heap_grown hgrow hw0k hkb⟩⟩, ?_⟩
                · have e := HS.out; subst e; go_num
                · rw [tkCells_snoc, List.length_append]; exact hown3
                · have := hgrow.size; simp at this; omega
                · have e := HS.out; simp [intOf]; omega
            · have hsf := slice_from s p hle
              go_wp2_with fail
              have hxz : (s.extract p s.size).size = s.size - p := by rw [ByteArray.size_extract]; omega
              refine (tokenOf_any (s.extract p s.size) _ (by omega) (by omega)).mono ?_
              rintro e w2 ⟨kind, text, n, T0, he, hb2⟩
              have T := tok_from hlt T0
              have St : Stands s i p := ⟨A.skips, A.le, fun _ => hbl⟩
              have hB2 : Below w.heap.size w w2 := A.below.trans (hb2.mono A.below.size)
              have hown2 := ownsRow_keep A.own hb2
              have kb := row_keep hb2 A.blk
              have hz2' : w.heap.size < w2.heap.size := Nat.lt_of_lt_of_le A.size hb2.size
              have hrd := A.reads.le
              have hij := A.skips.le
              clear hsf hxz T0
              by_cases h0 : kind.toList.isEmpty = true
              · have tv : tokVal kind text = .agg #[.string ⟨#[]⟩, .string ⟨#[]⟩, .int .i64 0] := by simp [tokVal, h0]
                rw [tv] at he
                subst he
                obtain ⟨c0, c1, f0⟩ := blk2 kb
                clear tv
                go_wp2
                refine bodyPost_ret (v := .tuple #[.slice none 0 0, .agg #[.int .i64 1, .int .i64 p]]) (by simp [results, Tryz.results24, go_sem, c0, c1, hz2']) rfl ⟨?_, Or.inr ⟨_, p, A.reads.lexes (.bad i p n kind text St hc' T h0), rfl⟩⟩
                exact ((hB2.setCell (Nat.le_refl _) _).setCell (Nat.le_refl _) _).alloc (by simp [World.setCell]; omega) _
              · have h0' : kind.toList.isEmpty = false := by simpa using h0
                have h1' := T.notEnd hlt
                rw [tokVal_some h0'] at he
                subst he
                clear h0
                have hnb : ((w2.alloc (.cells #[.string kind, .string text, .int .i64 p] 25)).alloc (.cells #[.string kind, .string text, .int .i64 p] 25)).heap[w2.heap.size + 1]? = some (.cells #[.string kind, .string text, .int .i64 p] 25 (0, 0)) := two_blk _ _ _
                have HN := World.news_of_block hnb
                have HN' : Hid _ := HN
                clear HN hnb
                have hn63 : l.length + 1 ≤ maxLen := by unfold maxLen; omega
                have hby : (l.length + 1) * 40 ≤ 140737488355328 := by omega
                have hrow : ∀ k, u4.ownBlock = some k → w.heap.size + 1 ≤ k ∧ k < w2.heap.size := fun k hk => ownsRow_block hown2 hk
                have hw2k : u4.ownBlock ≠ some w2.heap.size := fun e => by have := (hrow _ e).2; omega
                have hw0k : u4.ownBlock ≠ some w.heap.size := fun e => by have := (hrow _ e).1; omega
                have hkc : ((w2.alloc (.cells #[.string kind, .string text, .int .i64 p] 25)).alloc (.cells #[.string kind, .string text, .int .i64 p] 25)).cell? ⟨w2.heap.size, 1, none⟩ = some (.string text) := by
                  rw [World.cell?_alloc_past _ _ _ (by simp), World.cell?_alloc_at _ _ _ _ rfl]; rfl
                have hts := T.size hle
                have htl := T.le hle
                have hpos := T.pos h0' h1'
                have HS : Hid (text.size = n) := hts
                have htb : text.size ≤ 6000 := by omega
                clear hts
                go_wp2_with (at_builtin; refine wpList_append_lies _ rfl _ _ _ rfl (w.heap.size + 1) 25 i0 _ 3 40 Tryz.underlying22 hi0 hz0 hz1 hz2 rfl (by omega) _ l.length (tkCells l) rfl ((hown2.alloc _).alloc _) ⟨w2.heap.size + 1, 0, none⟩ 1 1 [.string kind, .string text, .int .i64 p] rfl rfl HN'.out (by simp [Value.oneCell']) (by omega) hn63 hby (by simp; omega) (w2.heap.size + 1 + 1) (by simp) ?_; intro g cap w3 hown3 hgrow hat hlt3; have hk3 := cell_grown (p := ⟨w2.heap.size, 1, none⟩) hgrow hw2k hkc)
                have hkb : ((w2.alloc (.cells #[.string kind, .string text, .int .i64 p] 25)).alloc (.cells #[.string kind, .string text, .int .i64 p] 25)).heap[w.heap.size]? = some (.cells #[.int .i64 0, .int .i64 0] 44 (0, 0)) := by
                  rw [Below.heap_alloc _ _ _ (by simp; omega), Below.heap_alloc _ _ _ hz2']; exact kb
                refine ⟨⟨l ++ [⟨kind, text, p⟩], p + n, p + n, ?_, ⟨.tok l i p n kind text A.reads St hc' T h0' h1', .refl _, htl, ?_, ((hB2.alloc hB2.size _).alloc (Nat.le_trans hB2.size (by simp)) _).grown hgrow (Nat.le_trans hB2.size (by simp; omega)) (fun k hk => by have := (hrow k hk).1; omega), ?_, heap_grown hgrow hw0k hkb⟩⟩, ?_⟩
                · have e := HS.out; subst e; go_num
                · rw [tkCells_snoc, List.length_append]; exact hown3
                · have := hgrow.size; simp at this; omega
                · have e := HS.out; simp [intOf]; omega
    · obtain rfl : p = s.size := by omega
      have hrd := A.reads.le
      have hij := A.skips.le
      have hcE' : ¬ s.size + 1 < s.size := by omega
      have hcE : comB s s.size = false := by simp [comB, hcE']
      have St : Stands s i s.size := ⟨A.skips, A.le, fun h => by omega⟩
      have hnb : (wr.alloc (.cells #[.string ⟨#[101, 110, 100]⟩, .string ⟨#[]⟩, .int .i64 s.size] 25)).heap[wr.heap.size]? = some (.cells #[.string ⟨#[101, 110, 100]⟩, .string ⟨#[]⟩, .int .i64 s.size] 25 (0, 0)) := by
        show (wr.heap.push _)[wr.heap.size]? = _
        simp
      have HN := World.news_of_block hnb
      have HN' : Hid _ := HN
      clear HN hnb
      have hn63 : l.length + 1 ≤ maxLen := by unfold maxLen; omega
      have hby : (l.length + 1) * 40 ≤ 140737488355328 := by omega
      have hrow : ∀ k, u4.ownBlock = some k → w.heap.size + 1 ≤ k ∧ k < wr.heap.size := fun k hk => ownsRow_block A.own hk
      have hw0k : u4.ownBlock ≠ some w.heap.size := fun e => by have := (hrow _ e).1; omega
      have hkb : (wr.alloc (.cells #[.string ⟨#[101, 110, 100]⟩, .string ⟨#[]⟩, .int .i64 s.size] 25)).heap[w.heap.size]? = some (.cells #[.int .i64 0, .int .i64 0] 44 (0, 0)) := by
        rw [Below.heap_alloc _ _ _ A.size]; exact A.blk
      have hbz : w.heap.size < wr.heap.size := A.size
      go_wp2_with (first | (at_builtin; refine wpList_append_lies _ rfl _ _ _ rfl (w.heap.size + 1) 25 i0 _ 3 40 Tryz.underlying22 hi0 hz0 hz1 hz2 rfl (by omega) _ l.length (tkCells l) rfl (A.own.alloc _) ⟨wr.heap.size, 0, none⟩ 1 1 [.string ⟨#[101, 110, 100]⟩, .string ⟨#[]⟩, .int .i64 s.size] rfl rfl HN'.out (by simp [Value.oneCell']) (by omega) hn63 hby (by simp; omega) (wr.heap.size + 1) (by simp) ?_; intro g cap w3 hown3 hgrow hat hlt3) | fail)
      refine (fine_any _).mono ?_
      rintro e w4 ⟨rfl, hb4⟩
      obtain ⟨c0, c1, f0⟩ := blk2 (row_keep hb4 (heap_grown hgrow hw0k hkb))
      have hB3 : Below w.heap.size w w3 := (A.below.alloc A.below.size _).grown hgrow (Nat.le_trans A.below.size (by simp)) (fun k hk => by have := (hrow k hk).1; omega)
      have hB4 := hB3.trans (hb4.mono hB3.size)
      have hown4 := ownsRow_keep hown3 hb4
      go_wp2
      refine bodyPost_ret (v := .tuple #[.slice (some ⟨g, 0, none⟩) (l.length + 1) cap, .agg #[.int .i64 0, .int .i64 (-1)]]) (by simp [results, Tryz.results24, go_sem, c0, c1]) rfl ⟨(hB4.setCell (Nat.le_refl _) _).setCell (Nat.le_refl _) _, Or.inl ⟨l ++ [⟨kEnd, ⟨#[]⟩, s.size⟩], _, A.reads.lexes (.fin i s.size 0 kEnd ⟨#[]⟩ St hcE (.fin rfl) (by rw [kEnd_list]; rfl) (by rw [kEnd_list]; rfl)), rfl, ?_⟩⟩
      rw [tkCells_snoc, List.length_append]
      exact ownsRow_low (ownsRow_setCell_below (ownsRow_setCell_below hown4 (Nat.lt_succ_self _) _) (Nat.lt_succ_self _) _) (Nat.le_succ _)
end Go.Proofs.YtomgimfmcfjhdaaGreatDoor

/-
  lustrumlaw1.one BY ITS CONTRACT, and what a list of tokens in memory holds cell by cell.
-/
namespace Go.Proofs.YtomgimfmcfjhdaaGreatDoor
open Go.RowKit

/-- A row of tokens, told by its cells. -/
theorem own_cells {w : World} {base : Nat} {e : TypeId} {v : Value} {l : List Tk} (h : w.ownsRow base e 3 v l.length (tkCells l)) (hn : 0 < l.length) :
    ∃ g cap, v = .slice (some ⟨g, 0, none⟩) l.length cap ∧ ∀ i (hi : i < l.length), w.cell? ⟨g, i * 3, none⟩ = some (.string l[i].kind) ∧ w.cell? ⟨g, i * 3 + 1, none⟩ = some (.string l[i].text) ∧ w.cell? ⟨g, i * 3 + 2, none⟩ = some (.int .i64 l[i].pos) := by
  obtain ⟨h1, h2⟩ := h
  rcases h2 with ⟨_, h0⟩ | ⟨g, cap, cur, hv, hg, hh, hc1, hc2, hc3, hc4⟩
  · omega
  · refine ⟨g, cap, hv, fun i hi => ?_⟩
    have f : ∀ k x, (tkCells l)[k]? = some x → w.cell? ⟨g, k, none⟩ = some x := by
      intro k x hx
      rw [cell_of_row w g k cur e (0, 0) hh]
      rw [← hc4, List.getElem?_take] at hx
      split at hx
      · simpa using hx
      · cases hx
    obtain ⟨a, b, c⟩ := tkCells_at l i hi
    exact ⟨f _ _ a, f _ _ b, f _ _ c⟩
theorem Lexes.ne {s : ByteArray} {i : Nat} {l : List Tk} (h : Lexes s i l none) : 0 < l.length := by
  cases h <;> simp

theorem Lexes.len {s : ByteArray} {i : Nat} {l : List Tk} {r : Option Nat} (h : Lexes s i l r) {N : Nat} (hN : s.size ≤ N) : l.length ≤ N + 1 := by
  have : ∀ {i : Nat} {l : List Tk} {r : Option Nat}, Lexes s i l r → i ≤ s.size → l.length + i ≤ s.size + 1 := by
    intro i l r h
    induction h with
    | fin i j n kind text => intro hi; simp only [List.length_cons, List.length_nil]; omega
    | bad i j n kind text => intro hi; simp only [List.length_nil]; omega
    | tok i j n kind text l r S c T h0 h1 _ ih =>
      intro hi
      have h2 := T.pos h0 h1
      have h3 := T.le S.le
      have h4 := S.skips.le
      have := ih h3
      simp only [List.length_cons]; omega
  rcases Nat.lt_or_ge s.size i with h1 | h1
  · have hij : ∀ {j}, Stands s i j → False := fun S => by have := S.skips.le; have := S.le; omega
    cases h with
    | fin _ _ _ _ _ S => exact (hij S).elim
    | bad _ _ _ _ _ S => exact (hij S).elim
    | tok _ _ _ _ _ _ _ S => exact (hij S).elim
  · have := this h h1; omega
def strA : ByteArray := ⟨#[97]⟩
theorem lexesA : Lexes strA 0 [⟨kName, strA, 0⟩, ⟨kEnd, ⟨#[]⟩, 1⟩] none := by
  have r : IsRun nameI strA 0 1 := ⟨by decide, first_of (by decide), fun h => absurd h (by decide)⟩
  have hw : wordB strA = false := by
    rw [wordB, show strA.toList = [97] from by rw [ByteArray.toList_eq]; rfl]; decide
  have hk : nameK (strA.extract 0 (0 + 1)) = kName := by
    rw [show strA.extract 0 (0 + 1) = strA from extract_all strA, nameK, if_neg (by decide), if_neg (by rw [hw]; exact Bool.false_ne_true)]
  have T := TokAt.low (s := strA) (j := 0) 1 (by decide) (by decide) r
  rw [hk, show strA.extract 0 (0 + 1) = strA from extract_all strA] at T
  refine .tok 0 0 1 kName strA _ _ ⟨.refl 0, by decide, fun _ => by decide⟩ (by decide) T kName_some (not_end (Or.inr (Or.inr (Or.inl rfl)))) ?_
  exact .fin 1 1 0 kEnd ⟨#[]⟩ ⟨.refl 1, by decide, fun h => absurd h (by decide)⟩ (by decide) (.fin rfl) (by rw [kEnd_list]; rfl) (by rw [kEnd_list]; rfl)

set_option maxRecDepth 100000 in
set_option maxHeartbeats 1000000 in
theorem one_any (w : World) (pT : Addr) (ev : Value) (hT : w.cell? ⟨2, 0, none⟩ = some (.iface 235 (.pointer (some pT)))) (hv : w.cell? ⟨11, 0, none⟩ = some ev) (hev : ev = .nilIface ∨ ∃ te pe, ev = .iface te pe) :
    Calls Tryz.prog 6 #[] w fun e w' => e = .returned (.bool true) ∧ Below w.heap.size w w' := by
  go_enter Tryz.func6, Tryz.ntmps6
  go_wp2_with fail
  refine (lex_any strA w pT ev (by decide) hT hv hev).mono ?_
  rintro e w1 ⟨hb, h⟩
  rcases h with ⟨l, v, hl, rfl, hown⟩ | ⟨l, j, p, hl, rfl, _, _⟩
  · obtain ⟨rfl, _⟩ := hl.one lexesA
    obtain ⟨g, cap, rfl, hc⟩ := own_cells hown (by decide)
    have c0 : w1.cell? ⟨g, 0, none⟩ = some (.string kName) := (hc 0 (by decide)).1
    have c3 : w1.cell? ⟨g, 3, none⟩ = some (.string kEnd) := (hc 1 (by decide)).1
    have n0 : kName.toList = [110, 97, 109, 101] := by rw [ByteArray.toList_eq]; rfl
    have n1 := kEnd_list
    clear hc hown hl
    simp only [List.length_cons, List.length_nil, Nat.zero_add]
    go_wp2
    go_ret
    exact ⟨rfl, hb⟩
  · exact absurd (hl.one lexesA).2 (by simp)
end Go.Proofs.YtomgimfmcfjhdaaGreatDoor

/-
  lustrumlaw1.faulted BY ITS CONTRACTS.
-/
namespace Go.Proofs.YtomgimfmcfjhdaaGreatDoor
open Go.RowKit

set_option maxHeartbeats 1000000 in
theorem faulted_str (a : Nat → Addr) (b : Addr) (m : Nat) (c n : Int) (cb : Array Value) (tb : TypeId) (w : World) (S : Sents a w) (hrow : w.heap[b.block]? = some (.cells cb tb (0, 0))) (hm : m ≤ 9) (hlt : ∀ j, j < m → b ≠ a j) (heq : m < 9 → a m = b) (hc : c = codeOf m) (hn : n = -1) :
    Calls Tryz.prog 15 #[.iface 235 (.pointer (some b)), .agg #[.int .i64 c, .int .i64 n]] w fun e w' => e = .returned (.bool true) ∧ Below w.heap.size w w' := by
  subst hc hn
  have hb0 : Below w.heap.size w (w.alloc (.cells #[.int .i64 (codeOf m), .int .i64 (-1)] 44)) := (Below.refl _ _).alloc (Nat.le_refl _) _
  go_enter Tryz.func15, Tryz.ntmps15
  go_wp2_with fail
  refine (code_str a b m cb tb _ (S.below hb0) (row_keep hb0 hrow) hm hlt heq).mono ?_
  rintro e w1 ⟨rfl, hb⟩
  have c0 := cell_keep hb (p := ⟨w.heap.size, 0, none⟩) (v := .int .i64 (codeOf m)) (by simp)
  have c1 := cell_keep hb (p := ⟨w.heap.size, 1, none⟩) (v := .int .i64 (-1)) (by simp)
  clear S hrow hlt heq
  go_wp2
  all_goals go_ret
  all_goals exact ⟨rfl, hb0.trans (hb.mono (by simp))⟩
set_option maxHeartbeats 1000000 in
theorem faulted_fault (a : Nat → Addr) (b : Addr) (m p : Nat) (c n : Int) (cb : Array Value) (tb : TypeId) (w : World) (S : Sents a w) (hp0 : w.cell? ⟨p, 0, none⟩ = some (.int .i64 n)) (hp1 : w.cell? ⟨p, 0 + 1, none⟩ = some (.iface 235 (.pointer (some b)))) (hrow : w.heap[b.block]? = some (.cells cb tb (0, 0))) (hm : m ≤ 9) (hlt : ∀ j, j < m → b ≠ a j) (heq : m < 9 → a m = b) (hc : c = codeOf m) :
    Calls Tryz.prog 15 #[.iface 64 (.pointer (some ⟨p, 0, none⟩)), .agg #[.int .i64 c, .int .i64 n]] w fun e w' => e = .returned (.bool true) ∧ Below w.heap.size w w' := by
  subst hc
  have hb0 : Below w.heap.size w (w.alloc (.cells #[.int .i64 (codeOf m), .int .i64 n] 44)) := (Below.refl _ _).alloc (Nat.le_refl _) _
  go_enter Tryz.func15, Tryz.ntmps15
  go_wp2_with fail
  refine (code_fault a b m p n cb tb _ (S.below hb0) (cell_keep hb0 hp0) (cell_keep hb0 hp1) (row_keep hb0 hrow) hm hlt heq).mono ?_
  rintro e w1 ⟨rfl, hb⟩
  have c0 := cell_keep hb (p := ⟨w.heap.size, 0, none⟩) (v := .int .i64 (codeOf m)) (by simp)
  have c1 := cell_keep hb (p := ⟨w.heap.size, 1, none⟩) (v := .int .i64 n) (by simp)
  clear S hrow hlt heq hp0 hp1
  go_wp2
  all_goals go_ret
  all_goals exact ⟨rfl, hb0.trans (hb.mono (by simp))⟩

end Go.Proofs.YtomgimfmcfjhdaaGreatDoor
