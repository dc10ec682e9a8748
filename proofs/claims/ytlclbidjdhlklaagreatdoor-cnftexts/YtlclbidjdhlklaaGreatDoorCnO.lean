/-
  package cnf: clause BY CONTRACT.
-/
import Derived.Test.YtlclbidjdhlklaaGreatDoorCnN
import Derived.Shelf.Strings.PiecesUse
import Derived.Deep.QuietTactic
import Derived.BigQuiet
namespace Go.Proofs.YtlclbidjdhlklaaGreatDoor
open Go.RowKit Go.Maps

theorem end_length (b : UInt8) : ∀ ls : List (List UInt8), ls.length ≤ (endB b ls).length
  | [] => by simp [endB]
  | a :: r => by
    have := end_length b r
    unfold endB at this ⊢
    rw [List.flatMap_cons, List.length_append, List.length_append, List.length_cons, List.length_singleton]
    omega
/-- The pieces of a text. -/
theorem pieces (b : UInt8) (s : ByteArray) (hs : s.size ≤ 10000) : ∃ (k : Nat) (ws : List ByteArray), Lib.countB s ⟨#[b]⟩ = k ∧ Lib.splitB ⟨#[b]⟩ 0 k s = ws ∧ ws.length = k + 1 ∧ k ≤ 10000 ∧ ws.map (·.data.toList) = Lib.splitK [b] 0 k s.data.toList ∧ ∀ w ∈ ws, w.size ≤ 10000 := by
  refine ⟨_, _, rfl, rfl, ?_, ?_, Lib.splitB_data ⟨#[b]⟩ 0 _ s, ?_⟩
  · exact Lib.splitB_all ⟨#[b]⟩ (Nat.le_refl 1) 0 _ s rfl
  · have h1 := Lib.splitB_all ⟨#[b]⟩ (Nat.le_refl 1) 0 _ s rfl
    have h2 := Lib.splitB_data ⟨#[b]⟩ 0 (Lib.countB s ⟨#[b]⟩) s
    have h3 := end_length b (Lib.splitK [b] 0 (Lib.countB s ⟨#[b]⟩) s.data.toList)
    rw [split_end, List.length_append, List.length_singleton] at h3
    have h4 := congrArg List.length h2
    rw [List.length_map, h1] at h4
    rw [Lib.size_eq] at hs
    have h5 : (Lib.splitK [b] 0 (Lib.countB s ⟨#[b]⟩) s.data.toList).length = Lib.countB s ⟨#[b]⟩ + 1 := h4.symm
    omega
  · intro w hw
    have h2 := Lib.splitB_data ⟨#[b]⟩ 0 (Lib.countB s ⟨#[b]⟩) s
    have hm : w.data.toList ∈ Lib.splitK [b] 0 (Lib.countB s ⟨#[b]⟩) s.data.toList := by
      have h3 : w.data.toList ∈ (Lib.splitB ⟨#[b]⟩ 0 (Lib.countB s ⟨#[b]⟩) s).map (·.data.toList) := List.mem_map.2 ⟨w, hw, rfl⟩
      rw [h2] at h3
      exact h3
    have h3 := split_end b (Lib.countB s ⟨#[b]⟩) s.data.toList
    have h4 : w.data.toList.length ≤ (endB b (Lib.splitK [b] 0 (Lib.countB s ⟨#[b]⟩) s.data.toList)).length - 1 := by
      generalize Lib.splitK [b] 0 (Lib.countB s ⟨#[b]⟩) s.data.toList = ls at hm
      induction ls with
      | nil => simp at hm
      | cons a r ih =>
        unfold endB at ih ⊢
        rw [List.flatMap_cons, List.length_append, List.length_append, List.length_singleton]
        rcases List.mem_cons.1 hm with h | h
        · rw [h]; omega
        · have := ih h; omega
    rw [h3, List.length_append, List.length_singleton] at h4
    rw [Lib.size_eq]
    rw [Lib.size_eq] at hs
    omega
/-- What clause answers. -/
def ClauP (s : ByteArray) (w : World) (e : Ending) (w' : World) : Prop :=
  ∃ v b, e = .returned (.tuple #[v, .bool b]) ∧ (b = true → ∃ c V, v = .slice (some ⟨V, 0, none⟩) c.length c.length ∧ w'.heap[V]? = some (.cells (rowI c) 3 (0, 0)) ∧ w.heap.size ≤ V ∧ s.data.toList = lineC c ∧ (∀ x ∈ c, I64 x) ∧ c.length ≤ 10000) ∧ Below w.heap.size w w' ∧ (b = false → ∀ c : List Int, (∀ x ∈ c, I64 x ∧ x ≠ 0) → s.data.toList ≠ lineC c)
set_option maxRecDepth 100000 in
set_option maxHeartbeats 4000000 in
theorem clause_any (w : World) (S : RdEnv w) (s : ByteArray) (hs : s.size ≤ 10000) : Calls Tryz.prog 37 #[.string s] w (ClauP s w) := by
  obtain ⟨k, ws, hk, hws, hlen, hkl, hmap, hwsz⟩ := pieces 32 s hs
  obtain ⟨mx, hmx⟩ := S.max
  obtain ⟨i1, hj0, hy0, hy1, hy2⟩ := info_parts Tryz.infoInt
  have hsp := Tryz.strings_Split s ⟨#[32]⟩ mx w (by omega) hmx (by decide)
  rw [hk, hws] at hsp
  obtain ⟨w1, hw1⟩ : ∃ w1, w1 = w.alloc (.cells (ws.map Value.string).toArray 9) := ⟨_, rfl⟩
  rw [← hw1] at hsp
  have hb1 : Below w.heap.size w w1 := by rw [hw1]; exact (Below.refl _ _).alloc (Nat.le_refl _) _
  have hpc : ∀ (j : Nat) x, ws[j]? = some x → w1.cell? ⟨w.heap.size, j, none⟩ = some (.string x) := fun j x h => by rw [hw1]; exact Lib.pieces_cell_at w ws _ j x h
  have HSP : Hid (Calls Tryz.prog 34 #[.string s, .string ⟨#[32]⟩] w fun e w' => e = .returned (.slice (some ⟨w.heap.size, 0, none⟩) (k + 1) (k + 1)) ∧ w' = w1) := hsp
  have HPC : Hid (∀ (j : Nat) x, ws[j]? = some x → w1.cell? ⟨w.heap.size, j, none⟩ = some (.string x)) := hpc
  have HB1 : Hid (Below w.heap.size w w1) := hb1
  have HS : Hid (RdEnv w1) := S.below hb1
  have HLEN : Hid (ws.length = k + 1) := hlen
  have HKL : Hid (k ≤ 10000) := hkl
  have HMAP : Hid (ws.map (·.data.toList) = Lib.splitK [32] 0 k s.data.toList) := hmap
  have HWSZ : Hid (∀ w ∈ ws, w.size ≤ 10000) := hwsz
  have HCW : Hid (∀ c : List Int, s.data.toList = lineC c → ws.map (·.data.toList) = c.map Lib.itoa ++ [[48]]) := fun c h => by
    have h1 := pieces_eq 32 s (c.map Lib.itoa ++ [[48]]) (words_free c) (by rw [h, line_words])
    rw [hk, hws] at h1
    exact h1
  have HBY : Hid (i1.bytes * k ≤ 281474976710656) := by unfold Hid; rw [hy2]; omega
  have HMX : Hid (k ≤ maxLen) := by unfold Hid maxLen; omega
  have n0 : wrap64 (k : Int) = (k : Int) := by unfold wrap64; omega
  clear S hs hk hws hlen hkl hmap hwsz hmx hsp hw1 hb1 hpc
  go_enter Tryz.func37, Tryz.ntmps37
  go_wp2_with (first
    | (go_at_call 34; refine HSP.out.mono ?_; rintro e w' ⟨rfl, hw⟩; have hw2 := hw.symm; subst hw2)
    | (at_make; refine wpList_make_full _ rfl _ _ 43 rfl 0 3 i1 _ 1 Tryz.underlying43 hj0 hy0 hy1 .i64 .i64 _ _ k rfl rfl (by simp [n0]) (by simp [n0]) HBY.out HMX.out (Nat.zero_le _) ?_; intro w2 hown2 hgr2)
    | go_in)
  have hV2 := made_ints hown2
  have hb2 : Below w1.heap.size w1 w2 := ⟨hgr2.os, hgr2.tape, hgr2.output, hgr2.size, fun k hk => hgr2.block k hk (by simp)⟩
  have HV2 : Hid (w2.heap[w1.heap.size]? = some (.cells (rowI (rowP [] k)) 3 (0, 0))) := hV2
  have HB2 : Hid (Below w1.heap.size w1 w2) := hb2
  have N0 : Hid (wrap64 (k : Int) = (k : Int)) := n0
  clear hown2 hgr2 hV2 hb2 hj0 hy0 hy1 hy2 HBY HMX n0
  go_loopw [22] (fun t wr => ∃ (j : Nat) (ns : List Int), j ≤ k ∧ t = .int .i64 j ∧ ns.length = j ∧ wr.heap[w1.heap.size]? = some (.cells (rowI (rowP ns k)) 3 (0, 0)) ∧ Hid ((ws.take j).map (·.data.toList) = ns.map Lib.itoa ∧ ∀ x ∈ ns, I64 x) ∧ Below w1.heap.size w1 wr) (fun t _ => k - (intOf t).toNat)
  case atStart => exact ⟨0, [], Nat.zero_le _, rfl, rfl, HV2.out, ⟨rfl, fun x hx => by simp at hx⟩, HB2.out⟩
  case round =>
    obtain ⟨j, ns, hj, rfl, hnl, hrow, HNS, hb⟩ := hrel
    have HROW : Hid (wr.heap[w1.heap.size]? = some (.cells (rowI (rowP ns k)) 3 (0, 0))) := hrow
    have HB : Hid (Below w1.heap.size w1 wr) := hb
    have HNL : Hid (ns.length = j) := hnl
    by_cases hjl : j < k
    · obtain ⟨x, hx⟩ : ∃ x, ws[j]? = some x := ⟨_, List.getElem?_eq_getElem (by have := HLEN.out; omega)⟩
      have q0 := cell_keep hb (HPC.out j x hx)
      have HX : Hid (ws[j]? = some x) := hx
      have HXS : Hid (x.size ≤ 10000) := HWSZ.out x (List.mem_of_getElem? hx)
      have i0' : (0 : Int) ≤ (j : Int) := by omega
      have i1' : (j : Int) < (k : Int) := by omega
      have HJ : Hid (j < k) := hjl
      have N4 : Hid (wrap64 ((j : Int) + 1) = (j : Int) + 1) := by have := HKL.out; unfold Hid wrap64; omega
      clear hj hjl hx hrow hb hnl
      go_wp2_with fail
      refine (number_any wr (HS.out.below HB.out) x HXS.out).mono ?_
      rintro e w3 ⟨n, b, rfl, hn, hb3, hnf⟩
      have HNF : Hid (b = false → ∀ m, I64 m → x.data.toList ≠ Lib.itoa m) := hnf
      have HNT : Hid (b = true → x.data.toList = Lib.itoa n ∧ I64 n) := hn
      have HCX : Hid (∀ c : List Int, s.data.toList = lineC c → ∃ y ∈ c, x.data.toList = Lib.itoa y) := fun c h => by
        have h1 := HCW.out c h
        have hl : c.length = k := by
          have := congrArg List.length h1
          rw [List.length_map, List.length_append, List.length_map, HLEN.out, List.length_singleton] at this
          omega
        obtain ⟨y, hy⟩ : ∃ y, c[j]? = some y := ⟨_, List.getElem?_eq_getElem (by have := HJ.out; omega)⟩
        have h2 : (ws.map (·.data.toList))[j]? = some x.data.toList := by rw [List.getElem?_map, HX.out]; rfl
        rw [h1, List.getElem?_append_left (by rw [List.length_map]; have := HJ.out; omega), List.getElem?_map, hy] at h2
        exact ⟨y, List.mem_of_getElem? hy, (Option.some.inj h2).symm⟩
      clear hnf
      have HB3 : Hid (Below w1.heap.size w1 w3) := HB.out.trans (hb3.mono HB.out.size)
      have hrow3 := row_keep hb3 HROW.out
      have HBF : Hid (Below w.heap.size w w3) := HB1.out.trans (HB3.out.mono HB1.out.size)
      cases b
      · clear hn hb3 hrow3
        go_wp2
        go_ret2
        exact ⟨_, _, rfl, (fun h => by cases h), HBF.out, fun _ c hc h => by obtain ⟨y, hy, e⟩ := HCX.out c h; exact HNF.out (by first | rfl | trivial) y (hc y hy).1 e⟩
      · by_cases hz : n = 0
        · have d0 : (n == 0) = true := by simp [hz]
          have HZ0 : Hid (n = 0) := hz
          clear hn hb3 hrow3 hz
          go_wp2
          go_ret2
          exact ⟨_, _, rfl, (fun h => by cases h), HBF.out, fun _ c hc h => by
            obtain ⟨y, hy, e⟩ := HCX.out c h
            have h1 := HNT.out (by first | rfl | trivial)
            have e2 := itoa_inj h1.2 (hc y hy).1 (h1.1.symm.trans e)
            exact (hc y hy).2 (by rw [← e2]; exact HZ0.out)⟩
        · have d0 : (n == 0) = false := by simp [hz]
          have hlt : ns.length < k := by have := HNL.out; have := HJ.out; omega
          have y0 := rowP_cell hrow3 hlt
          have f0 : w3.frozen? ⟨w1.heap.size, ns.length, none⟩ = false := frozen_row hrow3
          have hst := rowP_store hrow3 hlt n
          rw [HNL.out] at y0 f0 hst
          have HST : Hid ((w3.setCell ⟨w1.heap.size, j, none⟩ (.int .i64 n)).heap[w1.heap.size]? = some (.cells (rowI (rowP (ns ++ [n]) k)) 3 (0, 0))) := hst
          have HB4 : Hid (Below w1.heap.size w1 (w3.setCell ⟨w1.heap.size, j, none⟩ (.int .i64 n))) := HB3.out.setCell (Nat.le_refl _) _
          have HN2 : Hid ((ws.take (j + 1)).map (·.data.toList) = (ns ++ [n]).map Lib.itoa ∧ ∀ x ∈ ns ++ [n], I64 x) := by
            have h1 := HNS.out
            have h2 := hn rfl
            refine ⟨?_, fun y hy => ?_⟩
            · rw [List.take_add_one, HX.out, List.map_append, h1.1, List.map_append]
              simp [h2.1]
            · rcases List.mem_append.1 hy with hy | hy
              · exact h1.2 y hy
              · simp at hy; rw [hy]; exact h2.2
          clear hn hb3 hrow3 hz hlt hst
          go_wp2
          exact ⟨⟨j + 1, ns ++ [n], HJ.out, by rw [N4.out]; rfl, by rw [List.length_append, HNL.out]; rfl, HST.out, HN2, HB4.out⟩, by rw [N4.out]; have := HJ.out; simp [intOf]; omega⟩
    · obtain rfl : j = k := by omega
      rw [rowP_all hnl] at hrow
      obtain ⟨x, hx⟩ : ∃ x, ws[j]? = some x := ⟨_, List.getElem?_eq_getElem (by have := HLEN.out; omega)⟩
      have q0 := cell_keep hb (HPC.out j x hx)
      have i0' : (0 : Int) ≤ (j : Int) := by omega
      have i1' : (j : Int) < (j : Int) + 1 := by omega
      have n0 := N0.out
      have HBF : Hid (Below w.heap.size w wr) := HB1.out.trans (hb.mono HB1.out.size)
      have HRW : Hid (wr.heap[w1.heap.size]? = some (.cells (rowI ns) 3 (0, 0))) := hrow
      have HLN : Hid (x.toList = [48] → s.data.toList = lineC ns) := fun h => by
        refine words_line (k := j) ?_
        rw [← HMAP.out]
        have hw : ws = ws.take j ++ [x] := by
          have h1 := List.take_append_drop j ws
          have h2 : ws.drop j = [x] := by
            apply List.ext_getElem?
            intro i
            rw [List.getElem?_drop]
            rcases i with _ | i
            · rw [Nat.add_zero, hx]; rfl
            · rw [List.getElem?_eq_none (by have := HLEN.out; omega)]; simp
          rw [h2] at h1
          exact h1.symm
        rw [hw, List.map_append, HNS.out.1]
        rw [ByteArray.toList_eq] at h
        simp [h]
      have HNK : Hid (ns.length = j) := hnl
      have HLF : Hid (∀ c : List Int, s.data.toList = lineC c → x.toList = [48]) := fun c h => by
        have h1 := HCW.out c h
        have hl : c.length = j := by
          have := congrArg List.length h1
          rw [List.length_map, List.length_append, List.length_map, HLEN.out, List.length_singleton] at this
          omega
        have h2 : (ws.map (·.data.toList))[j]? = some x.data.toList := by rw [List.getElem?_map, hx]; rfl
        rw [h1, List.getElem?_append_right (by rw [List.length_map]; omega), List.length_map, hl, Nat.sub_self] at h2
        rw [ByteArray.toList_eq]
        exact (Option.some.inj h2).symm
      clear hj hjl hx hrow hb hnl HROW
      go_wp2
      go_quiet (fail)
      go_wp2
      go_ret2
      refine ⟨_, _, rfl, (fun h => ⟨ns, w1.heap.size, by rw [HNK.out]; rfl, HRW.out, HB1.out.size, HLN.out (eq_of_beq h), HNS.out.2, by rw [HNK.out]; exact HKL.out⟩), below_drewM HBF.out _, fun h c _ hc => by rw [HLF.out c hc] at h; cases h⟩
end Go.Proofs.YtlclbidjdhlklaaGreatDoor
