/-
  lustrumlaw1.LexGaps, WALKED.
-/
import Derived.Test.YtkipbkhpomjhkaaDoorGapP
namespace Go.Proofs.YtkipbkhpomjhkaaDoor
open Go.RowKit

def gapS (k : Nat) : ByteArray := ⟨(gapL k).toArray⟩
theorem four (k : Nat) (hk : k < 4) : ([.string ⟨#[32, 32]⟩, .string ⟨#[10]⟩, .string ⟨#[32, 45, 45, 120, 10]⟩, .string ⟨#[10, 10, 45, 45, 10, 32]⟩] : List Value)[k]'(by simpa using hk) = .string (gapS k) := by
  rcases k with _ | _ | _ | _ | k
  all_goals first | rfl | omega
theorem fourA (k : Nat) (hk : k < 4) : (#[.string ⟨#[32, 32]⟩, .string ⟨#[10]⟩, .string ⟨#[32, 45, 45, 120, 10]⟩, .string ⟨#[10, 10, 45, 45, 10, 32]⟩] : Array Value)[k]? = some (.string (gapS k)) := by
  rcases k with _ | _ | _ | _ | k
  all_goals first | rfl | omega
theorem gapS_size (k : Nat) : (gapS k).size ≤ 6 := by
  rcases k with _ | _ | _ | k
  all_goals exact Nat.le_of_ble_eq_true rfl
/-- Which of the four. -/
theorem which_four (n : Int) : ∃ k : Nat, k < 4 ∧ (if n.tmod 4 < 0 then n.tmod 4 + 4 else n.tmod 4) = (k : Int) := by
  have h1 : -4 < n.tmod 4 := Int.lt_tmod_of_pos n (by omega)
  have h2 : n.tmod 4 < 4 := Int.tmod_lt_of_pos n (by omega)
  by_cases h : n.tmod 4 < 0
  · rw [if_pos h]; exact ⟨(n.tmod 4 + 4).toNat, by omega, by omega⟩
  · rw [if_neg h]; exact ⟨(n.tmod 4).toNat, by omega, by omega⟩

theorem Lexes.text_le {s : ByteArray} {i : Nat} {l : List Tk} {r : Option Nat} (h : Lexes s i l r) : ∀ t ∈ l, t.text.size ≤ s.size := by
  induction h with
  | fin i j n kind text S c T h0 h1 =>
    intro t ht
    obtain rfl := List.mem_singleton.1 ht
    have h2 := T.size S.le
    have h3 := T.le S.le
    show text.size ≤ s.size
    omega
  | bad i j n kind text => intro t ht; cases ht
  | tok i j n kind text l r S c T h0 h1 _ ih =>
    intro t ht
    rcases List.mem_cons.1 ht with rfl | ht
    · have h2 := T.size S.le
      have h3 := T.le S.le
      show text.size ≤ s.size
      omega
    · exact ih t ht

set_option maxRecDepth 100000 in
set_option maxHeartbeats 2000000 in
theorem gaps_walk (s : ByteArray) (n : Int) (w : World) (pT : Addr) (vB ev : Value) (hm : s.size ≤ maxLen) (hT : w.cell? ⟨0, 0, none⟩ = some (.iface 54 (.pointer (some pT)))) (hB : w.cell? ⟨1, 0, none⟩ = some vB) (hvB : ∃ t x, vB = .iface t x) (hv : w.cell? ⟨11, 0, none⟩ = some ev) (hev : ev = .nilIface ∨ ∃ te pe, ev = .iface te pe) :
    Calls Tryd.prog 5 #[.string s, .int .i64 n] w fun e w' => e = .returned (.bool true) ∧ Below w.heap.size w w' := by
  unfold maxLen at hm
  go_enter Tryd.func5, Tryd.ntmps5
  go_wp2_with fail
  refine (one_any _ _ ev hT hv hev).mono ?_
  rintro e w1 ⟨rfl, hb1⟩
  have hT1 := cell_keep hb1 hT
  have hB1 := cell_keep hb1 hB
  have hv1 := cell_keep hb1 hv
  by_cases h1 : 1500 < s.size
  · go_wp2
    go_ret
    exact ⟨rfl, hb1⟩
  · go_wp2_with fail
    refine (lex_any s _ _ ev (by omega) hT1 hv1 hev).mono ?_
    rintro e w2 ⟨hb2, hL⟩
    have hT2 := cell_keep hb2 hT1
    have hB2 := cell_keep hb2 hB1
    have hv2 := cell_keep hb2 hv1
    have hb12 := hb1.trans (hb2.mono hb1.size)
    clear hT1 hB1 hv1 hT hB hv hb1 hb2
    rcases hL with ⟨l, v, hl, rfl, hown⟩ | ⟨l, j, p, hl, rfl, hp0, hp1⟩
    · have hpos := hl.ne
      have hlen : l.length ≤ 1501 := hl.len (by omega)
      obtain ⟨g, cap, rfl, hc⟩ := own_cells hown hpos
      clear hown
      obtain ⟨kk, hk4, hkk⟩ := which_four n
      have HK : Hid ((if n.tmod 4 < 0 then n.tmod 4 + 4 else n.tmod 4) = (kk : Int)) := hkk
      clear hkk
      have m1 : -4 < n.tmod 4 := Int.lt_tmod_of_pos n (by omega)
      have m2 : n.tmod 4 < 4 := Int.tmod_lt_of_pos n (by omega)
      by_cases hneg : n.tmod 4 < 0
      · have hkk : n.tmod 4 + 4 = (kk : Int) := by have := HK.out; rw [if_pos hneg] at this; exact this
        go_wp2
        have hbA : Below w2.heap.size w2 (w2.alloc (.cells #[.string ⟨#[32, 32]⟩, .string ⟨#[10]⟩, .string ⟨#[32, 45, 45, 120, 10]⟩, .string ⟨#[10, 10, 45, 45, 10, 32]⟩] 9)) := (Below.refl _ _).alloc (Nat.le_refl _) _
        have hxg : (w2.alloc (.cells #[.string ⟨#[32, 32]⟩, .string ⟨#[10]⟩, .string ⟨#[32, 45, 45, 120, 10]⟩, .string ⟨#[10, 10, 45, 45, 10, 32]⟩] 9)).cell? ⟨w2.heap.size, kk, none⟩ = some (.string (gapS kk)) := by
          rw [World.cell?_alloc_at _ _ _ _ rfl]; exact fourA kk hk4
        have hfo := four kk hk4
        have hd : ∀ i (hi : i < l.length), (w2.alloc (.cells #[.string ⟨#[32, 32]⟩, .string ⟨#[10]⟩, .string ⟨#[32, 45, 45, 120, 10]⟩, .string ⟨#[10, 10, 45, 45, 10, 32]⟩] 9)).cell? ⟨g, i * 3, none⟩ = some (.string l[i].kind) ∧ (w2.alloc (.cells #[.string ⟨#[32, 32]⟩, .string ⟨#[10]⟩, .string ⟨#[32, 45, 45, 120, 10]⟩, .string ⟨#[10, 10, 45, 45, 10, 32]⟩] 9)).cell? ⟨g, i * 3 + 1, none⟩ = some (.string l[i].text) := fun i hi => ⟨cell_keep hbA (hc i hi).1, cell_keep hbA (hc i hi).2.1⟩
        have HD : Hid _ := hd
        have hT3 := cell_keep hbA hT2
        have hB3 := cell_keep hbA hB2
        have hv3 := cell_keep hbA hv2
        have hb3 : Below w.heap.size w (w2.alloc (.cells #[.string ⟨#[32, 32]⟩, .string ⟨#[10]⟩, .string ⟨#[32, 45, 45, 120, 10]⟩, .string ⟨#[10, 10, 45, 45, 10, 32]⟩] 9)) := hb12.trans (hbA.mono hb12.size)
        have hgz := gapS_size kk
        clear hd hc hT2 hB2 hv2 hbA
        go_loopw [10, 11] (fun t i wr => ∃ (c q : Nat) (tt : ByteArray), c + 1 ≤ l.length ∧ i = .int .i64 c ∧ t = .string tt ∧ wr = (w2.alloc (.cells #[.string ⟨#[32, 32]⟩, .string ⟨#[10]⟩, .string ⟨#[32, 45, 45, 120, 10]⟩, .string ⟨#[10, 10, 45, 45, 10, 32]⟩] 9)).drewN q ∧ tt.size ≤ c * 1506 ∧ Hid (tt.data.toList = pre kk (l.take c))) (fun _ i _ => l.length - (intOf i).toNat)
        case atStart => exact ⟨0, 0, ⟨#[]⟩, by omega, rfl, rfl, rfl, by decide, rfl⟩
        case round =>
          obtain ⟨c, q, tt, hc1, rfl, rfl, rfl, htz, hpre⟩ := hrel
          have k0 : (0 : Int) ≤ (kk : Int) := by omega
          have k1 : (kk : Int) < 4 := by omega
          by_cases hlt : c + 1 < l.length
          · have x1 := (HD.out c (by omega)).2
            have htl := hl.text_le l[c] (List.getElem_mem (by omega))
            have hcz : c * 1506 ≤ 1501 * 1506 := Nat.mul_le_mul_right _ (by omega)
            have ha1 : ∀ W : World, (Op.stringOp .add tt (gapS kk)).run Tryd.prog W = .ok (.string (tt ++ gapS kk)) W := fun W => run_string_add_sum W _ _ (by omega)
            have ha2 : ∀ W : World, (Op.stringOp .add (tt ++ gapS kk) l[c].text).run Tryd.prog W = .ok (.string ((tt ++ gapS kk) ++ l[c].text)) W := fun W => run_string_add_sum W _ _ (by rw [ByteArray.size_append]; omega)
            have c0 : (0 : Int) ≤ (c : Int) := by omega
            have c2 : (c : Int) < (l.length : Int) := by omega
            clear hT3 hB3 hv3
            go_wp2
            go_quiet (fail)
            go_wp2
            refine ⟨⟨c + 1, _, (tt ++ gapS kk) ++ l[c].text, by omega, by go_num, rfl, rfl, ?_, ?_⟩, by simp [intOf]; omega⟩
            · rw [ByteArray.size_append, ByteArray.size_append]; omega
            · show ((tt ++ gapS kk) ++ l[c].text).data.toList = _
              rw [List.take_succ_eq_append_getElem (by omega), pre_snoc, ByteArray.data_append, ByteArray.data_append, Array.toList_append, Array.toList_append, hpre.out, List.append_assoc]; rfl
          · obtain ⟨gd, e, hle, hgood, he1, he2⟩ := hl.parts
            have hcl : c = gd.length := by rw [hle] at hc1 hlt; simp only [List.length_append, List.length_cons, List.length_nil] at hc1 hlt; omega
            have hpg : tt.data.toList = pre kk gd := by rw [hpre.out, hle, hcl, List.take_left]
            have hTj : (tt ++ gapS kk).data.toList = joined kk gd := by rw [ByteArray.data_append, Array.toList_append, hpg, ← pre_joined]; rfl
            have hcz : c * 1506 ≤ 1501 * 1506 := Nat.mul_le_mul_right _ (by omega)
            have ha1 : ∀ W : World, (Op.stringOp .add tt (gapS kk)).run Tryd.prog W = .ok (.string (tt ++ gapS kk)) W := fun W => run_string_add_sum W _ _ (by omega)
            have hTs : (tt ++ gapS kk).size = tt.size + (gapS kk).size := ByteArray.size_append
            have HTS : Hid ((tt ++ gapS kk).size = tt.size + (gapS kk).size) := hTs
            have HLE : Hid (l = gd ++ [e]) := hle
            clear hTs hpre hpg hcl hle
            by_cases hT6 : 6000 < (tt ++ gapS kk).size
            · have h5 : 5000 < tt.size := by have := HTS.out; omega
              go_wp2_with fail
              refine (lex_long (tt ++ gapS kk) _ vB hT6 (by unfold maxLen; have := HTS.out; omega) (by exact hB3) hvB).mono ?_
              rintro e w5 ⟨rfl, k5, rfl⟩
              obtain ⟨tB, xB, rfl⟩ := hvB
              go_wp2
              go_ret
              exact ⟨rfl, below_drewN hb3 _⟩
            · go_wp2_with fail
              refine (lex_any (tt ++ gapS kk) _ pT ev (by omega) (by exact hT3) (by exact hv3) hev).mono ?_
              rintro e5 w5 ⟨hb5, hL5⟩
              have hB5 : Below w.heap.size w w5 := (below_drewN hb3 q).trans (hb5.mono hb3.size)
              obtain ⟨l', hl', hmap⟩ := lexes_joined kk gd 0 hgood (Nat.zero_le _) (by rw [List.drop_zero]; exact hTj)
              rcases hL5 with ⟨l2, v2, hl2, rfl, hown2⟩ | ⟨l2, j2, p2, hl2, rfl, _, _⟩
              · obtain ⟨rfl, _⟩ := hl2.one hl'
                obtain ⟨g2, cap2, rfl, hc2⟩ := own_cells hown2 hl2.ne
                have hle := HLE.out
                have hmm : l2.map (fun t => (t.kind, t.text)) = l.map (fun t => (t.kind, t.text)) := by rw [hmap, hle, List.map_append, List.map_cons, he1, he2]; rfl
                have hll : l2.length = l.length := by simpa using congrArg List.length hmm
                have hE : ∀ i (h1 : i < l.length), w5.cell? ⟨g2, i * 3, none⟩ = some (.string l[i].kind) ∧ w5.cell? ⟨g2, i * 3 + 1, none⟩ = some (.string l[i].text) := by
                  intro i h1
                  have h2 : i < l2.length := by omega
                  have e0 : (l2[i].kind, l2[i].text) = (l[i].kind, l[i].text) := by
                    have := List.getElem_of_eq hmm (i := i) (by simpa using h2)
                    simpa using this
                  have ek : l2[i].kind = l[i].kind := congrArg Prod.fst e0
                  have et : l2[i].text = l[i].text := congrArg Prod.snd e0
                  rw [← ek, ← et]
                  exact ⟨(hc2 i h2).1, (hc2 i h2).2.1⟩
                have hF : ∀ i (h1 : i < l.length), w5.cell? ⟨g, i * 3, none⟩ = some (.string l[i].kind) ∧ w5.cell? ⟨g, i * 3 + 1, none⟩ = some (.string l[i].text) := fun i h1 => ⟨cell_keep hb5 (HD.out i h1).1, cell_keep hb5 (HD.out i h1).2⟩
                have HE : Hid _ := hE
                have HF : Hid _ := hF
                rw [hll]
                clear hE hF hc2 hown2 hmm hle hT3 hB3 hv3 hxg ha1 hll hTj hb5
                by_cases h5 : 5000 < tt.size
                · go_wp2
                  go_ret
                  exact ⟨rfl, hB5⟩
                · go_wp2
                  go_loopw [13] (fun t wr => ∃ (i k : Nat), i ≤ l.length ∧ t = .int .i64 i ∧ wr = w5.drewN k) (fun t _ => l.length - (intOf t).toNat)
                  case atStart => exact ⟨0, 0, Nat.zero_le _, rfl, rfl⟩
                  case round =>
                    obtain ⟨i, k, hi, rfl, rfl⟩ := hrel
                    by_cases hlt2 : i < l.length
                    · obtain ⟨x0, x1⟩ := HE.out i hlt2
                      obtain ⟨y0, y1⟩ := HF.out i hlt2
                      have i0 : (0 : Int) ≤ (i : Int) := by omega
                      have i1 : (i : Int) < (l.length : Int) := by omega
                      go_wp2
                      go_quiet (fail)
                      go_wp2
                      refine ⟨⟨i + 1, _, by omega, by go_num, rfl⟩, ?_⟩
                      simp [intOf]; omega
                    · go_wp2
                      go_ret
                      exact ⟨rfl, below_drewN hB5 k⟩
              · exact absurd (hl2.one hl').2 (by simp)
      · have hkk : n.tmod 4 = (kk : Int) := by have := HK.out; rw [if_neg hneg] at this; exact this
        go_wp2
        have hbA : Below w2.heap.size w2 (w2.alloc (.cells #[.string ⟨#[32, 32]⟩, .string ⟨#[10]⟩, .string ⟨#[32, 45, 45, 120, 10]⟩, .string ⟨#[10, 10, 45, 45, 10, 32]⟩] 9)) := (Below.refl _ _).alloc (Nat.le_refl _) _
        have hxg : (w2.alloc (.cells #[.string ⟨#[32, 32]⟩, .string ⟨#[10]⟩, .string ⟨#[32, 45, 45, 120, 10]⟩, .string ⟨#[10, 10, 45, 45, 10, 32]⟩] 9)).cell? ⟨w2.heap.size, kk, none⟩ = some (.string (gapS kk)) := by
          rw [World.cell?_alloc_at _ _ _ _ rfl]; exact fourA kk hk4
        have hfo := four kk hk4
        have hd : ∀ i (hi : i < l.length), (w2.alloc (.cells #[.string ⟨#[32, 32]⟩, .string ⟨#[10]⟩, .string ⟨#[32, 45, 45, 120, 10]⟩, .string ⟨#[10, 10, 45, 45, 10, 32]⟩] 9)).cell? ⟨g, i * 3, none⟩ = some (.string l[i].kind) ∧ (w2.alloc (.cells #[.string ⟨#[32, 32]⟩, .string ⟨#[10]⟩, .string ⟨#[32, 45, 45, 120, 10]⟩, .string ⟨#[10, 10, 45, 45, 10, 32]⟩] 9)).cell? ⟨g, i * 3 + 1, none⟩ = some (.string l[i].text) := fun i hi => ⟨cell_keep hbA (hc i hi).1, cell_keep hbA (hc i hi).2.1⟩
        have HD : Hid _ := hd
        have hT3 := cell_keep hbA hT2
        have hB3 := cell_keep hbA hB2
        have hv3 := cell_keep hbA hv2
        have hb3 : Below w.heap.size w (w2.alloc (.cells #[.string ⟨#[32, 32]⟩, .string ⟨#[10]⟩, .string ⟨#[32, 45, 45, 120, 10]⟩, .string ⟨#[10, 10, 45, 45, 10, 32]⟩] 9)) := hb12.trans (hbA.mono hb12.size)
        have hgz := gapS_size kk
        clear hd hc hT2 hB2 hv2 hbA
        go_loopw [10, 11] (fun t i wr => ∃ (c q : Nat) (tt : ByteArray), c + 1 ≤ l.length ∧ i = .int .i64 c ∧ t = .string tt ∧ wr = (w2.alloc (.cells #[.string ⟨#[32, 32]⟩, .string ⟨#[10]⟩, .string ⟨#[32, 45, 45, 120, 10]⟩, .string ⟨#[10, 10, 45, 45, 10, 32]⟩] 9)).drewN q ∧ tt.size ≤ c * 1506 ∧ Hid (tt.data.toList = pre kk (l.take c))) (fun _ i _ => l.length - (intOf i).toNat)
        case atStart => exact ⟨0, 0, ⟨#[]⟩, by omega, rfl, rfl, rfl, by decide, rfl⟩
        case round =>
          obtain ⟨c, q, tt, hc1, rfl, rfl, rfl, htz, hpre⟩ := hrel
          have k0 : (0 : Int) ≤ (kk : Int) := by omega
          have k1 : (kk : Int) < 4 := by omega
          by_cases hlt : c + 1 < l.length
          · have x1 := (HD.out c (by omega)).2
            have htl := hl.text_le l[c] (List.getElem_mem (by omega))
            have hcz : c * 1506 ≤ 1501 * 1506 := Nat.mul_le_mul_right _ (by omega)
            have ha1 : ∀ W : World, (Op.stringOp .add tt (gapS kk)).run Tryd.prog W = .ok (.string (tt ++ gapS kk)) W := fun W => run_string_add_sum W _ _ (by omega)
            have ha2 : ∀ W : World, (Op.stringOp .add (tt ++ gapS kk) l[c].text).run Tryd.prog W = .ok (.string ((tt ++ gapS kk) ++ l[c].text)) W := fun W => run_string_add_sum W _ _ (by rw [ByteArray.size_append]; omega)
            have c0 : (0 : Int) ≤ (c : Int) := by omega
            have c2 : (c : Int) < (l.length : Int) := by omega
            clear hT3 hB3 hv3
            go_wp2
            go_quiet (fail)
            go_wp2
            refine ⟨⟨c + 1, _, (tt ++ gapS kk) ++ l[c].text, by omega, by go_num, rfl, rfl, ?_, ?_⟩, by simp [intOf]; omega⟩
            · rw [ByteArray.size_append, ByteArray.size_append]; omega
            · show ((tt ++ gapS kk) ++ l[c].text).data.toList = _
              rw [List.take_succ_eq_append_getElem (by omega), pre_snoc, ByteArray.data_append, ByteArray.data_append, Array.toList_append, Array.toList_append, hpre.out, List.append_assoc]; rfl
          · obtain ⟨gd, e, hle, hgood, he1, he2⟩ := hl.parts
            have hcl : c = gd.length := by rw [hle] at hc1 hlt; simp only [List.length_append, List.length_cons, List.length_nil] at hc1 hlt; omega
            have hpg : tt.data.toList = pre kk gd := by rw [hpre.out, hle, hcl, List.take_left]
            have hTj : (tt ++ gapS kk).data.toList = joined kk gd := by rw [ByteArray.data_append, Array.toList_append, hpg, ← pre_joined]; rfl
            have hcz : c * 1506 ≤ 1501 * 1506 := Nat.mul_le_mul_right _ (by omega)
            have ha1 : ∀ W : World, (Op.stringOp .add tt (gapS kk)).run Tryd.prog W = .ok (.string (tt ++ gapS kk)) W := fun W => run_string_add_sum W _ _ (by omega)
            have hTs : (tt ++ gapS kk).size = tt.size + (gapS kk).size := ByteArray.size_append
            have HTS : Hid ((tt ++ gapS kk).size = tt.size + (gapS kk).size) := hTs
            have HLE : Hid (l = gd ++ [e]) := hle
            clear hTs hpre hpg hcl hle
            by_cases hT6 : 6000 < (tt ++ gapS kk).size
            · have h5 : 5000 < tt.size := by have := HTS.out; omega
              go_wp2_with fail
              refine (lex_long (tt ++ gapS kk) _ vB hT6 (by unfold maxLen; have := HTS.out; omega) (by exact hB3) hvB).mono ?_
              rintro e w5 ⟨rfl, k5, rfl⟩
              obtain ⟨tB, xB, rfl⟩ := hvB
              go_wp2
              go_ret
              exact ⟨rfl, below_drewN hb3 _⟩
            · go_wp2_with fail
              refine (lex_any (tt ++ gapS kk) _ pT ev (by omega) (by exact hT3) (by exact hv3) hev).mono ?_
              rintro e5 w5 ⟨hb5, hL5⟩
              have hB5 : Below w.heap.size w w5 := (below_drewN hb3 q).trans (hb5.mono hb3.size)
              obtain ⟨l', hl', hmap⟩ := lexes_joined kk gd 0 hgood (Nat.zero_le _) (by rw [List.drop_zero]; exact hTj)
              rcases hL5 with ⟨l2, v2, hl2, rfl, hown2⟩ | ⟨l2, j2, p2, hl2, rfl, _, _⟩
              · obtain ⟨rfl, _⟩ := hl2.one hl'
                obtain ⟨g2, cap2, rfl, hc2⟩ := own_cells hown2 hl2.ne
                have hle := HLE.out
                have hmm : l2.map (fun t => (t.kind, t.text)) = l.map (fun t => (t.kind, t.text)) := by rw [hmap, hle, List.map_append, List.map_cons, he1, he2]; rfl
                have hll : l2.length = l.length := by simpa using congrArg List.length hmm
                have hE : ∀ i (h1 : i < l.length), w5.cell? ⟨g2, i * 3, none⟩ = some (.string l[i].kind) ∧ w5.cell? ⟨g2, i * 3 + 1, none⟩ = some (.string l[i].text) := by
                  intro i h1
                  have h2 : i < l2.length := by omega
                  have e0 : (l2[i].kind, l2[i].text) = (l[i].kind, l[i].text) := by
                    have := List.getElem_of_eq hmm (i := i) (by simpa using h2)
                    simpa using this
                  have ek : l2[i].kind = l[i].kind := congrArg Prod.fst e0
                  have et : l2[i].text = l[i].text := congrArg Prod.snd e0
                  rw [← ek, ← et]
                  exact ⟨(hc2 i h2).1, (hc2 i h2).2.1⟩
                have hF : ∀ i (h1 : i < l.length), w5.cell? ⟨g, i * 3, none⟩ = some (.string l[i].kind) ∧ w5.cell? ⟨g, i * 3 + 1, none⟩ = some (.string l[i].text) := fun i h1 => ⟨cell_keep hb5 (HD.out i h1).1, cell_keep hb5 (HD.out i h1).2⟩
                have HE : Hid _ := hE
                have HF : Hid _ := hF
                rw [hll]
                clear hE hF hc2 hown2 hmm hle hT3 hB3 hv3 hxg ha1 hll hTj hb5
                by_cases h5 : 5000 < tt.size
                · go_wp2
                  go_ret
                  exact ⟨rfl, hB5⟩
                · go_wp2
                  go_loopw [13] (fun t wr => ∃ (i k : Nat), i ≤ l.length ∧ t = .int .i64 i ∧ wr = w5.drewN k) (fun t _ => l.length - (intOf t).toNat)
                  case atStart => exact ⟨0, 0, Nat.zero_le _, rfl, rfl⟩
                  case round =>
                    obtain ⟨i, k, hi, rfl, rfl⟩ := hrel
                    by_cases hlt2 : i < l.length
                    · obtain ⟨x0, x1⟩ := HE.out i hlt2
                      obtain ⟨y0, y1⟩ := HF.out i hlt2
                      have i0 : (0 : Int) ≤ (i : Int) := by omega
                      have i1 : (i : Int) < (l.length : Int) := by omega
                      go_wp2
                      go_quiet (fail)
                      go_wp2
                      refine ⟨⟨i + 1, _, by omega, by go_num, rfl⟩, ?_⟩
                      simp [intOf]; omega
                    · go_wp2
                      go_ret
                      exact ⟨rfl, below_drewN hB5 k⟩
              · exact absurd (hl2.one hl').2 (by simp)
    · go_wp2
      go_ret
      exact ⟨rfl, hb12⟩
end Go.Proofs.YtkipbkhpomjhkaaDoor
