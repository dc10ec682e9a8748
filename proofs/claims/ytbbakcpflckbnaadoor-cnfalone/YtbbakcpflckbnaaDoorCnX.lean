/-
  lustrumlaw3.CnfAlone, WALKED: it answers true.
-/
import Derived.Test.YtbbakcpflckbnaaDoorCnW
import Derived.Test.YtbbakcpflckbnaaDoorCnB
import Derived.Test.YtbbakcpflckbnaaDoorCnS
import Derived.Test.YtbbakcpflckbnaaDoorCdS
import Derived.Deep.RegionHeld3
namespace Go.Proofs.YtbbakcpflckbnaaDoor
open Go.RowKit Go.Maps

theorem Tryd.infoLitC : (Tryd.prog.info? 30).map (fun i => (i.zero, i.size, i.bytes)) = some (some (.int .i64 0), 1, 8) := by kernel_rfl
/-- What a statement's world has. -/
structure Env (w : World) : Prop where
  tab : Lib.TabIs Tryd.prog w "internal/strconv.uint64pow10" .u64 Lib.pow10Tab
  bound : ∃ t q, w.cell? ⟨1, 0, none⟩ = some (.iface t q)
  shape : ∃ t q, w.cell? ⟨0, 0, none⟩ = some (.iface t q)
  none : ∃ t q, w.cell? ⟨8, 0, none⟩ = some (.iface t q)
theorem Env.below {w w' : World} (h : Env w) (hb : Below w.heap.size w w') : Env w' := by
  obtain ⟨t, ⟨t1, q1, h1⟩, ⟨t2, q2, h2⟩, ⟨t3, q3, h3⟩⟩ := h
  exact ⟨(Lib.tabBelow_of_tabIs t) w' hb, ⟨t1, q1, cell_keep hb h1⟩, ⟨t2, q2, cell_keep hb h2⟩, ⟨t3, q3, cell_keep hb h3⟩⟩
theorem texted_env {w : World} (h : Env w) : Calls Tryd.prog 7 #[] w fun e w' => e = .returned (.bool true) ∧ Below w.heap.size w w' := by
  obtain ⟨t, ⟨t1, q1, h1⟩, ⟨t2, q2, h2⟩, _⟩ := h
  exact texted_any w t t1 t2 q1 q2 h1 h2
theorem owns_moveC {w w' : World} {F F' : Nat → Prop} {base size n : Nat} {e : TypeId} {v : Value} {xs : List Value} (h : w.ownsRow base e size v n xs) (hm : Mvd F F' w w') (hn : ∀ k, v.ownBlock = some k → ¬ F k) : w'.ownsRow base e size v n xs ∧ ∀ k, v.ownBlock = some k → ¬ F' k := by
  have hlt : ∀ k, v.ownBlock = some k → k < w.heap.size := fun k hk => (h.lt k hk).2
  refine ⟨owns_keep h (fun k hk => hm.block k (hlt k hk) (hn k hk)), fun k hk hf => ?_⟩
  rcases hm.more k hf with h1 | h1
  · exact hn k hk h1
  · have := hlt k hk; omega
theorem alloc_new2 (w : World) (o p : Obj) : ((w.alloc o).alloc p).heap[w.heap.size + 1]? = some p := by
  have := heap_alloc_new (w.alloc o) p
  rw [World.size_alloc] at this
  exact this
theorem cell_set2 {w : World} {p : Addr} {B : Nat} {u v x : Value} (h : w.cell? p = some x) (hne : p.block ≠ B) : ((w.setCell ⟨B, 0, none⟩ u).setCell ⟨B, 1, none⟩ v).cell? p = some x := by
  have e1 := Below.heap_setCell (w.setCell ⟨B, 0, none⟩ u) ⟨B, 1, none⟩ v p.block hne
  have e2 := Below.heap_setCell w ⟨B, 0, none⟩ u p.block hne
  simp only [World.cell?, e1, e2] at h ⊢
  exact h
/-- What is there behind cnf.Of. -/
structure AloneF (w wf : World) (B : Nat) (vo : Option Addr) (vc U i : Nat) : Prop where
  row : wf.heap[B]? = some (.cells #[.int .i64 1, .slice vo 2 vc] 34 (0, 0))
  cl : ClsAt wf (.slice vo 2 vc) [[1], [-1]]
  u : wf.cell? ⟨U, i + 1, none⟩ = some (.int .i64 1)
  bel : Below w.heap.size w wf
theorem AloneF.new {w w6 : World} {vo : Option Addr} {vc U i : Nat} (hb : Below w.heap.size w w6) (hcl : ClsAt w6 (.slice vo 2 vc) [[1], [-1]] ∧ w6.cell? ⟨U, i + 1, none⟩ = some (.int .i64 1)) : AloneF w (w6.alloc (.cells #[.int .i64 1, .slice vo 2 vc] 34)) w6.heap.size vo vc U i := by
  have hb7 : Below w6.heap.size w6 (w6.alloc (.cells #[.int .i64 1, .slice vo 2 vc] 34)) := (Below.refl _ _).alloc (Nat.le_refl _) _
  exact ⟨heap_alloc_new _ _, hcl.1.below hb7, cell_keep hb7 hcl.2, hb.alloc hb.size _⟩
theorem AloneF.set {w w6 : World} {vo : Option Addr} {vc U i B L : Nat} (hb : Below w.heap.size w w6) (r6 : w6.heap[B]? = some (.cells #[.int .i64 0, .slice none 0 0] 34 (0, 0))) (hB : w.heap.size ≤ B) (hL : B < L) (hcl : ∀ w'', (∀ k, L ≤ k → w''.heap[k]? = w6.heap[k]?) → ClsAt w'' (.slice vo 2 vc) [[1], [-1]] ∧ w''.cell? ⟨U, i + 1, none⟩ = some (.int .i64 1)) : AloneF w ((w6.setCell ⟨B, 0, none⟩ (.int .i64 1)).setCell ⟨B, 1, none⟩ (.slice vo 2 vc)) B vo vc U i := by
  have h := hcl ((w6.setCell ⟨B, 0, none⟩ (.int .i64 1)).setCell ⟨B, 1, none⟩ (.slice vo 2 vc)) (fun k hk => by
    rw [Below.heap_setCell _ _ _ _ (show k ≠ B by omega), Below.heap_setCell _ _ _ _ (show k ≠ B by omega)])
  exact ⟨heap_setCell_at (i := 1) (heap_setCell_at (i := 0) r6 _) _, h.1, h.2, (hb.setCell hB _).setCell hB _⟩
/-- The literals of so many inputs. -/
def insL (n : Nat) : List Int := (List.range n).map fun (j : Nat) => 2 * (j : Int) + 2
theorem insL_succ (n : Nat) : insL (n + 1) = insL n ++ [2 * (n : Int) + 2] := by simp [insL, List.range_succ]
theorem insL_get {n k : Nat} (h : k < n) : (insL n)[k]? = some (2 * (k : Int) + 2) := by simp [insL, h]
set_option maxRecDepth 100000 in
set_option maxHeartbeats 8000000 in
theorem alone_walk (w : World) (S : Env w) (many which : Int) :
    Calls Tryd.prog 6 #[.int .i64 many, .int .i64 which] w fun e w' => e = .returned (.bool true) ∧ Below w.heap.size w w' := by
  have HS : Hid (Env w) := S
  have HT : Hid (Calls Tryd.prog 7 #[] w fun e w' => e = .returned (.bool true) ∧ Below w.heap.size w w') := texted_env S
  clear S
  by_cases h1 : many < 1
  · have d1 : (many < 1) = True := eq_true h1
    clear h1
    go_enter Tryd.func6, Tryd.ntmps6
    go_wp2_with (go_at_call 7; refine HT.out.mono ?_; rintro e w1 ⟨rfl, hb1⟩)
    go_ret
    exact ⟨rfl, hb1⟩
  · have d1 : (many < 1) = False := eq_false h1
    by_cases h2 : 50 < many
    · have d2 : (50 < many) = True := eq_true h2
      clear h1 h2
      go_enter Tryd.func6, Tryd.ntmps6
      go_wp2_with (go_at_call 7; refine HT.out.mono ?_; rintro e w1 ⟨rfl, hb1⟩)
      go_ret
      exact ⟨rfl, hb1⟩
    · have d2 : (50 < many) = False := eq_false h2
      by_cases h3 : which < 0
      · have d3 : (which < 0) = True := eq_true h3
        clear h1 h2 h3
        go_enter Tryd.func6, Tryd.ntmps6
        go_wp2_with (go_at_call 7; refine HT.out.mono ?_; rintro e w1 ⟨rfl, hb1⟩)
        go_ret
        exact ⟨rfl, hb1⟩
      · have d3 : (which < 0) = False := eq_false h3
        by_cases h4 : many ≤ which
        · have d4 : (many ≤ which) = True := eq_true h4
          clear h1 h2 h3 h4
          go_enter Tryd.func6, Tryd.ntmps6
          go_wp2_with (go_at_call 7; refine HT.out.mono ?_; rintro e w1 ⟨rfl, hb1⟩)
          go_ret
          exact ⟨rfl, hb1⟩
        · obtain ⟨n, rfl⟩ : ∃ n : Nat, many = (n : Int) := ⟨many.toNat, by omega⟩
          obtain ⟨i, rfl⟩ : ∃ i : Nat, which = (i : Int) := ⟨which.toNat, by omega⟩
          have d4 : ((n : Int) ≤ (i : Int)) = False := eq_false h4
          have HIN : Hid (i < n ∧ n ≤ 50) := ⟨by omega, by omega⟩
          obtain ⟨i0, hi0, hz0, hz1, hz2⟩ := info_parts Tryd.infoLitC
          clear h1 h2 h3 h4
          go_enter Tryd.func6, Tryd.ntmps6
          go_wp2_with fail
          refine HT.out.mono ?_
          rintro e w1 ⟨rfl, hb1⟩
          have hg1 := new_graph w1 62
          obtain ⟨w2, hw2⟩ : ∃ w2, w2 = w1.alloc (.cells #[.slice none 0 0, .map none, .int .i64 0] 62) := ⟨_, rfl⟩
          have hb2 : Below w.heap.size w w2 := by rw [hw2]; exact hb1.alloc hb1.size _
          rw [← hw2] at hg1
          obtain ⟨G, hG⟩ : ∃ G, G = w1.heap.size := ⟨_, rfl⟩
          rw [← hG] at hg1
          have HG1 : Hid (GrAt G [] 0 (fun k => k = G) w2) := hg1
          have HGB : Hid (w.heap.size ≤ G) := by unfold Hid; rw [hG]; exact hb1.size
          have HB2 : Hid (Below w.heap.size w w2) := hb2
          have HW2 : Hid (w1.alloc (.cells #[.slice none 0 0, .map none, .int .i64 0] 62) = w2 ∧ w1.heap.size = G) := ⟨hw2.symm, hG.symm⟩
          clear hg1 hw2 hb2 hG hb1
          go_wp2
          rw [HW2.out.1, HW2.out.2]
          go_loopw [7, 8] (fun sv t wr => ∃ (j : Nat) (F : Nat → Prop) (so : Option Addr) (sc : Nat), j ≤ n ∧ t = .int .i64 j ∧ sv = .slice so j sc ∧ GrAt G (insG j) j F wr ∧ Mvd (fun k => k = G) F w2 wr ∧ wr.ownsRow w2.heap.size 30 1 (.slice so j sc) j ((insL j).map (Value.int .i64)) ∧ (∀ k, (Value.slice so j sc).ownBlock = some k → ¬ F k)) (fun _ t _ => n - (intOf t).toNat)
          case atStart => exact ⟨0, _, none, 0, Nat.zero_le _, rfl, rfl, HG1.out, Mvd.refl _ _, World.ownsRow_nil _ _ _ _, fun k hk => by simp [Value.ownBlock] at hk⟩
          case round =>
            obtain ⟨j, F, so, sc, hj, rfl, rfl, hG, hM, hown, hns⟩ := hrel
            have HG2 : Hid (GrAt G (insG j) j F wr) := hG
            have HM2 : Hid (Mvd (fun k => k = G) F w2 wr) := hM
            have HOS : Hid (wr.ownsRow w2.heap.size 30 1 (.slice so j sc) j ((insL j).map (Value.int .i64))) := hown
            have HNS : Hid (∀ k, (Value.slice so j sc).ownBlock = some k → ¬ F k) := hns
            clear hG hM hown hns
            by_cases hjl : j < n
            · have j1' : (j : Int) < (n : Int) := by omega
              have HJ : Hid (j < n) := hjl
              have HL2 : Hid ((insG j).length < 90000) := by rw [insG_length]; have := HIN.out; unfold Hid; omega
              have HL3 : Hid (j ≤ (insG j).length) := by rw [insG_length]; exact Nat.le_refl _
              have HMX : Hid (j + 1 ≤ maxLen) := by have := HIN.out; unfold Hid maxLen; omega
              have HBY : Hid ((j + 1) * 8 ≤ 140737488355328) := by have := HIN.out; unfold Hid; omega
              have N4 : Hid (wrap64 ((j : Int) + 1) = (j : Int) + 1) := by have := HIN.out; unfold Hid wrap64; omega
              clear hj hjl
              go_wp2_with fail
              refine (input_ok HG2.out HL2.out HL3.out).mono ?_
              rw [insG_length, insG_succ]
              rintro e w5 ⟨rfl, F5, G5, M5⟩
              obtain ⟨x, hx⟩ : ∃ x : Int, x = 2 * (j : Int) + 2 := ⟨_, rfl⟩
              rw [← hx]
              have own5 := owns_moveC HOS.out M5 HNS.out
              have hba : Below w5.heap.size w5 (w5.alloc (.cells #[.int .i64 x] 30)) := (Below.refl _ _).alloc (Nat.le_refl _) _
              have HO : Hid (∀ o', (w5.alloc o').ownsRow w2.heap.size 30 1 (.slice so j sc) j ((insL j).map (Value.int .i64))) := fun o' => own5.1.alloc o'
              have HN' : Hid _ := World.news_of_block (heap_alloc_new w5 (.cells #[.int .i64 x] 30))
              have HM5 : Hid (Mvd (fun k => k = G) F5 w2 (w5.alloc (.cells #[.int .i64 x] 30))) := (HM2.out.trans M5).trans (Mvd.of_below hba)
              have HSZ : Hid (w2.heap.size ≤ (w5.alloc (.cells #[.int .i64 x] 30)).heap.size) := HM5.out.size
              have HRW : Hid (∀ k, (Value.slice so j sc).ownBlock = some k → w2.heap.size ≤ k) := fun k hk => (own5.1.lt k hk).1
              have HNF : Hid (∀ k, (Value.slice so j sc).ownBlock = some k → ¬ F5 k) := own5.2
              have HG5 : Hid (GrAt G (insG (j + 1)) (j + 1) F5 (w5.alloc (.cells #[.int .i64 x] 30))) := G5.below hba
              have HX : Hid (x = 2 * (j : Int) + 2) := hx
              clear own5 G5 M5 hx hba
              go_wp2_with (first
                | (at_builtin; refine wpList_append_lies _ rfl _ _ 29 rfl w2.heap.size 30 i0 _ 1 8 Tryd.underlying29 hi0 hz0 hz1 hz2 rfl (by omega) (.slice so j sc) j _ rfl (HO.out _) ⟨w5.heap.size, 0, none⟩ 1 1 [.int .i64 x] rfl rfl HN'.out (by simp [Value.oneCell']) (by omega) HMX.out HBY.out HSZ.out _ rfl ?_; intro g cap w6 hown6 hgrow hat hlt6)
                | go_in)
              have hg6 : GrAt G (insG (j + 1)) (j + 1) F5 w6 := HG5.out.keep (fun k hk => hgrow.block k (HG5.out.2.2.1 k hk) (fun e => HNF.out k e.symm hk)) (fun _ hk => hk) (fun k hk => Nat.lt_of_lt_of_le (HG5.out.2.2.1 k hk) hgrow.size)
              have hm6 : Mvd (fun k => k = G) F5 w2 w6 := ⟨hgrow.os.trans HM5.out.os, hgrow.tape.trans HM5.out.tape, hgrow.output.trans HM5.out.output, Nat.le_trans HM5.out.size hgrow.size, fun k hk hn => by
                rw [hgrow.block k (Nat.lt_of_lt_of_le hk HM5.out.size) (fun e => by have := HRW.out k e.symm; omega)]; exact HM5.out.block k hk hn, fun k hk => by
                  rcases HM5.out.more k hk with h1 | h1
                  · exact .inl h1
                  · exact .inr ⟨h1.1, Nat.lt_of_lt_of_le h1.2 hgrow.size⟩⟩
              have hown7 : w6.ownsRow w2.heap.size 30 1 (.slice (some ⟨g, 0, none⟩) (j + 1) cap) (j + 1) ((insL (j + 1)).map (Value.int .i64)) := by
                rw [insL_succ, List.map_append, ← HX.out]; exact hown6
              have hnF6 : ∀ k, (Value.slice (some ⟨g, 0, none⟩) (j + 1) cap).ownBlock = some k → ¬ F5 k := fun k hk hf => by
                have : k = g := by simpa [Value.ownBlock] using hk.symm
                subst this
                rcases hat with hat | hat
                · exact HNF.out k hat hf
                · have := HG5.out.2.2.1 k hf; omega
              exact ⟨⟨j + 1, F5, _, _, HJ.out, by rw [N4.out]; rfl, rfl, hg6, hm6, hown7, hnF6⟩, by rw [N4.out]; have := HJ.out; simp [intOf]; omega⟩
            · obtain rfl : j = n := by omega
              clear hj hjl
              obtain ⟨gb, cap, e1, _, _⟩ := HOS.out.form (by have := HIN.out; omega)
              obtain ⟨rfl, rfl⟩ : so = some ⟨gb, 0, none⟩ ∧ sc = cap := by simpa using e1
              have hadd : ∀ j, (⟨gb, 0, none⟩ : Addr).add j = ⟨gb, j, none⟩ := fun j => by unfold Addr.add; split <;> simp_all
              have q0 := HOS.out.cells (g := gb) rfl i (.int .i64 (2 * (i : Int) + 2)) (by rw [List.getElem?_map, insL_get HIN.out.1]; rfl)
              rw [hadd] at q0
              obtain ⟨x, hx⟩ : ∃ x : Int, x = 2 * (i : Int) + 2 := ⟨_, rfl⟩
              rw [← hx] at q0
              have k0 : (0 : Int) ≤ (i : Int) := by omega
              have k1 : (i : Int) < (j : Int) := by have := HIN.out; omega
              clear hadd e1
              have HX : Hid (x = 2 * (i : Int) + 2) := hx
              have HI64 : Hid (I64 x) := by have := HIN.out; unfold Hid I64; omega
              have htn : turnL x = 2 * (i : Int) + 3 := by unfold turnL; rw [if_pos (by omega)]; omega
              have HTN : Hid (turnL x = 2 * (i : Int) + 3) := htn
              have hbw : Below w.heap.size w wr := HM2.out.below HB2.out HB2.out.size (fun k hk => by rw [hk]; exact HGB.out)
              have HBW : Hid (Below w.heap.size w wr) := hbw
              have HOF : Hid (∀ W b, Below wr.heap.size wr W → W.heap[b]? = some (.cells #[.int .i64 x, .int .i64 (turnL x)] 30 (0, 0)) → Calls Tryd.prog 10 #[.pointer (some ⟨G, 0, none⟩), .slice (some ⟨b, 0, none⟩) 2 2] W fun e w' => Below W.heap.size W w' ∧ Below wr.heap.size wr w' ∧ w'.cell? ⟨gb, i, none⟩ = some (.int .i64 x) ∧ ∃ vo vc U, W.heap.size ≤ U ∧ e = .returned (.tuple #[.agg #[.int .i64 1, .slice vo 2 vc], .slice (some ⟨U, 0, none⟩) (j + 1) (j + 1), .nilIface]) ∧ (∀ w'', (∀ k, W.heap.size ≤ k → w''.heap[k]? = w'.heap[k]?) → ClsAt w'' (.slice vo 2 vc) [[1], [-1]] ∧ w''.cell? ⟨U, i + 1, none⟩ = some (.int .i64 1))) := by
                intro W b hbW hb
                obtain ⟨_, _, ⟨ts, qs, hs⟩, ⟨te, qe, he⟩⟩ := (HS.out.below hbw).below hbW
                have hrs : [x, turnL x] = twoR i := by rw [htn, hx]; rfl
                have hints : IntsAt W (.slice (some ⟨b, 0, none⟩) 2 2) (twoR i) := by
                  rw [← hrs]
                  refine ⟨by unfold maxLen; simp, _, _, rfl, fun k y hk => ⟨b, 0, rfl, ?_⟩⟩
                  rw [cell_of_row W _ _ _ _ (0, 0) hb]
                  rcases k with _ | _ | k
                  · simp at hk ⊢; exact hk
                  · simp at hk ⊢; exact hk
                  · simp at hk
                have hin := HIN.out
                refine (of_any (HG2.out.below hbW) (by rw [insG_length]; omega) (some ⟨b, 0, none⟩) 2 2 (twoR i) hints rfl (by omega) (fun y hy => by
                    rw [← hrs] at hy
                    simp at hy
                    unfold I64
                    omega) ts te qs qe hs he).mono ?_
                rintro e w' ⟨hbo, ho⟩
                have hbw' := hbW.trans (hbo.mono hbW.size)
                refine ⟨hbo, hbw', cell_keep hbw' q0, ?_⟩
                rcases ho with ⟨_, sv, U, hUl, rfl, hcl, hU⟩ | ⟨hn, _⟩
                · obtain ⟨_, vo, vc, e2, _⟩ := hcl w' (fun _ _ => rfl)
                  rw [all_ins hin.1] at hcl e2
                  rw [e2] at hcl ⊢
                  refine ⟨vo, vc, U, hUl, ?_, fun w'' hw'' => ⟨hcl w'' hw'', ?_⟩⟩
                  · rw [insG_length, cnt_ins hin.1, if_pos (by omega)]; rfl
                  · have hU2 : w''.heap[U]? = _ := (hw'' U hUl).trans hU
                    rw [cell_of_row w'' _ _ _ _ (0, 0) hU2]
                    refine rowI_get ?_
                    rw [numL_get _ (by rw [insG_length]; omega), num_ins hin.1]
                · refine absurd (fun y hy => ?_) hn
                  unfold HasL
                  rw [insG_length]
                  rw [← hrs] at hy
                  simp at hy
                  omega
              have HO1 : Hid (Calls Tryd.prog 10 #[.pointer (some ⟨G, 0, none⟩), .slice (some ⟨wr.heap.size, 0, none⟩) 2 2] (wr.alloc (.cells #[.int .i64 x, .int .i64 (turnL x)] 30)).drew fun e w' => Below (wr.alloc (.cells #[.int .i64 x, .int .i64 (turnL x)] 30)).drew.heap.size (wr.alloc (.cells #[.int .i64 x, .int .i64 (turnL x)] 30)).drew w' ∧ Below wr.heap.size wr w' ∧ w'.cell? ⟨gb, i, none⟩ = some (.int .i64 x) ∧ ∃ vo vc U, (wr.alloc (.cells #[.int .i64 x, .int .i64 (turnL x)] 30)).drew.heap.size ≤ U ∧ e = .returned (.tuple #[.agg #[.int .i64 1, .slice vo 2 vc], .slice (some ⟨U, 0, none⟩) (j + 1) (j + 1), .nilIface]) ∧ (∀ w'', (∀ k, (wr.alloc (.cells #[.int .i64 x, .int .i64 (turnL x)] 30)).drew.heap.size ≤ k → w''.heap[k]? = w'.heap[k]?) → ClsAt w'' (.slice vo 2 vc) [[1], [-1]] ∧ w''.cell? ⟨U, i + 1, none⟩ = some (.int .i64 1))) := HOF.out (wr.alloc (.cells #[.int .i64 x, .int .i64 (turnL x)] 30)).drew wr.heap.size (((Below.refl _ _).alloc (Nat.le_refl _) _).drew) (heap_alloc_new _ _)
              have HO2 : Hid (Calls Tryd.prog 10 #[.pointer (some ⟨G, 0, none⟩), .slice (some ⟨wr.heap.size, 0, none⟩) 2 2] ((wr.alloc (.cells #[.int .i64 x, .int .i64 (turnL x)] 30)).alloc (.cells #[.int .i64 0, .slice none 0 0] 34)).drew fun e w' => Below ((wr.alloc (.cells #[.int .i64 x, .int .i64 (turnL x)] 30)).alloc (.cells #[.int .i64 0, .slice none 0 0] 34)).drew.heap.size ((wr.alloc (.cells #[.int .i64 x, .int .i64 (turnL x)] 30)).alloc (.cells #[.int .i64 0, .slice none 0 0] 34)).drew w' ∧ Below wr.heap.size wr w' ∧ w'.cell? ⟨gb, i, none⟩ = some (.int .i64 x) ∧ ∃ vo vc U, ((wr.alloc (.cells #[.int .i64 x, .int .i64 (turnL x)] 30)).alloc (.cells #[.int .i64 0, .slice none 0 0] 34)).drew.heap.size ≤ U ∧ e = .returned (.tuple #[.agg #[.int .i64 1, .slice vo 2 vc], .slice (some ⟨U, 0, none⟩) (j + 1) (j + 1), .nilIface]) ∧ (∀ w'', (∀ k, ((wr.alloc (.cells #[.int .i64 x, .int .i64 (turnL x)] 30)).alloc (.cells #[.int .i64 0, .slice none 0 0] 34)).drew.heap.size ≤ k → w''.heap[k]? = w'.heap[k]?) → ClsAt w'' (.slice vo 2 vc) [[1], [-1]] ∧ w''.cell? ⟨U, i + 1, none⟩ = some (.int .i64 1))) := HOF.out ((wr.alloc (.cells #[.int .i64 x, .int .i64 (turnL x)] 30)).alloc (.cells #[.int .i64 0, .slice none 0 0] 34)).drew wr.heap.size ((((Below.refl _ _).alloc (Nat.le_refl _) _).alloc (by simp) _).drew) (alloc_row _ (heap_alloc_new _ _))
              have HO3 : Hid (Calls Tryd.prog 10 #[.pointer (some ⟨G, 0, none⟩), .slice (some ⟨(wr.heap.size + 1), 0, none⟩) 2 2] ((wr.alloc (.cells #[.int .i64 0, .slice none 0 0] 34)).alloc (.cells #[.int .i64 x, .int .i64 (turnL x)] 30)).drew fun e w' => Below ((wr.alloc (.cells #[.int .i64 0, .slice none 0 0] 34)).alloc (.cells #[.int .i64 x, .int .i64 (turnL x)] 30)).drew.heap.size ((wr.alloc (.cells #[.int .i64 0, .slice none 0 0] 34)).alloc (.cells #[.int .i64 x, .int .i64 (turnL x)] 30)).drew w' ∧ Below wr.heap.size wr w' ∧ w'.cell? ⟨gb, i, none⟩ = some (.int .i64 x) ∧ ∃ vo vc U, ((wr.alloc (.cells #[.int .i64 0, .slice none 0 0] 34)).alloc (.cells #[.int .i64 x, .int .i64 (turnL x)] 30)).drew.heap.size ≤ U ∧ e = .returned (.tuple #[.agg #[.int .i64 1, .slice vo 2 vc], .slice (some ⟨U, 0, none⟩) (j + 1) (j + 1), .nilIface]) ∧ (∀ w'', (∀ k, ((wr.alloc (.cells #[.int .i64 0, .slice none 0 0] 34)).alloc (.cells #[.int .i64 x, .int .i64 (turnL x)] 30)).drew.heap.size ≤ k → w''.heap[k]? = w'.heap[k]?) → ClsAt w'' (.slice vo 2 vc) [[1], [-1]] ∧ w''.cell? ⟨U, i + 1, none⟩ = some (.int .i64 1))) := HOF.out ((wr.alloc (.cells #[.int .i64 0, .slice none 0 0] 34)).alloc (.cells #[.int .i64 x, .int .i64 (turnL x)] 30)).drew (wr.heap.size + 1) ((((Below.refl _ _).alloc (Nat.le_refl _) _).alloc (by simp) _).drew) (alloc_new2 _ _ _)
              have HR2 : Hid (((wr.alloc (.cells #[.int .i64 x, .int .i64 (turnL x)] 30)).alloc (.cells #[.int .i64 0, .slice none 0 0] 34)).drew.heap[wr.heap.size + 1]? = some (.cells #[.int .i64 0, .slice none 0 0] 34 (0, 0))) := alloc_new2 wr (.cells #[.int .i64 x, .int .i64 (turnL x)] 30) (.cells #[.int .i64 0, .slice none 0 0] 34)
              have HR3 : Hid (((wr.alloc (.cells #[.int .i64 0, .slice none 0 0] 34)).alloc (.cells #[.int .i64 x, .int .i64 (turnL x)] 30)).drew.heap[wr.heap.size]? = some (.cells #[.int .i64 0, .slice none 0 0] 34 (0, 0))) := alloc_row (.cells #[.int .i64 x, .int .i64 (turnL x)] 30) (heap_alloc_new wr (.cells #[.int .i64 0, .slice none 0 0] 34))
              clear HOF
              have HK23 : Hid ((0 : Int) ≤ (i : Int) + 1 ∧ (i : Int) + 1 < (j : Int) + 1) := by unfold Hid; omega
              have HN12 : Hid (wrap64 ((i : Int) + 1) = (i : Int) + 1 ∧ wrap64 ((j : Int) + 1) = (j : Int) + 1) := by have := HIN.out; unfold Hid wrap64; omega
              have hgbl := cell_blkN q0
              have HGA : Hid (gb ≠ wr.heap.size + 1) := by simp only at hgbl; unfold Hid; omega
              have HGC : Hid (gb ≠ wr.heap.size) := by simp only at hgbl; unfold Hid; omega
              clear hx htn hgbl hbw
              go_wp2
              go_region_held3 (fun w' => w'.cell? ⟨gb, i, none⟩ = some (.int .i64 x)) (first | go_keep | exact hq6 | exact cell_set2 hq6 HGA.out | exact cell_set2 hq6 HGC.out)
                (first
                  | (go_at_call 10; (with_reducible refine Calls.mono HO1.out ?_); rintro e w6 ⟨hbW, hb6, hq6, vo, vc, U, hUl, rfl, hcls⟩)
                  | (go_at_call 10; (with_reducible refine Calls.mono HO2.out ?_); rintro e w6 ⟨hbW, hb6, hq6, vo, vc, U, hUl, rfl, hcls⟩; have r6 : w6.heap[wr.heap.size + 1]? = some (.cells #[.int .i64 0, .slice none 0 0] 34 (0, 0)) := row_keep hbW HR2.out; have y0 : w6.cell? ⟨wr.heap.size + 1, 0, none⟩ = some (.int .i64 0) := (by rw [cell_of_row w6 _ _ _ _ (0, 0) r6]; rfl); have y1 : w6.cell? ⟨wr.heap.size + 1, 0 + 1, none⟩ = some (.slice none 0 0) := (by rw [cell_of_row w6 _ _ _ _ (0, 0) r6]; rfl); have y2 : w6.frozen? ⟨wr.heap.size + 1, 0, none⟩ = false := frozen_row r6; have y3 : w6.frozen? ⟨wr.heap.size + 1, 0 + 1, none⟩ = false := frozen_row r6)
                  | (go_at_call 10; (with_reducible refine Calls.mono HO3.out ?_); rintro e w6 ⟨hbW, hb6, hq6, vo, vc, U, hUl, rfl, hcls⟩; have r6 : w6.heap[wr.heap.size]? = some (.cells #[.int .i64 0, .slice none 0 0] 34 (0, 0)) := row_keep hbW HR3.out; have y0 : w6.cell? ⟨wr.heap.size, 0, none⟩ = some (.int .i64 0) := (by rw [cell_of_row w6 _ _ _ _ (0, 0) r6]; rfl); have y1 : w6.cell? ⟨wr.heap.size, 0 + 1, none⟩ = some (.slice none 0 0) := (by rw [cell_of_row w6 _ _ _ _ (0, 0) r6]; rfl); have y2 : w6.frozen? ⟨wr.heap.size, 0, none⟩ = false := frozen_row r6; have y3 : w6.frozen? ⟨wr.heap.size, 0 + 1, none⟩ = false := frozen_row r6)
                  | (go_at_call 21; refine (not_any _ _ HI64.out).mono ?_; rintro e w' ⟨rfl, hw⟩; have hw2 := hw.symm; subst hw2))
              · have hF : AloneF w (w6.alloc (.cells #[.int .i64 1, .slice vo 2 vc] 34)) w6.heap.size vo vc U i := AloneF.new (HBW.out.trans (hb6.mono HBW.out.size)) (hcls w6 (fun _ _ => rfl))
                obtain ⟨wf, hwf⟩ : ∃ wf, wf = (w6.alloc (.cells #[.int .i64 1, .slice vo 2 vc] 34)) := ⟨_, rfl⟩
                rw [← hwf] at hF
                rw [← hwf]
                obtain ⟨Bf, hBf⟩ : ∃ Bf, Bf = w6.heap.size := ⟨_, rfl⟩
                rw [← hBf] at hF
                rw [← hBf]
                have c0 : wf.cell? ⟨Bf, 0, none⟩ = some (.int .i64 1) := by rw [cell_of_row wf _ _ _ _ (0, 0) hF.row]; rfl
                have c1 : wf.cell? ⟨Bf, 0 + 1, none⟩ = some (.slice vo 2 vc) := by rw [cell_of_row wf _ _ _ _ (0, 0) hF.row]; rfl
                have c2 := hF.u
                obtain ⟨b0, f0, o0, e0, hvo, q1, i1⟩ := hF.cl.get (k := 0) rfl
                obtain ⟨b1, f1, o1, e1, hvo1, q2, i2⟩ := hF.cl.get (k := 1) rfl
                rw [hvo] at hvo1
                have hbf1 : b0 = b1 := (Addr.mk.inj (Option.some.inj hvo1)).1
                have hbf2 : f0 = f1 := (Addr.mk.inj (Option.some.inj hvo1)).2.1
                subst hbf1
                subst hbf2
                subst hvo
                have q1 : wf.cell? ⟨b0, f0, none⟩ = some (.slice o0 1 e0) := q1
                have HBL : Hid (Below w.heap.size w wf) := hF.bel
                have I1 : Hid (IntsO wf o0 [1]) := i1
                have I2 : Hid (IntsO wf o1 [-1]) := i2
                have k2 : (0 : Int) ≤ (i : Int) + 1 := HK23.out.1
                have k3 : (i : Int) + 1 < (j : Int) + 1 := HK23.out.2
                have n1 := HN12.out.1
                have n2 := HN12.out.2
                have Q2 : Hid (wf.cell? ⟨b0, f0 + 1, none⟩ = some (.slice o1 1 e1)) := q2
                have C1 : Hid (wf.cell? ⟨Bf, 0 + 1, none⟩ = some (.slice (some ⟨b0, f0, none⟩) 2 vc)) := c1
                clear hF hwf hBf hbW hb6 hq6 hUl hcls i1 i2 hvo1 q0 q2 HO1 HO2 HO3 HR2 HR3 HT HG1 HW2 HG2 HM2 HOS HNS
                clear d1 d2 d3 d4 k0 k1
                go_wp2_with fail
                have hb8 : Below wf.heap.size wf (wf.alloc (.cells #[.int .i64 1] 3)) := (Below.refl _ _).alloc (Nat.le_refl _) _
                refine (sameI_any _ _ _ 1 _ _ [1] (I1.out.below hb8) (IntsO.row (l := [1]) (heap_alloc_new _ _)) rfl (by omega)).mono ?_
                rintro e w8 ⟨rfl, m8, hw8⟩
                have hb9 : Below wf.heap.size wf w8 := by rw [hw8]; exact below_drewM hb8 m8
                have q3 := cell_keep hb9 Q2.out
                have c3 := cell_keep hb9 C1.out
                have HB9 : Hid (Below wf.heap.size wf w8) := hb9
                clear hb8 hw8 hb9 c0 c1 c2 q1
                go_wp2_with fail
                have hb10 : Below w8.heap.size w8 (w8.alloc (.cells #[.int .i64 (-1)] 3)) := (Below.refl _ _).alloc (Nat.le_refl _) _
                refine (sameI_any _ _ _ 1 _ _ [-1] ((I2.out.below HB9.out).below hb10) (IntsO.row (l := [-1]) (heap_alloc_new _ _)) rfl (by omega)).mono ?_
                rintro e w9 ⟨rfl, m9, hw9⟩
                have HBZ : Hid (Below w.heap.size w w9) := by
                  unfold Hid
                  rw [hw9]
                  exact below_drewM ((HBL.out.trans (HB9.out.mono HBL.out.size)).trans (hb10.mono (Nat.le_trans HBL.out.size HB9.out.size))) m9
                clear hb10 hw9 q3 c3
                go_wp2
                go_ret
                exact ⟨rfl, HBZ.out⟩
              · have hF : AloneF w ((w6.setCell ⟨wr.heap.size + 1, 0, none⟩ (.int .i64 1)).setCell ⟨wr.heap.size + 1, 1, none⟩ (.slice vo 2 vc)) (wr.heap.size + 1) vo vc U i := AloneF.set (HBW.out.trans (hb6.mono HBW.out.size)) r6 (Nat.le_succ_of_le HBW.out.size) (by show _ < (World.alloc (World.alloc wr _) _).heap.size; rw [World.size_alloc, World.size_alloc]; omega) hcls
                obtain ⟨wf, hwf⟩ : ∃ wf, wf = ((w6.setCell ⟨wr.heap.size + 1, 0, none⟩ (.int .i64 1)).setCell ⟨wr.heap.size + 1, 1, none⟩ (.slice vo 2 vc)) := ⟨_, rfl⟩
                rw [← hwf] at hF
                rw [← hwf]
                obtain ⟨Bf, hBf⟩ : ∃ Bf, Bf = (wr.heap.size + 1) := ⟨_, rfl⟩
                rw [← hBf] at hF
                rw [← hBf]
                have c0 : wf.cell? ⟨Bf, 0, none⟩ = some (.int .i64 1) := by rw [cell_of_row wf _ _ _ _ (0, 0) hF.row]; rfl
                have c1 : wf.cell? ⟨Bf, 0 + 1, none⟩ = some (.slice vo 2 vc) := by rw [cell_of_row wf _ _ _ _ (0, 0) hF.row]; rfl
                have c2 := hF.u
                obtain ⟨b0, f0, o0, e0, hvo, q1, i1⟩ := hF.cl.get (k := 0) rfl
                obtain ⟨b1, f1, o1, e1, hvo1, q2, i2⟩ := hF.cl.get (k := 1) rfl
                rw [hvo] at hvo1
                have hbf1 : b0 = b1 := (Addr.mk.inj (Option.some.inj hvo1)).1
                have hbf2 : f0 = f1 := (Addr.mk.inj (Option.some.inj hvo1)).2.1
                subst hbf1
                subst hbf2
                subst hvo
                have q1 : wf.cell? ⟨b0, f0, none⟩ = some (.slice o0 1 e0) := q1
                have HBL : Hid (Below w.heap.size w wf) := hF.bel
                have I1 : Hid (IntsO wf o0 [1]) := i1
                have I2 : Hid (IntsO wf o1 [-1]) := i2
                have k2 : (0 : Int) ≤ (i : Int) + 1 := HK23.out.1
                have k3 : (i : Int) + 1 < (j : Int) + 1 := HK23.out.2
                have n1 := HN12.out.1
                have n2 := HN12.out.2
                have Q2 : Hid (wf.cell? ⟨b0, f0 + 1, none⟩ = some (.slice o1 1 e1)) := q2
                have C1 : Hid (wf.cell? ⟨Bf, 0 + 1, none⟩ = some (.slice (some ⟨b0, f0, none⟩) 2 vc)) := c1
                clear hF hwf hBf hbW hb6 hq6 hUl hcls i1 i2 hvo1 q0 q2 HO1 HO2 HO3 HR2 HR3 HT HG1 HW2 HG2 HM2 HOS HNS
                clear d1 d2 d3 d4 k0 k1
                go_wp2_with fail
                have hb8 : Below wf.heap.size wf (wf.alloc (.cells #[.int .i64 1] 3)) := (Below.refl _ _).alloc (Nat.le_refl _) _
                refine (sameI_any _ _ _ 1 _ _ [1] (I1.out.below hb8) (IntsO.row (l := [1]) (heap_alloc_new _ _)) rfl (by omega)).mono ?_
                rintro e w8 ⟨rfl, m8, hw8⟩
                have hb9 : Below wf.heap.size wf w8 := by rw [hw8]; exact below_drewM hb8 m8
                have q3 := cell_keep hb9 Q2.out
                have c3 := cell_keep hb9 C1.out
                have HB9 : Hid (Below wf.heap.size wf w8) := hb9
                clear hb8 hw8 hb9 c0 c1 c2 q1
                go_wp2_with fail
                have hb10 : Below w8.heap.size w8 (w8.alloc (.cells #[.int .i64 (-1)] 3)) := (Below.refl _ _).alloc (Nat.le_refl _) _
                refine (sameI_any _ _ _ 1 _ _ [-1] ((I2.out.below HB9.out).below hb10) (IntsO.row (l := [-1]) (heap_alloc_new _ _)) rfl (by omega)).mono ?_
                rintro e w9 ⟨rfl, m9, hw9⟩
                have HBZ : Hid (Below w.heap.size w w9) := by
                  unfold Hid
                  rw [hw9]
                  exact below_drewM ((HBL.out.trans (HB9.out.mono HBL.out.size)).trans (hb10.mono (Nat.le_trans HBL.out.size HB9.out.size))) m9
                clear hb10 hw9 q3 c3
                go_wp2
                go_ret
                exact ⟨rfl, HBZ.out⟩
              · have hF : AloneF w ((w6.setCell ⟨wr.heap.size, 0, none⟩ (.int .i64 1)).setCell ⟨wr.heap.size, 1, none⟩ (.slice vo 2 vc)) (wr.heap.size) vo vc U i := AloneF.set (HBW.out.trans (hb6.mono HBW.out.size)) r6 HBW.out.size (by show _ < (World.alloc (World.alloc wr _) _).heap.size; rw [World.size_alloc, World.size_alloc]; omega) hcls
                obtain ⟨wf, hwf⟩ : ∃ wf, wf = ((w6.setCell ⟨wr.heap.size, 0, none⟩ (.int .i64 1)).setCell ⟨wr.heap.size, 1, none⟩ (.slice vo 2 vc)) := ⟨_, rfl⟩
                rw [← hwf] at hF
                rw [← hwf]
                obtain ⟨Bf, hBf⟩ : ∃ Bf, Bf = (wr.heap.size) := ⟨_, rfl⟩
                rw [← hBf] at hF
                rw [← hBf]
                have c0 : wf.cell? ⟨Bf, 0, none⟩ = some (.int .i64 1) := by rw [cell_of_row wf _ _ _ _ (0, 0) hF.row]; rfl
                have c1 : wf.cell? ⟨Bf, 0 + 1, none⟩ = some (.slice vo 2 vc) := by rw [cell_of_row wf _ _ _ _ (0, 0) hF.row]; rfl
                have c2 := hF.u
                obtain ⟨b0, f0, o0, e0, hvo, q1, i1⟩ := hF.cl.get (k := 0) rfl
                obtain ⟨b1, f1, o1, e1, hvo1, q2, i2⟩ := hF.cl.get (k := 1) rfl
                rw [hvo] at hvo1
                have hbf1 : b0 = b1 := (Addr.mk.inj (Option.some.inj hvo1)).1
                have hbf2 : f0 = f1 := (Addr.mk.inj (Option.some.inj hvo1)).2.1
                subst hbf1
                subst hbf2
                subst hvo
                have q1 : wf.cell? ⟨b0, f0, none⟩ = some (.slice o0 1 e0) := q1
                have HBL : Hid (Below w.heap.size w wf) := hF.bel
                have I1 : Hid (IntsO wf o0 [1]) := i1
                have I2 : Hid (IntsO wf o1 [-1]) := i2
                have k2 : (0 : Int) ≤ (i : Int) + 1 := HK23.out.1
                have k3 : (i : Int) + 1 < (j : Int) + 1 := HK23.out.2
                have n1 := HN12.out.1
                have n2 := HN12.out.2
                have Q2 : Hid (wf.cell? ⟨b0, f0 + 1, none⟩ = some (.slice o1 1 e1)) := q2
                have C1 : Hid (wf.cell? ⟨Bf, 0 + 1, none⟩ = some (.slice (some ⟨b0, f0, none⟩) 2 vc)) := c1
                clear hF hwf hBf hbW hb6 hq6 hUl hcls i1 i2 hvo1 q0 q2 HO1 HO2 HO3 HR2 HR3 HT HG1 HW2 HG2 HM2 HOS HNS
                clear d1 d2 d3 d4 k0 k1
                go_wp2_with fail
                have hb8 : Below wf.heap.size wf (wf.alloc (.cells #[.int .i64 1] 3)) := (Below.refl _ _).alloc (Nat.le_refl _) _
                refine (sameI_any _ _ _ 1 _ _ [1] (I1.out.below hb8) (IntsO.row (l := [1]) (heap_alloc_new _ _)) rfl (by omega)).mono ?_
                rintro e w8 ⟨rfl, m8, hw8⟩
                have hb9 : Below wf.heap.size wf w8 := by rw [hw8]; exact below_drewM hb8 m8
                have q3 := cell_keep hb9 Q2.out
                have c3 := cell_keep hb9 C1.out
                have HB9 : Hid (Below wf.heap.size wf w8) := hb9
                clear hb8 hw8 hb9 c0 c1 c2 q1
                go_wp2_with fail
                have hb10 : Below w8.heap.size w8 (w8.alloc (.cells #[.int .i64 (-1)] 3)) := (Below.refl _ _).alloc (Nat.le_refl _) _
                refine (sameI_any _ _ _ 1 _ _ [-1] ((I2.out.below HB9.out).below hb10) (IntsO.row (l := [-1]) (heap_alloc_new _ _)) rfl (by omega)).mono ?_
                rintro e w9 ⟨rfl, m9, hw9⟩
                have HBZ : Hid (Below w.heap.size w w9) := by
                  unfold Hid
                  rw [hw9]
                  exact below_drewM ((HBL.out.trans (HB9.out.mono HBL.out.size)).trans (hb10.mono (Nat.le_trans HBL.out.size HB9.out.size))) m9
                clear hb10 hw9 q3 c3
                go_wp2
                go_ret
                exact ⟨rfl, HBZ.out⟩
              · have hF : AloneF w ((w6.setCell ⟨wr.heap.size, 0, none⟩ (.int .i64 1)).setCell ⟨wr.heap.size, 1, none⟩ (.slice vo 2 vc)) (wr.heap.size) vo vc U i := AloneF.set (HBW.out.trans (hb6.mono HBW.out.size)) r6 HBW.out.size (by show _ < (World.alloc (World.alloc wr _) _).heap.size; rw [World.size_alloc, World.size_alloc]; omega) hcls
                obtain ⟨wf, hwf⟩ : ∃ wf, wf = ((w6.setCell ⟨wr.heap.size, 0, none⟩ (.int .i64 1)).setCell ⟨wr.heap.size, 1, none⟩ (.slice vo 2 vc)) := ⟨_, rfl⟩
                rw [← hwf] at hF
                rw [← hwf]
                obtain ⟨Bf, hBf⟩ : ∃ Bf, Bf = (wr.heap.size) := ⟨_, rfl⟩
                rw [← hBf] at hF
                rw [← hBf]
                have c0 : wf.cell? ⟨Bf, 0, none⟩ = some (.int .i64 1) := by rw [cell_of_row wf _ _ _ _ (0, 0) hF.row]; rfl
                have c1 : wf.cell? ⟨Bf, 0 + 1, none⟩ = some (.slice vo 2 vc) := by rw [cell_of_row wf _ _ _ _ (0, 0) hF.row]; rfl
                have c2 := hF.u
                obtain ⟨b0, f0, o0, e0, hvo, q1, i1⟩ := hF.cl.get (k := 0) rfl
                obtain ⟨b1, f1, o1, e1, hvo1, q2, i2⟩ := hF.cl.get (k := 1) rfl
                rw [hvo] at hvo1
                have hbf1 : b0 = b1 := (Addr.mk.inj (Option.some.inj hvo1)).1
                have hbf2 : f0 = f1 := (Addr.mk.inj (Option.some.inj hvo1)).2.1
                subst hbf1
                subst hbf2
                subst hvo
                have q1 : wf.cell? ⟨b0, f0, none⟩ = some (.slice o0 1 e0) := q1
                have HBL : Hid (Below w.heap.size w wf) := hF.bel
                have I1 : Hid (IntsO wf o0 [1]) := i1
                have I2 : Hid (IntsO wf o1 [-1]) := i2
                have k2 : (0 : Int) ≤ (i : Int) + 1 := HK23.out.1
                have k3 : (i : Int) + 1 < (j : Int) + 1 := HK23.out.2
                have n1 := HN12.out.1
                have n2 := HN12.out.2
                have Q2 : Hid (wf.cell? ⟨b0, f0 + 1, none⟩ = some (.slice o1 1 e1)) := q2
                have C1 : Hid (wf.cell? ⟨Bf, 0 + 1, none⟩ = some (.slice (some ⟨b0, f0, none⟩) 2 vc)) := c1
                clear hF hwf hBf hbW hb6 hq6 hUl hcls i1 i2 hvo1 q0 q2 HO1 HO2 HO3 HR2 HR3 HT HG1 HW2 HG2 HM2 HOS HNS
                clear d1 d2 d3 d4 k0 k1
                go_wp2_with fail
                have hb8 : Below wf.heap.size wf (wf.alloc (.cells #[.int .i64 1] 3)) := (Below.refl _ _).alloc (Nat.le_refl _) _
                refine (sameI_any _ _ _ 1 _ _ [1] (I1.out.below hb8) (IntsO.row (l := [1]) (heap_alloc_new _ _)) rfl (by omega)).mono ?_
                rintro e w8 ⟨rfl, m8, hw8⟩
                have hb9 : Below wf.heap.size wf w8 := by rw [hw8]; exact below_drewM hb8 m8
                have q3 := cell_keep hb9 Q2.out
                have c3 := cell_keep hb9 C1.out
                have HB9 : Hid (Below wf.heap.size wf w8) := hb9
                clear hb8 hw8 hb9 c0 c1 c2 q1
                go_wp2_with fail
                have hb10 : Below w8.heap.size w8 (w8.alloc (.cells #[.int .i64 (-1)] 3)) := (Below.refl _ _).alloc (Nat.le_refl _) _
                refine (sameI_any _ _ _ 1 _ _ [-1] ((I2.out.below HB9.out).below hb10) (IntsO.row (l := [-1]) (heap_alloc_new _ _)) rfl (by omega)).mono ?_
                rintro e w9 ⟨rfl, m9, hw9⟩
                have HBZ : Hid (Below w.heap.size w w9) := by
                  unfold Hid
                  rw [hw9]
                  exact below_drewM ((HBL.out.trans (HB9.out.mono HBL.out.size)).trans (hb10.mono (Nat.le_trans HBL.out.size HB9.out.size))) m9
                clear hb10 hw9 q3 c3
                go_wp2
                go_ret
                exact ⟨rfl, HBZ.out⟩
end Go.Proofs.YtbbakcpflckbnaaDoor
