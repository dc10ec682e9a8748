/-
  lustrumref1's TreeOf BY ITS CONTRACT, where there are tokens.
-/
import Derived.Test.YtomgimfmcfjhdaaGreatDoorP25
import Derived.Test.YtomgimfmcfjhdaaGreatDoorP17
import Derived.Deep.QuietTactic
import Derived.BigQuiet
import Derived.WalkSmall
import Derived.Deep.Cut
import Derived.Deep.CutRange
import Derived.Deep.DeepCutAuto
import Derived.Deep.CutBlock
namespace Go.Proofs.YtomgimfmcfjhdaaGreatDoor
open Go.RowKit
attribute [local go_sem ↓] Go.wp_at_zero Go.wp_at_succ

/-- Variables in memory, where nothing failed. -/
def Vs (w : World) (S : Nat → Prop) (st : St) (es : List Ex) (o : Option Addr) (m c : Nat) : Prop := st.isAt = true → m = es.length ∧ RowAt w S 2 (.slice o m c) m (varCells es)
theorem Vs.keep {w w' : World} {S S' : Nat → Prop} {st : St} {es : List Ex} {o : Option Addr} {m c : Nat} (h : Vs w S st es o m c) (hs : Stays S S' w w') : Vs w' S' st es o m c := fun g => ⟨(h g).1, (h g).2.keep hs⟩
theorem Vs.st {w : World} {S : Nat → Prop} {st st' : St} {es : List Ex} {o : Option Addr} {m c : Nat} (g : st'.isAt = true → st.isAt = true) (h : Vs w S st es o m c) : Vs w S st' es o m c := fun a => h (g a)
theorem pass_isAt {l : List Tk} {st : St} {x : List UInt8} (h : (st.pass l x).isAt = true) : st.isAt = true := by
  cases st with
  | bad j bd => exact h
  | here j => rfl
theorem VsRel.isAt {l : List Tk} {no : Bool} {d base : Nat} {w' : World} {st st' : St} {so : Option Addr} {m sc : Nat} (h : VsRel l no d base w' st st' so m sc) (g : st'.isAt = true) : st.isAt = true := by
  cases h with
  | ok => rfl
  | fail => rfl
  | stay => exact g
theorem VRel.isAt {l : List Tk} {d : Nat} {st st' : St} {s : ByteArray} {x : Int} (h : VRel l d st st' s x) (g : st'.isAt = true) : st.isAt = true := by
  cases h with
  | ok => rfl
  | fail => rfl
  | stay => exact g
theorem ERel.isAt {l : List Tk} {base : Nat} {w' : World} {st st' : St} {v : Value} (h : ERel l base w' st st' v) (g : st'.isAt = true) : st.isAt = true := by
  cases h with
  | ok => rfl
  | fail => rfl
  | stay => exact g
theorem QS.left_le {C : Qc} {st : St} {d : Nat} {w : World} (R : QS C st d w) : qleft C.l w C.b ≤ C.l.length + 1 := by
  cases st with
  | here i => rw [R.left_at]; omega
  | bad j bd => rw [R.left_bad]; omega
theorem own_less {l : List Tk} {d i : Nat} {st : St} {s : ByteArray} {x : Int} {t : List UInt8} (h : VRel l d (.here i) st s x) : ∀ k, st.want l t = .here k → i < k := by
  intro k hk
  cases h with
  | ok _ j _ _ _ hij =>
    simp only [St.want] at hk
    split at hk
    · injection hk with hk; omega
    · cases hk
  | fail => cases hk
theorem eq_less {l : List Tk} {base i : Nat} {w' : World} {st : St} {v : Value} (h : ERel l base w' (.here i) st v) : ∀ k, st = .here k → i < k := by
  intro k hk
  cases h with
  | ok _ j _ _ _ _ _ _ _ _ _ _ _ _ hij => injection hk with hk; omega
  | fail => cases hk
theorem ERel.shape {l : List Tk} {base : Nat} {w' : World} {st st' : St} {v : Value} (h : ERel l base w' st st' v) : Shape6 v := by
  cases h with
  | ok => exact ⟨_, _, _, _, _, _, _, _, _, _, rfl⟩
  | fail _ _ _ _ _ h => exact h
  | stay _ _ _ h => exact h
/-- Own variables: more of them, or none. -/
def KO (l : List Tk) (P : Res → Prop) (i : Nat) (st : St) (f : Bool) (name : ByteArray) (ins outs owns : List Ex) : Prop :=
  (f = true → KRel l P i st (fun j => .call (.owns owns) j 0 (rrestA l name ins outs))) ∧ (f = false → KRel l P i st (rrestA l name ins outs owns))
theorem KO.of {l : List Tk} {P : Res → Prop} {i : Nat} {st : St} {f : Bool} {name : ByteArray} {ins outs owns : List Ex} (h : f = true → KRel l P i st (fun j => .call (.owns owns) j 0 (rrestA l name ins outs))) (g : f = false → KRel l P i st (rrestA l name ins outs owns)) : KO l P i st f name ins outs owns := ⟨h, g⟩
/-- No tree: the token that cannot stand there. -/
def TreeBad (l : List Tk) (e : Ending) : Prop := ∃ j bd, Parse l (.nodes []) 0 0 (.bad j bd) ∧ j < l.length ∧ e = .returned (.tuple #[.slice none 0 0, .agg #[.int .i64 (if bd then 2 else 1), .int .i64 (tkp l j)]])
set_option maxRecDepth 100000 in
set_option maxHeartbeats 4000000 in
theorem treeOf_any (s : ByteArray) (w : World) (hs : s.size ≤ 6000) (l : List Tk) (hl : Lexes s 0 l none) (T : Tkl l) :
    Calls Tryz.prog 14 #[.string s] w fun e w' => Below w.heap.size w w' ∧
      ((∃ es j v, Parse l (.nodes []) 0 0 (.ok es j) ∧ e = .returned (.tuple #[v, .agg #[.int .i64 0, .int .i64 (-1)]]) ∧ NodesV w.heap.size w' es v) ∨
       TreeBad l e) := by
  obtain ⟨i0, hi0, hz0, hz1, hz2⟩ := info_parts Tryz.infoRNode
  have hbA : Below w.heap.size w (w.alloc (.cells #[.int .i64 0, .int .i64 0] 44)) := (Below.refl _ _).alloc (Nat.le_refl _) _
  have HZ : Hid _ := heap_alloc_new w (.cells #[.int .i64 0, .int .i64 0] 44)
  go_enter Tryz.func14, Tryz.ntmps14
  go_wp2_with fail
  refine (lexOf_any s _ hs).mono ?_
  rintro e w1 ⟨hb1, h1⟩
  rcases h1 with ⟨l', v, hl', rfl, hown⟩ | ⟨l', j', hl', rfl⟩
  · obtain ⟨rfl, _⟩ := hl.one hl'
    have hl1 : w.heap.size < w1.heap.size := by have := hb1.size; simp only [World.size_alloc] at this; omega
    obtain ⟨g, cap, rfl, _⟩ := own_cells hown T.ne
    have R0 := qs_start (.cells #[.int .i64 0, .int .i64 (-1)] 44) T hown
    have hbB : Below w.heap.size w ((w1.alloc (.cells #[.int .i64 0, .int .i64 (-1)] 44)).alloc (.cells #[.slice (some ⟨g, 0, none⟩) l.length cap, .int .i64 0, .int .i64 0, .int .i64 0, .int .i64 0] 78)) := ((hbA.trans (hb1.mono (by simp))).alloc (by omega) _).alloc (by simp; omega) _
    have HZ1 : Hid (((w1.alloc (.cells #[.int .i64 0, .int .i64 (-1)] 44)).alloc (.cells #[.slice (some ⟨g, 0, none⟩) l.length cap, .int .i64 0, .int .i64 0, .int .i64 0, .int .i64 0] 78)).heap[w.heap.size]? = some (.cells #[.int .i64 0, .int .i64 0] 44)) := alloc_row _ (alloc_row _ (row_keep hb1 HZ.out))
    clear hown hl'
    go_wp2
    go_loopw [7] (fun v wr => ∃ (st : St) (es : List Ex) (so : Option Addr) (m sc : Nat) (cells : List Value), v = .slice so m sc ∧ QS (⟨w1.heap.size + 1, g, cap, l⟩ : Qc) st 0 wr ∧ Mv (w1.heap.size + 1) ((w1.alloc (.cells #[.int .i64 0, .int .i64 (-1)] 44)).alloc (.cells #[.slice (some ⟨g, 0, none⟩) l.length cap, .int .i64 0, .int .i64 0, .int .i64 0, .int .i64 0] 78)) wr ∧ Hid (wr.heap[w.heap.size]? = some (.cells #[.int .i64 0, .int .i64 0] 44)) ∧ Hid (wr.ownsRow (w1.heap.size + 1 + 1) 86 5 (.slice so m sc) m cells) ∧ Hid (PRel l st es) ∧ Hid (st.isAt = true → m = es.length ∧ NdIn wr (fun k => w1.heap.size + 1 + 1 ≤ k ∧ (Value.slice so m sc).ownBlock ≠ some k) es cells)) (fun _ wr => qleft l wr (w1.heap.size + 1))
    case atStart => exact ⟨.here 0, [], none, 0, 0, [], rfl, R0, Mv.refl _ _, HZ1, World.ownsRow_nil _ _ _ _, PRel.start, fun _ => ⟨rfl, .nil⟩⟩
    case round =>
      have HR0 : Hid _ := R0
      clear R0 HZ1 HZ
      obtain ⟨st, es, so, m, sc, cells, rfl, Rr, hmr, HZr, HO, HP, HE⟩ := hrel
      rename World => wq
      have hsq := hmr.size
      simp only [World.size_alloc] at hsq
      have hBq : Below w.heap.size w wq := hbB.trans ⟨hmr.os, hmr.tape, hmr.output, hmr.size, fun k hk => hmr.block k (by simp; omega) (by intro e; injection e with e; omega)⟩
      cases st with
      | bad j bd =>
        have RH : Hid (QS (⟨w1.heap.size + 1, g, cap, l⟩ : Qc) (.bad j bd) 0 wq) := Rr
        clear Rr
        go_wp2
        go_quiet ((go_at_call 30; exact Calls.quiet_of_same (rok_bad (⟨w1.heap.size + 1, g, cap, l⟩ : Qc) j bd 0 _ (RH.out.drewN _))))
        go_wp2_with fail
        refine (rok_bad (⟨w1.heap.size + 1, g, cap, l⟩ : Qc) j bd 0 _ (RH.out.drewN _)).mono ?_
        rintro e w3 ⟨rfl, rfl⟩
        obtain ⟨cd, hcd⟩ : ∃ cd : Int, Hid (cd = if bd then 2 else 1) := ⟨_, rfl⟩
        have c3 : wq.cell? ⟨w1.heap.size + 1, 3, none⟩ = some (.int .i64 cd) := by rw [hcd.out]; exact RH.out.c3
        have c4 : wq.cell? ⟨w1.heap.size + 1, 4, none⟩ = some (.int .i64 (tkp l j)) := RH.out.c4
        obtain ⟨z0, z1, zf⟩ := blk2 HZr.out
        have zf0 := zf 0
        have zf1 := zf 1
        have hjl : j < l.length := RH.out.lt
        clear zf
        go_wp2
        go_region
        all_goals
          go_wp2
          have hr := set_row (k := 1) (v := .int .i64 (tkp l j)) (set_row (k := 0) (v := .int .i64 cd) (drewN_row (nq + 1) HZr.out))
          obtain ⟨y0, y1, _⟩ := blk2 hr
          exact bodyPost_ret (v := .tuple #[.slice none 0 0, .agg #[.int .i64 cd, .int .i64 (tkp l j)]]) (by simp [results, Tryz.results14, go_sem, y0, y1]) rfl ⟨((below_drewN hBq (nq + 1)).setCell (Nat.le_refl _) _).setCell (Nat.le_refl _) _, Or.inr ⟨j, bd, by have := HP.out; cases this; assumption, hjl, by rw [hcd.out]⟩⟩
      | here j =>
        have RH : Hid (QS (⟨w1.heap.size + 1, g, cap, l⟩ : Qc) (.here j) 0 wq) := Rr
        clear Rr
        have hjl : j < l.length := RH.out.lt
        have hlen : l.length ≤ 6001 := RH.out.len
        have c0 : wq.cell? ⟨w1.heap.size + 1, 0, none⟩ = some (.slice (some ⟨g, 0, none⟩) l.length cap) := RH.out.c0
        have c1 : wq.cell? ⟨w1.heap.size + 1, 1, none⟩ = some (.int .i64 j) := RH.out.c1
        obtain ⟨r0, r1, r2⟩ := RH.out.row j hjl
        have j0 : (0 : Int) ≤ (j : Int) := by omega
        have j1 : (j : Int) < (l.length : Int) := by omega
        dsimp only at r0 r1 r2
        by_cases g1 : isEnd l j = true
        · have g1' : ((tkk l j).toList == [101, 110, 100]) = true := g1
          go_wp2
          go_quiet ((go_at_call 30; exact Calls.quiet_of_same (rok_at (⟨w1.heap.size + 1, g, cap, l⟩ : Qc) j 0 _ (RH.out.drewN _))))
          go_wp2_with fail
          refine (rok_at (⟨w1.heap.size + 1, g, cap, l⟩ : Qc) j 0 _ (RH.out.drewN _)).mono ?_
          rintro e w3 ⟨rfl, rfl⟩
          obtain ⟨z0, z1, zf⟩ := blk2 HZr.out
          have zf0 := zf 0
          have zf1 := zf 1
          clear zf
          go_wp2_with fail
          refine (fine_any _).mono ?_
          rintro e w4 ⟨rfl, hb4⟩
          have y0 := cell_keep hb4 z0
          have y1 := cell_keep hb4 z1
          have hlz : w.heap.size < w4.heap.size := lt_of_cell y0
          have hz4 := row_keep hb4 (drewN_row _ HZr.out)
          obtain ⟨_, _, yf⟩ := blk2 hz4
          have yf0 := yf 0
          have yf1 := yf 1
          clear z0 z1 zf0 zf1 c0 c1 r0 r1 r2 yf
          go_wp2
          have hr := set_row (k := 1) (v := .int .i64 (-1)) (set_row (k := 0) (v := .int .i64 0) hz4)
          obtain ⟨v0, v1, _⟩ := blk2 hr
          have hB4 : Below w.heap.size wq ((w4.setCell ⟨w.heap.size, 0, none⟩ (.int .i64 0)).setCell ⟨w.heap.size, 1, none⟩ (.int .i64 (-1))) := ((Below.trans (below_drewN (Below.refl _ _) _) (hb4.mono (show w.heap.size ≤ (wq.drewN nq).heap.size from hBq.size))).setCell (Nat.le_refl _) _).setCell (Nat.le_refl _) _
          have St : Stays (From (w1.heap.size + 1 + 1)) (From w.heap.size) wq ((w4.setCell ⟨w.heap.size, 0, none⟩ (.int .i64 0)).setCell ⟨w.heap.size, 1, none⟩ (.int .i64 (-1))) := ((Stays.below (S' := From (w1.heap.size + 1 + 1)) hb4 (fun _ h => h)).trans (Stays.set (S' := From (w1.heap.size + 1 + 1)) (p := ⟨w.heap.size, 0, none⟩) _ (fun k hk => by unfold From at hk; exact ⟨by show k ≠ w.heap.size; omega, hk⟩)) hb4.size).trans (Stays.set (p := ⟨w.heap.size, 1, none⟩) _ (fun k hk => by unfold From at hk ⊢; exact ⟨by show k ≠ w.heap.size; omega, by omega⟩)) (by simpa using hb4.size)
          obtain ⟨rfl, hin⟩ := HE.out rfl
          exact bodyPost_ret (v := .tuple #[.slice so es.length sc, .agg #[.int .i64 0, .int .i64 (-1)]]) (by simp [results, Tryz.results14, go_sem, v0, v1]) rfl ⟨hBq.trans hB4, Or.inl ⟨es, j, _, HP.out.ends g1, rfl, ⟨cells, (RowAt.of_owns HO.out).keep St, (hin.keep (S' := From (w1.heap.size + 1 + 1)) (fun k hk hl => ⟨hk.1, rfl⟩)).keep St⟩⟩⟩
        · have g1f : isEnd l j = false := by simpa using g1
          have g1' : ((tkk l j).toList == [101, 110, 100]) = false := g1f
          go_wp2
          go_quiet ((go_at_call 30; exact Calls.quiet_of_same (rok_at (⟨w1.heap.size + 1, g, cap, l⟩ : Qc) j 0 _ (RH.out.drewN _))))
          have HB : Hid _ := isB_tx RH.out T (k := kWord) (xb := ⟨#[110, 111, 100, 101]⟩) (x := tNode) (Or.inl ⟨by decide, rfl⟩) (by rw [ByteArray.toList_eq]; rfl)
          obtain ⟨rfl, hin⟩ := HE.out rfl
          have HIN : Hid _ := hin
          clear hin HE
          go_upto_region 7 with fail
          go_cut [46] (fun s wc => s = .bool (tx l j tNode && es.length == 12) ∧ QS (⟨w1.heap.size + 1, g, cap, l⟩ : Qc) (.here j) 0 wc ∧ Mv (w1.heap.size + 1) wq wc)
          case first =>
            cases hx : tx l j tNode with
            | false =>
              go_wp2_with fail
              refine (ris_any (⟨w1.heap.size + 1, g, cap, l⟩ : Qc) (.here j) 0 _ (RH.out.drewN _) kWord _).mono ?_
              rintro e w3 ⟨rfl, n3, rfl⟩
              have hx' : (St.here j).tx l tNode = false := hx
              simp only [HB.out, hx']
              go_wp2
              go_meet
              case rel => exact ⟨by rw [hx]; rfl, RH.out.drewN _, (Mv.of_below (below_drewN (Below.refl _ _) _))⟩
            | true =>
              have hx' : (St.here j).tx l tNode = true := hx
              by_cases h12 : es.length = 12
              · have h12' : ((es.length : Int) == 12) = true := by simp; omega
                have H12 : Hid (es.length = 12) := h12
                clear h12
                go_wp2_with fail
                refine (ris_any (⟨w1.heap.size + 1, g, cap, l⟩ : Qc) (.here j) 0 _ (RH.out.drewN _) kWord _).mono ?_
                rintro e w3 ⟨rfl, n3, rfl⟩
                simp only [HB.out, hx']
                go_wp2
                go_meet
                case rel => exact ⟨by rw [hx, H12.out]; rfl, RH.out.drewN _, (Mv.of_below (below_drewN (Below.refl _ _) _))⟩
              · have h12' : ((es.length : Int) == 12) = false := by simp; omega
                go_wp2_with fail
                refine (ris_any (⟨w1.heap.size + 1, g, cap, l⟩ : Qc) (.here j) 0 _ (RH.out.drewN _) kWord _).mono ?_
                rintro e w3 ⟨rfl, n3, rfl⟩
                simp only [HB.out, hx']
                go_wp2
                go_meet
                case rel => exact ⟨by rw [hx]; simp [h12], RH.out.drewN _, (Mv.of_below (below_drewN (Below.refl _ _) _))⟩
          case rest =>
            have hleq : Hid (qleft l wq (w1.heap.size + 1) = l.length - j + 1) := RH.out.left_at
            clear RH HB c0 c1 r0 r1 r2 g1' j0 j1
            obtain ⟨rfl, R1, hm1⟩ := hcut
            rename World => w2
            go_upto_if 46 with fail
            go_cut [] (fun wc => ∃ st1, QS (⟨w1.heap.size + 1, g, cap, l⟩ : Qc) st1 0 wc ∧ Mv (w1.heap.size + 1) wq wc ∧ Hid (KRel l (NextP l j es) j st1 (rnodeA l)))
            case first =>
              cases hf : (tx l j tNode && es.length == 12) with
              | false =>
                go_wp2
                go_meet
                case rel => exact ⟨.here j, R1, hm1, HP.out.node g1f hf⟩
              | true =>
                rw [Bool.and_eq_true] at hf
                obtain ⟨hx, h12⟩ := hf
                go_wp2_with fail
                refine (rfail_any (⟨w1.heap.size + 1, g, cap, l⟩ : Qc) (.here j) 0 _ R1 true 2 rfl).mono ?_
                rintro e w3 ⟨rfl, R3, hm3⟩
                go_wp2
                go_meet
                case rel => exact ⟨.bad j true, R3, hm1.trans hm3, HP.out.full g1f hx (by simpa using h12)⟩
            case rest =>
              obtain ⟨st1, R3, hm3, HK⟩ := hcut
              rename World => w3
              have hs3 := hm3.size
              go_wp2_with fail
              refine (rwant_any (⟨w1.heap.size + 1, g, cap, l⟩ : Qc) _ 0 _ R3 T kWord _ tNode (Or.inl ⟨by decide, rfl⟩) (by rw [ByteArray.toList_eq]; rfl) (by decide)).mono ?_
              rintro e w4 ⟨rfl, R4, hk4⟩
              have hs4 := hk4.size
              go_wp2_with fail
              refine (rname_any (⟨w1.heap.size + 1, g, cap, l⟩ : Qc) _ 0 _ R4 T).mono ?_
              rintro e w5 ⟨rfl, R5, hk5⟩
              have hs5 := hk5.size
              have hB5 : Below w5.heap.size w5 (w5.alloc (.cells #[.string ((st1.want l tNode).nm l), .slice none 0 0, .slice none 0 0, .slice none 0 0, .slice none 0 0] 86)) := (Below.refl _ _).alloc (Nat.le_refl _) _
              have HN5 : Hid ((w5.alloc (.cells #[.string ((st1.want l tNode).nm l), .slice none 0 0, .slice none 0 0, .slice none 0 0, .slice none 0 0] 86)).heap[w5.heap.size]? = some (.cells #[.string ((st1.want l tNode).nm l), .slice none 0 0, .slice none 0 0, .slice none 0 0, .slice none 0 0] 86)) := heap_alloc_new _ _
              have R5' := R5.below hB5
              have hm5 : Mv (w1.heap.size + 1) wq (w5.alloc (.cells #[.string ((st1.want l tNode).nm l), .slice none 0 0, .slice none 0 0, .slice none 0 0, .slice none 0 0] 86)) := ((hm3.trans hk4).trans hk5).trans (Mv.of_below hB5)
              go_wp2_with fail
              refine (rwant_any (⟨w1.heap.size + 1, g, cap, l⟩ : Qc) _ 0 _ R5' T kOp _ tOpen (Or.inr ⟨by decide, rfl⟩) (by rw [ByteArray.toList_eq]; rfl) (by decide)).mono ?_
              rintro e w6 ⟨rfl, R6, hk6⟩
              have hs6 := hk6.size
              simp only [World.size_alloc] at hs6
              go_wp2_with fail
              refine (rvars_any (⟨w1.heap.size + 1, g, cap, l⟩ : Qc) true _ 0 _ T R6).mono ?_
              rintro e w7 ⟨hk7, st7, io, im, ic, rfl, R7, hq7⟩
              have hs7 := hk7.size
              obtain ⟨ins, hK7, hI7⟩ := KRel.toIns HK.out hq7
              have HN7 : Hid _ := hk7.row (k := w5.heap.size) (by show w5.heap.size ≠ w1.heap.size + 1; omega) (hk6.row (k := w5.heap.size) (by show w5.heap.size ≠ w1.heap.size + 1; omega) HN5.out)
              obtain ⟨_, y1, _, _, _, yf⟩ := blk5 HN7.out
              have yf1 := yf 1
              have hB7 : Below w5.heap.size w7 (w7.setCell ⟨w5.heap.size, 1, none⟩ (.slice io im ic)) := (Below.refl _ _).setCell (p := ⟨w5.heap.size, 1, none⟩) (Nat.le_refl _) _
              have R7' : QS (⟨w1.heap.size + 1, g, cap, l⟩ : Qc) st7 0 (w7.setCell ⟨w5.heap.size, 1, none⟩ (.slice io im ic)) := R5.upon R7 hB7
              have HN7' : Hid ((w7.setCell ⟨w5.heap.size, 1, none⟩ (.slice io im ic)).heap[w5.heap.size]? = some (.cells #[.string ((st1.want l tNode).nm l), .slice io im ic, .slice none 0 0, .slice none 0 0, .slice none 0 0] 86)) := set_row HN7.out
              have hm7 : Mv (w1.heap.size + 1) wq (w7.setCell ⟨w5.heap.size, 1, none⟩ (.slice io im ic)) := ((hm5.trans hk6).trans hk7).upon (hB7.mono (by omega))
              have HI7 : Hid (Vs (w7.setCell ⟨w5.heap.size, 1, none⟩ (.slice io im ic)) (fun k => w5.heap.size < k) st7 ins io im ic) := Vs.keep hI7 (Stays.set (p := ⟨w5.heap.size, 1, none⟩) _ (fun k hk => by unfold From at hk; exact ⟨by show k ≠ w5.heap.size; omega, by omega⟩))
              have HK7 : Hid _ := hK7
              clear yf hI7 hq7 HN5 HN7 HK hK7 hk6 hk5 hk4
              go_wp2_with fail
              refine (rwant_any (⟨w1.heap.size + 1, g, cap, l⟩ : Qc) _ 0 _ R7' T kOp _ tShut (Or.inr ⟨by decide, rfl⟩) (by rw [ByteArray.toList_eq]; rfl) (by decide)).mono ?_
              rintro e w8 ⟨rfl, R8, hk8⟩
              have hs8 := hk8.size
              go_wp2_with fail
              refine (rwant_any (⟨w1.heap.size + 1, g, cap, l⟩ : Qc) _ 0 _ R8 T kWord _ tReturns (Or.inl ⟨by decide, rfl⟩) (by rw [ByteArray.toList_eq]; rfl) (by decide)).mono ?_
              rintro e w9 ⟨rfl, R9, hk9⟩
              have hs9 := hk9.size
              go_wp2_with fail
              refine (rwant_any (⟨w1.heap.size + 1, g, cap, l⟩ : Qc) _ 0 _ R9 T kOp _ tOpen (Or.inr ⟨by decide, rfl⟩) (by rw [ByteArray.toList_eq]; rfl) (by decide)).mono ?_
              rintro e w10 ⟨rfl, R10, hk10⟩
              have hs10 := hk10.size
              clear y1 yf1
              simp only [World.size_setCell] at hs8
              go_wp2_with fail
              refine (rvars_any (⟨w1.heap.size + 1, g, cap, l⟩ : Qc) false _ 0 _ T R10).mono ?_
              rintro e w11 ⟨hk11, st11, oo, om, oc, rfl, R11, hq11⟩
              have hs11 := hk11.size
              obtain ⟨outs, hK11, hO11⟩ := KRel.toOuts HK7.out hq11
              have hkk : Mv (w1.heap.size + 1) (w7.setCell ⟨w5.heap.size, 1, none⟩ (.slice io im ic)) w11 := ((hk8.trans hk9).trans hk10).trans hk11
              have HN11 : Hid _ := hkk.row (k := w5.heap.size) (by show w5.heap.size ≠ w1.heap.size + 1; omega) HN7'.out
              obtain ⟨_, _, y2, _, _, yf⟩ := blk5 HN11.out
              have yf2 := yf 2
              have hB11 : Below w5.heap.size w11 (w11.setCell ⟨w5.heap.size, 2, none⟩ (.slice oo om oc)) := (Below.refl _ _).setCell (p := ⟨w5.heap.size, 2, none⟩) (Nat.le_refl _) _
              have R11' : QS (⟨w1.heap.size + 1, g, cap, l⟩ : Qc) st11 0 (w11.setCell ⟨w5.heap.size, 2, none⟩ (.slice oo om oc)) := R5.upon R11 hB11
              have HN11' : Hid ((w11.setCell ⟨w5.heap.size, 2, none⟩ (.slice oo om oc)).heap[w5.heap.size]? = some (.cells #[.string ((st1.want l tNode).nm l), .slice io im ic, .slice oo om oc, .slice none 0 0, .slice none 0 0] 86)) := set_row HN11.out
              have hm11 : Mv (w1.heap.size + 1) wq (w11.setCell ⟨w5.heap.size, 2, none⟩ (.slice oo om oc)) := (hm7.trans hkk).upon (hB11.mono (by omega))
              have HO11 : Hid (Vs (w11.setCell ⟨w5.heap.size, 2, none⟩ (.slice oo om oc)) (fun k => w5.heap.size < k) st11 outs oo om oc) := Vs.keep hO11 (Stays.set (p := ⟨w5.heap.size, 2, none⟩) _ (fun k hk => by unfold From at hk; exact ⟨by show k ≠ w5.heap.size; omega, by omega⟩))
              have HI11 : Hid (Vs (w11.setCell ⟨w5.heap.size, 2, none⟩ (.slice oo om oc)) (fun k => w5.heap.size < k) st11 ins io im ic) := Vs.st (fun h => want_isAt (want_isAt (want_isAt (hq11.isAt h)))) (Vs.keep HI7.out ((Stays.mv (S' := fun k => w5.heap.size < k) hkk (fun k hk => ⟨by show k ≠ w1.heap.size + 1; omega, hk⟩)).trans (Stays.set (p := ⟨w5.heap.size, 2, none⟩) _ (fun k hk => ⟨by show k ≠ w5.heap.size; omega, hk⟩)) (by simp; omega)))
              have HK11 : Hid _ := hK11
              clear yf hO11 hq11 HN7' HN11 HK7 hK11 HI7 hk8 hk9 hk10 hk11 R7 R7' R8 R9 R10 R11 R6 R4
              go_wp2_with fail
              refine (rwant_any (⟨w1.heap.size + 1, g, cap, l⟩ : Qc) _ 0 _ R11' T kOp _ tShut (Or.inr ⟨by decide, rfl⟩) (by rw [ByteArray.toList_eq]; rfl) (by decide)).mono ?_
              rintro e w12 ⟨rfl, R12, hk12⟩
              have hs12 := hk12.size
              go_wp2_with fail
              refine (rwant_any (⟨w1.heap.size + 1, g, cap, l⟩ : Qc) _ 0 _ R12 T kOp _ tSemi (Or.inr ⟨by decide, rfl⟩) (by rw [ByteArray.toList_eq]; rfl) (by decide)).mono ?_
              rintro e w13 ⟨rfl, R13, hk13⟩
              have hs13 := hk13.size
              clear y2 yf2
              simp only [World.size_setCell] at hs12
              go_wp2_with fail
              refine (rpass_any (⟨w1.heap.size + 1, g, cap, l⟩ : Qc) _ 0 _ R13 T kWord _ tVar (Or.inl ⟨by decide, rfl⟩) (by rw [ByteArray.toList_eq]; rfl) (by decide)).mono ?_
              rintro e w14 ⟨rfl, R14, hk14⟩
              have hs14 := hk14.size
              have hkk2 : Mv (w1.heap.size + 1) (w11.setCell ⟨w5.heap.size, 2, none⟩ (.slice oo om oc)) w14 := (hk12.trans hk13).trans hk14
              have HN14 : Hid _ := hkk2.row (k := w5.heap.size) (by show w5.heap.size ≠ w1.heap.size + 1; omega) HN11'.out
              have hm14 : Mv (w1.heap.size + 1) wq w14 := hm11.trans hkk2
              have hst14 : ∀ h : (((st11.want l tShut).want l tSemi).pass l tVar).isAt = true, st11.isAt = true := fun h => want_isAt (want_isAt (pass_isAt h))
              have HI14 : Hid (Vs w14 (fun k => w5.heap.size < k) _ ins io im ic) := Vs.st hst14 (Vs.keep HI11.out (Stays.mv (S' := fun k => w5.heap.size < k) hkk2 (fun k hk => ⟨by show k ≠ w1.heap.size + 1; omega, hk⟩)))
              have HO14 : Hid (Vs w14 (fun k => w5.heap.size < k) _ outs oo om oc) := Vs.st hst14 (Vs.keep HO11.out (Stays.mv (S' := fun k => w5.heap.size < k) hkk2 (fun k hk => ⟨by show k ≠ w1.heap.size + 1; omega, hk⟩)))
              obtain ⟨hKT, hKF⟩ := KRel.toOwns HK11.out
              have HK14 : Hid (KO l (NextP l j es) j (((st11.want l tShut).want l tSemi).pass l tVar) (((st11.want l tShut).want l tSemi).tx l tVar) ((st1.want l tNode).nm l) ins outs []) := KO.of hKT hKF
              clear hKT hKF HK11 HN11' HI11 HO11 hst14 hkk hkk2 hk12 hk13 hk14 R11' R12 R13 R5'
              generalize (((st11.want l tShut).want l tSemi).pass l tVar) = st14 at *
              generalize (((st11.want l tShut).want l tSemi).tx l tVar) = f14 at *
              go_upto_block 2 with fail
              go_cut [] (fun wc => ∃ (st : St) (owns : List Ex) (vo : Option Addr) (vm vc : Nat), QS (⟨w1.heap.size + 1, g, cap, l⟩ : Qc) st 0 wc ∧ Mv (w1.heap.size + 1) wq wc ∧ w5.heap.size + 1 ≤ wc.heap.size ∧ Hid (wc.heap[w5.heap.size]? = some (.cells #[.string ((st1.want l tNode).nm l), .slice io im ic, .slice oo om oc, .slice vo vm vc, .slice none 0 0] 86)) ∧ Hid (Vs wc (fun k => w5.heap.size < k) st ins io im ic) ∧ Hid (Vs wc (fun k => w5.heap.size < k) st outs oo om oc) ∧ Hid (Vs wc (fun k => w5.heap.size < k) st owns vo vm vc) ∧ Hid (KRel l (NextP l j es) j st (rrestA l ((st1.want l tNode).nm l) ins outs owns)))
              case first =>
                obtain ⟨iv, hiv, hv0, hv1, hv2⟩ := info_parts Tryz.infoRVar
                go_wp2_with fail
                go_loopw [9] (fun v wr => ∃ (st : St) (f : Bool) (owns : List Ex) (vo : Option Addr) (vm vc : Nat) (cells : List Value), v = .bool f ∧ QS (⟨w1.heap.size + 1, g, cap, l⟩ : Qc) st 0 wr ∧ Mv (w1.heap.size + 1) wq wr ∧ w5.heap.size + 1 ≤ wr.heap.size ∧ vm + qleft l wr (w1.heap.size + 1) ≤ l.length + 1 ∧ Hid (wr.heap[w5.heap.size]? = some (.cells #[.string ((st1.want l tNode).nm l), .slice io im ic, .slice oo om oc, .slice vo vm vc, .slice none 0 0] 86)) ∧ Hid (wr.ownsRow (w5.heap.size + 1) 89 2 (.slice vo vm vc) vm cells) ∧ Hid (Vs wr (fun k => w5.heap.size + 1 ≤ k ∧ (Value.slice vo vm vc).ownBlock ≠ some k) st ins io im ic) ∧ Hid (Vs wr (fun k => w5.heap.size + 1 ≤ k ∧ (Value.slice vo vm vc).ownBlock ≠ some k) st outs oo om oc) ∧ Hid (st.isAt = true → vm = owns.length ∧ cells = varCells owns) ∧ Hid (KO l (NextP l j es) j st f ((st1.want l tNode).nm l) ins outs owns)) (fun _ wr => qleft l wr (w1.heap.size + 1))
                case atStart =>
                  have hq := R14.left_le
                  exact ⟨st14, f14, [], none, 0, 0, [], rfl, R14, hm14, by omega, by simpa using hq, HN14, World.ownsRow_nil _ _ _ _, Vs.keep HI14.out (fun k hk _ => ⟨⟨hk, by simp [Value.ownBlock]⟩, rfl⟩), Vs.keep HO14.out (fun k hk _ => ⟨⟨hk, by simp [Value.ownBlock]⟩, rfl⟩), fun _ => ⟨rfl, rfl⟩, HK14⟩
                case round =>
                  clear HN14 HI14 HO14 HK14 R14 hm14 hs14
                  obtain ⟨st, f, owns, vo, vm, vc, cells, rfl, Rr, hmr, hsr, hqr, HNr, HOr, HIr, HOo, HEr, HKr⟩ := hrel
                  cases f with
                  | false =>
                    go_wp2
                    go_meet
                    case rel => exact ⟨st, owns, vo, vm, vc, Rr, hmr, hsr, HNr, Vs.keep HIr.out (fun k hk _ => ⟨hk.1, rfl⟩), Vs.keep HOo.out (fun k hk _ => ⟨hk.1, rfl⟩), fun h => ⟨(HEr.out h).1, by rw [← (HEr.out h).2]; exact RowAt.of_owns HOr.out⟩, HKr.out.2 rfl⟩
                  | true =>
                    cases st with
                    | bad i bd =>
                      go_wp2_with fail
                      refine (rok_bad (⟨w1.heap.size + 1, g, cap, l⟩ : Qc) i bd 0 _ Rr).mono ?_
                      rintro e w15 ⟨rfl, rfl⟩
                      go_wp2
                      go_meet
                      case rel => exact ⟨_, owns, vo, vm, vc, Rr, hmr, hsr, HNr, Vs.keep HIr.out (fun k hk _ => ⟨hk.1, rfl⟩), Vs.keep HOo.out (fun k hk _ => ⟨hk.1, rfl⟩), fun h => (by cases h), (HKr.out.1 rfl).any rfl⟩
                    | here i =>
                      have hil : i < l.length := Rr.lt
                      have hlen' : l.length ≤ 6001 := Rr.len
                      have hle := Rr.left_at
                      go_wp2_with fail
                      refine (rok_at (⟨w1.heap.size + 1, g, cap, l⟩ : Qc) i 0 _ Rr).mono ?_
                      rintro e w15 ⟨rfl, hw⟩
                      have hw' := hw.symm
                      subst hw'
                      clear hw
                      go_wp2_with fail
                      refine (rone_any (⟨w1.heap.size + 1, g, cap, l⟩ : Qc) _ 0 _ T Rr).mono ?_
                      rintro e w15 ⟨hk15, st15, s, x, rfl, R15, hq15⟩
                      have hs15 := hk15.size
                      have HNv : Hid _ := hk15.row (k := w5.heap.size) (by show w5.heap.size ≠ w1.heap.size + 1; omega) HNr.out
                      have y3 := (blk5 HNv.out).2.2.2.1
                      have hltn : w5.heap.size < w15.heap.size := lt_of_cell y3
                      have hn63 : vm + 1 ≤ maxLen := by unfold maxLen; omega
                      have hby : (vm + 1) * 24 ≤ 140737488355328 := by omega
                      have HO15 : Hid _ := ((ownsRow_mv HOr.out hk15 (by show w1.heap.size + 1 < w5.heap.size + 1; omega)).alloc (.cells #[.string s, .int .i64 x] 89)).alloc (.cells #[.string s, .int .i64 x] 89)
                      have hnb : ((w15.alloc (.cells #[.string s, .int .i64 x] 89)).alloc (.cells #[.string s, .int .i64 x] 89)).heap[w15.heap.size + 1]? = some (.cells #[.string s, .int .i64 x] 89) := heap_alloc_new' (by simp) _
                      have HNn : Hid _ := World.news_of_block hnb
                      have HRW : Hid (∀ k, (Value.slice vo vm vc).ownBlock = some k → w5.heap.size + 1 ≤ k ∧ k < wr.heap.size) := fun k hk => ownsRow_block HOr.out hk
                      clear hnb
                      go_wp2_with (at_builtin; refine wpList_append_lies _ rfl _ _ _ rfl (w5.heap.size + 1) 89 iv _ 2 24 Tryz.underlying83 hiv hv0 hv1 hv2 rfl (by omega) _ vm cells rfl HO15.out ⟨w15.heap.size + 1, 0, none⟩ 1 1 [.string s, .int .i64 x] rfl rfl HNn.out (by simp [Value.oneCell']) (by omega) hn63 hby (by simp <;> omega) (w15.heap.size + 1 + 1) (by simp) ?_; intro g' cap' w16 hown16 hgrow hat hlt16; have HN16 : Hid _ := heap_grown hgrow (b := w5.heap.size) (fun hk => by have := (HRW.out _ hk).1; omega) (alloc_row _ (alloc_row _ HNv.out)); have b3 := (blk5 HN16.out).2.2.2.1; have bf := (blk5 HN16.out).2.2.2.2.2 3)
                      have hbg : Below w5.heap.size w15 w16 := (((Below.refl _ _).alloc (by omega) _).alloc (by simp; omega) _).grown hgrow (by simp; omega) (fun k hk => by have := (HRW.out k hk).1; omega)
                      have hB16 : Below w5.heap.size w15 (w16.setCell ⟨w5.heap.size, 3, none⟩ (.slice (some ⟨g', 0, none⟩) (vm + 1) cap')) := hbg.setCell (p := ⟨w5.heap.size, 3, none⟩) (Nat.le_refl _) _
                      have R16 : QS (⟨w1.heap.size + 1, g, cap, l⟩ : Qc) st15 0 (w16.setCell ⟨w5.heap.size, 3, none⟩ (.slice (some ⟨g', 0, none⟩) (vm + 1) cap')) := R5.upon R15 hB16
                      have HN16' : Hid ((w16.setCell ⟨w5.heap.size, 3, none⟩ (.slice (some ⟨g', 0, none⟩) (vm + 1) cap')).heap[w5.heap.size]? = some (.cells #[.string ((st1.want l tNode).nm l), .slice io im ic, .slice oo om oc, .slice (some ⟨g', 0, none⟩) (vm + 1) cap', .slice none 0 0] 86)) := set_row HN16.out
                      have HO16 : Hid ((w16.setCell ⟨w5.heap.size, 3, none⟩ (.slice (some ⟨g', 0, none⟩) (vm + 1) cap')).ownsRow (w5.heap.size + 1) 89 2 (.slice (some ⟨g', 0, none⟩) (vm + 1) cap') (vm + 1) (cells ++ [.string s, .int .i64 x])) := ownsRow_mv hown16 (Mv.setAt w5.heap.size 3 _ _) (by omega)
                      have St16 : Stays (fun k => w5.heap.size + 1 ≤ k ∧ (Value.slice vo vm vc).ownBlock ≠ some k) (fun k => w5.heap.size + 1 ≤ k ∧ (Value.slice (some ⟨g', 0, none⟩) (vm + 1) cap').ownBlock ≠ some k) wr (w16.setCell ⟨w5.heap.size, 3, none⟩ (.slice (some ⟨g', 0, none⟩) (vm + 1) cap')) := (grow_old (base := w5.heap.size + 1) (w4 := w15.alloc (.cells #[.string s, .int .i64 x] 89)) (n := vm + 1) (cap := cap') (hk15.trans (Mv.of_below ((Below.refl _ _).alloc (Nat.le_refl _) _))) (by show w1.heap.size + 1 < w5.heap.size + 1; omega) hgrow (by rw [World.size_alloc]; exact hat)).trans (Stays.set (p := ⟨w5.heap.size, 3, none⟩) _ (fun k hk => ⟨by show k ≠ w5.heap.size; omega, hk⟩)) (by have := hbg.size; omega)
                      clear HN16 b3 bf hgrow hat hlt16 hown16 HO15 HNn HNv y3
                      go_wp2_with fail
                      refine (rwant_any (⟨w1.heap.size + 1, g, cap, l⟩ : Qc) _ 0 _ R16 T kOp _ tSemi (Or.inr ⟨by decide, rfl⟩) (by rw [ByteArray.toList_eq]; rfl) (by decide)).mono ?_
                      rintro e w17 ⟨rfl, R17, hk17⟩
                      have hs17 := hk17.size
                      have hsz16 := hB16.size
                      have hsz16' : w5.heap.size + 1 ≤ w17.heap.size := by simp only [World.size_setCell] at hs17 hsz16; omega
                      have HN17 : Hid _ := hk17.row (k := w5.heap.size) (by show w5.heap.size ≠ w1.heap.size + 1; omega) HN16'.out
                      have HO17 : Hid _ := ownsRow_mv HO16.out hk17 (by show w1.heap.size + 1 < w5.heap.size + 1; omega)
                      have St17 : Stays (fun k => w5.heap.size + 1 ≤ k ∧ (Value.slice vo vm vc).ownBlock ≠ some k) (fun k => w5.heap.size + 1 ≤ k ∧ (Value.slice (some ⟨g', 0, none⟩) (vm + 1) cap').ownBlock ≠ some k) wr w17 := St16.trans (Stays.mv hk17 (fun k hk => ⟨by show k ≠ w1.heap.size + 1; omega, hk⟩)) (by simp only [World.size_setCell] at hsz16 ⊢; omega)
                      have hat17 : (st15.want l tSemi).isAt = true → st15.isAt = true := want_isAt
                      have HI17 : Hid (Vs w17 (fun k => w5.heap.size + 1 ≤ k ∧ (Value.slice (some ⟨g', 0, none⟩) (vm + 1) cap').ownBlock ≠ some k) (st15.want l tSemi) ins io im ic) := Vs.st (fun _ => rfl) (Vs.keep HIr.out St17)
                      have HOo17 : Hid (Vs w17 (fun k => w5.heap.size + 1 ≤ k ∧ (Value.slice (some ⟨g', 0, none⟩) (vm + 1) cap').ownBlock ≠ some k) (st15.want l tSemi) outs oo om oc) := Vs.st (fun _ => rfl) (Vs.keep HOo.out St17)
                      have HE17 : Hid ((st15.want l tSemi).isAt = true → vm + 1 = (owns ++ [Ex.mk s x b0 []]).length ∧ cells ++ [.string s, .int .i64 x] = varCells (owns ++ [Ex.mk s x b0 []])) := fun _ => ⟨by rw [List.length_append, (HEr.out rfl).1]; rfl, by rw [(HEr.out rfl).2]; exact (varCells_snoc owns (.mk s x b0 [])).symm⟩
                      have HK17 : Hid _ := (HKr.out.1 rfl).own hq15
                      have HL17 : Hid (∀ k, st15.want l tSemi = .here k → i < k) := own_less hq15
                      have hm17 : Mv (w1.heap.size + 1) wq w17 := ((hmr.trans hk15).upon (hB16.mono (by omega))).trans hk17
                      clear HN16' HO16 St16 St17 HIr HOo HEr HKr hq15 HNr HOr R16 R15 hk17 hk15 Rr hmr
                      have RH17 : Hid (QS (⟨w1.heap.size + 1, g, cap, l⟩ : Qc) (st15.want l tSemi) 0 w17) := R17
                      clear R17
                      generalize st15.want l tSemi = st17 at *
                      cases st17 with
                      | bad k bd =>
                        go_wp2
                        go_quiet ((go_at_call 30; exact Calls.quiet_of_same (rok_bad (⟨w1.heap.size + 1, g, cap, l⟩ : Qc) k bd 0 _ (RH17.out.drewN _))))
                        go_wp2
                        have hl0 := (RH17.out.drewN nq).left_bad
                        refine ⟨⟨.bad k bd, false, _, some ⟨g', 0, none⟩, vm + 1, cap', _, rfl, RH17.out.drewN _, hm17.trans (Mv.of_below (below_drewN (Below.refl _ _) _)), hsz16', ?_, HN17, HO17, HI17, HOo17, HE17, ⟨fun h => (by cases h), fun _ => HK17.out.any rfl⟩⟩, ?_⟩
                        · rw [show qleft l _ _ = 0 from hl0]; omega
                        · rw [show qleft l _ _ = 0 from hl0, show qleft l _ _ = _ from hle]; omega
                      | here k =>
                        have hik := HL17.out k rfl
                        have hkl : k < l.length := RH17.out.lt
                        have c0 : w17.cell? ⟨w1.heap.size + 1, 0, none⟩ = some (.slice (some ⟨g, 0, none⟩) l.length cap) := RH17.out.c0
                        have c1 : w17.cell? ⟨w1.heap.size + 1, 1, none⟩ = some (.int .i64 k) := RH17.out.c1
                        obtain ⟨r0, _, _⟩ := RH17.out.row k hkl
                        have j0 : (0 : Int) ≤ (k : Int) := by omega
                        have j1 : (k : Int) < (l.length : Int) := by omega
                        dsimp only at r0
                        cases hn : isName l k with
                        | false =>
                          have hn' : ((tkk l k).toList == [110, 97, 109, 101]) = false := hn
                          go_wp2
                          go_quiet ((go_at_call 30; exact Calls.quiet_of_same (rok_at (⟨w1.heap.size + 1, g, cap, l⟩ : Qc) k 0 _ (RH17.out.drewN _))))
                          go_wp2
                          have hl0 := (RH17.out.drewN nq).left_at
                          refine ⟨⟨.here k, false, _, some ⟨g', 0, none⟩, vm + 1, cap', _, rfl, RH17.out.drewN _, hm17.trans (Mv.of_below (below_drewN (Below.refl _ _) _)), hsz16', ?_, HN17, HO17, HI17, HOo17, HE17, ⟨fun h => (by cases h), fun _ => HK17.out.to (fun k' e r hr => by cases e; exact Run.ifF hn hr)⟩⟩, ?_⟩
                          · rw [show qleft l _ _ = _ from hle] at hqr; rw [show qleft l _ _ = _ from hl0]; simp only at *; omega
                          · rw [show qleft l _ _ = _ from hl0, show qleft l _ _ = _ from hle]; simp only; omega
                        | true =>
                          have hn' : ((tkk l k).toList == [110, 97, 109, 101]) = true := hn
                          go_wp2
                          go_quiet ((go_at_call 30; exact Calls.quiet_of_same (rok_at (⟨w1.heap.size + 1, g, cap, l⟩ : Qc) k 0 _ (RH17.out.drewN _))))
                          go_wp2
                          have hl0 := (RH17.out.drewN nq).left_at
                          refine ⟨⟨.here k, true, _, some ⟨g', 0, none⟩, vm + 1, cap', _, rfl, RH17.out.drewN _, hm17.trans (Mv.of_below (below_drewN (Below.refl _ _) _)), hsz16', ?_, HN17, HO17, HI17, HOo17, HE17, ⟨fun _ => HK17.out.to (fun k' e r hr => by cases e; exact Run.ifT hn hr), fun h => by cases h⟩⟩, ?_⟩
                          · rw [show qleft l _ _ = _ from hle] at hqr; rw [show qleft l _ _ = _ from hl0]; simp only at *; omega
                          · rw [show qleft l _ _ = _ from hl0, show qleft l _ _ = _ from hle]; simp only; omega
              case rest =>
                obtain ⟨st, owns, vo, vm, vc, R20, hm20, hs20, HN20, HI20, HO20, HW20, HK20⟩ := hcut
                rename World => w20
                clear HN14 HI14 HO14 HK14 R14 hm14 hs14
                go_wp2_with fail
                refine (rwant_any (⟨w1.heap.size + 1, g, cap, l⟩ : Qc) _ 0 _ R20 T kWord _ tLet (Or.inl ⟨by decide, rfl⟩) (by rw [ByteArray.toList_eq]; rfl) (by decide)).mono ?_
                rintro e w21 ⟨rfl, R21, hk21⟩
                have hs21 := hk21.size
                have HN21 : Hid _ := hk21.row (k := w5.heap.size) (by show w5.heap.size ≠ w1.heap.size + 1; omega) HN20.out
                have hm21 := hm20.trans hk21
                have HI21 : Hid (Vs w21 (fun k => w5.heap.size < k) (st.want l tLet) ins io im ic) := Vs.st want_isAt (Vs.keep HI20.out (Stays.mv hk21 (fun k hk => ⟨by show k ≠ w1.heap.size + 1; omega, hk⟩)))
                have HO21 : Hid (Vs w21 (fun k => w5.heap.size < k) (st.want l tLet) outs oo om oc) := Vs.st want_isAt (Vs.keep HO20.out (Stays.mv hk21 (fun k hk => ⟨by show k ≠ w1.heap.size + 1; omega, hk⟩)))
                have HW21 : Hid (Vs w21 (fun k => w5.heap.size < k) (st.want l tLet) owns vo vm vc) := Vs.st want_isAt (Vs.keep HW20.out (Stays.mv hk21 (fun k hk => ⟨by show k ≠ w1.heap.size + 1; omega, hk⟩)))
                have HK21 : Hid (KRel l (NextP l j es) j (st.want l tLet) (fun j => .call (.eqs []) j 0 fun qs => (fun i => expA l i tTel fun i => retA [.mk ((st1.want l tNode).nm l) 0 b0 [lst ins, lst outs, lst owns, lst qs]] i))) := KRel.want (x := tLet) HK20.out
                clear HN20 HI20 HO20 HW20 HK20 hm20 hk21 R20
                generalize st.want l tLet = st21 at *
                go_upto_block 4 with fail
                go_cut [] (fun wc => ∃ (st : St) (qs : List Ex) (qo : Option Addr) (qm qc : Nat) (ys : List Value), QS (⟨w1.heap.size + 1, g, cap, l⟩ : Qc) st 0 wc ∧ Mv (w1.heap.size + 1) wq wc ∧ w5.heap.size + 1 ≤ wc.heap.size ∧ Hid (wc.heap[w5.heap.size]? = some (.cells #[.string ((st1.want l tNode).nm l), .slice io im ic, .slice oo om oc, .slice vo vm vc, .slice qo qm qc] 86)) ∧ Hid (Vs wc (fun k => w5.heap.size < k) st ins io im ic) ∧ Hid (Vs wc (fun k => w5.heap.size < k) st outs oo om oc) ∧ Hid (Vs wc (fun k => w5.heap.size < k) st owns vo vm vc) ∧ Hid (st.isAt = true → qm = qs.length ∧ RowAt wc (fun k => w5.heap.size < k) 6 (.slice qo qm qc) qm ys ∧ EqIn wc (fun k => w5.heap.size < k) qs ys) ∧ Hid (KRel l (NextP l j es) j st (fun i => expA l i tTel fun i => retA [.mk ((st1.want l tNode).nm l) 0 b0 [lst ins, lst outs, lst owns, lst qs]] i)))
                case first =>
                  obtain ⟨iv, hiv, hv0, hv1, hv2⟩ := info_parts Tryz.infoREq
                  go_wp2_with fail
                  go_loopw [] (fun wr => ∃ (st : St) (qs : List Ex) (qo : Option Addr) (qm qc : Nat) (cells : List Value), QS (⟨w1.heap.size + 1, g, cap, l⟩ : Qc) st 0 wr ∧ Mv (w1.heap.size + 1) wq wr ∧ w5.heap.size + 1 ≤ wr.heap.size ∧ qm + qleft l wr (w1.heap.size + 1) ≤ l.length + 1 ∧ Hid (wr.heap[w5.heap.size]? = some (.cells #[.string ((st1.want l tNode).nm l), .slice io im ic, .slice oo om oc, .slice vo vm vc, .slice qo qm qc] 86)) ∧ Hid (wr.ownsRow (w5.heap.size + 1) 96 6 (.slice qo qm qc) qm cells) ∧ Hid (Vs wr (fun k => w5.heap.size + 1 ≤ k ∧ (Value.slice qo qm qc).ownBlock ≠ some k) st ins io im ic) ∧ Hid (Vs wr (fun k => w5.heap.size + 1 ≤ k ∧ (Value.slice qo qm qc).ownBlock ≠ some k) st outs oo om oc) ∧ Hid (Vs wr (fun k => w5.heap.size + 1 ≤ k ∧ (Value.slice qo qm qc).ownBlock ≠ some k) st owns vo vm vc) ∧ Hid (st.isAt = true → qm = qs.length ∧ EqIn wr (fun k => w5.heap.size + 1 ≤ k ∧ (Value.slice qo qm qc).ownBlock ≠ some k) qs cells) ∧ Hid (KRel l (NextP l j es) j st (fun j => .call (.eqs qs) j 0 fun qs => (fun i => expA l i tTel fun i => retA [.mk ((st1.want l tNode).nm l) 0 b0 [lst ins, lst outs, lst owns, lst qs]] i)))) (fun wr => qleft l wr (w1.heap.size + 1))
                  case atStart =>
                    have hq := R21.left_le
                    exact ⟨st21, [], none, 0, 0, [], R21, hm21, by omega, by simpa using hq, HN21, World.ownsRow_nil _ _ _ _, Vs.keep HI21.out (fun k hk _ => ⟨⟨hk, by simp [Value.ownBlock]⟩, rfl⟩), Vs.keep HO21.out (fun k hk _ => ⟨⟨hk, by simp [Value.ownBlock]⟩, rfl⟩), Vs.keep HW21.out (fun k hk _ => ⟨⟨hk, by simp [Value.ownBlock]⟩, rfl⟩), fun _ => ⟨rfl, .nil⟩, HK21⟩
                  case round =>
                    clear HN21 HI21 HO21 HW21 HK21 R21 hm21 hs21 hs20
                    obtain ⟨st, qs, qo, qm, qc, cells, Rr, hmr, hsr, hqr, HNr, HOr, HIr, HOo, HWr, HEr, HKr⟩ := hrel
                    cases st with
                    | bad i bd =>
                      go_wp2_with fail
                      refine (rok_bad (⟨w1.heap.size + 1, g, cap, l⟩ : Qc) i bd 0 _ Rr).mono ?_
                      rintro e w15 ⟨rfl, rfl⟩
                      go_wp2
                      go_meet
                      case rel => exact ⟨_, qs, qo, qm, qc, [], Rr, hmr, hsr, HNr, Vs.keep HIr.out (fun k hk _ => ⟨hk.1, rfl⟩), Vs.keep HOo.out (fun k hk _ => ⟨hk.1, rfl⟩), Vs.keep HWr.out (fun k hk _ => ⟨hk.1, rfl⟩), fun h => (by cases h), HKr.out.any rfl⟩
                    | here i =>
                      have HB : Hid _ := isB_tx Rr T (k := kWord) (xb := ⟨#[116, 101, 108]⟩) (x := tTel) (Or.inl ⟨by decide, rfl⟩) (by rw [ByteArray.toList_eq]; rfl)
                      cases ht : tx l i tTel with
                      | true =>
                        have ht' : (St.here i).tx l tTel = true := ht
                        go_wp2_with fail
                        refine (rok_at (⟨w1.heap.size + 1, g, cap, l⟩ : Qc) i 0 _ Rr).mono ?_
                        rintro e w15 ⟨rfl, hw⟩
                        have hw' := hw.symm
                        subst hw'
                        clear hw
                        go_wp2_with fail
                        refine (ris_any (⟨w1.heap.size + 1, g, cap, l⟩ : Qc) (.here i) 0 _ Rr kWord _).mono ?_
                        rintro e w15 ⟨rfl, n15, rfl⟩
                        simp only [HB.out, ht']
                        go_wp2
                        go_meet
                        case rel => exact ⟨_, qs, qo, qm, qc, cells, Rr.drewN _, hmr.trans (Mv.of_below (below_drewN (Below.refl _ _) _)), hsr, HNr, Vs.keep HIr.out (fun k hk _ => ⟨hk.1, rfl⟩), Vs.keep HOo.out (fun k hk _ => ⟨hk.1, rfl⟩), Vs.keep HWr.out (fun k hk _ => ⟨hk.1, rfl⟩), fun h => ⟨(HEr.out h).1, (RowAt.of_owns HOr.out).keep (fun k hk _ => ⟨hk, rfl⟩), (HEr.out h).2.keep (fun k hk _ => ⟨hk.1, rfl⟩)⟩, HKr.out.eqs (fun _ => ht)⟩
                      | false =>
                        have ht' : (St.here i).tx l tTel = false := ht
                        have hil : i < l.length := Rr.lt
                        have hlen' : l.length ≤ 6001 := Rr.len
                        have hle := Rr.left_at
                        go_wp2_with fail
                        refine (rok_at (⟨w1.heap.size + 1, g, cap, l⟩ : Qc) i 0 _ Rr).mono ?_
                        rintro e w15 ⟨rfl, hw⟩
                        have hw' := hw.symm
                        subst hw'
                        clear hw
                        go_wp2_with fail
                        refine (ris_any (⟨w1.heap.size + 1, g, cap, l⟩ : Qc) (.here i) 0 _ Rr kWord _).mono ?_
                        rintro e w15 ⟨rfl, n15, rfl⟩
                        simp only [HB.out, ht']
                        go_wp2_with fail
                        refine (requation_any (⟨w1.heap.size + 1, g, cap, l⟩ : Qc) _ _ T (Rr.drewN n15)).mono ?_
                        rintro e w15 ⟨hk15', st15, v, rfl, R15, hq15⟩
                        obtain ⟨kd, no, nm, nc, op, x, sx, eo, em, ec, rfl⟩ := hq15.shape
                        obtain ⟨q1, hK15, hE15⟩ := HKr.out.eq ht' hq15
                        have hk15 : Mv (w1.heap.size + 1) wr w15 := (Mv.of_below (below_drewN (Below.refl _ _) n15)).trans hk15'
                        have hs15 := hk15.size
                        have HNv : Hid _ := hk15.row (k := w5.heap.size) (by show w5.heap.size ≠ w1.heap.size + 1; omega) HNr.out
                        have y4 := (blk5 HNv.out).2.2.2.2.1
                        have hltn : w5.heap.size < w15.heap.size := lt_of_cell y4
                        have hn63 : qm + 1 ≤ maxLen := by unfold maxLen; omega
                        have hby : (qm + 1) * 104 ≤ 140737488355328 := by omega
                        have HO15 : Hid _ := ((ownsRow_mv HOr.out hk15 (by show w1.heap.size + 1 < w5.heap.size + 1; omega)).alloc (.cells #[.string kd, .slice no nm nc, .string op, .int .i64 x, .string sx, .slice eo em ec] 96)).alloc (.cells #[.string kd, .slice no nm nc, .string op, .int .i64 x, .string sx, .slice eo em ec] 96)
                        have hnb : ((w15.alloc (.cells #[.string kd, .slice no nm nc, .string op, .int .i64 x, .string sx, .slice eo em ec] 96)).alloc (.cells #[.string kd, .slice no nm nc, .string op, .int .i64 x, .string sx, .slice eo em ec] 96)).heap[w15.heap.size + 1]? = some (.cells #[.string kd, .slice no nm nc, .string op, .int .i64 x, .string sx, .slice eo em ec] 96) := heap_alloc_new' (by simp) _
                        have HNn : Hid _ := World.news_of_block hnb
                        have HRW : Hid (∀ k, (Value.slice qo qm qc).ownBlock = some k → w5.heap.size + 1 ≤ k ∧ k < wr.heap.size) := fun k hk => ownsRow_block HOr.out hk
                        have HL15 : Hid (∀ k, st15 = .here k → i < k) := eq_less hq15
                        have HE15 : Hid (st15.isAt = true → q1.length = 1 ∧ EqIn w15 (From wr.heap.size) q1 [.string kd, .slice no nm nc, .string op, .int .i64 x, .string sx, .slice eo em ec]) := fun h => by
                          obtain ⟨xs, e, h1, h2⟩ := hE15 h
                          injection e with e
                          subst e
                          exact ⟨h1, h2⟩
                        have HK15 : Hid _ := hK15
                        clear hnb hq15 hK15 hE15 HKr
                        go_wp2_with (at_builtin; refine wpList_append_lies _ rfl _ _ _ rfl (w5.heap.size + 1) 96 iv _ 6 104 Tryz.underlying84 hiv hv0 hv1 hv2 rfl (by omega) _ qm cells rfl HO15.out ⟨w15.heap.size + 1, 0, none⟩ 1 1 [.string kd, .slice no nm nc, .string op, .int .i64 x, .string sx, .slice eo em ec] rfl rfl HNn.out (by simp [Value.oneCell']) (by omega) hn63 hby (by simp <;> omega) (w15.heap.size + 1 + 1) (by simp) ?_; intro g' cap' w16 hown16 hgrow hat hlt16; have HN16 : Hid _ := heap_grown hgrow (b := w5.heap.size) (fun hk => by have := (HRW.out _ hk).1; omega) (alloc_row _ (alloc_row _ HNv.out)); have b4 := (blk5 HN16.out).2.2.2.2.1; have bf := (blk5 HN16.out).2.2.2.2.2 4)
                        have hbg : Below w5.heap.size w15 w16 := (((Below.refl _ _).alloc (by omega) _).alloc (by simp; omega) _).grown hgrow (by simp; omega) (fun k hk => by have := (HRW.out k hk).1; omega)
                        have hB16 : Below w5.heap.size w15 (w16.setCell ⟨w5.heap.size, 4, none⟩ (.slice (some ⟨g', 0, none⟩) (qm + 1) cap')) := hbg.setCell (p := ⟨w5.heap.size, 4, none⟩) (Nat.le_refl _) _
                        have R16 : QS (⟨w1.heap.size + 1, g, cap, l⟩ : Qc) st15 0 (w16.setCell ⟨w5.heap.size, 4, none⟩ (.slice (some ⟨g', 0, none⟩) (qm + 1) cap')) := R5.upon R15 hB16
                        have HN16' : Hid ((w16.setCell ⟨w5.heap.size, 4, none⟩ (.slice (some ⟨g', 0, none⟩) (qm + 1) cap')).heap[w5.heap.size]? = some (.cells #[.string ((st1.want l tNode).nm l), .slice io im ic, .slice oo om oc, .slice vo vm vc, .slice (some ⟨g', 0, none⟩) (qm + 1) cap'] 86)) := set_row HN16.out
                        have HO16 : Hid ((w16.setCell ⟨w5.heap.size, 4, none⟩ (.slice (some ⟨g', 0, none⟩) (qm + 1) cap')).ownsRow (w5.heap.size + 1) 96 6 (.slice (some ⟨g', 0, none⟩) (qm + 1) cap') (qm + 1) (cells ++ [.string kd, .slice no nm nc, .string op, .int .i64 x, .string sx, .slice eo em ec])) := ownsRow_mv hown16 (Mv.setAt w5.heap.size 4 _ _) (by omega)
                        have hgs := hbg.size
                        have St16 : Stays (fun k => w5.heap.size + 1 ≤ k ∧ (Value.slice qo qm qc).ownBlock ≠ some k) (fun k => w5.heap.size + 1 ≤ k ∧ (Value.slice (some ⟨g', 0, none⟩) (qm + 1) cap').ownBlock ≠ some k) wr (w16.setCell ⟨w5.heap.size, 4, none⟩ (.slice (some ⟨g', 0, none⟩) (qm + 1) cap')) := (grow_old (base := w5.heap.size + 1) (w4 := w15.alloc (.cells #[.string kd, .slice no nm nc, .string op, .int .i64 x, .string sx, .slice eo em ec] 96)) (n := qm + 1) (cap := cap') (hk15.trans (Mv.of_below ((Below.refl _ _).alloc (Nat.le_refl _) _))) (by show w1.heap.size + 1 < w5.heap.size + 1; omega) hgrow (by rw [World.size_alloc]; exact hat)).trans (Stays.set (p := ⟨w5.heap.size, 4, none⟩) _ (fun k hk => ⟨by show k ≠ w5.heap.size; omega, hk⟩)) (by omega)
                        have St15 : Stays (From wr.heap.size) (fun k => w5.heap.size + 1 ≤ k ∧ (Value.slice (some ⟨g', 0, none⟩) (qm + 1) cap').ownBlock ≠ some k) w15 (w16.setCell ⟨w5.heap.size, 4, none⟩ (.slice (some ⟨g', 0, none⟩) (qm + 1) cap')) := ((Stays.alloc (S' := From wr.heap.size) (.cells #[.string kd, .slice no nm nc, .string op, .int .i64 x, .string sx, .slice eo em ec] 96) (fun k hk => hk)).trans (grow_new (base := w5.heap.size + 1) (H := wr.heap.size) (w4 := w15.alloc (.cells #[.string kd, .slice no nm nc, .string op, .int .i64 x, .string sx, .slice eo em ec] 96)) (n := qm + 1) (cap := cap') (by omega) (fun k hk => (HRW.out k hk).2) hgrow (by rw [World.size_alloc]; exact hat)) (by simp)).trans (Stays.set (p := ⟨w5.heap.size, 4, none⟩) _ (fun k hk => ⟨by show k ≠ w5.heap.size; omega, hk⟩)) (by omega)
                        have hz16 := hB16.size
                        have hl16 : qleft l (w16.setCell ⟨w5.heap.size, 4, none⟩ (.slice (some ⟨g', 0, none⟩) (qm + 1) cap')) (w1.heap.size + 1) < qleft l wr (w1.heap.size + 1) := by
                          rw [show qleft l wr (w1.heap.size + 1) = _ from hle]
                          cases st15 with
                          | bad k bd => rw [show qleft l (w16.setCell ⟨w5.heap.size, 4, none⟩ (.slice (some ⟨g', 0, none⟩) (qm + 1) cap')) (w1.heap.size + 1) = 0 from R16.left_bad]; omega
                          | here k => rw [show qleft l (w16.setCell ⟨w5.heap.size, 4, none⟩ (.slice (some ⟨g', 0, none⟩) (qm + 1) cap')) (w1.heap.size + 1) = _ from R16.left_at]; have := HL15.out k rfl; simp only; omega
                        refine ⟨⟨st15, qs ++ q1, some ⟨g', 0, none⟩, qm + 1, cap', _, R16, (hmr.trans hk15).upon (hB16.mono (by omega)), by omega, by omega, HN16', HO16, Vs.st (fun _ => rfl) (Vs.keep HIr.out St16), Vs.st (fun _ => rfl) (Vs.keep HOo.out St16), Vs.st (fun _ => rfl) (Vs.keep HWr.out St16), fun h => ⟨?_, ?_⟩, HK15⟩, hl16⟩
                        · rw [List.length_append, (HE15.out h).1, (HEr.out rfl).1]
                        · exact ((HEr.out rfl).2.keep St16).append ((HE15.out h).2.keep St15)
                case rest =>
                  clear HN21 HI21 HO21 HW21 HK21 R21 hm21 hs21 hs20
                  obtain ⟨st, qs, qo, qm, qc, ys, R30, hm30, hs30, HN30, HI30, HO30, HW30, HQ30, HK30⟩ := hcut
                  rename World => w30
                  go_wp2_with fail
                  refine (rwant_any (⟨w1.heap.size + 1, g, cap, l⟩ : Qc) _ 0 _ R30 T kWord _ tTel (Or.inl ⟨by decide, rfl⟩) (by rw [ByteArray.toList_eq]; rfl) (by decide)).mono ?_
                  rintro e w31 ⟨rfl, R31, hk31⟩
                  have hs31 := hk31.size
                  have hm31 := hm30.trans hk31
                  have HN31 : Hid _ := hk31.row (k := w5.heap.size) (by show w5.heap.size ≠ w1.heap.size + 1; omega) HN30.out
                  obtain ⟨n0, n1, n2, n3, n4, _⟩ := blk5 HN31.out
                  obtain ⟨hP31, hl31⟩ := HP.out.next (HK30.out.want (x := tTel))
                  have HP31 : Hid _ := hP31
                  have HL31 : Hid _ := hl31
                  have h12 : es.length ≤ 12 := by have := HP.out; cases this; assumption
                  have HO31 : Hid _ := (ownsRow_mv HO.out hm31 (by show w1.heap.size + 1 < w1.heap.size + 1 + 1; omega)).alloc (.cells #[.string ((st1.want l tNode).nm l), .slice io im ic, .slice oo om oc, .slice vo vm vc, .slice qo qm qc] 86)
                  have hnb := heap_alloc_new w31 (.cells #[.string ((st1.want l tNode).nm l), .slice io im ic, .slice oo om oc, .slice vo vm vc, .slice qo qm qc] 86)
                  have HNn : Hid _ := World.news_of_block hnb
                  have HRW : Hid (∀ k, (Value.slice so es.length sc).ownBlock = some k → w1.heap.size + 1 + 1 ≤ k ∧ k < wq.heap.size) := fun k hk => ownsRow_block HO.out hk
                  clear hnb hP31 hl31
                  go_wp2_with (at_builtin; refine wpList_append_lies _ rfl _ _ _ rfl (w1.heap.size + 1 + 1) 86 i0 _ 5 112 Tryz.underlying42 hi0 hz0 hz1 hz2 rfl (by omega) _ es.length cells rfl HO31.out ⟨w31.heap.size, 0, none⟩ 1 1 [.string ((st1.want l tNode).nm l), .slice io im ic, .slice oo om oc, .slice vo vm vc, .slice qo qm qc] rfl rfl HNn.out (by simp [Value.oneCell']) (by omega) (by unfold maxLen; omega) (by omega) (by simp <;> omega) (w31.heap.size + 1) (by simp) ?_; intro g2 cap2 w32 hown32 hgrow hat hlt32)
                  have hB32 : Below (w1.heap.size + 1 + 1) w31 w32 := ((Below.refl _ _).alloc (by omega) _).grown hgrow (by simp; omega) (fun k hk => (HRW.out k hk).1)
                  have R32 : QS (⟨w1.heap.size + 1, g, cap, l⟩ : Qc) (st.want l tTel) 0 w32 := HR0.out.upon R31 (hB32.mono (by simp))
                  have St0 := grow_old (base := w1.heap.size + 1 + 1) (n := es.length + 1) (cap := cap2) hm31 (by omega) hgrow hat
                  have St1 := grow_new (base := w1.heap.size + 1 + 1) (H := wq.heap.size) (n := es.length + 1) (cap := cap2) (by omega) (fun k hk => (HRW.out k hk).2) hgrow hat
                  have St2 : Stays (fun k => w5.heap.size < k) (From wq.heap.size) w30 w31 := Stays.mv hk31 (fun k hk => ⟨by show k ≠ w1.heap.size + 1; omega, by unfold From; omega⟩)
                  have St3 := St2.trans St1 hs31
                  have HZ32 : Hid _ := heap_grown hgrow (b := w.heap.size) (fun hk => by have := (HRW.out _ hk).1; omega) (alloc_row _ (hm31.row (k := w.heap.size) (by show w.heap.size ≠ w1.heap.size + 1; omega) HZr.out))
                  have hl32 : qleft l w32 (w1.heap.size + 1) < qleft l wq (w1.heap.size + 1) := by
                    rw [hleq.out]
                    generalize st.want l tTel = st31 at *
                    cases st31 with
                    | bad k bd => rw [show qleft l w32 (w1.heap.size + 1) = 0 from R32.left_bad]; omega
                    | here k => rw [show qleft l w32 (w1.heap.size + 1) = _ from R32.left_at]; have := HL31.out k rfl; simp only; omega
                  refine ⟨⟨st.want l tTel, _, some ⟨g2, 0, none⟩, es.length + 1, cap2, _, rfl, R32, (hmr.trans hm31).upon (hB32.mono (by simp)), HZ32, hown32, HP31, fun h => ⟨by rw [List.length_append]; rfl, ?_⟩⟩, hl32⟩
                  have ha := want_isAt h
                  obtain ⟨e1, r1⟩ := HI30.out ha
                  obtain ⟨e2, r2⟩ := HO30.out ha
                  obtain ⟨e3, r3⟩ := HW30.out ha
                  obtain ⟨e4, r4, r5⟩ := HQ30.out ha
                  subst e1 e2 e3 e4
                  exact (HIN.out.keep St0).append (.cons _ ins outs owns qs [] _ _ _ _ ys [] (r1.keep St3) (r2.keep St3) (r3.keep St3) (r4.keep St3) (r5.keep St3) .nil)
  · cases (hl.one hl').2
end Go.Proofs.YtomgimfmcfjhdaaGreatDoor
