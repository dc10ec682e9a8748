/-
  package types: typed, Terms, Parts BY CONTRACT.
-/
import Derived.Test.YtpkgingjmgakbaaDoorP16
namespace Go.Proofs.YtpkgingjmgakbaaDoor
open Go.RowKit Go.Maps

/-- What typed tells. -/
def TypedP (kd : List UInt8 → Option Int) (l : List Ex) (et bt : TypeId) (eq bq : Value) (w : World) (e : Ending) (w' : World) : Prop :=
  Below w.heap.size w w' ∧ ((4000 < szL l ∧ e = .returned (.tuple #[.slice none 0 0, .slice none 0 0, .iface bt bq])) ∨ (szL l ≤ 4000 ∧ tyL kd l = none ∧ e = .returned (.tuple #[.slice none 0 0, .slice none 0 0, .iface et eq])) ∨ (szL l ≤ 4000 ∧ ∃ ks qs ta tc pa pc, tyL kd l = some (ks, qs) ∧ e = .returned (.tuple #[.slice ta ks.length tc, .slice pa qs.length pc, .nilIface]) ∧ IntsAt w' (.slice ta ks.length tc) ks ∧ IntsAt w' (.slice pa qs.length pc) qs))
theorem ints_owned {w : World} {base n : Nat} {o : Option Addr} {c : Nat} {l : List Int} (h : w.ownsRow base 3 1 (.slice o n c) n (l.map (Value.int .i64))) (hn : l.length = n) (hm : n ≤ maxLen) : IntsAt w (.slice o n c) l := by
  subst hn
  refine ⟨hm, o, c, rfl, fun k x hk => ?_⟩
  have hlt := (List.getElem?_eq_some_iff.1 hk).1
  obtain ⟨g, cap, e, _, _⟩ := h.form (by omega)
  obtain ⟨rfl, rfl⟩ : o = some ⟨g, 0, none⟩ ∧ c = cap := by simpa using e
  have hadd' : ∀ j, (⟨g, 0, none⟩ : Addr).add j = ⟨g, 0 + j, none⟩ := fun j => by unfold Addr.add; split <;> simp_all
  refine ⟨g, 0, rfl, ?_⟩
  rw [← hadd']
  exact h.cells (g := g) rfl k _ (by simp [hk])
theorem FnAt.isMap {w : World} {b n : Nat} {f : List UInt8 → Option Value} (h : FnAt w b n f) : ∃ es clock, w.heap[b]? = some (.map es clock) := by
  obtain ⟨D, h, _⟩ := h
  obtain ⟨es, clock, hb, _⟩ := h
  exact ⟨es, clock, hb⟩
theorem FnAt.noRow {w : World} {b n k : Nat} {f : List UInt8 → Option Value} {cs : Array Value} {t : TypeId} {fr : Nat × Nat} (h : FnAt w b n f) (hk : w.heap[k]? = some (.cells cs t fr)) : k ≠ b := fun e => by
  obtain ⟨es, clock, hb⟩ := h.isMap
  rw [← e, hk] at hb
  cases hb
set_option maxRecDepth 100000 in
set_option maxHeartbeats 4000000 in
theorem typed_any (kd : List UInt8 → Option Int) (l : List Ex) (w : World) (K nK : Nat) (hK : FnAt w K nK (kindF kd)) (hok : okL kd l) (S : Nat → Prop) (o : Option Addr) (c : Nat) (ys : List Value) (hrow : RowAt w S 4 (.slice o l.length c) l.length ys) (hex : ExIn w S l ys) (et bt : TypeId) (eq bq : Value) (he : w.cell? ⟨4, 0, none⟩ = some (.iface et eq)) (hbd : w.cell? ⟨3, 0, none⟩ = some (.iface bt bq)) :
    Calls Tryd.prog 44 #[.map (some K), .slice o l.length c] w (TypedP kd l et bt eq bq w) := by
  obtain ⟨w1, hw1⟩ : ∃ w1, w1 = w.alloc (.cells #[.slice o l.length c] 27) := ⟨_, rfl⟩
  have hb1 : Below w.heap.size w w1 := by rw [hw1]; exact (Below.refl _ _).alloc (Nat.le_refl _) _
  have hs1 : w1.heap.size = w.heap.size + 1 := by rw [hw1]; simp
  have hr0 : w1.heap[w.heap.size]? = some (.cells #[.slice o l.length c] 27 (0, 0)) := by rw [hw1]; exact heap_alloc_new _ _
  obtain ⟨w2, hw2⟩ : ∃ w2, w2 = w1.alloc (.cells #[.slice none 0 0] 22) := ⟨_, rfl⟩
  have hb2 : Below w1.heap.size w1 w2 := by rw [hw2]; exact (Below.refl _ _).alloc (Nat.le_refl _) _
  have hs2 : w2.heap.size = w.heap.size + 2 := by rw [hw2]; simp [hs1]
  have hr1 : w2.heap[w.heap.size + 1]? = some (.cells #[.slice none 0 0] 22 (0, 0)) := by rw [hw2, ← hs1]; exact heap_alloc_new _ _
  have hb02 := hb1.trans (hb2.mono hb1.size)
  have HR0 : Hid (w2.heap[w.heap.size]? = some (.cells #[.slice o l.length c] 27 (0, 0))) := row_keep hb2 hr0
  have HR1 : Hid (w2.heap[w.heap.size + 1]? = some (.cells #[.slice none 0 0] 22 (0, 0))) := hr1
  have HW1 : Hid (w.alloc (.cells #[.slice o l.length c] 27) = w1) := hw1.symm
  have HW2 : Hid (w1.alloc (.cells #[.slice none 0 0] 22) = w2) := hw2.symm
  have HS12 : Hid (w1.heap.size = w.heap.size + 1 ∧ w2.heap.size = w.heap.size + 2) := ⟨hs1, hs2⟩
  have hst2 : Stays S S w w2 := fun b hb hl => ⟨hb, hb02.block b hl⟩
  have HBD : Hid (Calls Tryd.prog 26 #[.slice o l.length c] w2 fun e w' => Below w2.heap.size w2 w' ∧ e = .returned (.bool (decide (szL l ≤ 4000)))) := bounded_any l w2 S o c ys (hrow.keep hst2) (hex.keep hst2)
  have HB02 : Hid (Below w.heap.size w w2) := hb02
  have HK : Hid (FnAt w K nK (kindF kd)) := hK
  have HOK : Hid (okL kd l) := hok
  have HROW : Hid (RowAt w S 4 (.slice o l.length c) l.length ys) := hrow
  have HEX : Hid (ExIn w S l ys) := hex
  have HET : Hid (w.cell? ⟨4, 0, none⟩ = some (.iface et eq)) := he
  have HEB : Hid (w.cell? ⟨3, 0, none⟩ = some (.iface bt bq)) := hbd
  have c0 : w2.cell? ⟨w.heap.size, 0, none⟩ = some (.slice o l.length c) := by rw [cell_of_row w2 _ _ _ _ (0, 0) HR0.out]; rfl
  clear hK hok hrow hex he hbd hw1 hb1 hs1 hr0 hw2 hb2 hs2 hr1 hb02 hst2
  go_enter Tryd.func44, Tryd.ntmps44
  go_wp2_with fail
  rw [HW1.out, HW2.out]
  refine HBD.out.mono ?_
  rintro e w3 ⟨hb3, rfl⟩
  have hb03 := HB02.out.trans (hb3.mono HB02.out.size)
  have hr13 := row_keep hb3 HR1.out
  have hr03 := row_keep hb3 HR0.out
  have d1 : w3.cell? ⟨w.heap.size + 1, 0, none⟩ = some (.slice none 0 0) := by rw [cell_of_row w3 _ _ _ _ (0, 0) hr13]; rfl
  have f1 : w3.frozen? ⟨w.heap.size + 1, 0, none⟩ = false := frozen_row hr13
  have HB03 : Hid (Below w.heap.size w w3) := hb03
  have HR13 : Hid (w3.heap[w.heap.size + 1]? = some (.cells #[.slice none 0 0] 22 (0, 0))) := hr13
  have HR03 : Hid (w3.heap[w.heap.size]? = some (.cells #[.slice o l.length c] 27 (0, 0))) := hr03
  by_cases hz : szL l ≤ 4000
  case neg =>
    have hdz : decide (szL l ≤ 4000) = false := decide_eq_false hz
    have g0 := cell_keep hb03 HEB.out
    have HZ : Hid (4000 < szL l) := by unfold Hid; omega
    have hgl : (3 : Nat) < w.heap.size := cell_blk HEB.out
    have g1 : (w3.setCell ⟨w.heap.size + 1, 0, none⟩ (.slice none 0 0)).cell? ⟨3, 0, none⟩ = some (.iface bt bq) := by
      have e : (w3.setCell ⟨w.heap.size + 1, 0, none⟩ (.slice none 0 0)).heap[(3 : Nat)]? = w3.heap[(3 : Nat)]? := Below.heap_setCell w3 ⟨w.heap.size + 1, 0, none⟩ _ _ (by show (3 : Nat) ≠ w.heap.size + 1; omega)
      rw [World.cell?_of_block (w := w3) e]
      exact g0
    rw [hdz]
    clear hz hdz hb3 hb03 hr13 hr03 c0
    go_wp2
    go_region
    have hbe : Below w.heap.size w (w3.setCell ⟨w.heap.size + 1, 0, none⟩ (.slice none 0 0)).drew := (HB03.out.setCell (by show w.heap.size ≤ w.heap.size + 1; omega) _).drew
    have hre : (w3.setCell ⟨w.heap.size + 1, 0, none⟩ (.slice none 0 0)).drew.heap[w.heap.size + 1]? = some (.cells #[.slice none 0 0] 22 (0, 0)) := heap_setCell_at (i := 0) HR13.out _
    obtain ⟨we, hwe⟩ : ∃ we, we = (w3.setCell ⟨w.heap.size + 1, 0, none⟩ (.slice none 0 0)).drew := ⟨_, rfl⟩
    rw [← hwe] at hbe hre ⊢
    have y1 : we.cell? ⟨w.heap.size + 1, 0, none⟩ = some (.slice none 0 0) := by rw [cell_of_row we _ _ _ _ (0, 0) hre]; rfl
    have HEND : Hid (TypedP kd l et bt eq bq w (.returned (.tuple #[.slice none 0 0, .slice none 0 0, .iface bt bq])) we) := ⟨hbe, .inl ⟨HZ.out, rfl⟩⟩
    clear hwe hbe hre d1 f1 g0 g1 hgl
    go_wp2
    exact bodyPost_ret (v := .tuple #[.slice none 0 0, .slice none 0 0, .iface bt bq]) (by simp [results, Tryd.results44, go_sem, y1]) rfl HEND.out
  case pos =>
    have hdz : decide (szL l ≤ 4000) = true := decide_eq_true hz
    have HZ : Hid (szL l ≤ 4000) := hz
    rw [hdz]
    clear hz hdz hb3 hb03 hr13 hr03 c0
    go_wp2_with fail
    refine (newChecker_any w3).mono ?_
    rintro e w4 ⟨cb, M, B, C, nv, rfl, hcb, hM, hRw, hb4, hcl, hBl, hne⟩
    have hs3 : w.heap.size + 2 ≤ w3.heap.size := by
      have h1 := (Array.getElem?_eq_some_iff.1 HR13.out).1
      omega
    obtain ⟨w5, hw5⟩ : ∃ w5, w5 = w4.alloc (.cells #[.pointer (some ⟨cb, 0, none⟩)] 110) := ⟨_, rfl⟩
    have hb5 : Below w4.heap.size w4 w5 := by rw [hw5]; exact (Below.refl _ _).alloc (Nat.le_refl _) _
    have hr25 : w5.heap[w4.heap.size]? = some (.cells #[.pointer (some ⟨cb, 0, none⟩)] 110 (0, 0)) := by rw [hw5]; exact heap_alloc_new _ _
    have hcb5 := row_keep hb5 hcb
    have hc4 : cb < w4.heap.size := (Array.getElem?_eq_some_iff.1 hcb).1
    have e0 : w5.cell? ⟨w4.heap.size, 0, none⟩ = some (.pointer (some ⟨cb, 0, none⟩)) := by rw [cell_of_row w5 _ _ _ _ (0, 0) hr25]; rfl
    have e2 : w5.cell? ⟨cb, 0 + 2, none⟩ = some (.map none) := by rw [cell_of_row w5 _ _ _ _ (0, 0) hcb5]; rfl
    have e2f : w5.frozen? ⟨cb, 0 + 2, none⟩ = false := frozen_row hcb5
    obtain ⟨w6, hw6⟩ : ∃ w6, w6 = w5.setCell ⟨cb, 0 + 2, none⟩ (.map (some K)) := ⟨_, rfl⟩
    have hk6 : ∀ q, q ≠ cb → w6.heap[q]? = w5.heap[q]? := fun q hq => by rw [hw6]; exact Below.heap_setCell w5 ⟨cb, 0 + 2, none⟩ _ q hq
    have hs6 : w6.heap.size = w5.heap.size := by rw [hw6]; exact size_setCell _ _ _
    have hs5 : w5.heap.size = w4.heap.size + 1 := by rw [hw5]; simp
    have hb34 : Below w3.heap.size w3 w5 := hb4.trans (hb5.mono hb4.size)
    have hb36 : Below w3.heap.size w3 w6 := by rw [hw6]; exact hb34.setCell hcl _
    have hb06 : Below w.heap.size w w6 := HB03.out.trans (hb36.mono HB03.out.size)
    have hcb6 : w6.heap[cb]? = some (.cells #[.map (some M), nv, .map (some K), .map none, .slice none 0 0] 114 (0, 0)) := by rw [hw6]; exact heap_setCell_at (i := 0 + 2) hcb5 _
    obtain ⟨w7, hw7⟩ : ∃ w7, w7 = w6.alloc (.cells #[.nilIface] 36) := ⟨_, rfl⟩
    have hb7 : Below w6.heap.size w6 w7 := by rw [hw7]; exact (Below.refl _ _).alloc (Nat.le_refl _) _
    have hre7 : w7.heap[w6.heap.size]? = some (.cells #[.nilIface] 36 (0, 0)) := by rw [hw7]; exact heap_alloc_new _ _
    have hb07 := hb06.trans (hb7.mono hb06.size)
    have hr17 : w7.heap[w.heap.size + 1]? = some (.cells #[.slice none 0 0] 22 (0, 0)) := row_keep hb7 (row_keep hb36 HR13.out)
    have hr07 : w7.heap[w.heap.size]? = some (.cells #[.slice o l.length c] 27 (0, 0)) := row_keep hb7 (row_keep hb36 HR03.out)
    have hr27 : w7.heap[w4.heap.size]? = some (.cells #[.pointer (some ⟨cb, 0, none⟩)] 110 (0, 0)) := row_keep hb7 ((hk6 _ (by omega)).trans hr25)
    have hcb7 := row_keep hb7 hcb6
    have hM7 : FnAt w7 M 24 (signsF B C) := by
      have hl := hM.lt
      refine hM.kept ?_
      rw [hb7.block M (by omega), hk6 M hne.1, hb5.block M hl]
    have hR5 := (Array.getElem?_eq_some_iff.1 hRw.r5).1
    have hR6 := (Array.getElem?_eq_some_iff.1 hRw.r6).1
    have hRk : ∀ q, q < w4.heap.size → q ≠ cb → w7.heap[q]? = w4.heap[q]? := fun q hq hn => by rw [hb7.block q (by omega), hk6 q hn, hb5.block q hq]
    have hKl : K < w.heap.size := HK.out.lt
    have hfix : CkFix M K nK B C kd w7 := ⟨hM7, ⟨by rw [hRk B (by omega) (by omega)]; exact hRw.r0, by rw [hRk (B + 1) (by omega) (by omega)]; exact hRw.r1, by rw [hRk (B + 1 + 1) (by omega) (by omega)]; exact hRw.r2, by rw [hRk (B + 1 + 1 + 1) (by omega) (by omega)]; exact hRw.r3, by rw [hRk (B + 1 + 1 + 1 + 1) (by omega) (by omega)]; exact hRw.r4, by rw [hRk (B + 1 + 1 + 1 + 1 + 1) (by omega) (by omega)]; exact hRw.r5, by rw [hRk C hR6 hne.2.1]; exact hRw.r6, hRw.lo⟩, HK.out.kept (hb07.block K hKl)⟩
    have hck : CkAt (CkBlk M K B C) cb kd [] (fun k => k = cb) w7 := ⟨M, K, nK, B, C, nv, .map none, none, 0, hcb7, hfix, World.ownsRow_nil _ _ _ _, fun k => by simp [Value.ownBlock], fun k hk => ⟨fun e => by
      have e' : k = cb := e
      rcases hk with h | h | h | h <;> omega, hk⟩, hfix.lt⟩
    have hnx : ¬ CkBlk M K B C (w.heap.size + 1) := fun hk => by
      have n1 := hM7.noRow hr17
      have lo := hRw.lo
      rcases hk with h | h | h | h <;> omega
    have hst7 : Stays S (fun b => ¬ (b = cb ∨ b = w.heap.size + 1)) w w7 := fun b _ hl => ⟨fun h => by rcases h with h | h <;> omega, hb07.block b hl⟩
    have hT1 := typed1_any (b0 := w.heap.size) (b1 := w.heap.size + 1) (b2 := w4.heap.size) l HOK.out HZ.out hck o c ys (HROW.out.keep hst7) (HEX.out.keep hst7) hr07 hr17 hr27 (by omega) ⟨by omega, by omega⟩ hnx
    have hgt : (4 : Nat) < w.heap.size := cell_blk HET.out
    have het7 := cell_keep hb07 HET.out
    have HCT : Hid (Calls Tryd.prog 53 #[.func (.func 54) #[] #[.pointer (some ⟨w.heap.size, 0, none⟩), .pointer (some ⟨w.heap.size + 1, 0, none⟩), .pointer (some ⟨w4.heap.size, 0, none⟩)]] w6 fun e w' => (∃ w1, (∃ ks qs ta tc F', tyL kd l = some (ks, qs) ∧ TyS (CkBlk M K B C) cb (w.heap.size + 1) kd w7 (fun k => k = cb) ks qs ta tc F' w1) ∧ e = .returned .nilIface ∧ w' = w1.setCell ⟨w6.heap.size, 0, none⟩ .nilIface) ∨ (∃ w1 o, (tyL kd l = none ∧ ∃ F' v, Mvd (fun k => k = cb ∨ k = w.heap.size + 1) F' w7 w1 ∧ w1.heap[w.heap.size + 1]? = some (.cells #[v] 22 (0, 0))) ∧ e = .returned (.iface et eq) ∧ w' = (w1.setCell ⟨w6.heap.size, 0, none⟩ (.iface et eq)).alloc o)) := tcaught1_any w6 _ _ _ et eq _ _ (by
      rw [← hw7]
      refine hT1.mono ?_
      rintro e w8 (⟨ks, qs, ta, tc, F', hty, rfl, hS⟩ | ⟨hty, hth, F', v, hm, hv⟩)
      · exact .inl ⟨rfl, ⟨ks, qs, ta, tc, F', hty, hS⟩, (hS.mv.rowKept hre7 (by rintro (h | h) <;> omega)).1⟩
      · exact .inr ⟨hth, ⟨hty, F', v, hm, hv⟩, (hm.rowKept hre7 (by rintro (h | h) <;> omega)).1, (hm.cell het7 (by rintro (h | h) <;> (have h' : (4 : Nat) = _ := h; omega))).1⟩)
    have HW5 : Hid (w4.alloc (.cells #[.pointer (some ⟨cb, 0, none⟩)] 110) = w5) := hw5.symm
    have HW6 : Hid (w5.setCell ⟨cb, 2, none⟩ (.map (some K)) = w6) := hw6.symm
    have HB07 : Hid (Below w.heap.size w w7) := hb07
    have HR27 : Hid (w7.heap[w4.heap.size]? = some (.cells #[.pointer (some ⟨cb, 0, none⟩)] 110 (0, 0))) := hr27
    have HRE7 : Hid (w7.heap[w6.heap.size]? = some (.cells #[.nilIface] 36 (0, 0))) := hre7
    have HSS : Hid (w.heap.size + 2 ≤ w3.heap.size ∧ w3.heap.size ≤ cb ∧ cb < w4.heap.size ∧ w5.heap.size = w4.heap.size + 1 ∧ w6.heap.size = w5.heap.size ∧ w6.heap.size < w7.heap.size) := ⟨hs3, hcl, hc4, hs5, hs6, (Array.getElem?_eq_some_iff.1 hre7).1⟩
    clear hcb hM hRw hb4 hcl hBl hne hs3 hw5 hb5 hr25 hcb5 hw6 hk6 hs6 hs5 hb34 hb36 hb06 hcb6 hw7 hb7 hre7 hb07 hr17 hr07 hr27 hcb7 hM7 hR5 hR6 hRk hKl hfix hck hnx hst7 hT1 hgt het7 d1 f1
    go_upto_region 4 with fail
    rw [HW5.out]
    go_wp2_with fail
    rw [HW6.out]
    refine HCT.out.mono ?_
    rintro e w' (⟨w8, ⟨ks, qs, ta, tc, F', hty, hS⟩, rfl, rfl⟩ | ⟨w8, o8, ⟨hty, F', v8, hm, hv⟩, rfl, rfl⟩)
    · have hck := hS.ck
      obtain ⟨M', K', nK', B', C', nv', uv', po, pc, h1, h2, h3, h4, h5, h6⟩ := hck
      have hr2 := (hS.mv.rowKept HR27.out (by have := HSS.out; rintro (h | h) <;> omega)).1
      have hre := (hS.mv.rowKept HRE7.out (by have := HSS.out; rintro (h | h) <;> omega)).1
      have hB8 : Below w.heap.size w w8 := hS.mv.below HB07.out HB07.out.size (fun k hk => by have := HSS.out; rcases hk with h | h <;> omega)
      have hq1 := hS.cell
      have hrow := hS.row
      have hsE : ∀ q, q ≠ w6.heap.size → (w8.setCell ⟨w6.heap.size, 0, none⟩ .nilIface).heap[q]? = w8.heap[q]? := fun q hq => Below.heap_setCell w8 ⟨w6.heap.size, 0, none⟩ _ q hq
      have hlk := tyL_len hty
      have hlq := tyL_size kd l ks qs HOK.out hty
      have hll := szL_ss l
      have hz := HZ.out
      have n1 := owns_ne hrow hre (by decide)
      have n2 := owns_ne h3 hre (by decide)
      have hrow9 := owns_keep (w' := w8.setCell ⟨w6.heap.size, 0, none⟩ .nilIface) hrow (fun q hq => hsE q (fun e => n1 (by rw [← e]; exact hq)))
      have hpar9 := owns_keep (w' := w8.setCell ⟨w6.heap.size, 0, none⟩ .nilIface) h3 (fun q hq => hsE q (fun e => n2 (by rw [← e]; exact hq)))
      obtain ⟨w9, hw9⟩ : ∃ w9, w9 = w8.setCell ⟨w6.heap.size, 0, none⟩ .nilIface := ⟨_, rfl⟩
      rw [← hw9] at hsE hrow9 hpar9 ⊢
      have hB9 : Below w.heap.size w w9 := by rw [hw9]; exact hB8.setCell (by show w.heap.size ≤ w6.heap.size; have := HSS.out; omega) _
      have q1 : w9.heap[w.heap.size + 1]? = some (.cells #[.slice ta ks.length tc] 22 (0, 0)) := (hsE _ (by have := HSS.out; omega)).trans hq1
      have q2 : w9.heap[w4.heap.size]? = some (.cells #[.pointer (some ⟨cb, 0, none⟩)] 110 (0, 0)) := (hsE _ (by have := HSS.out; omega)).trans hr2
      have qc : w9.heap[cb]? = some (.cells #[.map (some M'), nv', .map (some K'), uv', .slice po qs.length pc] 114 (0, 0)) := (hsE _ (by have := HSS.out; omega)).trans h1
      have y1 : w9.cell? ⟨w.heap.size + 1, 0, none⟩ = some (.slice ta ks.length tc) := by rw [cell_of_row w9 _ _ _ _ (0, 0) q1]; rfl
      have f1 : w9.frozen? ⟨w.heap.size + 1, 0, none⟩ = false := frozen_row q1
      have y2 : w9.cell? ⟨w4.heap.size, 0, none⟩ = some (.pointer (some ⟨cb, 0, none⟩)) := by rw [cell_of_row w9 _ _ _ _ (0, 0) q2]; rfl
      have y3 : w9.cell? ⟨cb, 0 + 4, none⟩ = some (.slice po qs.length pc) := by rw [cell_of_row w9 _ _ _ _ (0, 0) qc]; rfl
      have hsX : ∀ q, q ≠ w.heap.size + 1 → (w9.setCell ⟨w.heap.size + 1, 0, none⟩ (.slice ta ks.length tc)).heap[q]? = w9.heap[q]? := fun q hq => Below.heap_setCell w9 ⟨w.heap.size + 1, 0, none⟩ _ q hq
      have y2' : (w9.setCell ⟨w.heap.size + 1, 0, none⟩ (.slice ta ks.length tc)).cell? ⟨w4.heap.size, 0, none⟩ = some (.pointer (some ⟨cb, 0, none⟩)) := by have hx := hsX w4.heap.size (by have := HSS.out; omega); rw [World.cell?_of_block (w := w9) hx]; exact y2
      have y3' : (w9.setCell ⟨w.heap.size + 1, 0, none⟩ (.slice ta ks.length tc)).cell? ⟨cb, 0 + 4, none⟩ = some (.slice po qs.length pc) := by have hx := hsX cb (by have := HSS.out; omega); rw [World.cell?_of_block (w := w9) hx]; exact y3
      have n3 := owns_ne hrow9 q1 (by decide)
      have n4 := owns_ne hpar9 q1 (by decide)
      have hrow10 := owns_keep (w' := w9.setCell ⟨w.heap.size + 1, 0, none⟩ (.slice ta ks.length tc)) hrow9 (fun q hq => hsX q (fun e => n3 (by rw [← e]; exact hq)))
      have hpar10 := owns_keep (w' := w9.setCell ⟨w.heap.size + 1, 0, none⟩ (.slice ta ks.length tc)) hpar9 (fun q hq => hsX q (fun e => n4 (by rw [← e]; exact hq)))
      have HI1 : Hid (IntsAt (w9.setCell ⟨w.heap.size + 1, 0, none⟩ (.slice ta ks.length tc)) (.slice ta ks.length tc) ks ∧ IntsAt (w9.setCell ⟨w.heap.size + 1, 0, none⟩ (.slice ta ks.length tc)) (.slice po qs.length pc) qs) := ⟨ints_owned hrow10 rfl (by unfold maxLen; omega), ints_owned hpar10 rfl (by unfold maxLen; omega)⟩
      have HB9 : Hid (Below w.heap.size w (w9.setCell ⟨w.heap.size + 1, 0, none⟩ (.slice ta ks.length tc))) := hB9.setCell (by show w.heap.size ≤ w.heap.size + 1; omega) _
      have HTY : Hid (tyL kd l = some (ks, qs)) := hty
      have HQ1 : Hid ((w9.setCell ⟨w.heap.size + 1, 0, none⟩ (.slice ta ks.length tc)).heap[w.heap.size + 1]? = some (.cells #[.slice ta ks.length tc] 22 (0, 0))) := heap_setCell_at (i := 0) q1 _
      clear hS h1 h2 h3 h4 h5 h6 hr2 hre hB8 hq1 hrow hsE hlk hlq hll hz n1 n2 hrow9 hpar9 hw9 hB9 q1 q2 qc hsX n3 n4 hrow10 hpar10 hty
      go_wp2
      go_region
      all_goals
        obtain ⟨we, hwe⟩ : ∃ we, we = (w9.setCell ⟨w.heap.size + 1, 0, none⟩ (.slice ta ks.length tc)).drew := ⟨_, rfl⟩
        have hre : we.heap[w.heap.size + 1]? = some (.cells #[.slice ta ks.length tc] 22 (0, 0)) := by rw [hwe]; exact HQ1.out
        have HEND : Hid (TypedP kd l et bt eq bq w (.returned (.tuple #[.slice ta ks.length tc, .slice po qs.length pc, .nilIface])) we) := by rw [hwe]; exact ⟨HB9.out.drew, .inr (.inr ⟨HZ.out, ks, qs, ta, tc, po, pc, HTY.out, rfl, HI1.out.1, HI1.out.2⟩)⟩
        rw [← hwe]
        have z1 : we.cell? ⟨w.heap.size + 1, 0, none⟩ = some (.slice ta ks.length tc) := by rw [cell_of_row we _ _ _ _ (0, 0) hre]; rfl
        clear hwe hre y1 f1 y2 y3 y2' y3'
        go_wp2
        exact bodyPost_ret (v := .tuple #[.slice ta ks.length tc, .slice po qs.length pc, .nilIface]) (by simp [results, Tryd.results44, go_sem, z1]) rfl HEND.out
    · have hB8 : Below w.heap.size w w8 := hm.below HB07.out HB07.out.size (fun k hk => by have := HSS.out; rcases hk with h | h <;> omega)
      have hsE : ∀ q, q ≠ w6.heap.size → (w8.setCell ⟨w6.heap.size, 0, none⟩ (.iface et eq)).heap[q]? = w8.heap[q]? := fun q hq => Below.heap_setCell w8 ⟨w6.heap.size, 0, none⟩ _ q hq
      have hB9 : Below w.heap.size w (w8.setCell ⟨w6.heap.size, 0, none⟩ (.iface et eq)) := hB8.setCell (by show w.heap.size ≤ w6.heap.size; have := HSS.out; omega) _
      have hz8 := hB9.size
      have hq1 : (w8.setCell ⟨w6.heap.size, 0, none⟩ (.iface et eq)).heap[w.heap.size + 1]? = some (.cells #[v8] 22 (0, 0)) := (hsE _ (by have := HSS.out; omega)).trans hv
      have hl1 := (Array.getElem?_eq_some_iff.1 hq1).1
      obtain ⟨w9, hw9⟩ : ∃ w9, w9 = (w8.setCell ⟨w6.heap.size, 0, none⟩ (.iface et eq)).alloc o8 := ⟨_, rfl⟩
      have q1 : w9.heap[w.heap.size + 1]? = some (.cells #[v8] 22 (0, 0)) := by rw [hw9, Below.heap_alloc _ o8 _ hl1]; exact hq1
      have HB9 : Hid (Below w.heap.size w w9) := by rw [hw9]; exact hB9.alloc hz8 _
      rw [← hw9]
      have y1 : w9.cell? ⟨w.heap.size + 1, 0, none⟩ = some v8 := by rw [cell_of_row w9 _ _ _ _ (0, 0) q1]; rfl
      have f1 : w9.frozen? ⟨w.heap.size + 1, 0, none⟩ = false := frozen_row q1
      have HQ1 : Hid ((w9.setCell ⟨w.heap.size + 1, 0, none⟩ (.slice none 0 0)).heap[w.heap.size + 1]? = some (.cells #[.slice none 0 0] 22 (0, 0))) := heap_setCell_at (i := 0) q1 _
      have HTY : Hid (tyL kd l = none) := hty
      clear hB8 hsE hB9 hz8 hq1 hl1 hw9 q1 hty hm hv
      go_wp2
      have hbe : Below w.heap.size w (w9.setCell ⟨w.heap.size + 1, 0, none⟩ (.slice none 0 0)) := HB9.out.setCell (by show w.heap.size ≤ w.heap.size + 1; omega) _
      obtain ⟨we, hwe⟩ : ∃ we, we = w9.setCell ⟨w.heap.size + 1, 0, none⟩ (.slice none 0 0) := ⟨_, rfl⟩
      have hre : we.heap[w.heap.size + 1]? = some (.cells #[.slice none 0 0] 22 (0, 0)) := by rw [hwe]; exact HQ1.out
      rw [← hwe] at hbe ⊢
      have z1 : we.cell? ⟨w.heap.size + 1, 0, none⟩ = some (.slice none 0 0) := by rw [cell_of_row we _ _ _ _ (0, 0) hre]; rfl
      exact bodyPost_ret (v := .tuple #[.slice none 0 0, .slice none 0 0, .iface et eq]) (by simp [results, Tryd.results44, go_sem, z1]) rfl ⟨hbe, .inr (.inl ⟨HZ.out, HTY.out, rfl⟩)⟩
/-- What Terms tells. -/
def TermsP (kd : List UInt8 → Option Int) (l : List Ex) (et bt : TypeId) (eq bq : Value) (w : World) (e : Ending) (w' : World) : Prop :=
  Below w.heap.size w w' ∧ ((4000 < szL l ∧ e = .returned (.tuple #[.slice none 0 0, .iface bt bq])) ∨ (szL l ≤ 4000 ∧ tyL kd l = none ∧ e = .returned (.tuple #[.slice none 0 0, .iface et eq])) ∨ (szL l ≤ 4000 ∧ ∃ ks qs ta tc, tyL kd l = some (ks, qs) ∧ e = .returned (.tuple #[.slice ta ks.length tc, .nilIface]) ∧ IntsAt w' (.slice ta ks.length tc) ks))
def PartsP (kd : List UInt8 → Option Int) (l : List Ex) (et bt : TypeId) (eq bq : Value) (w : World) (e : Ending) (w' : World) : Prop :=
  Below w.heap.size w w' ∧ ((4000 < szL l ∧ e = .returned (.tuple #[.slice none 0 0, .iface bt bq])) ∨ (szL l ≤ 4000 ∧ tyL kd l = none ∧ e = .returned (.tuple #[.slice none 0 0, .iface et eq])) ∨ (szL l ≤ 4000 ∧ ∃ ks qs ta tc, tyL kd l = some (ks, qs) ∧ e = .returned (.tuple #[.slice ta qs.length tc, .nilIface]) ∧ IntsAt w' (.slice ta qs.length tc) qs))
set_option maxRecDepth 100000 in
theorem terms_any (kd : List UInt8 → Option Int) (l : List Ex) (w : World) (K nK : Nat) (hK : FnAt w K nK (kindF kd)) (hok : okL kd l) (S : Nat → Prop) (o : Option Addr) (c : Nat) (ys : List Value) (hrow : RowAt w S 4 (.slice o l.length c) l.length ys) (hex : ExIn w S l ys) (et bt : TypeId) (eq bq : Value) (he : w.cell? ⟨4, 0, none⟩ = some (.iface et eq)) (hbd : w.cell? ⟨3, 0, none⟩ = some (.iface bt bq)) :
    Calls Tryd.prog 27 #[.map (some K), .slice o l.length c] w (TermsP kd l et bt eq bq w) := by
  have HC : Hid (Calls Tryd.prog 44 #[.map (some K), .slice o l.length c] w (TypedP kd l et bt eq bq w)) := typed_any kd l w K nK hK hok S o c ys hrow hex et bt eq bq he hbd
  clear hK hok hrow hex he hbd
  go_enter Tryd.func27, Tryd.ntmps27
  go_wp2_with fail
  refine HC.out.mono ?_
  rintro e w1 ⟨hb, ⟨hz, rfl⟩ | ⟨hz, hty, rfl⟩ | ⟨hz, ks, qs, ta, tc, pa, pc, hty, rfl, hi, hj⟩⟩
  · have HEND : Hid (TermsP kd l et bt eq bq w (.returned (.tuple #[.slice none 0 0, .iface bt bq])) w1) := ⟨hb, .inl ⟨hz, rfl⟩⟩
    clear hb hz
    go_wp2
    go_ret2
    exact HEND.out
  · have HEND : Hid (TermsP kd l et bt eq bq w (.returned (.tuple #[.slice none 0 0, .iface et eq])) w1) := ⟨hb, .inr (.inl ⟨hz, hty, rfl⟩)⟩
    clear hb hz hty
    go_wp2
    go_ret2
    exact HEND.out
  · have HEND : Hid (TermsP kd l et bt eq bq w (.returned (.tuple #[.slice ta ks.length tc, .nilIface])) w1) := ⟨hb, .inr (.inr ⟨hz, ks, qs, ta, tc, hty, rfl, hi⟩)⟩
    clear hb hz hty hi hj
    go_wp2
    go_ret2
    exact HEND.out
end Go.Proofs.YtpkgingjmgakbaaDoor
