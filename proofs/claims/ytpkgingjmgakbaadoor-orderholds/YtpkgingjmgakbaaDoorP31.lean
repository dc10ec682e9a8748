/-
  package order: what needsOf has found so far; its inner function BY CONTRACT.
-/
import Derived.Test.YtpkgingjmgakbaaDoorP30
namespace Go.Proofs.YtpkgingjmgakbaaDoor
open Go.RowKit Go.Maps

/-- Numbers of flows by names (in a map, behind p3), needs so far (behind p6), the flow whose needs are asked for (in p7). -/
structure NeS (w0 : World) (p3 p6 p7 K nK nb : Nat) (num : List UInt8 → Option Int) (i : Nat) (ls : List (List Int)) (wr : World) : Prop where
  c3 : wr.heap[p3]? = some (.cells #[.map (some K)] 54 (0, 0))
  c6 : wr.heap[p6]? = some (.cells #[.slice (some ⟨nb, 0, none⟩) ls.length ls.length] 45 (0, 0))
  c7 : wr.heap[p7]? = some (.cells #[.int .i64 i] 3 (0, 0))
  fn : FnAt wr K nK (kindF num)
  rows : RwsAt wr w0.heap.size nb (fun k => k = p3 ∨ k = p6 ∨ k = p7 ∨ k = K) ls
  ne : p3 ≠ nb ∧ p6 ≠ nb ∧ p7 ≠ nb ∧ K ≠ nb
  below : Below w0.heap.size w0 wr
theorem NeS.keep {w0 wr w' : World} {p3 p6 p7 K nK nb i : Nat} {num : List UInt8 → Option Int} {ls : List (List Int)} (h : NeS w0 p3 p6 p7 K nK nb num i ls wr) (hb : Below wr.heap.size wr w') : NeS w0 p3 p6 p7 K nK nb num i ls w' :=
  ⟨row_keep hb h.c3, row_keep hb h.c6, row_keep hb h.c7, h.fn.kept (hb.block _ h.fn.lt), h.rows.below hb, h.ne, h.below.trans (hb.mono h.below.size)⟩
theorem NeS.grown {w0 wr w' : World} {p3 p6 p7 K nK nb i : Nat} {num : List UInt8 → Option Int} {ls : List (List Int)} (h : NeS w0 p3 p6 p7 K nK nb num i ls wr) {l l' : List Int} (hl : ls[i]? = some l) {o : Option Addr} {c g cap : Nat} (hc : wr.cell? ⟨nb, i, none⟩ = some (.slice o l.length c)) (hw : wr.ownsRow w0.heap.size 3 1 (.slice o l.length c) l.length (l.map (Value.int .i64)) ∧ ∀ k, (Value.slice o l.length c).ownBlock = some k → k ≠ nb ∧ ¬ (k = p3 ∨ k = p6 ∨ k = p7 ∨ k = K)) (hg : wr.grownBy w' (Value.slice o l.length c).ownBlock) (ha : (Value.slice o l.length c).ownBlock = some g ∨ g = wr.heap.size) (ho : w'.ownsRow w0.heap.size 3 1 (.slice (some ⟨g, 0, none⟩) l'.length cap) l'.length (l'.map (Value.int .i64))) : NeS w0 p3 p6 p7 K nK nb num i (ls.set i l') (w'.setCell ⟨nb, i, none⟩ (.slice (some ⟨g, 0, none⟩) l'.length cap)) := by
  have hset : ∀ q, q ≠ nb → (w'.setCell ⟨nb, i, none⟩ (.slice (some ⟨g, 0, none⟩) l'.length cap)).heap[q]? = w'.heap[q]? := fun q hq => Below.heap_setCell w' ⟨nb, i, none⟩ _ q hq
  have hk : ∀ q, q < wr.heap.size → (q = p3 ∨ q = p6 ∨ q = p7 ∨ q = K) → q ≠ nb → (w'.setCell ⟨nb, i, none⟩ (.slice (some ⟨g, 0, none⟩) l'.length cap)).heap[q]? = wr.heap[q]? := fun q hq hF hn => (hset q hn).trans (hg.block q hq (fun e => (hw.2 q e.symm).2 hF))
  have hlt : ∀ {k : Nat} {o : Obj}, wr.heap[k]? = some o → k < wr.heap.size := fun h => (Array.getElem?_eq_some_iff.1 h).1
  refine ⟨(hk p3 (hlt h.c3) (.inl rfl) h.ne.1).trans h.c3, ?_, (hk p7 (hlt h.c7) (.inr (.inr (.inl rfl))) h.ne.2.2.1).trans h.c7, h.fn.kept (hk K h.fn.lt (.inr (.inr (.inr rfl))) h.ne.2.2.2), h.rows.grown hl hc hg ha ho, h.ne, ?_⟩
  · rw [List.length_set]
    exact (hk p6 (hlt h.c6) (.inr (.inl rfl)) h.ne.2.1).trans h.c6
  · have h1 : Below w0.heap.size w0 w' := h.below.grown hg h.below.size (fun k hk => (hw.1.lt k hk).1)
    obtain ⟨vs, _, _, h3, _⟩ := h.rows
    exact ⟨h1.os, h1.tape, h1.output, by rw [size_setCell]; exact h1.size, fun k hk => (hset k (by omega)).trans (h1.block k hk)⟩
theorem set_self {α : Type} {l : List α} {i : Nat} {x : α} (h : l[i]? = some x) : l.set i x = l := by
  apply List.ext_getElem?
  intro j
  by_cases e : i = j
  · subst e
    rw [List.getElem?_set_self (List.getElem?_eq_some_iff.1 h).1, h]
  · rw [List.getElem?_set_ne e]
set_option maxRecDepth 100000 in
set_option maxHeartbeats 2000000 in
theorem see_any {w0 w : World} {p3 p6 p7 K nK nb i : Nat} {num : List UInt8 → Option Int} {ls : List (List Int)} (h : NeS w0 p3 p6 p7 K nK nb num i ls w) {l : List Int} (hl : ls[i]? = some l) (s : ByteArray) (hs : s.size ≤ maxLen) (hb : l.length + 1 ≤ 1000000) :
    Calls Tryd.prog 30 #[.string s, .pointer (some ⟨p3, 0, none⟩), .pointer (some ⟨p6, 0, none⟩), .pointer (some ⟨p7, 0, none⟩)] w fun e w' => e = .returned (.tuple #[]) ∧ NeS w0 p3 p6 p7 K nK nb num i (ls.set i (l ++ (num s.data.toList).toList)) w' := by
  obtain ⟨i0, hi0, hz0, hz1, hz2⟩ := info_parts Tryd.infoInt
  have c3 : w.cell? ⟨p3, 0, none⟩ = some (.map (some K)) := by rw [cell_of_row w _ _ _ _ (0, 0) h.c3]; rfl
  have hlk := h.fn.look Tryd.underlying54 (zero_int w) s hs
  have e1 : (kindF num s.data.toList).getD (.int .i64 0) = .int .i64 ((num s.data.toList).getD 0) := zero_getD _
  have e2 : (kindF num s.data.toList).isSome = (num s.data.toList).isSome := by unfold kindF; cases num s.data.toList <;> rfl
  rw [e1, e2] at hlk
  cases hn : num s.data.toList with
  | none =>
    rw [hn] at hlk
    have hlk' : (Instr.lookup 54 (.map (some K)) (.string s) true).run Tryd.prog w = .ok (.tuple #[.int .i64 0, .bool false]) w := hlk
    have HE : Hid (NeS w0 p3 p6 p7 K nK nb num i (ls.set i (l ++ (none : Option Int).toList)) w) := by
      unfold Hid
      rw [Option.toList_none, List.append_nil, set_self hl]
      exact h
    clear h hl hs hb e1 e2 hn hlk
    go_enter Tryd.func30, Tryd.ntmps30
    go_wp2
    go_end0
    exact ⟨rfl, HE.out⟩
  | some x =>
    rw [hn] at hlk
    have hlk' : (Instr.lookup 54 (.map (some K)) (.string s) true).run Tryd.prog w = .ok (.tuple #[.int .i64 x, .bool true]) w := hlk
    obtain ⟨o, c, hc, hfz, how, hob⟩ := h.rows.at hl
    have hil := (List.getElem?_eq_some_iff.1 hl).1
    have HH : Hid (NeS w0 p3 p6 p7 K nK nb num i ls w) := h
    have c6 : w.drew.cell? ⟨p6, 0, none⟩ = some (.slice (some ⟨nb, 0, none⟩) ls.length ls.length) := by rw [cell_of_row w.drew _ _ _ _ (0, 0) (show w.drew.heap[p6]? = _ from h.c6)]; rfl
    have c7 : w.drew.cell? ⟨p7, 0, none⟩ = some (.int .i64 i) := by rw [cell_of_row w.drew _ _ _ _ (0, 0) (show w.drew.heap[p7]? = _ from h.c7)]; rfl
    have cn : w.drew.cell? ⟨nb, i, none⟩ = some (.slice o l.length c) := hc
    have i0' : (0 : Int) ≤ (i : Int) := by omega
    have i1' : (i : Int) < (ls.length : Int) := by omega
    clear hlk e1 e2
    go_enter Tryd.func30, Tryd.ntmps30
    go_wp2
    refine wp_region_till 10 (fun w' => w'.cell? ⟨p6, 0, none⟩ = some (.slice (some ⟨nb, 0, none⟩) ls.length ls.length) ∧ w'.cell? ⟨p7, 0, none⟩ = some (.int .i64 i)) (fun w' => w'.cell? ⟨nb, i, none⟩ = some (.slice o l.length c)) (by kernel_rfl) ⟨c6, c7⟩ cn (fun hHeld => ?_)
    refine wpTill_take (i := 0) (oi := ⟨some 14, _, _, _, _, _⟩) (v := .slice (some ⟨nb, 0, none⟩) ls.length ls.length) rfl rfl (by kernel_rfl) (by kernel_rfl) (by kernel_rfl) (fun _ _ _ h => h) (Or.inl ⟨by rfl, ?_⟩) hHeld ?_
    · intro w hSw; (try dsimp only at hSw); obtain ⟨a1, a2⟩ := hSw; go_simp
    try simp only [Act.put, List.setIfInBounds_toArray, List.set_cons_zero, List.set_cons_succ]
    refine wpTill_take (i := 1) (oi := ⟨some 15, _, _, _, _, _⟩) (v := .int .i64 i) rfl rfl (by kernel_rfl) (by kernel_rfl) (by kernel_rfl) (fun _ _ _ h => h) (Or.inl ⟨by rfl, ?_⟩) hHeld ?_
    · intro w hSw; (try dsimp only at hSw); obtain ⟨a1, a2⟩ := hSw; go_simp
    try simp only [Act.put, List.setIfInBounds_toArray, List.set_cons_zero, List.set_cons_succ]
    refine wpTill_take (i := 2) (oi := ⟨some 16, _, _, _, _, _⟩) (v := .slice (some ⟨nb, 0, none⟩) ls.length ls.length) rfl rfl (by kernel_rfl) (by kernel_rfl) (by kernel_rfl) (fun _ _ _ h => h) (Or.inl ⟨by rfl, ?_⟩) hHeld ?_
    · intro w hSw; (try dsimp only at hSw); obtain ⟨a1, a2⟩ := hSw; go_simp
    try simp only [Act.put, List.setIfInBounds_toArray, List.set_cons_zero, List.set_cons_succ]
    refine wpTill_take (i := 3) (oi := ⟨some 17, _, _, _, _, _⟩) (v := .int .i64 i) rfl rfl (by kernel_rfl) (by kernel_rfl) (by kernel_rfl) (fun _ _ _ h => h) (Or.inl ⟨by rfl, ?_⟩) hHeld ?_
    · intro w hSw; (try dsimp only at hSw); obtain ⟨a1, a2⟩ := hSw; go_simp
    try simp only [Act.put, List.setIfInBounds_toArray, List.set_cons_zero, List.set_cons_succ]
    refine wpTill_take (i := 4) (oi := ⟨some 18, _, _, _, _, _⟩) (v := .pointer (some ⟨nb, i, none⟩)) rfl rfl (by kernel_rfl) (by kernel_rfl) (by kernel_rfl) (fun _ _ _ h => h) (Or.inl ⟨by rfl, ?_⟩) hHeld ?_
    · intro w hSw; (try dsimp only at hSw); obtain ⟨a1, a2⟩ := hSw; go_simp
    try simp only [Act.put, List.setIfInBounds_toArray, List.set_cons_zero, List.set_cons_succ]
    refine wpTill_load 8 (i := 5) (oi := ⟨some 19, _, _, _, _, _⟩) (v := .slice o l.length c) rfl rfl (by kernel_rfl) (by kernel_rfl) (by kernel_rfl) (by kernel_rfl) (by kernel_rfl) (by kernel_rfl) (by kernel_rfl) (fun _ _ _ h => h) (Or.inl ⟨by rfl, ?_⟩) hHeld ?_
    · intro w hSw; (try dsimp only at hSw); go_simp
    try simp only [Act.put, List.setIfInBounds_toArray, List.set_cons_zero, List.set_cons_succ]
    refine wpTill_take (i := 6) (oi := ⟨some 20, _, _, _, _, _⟩) (v := .int .i64 x) rfl rfl (by kernel_rfl) (by kernel_rfl) (by kernel_rfl) (fun _ _ _ h => h) (Or.inl ⟨by rfl, ?_⟩) hHeld ?_
    · intro w hSw; (try dsimp only at hSw); obtain ⟨a1, a2⟩ := hSw; go_simp
    try simp only [Act.put, List.setIfInBounds_toArray, List.set_cons_zero, List.set_cons_succ]
    refine wpTill_ready (rs := [7]) (by kernel_rfl) (by simp) ?_
    refine AllTill.cons (o := ⟨some 21, _, _, _, _, _⟩) rfl (fun Q hQ => ?_) AllTill.nil
    go_simp
    have hba : Below w.heap.size w (w.alloc (.cells #[.int .i64 x] 3)).drew := ((Below.refl _ _).alloc (Nat.le_refl _) _).drew
    have H1 : NeS w0 p3 p6 p7 K nK nb num i ls (w.alloc (.cells #[.int .i64 x] 3)).drew := HH.out.keep hba
    have HS1 : ∀ {W : World}, NeS w0 p3 p6 p7 K nK nb num i ls W → W.cell? ⟨p6, 0, none⟩ = some (.slice (some ⟨nb, 0, none⟩) ls.length ls.length) ∧ W.cell? ⟨p7, 0, none⟩ = some (.int .i64 i) := fun {W} h => ⟨by rw [cell_of_row W _ _ _ _ (0, 0) h.c6]; rfl, by rw [cell_of_row W _ _ _ _ (0, 0) h.c7]; rfl⟩
    have hc1 := cell_keep hba hc
    refine hQ.out _ _ ⟨HS1 H1, fun _ => hc1⟩ (fun hHeld => ?_)
    clear hQ Q
    try simp only [Act.put, List.setIfInBounds_toArray, List.set_cons_zero, List.set_cons_succ]
    refine wpTill_ready (rs := [8]) (by kernel_rfl) (by simp) ?_
    refine AllTill.cons (o := ⟨some 22, _, _, _, _, _⟩) rfl (fun Q hQ => ?_) AllTill.nil
    refine step_append_lies _ rfl (.tmp 19) (.tmp 21) 22 rfl w0.heap.size 3 i0 _ 1 8 Tryd.underlying22 hi0 hz0 hz1 hz2 rfl (by omega) (.slice o l.length c) l.length _ (by simp [Act.eval]) (how.alloc (.cells #[.int .i64 x] 3)) ⟨w.heap.size, 0, none⟩ 1 1 [.int .i64 x] (by simp [Act.eval]) rfl (World.news_of_block (heap_alloc_new w (.cells #[.int .i64 x] 3))) (by simp [Value.oneCell']) (by omega) (by unfold maxLen; omega) (by omega) H1.below.size _ rfl ?_
    intro g cap w7 hown7 hgrow hat hlt7
    have hob1 := HH.out.rows.at hl
    have hnb7 : ∀ q, q < (w.alloc (.cells #[.int .i64 x] 3)).drew.heap.size → (q = p3 ∨ q = p6 ∨ q = p7 ∨ q = K ∨ q = nb) → w7.heap[q]? = (w.alloc (.cells #[.int .i64 x] 3)).drew.heap[q]? := fun q hq hF => hgrow.block q hq (fun e => by
      have := hob q e.symm
      rcases hF with h | h | h | h | h
      · exact this.2 (.inl h)
      · exact this.2 (.inr (.inl h))
      · exact this.2 (.inr (.inr (.inl h)))
      · exact this.2 (.inr (.inr (.inr h)))
      · exact this.1 h)
    have hlt1 : ∀ {k : Nat} {o : Obj}, (w.alloc (.cells #[.int .i64 x] 3)).drew.heap[k]? = some o → k < (w.alloc (.cells #[.int .i64 x] 3)).drew.heap.size := fun h => (Array.getElem?_eq_some_iff.1 h).1
    have e6 : w7.cell? ⟨p6, 0, none⟩ = some (.slice (some ⟨nb, 0, none⟩) ls.length ls.length) := by rw [cell_of_row w7 _ _ _ _ (0, 0) ((hnb7 p6 (hlt1 H1.c6) (.inr (.inl rfl))).trans H1.c6)]; rfl
    have e7 : w7.cell? ⟨p7, 0, none⟩ = some (.int .i64 i) := by rw [cell_of_row w7 _ _ _ _ (0, 0) ((hnb7 p7 (hlt1 H1.c7) (.inr (.inr (.inl rfl)))).trans H1.c7)]; rfl
    have hqn := hnb7 nb H1.rows.lt (.inr (.inr (.inr (.inr rfl))))
    have en : w7.cell? ⟨nb, i, none⟩ = some (.slice o l.length c) := (World.cell?_of_block (a := ⟨nb, i, none⟩) hqn).trans hc1
    have fz : w7.frozen? ⟨nb, i, none⟩ = false := (World.frozen?_of_block (a := ⟨nb, i, none⟩) hqn).trans (by obtain ⟨_, _, _, h, _⟩ := H1.rows.at hl; exact h)
    refine hQ.out _ _ ⟨⟨e6, e7⟩, fun _ => en⟩ (fun hHeld => ?_)
    clear hQ Q
    try simp only [Act.put, List.setIfInBounds_toArray, List.set_cons_zero, List.set_cons_succ]
    refine wpTill_take (i := 9) (oi := ⟨some 23, _, _, _, _, _⟩) (v := .pointer (some ⟨nb, i, none⟩)) rfl rfl (by kernel_rfl) (by kernel_rfl) (by kernel_rfl) (fun _ _ _ h => h) (Or.inl ⟨by rfl, ?_⟩) hHeld ?_
    · intro w hSw; (try dsimp only at hSw); obtain ⟨a1, a2⟩ := hSw; go_simp
    try simp only [Act.put, List.setIfInBounds_toArray, List.set_cons_zero, List.set_cons_succ]
    refine wpTill_ready (rs := [10]) (by kernel_rfl) (by simp) ?_
    refine AllTill.cons (o := ⟨none, _, _, _, _, _⟩) rfl (fun Q hQ => ?_) AllTill.nil
    go_simp
    have hks : ∀ q, q ≠ nb → (w7.setCell ⟨nb, i, none⟩ (.slice (some ⟨g, 0, none⟩) (l.length + 1) cap)).heap[q]? = w7.heap[q]? := fun q hq => Below.heap_setCell w7 ⟨nb, i, none⟩ _ q hq
    have hfin : NeS w0 p3 p6 p7 K nK nb num i (ls.set i (l ++ [x])) (w7.setCell ⟨nb, i, none⟩ (.slice (some ⟨g, 0, none⟩) (l.length + 1) cap)) := by
      have := H1.grown (l' := l ++ [x]) (g := g) (cap := cap) (w' := w7) hl hc1 ⟨how.alloc _, hob⟩ hgrow hat (by simpa using hown7)
      simpa using this
    refine hQ.out _ _ (Till.last ?_) (fun hHeld => ?_)
    · have h6 := hfin.c6
      have h7 := hfin.c7
      rw [List.length_set] at h6
      exact ⟨by rw [cell_of_row _ _ _ _ _ (0, 0) h6]; rfl, by rw [cell_of_row _ _ _ _ _ (0, 0) h7]; rfl⟩
    clear hQ Q
    try simp only [Act.put, List.setIfInBounds_toArray, List.set_cons_zero, List.set_cons_succ]
    refine wpTill_done (by kernel_rfl) ?_ _
    have HFIN : Hid (NeS w0 p3 p6 p7 K nK nb num i (ls.set i (l ++ [x])) (w7.setCell ⟨nb, i, none⟩ (.slice (some ⟨g, 0, none⟩) (l.length + 1) cap))) := hfin
    clear h hl hs hb hfin hks hnb7 hob1 hlt1 e6 e7 hqn en fz hown7 hgrow hat hlt7 hc1 H1 HS1 hba hc hfz how hob hHeld HH hil c6 c7 cn hlk' c3 hn
    go_wp2
    go_end0
    exact ⟨rfl, HFIN.out⟩
end Go.Proofs.YtpkgingjmgakbaaDoor
