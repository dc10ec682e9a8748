/-
  lustrumlaw3.WordShapes: its two lists in memory, from round to round.
-/
import Derived.Test.YtpiglmaojonbnaaDoorP49
import Derived.Test.YtpiglmaojonbnaaDoorP41
namespace Go.Proofs.YtpiglmaojonbnaaDoor
open Go.RowKit Go.Maps

theorem Tryd.infoVal : (Tryd.prog.info? 33).map (fun i => (i.zero, i.size, i.bytes)) = some (some (.agg #[.int .i64 0, .int .i64 0]), 2, 16) := by kernel_rfl
theorem Tryd.infoLitR : (Tryd.prog.info? 31).map (fun i => (i.zero, i.size, i.bytes)) = some (some (.slice none 0 0), 1, 24) := by kernel_rfl
/-- Blocks that may turn: the graph's, and those of two lists. -/
def OwnG (G : Nat) (p q : Value) : Nat → Prop := fun k => k = G ∨ p.ownBlock = some k ∨ q.ownBlock = some k
/-- Two rows of unlike types lie apart. -/
theorem owns_apart {w : World} {base base' s s' n n' : Nat} {e e' : TypeId} {v v' : Value} {xs xs' : List Value} (h : w.ownsRow base e s v n xs) (h' : w.ownsRow base' e' s' v' n' xs') (he : e ≠ e') {k : Nat} (hk : v.ownBlock = some k) : v'.ownBlock ≠ some k := fun hk' => by
  obtain ⟨_, h2⟩ := h
  obtain ⟨_, h2'⟩ := h'
  rcases h2 with ⟨rfl, _⟩ | ⟨g, cap, cur, rfl, _, hg, _⟩
  · simp [Value.ownBlock] at hk
  · rcases h2' with ⟨rfl, _⟩ | ⟨g', cap', cur', rfl, _, hg', _⟩
    · simp [Value.ownBlock] at hk'
    · simp [Value.ownBlock] at hk hk'
      subst hk; subst hk'
      rw [hg] at hg'
      simp only [Option.some.injEq, Obj.cells.injEq] at hg'
      exact he hg'.2.1
/-- The words so far, and the values that stand for them. -/
structure Shp (w : World) (G B : Nat) (ws : List (List Int)) (p q : Value) (vs : List Value) (ks : List (Int × Int)) (wr : World) : Prop where
  pr : wr.ownsRow B 31 1 p ws.length vs
  qr : wr.ownsRow B 33 2 q ks.length (pcells ks)
  len : vs.length = ws.length
  wd : ∀ (k : Nat) (l : List Int), ws[k]? = some l → ∃ o c, vs[k]? = some (Value.slice o l.length c) ∧ LitsAt (OwnG G p q) wr (.slice o l.length c) l
  gr : GrAt G [] 0 (fun k => k = G) wr
  bel : Below w.heap.size w wr
  lo : w.heap.size ≤ G ∧ G < B ∧ B ≤ wr.heap.size
theorem Shp.part {w : World} {G B : Nat} {ws : List (List Int)} {p q : Value} {vs : List Value} {ks : List (Int × Int)} {wr w2 w4 : World} {o : Obj} {V m g cap : Nat} {t : TypeId} (h : Shp w G B ws p q vs ks wr) (hb2 : Below wr.heap.size wr w2) (hV : w2.heap[V]? = some (.cells (rowI (List.replicate m 0)) t (0, 0))) (hVn : wr.heap.size ≤ V) (hm : m ≤ 1000)
    (hg : (w2.alloc o).grownBy w4 p.ownBlock) (hat : p.ownBlock = some g ∨ g = (w2.alloc o).heap.size) (hlt : g < w4.heap.size) (hown : w4.ownsRow B 31 1 (.slice (some ⟨g, 0, none⟩) (ws.length + 1) cap) (ws.length + 1) (vs ++ [.slice (some ⟨V, 0, none⟩) m m])) :
    Shp w G B (ws ++ [List.replicate m 0]) (.slice (some ⟨g, 0, none⟩) (ws.length + 1) cap) q (vs ++ [.slice (some ⟨V, 0, none⟩) m m]) ks w4 := by
  have hVl : V < w2.heap.size := (Array.getElem?_eq_some_iff.1 hV).1
  have hpl : ∀ k, p.ownBlock = some k → B ≤ k ∧ k < wr.heap.size := fun k hk => h.pr.lt k hk
  have hql : ∀ k, q.ownBlock = some k → B ≤ k ∧ k < wr.heap.size := fun k hk => h.qr.lt k hk
  have hb3 : Below w2.heap.size w2 (w2.alloc o) := (Below.refl _ _).alloc (Nat.le_refl _) _
  have hb23 : Below wr.heap.size wr (w2.alloc o) := hb2.trans (hb3.mono hb2.size)
  have hsz : (w2.alloc o).heap.size = w2.heap.size + 1 := by simp
  have hkeep : ∀ k, k < wr.heap.size → p.ownBlock ≠ some k → w4.heap[k]? = wr.heap[k]? := fun k hk hn => by
    rw [hg.block k (Nat.lt_of_lt_of_le hk hb23.size) (fun e => hn e.symm)]; exact hb23.block k hk
  have hM : Mvd (OwnG G p q) (OwnG G (.slice (some ⟨g, 0, none⟩) (ws.length + 1) cap) q) wr w4 :=
    ⟨hg.os.trans hb23.os, hg.tape.trans hb23.tape, hg.output.trans hb23.output, Nat.le_trans hb23.size hg.size, fun k hk hn => hkeep k hk (fun e => hn (.inr (.inl e))), fun k hk => by
      rcases hk with hk | hk | hk
      · exact .inl (.inl hk)
      · have : g = k := by simpa [Value.ownBlock] using hk
        subst this
        rcases hat with h1 | h1
        · exact .inl (.inr (.inl h1))
        · exact .inr ⟨by have := hb2.size; omega, hlt⟩
      · exact .inl (.inr (.inr hk))⟩
  have hlo := h.lo
  refine ⟨by rw [List.length_append]; exact hown, owns_keep h.qr (fun k hk => hkeep k (hql k hk).2 (fun e => owns_apart h.pr h.qr (by decide) e hk)), by simp [h.len], fun k l hk => ?_, ?_, ?_, ⟨hlo.1, hlo.2.1, by have := hM.size; omega⟩⟩
  · rcases Nat.lt_or_ge k ws.length with hkl | hkl
    · rw [List.getElem?_append_left hkl] at hk
      obtain ⟨o1, c1, h1, h2⟩ := h.wd k l hk
      exact ⟨o1, c1, by rw [List.getElem?_append_left (by rw [h.len]; exact hkl)]; exact h1, h2.move hM⟩
    · have hk' : k = ws.length := by
        have := (List.getElem?_eq_some_iff.1 hk).1
        simp at this; omega
      subst hk'
      rw [List.getElem?_append_right (Nat.le_refl _), Nat.sub_self] at hk
      obtain rfl : List.replicate m 0 = l := by simpa using hk
      have hV4 : w4.heap[V]? = some (.cells (rowI (List.replicate m 0)) t (0, 0)) := by
        rw [hg.block V (by omega) (fun e => by have := (hpl V e.symm).2; omega), hb3.block V hVl]; exact hV
      have hVf : ¬ OwnG G (.slice (some ⟨g, 0, none⟩) (ws.length + 1) cap) q V := fun hf => by
        rcases hf with hf | hf | hf
        · omega
        · have : g = V := by simpa [Value.ownBlock] using hf
          rcases hat with h1 | h1
          · have := (hpl g h1).2; omega
          · omega
        · have := (hql V hf).2; omega
      have e : (List.replicate m (0 : Int)).length = m := List.length_replicate
      refine ⟨some ⟨V, 0, none⟩, m, ?_, lits_row hV4 hVf (by rw [e]; exact hm)⟩
      rw [← h.len, List.getElem?_append_right (Nat.le_refl _), Nat.sub_self, e]; rfl
  · refine h.gr.keep (fun k hk => ?_) (fun _ hk => hk) (fun k hk => ?_)
    · have hk' : k = G := hk
      subst hk'
      exact hkeep k (by omega) (fun e => by have := (hpl k e).1; omega)
    · have hk' : k = G := hk
      have := hM.size; omega
  · exact hM.below h.bel h.bel.size (fun k hk => by
      rcases hk with hk | hk | hk
      · omega
      · have := (hpl k hk).1; omega
      · have := (hql k hk).1; omega)
theorem Shp.kind {w : World} {G B : Nat} {ws : List (List Int)} {p q : Value} {vs : List Value} {ks : List (Int × Int)} {wr w4 : World} {o : Obj} {g cap : Nat} {x : Int × Int} (h : Shp w G B ws p q vs ks wr)
    (hg : (wr.alloc o).grownBy w4 q.ownBlock) (hat : q.ownBlock = some g ∨ g = (wr.alloc o).heap.size) (hlt : g < w4.heap.size) (hown : w4.ownsRow B 33 2 (.slice (some ⟨g, 0, none⟩) (ks.length + 1) cap) (ks.length + 1) (pcells ks ++ [.int .i64 x.1, .int .i64 x.2])) :
    Shp w G B ws p (.slice (some ⟨g, 0, none⟩) (ks.length + 1) cap) vs (ks ++ [x]) w4 := by
  have hpl : ∀ k, p.ownBlock = some k → B ≤ k ∧ k < wr.heap.size := fun k hk => h.pr.lt k hk
  have hql : ∀ k, q.ownBlock = some k → B ≤ k ∧ k < wr.heap.size := fun k hk => h.qr.lt k hk
  have hb23 : Below wr.heap.size wr (wr.alloc o) := (Below.refl _ _).alloc (Nat.le_refl _) _
  have hsz : (wr.alloc o).heap.size = wr.heap.size + 1 := by simp
  have hkeep : ∀ k, k < wr.heap.size → q.ownBlock ≠ some k → w4.heap[k]? = wr.heap[k]? := fun k hk hn => by
    rw [hg.block k (Nat.lt_of_lt_of_le hk hb23.size) (fun e => hn e.symm)]; exact hb23.block k hk
  have hM : Mvd (OwnG G p q) (OwnG G p (.slice (some ⟨g, 0, none⟩) (ks.length + 1) cap)) wr w4 :=
    ⟨hg.os.trans hb23.os, hg.tape.trans hb23.tape, hg.output.trans hb23.output, Nat.le_trans hb23.size hg.size, fun k hk hn => hkeep k hk (fun e => hn (.inr (.inr e))), fun k hk => by
      rcases hk with hk | hk | hk
      · exact .inl (.inl hk)
      · exact .inl (.inr (.inl hk))
      · have : g = k := by simpa [Value.ownBlock] using hk
        subst this
        rcases hat with h1 | h1
        · exact .inl (.inr (.inr h1))
        · exact .inr ⟨by omega, hlt⟩⟩
  have hlo := h.lo
  refine ⟨owns_keep h.pr (fun k hk => hkeep k (hpl k hk).2 (fun e => owns_apart h.pr h.qr (by decide) hk e)), by rw [pcells_app, List.length_append]; exact hown, h.len, fun k l hk => ?_, ?_, ?_, ⟨hlo.1, hlo.2.1, by have := hM.size; omega⟩⟩
  · obtain ⟨o1, c1, h1, h2⟩ := h.wd k l hk
    exact ⟨o1, c1, h1, h2.move hM⟩
  · refine h.gr.keep (fun k hk => ?_) (fun _ hk => hk) (fun k hk => ?_)
    · have hk' : k = G := hk
      subst hk'
      exact hkeep k (by omega) (fun e => by have := (hql k e).1; omega)
    · have hk' : k = G := hk
      have := hM.size; omega
  · exact hM.below h.bel h.bel.size (fun k hk => by
      rcases hk with hk | hk | hk
      · omega
      · have := (hpl k hk).1; omega
      · have := (hql k hk).1; omega)
theorem addr_add (g j : Nat) : (⟨g, 0, none⟩ : Addr).add j = ⟨g, 0 + j, none⟩ := by unfold Addr.add; split <;> simp_all
theorem LitsAt.less {F F' : Nat → Prop} {w : World} {v : Value} {l : List Int} (h : LitsAt F w v l) (hF : ∀ k, F' k → F k) : LitsAt F' w v l := by
  obtain ⟨hl, o, c, e, h⟩ := h
  refine ⟨hl, o, c, e, fun k x hk => ?_⟩
  obtain ⟨b, off, e', hn, hc⟩ := h k x hk
  exact ⟨b, off, e', fun hf => hn (hF b hf), hc⟩
theorem Shp.words {w : World} {G B n : Nat} {ws : List (List Int)} {o : Option Addr} {c : Nat} {q : Value} {vs : List Value} {ks : List (Int × Int)} {wr : World} (h : Shp w G B ws (.slice o n c) q vs ks wr) (hl : ws.length ≤ 100) (hn : n = ws.length) : WordsAt (fun k => k = G) wr (.slice o n c) ws := by
  subst hn
  refine ⟨hl, o, c, rfl, fun k l hk => ?_⟩
  have hkl : k < ws.length := (List.getElem?_eq_some_iff.1 hk).1
  obtain ⟨g, cap, e, _, _⟩ := h.pr.form (by omega)
  obtain ⟨rfl, rfl⟩ : o = some ⟨g, 0, none⟩ ∧ c = cap := by simpa using e
  obtain ⟨o1, c1, h1, h2⟩ := h.wd k l hk
  have hc := h.pr.cells (g := g) rfl k _ h1
  rw [addr_add] at hc
  exact ⟨g, 0, o1, c1, rfl, fun hf => by have hf' : g = G := hf; have := (h.pr.lt g rfl).1; have := h.lo; omega, hc, h2.less (fun _ hf => .inl hf)⟩
theorem vals_of_owns {w : World} {B n : Nat} {o : Option Addr} {c : Nat} {ks : List (Int × Int)} (h : w.ownsRow B 33 2 (.slice o n c) ks.length (pcells ks)) (hn : n = ks.length) (hl : ks.length ≤ maxLen) : ValsAt w (.slice o n c) ks := by
  subst hn
  refine ⟨hl, o, c, rfl, fun k x hk => ?_⟩
  have hkl : k < ks.length := (List.getElem?_eq_some_iff.1 hk).1
  obtain ⟨g, cap, e, _, _⟩ := h.form (by omega)
  obtain ⟨rfl, rfl⟩ : o = some ⟨g, 0, none⟩ ∧ c = cap := by simpa using e
  obtain ⟨h1, h2⟩ := pcells_at ks k x hk
  have c1 := h.cells (g := g) rfl _ _ h1
  have c2 := h.cells (g := g) rfl _ _ h2
  rw [addr_add, Nat.mul_comm] at c1 c2
  exact ⟨g, 0, rfl, c1, c2⟩
/-- A word of so many zeros; the value that stands for it. -/
def zerosL (n : Int) : List Int := List.replicate n.toNat 0
def oneEight (n : Int) : Bool := decide (n = 1) || decide (n = 8)
def kvI (n : Int) : Int × Int := if n = 1 then (1, 0) else (2, 1)
theorem kv_zeros {n : Int} (h : oneEight n = true) : kvL (zerosL n) = kvI n := by
  unfold oneEight at h
  simp at h
  unfold kvL zerosL kvI
  rcases h with rfl | rfl <;> simp
theorem ask_lens {op : List UInt8} {ls : List (List Int)} (h : askB op ls = true) : ∀ l ∈ ls, l.length = 1 ∨ l.length = 8 := fun l hl => by
  obtain ⟨tk, gv, _, hf, _⟩ := ask_row h
  unfold fitsT at hf
  simp only [Bool.and_eq_true, Bool.not_eq_true'] at hf
  have h1 := List.any_eq_false.1 hf.1.2 (kindL l) (List.mem_map.2 ⟨l, hl, rfl⟩)
  exact no_kind (by simpa using h1)
/-- What the statement asks, and what Of takes. -/
theorem shape_all {op : List UInt8} {ls : List Int} (h0 : ∀ n ∈ ls, 0 ≤ n) : (ls.all oneEight = true ∧ isI op (ls.map kvI) = 0) ↔ (askB op (ls.map zerosL) = true ∧ noB op = false) := by
  have key : ls.all oneEight = true → ((isI op (ls.map kvI) = 0) ↔ (askB op (ls.map zerosL) = true ∧ noB op = false)) := fun hr => by
    have hr' := List.all_eq_true.1 hr
    have e : (ls.map zerosL).map kvL = ls.map kvI := by
      rw [List.map_map]
      exact List.map_congr_left (fun n hn => kv_zeros (hr' n hn))
    rw [← e]
    refine shape_iff (fun l hl => ?_)
    obtain ⟨n, hn, rfl⟩ := List.mem_map.1 hl
    have := hr' n hn
    unfold oneEight at this
    simp at this
    unfold zerosL
    rw [List.length_replicate]
    omega
  constructor
  · rintro ⟨h1, h2⟩
    exact (key h1).1 h2
  · intro h2
    have hr : ls.all oneEight = true := by
      rw [List.all_eq_true]
      intro n hn
      have := ask_lens h2.1 (zerosL n) (List.mem_map.2 ⟨n, hn, rfl⟩)
      have hp := h0 n hn
      unfold zerosL at this
      rw [List.length_replicate] at this
      unfold oneEight
      simp
      omega
    exact ⟨hr, (key hr).2 h2⟩
theorem isI_nonneg (op : List UInt8) (l : List (Int × Int)) : 0 ≤ isI op l := by
  unfold isI
  split
  · decide
  · split
    · unfold isAns; split
      · split <;> decide
      · decide
    · decide
theorem sem_len {gs : List (Int × Int)} {op : List UInt8} {ls : List (List Int)} {len : Nat} {Pr : (List Bool → Nat → Bool) → Prop} {tf : List Bool → Bool} (h : SemR gs op ls len Pr tf) : len = 1 ∨ len = 8 := by
  unfold SemR at h
  rcases h with ⟨n, t, a, b, _, _, _, _, _, hn, hl, _⟩ | ⟨n, a, b, _, _, _, _, _, hl, _⟩ | ⟨n, a, b, _, _, _, _, _, hl, _⟩ | ⟨a, b, _, _, _, _, hl, _⟩ | ⟨a, b, _, _, _, _, hl, _⟩ | ⟨a, b, _, _, _, _, hl, _⟩ | ⟨a, b, _, _, _, _, hl, _⟩ | ⟨a, b, _, _, _, _, hl, _⟩ | ⟨a, b, _, _, _, _, hl, _⟩ | ⟨a, b, _, _, _, _, hl, _⟩ | ⟨a, b, _, _, _, _, hl, _⟩ | ⟨a, b, _, _, _, _, hl, _⟩ | ⟨a, _, _, _, hl, _⟩ | ⟨a, b, _, _, _, _, hl, _⟩ | ⟨a, b, _, _, _, _, hl, _⟩ | ⟨a, b, _, _, _, _, hl, _⟩ | ⟨a, b, _, _, _, _, hl, _⟩ | ⟨a, _, _, _, hl, _⟩ <;> omega
end Go.Proofs.YtpiglmaojonbnaaDoor
