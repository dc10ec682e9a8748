/-
  lustrumlaw3.WordShapes: its two lists in memory, from round to round.
-/
import Derived.Test.YtpiglmaojonbnaaGreatDoorP39
import Derived.Test.YtpiglmaojonbnaaGreatDoorP25
import Derived.Test.YtpiglmaojonbnaaGreatDoorP40
namespace Go.Proofs.YtpiglmaojonbnaaGreatDoor
open Go.RowKit Go.Maps

theorem Tryz.infoVal : (Tryz.prog.info? 26).map (fun i => (i.zero, i.size, i.bytes)) = some (some (.agg #[.int .i64 0, .int .i64 0]), 2, 16) := by kernel_rfl
theorem Tryz.infoLitR : (Tryz.prog.info? 38).map (fun i => (i.zero, i.size, i.bytes)) = some (some (.slice none 0 0), 1, 24) := by kernel_rfl
/-- Blocks that may turn: the graph's, and those of two lists. -/
def OwnG (G : Nat) (p q : Value) : Nat → Prop := fun k => k = G ∨ p.ownBlock = some k ∨ q.ownBlock = some k
/-- Two rows of unlike types lie apart. -/
theorem owns_apart {w : World} {base base' s s' n n' : Nat} {e e' : TypeId} {v v' : Value} {xs xs' : List Value} (h : w.ownsRow base e s v n xs) (h' : w.ownsRow base' e' s' v' n' xs') (he : e ≠ e') {k : Nat} (hk : v.ownBlock = some k) : v'.ownBlock ≠ some k := fun hk' => by
  obtain ⟨_, h2⟩ := h
  obtain ⟨_, h2'⟩ := h'
  rcases h2 with ⟨rfl, _⟩ | ⟨g, cap, cur, rfl, _, hg, _⟩
  · simp [Value.ownBlock] at hk
  · rcases h2' with ⟨rfl, _⟩ | ⟨g', cap', cur', rfl, _, hg', _⟩
    · simp [Value.ownBlock] at hk'
    · simp [Value.ownBlock] at hk hk'
      subst hk; subst hk'
      rw [hg] at hg'
      simp only [Option.some.injEq, Obj.cells.injEq] at hg'
      exact he hg'.2.1
/-- The words so far, and the values that stand for them. -/
structure Shp (w : World) (G B : Nat) (ws : List (List Int)) (p q : Value) (vs : List Value) (ks : List (Int × Int)) (wr : World) : Prop where
  pr : wr.ownsRow B 38 1 p ws.length vs
  qr : wr.ownsRow B 26 2 q ks.length (pcells ks)
  len : vs.length = ws.length
  wd : ∀ (k : Nat) (l : List Int), ws[k]? = some l → ∃ o c, vs[k]? = some (Value.slice o l.length c) ∧ LitsAt (OwnG G p q) wr (.slice o l.length c) l
  gr : GrAt G [] 0 (fun k => k = G) wr
  bel : Below w.heap.size w wr
  lo : w.heap.size ≤ G ∧ G < B ∧ B ≤ wr.heap.size
theorem Shp.part {w : World} {G B : Nat} {ws : List (List Int)} {p q : Value} {vs : List Value} {ks : List (Int × Int)} {wr w2 w4 : World} {o : Obj} {V m g cap : Nat} {t : TypeId} (h : Shp w G B ws p q vs ks wr) (hb2 : Below wr.heap.size wr w2) (hV : w2.heap[V]? = some (.cells (rowI (List.replicate m 0)) t (0, 0))) (hVn : wr.heap.size ≤ V) (hm : m ≤ 1000)
    (hg : (w2.alloc o).grownBy w4 p.ownBlock) (hat : p.ownBlock = some g ∨ g = (w2.alloc o).heap.size) (hlt : g < w4.heap.size) (hown : w4.ownsRow B 38 1 (.slice (some ⟨g, 0, none⟩) (ws.length + 1) cap) (ws.length + 1) (vs ++ [.slice (some ⟨V, 0, none⟩) m m])) :
    Shp w G B (ws ++ [List.replicate m 0]) (.slice (some ⟨g, 0, none⟩) (ws.length + 1) cap) q (vs ++ [.slice (some ⟨V, 0, none⟩) m m]) ks w4 := by
  have hVl : V < w2.heap.size := (Array.getElem?_eq_some_iff.1 hV).1
  have hpl : ∀ k, p.ownBlock = some k → B ≤ k ∧ k < wr.heap.size := fun k hk => h.pr.lt k hk
  have hql : ∀ k, q.ownBlock = some k → B ≤ k ∧ k < wr.heap.size := fun k hk => h.qr.lt k hk
  have hb3 : Below w2.heap.size w2 (w2.alloc o) := (Below.refl _ _).alloc (Nat.le_refl _) _
  have hb23 : Below wr.heap.size wr (w2.alloc o) := hb2.trans (hb3.mono hb2.size)
  have hsz : (w2.alloc o).heap.size = w2.heap.size + 1 := by simp
  have hkeep : ∀ k, k < wr.heap.size → p.ownBlock ≠ some k → w4.heap[k]? = wr.heap[k]? := fun k hk hn => by
    rw [hg.block k (Nat.lt_of_lt_of_le hk hb23.size) (fun e => hn e.symm)]; exact hb23.block k hk
  have hM : Mvd (OwnG G p q) (OwnG G (.slice (some ⟨g, 0, none⟩) (ws.length + 1) cap) q) wr w4 :=
    ⟨hg.os.trans hb23.os, hg.tape.trans hb23.tape, hg.output.trans hb23.output, Nat.le_trans hb23.size hg.size, fun k hk hn => hkeep k hk (fun e => hn (.inr (.inl e))), fun k hk => by
      rcases hk with hk | hk | hk
      · exact .inl (.inl hk)
      · have : g = k := by simpa [Value.ownBlock] using hk
        subst this
        rcases hat with h1 | h1
        · exact .inl (.inr (.inl h1))
        · exact .inr ⟨by have := hb2.size; omega, hlt⟩
      · exact .inl (.inr (.inr hk))⟩
  have hlo := h.lo
  refine ⟨by rw [List.length_append]; exact hown, owns_keep h.qr (fun k hk => hkeep k (hql k hk).2 (fun e => owns_apart h.pr h.qr (by decide) e hk)), by simp [h.len], fun k l hk => ?_, ?_, ?_, ⟨hlo.1, hlo.2.1, by have := hM.size; omega⟩⟩
  · rcases Nat.lt_or_ge k ws.length with hkl | hkl
    · rw [List.getElem?_append_left hkl] at hk
      obtain ⟨o1, c1, h1, h2⟩ := h.wd k l hk
      exact ⟨o1, c1, by rw [List.getElem?_append_left (by rw [h.len]; exact hkl)]; exact h1, h2.move hM⟩
    · have hk' : k = ws.length := by
        have := (List.getElem?_eq_some_iff.1 hk).1
        simp at this; omega
      subst hk'
      rw [List.getElem?_append_right (Nat.le_refl _), Nat.sub_self] at hk
      obtain rfl : List.replicate m 0 = l := by simpa using hk
      have hV4 : w4.heap[V]? = some (.cells (rowI (List.replicate m 0)) t (0, 0)) := by
        rw [hg.block V (by omega) (fun e => by have := (hpl V e.symm).2; omega), hb3.block V hVl]; exact hV
      have hVf : ¬ OwnG G (.slice (some ⟨g, 0, none⟩) (ws.length + 1) cap) q V := fun hf => by
        rcases hf with hf | hf | hf
        · omega
        · have : g = V := by simpa [Value.ownBlock] using hf
          rcases hat with h1 | h1
          · have := (hpl g h1).2; omega
          · omega
        · have := (hql V hf).2; omega
      have e : (List.replicate m (0 : Int)).length = m := List.length_replicate
      refine ⟨some ⟨V, 0, none⟩, m, ?_, lits_row hV4 hVf (by rw [e]; exact hm)⟩
      rw [← h.len, List.getElem?_append_right (Nat.le_refl _), Nat.sub_self, e]; rfl
  · refine h.gr.keep (fun k hk => ?_) (fun _ hk => hk) (fun k hk => ?_)
    · have hk' : k = G := hk
      subst hk'
      exact hkeep k (by omega) (fun e => by have := (hpl k e).1; omega)
    · have hk' : k = G := hk
      have := hM.size; omega
  · exact hM.below h.bel h.bel.size (fun k hk => by
      rcases hk with hk | hk | hk
      · omega
      · have := (hpl k hk).1; omega
      · have := (hql k hk).1; omega)
theorem Shp.kind {w : World} {G B : Nat} {ws : List (List Int)} {p q : Value} {vs : List Value} {ks : List (Int × Int)} {wr w4 : World} {o : Obj} {g cap : Nat} {x : Int × Int} (h : Shp w G B ws p q vs ks wr)
    (hg : (wr.alloc o).grownBy w4 q.ownBlock) (hat : q.ownBlock = some g ∨ g = (wr.alloc o).heap.size) (hlt : g < w4.heap.size) (hown : w4.ownsRow B 26 2 (.slice (some ⟨g, 0, none⟩) (ks.length + 1) cap) (ks.length + 1) (pcells ks ++ [.int .i64 x.1, .int .i64 x.2])) :
    Shp w G B ws p (.slice (some ⟨g, 0, none⟩) (ks.length + 1) cap) vs (ks ++ [x]) w4 := by
  have hpl : ∀ k, p.ownBlock = some k → B ≤ k ∧ k < wr.heap.size := fun k hk => h.pr.lt k hk
  have hql : ∀ k, q.ownBlock = some k → B ≤ k ∧ k < wr.heap.size := fun k hk => h.qr.lt k hk
  have hb23 : Below wr.heap.size wr (wr.alloc o) := (Below.refl _ _).alloc (Nat.le_refl _) _
  have hsz : (wr.alloc o).heap.size = wr.heap.size + 1 := by simp
  have hkeep : ∀ k, k < wr.heap.size → q.ownBlock ≠ some k → w4.heap[k]? = wr.heap[k]? := fun k hk hn => by
    rw [hg.block k (Nat.lt_of_lt_of_le hk hb23.size) (fun e => hn e.symm)]; exact hb23.block k hk
  have hM : Mvd (OwnG G p q) (OwnG G p (.slice (some ⟨g, 0, none⟩) (ks.length + 1) cap)) wr w4 :=
    ⟨hg.os.trans hb23.os, hg.tape.trans hb23.tape, hg.output.trans hb23.output, Nat.le_trans hb23.size hg.size, fun k hk hn => hkeep k hk (fun e => hn (.inr (.inr e))), fun k hk => by
      rcases hk with hk | hk | hk
      · exact .inl (.inl hk)
      · exact .inl (.inr (.inl hk))
      · have : g = k := by simpa [Value.ownBlock] using hk
        subst this
        rcases hat with h1 | h1
        · exact .inl (.inr (.inr h1))
        · exact .inr ⟨by omega, hlt⟩⟩
  have hlo := h.lo
  refine ⟨owns_keep h.pr (fun k hk => hkeep k (hpl k hk).2 (fun e => owns_apart h.pr h.qr (by decide) hk e)), by rw [pcells_app, List.length_append]; exact hown, h.len, fun k l hk => ?_, ?_, ?_, ⟨hlo.1, hlo.2.1, by have := hM.size; omega⟩⟩
  · obtain ⟨o1, c1, h1, h2⟩ := h.wd k l hk
    exact ⟨o1, c1, h1, h2.move hM⟩
  · refine h.gr.keep (fun k hk => ?_) (fun _ hk => hk) (fun k hk => ?_)
    · have hk' : k = G := hk
      subst hk'
      exact hkeep k (by omega) (fun e => by have := (hql k e).1; omega)
    · have hk' : k = G := hk
      have := hM.size; omega
  · exact hM.below h.bel h.bel.size (fun k hk => by
      rcases hk with hk | hk | hk
      · omega
      · have := (hpl k hk).1; omega
      · have := (hql k hk).1; omega)
theorem addr_add (g j : Nat) : (⟨g, 0, none⟩ : Addr).add j = ⟨g, 0 + j, none⟩ := by unfold Addr.add; split <;> simp_all
theorem LitsAt.less {F F' : Nat → Prop} {w : World} {v : Value} {l : List Int} (h : LitsAt F w v l) (hF : ∀ k, F' k → F k) : LitsAt F' w v l := by
  obtain ⟨hl, o, c, e, h⟩ := h
  refine ⟨hl, o, c, e, fun k x hk => ?_⟩
  obtain ⟨b, off, e', hn, hc⟩ := h k x hk
  exact ⟨b, off, e', fun hf => hn (hF b hf), hc⟩
theorem Shp.words {w : World} {G B n : Nat} {ws : List (List Int)} {o : Option Addr} {c : Nat} {q : Value} {vs : List Value} {ks : List (Int × Int)} {wr : World} (h : Shp w G B ws (.slice o n c) q vs ks wr) (hl : ws.length ≤ 100) (hn : n = ws.length) : WordsAt (fun k => k = G) wr (.slice o n c) ws := by
  subst hn
  refine ⟨hl, o, c, rfl, fun k l hk => ?_⟩
  have hkl : k < ws.length := (List.getElem?_eq_some_iff.1 hk).1
  obtain ⟨g, cap, e, _, _⟩ := h.pr.form (by omega)
  obtain ⟨rfl, rfl⟩ : o = some ⟨g, 0, none⟩ ∧ c = cap := by simpa using e
  obtain ⟨o1, c1, h1, h2⟩ := h.wd k l hk
  have hc := h.pr.cells (g := g) rfl k _ h1
  rw [addr_add] at hc
  exact ⟨g, 0, o1, c1, rfl, fun hf => by have hf' : g = G := hf; have := (h.pr.lt g rfl).1; have := h.lo; omega, hc, h2.less (fun _ hf => .inl hf)⟩
theorem vals_of_owns {w : World} {B n : Nat} {o : Option Addr} {c : Nat} {ks : List (Int × Int)} (h : w.ownsRow B 26 2 (.slice o n c) ks.length (pcells ks)) (hn : n = ks.length) (hl : ks.length ≤ maxLen) : ValsAt w (.slice o n c) ks := by
  subst hn
  refine ⟨hl, o, c, rfl, fun k x hk => ?_⟩
  have hkl : k < ks.length := (List.getElem?_eq_some_iff.1 hk).1
  obtain ⟨g, cap, e, _, _⟩ := h.form (by omega)
  obtain ⟨rfl, rfl⟩ : o = some ⟨g, 0, none⟩ ∧ c = cap := by simpa using e
  obtain ⟨h1, h2⟩ := pcells_at ks k x hk
  have c1 := h.cells (g := g) rfl _ _ h1
  have c2 := h.cells (g := g) rfl _ _ h2
  rw [addr_add, Nat.mul_comm] at c1 c2
  exact ⟨g, 0, rfl, c1, c2⟩
/-- A word of so many zeros; the value that stands for it. -/
def zerosL (n : Int) : List Int := List.replicate n.toNat 0
def oneEight (n : Int) : Bool := decide (n = 1) || decide (n = 8)
def kvI (n : Int) : Int × Int := if n = 1 then (1, 0) else (2, 1)
theorem kv_zeros {n : Int} (h : oneEight n = true) : kvL (zerosL n) = kvI n := by
  unfold oneEight at h
  simp at h
  unfold kvL zerosL kvI
  rcases h with rfl | rfl <;> simp
theorem ask_lens {op : List UInt8} {ls : List (List Int)} (h : askB op ls = true) : ∀ l ∈ ls, l.length = 1 ∨ l.length = 8 := fun l hl => by
  obtain ⟨tk, gv, _, hf, _⟩ := ask_row h
  unfold fitsT at hf
  simp only [Bool.and_eq_true, Bool.not_eq_true'] at hf
  have h1 := List.any_eq_false.1 hf.1.2 (kindL l) (List.mem_map.2 ⟨l, hl, rfl⟩)
  exact no_kind (by simpa using h1)
/-- What the statement asks, and what Of takes. -/
theorem shape_all {op : List UInt8} {ls : List Int} (h0 : ∀ n ∈ ls, 0 ≤ n) : (ls.all oneEight = true ∧ isI op (ls.map kvI) = 0) ↔ (askB op (ls.map zerosL) = true ∧ noB op = false) := by
  have key : ls.all oneEight = true → ((isI op (ls.map kvI) = 0) ↔ (askB op (ls.map zerosL) = true ∧ noB op = false)) := fun hr => by
    have hr' := List.all_eq_true.1 hr
    have e : (ls.map zerosL).map kvL = ls.map kvI := by
      rw [List.map_map]
      exact List.map_congr_left (fun n hn => kv_zeros (hr' n hn))
    rw [← e]
    refine shape_iff (fun l hl => ?_)
    obtain ⟨n, hn, rfl⟩ := List.mem_map.1 hl
    have := hr' n hn
    unfold oneEight at this
    simp at this
    unfold zerosL
    rw [List.length_replicate]
    omega
  constructor
  · rintro ⟨h1, h2⟩
    exact (key h1).1 h2
  · intro h2
    have hr : ls.all oneEight = true := by
      rw [List.all_eq_true]
      intro n hn
      have := ask_lens h2.1 (zerosL n) (List.mem_map.2 ⟨n, hn, rfl⟩)
      have hp := h0 n hn
      unfold zerosL at this
      rw [List.length_replicate] at this
      unfold oneEight
      simp
      omega
    exact ⟨hr, (key hr).2 h2⟩
theorem isI_nonneg (op : List UInt8) (l : List (Int × Int)) : 0 ≤ isI op l := by
  unfold isI
  split
  · decide
  · split
    · unfold isAns; split
      · split <;> decide
      · decide
    · decide
theorem sem_len {gs : List (Int × Int)} {op : List UInt8} {ls : List (List Int)} {len : Nat} {Pr : (List Bool → Nat → Bool) → Prop} {tf : List Bool → Bool} (h : SemR gs op ls len Pr tf) : len = 1 ∨ len = 8 := by
  unfold SemR at h
  rcases h with ⟨n, t, a, b, _, _, _, _, _, hn, hl, _⟩ | ⟨n, a, b, _, _, _, _, _, hl, _⟩ | ⟨n, a, b, _, _, _, _, _, hl, _⟩ | ⟨a, b, _, _, _, _, hl, _⟩ | ⟨a, b, _, _, _, _, hl, _⟩ | ⟨a, b, _, _, _, _, hl, _⟩ | ⟨a, b, _, _, _, _, hl, _⟩ | ⟨a, b, _, _, _, _, hl, _⟩ | ⟨a, b, _, _, _, _, hl, _⟩ | ⟨a, b, _, _, _, _, hl, _⟩ | ⟨a, b, _, _, _, _, hl, _⟩ | ⟨a, b, _, _, _, _, hl, _⟩ | ⟨a, _, _, _, hl, _⟩ | ⟨a, b, _, _, _, _, hl, _⟩ | ⟨a, b, _, _, _, _, hl, _⟩ | ⟨a, b, _, _, _, _, hl, _⟩ | ⟨a, b, _, _, _, _, hl, _⟩ | ⟨a, _, _, _, hl, _⟩ <;> omega
end Go.Proofs.YtpiglmaojonbnaaGreatDoor

/-
  lustrumlaw3.WordApplies: its two lists in memory, from round to round.
-/
namespace Go.Proofs.YtpiglmaojonbnaaGreatDoor
open Go.RowKit Go.Maps

theorem grown_mvdR {F F' : Nat → Prop} {w0 w w' : World} {row : Option Nat} (h : Mvd F F' w0 w) (hg : w.grownBy w' row) (hr : ∀ k, row = some k → w0.heap.size ≤ k) : Mvd F F' w0 w' :=
  ⟨hg.os.trans h.os, hg.tape.trans h.tape, hg.output.trans h.output, Nat.le_trans h.size hg.size, fun k hk hn => by
    rw [hg.block k (Nat.lt_of_lt_of_le hk h.size) (fun e => by have := hr k e.symm; omega)]; exact h.block k hk hn, fun k hk => by
      rcases h.more k hk with h1 | h1
      · exact .inl h1
      · exact .inr ⟨h1.1, Nat.lt_of_lt_of_le h1.2 hg.size⟩⟩
/-- The words and the bits so far. -/
structure Apl (wb : World) (Fb : Nat → Prop) (G N : Nat) (ws : List (List Int)) (bs : List Bool) (p q : Value) (vs : List Value) (F : Nat → Prop) (wr : World) : Prop where
  gr : GrAt G (inps N) N F wr
  mv : Mvd Fb F wb wr
  pr : wr.ownsRow wb.heap.size 38 1 p ws.length vs
  pf : ∀ k, p.ownBlock = some k → ¬ F k
  qr : wr.ownsRow wb.heap.size 4 1 q bs.length (bs.map Value.bool)
  qf : ∀ k, q.ownBlock = some k → ¬ F k
  len : vs.length = ws.length
  wd : ∀ (k : Nat) (a : List Int), ws[k]? = some a → ∃ V c, vs[k]? = some (Value.slice (some ⟨V, 0, none⟩) a.length c) ∧ V < wr.heap.size ∧ LitsAt F wr (.slice (some ⟨V, 0, none⟩) a.length c) a ∧ p.ownBlock ≠ some V ∧ q.ownBlock ≠ some V
theorem Apl.move {wb : World} {Fb : Nat → Prop} {G N N' : Nat} {ws : List (List Int)} {bs : List Bool} {p q : Value} {vs : List Value} {F F' : Nat → Prop} {wr w' : World} (h : Apl wb Fb G N ws bs p q vs F wr) (hm : Mvd F F' wr w') (hg : GrAt G (inps N') N' F' w') : Apl wb Fb G N' ws bs p q vs F' w' := by
  have hp := owns_move h.pr hm h.pf
  have hq := owns_move h.qr hm h.qf
  refine ⟨hg, h.mv.trans hm, hp.1, hp.2, hq.1, hq.2, h.len, fun k a hk => ?_⟩
  obtain ⟨V, c, h1, h2, h3, h4, h5⟩ := h.wd k a hk
  exact ⟨V, c, h1, Nat.lt_of_lt_of_le h2 hm.size, h3.move hm, h4, h5⟩
theorem Apl.bits {wb : World} {Fb : Nat → Prop} {G N n g cap : Nat} {ws : List (List Int)} {bs b : List Bool} {p q : Value} {vs : List Value} {F : Nat → Prop} {wr w' : World} (h : Apl wb Fb G N ws bs p q vs F wr) (hg : wr.grownBy w' q.ownBlock) (hat : q.ownBlock = some g ∨ g = wr.heap.size) (hn : n = bs.length + b.length) (hown : w'.ownsRow wb.heap.size 4 1 (.slice (some ⟨g, 0, none⟩) n cap) n (bs.map Value.bool ++ b.map Value.bool)) (hpq : ∀ k, p.ownBlock = some k → q.ownBlock ≠ some k) : Apl wb Fb G N ws (bs ++ b) p (.slice (some ⟨g, 0, none⟩) n cap) vs F w' := by
  have hql : ∀ k, q.ownBlock = some k → wb.heap.size ≤ k ∧ k < wr.heap.size := fun k hk => h.qr.lt k hk
  have hF : ∀ k, F k → k < wr.heap.size := h.gr.2.2.1
  have hkeep : ∀ k, k < wr.heap.size → q.ownBlock ≠ some k → w'.heap[k]? = wr.heap[k]? := fun k hk hne => hg.block k hk (fun e => hne e.symm)
  refine ⟨grown_gr h.gr hg h.qf, grown_mvdR h.mv hg (fun k hk => (hql k hk).1), ?_, h.pf, ?_, fun k hk hf => ?_, h.len, fun k a hk => ?_⟩
  · exact owns_keep h.pr (fun k hk => hkeep k (h.pr.lt k hk).2 (hpq k hk))
  · rw [List.map_append, List.length_append, ← hn]; exact hown
  · have : g = k := by simpa [Value.ownBlock] using hk
    subst this
    rcases hat with h1 | h1
    · exact h.qf g h1 hf
    · have := hF g hf; omega
  · obtain ⟨V, c, h1, h2, h3, h4, h5⟩ := h.wd k a hk
    refine ⟨V, c, h1, Nat.lt_of_lt_of_le h2 hg.size, lits_grown h3 hg h5, h4, fun e => ?_⟩
    have : g = V := by simpa [Value.ownBlock] using e
    subst this
    rcases hat with h6 | h6
    · exact h5 h6
    · omega
theorem Apl.word {wb : World} {Fb : Nat → Prop} {G N g cap V m sc : Nat} {ws : List (List Int)} {a : List Int} {bs : List Bool} {p q : Value} {vs : List Value} {F : Nat → Prop} {wr w' : World} {o : Obj} (h : Apl wb Fb G N ws bs p q vs F wr) (hm : a.length = m) (hlit : LitsAt F wr (.slice (some ⟨V, 0, none⟩) m sc) a) (hV : V < wr.heap.size) (hVp : p.ownBlock ≠ some V) (hVq : q.ownBlock ≠ some V) (hg : (wr.alloc o).grownBy w' p.ownBlock) (hat : p.ownBlock = some g ∨ g = (wr.alloc o).heap.size) (hown : w'.ownsRow wb.heap.size 38 1 (.slice (some ⟨g, 0, none⟩) (ws.length + 1) cap) (ws.length + 1) (vs ++ [.slice (some ⟨V, 0, none⟩) m sc])) (hpq : ∀ k, p.ownBlock = some k → q.ownBlock ≠ some k) : Apl wb Fb G N (ws ++ [a]) bs (.slice (some ⟨g, 0, none⟩) (ws.length + 1) cap) q (vs ++ [.slice (some ⟨V, 0, none⟩) m sc]) F w' := by
  subst hm
  have hb : Below wr.heap.size wr (wr.alloc o) := (Below.refl _ _).alloc (Nat.le_refl _) _
  have hm1 : Mvd F F wr (wr.alloc o) := Mvd.of_below hb
  have ha := h.move hm1 (h.gr.below hb)
  have hsz : (wr.alloc o).heap.size = wr.heap.size + 1 := by simp
  have hpl : ∀ k, p.ownBlock = some k → wb.heap.size ≤ k ∧ k < wr.heap.size := fun k hk => h.pr.lt k hk
  have hF : ∀ k, F k → k < wr.heap.size := h.gr.2.2.1
  have hkeep : ∀ k, k < (wr.alloc o).heap.size → p.ownBlock ≠ some k → w'.heap[k]? = (wr.alloc o).heap[k]? := fun k hk hne => hg.block k hk (fun e => hne e.symm)
  refine ⟨grown_gr ha.gr hg h.pf, grown_mvdR ha.mv hg (fun k hk => (hpl k hk).1), by rw [List.length_append]; exact hown, fun k hk hf => ?_, owns_keep ha.qr (fun k hk => hkeep k (ha.qr.lt k hk).2 (fun e => hpq k e hk)), h.qf, by rw [List.length_append, List.length_append, h.len]; rfl, fun k b hk => ?_⟩
  · have : g = k := by simpa [Value.ownBlock] using hk
    subst this
    rcases hat with h1 | h1
    · exact h.pf g h1 hf
    · have := hF g hf; omega
  · rcases Nat.lt_or_ge k ws.length with hkl | hkl
    · rw [List.getElem?_append_left hkl] at hk
      obtain ⟨U, c, h1, h2, h3, h4, h5⟩ := ha.wd k b hk
      refine ⟨U, c, by rw [List.getElem?_append_left (by rw [h.len]; exact hkl)]; exact h1, Nat.lt_of_lt_of_le h2 hg.size, lits_grown h3 hg h4, fun e => ?_, h5⟩
      have : g = U := by simpa [Value.ownBlock] using e
      subst this
      rcases hat with h6 | h6
      · exact h4 h6
      · omega
    · have hk' : k = ws.length := by
        have := (List.getElem?_eq_some_iff.1 hk).1
        simp at this; omega
      subst hk'
      rw [List.getElem?_append_right (Nat.le_refl _), Nat.sub_self] at hk
      obtain rfl : a = b := by simpa using hk
      refine ⟨V, sc, by rw [← h.len, List.getElem?_append_right (Nat.le_refl _), Nat.sub_self]; rfl, ?_, lits_grown (hlit.move hm1) hg hVp, fun e => ?_, hVq⟩
      · have := hg.size; omega
      · have : g = V := by simpa [Value.ownBlock] using e
        subst this
        rcases hat with h6 | h6
        · exact hVp h6
        · omega
theorem Apl.words {wb : World} {Fb : Nat → Prop} {G N n : Nat} {ws : List (List Int)} {bs : List Bool} {o : Option Addr} {c : Nat} {q : Value} {vs : List Value} {F : Nat → Prop} {wr : World} (h : Apl wb Fb G N ws bs (.slice o n c) q vs F wr) (hl : ws.length ≤ 100) (hn : n = ws.length) : WordsAt F wr (.slice o n c) ws := by
  subst hn
  refine ⟨hl, o, c, rfl, fun k a hk => ?_⟩
  have hkl : k < ws.length := (List.getElem?_eq_some_iff.1 hk).1
  obtain ⟨g, cap, e, _, _⟩ := h.pr.form (by omega)
  obtain ⟨rfl, rfl⟩ : o = some ⟨g, 0, none⟩ ∧ c = cap := by simpa using e
  obtain ⟨V, c1, h1, h2, h3, h4, h5⟩ := h.wd k a hk
  have hc := h.pr.cells (g := g) rfl k _ h1
  rw [addr_add] at hc
  exact ⟨g, 0, some ⟨V, 0, none⟩, c1, rfl, h.pf g rfl, hc, h3⟩
theorem rowb_owns {w : World} {V : Nat} {l : List Bool} (hV : w.heap[V]? = some (.cells (rowB l) 4 (0, 0))) : ∀ j u, (l.map Value.bool)[j]? = some u → w.cell? ((⟨V, 0, none⟩ : Addr).add j) = some u := fun j u hj => by
  rw [List.getElem?_map] at hj
  obtain ⟨x, hx, rfl⟩ := Option.map_eq_some_iff.1 hj
  rw [addr_add, Nat.zero_add, cell_of_row w V _ _ _ (0, 0) hV]
  exact rowB_get hx
theorem rowi_news {w : World} {V : Nat} {l : List Int} (hV : w.heap[V]? = some (.cells (rowI l) 39 (0, 0))) : ∀ j u, (l.map (Value.int .i64))[j]? = some u → w.cell? ((⟨V, 0, none⟩ : Addr).add j) = some u := fun j u hj => by
  rw [List.getElem?_map] at hj
  obtain ⟨x, hx, rfl⟩ := Option.map_eq_some_iff.1 hj
  rw [addr_add, Nat.zero_add, cell_of_row w V _ _ _ (0, 0) hV]
  exact rowI_get hx
theorem bools_head {w : World} {O : Nat} {L : List Bool} {t : TypeId} {c : Nat} (h : w.heap[O]? = some (.cells (rowB L) t (0, 0))) (n : Nat) (hn : n ≤ L.length) (hm : n ≤ maxLen) : BoolsAt w (.slice (some ⟨O, 0, none⟩) n c) (L.take n) := by
  have hl : (L.take n).length = n := by rw [List.length_take]; omega
  refine ⟨by rw [hl]; exact hm, some ⟨O, 0, none⟩, c, by rw [hl], fun k x hk => ⟨O, 0, rfl, ?_⟩⟩
  have hk2 : k < n := by have := (List.getElem?_eq_some_iff.1 hk).1; omega
  rw [List.getElem?_take_of_lt hk2] at hk
  rw [Nat.zero_add, cell_of_row w O _ _ t (0, 0) h]; exact rowB_get hk
theorem bools_one (l : List Bool) : ∀ u ∈ l.map Value.bool, u.oneCell' = true := fun u hu => by obtain ⟨x, _, rfl⟩ := List.mem_map.1 hu; rfl
/-- The kinds of words of right values are theirs. -/
theorem isI_words (op : List UInt8) {l : List (Int × Int)} (hR : ∀ x ∈ l, rightB x.1 x.2 x.1 = true) : isI op ((wordsV 0 l).map kvL) = isI op l := by
  have hk : ∀ (l : List (Int × Int)) (off : Nat), (∀ x ∈ l, rightB x.1 x.2 x.1 = true) → ((wordsV off l).map kvL).map (·.1) = l.map (·.1)
    := by
    intro l
    induction l with
    | nil => intro _ _; rfl
    | cons x l ih =>
      intro off hR
      simp only [wordsV, List.map_cons]
      rw [ih _ (fun y hy => hR y (List.mem_cons_of_mem _ hy))]
      have hx := right_kind (hR x (List.mem_cons_self ..))
      congr 1
      unfold kvL
      rw [inpO_length]
      unfold widK
      rcases hx.1 with e | e <;> simp [e]
  have hr : allR ((wordsV 0 l).map kvL) = true := by
    unfold allR
    rw [List.all_eq_true]
    intro x hx
    obtain ⟨a, _, rfl⟩ := List.mem_map.1 hx
    unfold kvL
    split <;> decide
  have hr2 : allR l = true := by
    unfold allR
    rw [List.all_eq_true]
    exact hR
  unfold isI
  rw [hk l 0 hR, hr, hr2, List.length_map, wordsV_length]
theorem words_len {l : List (Int × Int)} : ∀ (off : Nat), ∀ a ∈ wordsV off l, a.length = 1 ∨ a.length = 8 := by
  induction l with
  | nil => intro _ a ha; simp [wordsV] at ha
  | cons x l ih =>
    intro off a ha
    simp only [wordsV, List.mem_cons] at ha
    rcases ha with rfl | ha
    · rw [inpO_length]; unfold widK; split <;> simp
    · exact ih _ a ha
/-- What is asked of gates that were made: the bits, and whether it traps. -/
theorem told_eval {gs gs' : List (Int × Int)} {inp : List Bool} {K len : Nat} {out : List Int} {tr : Int} {f : List Bool → Nat → Bool} {t : Bool} {r : (Int × Int) × Bool} (hM : Mads gs gs' K out f) (hl : out.length = len) (ht : valL gs' inp tr = t) (hT : Told inp len f t r) :
    ((out ++ [tr]).map (litV (valsOf gs' inp)))[len]? = some r.2 ∧ (r.2 = false → valK (((out ++ [tr]).map (litV (valsOf gs' inp))).take len) = r.1.1 ∧ valI (((out ++ [tr]).map (litV (valsOf gs' inp))).take len) = r.1.2) := by
  refine ⟨?_, fun h0 => hT.2 h0 _ (by simp [hl]) (fun i hi => ?_)⟩
  · rw [List.getElem?_map, List.getElem?_append_right (by omega), hl, Nat.sub_self, ← hT.1, ← ht]; rfl
  · obtain ⟨x, hx⟩ : ∃ x, out[i]? = some x := ⟨_, List.getElem?_eq_getElem (by omega)⟩
    rw [List.getD_eq_getElem?_getD, List.getElem?_take_of_lt hi, List.getElem?_map, List.getElem?_append_left (by omega), hx]
    exact hM.val inp i x hx
end Go.Proofs.YtpiglmaojonbnaaGreatDoor
