/-
  lustrumlaw3.made of + and * BY CONTRACT.
-/
import Derived.Test.YtgcaohpaopemnaaDoorP34
namespace Go.Proofs.YtgcaohpaopemnaaDoor
open Go.RowKit Go.Maps

theorem kinds_two {a b : List Int} (ha : a.length = 8) (hb : b.length = 8) : [a, b].map kindL = [2, 2] := by simp [kindL, ha, hb]
theorem ask_plus {a b : List Int} (ha : a.length = 8) (hb : b.length = 8) : askB [43] [a, b] = true := by
  unfold askB
  rw [kinds_two ha hb]
  have : (resK [43] [2, 2]).isSome = true := by decide
  rw [this]; rfl
theorem ask_times {a b : List Int} (ha : a.length = 8) (hb : b.length = 8) : askB [42] [a, b] = true := by
  unfold askB
  rw [kinds_two ha hb]
  have : (resK [42] [2, 2]).isSome = true := by decide
  rw [this]; rfl
/-- What 'made' answers. -/
def MadeP (G : Nat) (gs : List (Int × Int)) (ins K : Nat) (f : List Bool → Nat → Bool) (F : Nat → Prop) (w : World) (e : Ending) (w' : World) : Prop :=
  ∃ (V : Nat) (out : List Int) (gs' : List (Int × Int)) (F' : Nat → Prop), e = .returned (.slice (some ⟨V, 0, none⟩) 8 8) ∧ out.length = 8 ∧ w.heap.size ≤ V ∧ w'.heap[V]? = some (.cells (rowI out) 38 (0, 0)) ∧ ¬ F' V ∧ GrAt G gs' ins F' w' ∧ Mvd F F' w w' ∧ Mads gs gs' K out f
theorem words_two {F : Nat → Prop} {w : World} {oa ob : Option Addr} {ca cb : Nat} {a b : List Int} (hA : LitsAt F w (.slice oa 8 ca) a) (hB : LitsAt F w (.slice ob 8 cb) b) (ha : a.length = 8) (hb : b.length = 8) (hF : ∀ k, F k → k < w.heap.size) (t : TypeId) :
    WordsAt F (w.alloc (.cells #[.slice oa 8 ca, .slice ob 8 cb] t)) (.slice (some ⟨w.heap.size, 0, none⟩) 2 2) [a, b] := by
  have hm : Mvd F F w (w.alloc (.cells #[.slice oa 8 ca, .slice ob 8 cb] t)) := Mvd.of_below ((Below.refl _ _).alloc (Nat.le_refl _) _)
  refine ⟨by simp, _, _, rfl, fun k l hk => ?_⟩
  rcases k with _ | _ | k
  · simp at hk; subst hk
    refine ⟨w.heap.size, 0, oa, ca, rfl, fun hf => by have := hF _ hf; omega, ?_, ?_⟩
    · rw [ha]; simp
    · rw [ha]; exact hA.move hm
  · simp at hk; subst hk
    refine ⟨w.heap.size, 0, ob, cb, rfl, fun hf => by have := hF _ hf; omega, ?_, ?_⟩
    · rw [hb]; simp
    · rw [hb]; exact hB.move hm
  · simp at hk
end Go.Proofs.YtgcaohpaopemnaaDoor

/-
  lustrumlaw3.wordsOf BY CONTRACT: inputs as words.
-/
namespace Go.Proofs.YtgcaohpaopemnaaDoor
open Go.RowKit Go.Maps

/-- So many inputs; the i-th word of them. -/
def inps (n : Nat) : List (Int × Int) := List.replicate n (0, 0)
def inpW (i : Nat) : List Int := (List.range 8).map fun j => 2 * ((8 * i + j : Nat) : Int) + 2
theorem inps_succ (n : Nat) : inps n ++ [(0, 0)] = inps (n + 1) := by unfold inps; rw [← List.replicate_succ']
theorem inps_length (n : Nat) : (inps n).length = n := by simp [inps]
theorem inps_cnt (n : Nat) : cntI (inps n) = n := by
  unfold cntI inps
  have : inpB ((0 : Int), (0 : Int)) = true := by decide
  rw [List.filter_replicate, if_pos this, List.length_replicate]
theorem inps_val {n m : Nat} (h : m < n) (inp : List Bool) : valL (inps n) inp (2 * (m : Int) + 2) = inp.getD m false := by
  have e : inps n = inps m ++ [(0, 0)] ++ inps (n - (m + 1)) := by
    rw [inps_succ]
    unfold inps
    rw [List.replicate_append_replicate]
    congr 1
    omega
  rw [e, val_more _ _ inp (by unfold HasL; rw [List.length_append, inps_length]; simp; omega)]
  have := val_input (inps m) inp
  rw [inps_length, inps_cnt] at this
  exact this
theorem inpW_length (i : Nat) : (inpW i).length = 8 := by simp [inpW]
theorem inpW_get {i j : Nat} {x : Int} (h : (inpW i)[j]? = some x) : j < 8 ∧ x = 2 * ((8 * i + j : Nat) : Int) + 2 := by
  have hl := (List.getElem?_eq_some_iff.1 h).1
  rw [inpW_length] at hl
  unfold inpW at h
  rw [List.getElem?_map, List.getElem?_range hl] at h
  simp at h
  exact ⟨hl, by omega⟩
theorem inpW_has {i n : Nat} (hi : 8 * i + 8 ≤ n) : ∀ x ∈ inpW i, HasL (inps n) x := fun x hx => by
  obtain ⟨j, hj, rfl⟩ := List.mem_map.1 hx
  have := List.mem_range.1 hj
  unfold HasL
  rw [inps_length]
  omega
theorem Tryd.infoLits : (Tryd.prog.info? 30).map (fun i => (i.zero, i.size, i.bytes)) = some (some (.slice none 0 0), 1, 24) := by kernel_rfl
theorem owns_move {w w' : World} {F F' : Nat → Prop} {base size n : Nat} {e : TypeId} {v : Value} {xs : List Value} (h : w.ownsRow base e size v n xs) (hm : Mvd F F' w w') (hn : ∀ k, v.ownBlock = some k → ¬ F k) : w'.ownsRow base e size v n xs ∧ ∀ k, v.ownBlock = some k → ¬ F' k := by
  have hlt : ∀ k, v.ownBlock = some k → k < w.heap.size := fun k hk => by
    obtain ⟨_, h2⟩ := h
    rcases h2 with ⟨rfl, _⟩ | ⟨g, cap, cur, rfl, _, hg, _⟩
    · simp [Value.ownBlock] at hk
    · simp [Value.ownBlock] at hk; subst hk; exact (Array.getElem?_eq_some_iff.1 hg).1
  refine ⟨owns_keep h (fun k hk => hm.block k (hlt k hk) (hn k hk)), fun k hk hf => ?_⟩
  rcases hm.more k hf with h1 | h1
  · exact hn k hk h1
  · have := hlt k hk; omega
/-- An append moves nothing of the graph's. -/
theorem grown_mvd {F : Nat → Prop} {w0 w w' : World} {row : Option Nat} (h : Mvd F F w0 w) (hg : w.grownBy w' row) (hr : ∀ k, row = some k → w0.heap.size ≤ k) : Mvd F F w0 w' :=
  ⟨hg.os.trans h.os, hg.tape.trans h.tape, hg.output.trans h.output, Nat.le_trans h.size hg.size, fun k hk hn => by
    rw [hg.block k (Nat.lt_of_lt_of_le hk h.size) (fun e => by have := hr k e.symm; omega)]; exact h.block k hk hn, fun k hk => .inl hk⟩
theorem grown_gr {G : Nat} {gs : List (Int × Int)} {ins : Nat} {F : Nat → Prop} {w w' : World} {row : Option Nat} (h : GrAt G gs ins F w) (hg : w.grownBy w' row) (hr : ∀ k, row = some k → ¬ F k) : GrAt G gs ins F w' :=
  h.keep (fun k hk => hg.block k (h.2.2.1 k hk) (fun e => hr k e.symm hk)) (fun _ hk => hk) (fun k hk => Nat.lt_of_lt_of_le (h.2.2.1 k hk) hg.size)
theorem lits_of_owns {w : World} {F : Nat → Prop} {base n : Nat} {o : Option Addr} {c : Nat} {l : List Int} (h : w.ownsRow base 38 1 (.slice o n c) n (l.map (Value.int .i64))) (hn : l.length = n) (hm : n ≤ 1000) (h0 : 0 < n) (hF : ∀ k, (Value.slice o n c).ownBlock = some k → ¬ F k) : ∃ g, o = some ⟨g, 0, none⟩ ∧ LitsAt F w (.slice o n c) l := by
  subst hn
  obtain ⟨g, cap, e, _, _⟩ := h.form (by omega)
  obtain ⟨rfl, rfl⟩ : o = some ⟨g, 0, none⟩ ∧ c = cap := by simpa using e
  refine ⟨g, rfl, hm, _, c, rfl, fun k x hk => ?_⟩
  have hadd' : ∀ j, (⟨g, 0, none⟩ : Addr).add j = ⟨g, 0 + j, none⟩ := fun j => by unfold Addr.add; split <;> simp_all
  refine ⟨g, 0, rfl, hF g rfl, ?_⟩
  rw [← hadd']
  exact h.cells (g := g) rfl k _ (by simp [hk])
theorem lits_grown {w w' : World} {F : Nat → Prop} {V n c : Nat} {l : List Int} {row : Option Nat} (h : LitsAt F w (.slice (some ⟨V, 0, none⟩) n c) l) (hg : w.grownBy w' row) (hne : row ≠ some V) : LitsAt F w' (.slice (some ⟨V, 0, none⟩) n c) l := by
  obtain ⟨hl, o', c', e, h⟩ := h
  refine ⟨hl, o', c', e, fun k x hk => ?_⟩
  obtain ⟨b, off, rfl, hn, hc⟩ := h k x hk
  obtain ⟨rfl, _⟩ : V = b ∧ 0 = off := by
    have : some (⟨V, 0, none⟩ : Addr) = some ⟨b, off, none⟩ := by simpa using (Value.slice.inj e).1
    simpa using this
  refine ⟨V, off, rfl, hn, ?_⟩
  have hlt : V < w.heap.size := cell_in hc
  have e2 : w'.heap[V]? = w.heap[V]? := hg.block V hlt (fun e => hne e.symm)
  simp only [World.cell?, e2] at hc ⊢
  exact hc
theorem lits_apart {w : World} {F : Nat → Prop} {V c n base : Nat} {l : List Int} {o : Option Addr} {vc : Nat} {vals : List Value} (h : LitsAt F w (.slice (some ⟨V, 0, none⟩) 8 c) l) (hl : 0 < l.length) (hown : w.ownsRow base 30 1 (.slice o n vc) n vals) (hn : vals.length = n) (hv : ∀ (k : Nat) (v : Value), vals[k]? = some v → ∃ V c, v = .slice (some ⟨V, 0, none⟩) 8 c) (h0 : 0 < n) : (Value.slice o n vc).ownBlock ≠ some V := fun hk => by
  obtain ⟨g, cap, e, _, _⟩ := hown.form h0
  obtain ⟨rfl, rfl⟩ : o = some ⟨g, 0, none⟩ ∧ vc = cap := by simpa using e
  have : V = g := by simpa [Value.ownBlock] using hk.symm
  subst this
  obtain ⟨v, hv0⟩ : ∃ v, vals[0]? = some v := ⟨_, List.getElem?_eq_getElem (by omega)⟩
  obtain ⟨x, hx⟩ : ∃ x, l[0]? = some x := ⟨_, List.getElem?_eq_getElem hl⟩
  have hadd' : (⟨V, 0, none⟩ : Addr).add 0 = ⟨V, 0, none⟩ := by unfold Addr.add; split <;> simp_all
  have h1 := hown.cells (g := V) rfl 0 v hv0
  rw [hadd'] at h1
  obtain ⟨b, off, e2, _, h2⟩ := h.at hx
  obtain ⟨rfl, rfl⟩ : V = b ∧ 0 = off := by simpa using e2
  have h3 := (h2 F w (Mvd.refl _ _)).2
  rw [h1] at h3
  obtain ⟨V', c', rfl⟩ := hv 0 v hv0
  simp at h3
/-- The literals of a word so far. -/
def inpT (i j : Nat) : List Int := (List.range j).map fun j => 2 * ((8 * i + j : Nat) : Int) + 2
theorem inpT_succ (i j : Nat) : inpT i (j + 1) = inpT i j ++ [2 * ((8 * i + j : Nat) : Int) + 2] := by simp [inpT, List.range_succ]
end Go.Proofs.YtgcaohpaopemnaaDoor
