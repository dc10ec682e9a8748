/-
  lustrumlaw3.made of + and * BY CONTRACT.
-/
import Derived.Test.YtpiglmaojonbnaaDoorP33
import Derived.Test.YtpiglmaojonbnaaDoorP15
import Derived.Test.YtpiglmaojonbnaaDoorP22
import Derived.Handy
import Derived.Test.YtpiglmaojonbnaaDoorP03
import Derived.Deep.QuietTactic
import Derived.BigQuiet
import Derived.WalkSmall
import Derived.Test.YtpiglmaojonbnaaDoorP06
namespace Go.Proofs.YtpiglmaojonbnaaDoor
open Go.RowKit Go.Maps

theorem kinds_two {a b : List Int} (ha : a.length = 8) (hb : b.length = 8) : [a, b].map kindL = [2, 2] := by simp [kindL, ha, hb]
theorem ask_plus {a b : List Int} (ha : a.length = 8) (hb : b.length = 8) : askB [43] [a, b] = true := by
  unfold askB
  rw [kinds_two ha hb]
  have : (resK [43] [2, 2]).isSome = true := by decide
  rw [this]; rfl
theorem ask_times {a b : List Int} (ha : a.length = 8) (hb : b.length = 8) : askB [42] [a, b] = true := by
  unfold askB
  rw [kinds_two ha hb]
  have : (resK [42] [2, 2]).isSome = true := by decide
  rw [this]; rfl
/-- What 'made' answers. -/
def MadeP (G : Nat) (gs : List (Int × Int)) (ins K : Nat) (f : List Bool → Nat → Bool) (F : Nat → Prop) (w : World) (e : Ending) (w' : World) : Prop :=
  ∃ (V : Nat) (out : List Int) (gs' : List (Int × Int)) (F' : Nat → Prop), e = .returned (.slice (some ⟨V, 0, none⟩) 8 8) ∧ out.length = 8 ∧ w.heap.size ≤ V ∧ w'.heap[V]? = some (.cells (rowI out) 34 (0, 0)) ∧ ¬ F' V ∧ GrAt G gs' ins F' w' ∧ Mvd F F' w w' ∧ Mads gs gs' K out f
theorem words_two {F : Nat → Prop} {w : World} {oa ob : Option Addr} {ca cb : Nat} {a b : List Int} (hA : LitsAt F w (.slice oa 8 ca) a) (hB : LitsAt F w (.slice ob 8 cb) b) (ha : a.length = 8) (hb : b.length = 8) (hF : ∀ k, F k → k < w.heap.size) (t : TypeId) :
    WordsAt F (w.alloc (.cells #[.slice oa 8 ca, .slice ob 8 cb] t)) (.slice (some ⟨w.heap.size, 0, none⟩) 2 2) [a, b] := by
  have hm : Mvd F F w (w.alloc (.cells #[.slice oa 8 ca, .slice ob 8 cb] t)) := Mvd.of_below ((Below.refl _ _).alloc (Nat.le_refl _) _)
  refine ⟨by simp, _, _, rfl, fun k l hk => ?_⟩
  rcases k with _ | _ | k
  · simp at hk; subst hk
    refine ⟨w.heap.size, 0, oa, ca, rfl, fun hf => by have := hF _ hf; omega, ?_, ?_⟩
    · rw [ha]; simp
    · rw [ha]; exact hA.move hm
  · simp at hk; subst hk
    refine ⟨w.heap.size, 0, ob, cb, rfl, fun hf => by have := hF _ hf; omega, ?_, ?_⟩
    · rw [hb]; simp
    · rw [hb]; exact hB.move hm
  · simp at hk
end Go.Proofs.YtpiglmaojonbnaaDoor

/-
  lustrumlaw3.wordsOf BY CONTRACT: inputs as words.
-/
namespace Go.Proofs.YtpiglmaojonbnaaDoor
open Go.RowKit Go.Maps

/-- So many inputs; the i-th word of them. -/
def inps (n : Nat) : List (Int × Int) := List.replicate n (0, 0)
def inpW (i : Nat) : List Int := (List.range 8).map fun j => 2 * ((8 * i + j : Nat) : Int) + 2
theorem inps_succ (n : Nat) : inps n ++ [(0, 0)] = inps (n + 1) := by unfold inps; rw [← List.replicate_succ']
theorem inps_length (n : Nat) : (inps n).length = n := by simp [inps]
theorem inps_cnt (n : Nat) : cntI (inps n) = n := by
  unfold cntI inps
  have : inpB ((0 : Int), (0 : Int)) = true := by decide
  rw [List.filter_replicate, if_pos this, List.length_replicate]
theorem inps_val {n m : Nat} (h : m < n) (inp : List Bool) : valL (inps n) inp (2 * (m : Int) + 2) = inp.getD m false := by
  have e : inps n = inps m ++ [(0, 0)] ++ inps (n - (m + 1)) := by
    rw [inps_succ]
    unfold inps
    rw [List.replicate_append_replicate]
    congr 1
    omega
  rw [e, val_more _ _ inp (by unfold HasL; rw [List.length_append, inps_length]; simp; omega)]
  have := val_input (inps m) inp
  rw [inps_length, inps_cnt] at this
  exact this
theorem inpW_length (i : Nat) : (inpW i).length = 8 := by simp [inpW]
theorem inpW_get {i j : Nat} {x : Int} (h : (inpW i)[j]? = some x) : j < 8 ∧ x = 2 * ((8 * i + j : Nat) : Int) + 2 := by
  have hl := (List.getElem?_eq_some_iff.1 h).1
  rw [inpW_length] at hl
  unfold inpW at h
  rw [List.getElem?_map, List.getElem?_range hl] at h
  simp at h
  exact ⟨hl, by omega⟩
theorem inpW_has {i n : Nat} (hi : 8 * i + 8 ≤ n) : ∀ x ∈ inpW i, HasL (inps n) x := fun x hx => by
  obtain ⟨j, hj, rfl⟩ := List.mem_map.1 hx
  have := List.mem_range.1 hj
  unfold HasL
  rw [inps_length]
  omega
theorem Tryd.infoLits : (Tryd.prog.info? 31).map (fun i => (i.zero, i.size, i.bytes)) = some (some (.slice none 0 0), 1, 24) := by kernel_rfl
theorem owns_move {w w' : World} {F F' : Nat → Prop} {base size n : Nat} {e : TypeId} {v : Value} {xs : List Value} (h : w.ownsRow base e size v n xs) (hm : Mvd F F' w w') (hn : ∀ k, v.ownBlock = some k → ¬ F k) : w'.ownsRow base e size v n xs ∧ ∀ k, v.ownBlock = some k → ¬ F' k := by
  have hlt : ∀ k, v.ownBlock = some k → k < w.heap.size := fun k hk => by
    obtain ⟨_, h2⟩ := h
    rcases h2 with ⟨rfl, _⟩ | ⟨g, cap, cur, rfl, _, hg, _⟩
    · simp [Value.ownBlock] at hk
    · simp [Value.ownBlock] at hk; subst hk; exact (Array.getElem?_eq_some_iff.1 hg).1
  refine ⟨owns_keep h (fun k hk => hm.block k (hlt k hk) (hn k hk)), fun k hk hf => ?_⟩
  rcases hm.more k hf with h1 | h1
  · exact hn k hk h1
  · have := hlt k hk; omega
/-- An append moves nothing of the graph's. -/
theorem grown_mvd {F : Nat → Prop} {w0 w w' : World} {row : Option Nat} (h : Mvd F F w0 w) (hg : w.grownBy w' row) (hr : ∀ k, row = some k → w0.heap.size ≤ k) : Mvd F F w0 w' :=
  ⟨hg.os.trans h.os, hg.tape.trans h.tape, hg.output.trans h.output, Nat.le_trans h.size hg.size, fun k hk hn => by
    rw [hg.block k (Nat.lt_of_lt_of_le hk h.size) (fun e => by have := hr k e.symm; omega)]; exact h.block k hk hn, fun k hk => .inl hk⟩
theorem grown_gr {G : Nat} {gs : List (Int × Int)} {ins : Nat} {F : Nat → Prop} {w w' : World} {row : Option Nat} (h : GrAt G gs ins F w) (hg : w.grownBy w' row) (hr : ∀ k, row = some k → ¬ F k) : GrAt G gs ins F w' :=
  h.keep (fun k hk => hg.block k (h.2.2.1 k hk) (fun e => hr k e.symm hk)) (fun _ hk => hk) (fun k hk => Nat.lt_of_lt_of_le (h.2.2.1 k hk) hg.size)
theorem lits_of_owns {w : World} {F : Nat → Prop} {base n : Nat} {o : Option Addr} {c : Nat} {l : List Int} (h : w.ownsRow base 34 1 (.slice o n c) n (l.map (Value.int .i64))) (hn : l.length = n) (hm : n ≤ 1000) (h0 : 0 < n) (hF : ∀ k, (Value.slice o n c).ownBlock = some k → ¬ F k) : ∃ g, o = some ⟨g, 0, none⟩ ∧ LitsAt F w (.slice o n c) l := by
  subst hn
  obtain ⟨g, cap, e, _, _⟩ := h.form (by omega)
  obtain ⟨rfl, rfl⟩ : o = some ⟨g, 0, none⟩ ∧ c = cap := by simpa using e
  refine ⟨g, rfl, hm, _, c, rfl, fun k x hk => ?_⟩
  have hadd' : ∀ j, (⟨g, 0, none⟩ : Addr).add j = ⟨g, 0 + j, none⟩ := fun j => by unfold Addr.add; split <;> simp_all
  refine ⟨g, 0, rfl, hF g rfl, ?_⟩
  rw [← hadd']
  exact h.cells (g := g) rfl k _ (by simp [hk])
theorem lits_grown {w w' : World} {F : Nat → Prop} {V n c : Nat} {l : List Int} {row : Option Nat} (h : LitsAt F w (.slice (some ⟨V, 0, none⟩) n c) l) (hg : w.grownBy w' row) (hne : row ≠ some V) : LitsAt F w' (.slice (some ⟨V, 0, none⟩) n c) l := by
  obtain ⟨hl, o', c', e, h⟩ := h
  refine ⟨hl, o', c', e, fun k x hk => ?_⟩
  obtain ⟨b, off, rfl, hn, hc⟩ := h k x hk
  obtain ⟨rfl, _⟩ : V = b ∧ 0 = off := by
    have : some (⟨V, 0, none⟩ : Addr) = some ⟨b, off, none⟩ := by simpa using (Value.slice.inj e).1
    simpa using this
  refine ⟨V, off, rfl, hn, ?_⟩
  have hlt : V < w.heap.size := cell_in hc
  have e2 : w'.heap[V]? = w.heap[V]? := hg.block V hlt (fun e => hne e.symm)
  simp only [World.cell?, e2] at hc ⊢
  exact hc
theorem lits_apart {w : World} {F : Nat → Prop} {V c n base : Nat} {l : List Int} {o : Option Addr} {vc : Nat} {vals : List Value} (h : LitsAt F w (.slice (some ⟨V, 0, none⟩) 8 c) l) (hl : 0 < l.length) (hown : w.ownsRow base 31 1 (.slice o n vc) n vals) (hn : vals.length = n) (hv : ∀ (k : Nat) (v : Value), vals[k]? = some v → ∃ V c, v = .slice (some ⟨V, 0, none⟩) 8 c) (h0 : 0 < n) : (Value.slice o n vc).ownBlock ≠ some V := fun hk => by
  obtain ⟨g, cap, e, _, _⟩ := hown.form h0
  obtain ⟨rfl, rfl⟩ : o = some ⟨g, 0, none⟩ ∧ vc = cap := by simpa using e
  have : V = g := by simpa [Value.ownBlock] using hk.symm
  subst this
  obtain ⟨v, hv0⟩ : ∃ v, vals[0]? = some v := ⟨_, List.getElem?_eq_getElem (by omega)⟩
  obtain ⟨x, hx⟩ : ∃ x, l[0]? = some x := ⟨_, List.getElem?_eq_getElem hl⟩
  have hadd' : (⟨V, 0, none⟩ : Addr).add 0 = ⟨V, 0, none⟩ := by unfold Addr.add; split <;> simp_all
  have h1 := hown.cells (g := V) rfl 0 v hv0
  rw [hadd'] at h1
  obtain ⟨b, off, e2, _, h2⟩ := h.at hx
  obtain ⟨rfl, rfl⟩ : V = b ∧ 0 = off := by simpa using e2
  have h3 := (h2 F w (Mvd.refl _ _)).2
  rw [h1] at h3
  obtain ⟨V', c', rfl⟩ := hv 0 v hv0
  simp at h3
/-- The literals of a word so far. -/
def inpT (i j : Nat) : List Int := (List.range j).map fun j => 2 * ((8 * i + j : Nat) : Int) + 2
theorem inpT_succ (i j : Nat) : inpT i (j + 1) = inpT i j ++ [2 * ((8 * i + j : Nat) : Int) + 2] := by simp [inpT, List.range_succ]
end Go.Proofs.YtpiglmaojonbnaaDoor

/-
  package word: bitsOf, numberOf, Value, Bits BY CONTRACT.
-/
namespace Go.Proofs.YtpiglmaojonbnaaDoor
open Go.RowKit Go.Maps

/-- A row of bools that is filled. -/
def rowQ (os : List Bool) (m : Nat) : List Bool := os ++ List.replicate (m - os.length) false
theorem rowQ_all {os : List Bool} {m : Nat} (h : os.length = m) : rowQ os m = os := by simp [rowQ, h]
theorem rowQ_at {os : List Bool} {m : Nat} (h : os.length < m) : (rowQ os m)[os.length]? = some false := by
  unfold rowQ
  rw [List.getElem?_append_right (Nat.le_refl _), Nat.sub_self, List.getElem?_replicate, if_pos (by omega)]
theorem rowQ_set {os : List Bool} {m : Nat} (h : os.length < m) (x : Bool) : (rowQ os m).set os.length x = rowQ (os ++ [x]) m := by
  unfold rowQ
  rw [List.set_append_right _ _ (Nat.le_refl _), Nat.sub_self]
  have : m - os.length = (m - (os ++ [x]).length) + 1 := by simp; omega
  rw [this, List.replicate_succ]
  simp
theorem rowQ_store {w : World} {V : Nat} {os : List Bool} {m : Nat} {t : TypeId} (hV : w.heap[V]? = some (.cells (rowB (rowQ os m)) t (0, 0))) (h : os.length < m) (x : Bool) :
    (w.setCell ⟨V, os.length, none⟩ (.bool x)).heap[V]? = some (.cells (rowB (rowQ (os ++ [x]) m)) t (0, 0)) := by
  rw [heap_setCell_at hV, rowB_set, rowQ_set h]
theorem rowQ_cell {w : World} {V : Nat} {os : List Bool} {m : Nat} {t : TypeId} (hV : w.heap[V]? = some (.cells (rowB (rowQ os m)) t (0, 0))) (h : os.length < m) : w.cell? ⟨V, os.length, none⟩ = some (.bool false) := by
  rw [cell_of_row w V _ _ t (0, 0) hV]; exact rowB_get (rowQ_at h)
/-- A number's bits. -/
def wordB (n : Int) (m : Nat) : List Bool := (List.range m).map (bitB n)
theorem wordB_succ (n : Int) (m : Nat) : wordB n (m + 1) = wordB n m ++ [bitB n m] := by simp [wordB, List.range_succ]
theorem wordB_length (n : Int) (m : Nat) : (wordB n m).length = m := by simp [wordB]
theorem wordB_get {n : Int} {m i : Nat} (h : i < m) : (wordB n m).getD i false = bitB n i := by simp [wordB, h]
theorem bits_or_new {n : Int} {i : Nat} (h0 : 0 ≤ n) (h1 : n < 2 ^ i) (hi : i < 62) : bits .or .i64 n (2 ^ i) = n + 2 ^ i := by
  have hp : (2 : Int) ^ i ≤ 2 ^ 61 := by
    have : (2 : Nat) ^ i ≤ 2 ^ 61 := Nat.pow_le_pow_right (by decide) (by omega)
    exact_mod_cast this
  have hq := two_pos i
  have e61 : (2 : Int) ^ 61 = 2305843009213693952 := by decide
  rw [e61] at hp
  obtain ⟨a, rfl⟩ := Int.eq_ofNat_of_zero_le h0
  have h1' : a < 2 ^ i := by exact_mod_cast h1
  have ha : (BitVec.ofInt 64 (a : Int)).toNat = a := by simp; omega
  have hb : (BitVec.ofInt 64 ((2 : Int) ^ i)).toNat = 2 ^ i := by
    have e : ((2 : Int) ^ i) = ((2 ^ i : Nat) : Int) := by simp
    rw [e] at hp ⊢
    simp; omega
  show IntKind.i64.wrap ((BitVec.ofInt 64 (a : Int) ||| BitVec.ofInt 64 (2 ^ i)).toNat : Int) = _
  have hor : a ||| 2 ^ i = a + 2 ^ i := by
    have := Nat.two_pow_add_eq_or_of_lt h1' 1
    rw [Nat.mul_one] at this
    rw [Nat.or_comm, ← this, Nat.add_comm]
  rw [BitVec.toNat_or, ha, hb, hor, IntKind.wrap_i64]
  have e : (((a + 2 ^ i : Nat)) : Int) = (a : Int) + 2 ^ i := by simp
  rw [e]
  omega
/-- The value of bits. -/
def valI (l : List Bool) : Int := let n := natF (fun i => l.getD i false) l.length; if l.length = 8 ∧ 128 ≤ n then n - 256 else n
def valK (l : List Bool) : Int := if l.length = 1 then 1 else 2
end Go.Proofs.YtpiglmaojonbnaaDoor

/-
  lustrumlaw3.coded BY ITS CONTRACT: an error's number is told.
-/
namespace Go.Proofs.YtpiglmaojonbnaaDoor
open Go.RowKit Go.Extern.Stop Go.Stop Go.Extern

theorem coded_nil (w : World) : Calls Tryd.prog 7 #[.nilIface, .int .i64 0] w fun e w' => e = .returned (.bool true) ∧ w' = w := by
  go_enter Tryd.func7, Tryd.ntmps7
  go_wp2_with (go_at_call 16; refine (code_nil _).mono ?_; rintro e w' ⟨rfl, rfl⟩)
  go_ret
  exact ⟨rfl, rfl⟩

set_option maxHeartbeats 1000000 in
theorem coded_str (a : Nat → Addr) (b : Addr) (m : Nat) (c : Int) (cb : Array Value) (tb : TypeId) (w : World) (S : Sents a w) (hrow : w.heap[b.block]? = some (.cells cb tb (0, 0))) (hm : m ≤ 9) (hlt : ∀ j, j < m → b ≠ a j) (heq : m < 9 → a m = b) (hc : c = codeOf m) :
    Calls Tryd.prog 7 #[.iface 141 (.pointer (some b)), .int .i64 c] w fun e w' => e = .returned (.bool true) ∧ Below w.heap.size w w' := by
  subst hc
  go_enter Tryd.func7, Tryd.ntmps7
  go_wp2_with (go_at_call 16; refine (code_str a b m cb tb _ S hrow hm hlt heq).mono ?_; rintro e w' ⟨rfl, hb⟩)
  go_ret
  exact ⟨rfl, hb⟩
end Go.Proofs.YtpiglmaojonbnaaDoor

/-
  A NEW GRAPH; A SENTINEL's NUMBER.
-/
namespace Go.Proofs.YtpiglmaojonbnaaDoor
open Go.RowKit Go.Maps

theorem new_graph (w : World) (t : TypeId) : GrAt w.heap.size [] 0 (fun k => k = w.heap.size) (w.alloc (.cells #[.slice none 0 0, .map none, .int .i64 0] t)) :=
  ⟨Gs.nil, rfl, fun k hk => by rw [hk]; simp, t, .slice none 0 0, .map none, heap_alloc_new _ _, World.ownsRow_nil _ _ _ _, fun k hk => by simp [Value.ownBlock] at hk, .inl ⟨rfl, fun p hp => by simp at hp⟩⟩
theorem coded_sent {a : Nat → Addr} {w : World} (S : Sents a w) (k : Nat) (hk : k < 9) :
    Calls Tryd.prog 7 #[.iface 141 (.pointer (some (a k))), .int .i64 ((k : Int) + 1)] w fun e w' => e = .returned (.bool true) ∧ Below w.heap.size w w' := by
  obtain ⟨c, t, hr⟩ := S.row k hk
  exact coded_str a (a k) k _ c t w S hr (by omega) (fun j hj => S.inj k j hk (by omega) (by omega)) (fun _ => rfl) (codeOf_in hk).symm
theorem coded_shape {a : Nat → Addr} {w : World} (S : Sents a w) :
    Calls Tryd.prog 7 #[.iface 141 (.pointer (some (a 2))), .int .i64 3] w fun e w' => e = .returned (.bool true) ∧ Below w.heap.size w w' := coded_sent S 2 (by omega)
end Go.Proofs.YtpiglmaojonbnaaDoor
