/-
  lustrumlaw3.made of + and * BY CONTRACT.
-/
import Derived.Test.YtpiglmaojonbnaaGreatDoorP20
import Derived.Test.YtpiglmaojonbnaaGreatDoorP10
import Derived.Test.YtpiglmaojonbnaaGreatDoorP12
import Derived.Handy
namespace Go.Proofs.YtpiglmaojonbnaaGreatDoor
open Go.RowKit Go.Maps

theorem kinds_two {a b : List Int} (ha : a.length = 8) (hb : b.length = 8) : [a, b].map kindL = [2, 2] := by simp [kindL, ha, hb]
theorem ask_plus {a b : List Int} (ha : a.length = 8) (hb : b.length = 8) : askB [43] [a, b] = true := by
  unfold askB
  rw [kinds_two ha hb]
  have : (resK [43] [2, 2]).isSome = true := by decide
  rw [this]; rfl
theorem ask_times {a b : List Int} (ha : a.length = 8) (hb : b.length = 8) : askB [42] [a, b] = true := by
  unfold askB
  rw [kinds_two ha hb]
  have : (resK [42] [2, 2]).isSome = true := by decide
  rw [this]; rfl
/-- What 'made' answers. -/
def MadeP (G : Nat) (gs : List (Int × Int)) (ins K : Nat) (f : List Bool → Nat → Bool) (F : Nat → Prop) (w : World) (e : Ending) (w' : World) : Prop :=
  ∃ (V : Nat) (out : List Int) (gs' : List (Int × Int)) (F' : Nat → Prop), e = .returned (.slice (some ⟨V, 0, none⟩) 8 8) ∧ out.length = 8 ∧ w.heap.size ≤ V ∧ w'.heap[V]? = some (.cells (rowI out) 39 (0, 0)) ∧ ¬ F' V ∧ GrAt G gs' ins F' w' ∧ Mvd F F' w w' ∧ Mads gs gs' K out f
theorem words_two {F : Nat → Prop} {w : World} {oa ob : Option Addr} {ca cb : Nat} {a b : List Int} (hA : LitsAt F w (.slice oa 8 ca) a) (hB : LitsAt F w (.slice ob 8 cb) b) (ha : a.length = 8) (hb : b.length = 8) (hF : ∀ k, F k → k < w.heap.size) (t : TypeId) :
    WordsAt F (w.alloc (.cells #[.slice oa 8 ca, .slice ob 8 cb] t)) (.slice (some ⟨w.heap.size, 0, none⟩) 2 2) [a, b] := by
  have hm : Mvd F F w (w.alloc (.cells #[.slice oa 8 ca, .slice ob 8 cb] t)) := Mvd.of_below ((Below.refl _ _).alloc (Nat.le_refl _) _)
  refine ⟨by simp, _, _, rfl, fun k l hk => ?_⟩
  rcases k with _ | _ | k
  · simp at hk; subst hk
    refine ⟨w.heap.size, 0, oa, ca, rfl, fun hf => by have := hF _ hf; omega, ?_, ?_⟩
    · rw [ha]; simp
    · rw [ha]; exact hA.move hm
  · simp at hk; subst hk
    refine ⟨w.heap.size, 0, ob, cb, rfl, fun hf => by have := hF _ hf; omega, ?_, ?_⟩
    · rw [hb]; simp
    · rw [hb]; exact hB.move hm
  · simp at hk
end Go.Proofs.YtpiglmaojonbnaaGreatDoor

/-
  lustrumlaw3.wordsOf BY CONTRACT: inputs as words.
-/
namespace Go.Proofs.YtpiglmaojonbnaaGreatDoor
open Go.RowKit Go.Maps

/-- So many inputs; the i-th word of them. -/
def inps (n : Nat) : List (Int × Int) := List.replicate n (0, 0)
def inpW (i : Nat) : List Int := (List.range 8).map fun j => 2 * ((8 * i + j : Nat) : Int) + 2
theorem inps_succ (n : Nat) : inps n ++ [(0, 0)] = inps (n + 1) := by unfold inps; rw [← List.replicate_succ']
theorem inps_length (n : Nat) : (inps n).length = n := by simp [inps]
theorem inps_cnt (n : Nat) : cntI (inps n) = n := by
  unfold cntI inps
  have : inpB ((0 : Int), (0 : Int)) = true := by decide
  rw [List.filter_replicate, if_pos this, List.length_replicate]
theorem inps_val {n m : Nat} (h : m < n) (inp : List Bool) : valL (inps n) inp (2 * (m : Int) + 2) = inp.getD m false := by
  have e : inps n = inps m ++ [(0, 0)] ++ inps (n - (m + 1)) := by
    rw [inps_succ]
    unfold inps
    rw [List.replicate_append_replicate]
    congr 1
    omega
  rw [e, val_more _ _ inp (by unfold HasL; rw [List.length_append, inps_length]; simp; omega)]
  have := val_input (inps m) inp
  rw [inps_length, inps_cnt] at this
  exact this
theorem inpW_length (i : Nat) : (inpW i).length = 8 := by simp [inpW]
theorem inpW_get {i j : Nat} {x : Int} (h : (inpW i)[j]? = some x) : j < 8 ∧ x = 2 * ((8 * i + j : Nat) : Int) + 2 := by
  have hl := (List.getElem?_eq_some_iff.1 h).1
  rw [inpW_length] at hl
  unfold inpW at h
  rw [List.getElem?_map, List.getElem?_range hl] at h
  simp at h
  exact ⟨hl, by omega⟩
theorem inpW_has {i n : Nat} (hi : 8 * i + 8 ≤ n) : ∀ x ∈ inpW i, HasL (inps n) x := fun x hx => by
  obtain ⟨j, hj, rfl⟩ := List.mem_map.1 hx
  have := List.mem_range.1 hj
  unfold HasL
  rw [inps_length]
  omega
theorem Tryz.infoLits : (Tryz.prog.info? 38).map (fun i => (i.zero, i.size, i.bytes)) = some (some (.slice none 0 0), 1, 24) := by kernel_rfl
theorem owns_move {w w' : World} {F F' : Nat → Prop} {base size n : Nat} {e : TypeId} {v : Value} {xs : List Value} (h : w.ownsRow base e size v n xs) (hm : Mvd F F' w w') (hn : ∀ k, v.ownBlock = some k → ¬ F k) : w'.ownsRow base e size v n xs ∧ ∀ k, v.ownBlock = some k → ¬ F' k := by
  have hlt : ∀ k, v.ownBlock = some k → k < w.heap.size := fun k hk => by
    obtain ⟨_, h2⟩ := h
    rcases h2 with ⟨rfl, _⟩ | ⟨g, cap, cur, rfl, _, hg, _⟩
    · simp [Value.ownBlock] at hk
    · simp [Value.ownBlock] at hk; subst hk; exact (Array.getElem?_eq_some_iff.1 hg).1
  refine ⟨owns_keep h (fun k hk => hm.block k (hlt k hk) (hn k hk)), fun k hk hf => ?_⟩
  rcases hm.more k hf with h1 | h1
  · exact hn k hk h1
  · have := hlt k hk; omega
/-- An append moves nothing of the graph's. -/
theorem grown_mvd {F : Nat → Prop} {w0 w w' : World} {row : Option Nat} (h : Mvd F F w0 w) (hg : w.grownBy w' row) (hr : ∀ k, row = some k → w0.heap.size ≤ k) : Mvd F F w0 w' :=
  ⟨hg.os.trans h.os, hg.tape.trans h.tape, hg.output.trans h.output, Nat.le_trans h.size hg.size, fun k hk hn => by
    rw [hg.block k (Nat.lt_of_lt_of_le hk h.size) (fun e => by have := hr k e.symm; omega)]; exact h.block k hk hn, fun k hk => .inl hk⟩
theorem grown_gr {G : Nat} {gs : List (Int × Int)} {ins : Nat} {F : Nat → Prop} {w w' : World} {row : Option Nat} (h : GrAt G gs ins F w) (hg : w.grownBy w' row) (hr : ∀ k, row = some k → ¬ F k) : GrAt G gs ins F w' :=
  h.keep (fun k hk => hg.block k (h.2.2.1 k hk) (fun e => hr k e.symm hk)) (fun _ hk => hk) (fun k hk => Nat.lt_of_lt_of_le (h.2.2.1 k hk) hg.size)
theorem lits_of_owns {w : World} {F : Nat → Prop} {base n : Nat} {o : Option Addr} {c : Nat} {l : List Int} (h : w.ownsRow base 39 1 (.slice o n c) n (l.map (Value.int .i64))) (hn : l.length = n) (hm : n ≤ 1000) (h0 : 0 < n) (hF : ∀ k, (Value.slice o n c).ownBlock = some k → ¬ F k) : ∃ g, o = some ⟨g, 0, none⟩ ∧ LitsAt F w (.slice o n c) l := by
  subst hn
  obtain ⟨g, cap, e, _, _⟩ := h.form (by omega)
  obtain ⟨rfl, rfl⟩ : o = some ⟨g, 0, none⟩ ∧ c = cap := by simpa using e
  refine ⟨g, rfl, hm, _, c, rfl, fun k x hk => ?_⟩
  have hadd' : ∀ j, (⟨g, 0, none⟩ : Addr).add j = ⟨g, 0 + j, none⟩ := fun j => by unfold Addr.add; split <;> simp_all
  refine ⟨g, 0, rfl, hF g rfl, ?_⟩
  rw [← hadd']
  exact h.cells (g := g) rfl k _ (by simp [hk])
theorem lits_grown {w w' : World} {F : Nat → Prop} {V n c : Nat} {l : List Int} {row : Option Nat} (h : LitsAt F w (.slice (some ⟨V, 0, none⟩) n c) l) (hg : w.grownBy w' row) (hne : row ≠ some V) : LitsAt F w' (.slice (some ⟨V, 0, none⟩) n c) l := by
  obtain ⟨hl, o', c', e, h⟩ := h
  refine ⟨hl, o', c', e, fun k x hk => ?_⟩
  obtain ⟨b, off, rfl, hn, hc⟩ := h k x hk
  obtain ⟨rfl, _⟩ : V = b ∧ 0 = off := by
    have : some (⟨V, 0, none⟩ : Addr) = some ⟨b, off, none⟩ := by simpa using (Value.slice.inj e).1
    simpa using this
  refine ⟨V, off, rfl, hn, ?_⟩
  have hlt : V < w.heap.size := cell_in hc
  have e2 : w'.heap[V]? = w.heap[V]? := hg.block V hlt (fun e => hne e.symm)
  simp only [World.cell?, e2] at hc ⊢
  exact hc
theorem lits_apart {w : World} {F : Nat → Prop} {V c n base : Nat} {l : List Int} {o : Option Addr} {vc : Nat} {vals : List Value} (h : LitsAt F w (.slice (some ⟨V, 0, none⟩) 8 c) l) (hl : 0 < l.length) (hown : w.ownsRow base 38 1 (.slice o n vc) n vals) (hn : vals.length = n) (hv : ∀ (k : Nat) (v : Value), vals[k]? = some v → ∃ V c, v = .slice (some ⟨V, 0, none⟩) 8 c) (h0 : 0 < n) : (Value.slice o n vc).ownBlock ≠ some V := fun hk => by
  obtain ⟨g, cap, e, _, _⟩ := hown.form h0
  obtain ⟨rfl, rfl⟩ : o = some ⟨g, 0, none⟩ ∧ vc = cap := by simpa using e
  have : V = g := by simpa [Value.ownBlock] using hk.symm
  subst this
  obtain ⟨v, hv0⟩ : ∃ v, vals[0]? = some v := ⟨_, List.getElem?_eq_getElem (by omega)⟩
  obtain ⟨x, hx⟩ : ∃ x, l[0]? = some x := ⟨_, List.getElem?_eq_getElem hl⟩
  have hadd' : (⟨V, 0, none⟩ : Addr).add 0 = ⟨V, 0, none⟩ := by unfold Addr.add; split <;> simp_all
  have h1 := hown.cells (g := V) rfl 0 v hv0
  rw [hadd'] at h1
  obtain ⟨b, off, e2, _, h2⟩ := h.at hx
  obtain ⟨rfl, rfl⟩ : V = b ∧ 0 = off := by simpa using e2
  have h3 := (h2 F w (Mvd.refl _ _)).2
  rw [h1] at h3
  obtain ⟨V', c', rfl⟩ := hv 0 v hv0
  simp at h3
/-- The literals of a word so far. -/
def inpT (i j : Nat) : List Int := (List.range j).map fun j => 2 * ((8 * i + j : Nat) : Int) + 2
theorem inpT_succ (i j : Nat) : inpT i (j + 1) = inpT i j ++ [2 * ((8 * i + j : Nat) : Int) + 2] := by simp [inpT, List.range_succ]
end Go.Proofs.YtpiglmaojonbnaaGreatDoor

/-
  package word: bitsOf, numberOf, Value, Bits BY CONTRACT.
-/
namespace Go.Proofs.YtpiglmaojonbnaaGreatDoor
open Go.RowKit Go.Maps

/-- A row of bools that is filled. -/
def rowQ (os : List Bool) (m : Nat) : List Bool := os ++ List.replicate (m - os.length) false
theorem rowQ_all {os : List Bool} {m : Nat} (h : os.length = m) : rowQ os m = os := by simp [rowQ, h]
theorem rowQ_at {os : List Bool} {m : Nat} (h : os.length < m) : (rowQ os m)[os.length]? = some false := by
  unfold rowQ
  rw [List.getElem?_append_right (Nat.le_refl _), Nat.sub_self, List.getElem?_replicate, if_pos (by omega)]
theorem rowQ_set {os : List Bool} {m : Nat} (h : os.length < m) (x : Bool) : (rowQ os m).set os.length x = rowQ (os ++ [x]) m := by
  unfold rowQ
  rw [List.set_append_right _ _ (Nat.le_refl _), Nat.sub_self]
  have : m - os.length = (m - (os ++ [x]).length) + 1 := by simp; omega
  rw [this, List.replicate_succ]
  simp
theorem rowQ_store {w : World} {V : Nat} {os : List Bool} {m : Nat} {t : TypeId} (hV : w.heap[V]? = some (.cells (rowB (rowQ os m)) t (0, 0))) (h : os.length < m) (x : Bool) :
    (w.setCell ⟨V, os.length, none⟩ (.bool x)).heap[V]? = some (.cells (rowB (rowQ (os ++ [x]) m)) t (0, 0)) := by
  rw [heap_setCell_at hV, rowB_set, rowQ_set h]
theorem rowQ_cell {w : World} {V : Nat} {os : List Bool} {m : Nat} {t : TypeId} (hV : w.heap[V]? = some (.cells (rowB (rowQ os m)) t (0, 0))) (h : os.length < m) : w.cell? ⟨V, os.length, none⟩ = some (.bool false) := by
  rw [cell_of_row w V _ _ t (0, 0) hV]; exact rowB_get (rowQ_at h)
/-- A number's bits. -/
def wordB (n : Int) (m : Nat) : List Bool := (List.range m).map (bitB n)
theorem wordB_succ (n : Int) (m : Nat) : wordB n (m + 1) = wordB n m ++ [bitB n m] := by simp [wordB, List.range_succ]
theorem wordB_length (n : Int) (m : Nat) : (wordB n m).length = m := by simp [wordB]
theorem wordB_get {n : Int} {m i : Nat} (h : i < m) : (wordB n m).getD i false = bitB n i := by simp [wordB, h]
set_option maxRecDepth 100000 in
set_option maxHeartbeats 1000000 in
theorem bitsOf_any (n : Int) (m : Nat) (hm : m ≤ 8) (w : World) :
    Calls Tryz.prog 15 #[.int .i64 n, .int .i64 m] w fun e w' => e = .returned (.slice (some ⟨w.heap.size, 0, none⟩) m m) ∧ w'.heap[w.heap.size]? = some (.cells (rowB (wordB n m)) 4 (0, 0)) ∧ Below w.heap.size w w' := by
  obtain ⟨i0, hi0, hz0, hz1, hz2⟩ := info_parts Tryz.infoBool
  have HBY : Hid (i0.bytes * m ≤ 281474976710656) := by unfold Hid; rw [hz2]; omega
  have HMX : Hid (m ≤ maxLen) := by unfold Hid maxLen; omega
  have HM8 : Hid (m ≤ 8) := hm
  clear hm
  go_enter Tryz.func15, Tryz.ntmps15
  go_wp2_with (first
    | (at_make; refine wpList_make_full _ rfl _ _ 33 rfl 0 4 i0 _ 1 Tryz.underlying33 hi0 hz0 hz1 .i64 .i64 _ _ m rfl rfl (by simp) (by simp) HBY.out HMX.out (Nat.zero_le _) ?_; intro w1 hown1 hgr1)
    | go_in)
  have hV1 := made_bools hown1
  have HR1 : Hid (w1.heap[w.heap.size]? = some (.cells (rowB (rowQ (wordB n 0) m)) 4 (0, 0))) := hV1
  have HB1 : Hid (Below w.heap.size w w1) := ⟨hgr1.os, hgr1.tape, hgr1.output, hgr1.size, fun k hk => hgr1.block k hk (by simp)⟩
  clear hown1 hgr1 hV1 hi0 hz0 hz1 hz2 HBY HMX
  go_loopw [11] (fun t wr => ∃ j : Nat, j ≤ m ∧ t = .int .i64 j ∧ wr.heap[w.heap.size]? = some (.cells (rowB (rowQ (wordB n j) m)) 4 (0, 0)) ∧ Below w.heap.size w wr) (fun t _ => m - (intOf t).toNat)
  case atStart => exact ⟨0, Nat.zero_le _, rfl, HR1.out, HB1.out⟩
  case round =>
    obtain ⟨j, hj, rfl, hrow, hb⟩ := hrel
    have HR : Hid (wr.heap[w.heap.size]? = some (.cells (rowB (rowQ (wordB n j) m)) 4 (0, 0))) := hrow
    have HW : Hid (Below w.heap.size w wr) := hb
    by_cases hjl : j < m
    · have hlj : (wordB n j).length < m := by rw [wordB_length]; exact hjl
      have c0 := rowQ_cell hrow hlj
      have f0 : wr.frozen? ⟨w.heap.size, j, none⟩ = false := frozen_row hrow
      have hst := rowQ_store hrow hlj (bitI n j == 1)
      rw [wordB_length] at c0 hst
      have e2 : wordB n j ++ [bitI n j == 1] = wordB n (j + 1) := (wordB_succ n j).symm
      rw [e2] at hst
      have HST : Hid _ := hst
      have i0' : (0 : Int) ≤ (j : Int) := by omega
      have i1' : (j : Int) < (m : Int) := by omega
      have N4 : Hid (wrap64 ((j : Int) + 1) = (j : Int) + 1) := by have := HM8.out; unfold Hid wrap64; omega
      have HJ : Hid (j < m) := hjl
      have HJ6 : Hid (j < 64) := by have := HM8.out; unfold Hid; omega
      clear hj hrow hb hjl hlj hst e2
      go_wp2_with (go_at_call 31; refine (bitOf_any n j HJ6.out _).mono ?_; rintro e w' ⟨rfl, hw⟩; have hw2 := hw.symm; subst hw2)
      exact ⟨⟨j + 1, HJ.out, by rw [N4.out]; rfl, HST.out, HW.out.setCell (Nat.le_refl _) _⟩, by rw [N4.out]; have := HJ.out; simp [intOf]; omega⟩
    · obtain rfl : j = m := by omega
      rw [rowQ_all (wordB_length n j)] at hrow
      have HR' : Hid _ := hrow
      clear hrow hb HR
      go_wp2
      go_ret
      exact ⟨rfl, HR'.out, HW.out⟩
theorem bits_or_new {n : Int} {i : Nat} (h0 : 0 ≤ n) (h1 : n < 2 ^ i) (hi : i < 62) : bits .or .i64 n (2 ^ i) = n + 2 ^ i := by
  have hp : (2 : Int) ^ i ≤ 2 ^ 61 := by
    have : (2 : Nat) ^ i ≤ 2 ^ 61 := Nat.pow_le_pow_right (by decide) (by omega)
    exact_mod_cast this
  have hq := two_pos i
  have e61 : (2 : Int) ^ 61 = 2305843009213693952 := by decide
  rw [e61] at hp
  obtain ⟨a, rfl⟩ := Int.eq_ofNat_of_zero_le h0
  have h1' : a < 2 ^ i := by exact_mod_cast h1
  have ha : (BitVec.ofInt 64 (a : Int)).toNat = a := by simp; omega
  have hb : (BitVec.ofInt 64 ((2 : Int) ^ i)).toNat = 2 ^ i := by
    have e : ((2 : Int) ^ i) = ((2 ^ i : Nat) : Int) := by simp
    rw [e] at hp ⊢
    simp; omega
  show IntKind.i64.wrap ((BitVec.ofInt 64 (a : Int) ||| BitVec.ofInt 64 (2 ^ i)).toNat : Int) = _
  have hor : a ||| 2 ^ i = a + 2 ^ i := by
    have := Nat.two_pow_add_eq_or_of_lt h1' 1
    rw [Nat.mul_one] at this
    rw [Nat.or_comm, ← this, Nat.add_comm]
  rw [BitVec.toNat_or, ha, hb, hor, IntKind.wrap_i64]
  have e : (((a + 2 ^ i : Nat)) : Int) = (a : Int) + 2 ^ i := by simp
  rw [e]
  omega
set_option maxRecDepth 100000 in
set_option maxHeartbeats 1000000 in
theorem numberOf_any (v : Value) (l : List Bool) (w : World) (hv : BoolsAt w v l) (hl : l.length ≤ 8) :
    Calls Tryz.prog 30 #[v] w fun e w' => e = .returned (.int .i64 (natF (fun i => l.getD i false) l.length)) ∧ w' = w := by
  obtain ⟨_, o, c, rfl, hc⟩ := hv
  have HC : Hid (∀ k x, l[k]? = some x → ∃ b off, o = some ⟨b, off, none⟩ ∧ w.cell? ⟨b, off + k, none⟩ = some (.bool x)) := hc
  have HL : Hid (l.length ≤ 8) := hl
  clear hc hl
  go_enter Tryz.func30, Tryz.ntmps30
  go_wp2
  go_loop [3, 8] (fun n t => ∃ j : Nat, j ≤ l.length ∧ t = .int .i64 j ∧ n = .int .i64 (natF (fun i => l.getD i false) j)) (fun _ t => l.length - (intOf t).toNat)
  case atStart => exact ⟨0, Nat.zero_le _, rfl, rfl⟩
  case round =>
    obtain ⟨j, hj, rfl, rfl⟩ := hrel
    by_cases hjl : j < l.length
    · obtain ⟨x, hx⟩ : ∃ x, l[j]? = some x := ⟨_, List.getElem?_eq_getElem hjl⟩
      obtain ⟨b, off, rfl, hcx⟩ := HC.out j x hx
      have i0' : (0 : Int) ≤ (j : Int) := by omega
      have i1' : (j : Int) < (l.length : Int) := by omega
      have i2' : (j : Int) ≤ 64 := by have := HL.out; omega
      have i3' : ((j : Int)).toNat = j := by omega
      have hlt := natF_lt (fun i => l.getD i false) j
      have hor := bits_or_new hlt.1 hlt.2 (by have := HL.out; omega)
      have hp : (2 : Int) ^ j ≤ 2 ^ 8 := by
        have : (2 : Nat) ^ j ≤ 2 ^ 8 := Nat.pow_le_pow_right (by decide) (by have := HL.out; omega)
        exact_mod_cast this
      have e8 : (2 : Int) ^ 8 = 256 := by decide
      rw [e8] at hp
      have hwp : wrap64 ((2 : Int) ^ j) = 2 ^ j := by have := two_pos j; unfold wrap64; omega
      have hnx : natF (fun i => l.getD i false) (j + 1) = natF (fun i => l.getD i false) j + bI x * 2 ^ j := by
        show natF _ j + bI (l.getD j false) * 2 ^ j = _
        rw [List.getD_eq_getElem?_getD, hx]; rfl
      obtain ⟨p, hpp⟩ : ∃ p, p = natF (fun i => l.getD i false) j := ⟨_, rfl⟩
      rw [← hpp] at hor hnx
      rw [← hpp]
      have HN : Hid (natF (fun i => l.getD i false) (j + 1) = p + bI x * 2 ^ j) := hnx
      have HJ : Hid (j < l.length) := hjl
      clear hx hj hjl hlt hp e8 hpp hnx
      cases x
      · go_wp2
        exact ⟨⟨j + 1, HJ.out, rfl, by rw [HN.out]; simp [bI]⟩, by have := HJ.out; simp [intOf]; omega⟩
      · go_wp2
        exact ⟨⟨j + 1, HJ.out, rfl, by rw [HN.out]; simp [bI]⟩, by have := HJ.out; simp [intOf]; omega⟩
    · obtain rfl : j = l.length := by omega
      clear hj hjl
      go_wp2
      go_ret
      exact ⟨rfl, rfl⟩
/-- The value of bits. -/
def valI (l : List Bool) : Int := let n := natF (fun i => l.getD i false) l.length; if l.length = 8 ∧ 128 ≤ n then n - 256 else n
def valK (l : List Bool) : Int := if l.length = 1 then 1 else 2
set_option maxRecDepth 100000 in
set_option maxHeartbeats 1000000 in
theorem value_ok (v : Value) (l : List Bool) (w : World) (hv : BoolsAt w v l) (hl : l.length = 1 ∨ l.length = 8) :
    Calls Tryz.prog 13 #[v] w fun e w' => e = .returned (.tuple #[.agg #[.int .i64 (valK l), .int .i64 (valI l)], .nilIface]) ∧ Below w.heap.size w w' := by
  have HV : Hid (BoolsAt w v l) := hv
  obtain ⟨_, o, c, rfl, hc⟩ := hv
  have hlt := natF_lt (fun i => l.getD i false) l.length
  have hb1 : ∀ v, Below w.heap.size w (w.alloc v) := fun v => (Below.refl _ _).alloc (Nat.le_refl _) _
  have HB : Hid (∀ v, Below w.heap.size w (w.alloc v)) := hb1
  obtain ⟨p, hp⟩ : ∃ p, p = natF (fun i => l.getD i false) l.length := ⟨_, rfl⟩
  have HL8 : Hid (l.length ≤ 8) := by unfold Hid; omega
  have HN : Hid (∀ w', BoolsAt w' (.slice o l.length c) l → Calls Tryz.prog 30 #[.slice o l.length c] w' fun e w'' => e = .returned (.int .i64 p) ∧ w'' = w') := fun w' h => by
    rw [hp]; exact numberOf_any _ l w' h HL8.out
  clear hc hb1
  rcases hl with h1 | h1
  · have E1 : Hid (valK l = 1) := by unfold Hid valK; rw [if_pos h1]
    have E2 : Hid (valI l = p) := by unfold Hid valI; simp only [← hp]; rw [if_neg (by omega)]
    clear hp hlt
    rw [h1] at HV HN
    rw [h1]
    clear h1
    go_enter Tryz.func13, Tryz.ntmps13
    go_wp2_with (go_at_call 30; refine (HN.out _ (HV.out.below (HB.out _))).mono ?_; rintro e w' ⟨rfl, rfl⟩)
    go_returns
    rw [E1.out, E2.out]
    exact ⟨rfl, HB.out _⟩
  · have E1 : Hid (valK l = 2) := by unfold Hid valK; rw [if_neg (by omega)]
    rw [← hp] at hlt
    rw [h1] at hlt
    have e8 : (2 : Int) ^ 8 = 256 := by decide
    rw [e8] at hlt
    by_cases h2 : 128 ≤ p
    · have E2 : Hid (valI l = p - 256) := by unfold Hid valI; simp only [← hp]; rw [if_pos ⟨h1, h2⟩]
      have d2 : (128 ≤ p) = True := eq_true h2
      have n1 : wrap64 (p - 256) = p - 256 := by unfold wrap64; omega
      clear hp hlt h2 e8
      rw [h1] at HV HN
      rw [h1]
      clear h1
      go_enter Tryz.func13, Tryz.ntmps13
      go_wp2_with (go_at_call 30; refine (HN.out _ (HV.out.below (HB.out _))).mono ?_; rintro e w' ⟨rfl, rfl⟩)
      go_returns
      rw [E1.out, E2.out]
      exact ⟨rfl, HB.out _⟩
    · have E2 : Hid (valI l = p) := by unfold Hid valI; simp only [← hp]; rw [if_neg (fun h => h2 h.2)]
      have d2 : (128 ≤ p) = False := eq_false h2
      clear hp hlt h2 e8
      rw [h1] at HV HN
      rw [h1]
      clear h1
      go_enter Tryz.func13, Tryz.ntmps13
      go_wp2_with (go_at_call 30; refine (HN.out _ (HV.out.below (HB.out _))).mono ?_; rintro e w' ⟨rfl, rfl⟩)
      go_returns
      rw [E1.out, E2.out]
      exact ⟨rfl, HB.out _⟩
set_option maxRecDepth 100000 in
set_option maxHeartbeats 1000000 in
theorem value_bad (o : Option Addr) (n c : Nat) (hn : n ≠ 1 ∧ n ≠ 8) (w : World) (t : TypeId) (p : Value) (he : w.cell? ⟨1, 0, none⟩ = some (.iface t p)) :
    Calls Tryz.prog 13 #[.slice o n c] w fun e w' => e = .returned (.tuple #[.agg #[.int .i64 0, .int .i64 0], .iface t p]) ∧ Below w.heap.size w w' := by
  have d1 : ((n : Int) == 1) = false := by simp; omega
  have d2 : ((n : Int) == 8) = false := by simp; omega
  have hb1 : Below w.heap.size w (w.alloc (.cells #[.int .i64 0, .int .i64 0] 26)) := (Below.refl _ _).alloc (Nat.le_refl _) _
  have he1 := cell_keep hb1 he
  clear hn
  go_enter Tryz.func13, Tryz.ntmps13
  go_wp2
  go_region
  all_goals go_wp2
  all_goals go_returns
  all_goals exact ⟨rfl, hb1.drew⟩
set_option maxRecDepth 100000 in
set_option maxHeartbeats 1000000 in
theorem bits_ok (k n : Int) (h : rightB k n k = true) (w : World) :
    Calls Tryz.prog 6 #[.agg #[.int .i64 k, .int .i64 n]] w fun e w' => ∃ m V : Nat, e = .returned (.tuple #[.slice (some ⟨V, 0, none⟩) m m, .nilIface]) ∧ w.heap.size ≤ V ∧ w'.heap[V]? = some (.cells (rowB (wordB n m)) 4 (0, 0)) ∧ Below w.heap.size w w' ∧ (k = 1 ∧ m = 1 ∧ (n = 0 ∨ n = 1) ∨ k = 2 ∧ m = 8 ∧ -128 ≤ n ∧ n < 128) := by
  have hb1 : Below w.heap.size w (w.alloc (.cells #[.int .i64 k, .int .i64 n] 26)) := (Below.refl _ _).alloc (Nat.le_refl _) _
  have HB : Hid (Below w.heap.size w (w.alloc (.cells #[.int .i64 k, .int .i64 n] 26))) := hb1
  clear hb1
  by_cases h1 : k = 1
  · subst h1
    have hn : n = 0 ∨ n = 1 := by
      unfold rightB at h
      simpa using h
    clear h
    rcases hn with rfl | rfl
    · go_enter Tryz.func6, Tryz.ntmps6
      go_wp2_with (first
        | (go_at_call 16; refine (isInt_any _ _).mono ?_; rintro e w' ⟨rfl, rfl⟩)
        | (go_at_call 15; refine (bitsOf_any _ 1 (by omega) _).mono ?_; rintro e w' ⟨rfl, hV, hb⟩))
      go_ret2
      exact ⟨1, (w.alloc (.cells #[.int .i64 1, .int .i64 0] 26)).heap.size, by simp, by simp, hV, HB.out.trans (hb.mono (by simp)), by simp⟩
    · go_enter Tryz.func6, Tryz.ntmps6
      go_wp2_with (first
        | (go_at_call 16; refine (isInt_any _ _).mono ?_; rintro e w' ⟨rfl, rfl⟩)
        | (go_at_call 15; refine (bitsOf_any _ 1 (by omega) _).mono ?_; rintro e w' ⟨rfl, hV, hb⟩))
      go_ret2
      exact ⟨1, (w.alloc (.cells #[.int .i64 1, .int .i64 1] 26)).heap.size, by simp, by simp, hV, HB.out.trans (hb.mono (by simp)), by simp⟩
  · have h2 : k = 2 ∧ -128 ≤ n ∧ n < 128 := by
      unfold rightB at h
      rw [if_pos rfl, if_neg h1] at h
      simp only [Bool.and_eq_true, decide_eq_true_eq] at h
      omega
    obtain ⟨rfl, h3, h4⟩ := h2
    have hi : isB n = true := by unfold isB; simp [h3, h4]
    have HH : Hid (-128 ≤ n ∧ n < 128) := ⟨h3, h4⟩
    clear h h1 h3 h4
    go_enter Tryz.func6, Tryz.ntmps6
    go_wp2_with (first
      | (go_at_call 16; refine (isInt_any _ _).mono ?_; rintro e w' ⟨rfl, rfl⟩)
      | (go_at_call 15; refine (bitsOf_any _ 8 (by omega) _).mono ?_; rintro e w' ⟨rfl, hV, hb⟩))
    go_ret2
    exact ⟨8, (w.alloc (.cells #[.int .i64 2, .int .i64 n] 26)).heap.size, by simp, by simp, hV, HB.out.trans (hb.mono (by simp)), by have := HH.out; simp; omega⟩
set_option maxRecDepth 100000 in
set_option maxHeartbeats 1000000 in
theorem bits_bad (k n : Int) (h : rightB k n k = false) (w : World) (v : Value) (he : w.cell? ⟨0, 0, none⟩ = some v) :
    Calls Tryz.prog 6 #[.agg #[.int .i64 k, .int .i64 n]] w fun e w' => e = .returned (.tuple #[.slice none 0 0, v]) ∧ Below w.heap.size w w' := by
  have hb1 : Below w.heap.size w (w.alloc (.cells #[.int .i64 k, .int .i64 n] 26)) := (Below.refl _ _).alloc (Nat.le_refl _) _
  have he1 := cell_keep hb1 he
  have HB : Hid (Below w.heap.size w (w.alloc (.cells #[.int .i64 k, .int .i64 n] 26))) := hb1
  clear hb1 he
  by_cases h1 : k = 1
  · subst h1
    have hn : n ≠ 0 ∧ n ≠ 1 := by
      unfold rightB at h
      simpa using h
    have d0 : (n == 0) = false := beq_eq_false_iff_ne.2 hn.1
    have d1 : (n == 1) = false := beq_eq_false_iff_ne.2 hn.2
    clear h hn
    go_enter Tryz.func6, Tryz.ntmps6
    go_wp2
    go_region
    all_goals go_wp2
    all_goals go_ret2
    all_goals exact ⟨rfl, HB.out.drew⟩
  · have d1 : (k == 1) = false := beq_eq_false_iff_ne.2 h1
    by_cases h2 : k = 2
    · subst h2
      have hi : isB n = false := by
        unfold rightB at h
        rw [if_pos rfl, if_neg (by omega)] at h
        unfold isB
        simp at h ⊢
        omega
      clear h h1 d1
      go_enter Tryz.func6, Tryz.ntmps6
      go_wp2_with (go_at_call 16; refine (isInt_any _ _).mono ?_; rintro e w' ⟨rfl, hw⟩; have hw2 := hw.symm; subst hw2)
      go_region
      all_goals go_wp2
      all_goals go_ret2
      all_goals exact ⟨rfl, HB.out.drew⟩
    · have d2 : (k == 2) = false := beq_eq_false_iff_ne.2 h2
      clear h h1 h2
      go_enter Tryz.func6, Tryz.ntmps6
      go_wp2
      go_region
      all_goals go_wp2
      all_goals go_ret2
      all_goals exact ⟨rfl, HB.out.drew⟩
end Go.Proofs.YtpiglmaojonbnaaGreatDoor
