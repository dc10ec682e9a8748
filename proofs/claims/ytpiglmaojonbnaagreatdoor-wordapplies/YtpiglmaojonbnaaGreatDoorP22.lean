/-
  package word: what divide's rounds are made of.
-/
import Derived.Test.YtpiglmaojonbnaaGreatDoorP21
namespace Go.Proofs.YtpiglmaojonbnaaGreatDoor
open Go.RowKit Go.Maps

theorem lits_take {F : Nat → Prop} {w : World} {V c n m : Nat} {l : List Int} (h : LitsAt F w (.slice (some ⟨V, 0, none⟩) n c) l) (hl : l.length = n) (hm : m ≤ n) {c' : Nat} : LitsAt F w (.slice (some ⟨V, 0, none⟩) m c') (l.take m) := by
  obtain ⟨h1, o, cc, e, h2⟩ := h
  have hlen : (l.take m).length = m := by rw [List.length_take]; omega
  refine ⟨by omega, some ⟨V, 0, none⟩, c', by rw [hlen], fun k x hk => ?_⟩
  rw [List.getElem?_take] at hk
  split at hk
  · obtain ⟨b, off, e2, h3, h4⟩ := h2 k x hk
    obtain ⟨rfl, _, _⟩ : some (⟨V, 0, none⟩ : Addr) = o ∧ n = l.length ∧ c = cc := by simpa using e
    exact ⟨b, off, e2, h3, h4⟩
  · cases hk
theorem lits_drop {F : Nat → Prop} {w : World} {V c n m : Nat} {l : List Int} (h : LitsAt F w (.slice (some ⟨V, 0, none⟩) n c) l) (hl : l.length = n) {c' k : Nat} (hk : k = n - m) {off : Nat} (ho : m < n → off = m) : LitsAt F w (.slice (some ⟨V, off, none⟩) k c') (l.drop m) := by
  obtain ⟨h1, o, cc, e, h2⟩ := h
  have hlen : (l.drop m).length = k := by rw [List.length_drop]; omega
  refine ⟨by omega, some ⟨V, off, none⟩, c', by rw [hlen], fun j x hj => ?_⟩
  rw [List.getElem?_drop] at hj
  obtain ⟨b, off', e2, h3, h4⟩ := h2 _ x hj
  obtain ⟨rfl, _, _⟩ : some (⟨V, 0, none⟩ : Addr) = o ∧ n = l.length ∧ c = cc := by simpa using e
  obtain ⟨rfl, rfl⟩ : V = b ∧ 0 = off' := by simpa using e2
  have hmn : m < n := by have := (List.getElem?_eq_some_iff.1 hj).1; omega
  rw [ho hmn]
  exact ⟨V, m, rfl, h3, by rw [Nat.zero_add] at h4; exact h4⟩
theorem turned_len {F : Nat → Prop} {w : World} (v : Value) (l : List Int) (n : Nat) (hn : l.length = n) (hv : LitsAt F w v l) (hI : ∀ x ∈ l, I64 x) (hF : ∀ k, F k → k < w.heap.size) :
    Calls Tryz.prog 40 #[v] w fun e w' => ∃ V, e = .returned (.slice (some ⟨V, 0, none⟩) n n) ∧ LitsAt F w' (.slice (some ⟨V, 0, none⟩) n n) (l.map turnL) ∧ Below w.heap.size w w' := by
  have hl := hv.1
  subst hn
  refine (turned_any v l hv hI).mono fun e w' ⟨V, h1, h2, h3, h4⟩ => ⟨V, h1, ?_, h4⟩
  have := lits_row (F := F) (c := l.length) h3 (fun hf => by have := hF _ hf; omega) (by rw [List.length_map]; exact hl)
  rw [List.length_map] at this
  exact this
theorem Mvd.over {F F' E : Nat → Prop} {w w1 w2 : World} (h : Mvd F F' w w1) (k : Mvd E E w1 w2) (hE : ∀ i, E i → w.heap.size ≤ i) : Mvd F F' w w2 :=
  ⟨k.os.trans h.os, k.tape.trans h.tape, k.output.trans h.output, Nat.le_trans h.size k.size, fun i hi hn => (k.block i (Nat.lt_of_lt_of_le hi h.size) (fun he => by have := hE i he; omega)).trans (h.block i hi hn), fun i hi => by
    rcases h.more i hi with h1 | h1
    · exact .inl h1
    · exact .inr ⟨h1.1, Nat.lt_of_lt_of_le h1.2 k.size⟩⟩
/-- Behind an Insert. -/
theorem ins_after {F Fj : Nat → Prop} {w wr w2 : World} {G n : Nat} {gj : List (Int × Int)} {ins : Nat} {o : Option Addr} {x : Int} {rs : List Int} {e : Ending} (hG : GrAt G gj ins Fj wr) (hM : Mvd F Fj w wr) (hn : rs.length = n) (hn1 : n + 1 ≤ 1000)
    (ho : ∀ V, o = some ⟨V, 0, none⟩ → w.heap.size + 1 < V ∧ V < wr.heap.size ∧ ¬ Fj V) (hs : w.heap.size + 1 < wr.heap.size) (t : TypeId)
    (h : InsP o n x rs (wr.alloc (.cells #[.int .i64 x] t)) e w2) :
    ∃ V c, e = .returned (.slice (some ⟨V, 0, none⟩) (n + 1) c) ∧ LitsAt Fj w2 (.slice (some ⟨V, 0, none⟩) (n + 1) c) (x :: rs) ∧ GrAt G gj ins Fj w2 ∧ Mvd F Fj w w2 ∧ (∀ k, k ≤ w.heap.size + 1 → w2.heap[k]? = wr.heap[k]?) ∧ w.heap.size + 1 < V := by
  obtain ⟨V, c, rfl, h1, h2, h3⟩ := h
  have hF := hG.2.2.1
  have hb : Below wr.heap.size wr (wr.alloc (.cells #[.int .i64 x] t)) := (Below.refl _ _).alloc (Nat.le_refl _) _
  have hsz : (wr.alloc (.cells #[.int .i64 x] t)).heap.size = wr.heap.size + 1 := by simp
  have hM1 : Mvd F Fj w (wr.alloc (.cells #[.int .i64 x] t)) := hM.trans (Mvd.of_below hb)
  have hnF : ¬ Fj V := by
    rcases h1 with h1 | h1
    · intro hf; have := hF V hf; omega
    · exact (ho V h1).2.2
  refine ⟨V, c, rfl, ⟨by simp; omega, some ⟨V, 0, none⟩, c, by simp [hn], fun k y hk => ⟨V, 0, rfl, hnF, by rw [Nat.zero_add]; exact h2 k y hk⟩⟩, ?_, hM1.over h3 (fun i hi => by have := (ho i hi).1; omega), fun k hk => ?_, ?_⟩
  · exact GrAt.other (hG.below hb) h3 (fun k hk he => (ho k he).2.2 hk)
  · exact (h3.block k (by omega) (fun he => by have := (ho k he).1; omega)).trans (hb.block k (by omega))
  · rcases h1 with h1 | h1
    · omega
    · exact (ho V h1).1
theorem LitsAt.set {F : Nat → Prop} {w : World} {B n c : Nat} {l : List Int} (h : LitsAt F w (.slice (some ⟨B, 0, none⟩) n c) l) {V i : Nat} (u : Value) (hne : B ≠ V) : LitsAt F (w.setCell ⟨V, i, none⟩ u) (.slice (some ⟨B, 0, none⟩) n c) l := by
  obtain ⟨h1, o, cc, e, h2⟩ := h
  refine ⟨h1, o, cc, e, fun k x hk => ?_⟩
  obtain ⟨b, off, e2, h3, h4⟩ := h2 k x hk
  obtain ⟨rfl, _, _⟩ : some (⟨B, 0, none⟩ : Addr) = o ∧ n = l.length ∧ c = cc := by simpa using e
  obtain ⟨rfl, rfl⟩ : B = b ∧ 0 = off := by simpa using e2
  exact ⟨B, 0, rfl, h3, by rw [cell_apart hne]; exact h4⟩
end Go.Proofs.YtpiglmaojonbnaaGreatDoor

/-
  package word: a round of divide, as mathematics.
-/
namespace Go.Proofs.YtpiglmaojonbnaaGreatDoor
open Go.RowKit Go.Maps

/-- What is known when d bits were taken down. -/
structure DivOk (gs gj : List (Int × Int)) (d : Nat) (a b ws rs : List Int) : Prop where
  ext : Ext gs gj
  len : gj.length ≤ gs.length + 110 * d
  hw : ∀ x ∈ ws, HasL gj x
  hr : ∀ x ∈ rs, HasL gj x
  is : ∀ inp, natF (bitsL gs inp b) 8 ≠ 0 → natF (fun j => bitsL gs inp a (8 - d + j)) d = natF (bitsL gj inp ws) d * natF (bitsL gs inp b) 8 + natF (bitsL gj inp rs) rs.length ∧ natF (bitsL gj inp rs) rs.length < natF (bitsL gs inp b) 8
theorem bitsL_more {gs gs' : List (Int × Int)} (h : Ext gs gs') (inp : List Bool) {l : List Int} (hl : ∀ x ∈ l, HasL gs x) (j : Nat) : bitsL gs' inp l j = bitsL gs inp l j := by
  unfold bitsL
  refine h.val inp ?_
  rw [List.getD_eq_getElem?_getD]
  cases e : l[j]? with
  | none => exact HasL.zero _
  | some y => exact hl y (List.mem_of_getElem? e)
theorem bitsL_cons (gs : List (Int × Int)) (inp : List Bool) (x : Int) (l : List Int) : bitsL gs inp (x :: l) 0 = valL gs inp x ∧ ∀ j, bitsL gs inp (x :: l) (j + 1) = bitsL gs inp l j := ⟨rfl, fun _ => rfl⟩
theorem cry_same {a b a' b' : Nat → Bool} {c : Bool} : ∀ {n : Nat}, (∀ i, i < n → a i = a' i ∧ b i = b' i) → cry a b c n = cry a' b' c n
  | 0, _ => rfl
  | n + 1, h => by
    have ih : cry a b c n = cry a' b' c n := cry_same fun i hi => h i (by omega)
    have := h n (by omega)
    simp only [cry, ih, this.1, this.2]
theorem smB_same {a b a' b' : Nat → Bool} {c : Bool} {n : Nat} (h : ∀ i, i < n → a i = a' i ∧ b i = b' i) {j : Nat} (hj : j < n) : smB a b c j = smB a' b' c j := by
  unfold smB
  rw [(h j hj).1, (h j hj).2, cry_same (fun i hi => h i (by omega))]
theorem divOk_step {gs gj g4 g5 g6 g7 : List (Int × Int)} {d i n m most k : Nat} {a b ws rs lf out : List Int} {x en ay z : Int}
    (hD : DivOk gs gj d a b ws rs) (hi : i + d = 7) (hx : a[i]? = some x) (hn : rs.length = n) (hm : n + 1 = m) (hm8 : m ≤ 8) (hmo : most ≤ 8) (hze : ∀ k x, most ≤ k → b[k]? = some x → x = 0) (hb8 : b.length = 8) (HA : ∀ x ∈ a, HasL gs x) (HB : ∀ x ∈ b, HasL gs x)
    (hlf : lf.length = m) (D4 : Mads gj g4 (9 * m) lf (fun inp => smB (bitsL gj inp (x :: rs)) (bitsL gj inp ((b.take m).map turnL)) (valL gj inp 1))) (E4 : HasL g4 en) (X4 : ∀ inp, valL g4 inp en = cry (bitsL gj inp (x :: rs)) (bitsL gj inp ((b.take m).map turnL)) (valL gj inp 1) m)
    (D5 : Mad g4 g5 (8 - m) ay (fun inp => orF (bitsL g4 inp (b.drop m)) (8 - m)))
    (D6 : Mad g5 g6 1 z (fun inp => valL g5 inp en && valL g5 inp (turnL ay)))
    (ho : out.length = m) (D7 : Mads g6 g7 (3 * m) out (fun inp j => if valL g6 inp z = true then bitsL g6 inp lf j else bitsL g6 inp (x :: rs) j)) (hk : k = min m most) :
    DivOk gs g7 (d + 1) a b (z :: ws) (out.take k) := by
  have hxr : ∀ y ∈ x :: rs, HasL gj y := fun y hy => by
    rcases List.mem_cons.1 hy with e | e
    · rw [e]; exact (HA x (List.mem_of_getElem? hx)).ext hD.ext
    · exact hD.hr y e
  have e56 : Ext g4 g6 := D5.ext.trans D6.ext
  have ej6 : Ext gj g6 := D4.ext.trans e56
  have ej7 : Ext gj g7 := ej6.trans D7.ext
  have hkm : k ≤ m := by omega
  have hlk : (out.take k).length = k := by rw [List.length_take]; omega
  refine ⟨hD.ext.trans ej7, ?_, fun y hy => ?_, fun y hy => D7.has y (List.mem_of_mem_take hy), fun inp hB => ?_⟩
  · have := hD.len; have := D4.len; have := D5.len; have := D6.len; have := D7.len; omega
  · rcases List.mem_cons.1 hy with e | e
    · rw [e]; exact D6.has.ext D7.ext
    · exact (hD.hw y e).ext ej7
  · obtain ⟨h1, h2⟩ := hD.is inp hB
    have hbj : ∀ j, j < m → bitsL gj inp ((b.take m).map turnL) j = !bitsL gs inp b j := fun j hj => by
      have e1 : b[j]? = some b[j] := List.getElem?_eq_getElem (by omega)
      have e2 : ((b.take m).map turnL)[j]? = some (turnL b[j]) := by rw [List.getElem?_map, List.getElem?_take, if_pos hj, e1]; rfl
      rw [bitsL_get e2, bitsL_get e1, val_turn, hD.ext.val inp (HB _ (List.mem_of_getElem? e1))]
    have hagree : ∀ j, j < m → bitsL gj inp (x :: rs) j = bitsL gj inp (x :: rs) j ∧ bitsL gj inp ((b.take m).map turnL) j = !bitsL gs inp b j := fun j hj => ⟨rfl, hbj j hj⟩
    have hvz : valL g6 inp z = (valL g4 inp en && !orF (fun j => bitsL gs inp b (n + 1 + j)) (8 - (n + 1))) := by
      rw [D6.val inp, val_turn, D5.ext.val inp E4, D5.val inp]
      congr 2
      rw [hm]
      have : ∀ j, j < 8 - m → bitsL g4 inp (b.drop m) j = bitsL gs inp b (m + j) := fun j hj => by
        have e1 : b[m + j]? = some b[m + j] := List.getElem?_eq_getElem (by omega)
        have e2 : (b.drop m)[j]? = some b[m + j] := by rw [List.getElem?_drop]; exact e1
        rw [bitsL_get e1, bitsL_get e2, (hD.ext.trans D4.ext).val inp (HB _ (List.mem_of_getElem? e1))]
      rw [orF_nat, orF_nat, natF_congr this]
    have key := div_step (bitsL gs inp a) (bitsL gs inp b) (bitsL gj inp ws) (bitsL gj inp rs) i n most (by omega) (by omega) hmo
      (fun j hj hj8 => by
        have e1 : b[j]? = some b[j] := List.getElem?_eq_getElem (by omega)
        rw [bitsL_get e1, hze j _ hj e1, val_zero])
      (by rw [show 8 - (i + 1) = d by omega, show i + 1 = 8 - d by omega, ← hn]; exact h1) (by rw [← hn]; exact h2)
      (bitsL gj inp (x :: rs)) (bitsL g7 inp out) (bitsL g7 inp (z :: ws))
      (by rw [(bitsL_cons gj inp x rs).1, bitsL_get hx, hD.ext.val inp (HA x (List.mem_of_getElem? hx))]) (bitsL_cons gj inp x rs).2
      (valL g4 inp en) (by rw [X4 inp, val_one, hm]; exact cry_same hagree) (valL g6 inp z) hvz
      (fun j hj => by
        rw [hm] at hj
        rw [D7.bits inp (by omega)]
        by_cases hz : valL g6 inp z = true
        · rw [if_pos hz, if_pos hz, bitsL_more e56 inp D4.has, D4.bits inp (by omega), val_one]
          exact smB_same hagree hj
        · rw [if_neg hz, if_neg hz, bitsL_more ej6 inp hxr])
      (by rw [(bitsL_cons g7 inp z ws).1, D7.ext.val inp D6.has])
      (fun j => by rw [(bitsL_cons g7 inp z ws).2, bitsL_more ej7 inp hD.hw])
    have et : natF (bitsL g7 inp (out.take k)) k = natF (bitsL g7 inp out) k := natF_congr fun j hj => by
      have e1 : out[j]? = some out[j] := List.getElem?_eq_getElem (by omega)
      have e2 : (out.take k)[j]? = some out[j] := by rw [List.getElem?_take, if_pos hj]; exact e1
      rw [bitsL_get e1, bitsL_get e2]
    rw [hm, ← hk] at key
    rw [hlk, et, show 8 - (d + 1) = i by omega, show d + 1 = 8 - i by omega]
    exact key
end Go.Proofs.YtpiglmaojonbnaaGreatDoor

/-
  append of a make to a row of literals, up to eight.
-/
namespace Go.Proofs.YtpiglmaojonbnaaGreatDoor
open Go.RowKit Go.Maps Go.Lib

theorem zeroCells_int (k : Nat) : (Builtin.zeroCells (Value.int .i64 0).cells k).toList = (List.replicate k (0 : Int)).map (Value.int .i64) := by
  apply List.ext_getElem?
  intro j
  simp [Builtin.zeroCells, Value.cells, List.getElem?_replicate]
  by_cases h : j < k
  · simp [h, Nat.mod_one]
  · simp [h]
/-- What is left, up to eight. -/
def PadP (o : Option Addr) (n c : Nat) (rs : List Int) (w : World) : Prop :=
  ∃ V c2 w', (∀ ty, (Builtin.append_ #[38, 3] ty #[.slice o n c, .int .i64 (8 - (n : Int))]).run Tryz.prog w = .ok (.slice (some ⟨V, 0, none⟩) 8 c2) w') ∧ (w.heap.size ≤ V ∨ o = some ⟨V, 0, none⟩) ∧
    (∀ j y, (rs ++ List.replicate (8 - n) 0)[j]? = some y → w'.cell? ⟨V, j, none⟩ = some (.int .i64 y)) ∧ Mvd (fun k => o = some ⟨k, 0, none⟩) (fun k => o = some ⟨k, 0, none⟩) w w'
theorem pad_any {o : Option Addr} {n c : Nat} {rs : List Int} {w : World} (h : RestAt w o n c rs) (hn : rs.length = n) (h8 : n ≤ 8) : PadP o n c rs w := by
  obtain ⟨i0, hi0, hz0, hzs, hzb⟩ := info_parts Tryz.infoLit
  obtain ⟨k, hk⟩ : ∃ k, n + k = 8 := ⟨8 - n, by omega⟩
  have ek : (8 : Int) - (n : Int) = (k : Int) := by omega
  have ek' : 8 - n = k := by omega
  unfold PadP
  rw [ek, ek']
  have hw : IntKind.i64.wrap (k : Int) = k := by rw [IntKind.wrap_i64]; omega
  have hneg : ¬ ((k : Int) < 0) := by omega
  have h48i : ¬ (281474976710656 < (k : Int) * (i0.bytes : Int)) := by rw [hzb]; omega
  have hut := run_underlying Tryz.underlying38
  have hun := run_underlying Tryz.underlying3
  rcases Nat.lt_or_ge c 8 with hc | hc
  · -- a new row
    have hold : (Builtin.firstCells i0.size n (.slice o n c)).run Tryz.prog w.drew = .ok (rs.map (Value.int .i64)).toArray w.drew := by
      rw [hzs]
      rcases h with ⟨rfl, rfl, rfl, rfl⟩ | ⟨V, r, rfl, hV, hr, _, _, hnc, rfl⟩
      · exact run_firstCells_none w.drew 1 0 0 0
      · refine run_firstCells_some w.drew 1 n ⟨V, 0, none⟩ n c _ (by rw [List.length_map, hn]; omega) (fun j v hj => ?_)
        rw [List.getElem?_map] at hj
        obtain ⟨y, hy, rfl⟩ := Option.map_eq_some_iff.1 hj
        rw [List.getElem?_take] at hy
        split at hy
        · rw [Addr.add_lit, Nat.zero_add]; show w.cell? _ = _; rw [cell_of_row w V _ _ _ (0, 0) hV]; exact rowI_get hy
        · cases hy
    have hnc : n ≤ c := by
      rcases h with ⟨rfl, rfl, rfl, rfl⟩ | ⟨V, r, rfl, hV, hr, _, _, hnc, rfl⟩
      · exact Nat.le_refl _
      · exact hnc
    have hrun := fun ty => Lib.run_append_grow_zeros w 38 3 ty 39 i0 _ .i64 .i64 Tryz.underlying38 Tryz.underlying3 hi0 hz0 o n c _ hold k (by omega) (by omega) (by omega) (by omega) (by rw [hzb]; omega) (by rw [hzb]; exact growslice_fits (by omega) (by omega))
    rw [hk] at hrun
    refine ⟨w.heap.size, _, _, hrun, .inl (Nat.le_refl _), fun j y hj => ?_, mvd_drew_alloc _ _ _⟩
    refine (World.cell?_alloc_at (w := w.drew) _ _ w.heap.size j rfl).trans ?_
    have hlen : (rs ++ List.replicate k (0 : Int)).length = 8 := by simp; omega
    have hj8 := (List.getElem?_eq_some_iff.1 hj).1
    have e : ((rs.map (Value.int .i64)).toArray ++ Builtin.zeroCells (Value.int .i64 0).cells k).toList = (rs ++ List.replicate k 0).map (Value.int .i64) := by rw [Array.toList_append, zeroCells_int, List.map_append]
    rw [Array.getElem?_append_left (by rw [← Array.length_toList, e, List.length_map]; exact hj8), ← Array.getElem?_toList, e, List.getElem?_map, hj]
    rfl
  · rcases h with ⟨rfl, rfl, rfl, rfl⟩ | ⟨V, r, rfl, hV, hr, _, hc1, hnc, rfl⟩
    · omega
    · have hroom : n + k ≤ c := by omega
      have hcell : ∀ j y, r[j]? = some y → w.cell? ⟨V, j, none⟩ = some (.int .i64 y) := fun j y hj => by rw [cell_of_row w V _ _ _ (0, 0) hV]; exact rowI_get hj
      have hsp : ∀ j, j < c → (w.cell? ⟨V, j, none⟩).isSome = true := fun j hj => by rw [hcell j _ (List.getElem?_eq_getElem (by omega))]; rfl
      obtain ⟨zs, hzse⟩ : ∃ zs, zs = List.replicate k (Value.int .i64 0) := ⟨_, rfl⟩
      have hzl : zs.length = k := by rw [hzse]; simp
      have hst : (storeCells ⟨V, n, none⟩ zs).run Tryz.prog w = .ok () (w.setCells V n zs) :=
        run_storeCells_cells V n zs 0 w (fun j hj => hsp _ (by omega)) (fun j hj => frozen_row hV) (fun v hv => by rw [hzse] at hv; rw [List.eq_of_mem_replicate hv]; rfl)
      have hrun : ∀ ty, (Builtin.append_ #[38, 3] ty #[.slice (some ⟨V, 0, none⟩) n c, .int .i64 (k : Int)]).run Tryz.prog w = .ok (.slice (some ⟨V, 0, none⟩) (n + k) c) (w.setCells V n zs) := fun ty => by
        rcases Nat.eq_zero_or_pos k with h0 | h0
        · subst h0
          have hw0 : IntKind.i64.wrap 0 = 0 := by decide
          rw [List.replicate_zero] at hzse
          subst hzse
          simp [Builtin.append_, hut, hun, sizeOf, typeInfo, hi0, hzs, asInt, asIntOf, hw0, hnc, Addr.add_lit, hst]
        · have hk0 : ¬ (k = 0) := by omega
          have ez : (Builtin.zeroCells (Value.int .i64 0).cells k).toList = zs := by rw [hzse, ← List.map_replicate]; exact zeroCells_int k
          simp [Builtin.append_, hut, hun, sizeOf, typeInfo, zeroValue, hi0, hz0, hzs, asInt, asIntOf, hw, hneg, h48i, hroom, Addr.add_lit, hk0, ez, hst]
      rw [hk] at hrun
      refine ⟨V, c, _, hrun, .inr rfl, fun j y hj => ?_, mvd_setCells V _ _ _⟩
      have hjl := (List.getElem?_eq_some_iff.1 hj).1
      rw [List.length_append, List.length_replicate, hn] at hjl
      rcases Nat.lt_or_ge j n with hjn | hjn
      · rw [List.getElem?_append_left (by omega), List.getElem?_take, if_pos hjn] at hj
        rw [World.cell?_setCells_out _ _ _ _ _ (fun _ _ => .inl hjn)]
        exact hcell j y hj
      · rw [List.getElem?_append_right (by omega), hn, List.getElem?_replicate, if_pos (by omega)] at hj
        have := World.cell?_setCells_in V zs n w (fun t ht => hsp _ (by omega)) (j - n) (by omega)
        rw [show n + (j - n) = j by omega] at this
        rw [this]
        cases hj
        subst hzse
        simp
end Go.Proofs.YtpiglmaojonbnaaGreatDoor
