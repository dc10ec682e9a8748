/-
  lustrumlaw3.made of + and * BY CONTRACT.
-/
import Derived.Test.YtmmfodiagcnjeaaDoorWgK
namespace Go.Proofs.YtmmfodiagcnjeaaDoor
open Go.RowKit Go.Maps

theorem kinds_two {a b : List Int} (ha : a.length = 8) (hb : b.length = 8) : [a, b].map kindL = [2, 2] := by simp [kindL, ha, hb]
theorem ask_plus {a b : List Int} (ha : a.length = 8) (hb : b.length = 8) : askB [43] [a, b] = true := by
  unfold askB
  rw [kinds_two ha hb]
  have : (resK [43] [2, 2]).isSome = true := by decide
  rw [this]; rfl
theorem ask_times {a b : List Int} (ha : a.length = 8) (hb : b.length = 8) : askB [42] [a, b] = true := by
  unfold askB
  rw [kinds_two ha hb]
  have : (resK [42] [2, 2]).isSome = true := by decide
  rw [this]; rfl
/-- What 'made' answers. -/
def MadeP (G : Nat) (gs : List (Int × Int)) (ins K : Nat) (f : List Bool → Nat → Bool) (F : Nat → Prop) (w : World) (e : Ending) (w' : World) : Prop :=
  ∃ (V : Nat) (out : List Int) (gs' : List (Int × Int)) (F' : Nat → Prop), e = .returned (.slice (some ⟨V, 0, none⟩) 8 8) ∧ out.length = 8 ∧ w.heap.size ≤ V ∧ w'.heap[V]? = some (.cells (rowI out) 34 (0, 0)) ∧ ¬ F' V ∧ GrAt G gs' ins F' w' ∧ Mvd F F' w w' ∧ Mads gs gs' K out f
theorem words_two {F : Nat → Prop} {w : World} {oa ob : Option Addr} {ca cb : Nat} {a b : List Int} (hA : LitsAt F w (.slice oa 8 ca) a) (hB : LitsAt F w (.slice ob 8 cb) b) (ha : a.length = 8) (hb : b.length = 8) (hF : ∀ k, F k → k < w.heap.size) (t : TypeId) :
    WordsAt F (w.alloc (.cells #[.slice oa 8 ca, .slice ob 8 cb] t)) (.slice (some ⟨w.heap.size, 0, none⟩) 2 2) [a, b] := by
  have hm : Mvd F F w (w.alloc (.cells #[.slice oa 8 ca, .slice ob 8 cb] t)) := Mvd.of_below ((Below.refl _ _).alloc (Nat.le_refl _) _)
  refine ⟨by simp, _, _, rfl, fun k l hk => ?_⟩
  rcases k with _ | _ | k
  · simp at hk; subst hk
    refine ⟨w.heap.size, 0, oa, ca, rfl, fun hf => by have := hF _ hf; omega, ?_, ?_⟩
    · rw [ha]; simp
    · rw [ha]; exact hA.move hm
  · simp at hk; subst hk
    refine ⟨w.heap.size, 0, ob, cb, rfl, fun hf => by have := hF _ hf; omega, ?_, ?_⟩
    · rw [hb]; simp
    · rw [hb]; exact hB.move hm
  · simp at hk
set_option maxRecDepth 100000 in
set_option maxHeartbeats 1000000 in
theorem lmade_any {G : Nat} {gs : List (Int × Int)} {ins : Nat} {F : Nat → Prop} {w : World} (h : GrAt G gs ins F w) (s : ByteArray) (hs : s.size ≤ maxLen) (oa ob : Option Addr) (ca cb : Nat) (a b : List Int) (hA : LitsAt F w (.slice oa 8 ca) a) (hB : LitsAt F w (.slice ob 8 cb) b) (ha8 : a.length = 8) (hb8 : b.length = 8) (ha : ∀ x ∈ a, HasL gs x) (hb : ∀ x ∈ b, HasL gs x) (hl : gs.length < 89000) (K : Nat) (f : List Bool → Nat → Bool) (hk : askB s.data.toList [a, b] = true)
    (hval : ∀ F1 w1 o c, GrAt G gs ins F1 w1 → WordsAt F1 w1 (.slice o 2 c) [a, b] → Calls Tryd.prog 25 #[.agg #[.pointer (some ⟨G, 0, none⟩)], .string s, .slice o 2 c] w1 (ValP G gs ins K 8 (fun g => g = f) (fun _ => false) F1 w1))
    (et st : TypeId) (eq sq : Value) (he : w.cell? ⟨1, 0, none⟩ = some (.iface et eq)) (hsh : w.cell? ⟨2, 0, none⟩ = some (.iface st sq)) :
    Calls Tryd.prog 20 #[.pointer (some ⟨G, 0, none⟩), .string s, .slice oa 8 ca, .slice ob 8 cb] w (MadeP G gs ins K f F w) := by
  have hb1 : Below w.heap.size w (w.alloc (.cells #[.slice oa 8 ca, .slice ob 8 cb] 31)) := (Below.refl _ _).alloc (Nat.le_refl _) _
  have hm : Mvd F F w (w.alloc (.cells #[.slice oa 8 ca, .slice ob 8 cb] 31)) := Mvd.of_below hb1
  have hC := of_any (h.below hb1) hl s hs (some ⟨w.heap.size, 0, none⟩) 2 2 [a, b] (words_two hA hB ha8 hb8 h.2.2.1 _) rfl (fun l hl x hx => by
      simp at hl
      rcases hl with rfl | rfl
      · exact ha x hx
      · exact hb x hx) et st eq sq (cell_keep hb1 he) (cell_keep hb1 hsh) K 8 (fun g => g = f) (fun _ => false) (fun _ F1 w1 g1 v1 => hval F1 w1 _ _ g1 v1)
  have HM : Hid (Mvd F F w (w.alloc (.cells #[.slice oa 8 ca, .slice ob 8 cb] 31))) := hm
  have HK : Hid (askB s.data.toList [a, b] = true) := hk
  clear h hs hA hB ha8 hb8 ha hb hl hval he hsh hb1 hm hk
  go_enter Tryd.func20, Tryd.ntmps20
  go_wp2_with fail
  refine hC.mono ?_
  clear hC
  rintro e w2 (⟨_, uv, tv, rfl, V, out, tr, gs', F', rfl, rfl, h1, h2, h3, h4, h5, h6, ⟨fq, hfq, h7⟩, _⟩ | ⟨hk, _⟩)
  · rw [hfq] at h7
    have HEND : Hid (MadeP G gs ins K f F w (.returned (.slice (some ⟨V, 0, none⟩) 8 8)) w2) := ⟨V, out, gs', F', rfl, h1, by have := HM.out.size; omega, h3, h4, h5, HM.out.trans h6, h7⟩
    clear h1 h2 h3 h4 h5 h6 h7 hfq
    go_wp2
    go_ret
    exact HEND.out
  · exact absurd HK.out (by rw [hk]; simp)
end Go.Proofs.YtmmfodiagcnjeaaDoor

/-
  lustrumlaw3.wordsOf BY CONTRACT: inputs as words.
-/
namespace Go.Proofs.YtmmfodiagcnjeaaDoor
open Go.RowKit Go.Maps

/-- So many inputs; the i-th word of them. -/
def inps (n : Nat) : List (Int × Int) := List.replicate n (0, 0)
def inpW (i : Nat) : List Int := (List.range 8).map fun j => 2 * ((8 * i + j : Nat) : Int) + 2
theorem inps_succ (n : Nat) : inps n ++ [(0, 0)] = inps (n + 1) := by unfold inps; rw [← List.replicate_succ']
theorem inps_length (n : Nat) : (inps n).length = n := by simp [inps]
theorem inps_cnt (n : Nat) : cntI (inps n) = n := by
  unfold cntI inps
  have : inpB ((0 : Int), (0 : Int)) = true := by decide
  rw [List.filter_replicate, if_pos this, List.length_replicate]
theorem inps_val {n m : Nat} (h : m < n) (inp : List Bool) : valL (inps n) inp (2 * (m : Int) + 2) = inp.getD m false := by
  have e : inps n = inps m ++ [(0, 0)] ++ inps (n - (m + 1)) := by
    rw [inps_succ]
    unfold inps
    rw [List.replicate_append_replicate]
    congr 1
    omega
  rw [e, val_more _ _ inp (by unfold HasL; rw [List.length_append, inps_length]; simp; omega)]
  have := val_input (inps m) inp
  rw [inps_length, inps_cnt] at this
  exact this
theorem inpW_length (i : Nat) : (inpW i).length = 8 := by simp [inpW]
theorem inpW_get {i j : Nat} {x : Int} (h : (inpW i)[j]? = some x) : j < 8 ∧ x = 2 * ((8 * i + j : Nat) : Int) + 2 := by
  have hl := (List.getElem?_eq_some_iff.1 h).1
  rw [inpW_length] at hl
  unfold inpW at h
  rw [List.getElem?_map, List.getElem?_range hl] at h
  simp at h
  exact ⟨hl, by omega⟩
theorem inpW_has {i n : Nat} (hi : 8 * i + 8 ≤ n) : ∀ x ∈ inpW i, HasL (inps n) x := fun x hx => by
  obtain ⟨j, hj, rfl⟩ := List.mem_map.1 hx
  have := List.mem_range.1 hj
  unfold HasL
  rw [inps_length]
  omega
theorem Tryd.infoLits : (Tryd.prog.info? 31).map (fun i => (i.zero, i.size, i.bytes)) = some (some (.slice none 0 0), 1, 24) := by kernel_rfl
theorem owns_move {w w' : World} {F F' : Nat → Prop} {base size n : Nat} {e : TypeId} {v : Value} {xs : List Value} (h : w.ownsRow base e size v n xs) (hm : Mvd F F' w w') (hn : ∀ k, v.ownBlock = some k → ¬ F k) : w'.ownsRow base e size v n xs ∧ ∀ k, v.ownBlock = some k → ¬ F' k := by
  have hlt : ∀ k, v.ownBlock = some k → k < w.heap.size := fun k hk => by
    obtain ⟨_, h2⟩ := h
    rcases h2 with ⟨rfl, _⟩ | ⟨g, cap, cur, rfl, _, hg, _⟩
    · simp [Value.ownBlock] at hk
    · simp [Value.ownBlock] at hk; subst hk; exact (Array.getElem?_eq_some_iff.1 hg).1
  refine ⟨owns_keep h (fun k hk => hm.block k (hlt k hk) (hn k hk)), fun k hk hf => ?_⟩
  rcases hm.more k hf with h1 | h1
  · exact hn k hk h1
  · have := hlt k hk; omega
/-- An append moves nothing of the graph's. -/
theorem grown_mvd {F : Nat → Prop} {w0 w w' : World} {row : Option Nat} (h : Mvd F F w0 w) (hg : w.grownBy w' row) (hr : ∀ k, row = some k → w0.heap.size ≤ k) : Mvd F F w0 w' :=
  ⟨hg.os.trans h.os, hg.tape.trans h.tape, hg.output.trans h.output, Nat.le_trans h.size hg.size, fun k hk hn => by
    rw [hg.block k (Nat.lt_of_lt_of_le hk h.size) (fun e => by have := hr k e.symm; omega)]; exact h.block k hk hn, fun k hk => .inl hk⟩
theorem grown_gr {G : Nat} {gs : List (Int × Int)} {ins : Nat} {F : Nat → Prop} {w w' : World} {row : Option Nat} (h : GrAt G gs ins F w) (hg : w.grownBy w' row) (hr : ∀ k, row = some k → ¬ F k) : GrAt G gs ins F w' :=
  h.keep (fun k hk => hg.block k (h.2.2.1 k hk) (fun e => hr k e.symm hk)) (fun _ hk => hk) (fun k hk => Nat.lt_of_lt_of_le (h.2.2.1 k hk) hg.size)
theorem lits_of_owns {w : World} {F : Nat → Prop} {base n : Nat} {o : Option Addr} {c : Nat} {l : List Int} (h : w.ownsRow base 34 1 (.slice o n c) n (l.map (Value.int .i64))) (hn : l.length = n) (hm : n ≤ 1000) (h0 : 0 < n) (hF : ∀ k, (Value.slice o n c).ownBlock = some k → ¬ F k) : ∃ g, o = some ⟨g, 0, none⟩ ∧ LitsAt F w (.slice o n c) l := by
  subst hn
  obtain ⟨g, cap, e, _, _⟩ := h.form (by omega)
  obtain ⟨rfl, rfl⟩ : o = some ⟨g, 0, none⟩ ∧ c = cap := by simpa using e
  refine ⟨g, rfl, hm, _, c, rfl, fun k x hk => ?_⟩
  have hadd' : ∀ j, (⟨g, 0, none⟩ : Addr).add j = ⟨g, 0 + j, none⟩ := fun j => by unfold Addr.add; split <;> simp_all
  refine ⟨g, 0, rfl, hF g rfl, ?_⟩
  rw [← hadd']
  exact h.cells (g := g) rfl k _ (by simp [hk])
theorem lits_grown {w w' : World} {F : Nat → Prop} {V n c : Nat} {l : List Int} {row : Option Nat} (h : LitsAt F w (.slice (some ⟨V, 0, none⟩) n c) l) (hg : w.grownBy w' row) (hne : row ≠ some V) : LitsAt F w' (.slice (some ⟨V, 0, none⟩) n c) l := by
  obtain ⟨hl, o', c', e, h⟩ := h
  refine ⟨hl, o', c', e, fun k x hk => ?_⟩
  obtain ⟨b, off, rfl, hn, hc⟩ := h k x hk
  obtain ⟨rfl, _⟩ : V = b ∧ 0 = off := by
    have : some (⟨V, 0, none⟩ : Addr) = some ⟨b, off, none⟩ := by simpa using (Value.slice.inj e).1
    simpa using this
  refine ⟨V, off, rfl, hn, ?_⟩
  have hlt : V < w.heap.size := cell_in hc
  have e2 : w'.heap[V]? = w.heap[V]? := hg.block V hlt (fun e => hne e.symm)
  simp only [World.cell?, e2] at hc ⊢
  exact hc
theorem lits_apart {w : World} {F : Nat → Prop} {V c n base : Nat} {l : List Int} {o : Option Addr} {vc : Nat} {vals : List Value} (h : LitsAt F w (.slice (some ⟨V, 0, none⟩) 8 c) l) (hl : 0 < l.length) (hown : w.ownsRow base 31 1 (.slice o n vc) n vals) (hn : vals.length = n) (hv : ∀ (k : Nat) (v : Value), vals[k]? = some v → ∃ V c, v = .slice (some ⟨V, 0, none⟩) 8 c) (h0 : 0 < n) : (Value.slice o n vc).ownBlock ≠ some V := fun hk => by
  obtain ⟨g, cap, e, _, _⟩ := hown.form h0
  obtain ⟨rfl, rfl⟩ : o = some ⟨g, 0, none⟩ ∧ vc = cap := by simpa using e
  have : V = g := by simpa [Value.ownBlock] using hk.symm
  subst this
  obtain ⟨v, hv0⟩ : ∃ v, vals[0]? = some v := ⟨_, List.getElem?_eq_getElem (by omega)⟩
  obtain ⟨x, hx⟩ : ∃ x, l[0]? = some x := ⟨_, List.getElem?_eq_getElem hl⟩
  have hadd' : (⟨V, 0, none⟩ : Addr).add 0 = ⟨V, 0, none⟩ := by unfold Addr.add; split <;> simp_all
  have h1 := hown.cells (g := V) rfl 0 v hv0
  rw [hadd'] at h1
  obtain ⟨b, off, e2, _, h2⟩ := h.at hx
  obtain ⟨rfl, rfl⟩ : V = b ∧ 0 = off := by simpa using e2
  have h3 := (h2 F w (Mvd.refl _ _)).2
  rw [h1] at h3
  obtain ⟨V', c', rfl⟩ := hv 0 v hv0
  simp at h3
/-- The literals of a word so far. -/
def inpT (i j : Nat) : List Int := (List.range j).map fun j => 2 * ((8 * i + j : Nat) : Int) + 2
theorem inpT_succ (i j : Nat) : inpT i (j + 1) = inpT i j ++ [2 * ((8 * i + j : Nat) : Int) + 2] := by simp [inpT, List.range_succ]
set_option maxRecDepth 100000 in
set_option maxHeartbeats 4000000 in
theorem wordsOf_any {G : Nat} {F : Nat → Prop} {w : World} (h : GrAt G [] 0 F w) (n : Nat) (hn : n ≤ 5) :
    Calls Tryd.prog 19 #[.pointer (some ⟨G, 0, none⟩), .int .i64 n] w fun e w' => ∃ (o : Option Addr) (c : Nat) (F' : Nat → Prop), e = .returned (.tuple #[.slice o n c, .bool true]) ∧ GrAt G (inps (8 * n)) (8 * n) F' w' ∧ Mvd F F' w w' ∧ WordsAt F' w' (.slice o n c) ((List.range n).map inpW) := by
  obtain ⟨i0, hi0, hz0, hz1, hz2⟩ := info_parts Tryd.infoLit
  obtain ⟨i1, hj0, hy0, hy1, hy2⟩ := info_parts Tryd.infoLits
  have HG : Hid (GrAt G [] 0 F w) := h
  have HN : Hid (n ≤ 5) := hn
  clear h hn
  go_enter Tryd.func19, Tryd.ntmps19
  go_wp2
  go_loopw [6, 7] (fun qv t wr => ∃ (i : Nat) (Fi : Nat → Prop) (qo : Option Addr) (qc : Nat) (vals : List Value), i ≤ n ∧ t = .int .i64 i ∧ qv = .slice qo i qc ∧ GrAt G (inps (8 * i)) (8 * i) Fi wr ∧ Mvd F Fi w wr ∧ wr.ownsRow w.heap.size 31 1 (.slice qo i qc) i vals ∧ (∀ k, (Value.slice qo i qc).ownBlock = some k → ¬ Fi k) ∧ vals.length = i ∧ ∀ k v, vals[k]? = some v → ∃ V c, v = .slice (some ⟨V, 0, none⟩) 8 c ∧ LitsAt Fi wr v (inpW k)) (fun _ t _ => n - (intOf t).toNat)
  case atStart => exact ⟨0, F, none, 0, [], Nat.zero_le _, rfl, rfl, HG.out, Mvd.refl _ _, World.ownsRow_nil _ _ _ _, fun k hk => by simp [Value.ownBlock] at hk, rfl, fun k v hk => by simp at hk⟩
  case round =>
    obtain ⟨i, Fi, qo, qc, vals, hi, rfl, rfl, hG, hM, hown, hnq, hvl, hvs⟩ := hrel
    have HG1 : Hid (GrAt G (inps (8 * i)) (8 * i) Fi wr) := hG
    have HM1 : Hid (Mvd F Fi w wr) := hM
    have HOW : Hid (wr.ownsRow w.heap.size 31 1 (.slice qo i qc) i vals) := hown
    have HNQ : Hid (∀ k, (Value.slice qo i qc).ownBlock = some k → ¬ Fi k) := hnq
    have HVL : Hid (vals.length = i) := hvl
    have HVS : Hid (∀ k v, vals[k]? = some v → ∃ V c, v = .slice (some ⟨V, 0, none⟩) 8 c ∧ LitsAt Fi wr v (inpW k)) := hvs
    clear hG hM hown hnq hvl hvs
    by_cases hil : i < n
    · have i1' : (i : Int) < (n : Int) := by omega
      have N4 : Hid (wrap64 ((i : Int) + 1) = (i : Int) + 1) := by have := HN.out; unfold Hid wrap64; omega
      have HI : Hid (i < n) := hil
      clear hi hil
      go_wp2
      rename World => wq
      go_loopw [8, 9] (fun sv t wr => ∃ (j : Nat) (Fj : Nat → Prop) (so : Option Addr) (sc : Nat), j ≤ 8 ∧ t = .int .i64 j ∧ sv = .slice so j sc ∧ GrAt G (inps (8 * i + j)) (8 * i + j) Fj wr ∧ Mvd Fi Fj wq wr ∧ wr.ownsRow wq.heap.size 34 1 (.slice so j sc) j ((inpT i j).map (Value.int .i64)) ∧ (∀ k, (Value.slice so j sc).ownBlock = some k → ¬ Fj k)) (fun _ t _ => 8 - (intOf t).toNat)
      case atStart => exact ⟨0, Fi, none, 0, Nat.zero_le _, rfl, rfl, HG1.out, Mvd.refl _ _, World.ownsRow_nil _ _ _ _, fun k hk => by simp [Value.ownBlock] at hk⟩
      case round =>
        obtain ⟨j, Fj, so, sc, hj, rfl, rfl, hG, hM, hown, hns⟩ := hrel
        have HG2 : Hid (GrAt G (inps (8 * i + j)) (8 * i + j) Fj wr) := hG
        have HM2 : Hid (Mvd Fi Fj wq wr) := hM
        have HOS : Hid (wr.ownsRow wq.heap.size 34 1 (.slice so j sc) j ((inpT i j).map (Value.int .i64))) := hown
        have HNS : Hid (∀ k, (Value.slice so j sc).ownBlock = some k → ¬ Fj k) := hns
        clear hG hM hown hns
        by_cases hjl : j < 8
        · have j1' : (j : Int) < 8 := by omega
          have HJ : Hid (j < 8) := hjl
          have HL2 : Hid ((inps (8 * i + j)).length < 90000) := by rw [inps_length]; have := HN.out; have := HI.out; unfold Hid; omega
          have HL3 : Hid (8 * i + j ≤ (inps (8 * i + j)).length) := by rw [inps_length]; exact Nat.le_refl _
          have HMX : Hid (j + 1 ≤ maxLen) := by unfold Hid maxLen; omega
          have HBY : Hid ((j + 1) * 8 ≤ 140737488355328) := by unfold Hid; omega
          clear hj hjl
          go_wp2_with fail
          refine (input_ok HG2.out HL2.out HL3.out).mono ?_
          rw [inps_length, inps_succ]
          rintro e w5 ⟨rfl, F5, G5, M5⟩
          obtain ⟨x, hx⟩ : ∃ x : Int, x = 2 * ((8 * i + j : Nat) : Int) + 2 := ⟨_, rfl⟩
          rw [← hx]
          have own5 := owns_move HOS.out M5 HNS.out
          have HO : Hid (∀ o', (w5.alloc o').ownsRow wq.heap.size 34 1 (.slice so j sc) j ((inpT i j).map (Value.int .i64))) := fun o' => own5.1.alloc o'
          have HN' : Hid _ := World.news_of_block (heap_alloc_new w5 (.cells #[.int .i64 x] 34))
          have HM5 : Hid (Mvd Fi F5 wq (w5.alloc (.cells #[.int .i64 x] 34))) := (HM2.out.trans M5).alloc _
          have HSZ : Hid (wq.heap.size ≤ (w5.alloc (.cells #[.int .i64 x] 34)).heap.size) := HM5.out.size
          have HRW : Hid (∀ k, (Value.slice so j sc).ownBlock = some k → wq.heap.size ≤ k) := fun k hk => (own5.1.lt k hk).1
          have HNF : Hid (∀ k, (Value.slice so j sc).ownBlock = some k → ¬ F5 k) := own5.2
          have HG5 : Hid (GrAt G (inps (8 * i + j + 1)) (8 * i + j + 1) F5 (w5.alloc (.cells #[.int .i64 x] 34))) := G5.below ((Below.refl _ _).alloc (Nat.le_refl _) _)
          have HX : Hid (x = 2 * ((8 * i + j : Nat) : Int) + 2) := hx
          clear own5 G5 M5 hx
          go_wp2_with (first
            | (at_builtin; refine wpList_append_lies _ rfl _ _ 31 rfl wq.heap.size 34 i0 _ 1 8 Tryd.underlying31 hi0 hz0 hz1 hz2 rfl (by omega) (.slice so j sc) j _ rfl (HO.out _) ⟨w5.heap.size, 0, none⟩ 1 1 [.int .i64 x] rfl rfl HN'.out (by simp [Value.oneCell']) (by omega) HMX.out HBY.out HSZ.out _ rfl ?_; intro g cap w6 hown6 hgrow hat hlt6)
            | go_in)
          have hg6 := grown_gr HG5.out hgrow HNF.out
          have hm6 : Mvd Fi F5 wq w6 := ⟨hgrow.os.trans HM5.out.os, hgrow.tape.trans HM5.out.tape, hgrow.output.trans HM5.out.output, Nat.le_trans HM5.out.size hgrow.size, fun k hk hn => by
            rw [hgrow.block k (Nat.lt_of_lt_of_le hk HM5.out.size) (fun e => by have := HRW.out k e.symm; omega)]; exact HM5.out.block k hk hn, fun k hk => by
              rcases HM5.out.more k hk with h1 | h1
              · exact .inl h1
              · exact .inr ⟨h1.1, Nat.lt_of_lt_of_le h1.2 hgrow.size⟩⟩
          have hown7 : w6.ownsRow wq.heap.size 34 1 (.slice (some ⟨g, 0, none⟩) (j + 1) cap) (j + 1) ((inpT i (j + 1)).map (Value.int .i64)) := by
            rw [inpT_succ, List.map_append, ← HX.out]; exact hown6
          have hnF6 : ∀ k, (Value.slice (some ⟨g, 0, none⟩) (j + 1) cap).ownBlock = some k → ¬ F5 k := fun k hk hf => by
            have : k = g := by simpa [Value.ownBlock] using hk.symm
            subst this
            rcases hat with hat | hat
            · exact HNF.out k hat hf
            · have := HG5.out.2.2.1 k hf; omega
          exact ⟨⟨j + 1, F5, _, _, HJ.out, rfl, rfl, hg6, hm6, hown7, hnF6⟩, by have := HJ.out; simp [intOf]; omega⟩
        · obtain rfl : j = 8 := by omega
          clear hj hjl
          obtain ⟨gw, rfl, hlit⟩ := lits_of_owns (l := inpT i 8) HOS.out (by simp [inpT]) (by omega) (by omega) HNS.out
          have HLIT : Hid (LitsAt Fj wr (.slice (some ⟨gw, 0, none⟩) 8 sc) (inpW i)) := hlit
          have own5 := owns_move HOW.out HM2.out HNQ.out
          have HO : Hid (∀ o', (wr.alloc o').ownsRow w.heap.size 31 1 (.slice qo i qc) i vals) := fun o' => own5.1.alloc o'
          have HN' : Hid _ := World.news_of_block (heap_alloc_new wr (.cells #[.slice (some ⟨gw, 0, none⟩) 8 sc] 31))
          have HMX : Hid (i + 1 ≤ maxLen) := by have := HN.out; have := HI.out; unfold Hid maxLen; omega
          have HBY : Hid ((i + 1) * 24 ≤ 140737488355328) := by have := HN.out; have := HI.out; unfold Hid; omega
          have HM5 : Hid (Mvd F Fj w (wr.alloc (.cells #[.slice (some ⟨gw, 0, none⟩) 8 sc] 31))) := (HM1.out.trans HM2.out).alloc _
          have HSZ : Hid (w.heap.size ≤ (wr.alloc (.cells #[.slice (some ⟨gw, 0, none⟩) 8 sc] 31)).heap.size) := HM5.out.size
          have HRW : Hid (∀ k, (Value.slice qo i qc).ownBlock = some k → w.heap.size ≤ k) := fun k hk => (own5.1.lt k hk).1
          have HNF : Hid (∀ k, (Value.slice qo i qc).ownBlock = some k → ¬ Fj k) := own5.2
          have HG5 : Hid (GrAt G (inps (8 * i + 8)) (8 * i + 8) Fj (wr.alloc (.cells #[.slice (some ⟨gw, 0, none⟩) 8 sc] 31))) := HG2.out.below ((Below.refl _ _).alloc (Nat.le_refl _) _)
          have HVA : Hid (∀ k v, vals[k]? = some v → ∃ V c, v = .slice (some ⟨V, 0, none⟩) 8 c ∧ LitsAt Fj (wr.alloc (.cells #[.slice (some ⟨gw, 0, none⟩) 8 sc] 31)) v (inpW k)) := fun k v hk => by
            obtain ⟨V, c, rfl, hL⟩ := HVS.out k v hk
            exact ⟨V, c, rfl, (hL.move HM2.out).move (Mvd.of_below ((Below.refl _ _).alloc (Nat.le_refl _) _))⟩
          have HLI2 : Hid (LitsAt Fj (wr.alloc (.cells #[.slice (some ⟨gw, 0, none⟩) 8 sc] 31)) (.slice (some ⟨gw, 0, none⟩) 8 sc) (inpW i)) := HLIT.out.move (Mvd.of_below ((Below.refl _ _).alloc (Nat.le_refl _) _))
          have HGW : Hid (∀ k, (Value.slice qo i qc).ownBlock = some k → k < wq.heap.size) := fun k hk => (HOW.out.lt k hk).2
          have HGB : Hid (wq.heap.size ≤ gw) := (HOS.out.lt gw rfl).1
          clear own5 hlit
          go_wp2_with (first
            | (at_builtin; refine wpList_append_lies _ rfl _ _ 29 rfl w.heap.size 31 i1 _ 1 24 Tryd.underlying29 hj0 hy0 hy1 hy2 rfl (by omega) (.slice qo i qc) i _ rfl (HO.out _) ⟨wr.heap.size, 0, none⟩ 1 1 [.slice (some ⟨gw, 0, none⟩) 8 sc] rfl rfl HN'.out (by simp [Value.oneCell']) (by omega) HMX.out HBY.out HSZ.out _ rfl ?_; intro g cap w6 hown6 hgrow hat hlt6)
            | go_in)
          have hg6 := grown_gr HG5.out hgrow HNF.out
          have hm6 : Mvd F Fj w w6 := ⟨hgrow.os.trans HM5.out.os, hgrow.tape.trans HM5.out.tape, hgrow.output.trans HM5.out.output, Nat.le_trans HM5.out.size hgrow.size, fun k hk hn => by
            rw [hgrow.block k (Nat.lt_of_lt_of_le hk HM5.out.size) (fun e => by have := HRW.out k e.symm; omega)]; exact HM5.out.block k hk hn, fun k hk => by
              rcases HM5.out.more k hk with h1 | h1
              · exact .inl h1
              · exact .inr ⟨h1.1, Nat.lt_of_lt_of_le h1.2 hgrow.size⟩⟩
          have hnF6 : ∀ k, (Value.slice (some ⟨g, 0, none⟩) (i + 1) cap).ownBlock = some k → ¬ Fj k := fun k hk hf => by
            have : k = g := by simpa [Value.ownBlock] using hk.symm
            subst this
            rcases hat with hat | hat
            · exact HNF.out k hat hf
            · have := HG5.out.2.2.1 k hf; omega
          have e88 : 8 * (i + 1) = 8 * i + 8 := by omega
          have hvs6 : ∀ k v, (vals ++ [.slice (some ⟨gw, 0, none⟩) 8 sc])[k]? = some v → ∃ V c, v = .slice (some ⟨V, 0, none⟩) 8 c ∧ LitsAt Fj w6 v (inpW k) := fun k v hk => by
            rcases Nat.lt_or_ge k vals.length with hlt | hge
            · rw [List.getElem?_append_left hlt] at hk
              obtain ⟨V, c, rfl, hL⟩ := HVA.out k v hk
              refine ⟨V, c, rfl, lits_grown hL hgrow ?_⟩
              exact lits_apart hL (by rw [inpW_length]; omega) (HO.out _) HVL.out (fun k v hk => by obtain ⟨V, c, e, _⟩ := HVA.out k v hk; exact ⟨V, c, e⟩) (by have := HVL.out; omega)
            · rw [List.getElem?_append_right hge] at hk
              have h0 : k - vals.length = 0 := by
                rcases Nat.eq_zero_or_pos (k - vals.length) with h | h
                · exact h
                · rw [List.getElem?_eq_none (by simp; omega)] at hk; cases hk
              rw [h0] at hk
              simp at hk
              subst hk
              have : k = i := by have := HVL.out; omega
              subst this
              exact ⟨gw, sc, rfl, lits_grown HLI2.out hgrow (fun hk => by have := HGW.out gw hk; have := HGB.out; omega)⟩
          refine ⟨⟨i + 1, Fj, _, _, vals ++ [.slice (some ⟨gw, 0, none⟩) 8 sc], HI.out, by rw [N4.out]; rfl, rfl, by rw [e88]; exact hg6, hm6, hown6, hnF6, by rw [List.length_append, HVL.out]; rfl, hvs6⟩, by rw [N4.out]; have := HI.out; simp [intOf]; omega⟩
    · obtain rfl : i = n := by omega
      clear hi hil
      go_wp2
      go_ret2
      refine ⟨qo, qc, Fi, rfl, HG1.out, HM1.out, ⟨by have := HN.out; simp; omega, qo, qc, by simp, fun k l hk => ?_⟩⟩
      have hkl := (List.getElem?_eq_some_iff.1 hk).1
      simp at hkl
      rw [List.getElem?_map, List.getElem?_range hkl] at hk
      simp at hk
      subst hk
      obtain ⟨v, hv⟩ : ∃ v, vals[k]? = some v := ⟨_, List.getElem?_eq_getElem (by have := HVL.out; omega)⟩
      obtain ⟨V, c, rfl, hL⟩ := HVS.out k v hv
      obtain ⟨g, cap, e, _, _⟩ := HOW.out.form (by omega)
      obtain ⟨rfl, rfl⟩ : qo = some ⟨g, 0, none⟩ ∧ qc = cap := by simpa using e
      have hadd' : ∀ j, (⟨g, 0, none⟩ : Addr).add j = ⟨g, 0 + j, none⟩ := fun j => by unfold Addr.add; split <;> simp_all
      refine ⟨g, 0, some ⟨V, 0, none⟩, c, rfl, HNQ.out g rfl, ?_, ?_⟩
      · rw [← hadd', inpW_length]; exact HOW.out.cells (g := g) rfl k _ hv
      · rw [inpW_length]; exact hL
end Go.Proofs.YtmmfodiagcnjeaaDoor
