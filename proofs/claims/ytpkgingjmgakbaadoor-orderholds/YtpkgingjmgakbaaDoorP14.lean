/-
  A REGION THAT DRAWS ITS ORDER, WHERE A CELL IS LOADED AND AT THE END WRITTEN: the load may be taken first, since what it reads stands until the store has come up, and the store waits for the load.
-/
import Derived.Test.YtpkgingjmgakbaaDoorProg
import Derived.Deep.RegionHeld3
import Derived.Test.YtpkgingjmgakbaaDoorP13
namespace Go.Proofs.YtpkgingjmgakbaaDoor
open Go

section
variable {P : Program} {ops : Array Oper} {Q : Exit → Act → World → Prop} {md : Region.Mode} {S T : World → Prop} {c : Nat}

/-- S holds; T holds as long as number c has not come up. -/
def Till (S T : World → Prop) (c : Nat) (listed : Array Bool) (w : World) : Prop := S w ∧ (listed.getD c true = false → T w)
/-- Whatever order is picked from here on, and behind each operation that comes up 'Till' holds. -/
def wpTill (P : Program) (md : Region.Mode) (ops : Array Oper) (Q : Exit → Act → World → Prop) (S T : World → Prop) (c : Nat) : Nat → Array Bool → Act → World → Prop
  | 0, listed, a, w => Region.ready md ops listed = [] ∧ Q .normal a w
  | fuel + 1, listed, a, w =>
    (Region.ready md ops listed = [] → Q .normal a w) ∧
    ∀ i ∈ Region.ready md ops listed, wpOp P ops Q i (fun a' w' => Till S T c (listed.setIfInBounds i true) w' ∧ wpTill P md ops Q S T c fuel (listed.setIfInBounds i true) a' w') a w
theorem wpAny_of_till : ∀ (fuel : Nat) (listed : Array Bool) (a : Act) (w : World), wpTill P md ops Q S T c fuel listed a w → wpAny P md ops Q fuel listed a w
  | 0, _, _, _, h => h
  | fuel + 1, _, _, _, h => ⟨h.1, fun i hi => wpOp_mono (fun a' w' h' => wpAny_of_till fuel _ a' w' h'.2) (h.2 i hi)⟩
theorem unlisted {listed : Array Bool} {i c : Nat} (h : (listed.setIfInBounds i true).getD c true = false) : listed.getD c true = false := by
  by_cases e : i = c
  · subst e
    rcases Nat.lt_or_ge i listed.size with h' | h'
    · simp [h'] at h
    · simp at h
  · rwa [getD_set_ne true e] at h
theorem Till.back {listed : Array Bool} {i : Nat} {w : World} (h : Till S T c listed w) : Till S T c (listed.setIfInBounds i true) w := ⟨h.1, fun hc => h.2 (unlisted hc)⟩
theorem Till.last {listed : Array Bool} {w : World} (h : S w) : Till S T c (listed.setIfInBounds c true) w := ⟨h, fun hc => by
  rcases Nat.lt_or_ge c listed.size with h' | h'
  · simp [h'] at hc
  · simp at hc⟩
/-- An operation that yields its value wherever R holds may be taken first, if R holds as long as it has not come up. -/
theorem wpTill_first {R : World → Prop} {G : Array Bool → Prop} {i : Nat} {oi : Oper} {v : Value} (hi : ops[i]? = some oi) (hci : i ≠ c) (hsel : ∀ (j : Nat) (o : Oper) cs b, ops[j]? = some o → o.op ≠ .select cs b)
    (hQ : ∀ c a w, Q (.panic c) (a.put oi.dst v) w → Q (.panic c) a w) (hR : ∀ l w, G l → Till S T c l w → R w)
    (hG : ∀ l j, G l → i ∈ Region.ready md ops l → j ∈ Region.ready md ops l → j ≠ i → G (l.setIfInBounds j true)) :
    ∀ (fuel : Nat) (listed : Array Bool) (a : Act) (w : World),
      (∀ j oj, ops[j]? = some oj → j ≠ i → listed.getD j true = false → (∀ e ∈ oj.after, Region.binds md e = true → e.on ≠ i) → oi.apart ops oj = true) →
      i ∈ Region.ready md ops listed → G listed → YieldsIf P ops R oi v a → Till S T c listed w →
      wpTill P md ops Q S T c fuel (listed.setIfInBounds i true) (a.put oi.dst v) w → wpTill P md ops Q S T c (fuel + 1) listed a w := by
  intro fuel
  induction fuel with
  | zero =>
    intro listed a w _ hr hg hy hS H
    refine ⟨fun h => (by rw [h] at hr; cases hr), fun j hj => ?_⟩
    by_cases hji : j = i
    · subst hji; exact hy.wpOp hi (hR _ _ hg hS) ⟨hS.back, H⟩
    · have := ready_mono hj hji
      rw [H.1] at this
      cases this
  | succ fuel ih =>
    intro listed a w hfree hr hg hy hS H
    refine ⟨fun h => (by rw [h] at hr; cases hr), fun j hj => ?_⟩
    by_cases hji : j = i
    · subst hji; exact hy.wpOp hi (hR _ _ hg hS) ⟨hS.back, H⟩
    · obtain ⟨hjun, oj, hoj, hall⟩ := mem_ready.1 hj
      have hun := (mem_ready.1 hr).1
      have hnot : ∀ e ∈ oj.after, Region.binds md e = true → e.on ≠ i := fun e he hb heq => by
        have h1 := hall e he hb
        rw [heq] at h1
        rcases Nat.lt_or_ge i listed.size with h' | h'
        · simp [h'] at hun h1; rw [hun] at h1; cases h1
        · simp [Array.getElem?_eq_none h'] at h1
      have h2 := wpOp_putIf hoj (hfree j oj hoj hji hjun hnot) (fun cs b => hsel i oi cs b hi) (fun cs b => hsel j oj cs b hoj) hQ hy (H.2 j (ready_mono hj hji))
      have hcomm : (listed.setIfInBounds i true).setIfInBounds j true = (listed.setIfInBounds j true).setIfInBounds i true := Array.setIfInBounds_comm _ _ (Ne.symm hji)
      refine wpOp_mono (fun a' w' h3 => ?_) h2
      rw [hcomm] at h3
      have hT : Till S T c (listed.setIfInBounds j true) w' := ⟨h3.2.1.1, fun hc => h3.2.1.2 (by rw [getD_set_ne true hci]; exact hc)⟩
      refine ⟨hT, ih (listed.setIfInBounds j true) a' w' (fun k ok hk hki hunk hno => hfree k ok hk hki (unlisted hunk) hno) (ready_mono hr (Ne.symm hji)) (hG _ _ hg hr hj hji) h3.1 hT h3.2.2⟩
/-- What yields wherever S holds. -/
theorem wpTill_take {i : Nat} {oi : Oper} {v : Value} {fuel : Nat} {listed : Array Bool} {a : Act} {w : World} (hi : ops[i]? = some oi) (hci : (i == c) = false)
    (hs : Region.noSelect ops = true) (hf : Region.free md ops listed i = true) (hr : (Region.ready md ops listed).contains i = true)
    (hQ : ∀ c a w, Q (.panic c) (a.put oi.dst v) w → Q (.panic c) a w) (hy : YieldsIf P ops S oi v a) (hS : Till S T c listed w)
    (h : wpTill P md ops Q S T c fuel (listed.setIfInBounds i true) (a.put oi.dst v) w) : wpTill P md ops Q S T c (fuel + 1) listed a w :=
  wpTill_first (R := S) (G := fun _ => True) hi (by simpa using hci) (Region.noSelect_spec hs) hQ (fun _ _ _ h => h.1) (fun _ _ _ _ _ _ => trivial) fuel listed a w (Region.free_spec hi hf) (by simpa using hr) trivial hy hS h
/-- Number j waits for number i. -/
def waits (md : Region.Mode) (ops : Array Oper) (j i : Nat) : Bool := ((ops[j]?).map fun o => o.after.any fun e => Region.binds md e && e.on == i).getD false
theorem waits_not {i j : Nat} {listed : Array Bool} (h : waits md ops j i = true) (hi : listed.getD i true = false) : j ∉ Region.ready md ops listed := fun hj => by
  obtain ⟨_, o, ho, hall⟩ := mem_ready.1 hj
  simp only [waits, ho, Option.map_some, Option.getD_some] at h
  obtain ⟨e, he, hb⟩ := Array.any_eq_true'.1 h
  simp only [Bool.and_eq_true, beq_iff_eq] at hb
  have h1 := hall e he hb.1
  rw [hb.2] at h1
  rcases Nat.lt_or_ge i listed.size with h' | h'
  · simp [h'] at hi h1; rw [hi] at h1; cases h1
  · simp [Array.getElem?_eq_none h'] at h1
/-- What yields wherever T holds: number d waits for it, and c for d. -/
theorem wpTill_load {i : Nat} (d : Nat) {oi : Oper} {v : Value} {fuel : Nat} {listed : Array Bool} {a : Act} {w : World} (hi : ops[i]? = some oi) (hci : (i == c) = false)
    (hs : Region.noSelect ops = true) (hf : Region.free md ops listed i = true) (hr : (Region.ready md ops listed).contains i = true)
    (hd : waits md ops d i = true) (hc : waits md ops c d = true) (hdl : listed.getD d true = false) (hcl : listed.getD c true = false)
    (hQ : ∀ c a w, Q (.panic c) (a.put oi.dst v) w → Q (.panic c) a w) (hy : YieldsIf P ops T oi v a) (hS : Till S T c listed w)
    (h : wpTill P md ops Q S T c fuel (listed.setIfInBounds i true) (a.put oi.dst v) w) : wpTill P md ops Q S T c (fuel + 1) listed a w :=
  wpTill_first (R := T) (G := fun l => l.getD d true = false ∧ l.getD c true = false) hi (by simpa using hci) (Region.noSelect_spec hs) hQ (fun _ _ hg h => h.2 hg.2)
    (fun l j hg hri hrj _ => by
      have hui := (mem_ready.1 hri).1
      have n1 : j ≠ d := fun e => waits_not hd hui (by rw [← e]; exact hrj)
      have n2 : j ≠ c := fun e => waits_not hc hg.1 (by rw [← e]; exact hrj)
      exact ⟨by rw [getD_set_ne true n1]; exact hg.1, by rw [getD_set_ne true n2]; exact hg.2⟩)
    fuel listed a w (Region.free_spec hi hf) (by simpa using hr) ⟨hdl, hcl⟩ hy hS h
/-- Each of the operations 'rs' comes up next. -/
def AllTill (P : Program) (md : Region.Mode) (ops : Array Oper) (Q : Exit → Act → World → Prop) (S T : World → Prop) (c fuel : Nat) (listed : Array Bool) (a : Act) (w : World) (rs : List Nat) : Prop :=
  ∀ i ∈ rs, wpOp P ops Q i (fun a' w' => Till S T c (listed.setIfInBounds i true) w' ∧ wpTill P md ops Q S T c fuel (listed.setIfInBounds i true) a' w') a w
theorem AllTill.nil {fuel : Nat} {listed : Array Bool} {a : Act} {w : World} : AllTill P md ops Q S T c fuel listed a w [] := fun _ h => by cases h
theorem AllTill.cons {fuel : Nat} {listed : Array Bool} {a : Act} {w : World} {i : Nat} {o : Oper} {rs : List Nat} (ho : ops[i]? = some o)
    (h : ∀ K' : Act → World → Prop, Shut (∀ a w, Till S T c (listed.setIfInBounds i true) w → (Till S T c (listed.setIfInBounds i true) w → wpTill P md ops Q S T c fuel (listed.setIfInBounds i true) a w) → K' a w) → if Region.wanted o (yielded ops a.tmps) = true then Oper.wp P o a w K' Q else K' (a.put o.dst undef) w)
    (hs : AllTill P md ops Q S T c fuel listed a w rs) : AllTill P md ops Q S T c fuel listed a w (i :: rs) := fun j hj => by
  rcases List.mem_cons.1 hj with rfl | hj
  · exact wpOp_step ho (fun K' hK => h K' (fun a w hS hW => hK a w ⟨hS, hW hS⟩))
  · exact hs j hj
theorem wpTill_ready {rs : List Nat} {fuel : Nat} {listed : Array Bool} {a : Act} {w : World} (hr : Region.ready md ops listed = rs) (hne : rs ≠ [])
    (h : AllTill P md ops Q S T c fuel listed a w rs) : wpTill P md ops Q S T c (fuel + 1) listed a w := ⟨fun h0 => absurd (hr ▸ h0) hne, fun i hi => h i (hr ▸ hi)⟩
theorem wpTill_done {listed : Array Bool} {a : Act} {w : World} (hr : Region.ready md ops listed = []) (h : Q .normal a w) : ∀ fuel, wpTill P md ops Q S T c fuel listed a w
  | 0 => ⟨hr, h⟩
  | _ + 1 => ⟨fun _ => h, by rw [hr]; simp⟩
theorem wp_region_till {id : Nat} {a : Act} {w : World} (c : Nat) (S T : World → Prop) (hm : P.follows .mixedOrders = true) (hS : S w.drew) (hT : T w.drew)
    (h : Till S T c (Array.replicate ops.size false) w.drew → wpTill P .any ops Q S T c ops.size (Array.replicate ops.size false) a w.drew) : (Code.region id ops true).wp P Q a w :=
  wp_region_any hm (wpAny_of_till _ _ _ _ (h ⟨hS, fun _ => hT⟩))
end
end Go.Proofs.YtpkgingjmgakbaaDoor

/-
  package types: typed$1 BY CONTRACT: the types of terms, one behind the other.
-/
namespace Go.Proofs.YtpkgingjmgakbaaDoor
open Go.RowKit Go.Maps

theorem CkAt.keepF {X : Nat → Prop} {cb : Nat} {kd : List UInt8 → Option Int} {ps : List Int} {F : Nat → Prop} {w w' : World} (h : CkAt X cb kd ps F w) (hk : ∀ k, (F k ∨ X k) → k < w.heap.size → w'.heap[k]? = w.heap[k]?) (hs : w.heap.size ≤ w'.heap.size) : CkAt X cb kd ps F w' := by
  have hlt := h.lt
  obtain ⟨M, K, nK, B, C, nv, uv, po, pc, h1, h2, h3, h4, h5, h6⟩ := h
  refine ⟨M, K, nK, B, C, nv, uv, po, pc, ?_, h2.kept (fun k hb => hk k (.inr (h5 k hb).2) (h2.lt k hb)), owns_keep h3 (fun k hb => hk k (.inl ((h4 k).2 (.inr hb))) (h3.lt k hb).2), h4, h5, fun k hx => by have := h6 k hx; omega⟩
  rw [hk cb (.inl ((h4 cb).2 (.inl rfl))) (Array.getElem?_eq_some_iff.1 h1).1]
  exact h1
theorem RowAt.less {w : World} {S S' : Nat → Prop} {size n : Nat} {v : Value} {xs : List Value} (h : RowAt w S size v n xs) (hs : ∀ b, S b → S' b) : RowAt w S' size v n xs := h.keep (fun b hb _ => ⟨hs b hb, rfl⟩)
theorem ExIn.less {w : World} {S S' : Nat → Prop} {es : List Ex} {xs : List Value} (h : ExIn w S es xs) (hs : ∀ b, S b → S' b) : ExIn w S' es xs := h.keep (fun b hb _ => ⟨hs b hb, rfl⟩)
/-- Blocks that turn: the checker's, the list's cell and its row. -/
def OwnT (F : Nat → Prop) (b1 : Nat) (v : Value) : Nat → Prop := fun k => F k ∨ k = b1 ∨ v.ownBlock = some k
/-- The types so far. -/
structure TyS (X : Nat → Prop) (cb b1 : Nat) (kd : List UInt8 → Option Int) (w : World) (F0 : Nat → Prop) (ks qs : List Int) (ta : Option Addr) (tc : Nat) (F : Nat → Prop) (wr : World) : Prop where
  ck : CkAt X cb kd qs F wr
  cell : wr.heap[b1]? = some (.cells #[.slice ta ks.length tc] 22 (0, 0))
  row : wr.ownsRow 0 3 1 (.slice ta ks.length tc) ks.length (ks.map (Value.int .i64))
  nf : ¬ F b1
  nr : ∀ k, (Value.slice ta ks.length tc).ownBlock = some k → ¬ F k
  mv : Mvd (fun k => F0 k ∨ k = b1) (OwnT F b1 (.slice ta ks.length tc)) w wr
  nx : ∀ k, (Value.slice ta ks.length tc).ownBlock = some k → ¬ X k
  lb : ¬ X b1
theorem TyS.apart {X : Nat → Prop} {cb b1 : Nat} {kd : List UInt8 → Option Int} {w : World} {F0 : Nat → Prop} {ks qs : List Int} {ta : Option Addr} {tc : Nat} {F : Nat → Prop} {wr : World} (h : TyS X cb b1 kd w F0 ks qs ta tc F wr) : (Value.slice ta ks.length tc).ownBlock ≠ some b1 := fun e => by
  obtain ⟨cur, hc⟩ := owns_block h.row e
  rw [h.cell] at hc
  have := (Obj.cells.inj (Option.some.inj hc)).2.1
  exact absurd this (by decide)
/-- Behind a term more. -/
theorem TyS.next {X : Nat → Prop} {cb b1 : Nat} {kd : List UInt8 → Option Int} {w : World} {F0 : Nat → Prop} {ks qs rs : List Int} {ta : Option Addr} {tc : Nat} {F F6 : Nat → Prop} {wr w6 w7 : World} {k : Int} {o : Obj} {g cap : Nat} (h : TyS X cb b1 kd w F0 ks qs ta tc F wr) (hm6 : Mvd F F6 wr w6) (hck : CkAt X cb kd (qs ++ rs) F6 w6)
    (hgrow : (w6.alloc o).grownBy w7 (Value.slice ta ks.length tc).ownBlock) (hat : (Value.slice ta ks.length tc).ownBlock = some g ∨ g = (w6.alloc o).heap.size) (hlt : g < w7.heap.size) (hown : w7.ownsRow 0 3 1 (.slice (some ⟨g, 0, none⟩) (ks.length + 1) cap) (ks.length + 1) (ks.map (Value.int .i64) ++ [.int .i64 k])) :
    TyS X cb b1 kd w F0 (ks ++ [k]) (qs ++ rs) (some ⟨g, 0, none⟩) cap F6 (w7.setCell ⟨b1, 0, none⟩ (.slice (some ⟨g, 0, none⟩) (ks.length + 1) cap)) := by
  have e1 : (ks ++ [k]).length = ks.length + 1 := by simp
  have hap := h.apart
  obtain ⟨hc6, hn6⟩ := hm6.rowKept h.cell h.nf
  have hr6 := owns_move h.row hm6 h.nr
  have hb1l : b1 < w6.heap.size := (Array.getElem?_eq_some_iff.1 hc6).1
  have hsz : (w6.alloc o).heap.size = w6.heap.size + 1 := by simp
  have hgb : g ≠ b1 := fun e => by
    rcases hat with h1 | h1
    · rw [e] at h1; exact hap h1
    · omega
  have hk7 : ∀ j, j < w6.heap.size → (Value.slice ta ks.length tc).ownBlock ≠ some j → w7.heap[j]? = w6.heap[j]? := fun j hj hn => by
    rw [hgrow.block j (by omega) (fun e => hn e.symm)]
    exact ((Below.refl _ _).alloc (Nat.le_refl _) o).block j hj
  have hks : ∀ j, j ≠ b1 → (w7.setCell ⟨b1, 0, none⟩ (.slice (some ⟨g, 0, none⟩) (ks.length + 1) cap)).heap[j]? = w7.heap[j]? := fun j hj => Below.heap_setCell w7 ⟨b1, 0, none⟩ _ j hj
  have hz7 : w6.heap.size ≤ w7.heap.size := by have := hgrow.size; omega
  have hrl : ∀ j, (Value.slice ta ks.length tc).ownBlock = some j → ¬ X j := h.nx
  have hF6 := hck.lt
  refine ⟨?_, ?_, ?_, hn6, fun j hj hf => ?_, ?_, fun j hj hx => ?_, h.lb⟩
  · refine hck.keepF (fun j hj hl => ?_) (by rw [size_setCell]; exact hz7)
    have n1 : j ≠ b1 := fun e => by
      rcases hj with hj | hj
      · exact hn6 (by rw [← e]; exact hj)
      · exact h.lb (by rw [← e]; exact hj)
    rw [hks j n1, hk7 j hl (fun e => by
      rcases hj with hj | hj
      · exact hr6.2 j e hj
      · exact hrl j e hj)]
  · rw [e1]
    exact heap_setCell_at (i := 0) ((hk7 b1 hb1l hap).trans hc6) _
  · rw [e1, List.map_append]
    exact owns_keep (w' := w7.setCell ⟨b1, 0, none⟩ (.slice (some ⟨g, 0, none⟩) (ks.length + 1) cap)) hown (fun j hj => hks j (fun e => hgb (by
      obtain rfl : g = j := by simpa [Value.ownBlock] using hj
      exact e)))
  · rw [e1] at hj
    obtain rfl : g = j := by simpa [Value.ownBlock] using hj
    rcases hat with h1 | h1
    · exact hr6.2 g h1 hf
    · have := hF6 g hf; omega
  · rw [e1]
    have hm := h.mv
    have hz := hm.size
    have hz6 := hm6.size
    refine ⟨hgrow.os.trans (hm6.os.trans hm.os), hgrow.tape.trans (hm6.tape.trans hm.tape), hgrow.output.trans (hm6.output.trans hm.output), by rw [size_setCell]; omega, fun j hj hn => ?_, fun j hj => ?_⟩
    · have hn' : ¬ OwnT F b1 (.slice ta ks.length tc) j := fun hf => by
        rcases hm.more j hf with h1 | h1
        · exact hn h1
        · omega
      rw [hks j (fun e => hn (.inr e)), hk7 j (by omega) (fun e => hn' (.inr (.inr e))), hm6.block j (by omega) (fun hf => hn' (.inl hf))]
      exact hm.block j hj hn
    · rw [size_setCell]
      rcases hj with hj | hj | hj
      · rcases hm6.more j hj with h1 | h1
        · rcases hm.more j (.inl h1) with h2 | h2
          · exact .inl h2
          · exact .inr ⟨h2.1, by omega⟩
        · exact .inr ⟨by omega, by omega⟩
      · exact .inl (.inr hj)
      · obtain rfl : g = j := by simpa [Value.ownBlock] using hj
        rcases hat with h1 | h1
        · rcases hm.more g (.inr (.inr h1)) with h2 | h2
          · exact .inl h2
          · exact .inr ⟨h2.1, by omega⟩
        · exact .inr ⟨by omega, hlt⟩
  · rw [e1] at hj
    obtain rfl : g = j := by simpa [Value.ownBlock] using hj
    rcases hat with h1 | h1
    · exact h.nx g h1 hx
    · have := hck.base g hx; omega
/-- What typed's function does. -/
def Typ1P (X : Nat → Prop) (cb b1 : Nat) (kd : List UInt8 → Option Int) (l : List Ex) (F : Nat → Prop) (w : World) (e : Ending) (w' : World) : Prop :=
  (∃ ks qs ta tc F', tyL kd l = some (ks, qs) ∧ e = .returned (.tuple #[]) ∧ TyS X cb b1 kd w F ks qs ta tc F' w') ∨ (tyL kd l = none ∧ ThrewT e ∧ ∃ F' v, Mvd (fun k => F k ∨ k = b1) F' w w' ∧ w'.heap[b1]? = some (.cells #[v] 22 (0, 0)))
end Go.Proofs.YtpkgingjmgakbaaDoor
