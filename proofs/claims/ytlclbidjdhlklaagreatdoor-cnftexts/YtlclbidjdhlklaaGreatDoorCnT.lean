/-
  package cnf: written BY CONTRACT: the text of a formula.
-/
import Derived.Test.YtlclbidjdhlklaaGreatDoorCnH
import Derived.Test.YtlclbidjdhlklaaGreatDoorShelfA
import Derived.Lib.AppendIntMem
import Derived.Lib.ItoaLen
import Derived.Lib.OthersKept
import Derived.Laws.IdiomStrings
import Derived.OwnWalk
namespace Go.Proofs.YtlclbidjdhlklaaGreatDoor
open Go.RowKit Go.Maps

/-- A number and what stands behind it. -/
def numB (n : Int) (b : UInt8) : List UInt8 := Lib.itoa n ++ [b]
def clauseB (c : List Int) : List UInt8 := c.flatMap (fun x => numB x 32) ++ numB 0 10
def headB : List UInt8 := [112, 32, 99, 110, 102, 32]
/-- THE TEXT OF A FORMULA. -/
def textC (n : Int) (cs : List (List Int)) : List UInt8 := headB ++ numB n 32 ++ numB (cs.length : Int) 10 ++ cs.flatMap clauseB
/-- How many numbers are written. -/
def sizC (cs : List (List Int)) : Nat := (cs.map fun c => c.length + 1).sum
theorem numB_le {n : Int} (h : I64 n) (b : UInt8) : (numB n b).length ≤ 22 := by
  unfold I64 at h
  have := Lib.itoa_length_le n h.1 h.2
  unfold numB
  simp; omega
theorem nums_le : ∀ (c : List Int), (∀ x ∈ c, I64 x) → (c.flatMap fun x => numB x 32).length ≤ 22 * c.length
  | [], _ => by simp
  | x :: r, h => by
    have h1 := numB_le (h x (List.mem_cons_self ..)) 32
    have h2 := nums_le r (fun y hy => h y (List.mem_cons_of_mem _ hy))
    rw [List.flatMap_cons, List.length_append, List.length_cons]
    omega
theorem clauseB_le {c : List Int} (h : ∀ x ∈ c, I64 x) : (clauseB c).length ≤ 22 * (c.length + 1) := by
  have h1 := nums_le c h
  have h2 := numB_le (n := 0) (by unfold I64; omega) 10
  unfold clauseB
  rw [List.length_append]; omega
theorem clauses_le : ∀ (cs : List (List Int)), (∀ c ∈ cs, ∀ x ∈ c, I64 x) → (cs.flatMap clauseB).length ≤ 22 * sizC cs
  | [], _ => by simp
  | c :: r, h => by
    have h1 := clauseB_le (h c (List.mem_cons_self ..))
    have h2 := clauses_le r (fun y hy => h y (List.mem_cons_of_mem _ hy))
    rw [List.flatMap_cons, List.length_append]
    unfold sizC at h2 ⊢
    rw [List.map_cons, List.sum_cons]
    omega
theorem sizC_take (cs : List (List Int)) (j : Nat) : sizC (cs.take j) ≤ sizC cs := by
  induction cs generalizing j with
  | nil => simp
  | cons c r ih =>
    cases j with
    | zero => simp [sizC]
    | succ j =>
      have := ih j
      unfold sizC at this ⊢
      rw [List.take_succ_cons, List.map_cons, List.sum_cons, List.map_cons, List.sum_cons]
      omega
theorem sizC_len (cs : List (List Int)) : cs.length ≤ sizC cs := by
  induction cs with
  | nil => simp
  | cons c r ih => unfold sizC at ih ⊢; rw [List.map_cons, List.sum_cons, List.length_cons]; omega
theorem sizC_get {cs : List (List Int)} {j : Nat} {c : List Int} (h : cs[j]? = some c) : sizC (cs.take j) + (c.length + 1) ≤ sizC cs := by
  induction cs generalizing j with
  | nil => simp at h
  | cons d r ih =>
    cases j with
    | zero => simp at h; subst h; unfold sizC; rw [List.map_cons, List.sum_cons]; simp
    | succ j =>
      have := ih (j := j) (by simpa using h)
      unfold sizC at this ⊢
      rw [List.take_succ_cons, List.map_cons, List.sum_cons, List.map_cons, List.sum_cons]
      omega

/-- BYTES WRITTEN SO FAR, in a slice whose cell is block C; B: what was there. -/
def BtAt (B C : Nat) (bs : List UInt8) (w : World) : Prop :=
  B ≤ C ∧ ∃ sv, w.heap[C]? = some (.cells #[sv] 60 (0, 0)) ∧ w.ownsRow B 5 1 sv bs.length (Lib.byteCells bs)
theorem Tryz.infoByte : (Tryz.prog.info? 5).map (fun i => (i.zero, i.size, i.bytes)) = some (some (.int .u8 0), 1, 1) := by kernel_rfl
theorem owns_type {w : World} {base n size C : Nat} {e u : TypeId} {v : Value} {xs : List Value} {cs : Array Value} (h : w.ownsRow base e size v n xs) (hC : w.heap[C]? = some (.cells cs u (0, 0))) (hne : u ≠ e) : v.ownBlock ≠ some C := fun hk => by
  obtain ⟨_, h2⟩ := h
  rcases h2 with ⟨rfl, _⟩ | ⟨g, cap, cur, rfl, _, hg, _⟩
  · simp [Value.ownBlock] at hk
  · have : g = C := by simpa [Value.ownBlock] using hk
    subst this
    rw [hC] at hg
    have := Option.some.inj hg
    simp at this
    exact hne this.2
theorem owns_above {w : World} {base n size : Nat} {e : TypeId} {v : Value} {xs : List Value} (h : w.ownsRow base e size v n xs) : ∀ k, v.ownBlock = some k → base ≤ k := fun k hk => (h.lt k hk).1
theorem owns_cells {w : World} {base n size : Nat} {e : TypeId} {v : Value} {xs : List Value} (h : w.ownsRow base e size v n xs) {k : Nat} (hk : v.ownBlock = some k) : ∃ c fz, w.heap[k]? = some (.cells c e fz) := by
  obtain ⟨_, h2⟩ := h
  rcases h2 with ⟨rfl, _⟩ | ⟨g, cap, cur, rfl, _, hg, _⟩
  · simp [Value.ownBlock] at hk
  · have : g = k := by simpa [Value.ownBlock] using hk
    subst this
    exact ⟨_, _, hg⟩
theorem alloc_row' {w : World} {j : Nat} {ob : Obj} (o : Obj) (h : w.heap[j]? = some ob) : (w.alloc o).heap[j]? = some ob := by
  have := ((Below.refl w.heap.size w).alloc (Nat.le_refl _) o).block j (Array.getElem?_eq_some_iff.1 h).1
  rw [this]; exact h
/-- What AppendInt must do here. -/
def AppP (B : Nat) (bs : List UInt8) (n : Int) (w : World) (e : Ending) (w' : World) : Prop := ∃ v', e = .returned v' ∧ w'.ownsRow B 5 1 v' (bs.length + (Lib.itoa n).length) (Lib.byteCells bs ++ Lib.byteCells (Lib.itoa n)) ∧ Below B w w' ∧ Lib.OthersKept 5 none w w'
set_option maxRecDepth 100000 in
set_option maxHeartbeats 4000000 in
theorem wsay_core (B C : Nat) (bs : List UInt8) (w : World) (sv : Value) (hBC : B ≤ C) (hC : w.heap[C]? = some (.cells #[sv] 60 (0, 0))) (hBw : B ≤ w.heap.size) (n : Int) (hn : I64 n) (b : UInt8) (hl : bs.length ≤ 100000000) (hA : Calls Tryz.prog 28 #[sv, .int .i64 n, .int .i64 10] w (AppP B bs n w)) :
    Calls Tryz.prog 27 #[.int .i64 n, .int .u8 b.toNat, .pointer (some ⟨C, 0, none⟩)] w fun e w' => e = .returned (.tuple #[]) ∧ BtAt B C (bs ++ numB n b) w' ∧ Below B w w' ∧ Lib.OthersKept 5 (some C) w w' := by
  obtain ⟨i0, hi0, hz0, hz1, hz2⟩ := info_parts Tryz.infoByte
  have hlen := numB_le hn b
  unfold I64 at hn
  have la := Lib.itoa_length_le n hn.1 hn.2
  have HA : Hid (Calls Tryz.prog 28 #[sv, .int .i64 n, .int .i64 10] w (AppP B bs n w)) := hA
  have c0 : w.cell? ⟨C, 0, none⟩ = some sv := by rw [cell_of_row w _ _ _ _ (0, 0) hC]; rfl
  have HC : Hid (w.heap[C]? = some (.cells #[sv] 60 (0, 0))) := hC
  have HBC : Hid (B ≤ C ∧ B ≤ w.heap.size) := ⟨hBC, hBw⟩
  have HL : Hid (bs.length + (Lib.itoa n).length + 1 ≤ 200000000) := by unfold Hid; omega
  have HM : Hid (bs.length + (Lib.itoa n).length + 1 ≤ maxLen) := by unfold Hid maxLen; omega
  have HB : Hid ((bs.length + (Lib.itoa n).length + 1) * 1 ≤ 140737488355328) := by unfold Hid; omega
  clear hBC hC hA hlen la hn hl hBw
  go_enter Tryz.func27, Tryz.ntmps27
  go_wp2_with fail
  refine HA.out.mono ?_
  rintro e w1 ⟨v1, rfl, hown1, hb1, hok1⟩
  have hC1 : w1.heap[C]? = some (.cells #[sv] 60 (0, 0)) := hok1 C _ HC.out (by simp) (fun c fz h => by cases h)
  obtain ⟨o1, c1, rfl, _⟩ := owns_form hown1
  have hB1 : B ≤ w1.heap.size := Nat.le_trans HBC.out.2 hb1.size
  have HO : Hid (∀ o', (w1.alloc o').ownsRow B 5 1 (.slice o1 (bs.length + (Lib.itoa n).length) c1) (bs.length + (Lib.itoa n).length) (Lib.byteCells bs ++ Lib.byteCells (Lib.itoa n))) := fun o' => hown1.alloc o'
  have HN' : Hid _ := World.news_of_block (heap_alloc_new w1 (.cells #[.int .u8 b.toNat] 5))
  have hne : (Value.slice o1 (bs.length + (Lib.itoa n).length) c1).ownBlock ≠ some C := owns_type hown1 hC1 (by decide)
  have HNE : Hid ((Value.slice o1 (bs.length + (Lib.itoa n).length) c1).ownBlock ≠ some C) := hne
  have HAB : Hid (∀ k, (Value.slice o1 (bs.length + (Lib.itoa n).length) c1).ownBlock = some k → B ≤ k) := owns_above hown1
  have HC1 : Hid (w1.heap[C]? = some (.cells #[sv] 60 (0, 0))) := hC1
  have HB1 : Hid (Below B w w1) := hb1
  have HOK1 : Hid (Lib.OthersKept 5 none w w1) := hok1
  have HBW1 : Hid (B ≤ w1.heap.size) := hB1
  have HBA : Hid (B ≤ (w1.alloc (.cells #[.int .u8 b.toNat] 5)).heap.size) := by unfold Hid; rw [World.size_alloc]; omega
  have HOWN1 : Hid (World.ownsRow _ _ _ _ _ _ _) := hown1
  clear c0 hown1 hb1 hok1 hC1 hne hB1
  obtain ⟨k, hk⟩ : ∃ k, k = bs.length + (Lib.itoa n).length := ⟨_, rfl⟩
  rw [← hk] at HO HNE HAB HOWN1 HL HM HB
  rw [← hk]
  have HK : Hid (k = bs.length + (Lib.itoa n).length) := hk
  clear hk
  go_wp2_with (first
    | (at_builtin; refine wpList_append_lies _ rfl _ _ 60 rfl B 5 i0 _ 1 1 Tryz.underlying60 hi0 hz0 hz1 hz2 rfl (by omega) (.slice o1 k c1) k _ rfl (HO.out _) ⟨w1.heap.size, 0, none⟩ 1 1 [.int .u8 b.toNat] rfl rfl HN'.out (by simp [Value.oneCell']) (by omega) HM.out HB.out HBA.out _ rfl ?_; intro g cap w3 hown3 hgrow hat hlt3; have HG3 : Hid (w3.heap[C]? = _) := heap_grown hgrow HNE.out (alloc_row _ HC1.out); have d1 := cell_of_row w3 C 0 _ _ (0, 0) HG3.out; have f1 := frozen_row (i := 0) HG3.out)
    | go_in)
  go_end0
  have hba : Below B w (w1.alloc (.cells #[.int .u8 b.toNat] 5)) := HB1.out.alloc HBW1.out _
  have hb3 : Below B w w3 := hba.grown hgrow HBA.out HAB.out
  have hgC : g ≠ C := fun e => by
    rcases hat with hat | hat
    · exact HNE.out (by rw [← e]; exact hat)
    · have h1 : C < w1.heap.size := (Array.getElem?_eq_some_iff.1 HC1.out).1
      rw [World.size_alloc] at hat
      omega
  have hbs : Lib.byteCells bs ++ Lib.byteCells (Lib.itoa n) ++ [Value.int .u8 b.toNat] = Lib.byteCells (bs ++ numB n b) := by simp [Lib.byteCells, numB]
  have hln : k + 1 = (bs ++ numB n b).length := by rw [HK.out]; simp [numB]; omega
  rw [hbs, hln] at hown3
  rw [hln]
  refine ⟨rfl, ⟨HBC.out.1, _, heap_setCell_at HG3.out _, owns_keep hown3 (fun j hj => ?_)⟩, hb3.setCell HBC.out.1 _, ?_⟩
  · have : j = g := by simpa [Value.ownBlock] using hj.symm
    subst this
    exact Below.heap_setCell _ _ _ _ hgC
  · intro j ob hj hjC hnb
    have e1 := HOK1.out j ob hj (by simp) hnb
    have e2 : (w1.alloc (.cells #[.int .u8 b.toNat] 5)).heap[j]? = some ob := alloc_row' _ e1
    have hnj : (Value.slice o1 k c1).ownBlock ≠ some j := fun e => by
      obtain ⟨cc, fz, ht⟩ := owns_cells HOWN1.out e
      rw [e1] at ht
      exact hnb _ _ (Option.some.inj ht)
    have e3 := hgrow.block j (Array.getElem?_eq_some_iff.1 e2).1 (fun e => hnj e.symm)
    have hjC' : j ≠ C := fun e => hjC (by rw [e])
    have e4 := Below.heap_setCell w3 ⟨C, 0, none⟩ (.slice (some ⟨g, 0, none⟩) (bs ++ numB n b).length cap) j hjC'
    rw [e4, e3]; exact e2
theorem wsay_any (B C : Nat) (bs : List UInt8) (w : World) (h : BtAt B C bs w) (hBw : B ≤ w.heap.size) (n : Int) (hn : I64 n) (b : UInt8) (hl : bs.length ≤ 100000000) (htab : Lib.TabBelow Tryz.prog B w "internal/strconv.uint64pow10" .u64 Lib.pow10Tab) :
    Calls Tryz.prog 27 #[.int .i64 n, .int .u8 b.toNat, .pointer (some ⟨C, 0, none⟩)] w fun e w' => e = .returned (.tuple #[]) ∧ BtAt B C (bs ++ numB n b) w' ∧ Below B w w' ∧ Lib.OthersKept 5 (some C) w w' := by
  obtain ⟨hBC, sv, hC, hown⟩ := h
  have h2 := hn
  unfold I64 at h2
  exact wsay_core B C bs w sv hBC hC hBw n hn b hl (Tryz.strconv_AppendInt_10 B bs.length n h2.1 h2.2 sv _ w hown hBw (by omega) htab)
end Go.Proofs.YtlclbidjdhlklaaGreatDoor
