/-
  lustrumref1: Byte, below, Decimal BY CONTRACT.
-/
import Derived.Test.YtpkgingjmgakbaaDoorP07
import Derived.Laws.BytesArg
import Derived.Lib.ItoaLen
import Derived.Test.YtpkgingjmgakbaaDoorP45
import Derived.Test.YtpkgingjmgakbaaDoorP04
import Derived.Test.YtpkgingjmgakbaaDoorP03
namespace Go.Proofs.YtpkgingjmgakbaaDoor
open Go.RowKit Go.Maps

set_option maxRecDepth 100000 in
set_option maxHeartbeats 1000000 in
theorem byte_any (k : Int) (h0 : 0 ≤ k) (h1 : k < 256) (w : World) : Calls Tryd.prog 21 #[.int .i64 k] w fun e w' => e = .returned (.string ⟨#[UInt8.ofNat k.toNat]⟩) ∧ Below w.heap.size w w' := by
  have hb : Below w.heap.size w (w.alloc (.cells #[.int .u8 k] 5)) := (Below.refl _ _).alloc (Nat.le_refl _) _
  have hcv : (convert 83 9 (.slice (some ⟨w.heap.size, 0, none⟩) 1 1)).run Tryd.prog (w.alloc (.cells #[.int .u8 k] 5)) = .ok (.string (strOfNums [k])) (w.alloc (.cells #[.int .u8 k] 5)) := by
    refine run_convert_bytes_arg _ 83 5 Tryd.underlying83 Tryd.underlying5 w.heap.size 0 1 1 [k] rfl (fun i hi => ?_) 9 Tryd.underlying9
    obtain rfl : i = 0 := by omega
    simp
  have hst : strOfNums [k] = ⟨#[UInt8.ofNat k.toNat]⟩ := by simp [strOfNums]
  rw [hst] at hcv
  go_enter Tryd.func21, Tryd.ntmps21
  go_wp2
  go_ret
  exact ⟨rfl, hb⟩
theorem app_one (x : List UInt8) (c : UInt8) : (⟨x.toArray⟩ : ByteArray) ++ (⟨#[c]⟩ : ByteArray) = ⟨(x ++ [c]).toArray⟩ := by
  apply ByteArray.ext
  rw [ByteArray.data_append]
  simp
theorem dec_len (n : Nat) (h : n < 1000000000) : (Lib.decDigits n).length ≤ 21 := by
  have := Lib.itoa_length_le (n : Int) (by omega) (by omega)
  rwa [Lib.itoa_nonneg] at this
set_option maxRecDepth 100000 in
set_option maxHeartbeats 2000000 in
theorem below_any (n : Nat) : ∀ (w : World), n < 1000000000 → Calls Tryd.prog 11 #[.int .i64 (-(n : Int))] w fun e w' => e = .returned (.string ⟨(Lib.decDigits n).toArray⟩) ∧ Below w.heap.size w w' := by
  induction n using Nat.strongRecOn with
  | ind n ih =>
    intro w hn
    by_cases h10 : n < 10
    · have HB : Hid (∀ w, Calls Tryd.prog 21 #[.int .i64 (48 + (n : Int))] w fun e w' => e = .returned (.string ⟨#[UInt8.ofNat (48 + (n : Int)).toNat]⟩) ∧ Below w.heap.size w w') := fun w => byte_any (48 + (n : Int)) (by omega) (by omega) w
      have h1 : (-10 : Int) < -(n : Int) := by omega
      rw [Lib.decDigits_one h10]
      clear ih
      go_enter Tryd.func11, Tryd.ntmps11
      go_wp2_with fail
      refine (HB.out _).mono ?_
      rintro e w1 ⟨rfl, hb⟩
      have e9 : (48 + (n : Int)).toNat = 48 + n := by omega
      rw [e9]
      go_wp2
      go_ret
      exact ⟨by simp, hb⟩
    · have HB : Hid (∀ (k : Int) (w : World), 0 ≤ k → k < 256 → Calls Tryd.prog 21 #[.int .i64 k] w fun e w' => e = .returned (.string ⟨#[UInt8.ofNat k.toNat]⟩) ∧ Below w.heap.size w w') := fun k w h0 h1 => byte_any k h0 h1 w
      have ed : (n : Int) / 10 = ((n / 10 : Nat) : Int) := by omega
      have HR : Hid (∀ w, Calls Tryd.prog 11 #[.int .i64 (-((n : Int) / 10))] w fun e w' => e = .returned (.string ⟨(Lib.decDigits (n / 10)).toArray⟩) ∧ Below w.heap.size w w') := fun w => ed ▸ ih (n / 10) (by omega) w (by omega)
      have h1 : ¬ (-10 : Int) < -(n : Int) := by omega
      have hl := dec_len (n / 10) (by omega)
      have hz : (⟨(Lib.decDigits (n / 10)).toArray⟩ : ByteArray).size ≤ 21 := by show (Lib.decDigits (n / 10)).toArray.size ≤ 21; simpa using hl
      have HX : Hid ((⟨(Lib.decDigits (n / 10)).toArray⟩ : ByteArray) ++ (⟨#[UInt8.ofNat (48 + n % 10)]⟩ : ByteArray) = ⟨(Lib.decDigits n).toArray⟩) := by
        unfold Hid
        rw [app_one, Lib.decDigits.eq_def n, dif_neg h10]
      rw [← HX.out]
      generalize (⟨(Lib.decDigits (n / 10)).toArray⟩ : ByteArray) = pre at HR hz ⊢
      have e2 : (-(n : Int)).tdiv 10 = -((n : Int) / 10) := by rw [Int.neg_tdiv, Int.tdiv_eq_ediv_of_nonneg (by omega)]
      have e3 : (-(n : Int)).tmod 10 = -((n : Int) % 10) := by rw [Int.neg_tmod, Int.tmod_eq_emod_of_nonneg (by omega)]
      clear ed hl HX ih
      go_enter Tryd.func11, Tryd.ntmps11
      go_wp2_with fail
      refine (HR.out _).mono ?_
      rintro e w1 ⟨rfl, hb1⟩
      go_wp2_with fail
      refine (HB.out _ _ ?_ ?_).mono ?_
      · omega
      · omega
      · rintro e w2 ⟨rfl, hb2⟩
        have ez : ¬ 9223372036854775807 < pre.size + 1 := by omega
        have hb := hb1.trans (hb2.mono hb1.size)
        have e9 : (48 + (n : Int) % 10).toNat = 48 + n % 10 := by omega
        rw [e9]
        go_wp2
        go_ret
        exact ⟨by simp, hb⟩
set_option maxRecDepth 100000 in
theorem decimal_any (n : Int) (h0 : -1000000000 < n) (h1 : n < 1000000000) (w : World) : Calls Tryd.prog 5 #[.int .i64 n] w fun e w' => e = .returned (.string ⟨(Lib.itoa n).toArray⟩) ∧ Below w.heap.size w w' := by
  by_cases hn : n < 0
  · obtain ⟨m, hm⟩ : ∃ m : Nat, n = -(m : Int) := ⟨n.natAbs, by omega⟩
    subst hm
    have hl := dec_len m (by omega)
    have HB : Hid (∀ w, Calls Tryd.prog 11 #[.int .i64 (-(m : Int))] w fun e w' => e = .returned (.string ⟨(Lib.decDigits m).toArray⟩) ∧ Below w.heap.size w w') := fun w => below_any m w (by omega)
    have HX : Hid ((⟨#[45]⟩ : ByteArray) ++ ⟨(Lib.decDigits m).toArray⟩ = ⟨(Lib.itoa (-(m : Int))).toArray⟩) := by
      unfold Hid
      rw [Lib.itoa_neg m (by omega)]
      apply ByteArray.ext
      rw [ByteArray.data_append]
      simp
    have hz : (⟨(Lib.decDigits m).toArray⟩ : ByteArray).size ≤ 21 := by show (Lib.decDigits m).toArray.size ≤ 21; simpa using hl
    rw [← HX.out]
    generalize (⟨(Lib.decDigits m).toArray⟩ : ByteArray) = t at HB hz ⊢
    have ez : ¬ 9223372036854775807 < 1 + t.size := by omega
    clear HX hl
    go_enter Tryd.func5, Tryd.ntmps5
    go_wp2_with fail
    refine (HB.out _).mono ?_
    rintro e w1 ⟨rfl, hb⟩
    go_wp2
    go_ret
    exact ⟨by simp, hb⟩
  · obtain ⟨m, rfl⟩ := Int.eq_ofNat_of_zero_le (show 0 ≤ n by omega)
    have HB : Hid (∀ w, Calls Tryd.prog 11 #[.int .i64 (-(m : Int))] w fun e w' => e = .returned (.string ⟨(Lib.itoa (m : Int)).toArray⟩) ∧ Below w.heap.size w w') := fun w => by rw [Lib.itoa_nonneg]; exact below_any m w (by omega)
    generalize (⟨(Lib.itoa (m : Int)).toArray⟩ : ByteArray) = t at HB ⊢
    go_enter Tryd.func5, Tryd.ntmps5
    go_wp2_with fail
    refine (HB.out _).mono ?_
    rintro e w1 ⟨rfl, hb⟩
    go_wp2
    go_ret
    exact ⟨by simp, hb⟩
end Go.Proofs.YtpkgingjmgakbaaDoor

/-
  lustrumlaw2.OrderHolds: the program that it makes, in memory.
-/
namespace Go.Proofs.YtpkgingjmgakbaaDoor
open Go.RowKit Go.Maps

theorem Tryd.infoFlowH : (Tryd.prog.info? 34).map (fun i => (i.zero, i.size, i.bytes)) = some (some (.agg #[.string ⟨#[]⟩, .int .i64 0, .string ⟨#[]⟩, .int .i64 0, .string ⟨#[]⟩, .slice none 0 0]), 6, 88) := by kernel_rfl
theorem Tryd.infoStrH : (Tryd.prog.info? 9).map (fun i => (i.zero, i.size, i.bytes)) = some (some (.string ⟨#[]⟩), 1, 16) := by kernel_rfl
def flC (nx : Nat → Nat) (j : Nat) : List Value := (List.range j).flatMap fun i => [.string (nmA i), .int .i64 1, .string bName, .int .i64 0, .string (nmA (nx i)), .slice none 0 0]
def ouC (j : Nat) : List Value := (List.range j).map fun i => .string (nmA i)
theorem flC_succ (nx : Nat → Nat) (j : Nat) : flC nx (j + 1) = flC nx j ++ [.string (nmA j), .int .i64 1, .string bName, .int .i64 0, .string (nmA (nx j)), .slice none 0 0] := by
  unfold flC
  rw [List.range_succ, List.flatMap_append]
  simp
theorem ouC_succ (j : Nat) : ouC (j + 1) = ouC j ++ [.string (nmA j)] := by
  unfold ouC
  rw [List.range_succ, List.map_append]
  simp
/-- The program, of j flows and k outputs so far. -/
structure OhS (w : World) (PB : Nat) (nx : Nat → Nat) (j k : Nat) (v u : Value) (wr : World) : Prop where
  box : wr.heap[PB]? = some (.cells #[.slice none 0 0, u, v, .slice none 0 0, .slice none 0 0] 29 (0, 0))
  fl : wr.ownsRow (PB + 1) 34 6 v j (flC nx j)
  ou : wr.ownsRow (PB + 1) 9 1 u k (ouC k)
  ne : ∀ q, v.ownBlock = some q → u.ownBlock ≠ some q
  pb : w.heap.size ≤ PB
  below : Below w.heap.size w wr
theorem OhS.lt {w : World} {PB : Nat} {nx : Nat → Nat} {j k : Nat} {v u : Value} {wr : World} (h : OhS w PB nx j k v u wr) : PB < wr.heap.size := (Array.getElem?_eq_some_iff.1 h.box).1
theorem OhS.keep {w : World} {PB : Nat} {nx : Nat → Nat} {j k : Nat} {v u : Value} {wr w' : World} (h : OhS w PB nx j k v u wr) (hb : Below wr.heap.size wr w') : OhS w PB nx j k v u w' :=
  ⟨row_keep hb h.box, owns_keep h.fl (fun q hq => hb.block q (h.fl.lt q hq).2), owns_keep h.ou (fun q hq => hb.block q (h.ou.lt q hq).2), h.ne, h.pb, h.below.trans (hb.mono h.below.size)⟩
/-- One flow more. -/
theorem OhS.flow {w : World} {PB : Nat} {nx : Nat → Nat} {j k : Nat} {v u : Value} {wr w' : World} (h : OhS w PB nx j k v u wr) {g cap : Nat} (ho : w'.ownsRow (PB + 1) 34 6 (.slice (some ⟨g, 0, none⟩) (j + 1) cap) (j + 1) (flC nx j ++ [.string (nmA j), .int .i64 1, .string bName, .int .i64 0, .string (nmA (nx j)), .slice none 0 0])) (hg : wr.grownBy w' v.ownBlock) (ha : v.ownBlock = some g ∨ g = wr.heap.size) :
    OhS w PB nx (j + 1) k (.slice (some ⟨g, 0, none⟩) (j + 1) cap) u (w'.setCell ⟨PB, 2, none⟩ (.slice (some ⟨g, 0, none⟩) (j + 1) cap)) := by
  have hgP : PB < g := by
    have := (ho.lt g rfl).1
    omega
  have hvP : v.ownBlock ≠ some PB := fun e => by have := (h.fl.lt PB e).1; omega
  have hset : ∀ q, q ≠ PB → (w'.setCell ⟨PB, 2, none⟩ (.slice (some ⟨g, 0, none⟩) (j + 1) cap)).heap[q]? = w'.heap[q]? := fun q hq => Below.heap_setCell w' ⟨PB, 2, none⟩ _ q hq
  have hbx := heap_grown' hg hvP h.box
  refine ⟨?_, ?_, ?_, fun q hq hu => ?_, h.pb, ?_⟩
  · rw [heap_setCell_same w' PB 2 _ _ _ hbx]
    rfl
  · rw [flC_succ]
    exact owns_keep ho (fun q hq => hset q (by have := (ho.lt q hq).1; omega))
  · refine owns_keep h.ou (fun q hq => (hset q (by have := (h.ou.lt q hq).1; omega)).trans (hg.block q (h.ou.lt q hq).2 (fun e => h.ne q e.symm hq)))
  · have e : g = q := Option.some.inj hq
    subst e
    rcases ha with ha | ha
    · exact h.ne g ha hu
    · have := (h.ou.lt g hu).2
      omega
  · have hb := h.below.grown hg h.below.size (fun q hq => by have := (h.fl.lt q hq).1; have := h.pb; omega)
    exact ⟨hb.os, hb.tape, hb.output, by rw [size_setCell]; exact hb.size, fun q hq => (hset q (by have := h.pb; omega)).trans (hb.block q hq)⟩
/-- One output more. -/
theorem OhS.out {w : World} {PB : Nat} {nx : Nat → Nat} {j k : Nat} {v u : Value} {wr w' : World} (h : OhS w PB nx j k v u wr) {g cap : Nat} (ho : w'.ownsRow (PB + 1) 9 1 (.slice (some ⟨g, 0, none⟩) (k + 1) cap) (k + 1) (ouC k ++ [.string (nmA k)])) (hg : wr.grownBy w' u.ownBlock) (ha : u.ownBlock = some g ∨ g = wr.heap.size) :
    OhS w PB nx j (k + 1) v (.slice (some ⟨g, 0, none⟩) (k + 1) cap) (w'.setCell ⟨PB, 1, none⟩ (.slice (some ⟨g, 0, none⟩) (k + 1) cap)) := by
  have hgP : PB < g := by
    have := (ho.lt g rfl).1
    omega
  have hvP : u.ownBlock ≠ some PB := fun e => by have := (h.ou.lt PB e).1; omega
  have hset : ∀ q, q ≠ PB → (w'.setCell ⟨PB, 1, none⟩ (.slice (some ⟨g, 0, none⟩) (k + 1) cap)).heap[q]? = w'.heap[q]? := fun q hq => Below.heap_setCell w' ⟨PB, 1, none⟩ _ q hq
  have hbx := heap_grown' hg hvP h.box
  refine ⟨?_, ?_, ?_, fun q hq hu => ?_, h.pb, ?_⟩
  · rw [heap_setCell_same w' PB 1 _ _ _ hbx]
    rfl
  · refine owns_keep h.fl (fun q hq => (hset q (by have := (h.fl.lt q hq).1; omega)).trans (hg.block q (h.fl.lt q hq).2 (fun e => h.ne q hq e.symm)))
  · rw [ouC_succ]
    exact owns_keep ho (fun q hq => hset q (by have := (ho.lt q hq).1; omega))
  · have e : g = q := Option.some.inj hu
    subst e
    rcases ha with ha | ha
    · exact h.ne g hq ha
    · have := (h.fl.lt g hq).2
      omega
  · have hb := h.below.grown hg h.below.size (fun q hq => by have := (h.ou.lt q hq).1; have := h.pb; omega)
    exact ⟨hb.os, hb.tape, hb.output, by rw [size_setCell]; exact hb.size, fun q hq => (hset q (by have := h.pb; omega)).trans (hb.block q hq)⟩
theorem flC_in (w : World) (S : Nat → Prop) (nx : Nat → Nat) : ∀ l : List Nat, FlIn w S (l.map (ohF nx)) (l.flatMap fun i => [.string (nmA i), .int .i64 1, .string bName, .int .i64 0, .string (nmA (nx i)), .slice none 0 0])
  | [] => .nil
  | _ :: l => .cons _ _ _ _ _ _ (.cons _ _ _ _ _ _ _ _ (RowAt.nilS _ _ _) .nil .nil) (flC_in w S nx l)
theorem small_max {n : Nat} (h : n ≤ 100000) : n ≤ maxLen := by unfold maxLen; omega
theorem smL_map {f : Nat → Ex} : ∀ l : List Nat, (∀ i ∈ l, smE (f i)) → smL (l.map f)
  | [], _ => by unfold List.map smL; trivial
  | i :: l, h => by
    rw [List.map_cons]
    unfold smL
    exact ⟨h i (List.mem_cons_self ..), smL_map l fun j hj => h j (List.mem_cons_of_mem _ hj)⟩
theorem OhS.pg {w : World} {PB : Nat} {nx : Nat → Nat} {n : Nat} {o3 o2 : Option Addr} {c3 c2 : Nat} {wr : World} (h : OhS w PB nx n n (.slice o3 n c3) (.slice o2 n c2) wr) {E : ErV} (he : ErrsAt wr E) (hn : n ≤ 40) (hx : ∀ i, i < n → nx i < n) : PgG wr (fun b => (Value.slice o3 n c3).ownBlock = some b ∨ (Value.slice o2 n c2).ownBlock = some b) (ohP nx n) none o2 o3 none none 0 c2 c3 0 0 E := by
  have hfl : (ohP nx n).fs.length = n := by simp [ohP]
  have hol : (ohP nx n).outs.length = n := by simp [ohP]
  refine ⟨⟨RowAt.nilS _ _ _, ?_, ⟨flC nx n, ?_, flC_in _ _ nx _⟩, ⟨[], RowAt.nilS _ _ _, .nil⟩, ⟨[], RowAt.nilS _ _ _, .nil⟩⟩, ?_, ?_, fun _ => ⟨rfl, rfl⟩, ?_, he.e3, he.cyc, he.fst⟩
  · rw [hol]
    have := RowAt.owned h.ou (fun b => (Value.slice o3 n c3).ownBlock = some b ∨ (Value.slice o2 n c2).ownBlock = some b) (fun k hk => .inr hk)
    have e : nameCells (ohP nx n).outs = ouC n := by simp [nameCells, ohP, ouC, ohO, Ex.op, Function.comp_def]
    rw [e]
    exact this
  · rw [hfl]
    exact RowAt.owned h.fl _ (fun k hk => .inl hk)
  · rintro b (hb | hb) _
    · obtain ⟨cur, hc⟩ := owns_block h.fl hb
      exact ⟨_, _, hc⟩
    · obtain ⟨cur, hc⟩ := owns_block h.ou hb
      exact ⟨_, _, hc⟩
  · rintro b (hb | hb)
    · exact (h.fl.lt b hb).2
    · exact (h.ou.lt b hb).2
  · obtain ⟨kd, _, h2, _⟩ := oh_kinds hn n (Nat.le_refl _)
    have hz := (oh_all (nx := nx) (kd := kd) (List.range n) (fun i hi => h2 _ (hx i (List.mem_range.1 hi)))).2.2
    have hnm : ∀ i, i < n → (nmA i).size ≤ maxLen := fun i hi => small_max (Nat.le_trans (nmA_size (by omega)) (by omega))
    refine ⟨by rw [hfl]; simp [ohP]; omega, by rw [hol]; omega, by rw [hfl]; simp [ohP]; omega, by rw [oh_terms, hz]; simp; omega, ?_, ?_, ?_⟩
    · rw [oh_terms]
      refine smL_map (f := fun i => ohE (nx i)) _ fun i hi => ?_
      unfold ohE smE smL
      exact ⟨small_max (by decide), hnm _ (hx i (List.mem_range.1 hi)), trivial⟩
    · intro v hv
      rw [oh_vars] at hv
      obtain ⟨i, hi, rfl⟩ := List.mem_map.1 hv
      exact hnm i (List.mem_range.1 hi)
    · intro e he
      obtain ⟨i, hi, rfl⟩ := List.mem_map.1 (show e ∈ (List.range n).map ohO from he)
      exact hnm i (List.mem_range.1 hi)
end Go.Proofs.YtpkgingjmgakbaaDoor

/-
  lustrumlaw2.faulted BY ITS CONTRACTS.
-/
namespace Go.Proofs.YtpkgingjmgakbaaDoor
open Go.RowKit

set_option maxHeartbeats 1000000 in
theorem faulted2_str (a : Nat → Addr) (b : Addr) (m : Nat) (c n : Int) (cb : Array Value) (tb : TypeId) (w : World) (S : Sents a w) (hrow : w.heap[b.block]? = some (.cells cb tb (0, 0))) (hm : m ≤ 9) (hlt : ∀ j, j < m → b ≠ a j) (heq : m < 9 → a m = b) (hc : c = codeOf m) (hn : n = -1) :
    Calls Tryd.prog 7 #[.iface 148 (.pointer (some b)), .agg #[.int .i64 c, .int .i64 n]] w fun e w' => e = .returned (.bool true) ∧ Below w.heap.size w w' := by
  subst hc hn
  have hb0 : Below w.heap.size w (w.alloc (.cells #[.int .i64 (codeOf m), .int .i64 (-1)] 41)) := (Below.refl _ _).alloc (Nat.le_refl _) _
  go_enter Tryd.func7, Tryd.ntmps7
  go_wp2_with fail
  refine (code_str a b m cb tb _ (S.below hb0) (row_keep hb0 hrow) hm hlt heq).mono ?_
  rintro e w1 ⟨rfl, hb⟩
  have c0 := cell_keep hb (p := ⟨w.heap.size, 0, none⟩) (v := .int .i64 (codeOf m)) (by simp)
  have c1 := cell_keep hb (p := ⟨w.heap.size, 1, none⟩) (v := .int .i64 (-1)) (by simp)
  clear S hrow hlt heq
  go_wp2
  all_goals go_ret
  all_goals exact ⟨rfl, hb0.trans (hb.mono (by simp))⟩
set_option maxHeartbeats 1000000 in
theorem faulted2_fault (a : Nat → Addr) (b : Addr) (m p : Nat) (c n : Int) (cb : Array Value) (tb : TypeId) (w : World) (S : Sents a w) (hp0 : w.cell? ⟨p, 0, none⟩ = some (.int .i64 n)) (hp1 : w.cell? ⟨p, 0 + 1, none⟩ = some (.iface 148 (.pointer (some b)))) (hrow : w.heap[b.block]? = some (.cells cb tb (0, 0))) (hm : m ≤ 9) (hlt : ∀ j, j < m → b ≠ a j) (heq : m < 9 → a m = b) (hc : c = codeOf m) :
    Calls Tryd.prog 7 #[.iface 48 (.pointer (some ⟨p, 0, none⟩)), .agg #[.int .i64 c, .int .i64 n]] w fun e w' => e = .returned (.bool true) ∧ Below w.heap.size w w' := by
  subst hc
  have hb0 : Below w.heap.size w (w.alloc (.cells #[.int .i64 (codeOf m), .int .i64 n] 41)) := (Below.refl _ _).alloc (Nat.le_refl _) _
  go_enter Tryd.func7, Tryd.ntmps7
  go_wp2_with fail
  refine (code_fault a b m p n cb tb _ (S.below hb0) (cell_keep hb0 hp0) (cell_keep hb0 hp1) (row_keep hb0 hrow) hm hlt heq).mono ?_
  rintro e w1 ⟨rfl, hb⟩
  have c0 := cell_keep hb (p := ⟨w.heap.size, 0, none⟩) (v := .int .i64 (codeOf m)) (by simp)
  have c1 := cell_keep hb (p := ⟨w.heap.size, 1, none⟩) (v := .int .i64 n) (by simp)
  clear S hrow hlt heq hp0 hp1
  go_wp2
  all_goals go_ret
  all_goals exact ⟨rfl, hb0.trans (hb.mono (by simp))⟩

end Go.Proofs.YtpkgingjmgakbaaDoor
