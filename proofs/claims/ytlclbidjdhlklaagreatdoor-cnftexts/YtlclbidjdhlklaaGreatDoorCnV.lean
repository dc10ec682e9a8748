/-
  strconv.AppendInt ONTO A SLICE WITHOUT ROOM that is not the call's own (the first number of a text), BY CONTRACT; package cnf: the first number written.
-/
import Derived.Test.YtlclbidjdhlklaaGreatDoorCnT
import Derived.ArgAppend
import Derived.Lib.AppendStr
import Derived.Lib.SlBytesConst
import Derived.Lib.ItoaMem
import Derived.Lib.ItoaWalk
import Derived.Lib.Slices
import Derived.BigGuard
import Derived.Lib.BufferKept
import Derived.CellFam
namespace Go.Proofs.YtlclbidjdhlklaaGreatDoor
open Go.RowKit Go.Maps

theorem append_full_string {P : Program} {w : World} {ops : Array Oper} {rest : List Oper} {o : Oper} {a : Act} {Q : Exit → Act → World → Prop} (hgd : o.guard = none) (sl x : Operand) (t u : TypeId)
    (ho : o.op = .call { callee := .builtin .append, args := #[sl, x], argTypes := #[t, u] })
    (e : TypeId) (i : TypeInfo) (ht : P.underlying t = some (.slice e)) (hu : P.underlying u = some .string) (hi : P.info? e = some i) (hz : i.zero = some (.int .u8 0)) (hsize : i.size = 1) (hby : i.bytes = 1)
    (b : Addr) (n : Nat) (olds : List Value) (hs : a.eval sl = .slice (some b) n n) (hlo : olds.length = n) (holds : ∀ j v, olds[j]? = some v → w.cell? (b.add j) = some v) (s : ByteArray) (hx : a.eval x = .string s) (h0 : 0 < s.size) (hlim : n + s.size ≤ 100000)
    (h : ∀ v' w', w'.ownsRow w.heap.size e 1 v' (n + s.size) (olds ++ Lib.strCells s) → w.grownBy w' none → wpList P ops Q rest (a.put o.dst v') w') : wpList P ops Q (o :: rest) a w := by
  refine wpList_plain hgd fun K hK => ?_
  have hg : n < n + s.size := by omega
  have hge := grownCap_ge w (n + s.size) n e
  have hcm : grownCap w (n + s.size) n e ≤ maxLen := grownCap_le_maxLen w (n + s.size) n e (by unfold maxLen; omega)
  have hr := Lib.run_append_grow_string (P := P) w t u o.type e i (.int .u8 0) ht hu hi hz b n n olds (by rw [hsize, Nat.mul_one]; exact hlo) holds s hg (by omega) (growslice_fits hg (by rw [hby]; omega))
  have hsl := Lib.strCells_length s
  have hlen : (olds ++ Lib.strCells s).length = (n + s.size) * 1 := by rw [List.length_append, hlo, hsl]; omega
  unfold Oper.wp execOp
  simp only [ho, resolve, invoke, builtin, Sem.run_bind, Sem.run_pure, Result.andThen_ok, List.map_toArray, List.map_cons, List.map_nil, hs, hx, hr]
  refine hK _ _ (h _ _ ⟨hlen, .inr ⟨w.heap.size, _, _, rfl, Nat.le_refl _, heap_alloc_new w.drew _, hge, hcm, ?_, ?_⟩⟩ ⟨rfl, rfl, rfl, by simp, fun k hk _ => ((Below.refl w.drew.heap.size w.drew).alloc (Nat.le_refl _) _).block k hk⟩)
  · have h1 : (Value.int IntKind.u8 0).cells.size = 1 := rfl
    simp only [Array.size_append, List.size_toArray, size_zeroCells, hlo, hsl, h1, Nat.mul_one]
    omega
  · simp only [Array.toList_append, List.append_assoc]
    rw [← List.append_assoc, ← hlen]
    exact List.take_left
/-- What a number's text is. -/
def FullAt (w : World) (v : Value) (bs : List UInt8) : Prop := ∃ b : Addr, v = .slice (some b) bs.length bs.length ∧ ∀ j u, (Lib.byteCells bs)[j]? = some u → w.cell? (b.add j) = some u
/-- What AppendInt answers there. -/
def GrewP (w : World) (bs ds : List UInt8) (e : Ending) (w' : World) : Prop := ∃ v', e = .returned v' ∧ w'.ownsRow w.heap.size 5 1 v' (bs.length + ds.length) (Lib.byteCells bs ++ Lib.byteCells ds) ∧ Below w.heap.size w w'
theorem owns_lower {w : World} {B B' n size : Nat} {e : TypeId} {v : Value} {xs : List Value} (h : w.ownsRow B e size v n xs) (hB : B' ≤ B) : w.ownsRow B' e size v n xs := by
  obtain ⟨h1, h2⟩ := h
  refine ⟨h1, ?_⟩
  rcases h2 with h2 | ⟨g, cap, cur, rfl, hb, r⟩
  · exact .inl h2
  · exact .inr ⟨g, cap, cur, rfl, Nat.le_trans hB hb, r⟩
set_option maxRecDepth 100000 in
set_option maxHeartbeats 4000000 in
theorem uint_small (w : World) (v : Value) (bs : List UInt8) (hv : FullAt w v bs) (hl : bs.length ≤ 1000) (u : Nat) (hu : u < 100) :
    Calls Tryz.prog 51 #[v, .int .u64 u, .int .i64 10] w (GrewP w bs (Lib.decDigits u)) := by
  obtain ⟨b, rfl, hc⟩ := hv
  obtain ⟨i0, hi0, hz0, hz1, hz2⟩ := info_parts Tryz.infoByte
  have hlen : (Lib.decDigits u).length ≤ 20 ∧ 0 < (Lib.decDigits u).length := by
    rw [Lib.decDigits_length]
    by_cases h10 : u < 10
    · rw [Lib.nDigits_small h10]; omega
    · rw [Lib.nDigits_big h10, Lib.nDigits_small (show u / 10 < 10 by omega)]; omega
  have hsz : (⟨(Lib.decDigits u).toArray⟩ : ByteArray).size = (Lib.decDigits u).length := by simp [ByteArray.size]
  have HSM : Hid (Calls Tryz.prog 62 #[.int .i64 u] w fun e w' => e = .returned (.string ⟨(Lib.decDigits u).toArray⟩) ∧ w' = w) := Tryz.internal_strconv_small u hu w
  have HC : Hid (∀ j u, (Lib.byteCells bs)[j]? = some u → w.cell? (b.add j) = some u) := hc
  have HL0 : Hid (0 < (⟨(Lib.decDigits u).toArray⟩ : ByteArray).size) := by unfold Hid; rw [hsz]; exact hlen.2
  have HL1 : Hid (bs.length + (⟨(Lib.decDigits u).toArray⟩ : ByteArray).size ≤ 100000) := by unfold Hid; rw [hsz]; omega
  have HSZ : Hid ((⟨(Lib.decDigits u).toArray⟩ : ByteArray).size = (Lib.decDigits u).length) := hsz
  have d0 : ((u : Int) < 100) = True := eq_true (by omega)
  have n0 : IntKind.i64.wrap (u : Int) = (u : Int) := by rw [IntKind.wrap_i64]; omega
  clear hc hlen hsz hl hu
  go_enter Tryz.func51, Tryz.ntmps51
  go_wp2_with (first
    | (go_at_call 62; refine HSM.out.mono ?_; rintro e w' ⟨rfl, hw⟩; have hw2 := hw.symm; subst hw2)
    | (at_builtin; refine append_full_string rfl _ _ 60 9 rfl 5 i0 Tryz.underlying60 Tryz.underlying9 hi0 hz0 hz1 hz2 b bs.length (Lib.byteCells bs) rfl (Lib.byteCells_length bs) HC.out ⟨(Lib.decDigits u).toArray⟩ rfl HL0.out HL1.out ?_; intro v' w1 hown hgrow; have HO : Hid _ := hown; have HG : Hid _ := hgrow; clear hown hgrow)
    | go_in)
  go_ret
  have hown := HO.out
  rw [HSZ.out] at hown
  exact ⟨v', rfl, hown, ⟨HG.out.os, HG.out.tape, HG.out.output, HG.out.size, fun k hk => HG.out.block k hk (by simp)⟩⟩

set_option maxRecDepth 100000 in
set_option maxHeartbeats 4000000 in
theorem uint_big (w : World) (v : Value) (bs : List UInt8) (hv : FullAt w v bs) (hl : bs.length ≤ 1000) (u : Nat) (hu : 100 ≤ u) (hu64 : u < 18446744073709551616) (htab : Lib.TabIs Tryz.prog w "internal/strconv.uint64pow10" .u64 Lib.pow10Tab) :
    Calls Tryz.prog 51 #[v, .int .u64 u, .int .i64 10] w (GrewP w bs (Lib.decDigits u)) := by
  obtain ⟨b, rfl, hc⟩ := hv
  obtain ⟨i0, hi0, hz0, hz1, hz2⟩ := info_parts Tryz.infoByte
  have hu1 : 1 ≤ u := by omega
  have hnd20 : Lib.nDigits u ≤ 20 ∧ 1 ≤ Lib.nDigits u := by
    constructor
    · have := Lib.numDigits_eq u hu1 hu64; split at this <;> omega
    · rw [Lib.nDigits_big (by omega)]; omega
  have hal : Tryz.prog.arrayLen 119 = 24 := by kernel_rfl
  have hsl : ∀ W, (Instr.sliceAt 119 (.pointer (some ⟨w.heap.size, 0, none⟩)) none (some (.int .i64 (Lib.nDigits u : Int))) none).run Tryz.prog W = .ok (.slice (some ⟨w.heap.size, 0, none⟩) (Lib.nDigits u) 24) W := fun W => by
    rw [run_sliceAt_array_h W 119 ⟨w.heap.size, 0, none⟩ (by kernel_rfl) .i64 (Lib.nDigits u : Int) (by omega) (by rw [hal]; omega)]
    go_simp
  have hH0 := Lib.holds_zero0 w 119 (Lib.nDigits u) (by omega)
  have hfmt := Tryz.internal_strconv_formatBase10 w.heap.size 0 24 u (Array.replicate (Lib.nDigits u) 0) (w.alloc (.cells Lib.zeros24 119)) hH0 (by rw [Array.size_replicate]; exact Lib.lt_pow_nDigits u) hu64 (by rw [Array.size_replicate]; omega)
  rw [Array.size_replicate] at hfmt
  have HND : Hid (Calls Tryz.prog 63 #[.int .u64 u] (w.alloc (.cells Lib.zeros24 119)) fun e w' => e = .returned (.int .i64 (Lib.nDigits u)) ∧ w' = w.alloc (.cells Lib.zeros24 119)) := Tryz.internal_strconv_numDigits u hu1 hu64 _ (Lib.tabIs_alloc htab _)
  have HFMT : Hid (Calls _ _ _ _ _) := hfmt
  have HH0 : Hid _ := hH0
  have HC : Hid (∀ j u, (Lib.byteCells bs)[j]? = some u → w.cell? (b.add j) = some u) := hc
  have HD : Hid (Lib.nDigits u ≤ 20 ∧ 1 ≤ Lib.nDigits u) := hnd20
  have HL : Hid (bs.length ≤ 1000) := hl
  have iu : ((u : Int) < 100) = False := eq_false (by omega)
  clear hc hu hl hal hH0 hfmt htab hu1 hnd20 hu64
  go_enter Tryz.func51, Tryz.ntmps51
  go_wp2_with (first
    | (go_at_call 63; refine HND.out.mono ?_; rintro e w' ⟨rfl, rfl⟩)
    | fail)
  refine HFMT.out.mono ?_
  rintro e w' ⟨rfl, k, v', dk, rfl, hF⟩
  have hcells : ∀ j u', (Lib.byteCells (Lib.decDigits u))[j]? = some u' → ((Go.Sort.putRow (fun (b : UInt8) => Value.int .u8 (b.toNat : Int)) (w.alloc (.cells Lib.zeros24 119)) w.heap.size 0 dk).drewN k).cell? ((⟨w.heap.size, 0, none⟩ : Addr).add j) = some u' := by
    intro j u' hj
    have hjl : j < (Lib.decDigits u).length := by
      have h5 := (List.getElem?_eq_some_iff.1 hj).1
      rwa [Lib.byteCells_length] at h5
    have e5 : (Lib.byteCells (Lib.decDigits u))[j]? = some (Value.int .u8 ((Lib.decDigits u)[j].toNat : Int)) := by simp [Lib.byteCells, hjl]
    rw [e5] at hj
    cases hj
    rw [Lib.row_is_numeral hF j hjl, Lib.add_plain, World.cell?_drewN]
    exact Go.Sort.cell?_putRow (fun (b : UInt8) => Value.int .u8 (b.toNat : Int)) _ w.heap.size 0 _ dk HH0.out (by rw [hF.size, Array.size_replicate]) j (by rw [hF.size]; rw [Lib.decDigits_length] at hjl; exact hjl)
  obtain ⟨os, eo⟩ := Lib.fin_at w (.cells Lib.zeros24 119) dk k 0
  have hb2 : Below w.heap.size w ((Go.Sort.putRow (fun (b : UInt8) => Value.int .u8 (b.toNat : Int)) (w.alloc (.cells Lib.zeros24 119)) w.heap.size 0 dk).drewN k) := by rw [eo]; exact Lib.below_grow w.heap.size w (Nat.le_refl _) k os
  obtain ⟨W2, hW2⟩ : ∃ W2, W2 = (Go.Sort.putRow (fun (b : UInt8) => Value.int .u8 (b.toNat : Int)) (w.alloc (.cells Lib.zeros24 119)) w.heap.size 0 dk).drewN k := ⟨_, rfl⟩
  rw [← hW2] at hcells hb2
  rw [← hW2]
  have HCE : Hid (∀ j u', (Lib.byteCells (Lib.decDigits u))[j]? = some u' → W2.cell? ((⟨w.heap.size, 0, none⟩ : Addr).add j) = some u') := hcells
  have HB2 : Hid (Below w.heap.size w W2) := hb2
  have HC2 : Hid (∀ j u, (Lib.byteCells bs)[j]? = some u → W2.cell? (b.add j) = some u) := fun j u hj => cell_keep hb2 (HC.out j u hj)
  clear eo hW2 hcells hb2 hF HFMT HND HH0 HC
  go_wp2_with (first
    | (at_builtin; refine wpList_append_grows _ rfl _ _ 60 rfl 5 i0 _ 1 1 Tryz.underlying60 hi0 hz0 hz1 hz2 rfl (by omega) (some b) bs.length bs.length (Lib.byteCells bs) rfl (fun h => by cases h) (by rw [Lib.byteCells_length, Nat.mul_one]) (fun b' hb' => by cases hb'; exact HC2.out) ⟨w.heap.size, 0, none⟩ (Lib.nDigits u) 24 (Lib.byteCells (Lib.decDigits u)) rfl (by rw [Lib.byteCells_length, Lib.decDigits_length, Nat.mul_one]) HCE.out (fun u' hu' => by simp only [Lib.byteCells, List.mem_map] at hu'; obtain ⟨b, _, rfl⟩ := hu'; rfl) (by have := HD.out; omega) (by have := HD.out; have := HL.out; unfold maxLen; omega) (by have := HD.out; have := HL.out; omega) ?_; intro v' w3 hown hgrow; have HO : Hid (World.ownsRow _ _ _ _ _ _ _) := hown; have HG : Hid (World.grownBy _ _ _) := hgrow; clear hown hgrow)
    | go_in)
  go_ret
  refine ⟨v', rfl, ?_, HB2.out.trans ?_⟩
  · rw [Lib.decDigits_length]
    exact owns_lower HO.out HB2.out.size
  · exact (⟨HG.out.os, HG.out.tape, HG.out.output, HG.out.size, fun k hk => HG.out.block k hk (by simp)⟩ : Below W2.heap.size W2 w3).mono HB2.out.size
theorem uint_any (w : World) (v : Value) (bs : List UInt8) (hv : FullAt w v bs) (hl : bs.length ≤ 1000) (u : Nat) (hu64 : u < 18446744073709551616) (htab : Lib.TabIs Tryz.prog w "internal/strconv.uint64pow10" .u64 Lib.pow10Tab) :
    Calls Tryz.prog 51 #[v, .int .u64 u, .int .i64 10] w (GrewP w bs (Lib.decDigits u)) := by
  by_cases h : u < 100
  · exact uint_small w v bs hv hl u h
  · exact uint_big w v bs hv hl u (by omega) hu64 htab
set_option maxRecDepth 100000 in
theorem int_full (w : World) (v : Value) (bs : List UInt8) (hv : FullAt w v bs) (hl : bs.length ≤ 1000) (u : Nat) (hu : u < 9223372036854775808) (htab : Lib.TabIs Tryz.prog w "internal/strconv.uint64pow10" .u64 Lib.pow10Tab) :
    Calls Tryz.prog 38 #[v, .int .i64 u, .int .i64 10] w (GrewP w bs (Lib.itoa u)) := by
  rw [Lib.itoa_nonneg]
  have HU : Hid (Calls Tryz.prog 51 #[v, .int .u64 u, .int .i64 10] w (GrewP w bs (Lib.decDigits u))) := uint_any w v bs hv hl u (by omega) htab
  have n0 : IntKind.u64.wrap (u : Int) = (u : Int) := by rw [IntKind.wrap_u64]; omega
  have d0 : ((u : Int) < 0) = False := eq_false (by omega)
  clear hv hl hu htab
  go_enter Tryz.func38, Tryz.ntmps38
  go_wp2_with (first
    | (go_at_call 51; refine HU.out.mono ?_; rintro e w' ⟨v', rfl, h1, h2⟩)
    | fail)
  go_ret
  exact ⟨v', rfl, h1, h2⟩
set_option maxRecDepth 100000 in
theorem int_full_pub (w : World) (v : Value) (bs : List UInt8) (hv : FullAt w v bs) (hl : bs.length ≤ 1000) (u : Nat) (hu : u < 9223372036854775808) (htab : Lib.TabIs Tryz.prog w "internal/strconv.uint64pow10" .u64 Lib.pow10Tab) :
    Calls Tryz.prog 28 #[v, .int .i64 u, .int .i64 10] w (GrewP w bs (Lib.itoa u)) := by
  have HU : Hid (Calls Tryz.prog 38 #[v, .int .i64 u, .int .i64 10] w (GrewP w bs (Lib.itoa u))) := int_full w v bs hv hl u hu htab
  clear hv hl hu htab
  go_enter Tryz.func28, Tryz.ntmps28
  go_wp2_with (first
    | (go_at_call 38; refine HU.out.mono ?_; rintro e w' ⟨v', rfl, h1, h2⟩)
    | fail)
  go_ret
  exact ⟨v', rfl, h1, h2⟩
/-- The first number of a text. -/
theorem wfirst_any (B C : Nat) (bs : List UInt8) (w : World) (v : Value) (hBC : B ≤ C) (hC : w.heap[C]? = some (.cells #[v] 60 (0, 0))) (hv : FullAt w v bs) (hBw : B ≤ w.heap.size) (n : Int) (hn : I64 n) (h0 : 0 ≤ n) (b : UInt8) (hl : bs.length ≤ 1000) (htab : Lib.TabIs Tryz.prog w "internal/strconv.uint64pow10" .u64 Lib.pow10Tab) :
    Calls Tryz.prog 27 #[.int .i64 n, .int .u8 b.toNat, .pointer (some ⟨C, 0, none⟩)] w fun e w' => e = .returned (.tuple #[]) ∧ BtAt B C (bs ++ numB n b) w' ∧ Below B w w' ∧ Lib.OthersKept 5 (some C) w w' := by
  refine wsay_core B C bs w v hBC hC hBw n hn b (by omega) ?_
  obtain ⟨u, rfl⟩ : ∃ u : Nat, n = (u : Int) := ⟨n.toNat, by omega⟩
  unfold I64 at hn
  refine (int_full_pub w v bs hv hl u (by omega) htab).mono ?_
  rintro e w' ⟨v', rfl, h1, h2⟩
  exact ⟨v', rfl, owns_lower h1 hBw, h2.mono hBw, (Lib.OthersKept.refl _ _ _).below h2⟩
end Go.Proofs.YtlclbidjdhlklaaGreatDoor
