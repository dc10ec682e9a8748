/-
  package word: product BY CONTRACT.
-/
import Derived.Test.YtpiglmaojonbnaaGreatDoorP12
import Derived.Test.YtpiglmaojonbnaaGreatDoorP18
import Derived.Laws.CopyRow
namespace Go.Proofs.YtpiglmaojonbnaaGreatDoor
open Go.RowKit Go.Maps

theorem wpList_copy_by {P : Program} (w : World) {ops : Array Oper} {rest : List Oper} {o : Oper} {a : Act} {Q : Exit → Act → World → Prop} (hgd : o.guard = none) (d s : Operand) (t t' : TypeId)
    (ho : o.op = .call { callee := .builtin .copy, args := #[d, s], argTypes := #[t, t'] }) (v u : Value) (hd : a.eval d = v) (hs : a.eval s = u) {v' : Value} {w' : World}
    (hr : (Builtin.copy_ #[t, t'] o.type #[v, u]).run P w = .ok v' w') (h : wpList P ops Q rest (a.put o.dst v') w') : wpList P ops Q (o :: rest) a w := by
  refine wpList_plain hgd fun K hK => ?_
  unfold Oper.wp execOp
  simp only [ho, resolve, invoke, builtin, Sem.run_bind, Sem.run_pure, Result.andThen_ok, List.map_toArray, List.map_cons, List.map_nil, hd, hs, hr]
  exact hK _ _ h
theorem Tryz.sizeLit : (Tryz.prog.info? 39).map (·.size) = some 1 := by kernel_rfl
theorem size_setRow (w : World) (g : Nat) (cs : Array Value) : (w.setRow g cs).heap.size = w.heap.size := by simp [World.setRow]
theorem GrAt.setRow {G : Nat} {gs : List (Int × Int)} {ins : Nat} {F : Nat → Prop} {w : World} (h : GrAt G gs ins F w) {V : Nat} (hV : ¬ F V) (cs : Array Value) : GrAt G gs ins F (w.setRow V cs) :=
  h.keep (fun k hk => setRow_other w V k cs (fun e => hV (by rw [← e]; exact hk))) (fun _ hk => hk) (fun k hk => by rw [size_setRow]; exact h.2.2.1 k hk)
theorem Mvd.setRow {F F' : Nat → Prop} {w w' : World} (h : Mvd F F' w w') {V : Nat} (hV : w.heap.size ≤ V) (cs : Array Value) : Mvd F F' w (w'.setRow V cs) :=
  ⟨h.os, h.tape, h.output, by rw [size_setRow]; exact h.size, fun k hk hn => by rw [setRow_other _ _ _ _ (by omega)]; exact h.block k hk hn, fun k hk => by rw [size_setRow]; exact h.more k hk⟩
theorem cell_setRow {w : World} {V : Nat} {cs : Array Value} {p : Addr} (h : p.block ≠ V) : (w.setRow V cs).cell? p = w.cell? p := by
  simp only [World.cell?, setRow_other w V p.block cs h]
/-- A tail of a row. -/
theorem lits_tail {F : Nat → Prop} {w : World} {V i n c : Nat} {l : List Int} {t : TypeId} (hV : w.heap[V]? = some (.cells (rowI l) t (0, 0))) (hn : ¬ F V) (hl : l.length ≤ 1000) (hi : l.length = i + n) : LitsAt F w (.slice (some ⟨V, i, none⟩) n c) (l.drop i) := by
  have e : (l.drop i).length = n := by rw [List.length_drop]; omega
  refine ⟨by omega, some ⟨V, i, none⟩, c, by rw [e], fun k x hk => ⟨V, i, rfl, hn, ?_⟩⟩
  rw [cell_of_row w V _ _ t (0, 0) hV]
  rw [List.getElem?_drop] at hk
  exact rowI_get hk
/-- 'copy' into a row's tail. -/
theorem copy_tail {w : World} {V i n c Vh : Nat} {os hs : List Int} {t t' ty : TypeId} (hV : w.heap[V]? = some (.cells (rowI os) t (0, 0))) (hH : w.heap[Vh]? = some (.cells (rowI hs) t' (0, 0))) (ho : os.length = i + n) (hh : hs.length = n) :
    (Builtin.copy_ #[38, 38] ty #[.slice (some ⟨V, i, none⟩) n c, .slice (some ⟨Vh, 0, none⟩) n n]).run Tryz.prog w = .ok (goInt n) (w.setRow V (rowI (os.take i ++ hs))) := by
  have h := run_copy_row Tryz.prog w 38 38 ty 39 V i n c ⟨Vh, 0, none⟩ n n (rowI os) t (hs.map (Value.int .i64)) Tryz.underlying38 Tryz.sizeLit hV (by simp [hh])
    (fun j v hj => by
      have hadd : (⟨Vh, 0, none⟩ : Addr).add j = ⟨Vh, 0 + j, none⟩ := by unfold Addr.add; split <;> simp_all
      rw [hadd, Nat.zero_add, cell_of_row w Vh _ _ t' (0, 0) hH]
      rw [List.getElem?_map] at hj
      obtain ⟨x, hx, rfl⟩ := Option.map_eq_some_iff.1 hj
      exact rowI_get hx)
    (by simp [rowI, hh]; omega) (fun v hv => by obtain ⟨x, _, rfl⟩ := List.mem_map.1 hv; rfl)
  rw [h]
  have e : ((rowI os).toList.take i ++ hs.map (Value.int .i64) ++ (rowI os).toList.drop (i + (hs.map (Value.int .i64)).length)).toArray = rowI (os.take i ++ hs) := by
    have : os.drop (i + n) = [] := List.drop_eq_nil_of_le (by omega)
    simp [rowI, hh, List.map_append, List.map_take, ← List.map_drop, this]
  rw [e]
  simp [hh]
end Go.Proofs.YtpiglmaojonbnaaGreatDoor

/-
  package word: product BY CONTRACT.
-/
namespace Go.Proofs.YtpiglmaojonbnaaGreatDoor
open Go.RowKit Go.Maps

set_option maxRecDepth 100000 in
set_option maxHeartbeats 4000000 in
theorem product_any {G : Nat} {gs : List (Int × Int)} {ins : Nat} {F : Nat → Prop} {w : World} (h : GrAt G gs ins F w) (oa ob : Option Addr) (cca ccb : Nat) (a b : List Int) (hva : LitsAt F w (.slice oa 8 cca) a) (hvb : LitsAt F w (.slice ob 8 ccb) b) (ha8 : a.length = 8) (hb8 : b.length = 8) (ha : ∀ x ∈ a, HasL gs x) (hb : ∀ x ∈ b, HasL gs x) (hl : gs.length + 640 < 88000) :
    Calls Tryz.prog 41 #[.agg #[.pointer (some ⟨G, 0, none⟩)], .slice oa 8 cca, .slice ob 8 ccb] w fun e w' => ∃ V out gs' F', e = .returned (.slice (some ⟨V, 0, none⟩) 8 8) ∧ out.length = 8 ∧ w.heap.size ≤ V ∧ w'.heap[V]? = some (.cells (rowI out) 39 (0, 0)) ∧ ¬ F' V ∧ GrAt G gs' ins F' w' ∧ Mvd F F' w w' ∧ Mads gs gs' 640 out (fun inp => prodB (bitsL gs inp a) (bitsL gs inp b) 8) := by
  obtain ⟨i0, hi0, hz0, hz1, hz2⟩ := info_parts Tryz.infoLit
  have HVA : Hid (LitsAt F w (.slice oa 8 cca) a) := hva
  have HVB : Hid (LitsAt F w (.slice ob 8 ccb) b) := hvb
  have HBY : Hid (∀ n, n ≤ 8 → i0.bytes * n ≤ 281474976710656) := fun n hn => by rw [hz2]; omega
  have HMX : Hid (∀ n, n ≤ 8 → n ≤ maxLen) := fun n hn => by unfold maxLen; omega
  have HL : Hid (gs.length + 640 < 88000) := hl
  have HA : Hid (∀ x ∈ a, HasL gs x) := ha
  have HB : Hid (∀ x ∈ b, HasL gs x) := hb
  have HA8 : Hid (a.length = 8) := ha8
  have HB8 : Hid (b.length = 8) := hb8
  have hF := h.2.2.1
  have HF0 : Hid (¬ F w.heap.size) := fun hf => by have := hF _ hf; omega
  have HF1 : Hid (¬ F (w.heap.size + 1)) := fun hf => by have := hF _ hf; omega
  have hb1 : Below w.heap.size w (w.alloc (.cells #[.pointer (some ⟨G, 0, none⟩)] 60)) := (Below.refl _ _).alloc (Nat.le_refl _) _
  have HBW : Hid (Below w.heap.size w (w.alloc (.cells #[.pointer (some ⟨G, 0, none⟩)] 60))) := hb1
  have HRM : Hid ((w.alloc (.cells #[.pointer (some ⟨G, 0, none⟩)] 60)).heap[w.heap.size]? = some (.cells #[.pointer (some ⟨G, 0, none⟩)] 60 (0, 0))) := heap_alloc_new _ _
  have HG : Hid (GrAt G gs ins F w) := h
  have HS0 : Hid ((w.alloc (.cells #[.pointer (some ⟨G, 0, none⟩)] 60)).heap.size = w.heap.size + 1) := by unfold Hid; simp
  have HI0 : Hid (Tryz.prog.info? 39 = some i0) := hi0
  have HZ0 : Hid (i0.zero = some (.int .i64 0)) := hz0
  have HZ1 : Hid (i0.size = 1) := hz1
  clear hl ha hb hF hb1 h ha8 hb8 hva hvb hi0 hz0 hz1 hz2
  go_enter Tryz.func41, Tryz.ntmps41
  go_wp2_with (first
    | (at_make; refine wpList_make_full _ rfl _ _ 38 rfl 0 39 i0 _ 1 Tryz.underlying38 HI0.out HZ0.out HZ1.out .i64 .i64 _ _ 8 rfl rfl (by simp) (by simp) (HBY.out 8 (by omega)) (HMX.out 8 (by omega)) (Nat.zero_le _) ?_; intro w1 hown1 hgr1)
    | go_in)
  have hV1 := made_lits hown1
  rw [HS0.out, rowP_zero] at hV1
  have hb2 : Below (w.heap.size + 1) (w.alloc (.cells #[.pointer (some ⟨G, 0, none⟩)] 60)) w1 := ⟨hgr1.os, hgr1.tape, hgr1.output, hgr1.size, fun k hk => hgr1.block k (by rw [HS0.out]; exact hk) (by simp)⟩
  have HR1 : Hid (w1.heap[w.heap.size + 1]? = some (.cells (rowI (List.replicate 8 0)) 39 (0, 0))) := hV1
  have HB1 : Hid (Below w.heap.size w w1) := HBW.out.trans (hb2.mono (by omega))
  have HM1 : Hid (w1.cell? ⟨w.heap.size, 0, none⟩ = some (.pointer (some ⟨G, 0, none⟩))) := by unfold Hid; rw [cell_of_row w1 _ 0 _ _ (0, 0) (by rw [hb2.block _ (by omega)]; exact HRM.out)]; rfl
  have HD0 : Hid (Mads gs gs (80 * 0) (List.replicate 8 0) (fun inp => prodB (bitsL gs inp a) (bitsL gs inp b) 0)) := ⟨Ext.refl _, by omega, fun x hx => by rw [List.eq_of_mem_replicate hx]; exact HasL.zero _, fun inp i x hx => by rw [List.eq_of_mem_replicate (List.mem_of_getElem? hx), val_zero]; rfl⟩
  clear hown1 hgr1 hV1 hb2 HBW HRM HS0
  go_loopw [19] (fun t wr => ∃ (i : Nat) (os : List Int) (gi : List (Int × Int)) (Fi : Nat → Prop), i ≤ 8 ∧ os.length = 8 ∧ t = .int .i64 i ∧ wr.cell? ⟨w.heap.size, 0, none⟩ = some (.pointer (some ⟨G, 0, none⟩)) ∧ ¬ Fi w.heap.size ∧ wr.heap[w.heap.size + 1]? = some (.cells (rowI os) 39 (0, 0)) ∧ ¬ Fi (w.heap.size + 1) ∧
    GrAt G gi ins Fi wr ∧ Mvd F Fi w wr ∧ Mads gs gi (80 * i) os (fun inp => prodB (bitsL gs inp a) (bitsL gs inp b) i)) (fun t _ => 8 - (intOf t).toNat)
  case atStart => exact ⟨0, _, gs, F, Nat.zero_le _, List.length_replicate, rfl, HM1.out, HF0.out, HR1.out, HF1.out, HG.out.below HB1.out, Mvd.of_below HB1.out, HD0.out⟩
  case round =>
    obtain ⟨i, os, gi, Fi, hi, hos, rfl, hcM, hnM, hrV, hnV, hG, hM, hD⟩ := hrel
    by_cases hil : i < 8
    · obtain ⟨x, hx⟩ : ∃ x, b[i]? = some x := ⟨_, List.getElem?_eq_getElem (by rw [HB8.out]; exact hil)⟩
      obtain ⟨bb, fb, rfl, hbl, hmv⟩ := HVB.out.at hx
      obtain ⟨hnb, hcx⟩ := hmv _ _ hM
      obtain ⟨y0, hy0⟩ : ∃ y, a[0]? = some y := ⟨_, List.getElem?_eq_getElem (by rw [HA8.out]; omega)⟩
      obtain ⟨ba, fa, rfl, hal, -⟩ := HVA.out.at hy0
      have i0' : (0 : Int) ≤ (i : Int) := by omega
      have i1' : (i : Int) < 8 := by omega
      obtain ⟨n, hn⟩ : ∃ n : Nat, i + n = 8 := ⟨8 - i, by omega⟩
      have e8i : (8 : Int) - (i : Int) = (n : Int) := by omega
      have HN : Hid (i + n = 8) := hn
      have HN8 : Hid (n ≤ 8) := by unfold Hid; omega
      have HI8 : Hid (i < 8) := hil
      have HOS : Hid (os.length = 8) := hos
      have HG1 : Hid (GrAt G gi ins Fi wr) := hG
      have HMv : Hid (Mvd F Fi w wr) := hM
      have HD : Hid (Mads gs gi (80 * i) os _) := hD
      have HX0 : Hid (HasL gi x) := (HB.out x (List.mem_of_getElem? hx)).ext hD.ext
      have HVX : Hid (∀ inp, valL gi inp x = bitsL gs inp b i) := fun inp => by rw [bitsL_get hx, hD.ext.val inp (HB.out x (List.mem_of_getElem? hx))]
      have HLi : Hid (gi.length ≤ gs.length + 80 * i) := hD.len
      have HcM : Hid (wr.cell? ⟨w.heap.size, 0, none⟩ = some (.pointer (some ⟨G, 0, none⟩))) := hcM
      have HnM : Hid (¬ Fi w.heap.size) := hnM
      have HnV : Hid (¬ Fi (w.heap.size + 1)) := hnV
      have HrV : Hid (wr.heap[w.heap.size + 1]? = some (.cells (rowI os) 39 (0, 0))) := hrV
      have Hal : Hid (ba < w.heap.size) := hal
      clear hi hos hnM hrV hnV hG hM hD hil hx hnb hy0 hal hbl hmv hcM hn
      go_wp2_with (first
        | (at_make; refine wpList_make_full _ rfl _ _ 38 rfl 0 39 i0 _ 1 Tryz.underlying38 HI0.out HZ0.out HZ1.out .i64 .i64 _ _ n rfl rfl rfl rfl (HBY.out _ HN8.out) (HMX.out _ HN8.out) (Nat.zero_le _) ?_; intro w2 hown2 hgr2)
        | go_in)
      have hV2 := made_lits hown2
      obtain ⟨R, hR⟩ : ∃ R, R = wr.heap.size := ⟨_, rfl⟩
      have hb2 : Below wr.heap.size wr w2 := ⟨hgr2.os, hgr2.tape, hgr2.output, hgr2.size, fun k hk => hgr2.block k hk (by simp)⟩
      have hwr : w.heap.size + 1 < wr.heap.size := (Array.getElem?_eq_some_iff.1 HrV.out).1
      have hgs := HG1.out.2.2.1
      rw [← hR] at hV2 hwr hgs
      rw [← hR]
      have HR0 : Hid (w2.heap[R]? = some (.cells (rowI (rowP [] n)) 39 (0, 0))) := hV2
      have HnR0 : Hid (¬ Fi R) := fun hf => by have := hgs _ hf; omega
      have HRM : Hid (w.heap.size ≠ R ∧ w.heap.size + 1 ≠ R ∧ ba ≠ R ∧ w.heap.size ≤ R) := by have := Hal.out; unfold Hid; omega
      have HG2 : Hid (GrAt G gi ins Fi w2) := HG1.out.below hb2
      have HMv2 : Hid (Mvd F Fi w w2) := HMv.out.trans (Mvd.of_below hb2)
      have HcM2 : Hid (w2.cell? ⟨w.heap.size, 0, none⟩ = some (.pointer (some ⟨G, 0, none⟩))) := cell_keep hb2 HcM.out
      have HrV2 : Hid (w2.heap[w.heap.size + 1]? = some (.cells (rowI os) 39 (0, 0))) := row_keep hb2 HrV.out
      clear hown2 hgr2 hV2 hb2 hwr hgs hR hcx HG1 HMv HcM HrV
      rename World => wq
      go_loopw [31] (fun t wr => ∃ (j : Nat) (rs : List Int) (gj : List (Int × Int)) (Fj : Nat → Prop), j ≤ n ∧ rs.length = j ∧ t = .int .i64 j ∧ wr.cell? ⟨w.heap.size, 0, none⟩ = some (.pointer (some ⟨G, 0, none⟩)) ∧ ¬ Fj w.heap.size ∧ wr.heap[w.heap.size + 1]? = some (.cells (rowI os) 39 (0, 0)) ∧ ¬ Fj (w.heap.size + 1) ∧
        wr.heap[R]? = some (.cells (rowI (rowP rs n)) 39 (0, 0)) ∧ ¬ Fj R ∧ GrAt G gj ins Fj wr ∧ Mvd F Fj w wr ∧ Mads gi gj j rs (fun inp k => valL gi inp x && bitsL gs inp a k)) (fun t _ => n - (intOf t).toNat)
      case atStart => exact ⟨0, [], gi, Fi, Nat.zero_le _, rfl, rfl, HcM2.out, HnM.out, HrV2.out, HnV.out, HR0.out, HnR0.out, HG2.out, HMv2.out, Mads.nil (Ext.refl _) (by omega) _⟩
      case round =>
        obtain ⟨j, rs, gj, Fj, hj, hrs, rfl, hcM, hnM, hrV, hnV, hrR, hnR, hG, hM, hD⟩ := hrel
        by_cases hjl : j < n
        · obtain ⟨y, hy⟩ : ∃ y, a[j]? = some y := ⟨_, List.getElem?_eq_getElem (by have := HA8.out; have := HN.out; omega)⟩
          obtain ⟨ba', fa', ea, -, hmv⟩ := HVA.out.at hy
          obtain ⟨rfl, rfl⟩ : ba = ba' ∧ fa = fa' := by simpa using ea
          obtain ⟨hna, hcy⟩ := hmv _ _ hM
          have j0' : (0 : Int) ≤ (j : Int) := by omega
          have j1' : (j : Int) < (n : Int) := by omega
          have j2' : (j : Int) < 8 := by have := HN8.out; omega
          have HJ : Hid (j < n) := hjl
          have HRS : Hid (rs.length = j) := hrs
          have HG3 : Hid (GrAt G gj ins Fj wr) := hG
          have HMv3 : Hid (Mvd F Fj w wr) := hM
          have HD3 : Hid (Mads gi gj j rs _) := hD
          have HX3 : Hid (HasL gj x) := HX0.out.ext hD.ext
          have HY3 : Hid (HasL gj y) := (HA.out y (List.mem_of_getElem? hy)).ext (HD.out.ext.trans hD.ext)
          have HVY : Hid (∀ inp, valL gj inp x = valL gi inp x ∧ valL gj inp y = bitsL gs inp a j) := fun inp => ⟨hD.ext.val inp HX0.out, by rw [bitsL_get hy, (HD.out.ext.trans hD.ext).val inp (HA.out y (List.mem_of_getElem? hy))]⟩
          have HL3 : Hid (gj.length < 89000) := by have := hD.len; have := HLi.out; have := HL.out; have := HN8.out; unfold Hid; omega
          have HnM3 : Hid (¬ Fj w.heap.size) := hnM
          have HnV3 : Hid (¬ Fj (w.heap.size + 1)) := hnV
          have HnR3 : Hid (¬ Fj R) := hnR
          have Hna3 : Hid (¬ Fj ba) := hna
          have HrV3 : Hid (wr.heap[w.heap.size + 1]? = some (.cells (rowI os) 39 (0, 0))) := hrV
          have HrR3 : Hid (wr.heap[R]? = some (.cells (rowI (rowP rs n)) 39 (0, 0))) := hrR
          clear hj hrs hnM hrV hnV hrR hnR hG hM hD hjl hy hna hmv ea
          go_wp2
          go_region_held3 (fun w' => w'.cell? ⟨w.heap.size, 0, none⟩ = some (.pointer (some ⟨G, 0, none⟩)) ∧ w'.cell? ⟨ba, fa + j, none⟩ = some (.int .i64 y)) ((first | go_keep | exact ⟨(cell_apart HRM.out.1).trans q0.1, (cell_apart HRM.out.2.2.1).trans q1.1⟩ | exact ⟨q0.1, q1.1⟩))
            (first
              | (go_at_call 36; refine (mand_any (by exact HG3.out) HL3.out _ _ HX3.out HY3.out).mono ?_; rintro e w3 ⟨z, g3, F3, rfl, G3, M3, D3⟩; have q0 := M3.cell (by exact hcM) HnM3.out; have q1 := M3.cell (by exact hcy) Hna3.out; have q2 := (M3.undrew).rowKept HrV3.out HnV3.out; have q3 := (M3.undrew).rowKept HrR3.out HnR3.out; have fR : w3.frozen? ⟨R, j, none⟩ = false := frozen_row q3.1; have cR := rowP_cell q3.1 (by rw [HRS.out]; exact HJ.out); rw [HRS.out] at cR))
          have hst := rowP_store q3.1 (by rw [HRS.out]; exact HJ.out) z
          rw [HRS.out] at hst
          have hDD : Mads gi g3 (j + 1) (rs ++ [z]) (fun inp k => valL gi inp x && bitsL gs inp a k) :=
            HD3.out.snoc D3 (fun inp => by rw [(HVY.out inp).1, (HVY.out inp).2, HRS.out])
          obtain ⟨w4, hw4⟩ : ∃ w4, w4 = w3.setCell ⟨R, j, none⟩ (.int .i64 z) := ⟨_, rfl⟩
          have HEND : Hid (∃ (j' : Nat) (rs : List Int) (gj : List (Int × Int)) (Fj : Nat → Prop), j' ≤ n ∧ rs.length = j' ∧ (Value.int .i64 ((j : Int) + 1)) = .int .i64 j' ∧ w4.cell? ⟨w.heap.size, 0, none⟩ = some (.pointer (some ⟨G, 0, none⟩)) ∧ ¬ Fj w.heap.size ∧ w4.heap[w.heap.size + 1]? = some (.cells (rowI os) 39 (0, 0)) ∧ ¬ Fj (w.heap.size + 1) ∧ w4.heap[R]? = some (.cells (rowI (rowP rs n)) 39 (0, 0)) ∧ ¬ Fj R ∧ GrAt G gj ins Fj w4 ∧ Mvd F Fj w w4 ∧ Mads gi gj j' rs (fun inp k => valL gi inp x && bitsL gs inp a k)) := by
            refine ⟨j + 1, rs ++ [z], g3, F3, HJ.out, by rw [List.length_append, HRS.out]; rfl, rfl, ?_, q0.2, ?_, q2.2, ?_, q3.2, ?_, ?_, hDD⟩
            · rw [hw4, cell_apart HRM.out.1]; exact q0.1
            · rw [hw4, Below.heap_setCell _ _ _ _ HRM.out.2.1]; exact q2.1
            · rw [hw4]; exact hst
            · rw [hw4]; exact G3.set q3.2 _ _
            · rw [hw4]; exact (HMv3.out.trans M3.undrew).set HRM.out.2.2.2 _
          have N4 : Hid (wrap64 ((j : Int) + 1) = (j : Int) + 1) := by unfold Hid wrap64; omega
          rw [← hw4]
          clear hst hDD hw4 q0 q1 q2 q3 fR cR G3 M3 D3 hcM hcy
          go_wp2
          try rw [N4.out]
          exact ⟨HEND.out, by have := HJ.out; simp [intOf]; omega⟩
        · obtain rfl : j = n := by omega
          rw [rowP_all hrs] at hrR
          have hos8 : os.length = i + j := by rw [HOS.out, HN.out]
          have hLT : LitsAt Fj wr (.slice (some ⟨w.heap.size + 1, i, none⟩) j j) (os.drop i) := lits_tail hrV hnV (by rw [HOS.out]; omega) hos8
          have hRT : LitsAt Fj wr (.slice (some ⟨R, 0, none⟩) j j) rs := by have := lits_row (c := j) hrR hnR (by rw [hrs]; have := HN8.out; omega); rw [hrs] at this; exact this
          have hdl : (os.drop i).length = j := by rw [List.length_drop]; omega
          have HLT : Hid (LitsAt Fj wr (.slice (some ⟨w.heap.size + 1, i, none⟩) j j) (os.drop i)) := hLT
          have HRT : Hid (LitsAt Fj wr (.slice (some ⟨R, 0, none⟩) j j) rs) := hRT
          have HRD : Hid (rs.length = (os.drop i).length) := by unfold Hid; rw [hrs, hdl]
          have HDL : Hid ((os.drop i).length = j) := hdl
          have HO3 : Hid (∀ y ∈ os.drop i, HasL gj y) := fun y hy => (HD.out.has y (List.mem_of_mem_drop hy)).ext hD.ext
          have HR3 : Hid (∀ y ∈ rs, HasL gj y) := hD.has
          have HL3 : Hid (gj.length + 9 * (os.drop i).length < 88000) := by rw [hdl]; have := hD.len; have := HLi.out; have := HL.out; have := HN.out; unfold Hid; omega
          have HG3 : Hid (GrAt G gj ins Fj wr) := hG
          have HMv3 : Hid (Mvd F Fj w wr) := hM
          have HD3 : Hid (Mads gi gj j rs _) := hD
          have HnM3 : Hid (¬ Fj w.heap.size) := hnM
          have HnV3 : Hid (¬ Fj (w.heap.size + 1)) := hnV
          have HrV3 : Hid (wr.heap[w.heap.size + 1]? = some (.cells (rowI os) 39 (0, 0))) := hrV
          have s1 : (i : Int) ≤ 8 := by omega
          have s2 : 8 - i = j := by have := HN.out; omega
          have s3 : ¬ (8 = i) := by have := HI8.out; omega
          clear hj hrs hnM hrV hnV hrR hnR hG hM hD hjl hLT hRT hdl hos8
          go_wp2
          go_region_held3 (fun w' => w'.cell? ⟨w.heap.size, 0, none⟩ = some (.pointer (some ⟨G, 0, none⟩))) ((first | go_keep | exact q0.1))
            (first
              | (go_at_call 39; refine (sum_any (F := Fj) (by exact HG3.out) _ _ _ _ (by exact HLT.out) (by exact HRT.out) HRD.out HO3.out HR3.out 0 (HasL.zero _) HL3.out).mono ?_; rw [HDL.out]; rintro e w3 ⟨Vh, hs, c3, g3, F3, rfl, h1, h2, h3, h4, G3, M3, D3, -, -⟩; have q0 := M3.cell (by exact hcM) HnM3.out))
          have M3' := M3.undrew
          have kV := M3'.rowKept HrV3.out HnV3.out
          have hos8 : os.length = i + j := by rw [HOS.out, HN.out]
          have hcp := fun ty => copy_tail (ty := ty) (c := j) kV.1 h3 hos8 h1
          obtain ⟨w4, hw4⟩ : ∃ w4, w4 = w3.setRow (w.heap.size + 1) (rowI (os.take i ++ hs)) := ⟨_, rfl⟩
          have hnl : (os.take i ++ hs).length = 8 := by rw [List.length_append, List.length_take, h1, HOS.out]; have := HN.out; omega
          have hDD : Mads gs g3 (80 * (i + 1)) (os.take i ++ hs) (fun inp => prodB (bitsL gs inp a) (bitsL gs inp b) (i + 1)) := by
            have e1 : Ext gi g3 := HD3.out.ext.trans D3.ext
            refine ⟨HD.out.ext.trans e1, by have := D3.len; have := HD3.out.len; have := HLi.out; have := HN8.out; omega, fun y hy => ?_, fun inp k y hy => ?_⟩
            · rcases List.mem_append.1 hy with hy | hy
              · exact (HD.out.has y (List.mem_of_mem_take hy)).ext e1
              · exact D3.has y hy
            · have htl : (os.take i).length = i := by rw [List.length_take, HOS.out]; have := HN.out; omega
              rcases Nat.lt_or_ge k i with hk | hk
              · rw [List.getElem?_append_left (by omega)] at hy
                have hy' : os[k]? = some y := by rw [List.getElem?_take] at hy; simpa [hk] using hy
                rw [e1.val inp (HD.out.has y (List.mem_of_getElem? hy')), HD.out.val inp k y hy']
                show _ = (if k < i then _ else _)
                rw [if_pos hk]
              · rw [List.getElem?_append_right (by omega), htl] at hy
                have hkl := (List.getElem?_eq_some_iff.1 hy).1
                rw [D3.val inp _ y hy]
                show _ = (if k < i then _ else _)
                rw [if_neg (by omega), val_zero]
                refine smB_congr fun q hq => ⟨?_, ?_⟩
                · have hq' : q < (os.drop i).length := by rw [HDL.out]; omega
                  have e2 : (os.drop i)[q]? = some (os.drop i)[q] := List.getElem?_eq_getElem hq'
                  rw [bitsL_get e2]
                  rw [List.getElem?_drop] at e2
                  rw [HD3.out.ext.val inp (HD.out.has _ (List.mem_of_getElem? e2)), HD.out.val inp _ _ e2]
                · have hq' : q < rs.length := by rw [HRD.out, HDL.out]; omega
                  rw [HD3.out.bits inp hq', HVX.out inp]
          have HEND : Hid (∃ (i' : Nat) (os : List Int) (gi : List (Int × Int)) (Fi : Nat → Prop), i' ≤ 8 ∧ os.length = 8 ∧ (Value.int .i64 ((i : Int) + 1)) = .int .i64 i' ∧ w4.cell? ⟨w.heap.size, 0, none⟩ = some (.pointer (some ⟨G, 0, none⟩)) ∧ ¬ Fi w.heap.size ∧ w4.heap[w.heap.size + 1]? = some (.cells (rowI os) 39 (0, 0)) ∧ ¬ Fi (w.heap.size + 1) ∧ GrAt G gi ins Fi w4 ∧ Mvd F Fi w w4 ∧ Mads gs gi (80 * i') os (fun inp => prodB (bitsL gs inp a) (bitsL gs inp b) i')) := by
            refine ⟨i + 1, _, g3, F3, HI8.out, hnl, rfl, ?_, q0.2, ?_, kV.2, ?_, ?_, hDD⟩
            · rw [hw4, cell_setRow (by simp)]; exact q0.1
            · rw [hw4]; exact setRow_heap _ _ _ _ _ _ kV.1
            · rw [hw4]; exact G3.setRow kV.2 _
            · rw [hw4]; exact (HMv3.out.trans M3').setRow (by omega) _
          have hrun : ∀ ty, (Builtin.copy_ #[38, 38] ty #[.slice (some ⟨w.heap.size + 1, i, none⟩) j j, .slice (some ⟨Vh, 0, none⟩) j j]).run Tryz.prog w3 = .ok (goInt j) w4 := fun ty => by rw [hw4]; exact hcp ty
          clear M3 M3' kV hos8 hcp hw4 hnl hDD q0 h1 h2 h3 h4 G3 D3 hcM
          go_wp2
          exact ⟨HEND.out, by have := HI8.out; simp [intOf]; omega⟩
    · obtain rfl : i = 8 := by omega
      have HR' : Hid _ := hrV
      have HE : Hid _ := (⟨hos, hnV, hG, hM, hD⟩ : os.length = 8 ∧ ¬ Fi (w.heap.size + 1) ∧ GrAt G gi ins Fi wr ∧ Mvd F Fi w wr ∧ Mads gs gi (80 * 8) os _)
      clear hi hos hcM hnM hrV hnV hG hM hD hil
      go_wp2
      go_ret
      exact ⟨w.heap.size + 1, os, gi, Fi, rfl, HE.out.1, by omega, HR'.out, HE.out.2.1, HE.out.2.2.1, HE.out.2.2.2.1, HE.out.2.2.2.2⟩
end Go.Proofs.YtpiglmaojonbnaaGreatDoor
