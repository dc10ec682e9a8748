/-
  lustrumref1.TreeText BY ITS CONTRACT: a right program's text, or none.
-/
import Derived.Test.YtgbpccipdcajgaaGreatDoorQ42
import Derived.Test.YtgbpccipdcajgaaGreatDoorQ30
import Derived.Test.YtgbpccipdcajgaaGreatDoorQ40
import Derived.Deep.RegionHeld3
import Derived.Deep.CutBlock
namespace Go.Proofs.YtgbpccipdcajgaaGreatDoor
open Go.RowKit
attribute [local go_sem ↓] Go.wp_at_zero Go.wp_at_succ
theorem RwK.drew {B b : Nat} {w w' : World} (h : RwK B b w w') : RwK B b w w'.drew := ⟨Below.drew h.1, h.2⟩
abbrev ndObj (name : ByteArray) (v1 v2 v3 v4 : Value) : Obj := .cells #[.string name, v1, v2, v3, v4] 86
abbrev eqObj (kind : ByteArray) (v : Value) (op : ByteArray) (n : Int) (s : ByteArray) (v' : Value) : Obj := .cells #[.string kind, v, .string op, .int .i64 n, .string s, v'] 96
theorem RwK.nd {B b : Nat} {w w' : World} (h : RwK B b w w') {k : Nat} {name : ByteArray} {v1 v2 v3 v4 : Value} (hk : k ≠ b) (hr : w.heap[k]? = some (ndObj name v1 v2 v3 v4)) : w'.heap[k]? = some (ndObj name v1 v2 v3 v4) := h.2 k _ hr (by simpa using hk) (by intro c fz e; injection e with _ e2; exact absurd e2 (by decide))
theorem RwK.eq {B b : Nat} {w w' : World} (h : RwK B b w w') {k : Nat} {kind : ByteArray} {v : Value} {op : ByteArray} {n : Int} {s : ByteArray} {v' : Value} (hk : k ≠ b) (hr : w.heap[k]? = some (eqObj kind v op n s v')) : w'.heap[k]? = some (eqObj kind v op n s v') := h.2 k _ hr (by simpa using hk) (by intro c fz e; injection e with _ e2; exact absurd e2 (by decide))
theorem rwVars_t (B b : Nat) (n : Int) (bad : Bool) (w : World) (o : Option Addr) (c : Nat) (vs : List Ex) (t : ByteArray) (ht : sOf (rvTxt vs) = t) (hb : w.heap[b]? = some (rwObj n bad false)) (hB : B ≤ b) (hr : RowAt w (fun k => k < B) 2 (.slice o vs.length c) vs.length (varCells vs)) (hV : VarsB vs) :
  Calls Tryz.prog 54 #[.pointer (some ⟨b, 0, none⟩), .slice o vs.length c] w fun e w' => e = .returned (.string t) ∧ RwK B b w w' ∧ ∃ bad', w'.heap[b]? = some (rwObj n bad' false) ∧ (bad' = false ↔ bad = false ∧ ∀ v ∈ vs, VarOk v) := by
 subst ht
 exact rwVars_k B b n bad w o c vs hb hB hr hV.1 hV.2
theorem low_row {w : World} {S : Nat → Prop} {size n : Nat} {v : Value} {xs : List Value} (h : RowAt w S size v n xs) : RowAt w (fun k => k < w.heap.size) size v n xs := h.keep fun _ _ hk => ⟨hk, rfl⟩
theorem low_nd {w : World} {S : Nat → Prop} {es : List Ex} {xs : List Value} (h : NdIn w S es xs) : NdIn w (fun k => k < w.heap.size) es xs := h.keep fun _ _ hk => ⟨hk, rfl⟩
set_option maxRecDepth 100000 in
set_option maxHeartbeats 40000000 in
set_option linter.unusedSimpArgs false in
theorem refText_any (es : List Ex) (S : Nat → Prop) (o : Option Addr) (c : Nat) (ys : List Value) (w : World) (h1 : RowAt w S 5 (.slice o es.length c) es.length ys) (h2 : NdIn w S es ys) (hbk : BulkN es) :
  Calls Tryz.prog 21 #[.slice o es.length c] w fun e w' => Below w.heap.size w w' ∧ ((∃ t : ByteArray, e = .returned (.tuple #[.string t, .bool true]) ∧ RightP es t.toList) ∨ (e = .returned (.tuple #[.string ⟨#[]⟩, .bool false]) ∧ NoRight es)) := by
 have hl := h1.len
 unfold maxLen at hl
 have H1 : Hid (RowAt w (fun k => k < w.heap.size) 5 (.slice o es.length c) es.length ys) := low_row h1
 have H2 : Hid (NdIn w (fun k => k < w.heap.size) es ys) := low_nd h2
 have HBK : Hid (BulkN es) := hbk
 have R0 : Hid ((w.alloc (rwObj 0 false false)).heap[w.heap.size]? = some (rwObj 0 false false)) := heap_alloc_new w _
 have K0 : Hid (RwK w.heap.size w.heap.size w (w.alloc (rwObj 0 false false))) := (RwK.refl _ _ _).alloc (Nat.le_refl _) _
 clear h1 h2 hbk
 go_enter Tryz.func21, Tryz.ntmps21
 go_wp2_with fail
 refine (must_k w.heap.size w.heap.size 0 false (decide ((es.length : Int) ≤ 12)) _ R0.out (Nat.le_refl _)).mono ?_
 rintro e w1 ⟨rfl, k1, r1⟩
 have K1 : Hid (RwK w.heap.size w.heap.size w w1) := K0.out.trans k1
 have R1 : Hid _ := r1
 have A1 : Hid (OutAt es 0 b0 0 (false || !decide ((es.length : Int) ≤ 12))) := OutAt.start es
 clear K0 R0 k1 r1
 go_wp2
 go_loopw [5, 6] (fun x t wr => ∃ (i : Nat) (text : ByteArray) (n' : Int) (bad : Bool), i ≤ es.length ∧ t = .int .i64 i ∧ x = .string text ∧ Hid (RwK w.heap.size w.heap.size w wr) ∧ Hid (wr.heap[w.heap.size]? = some (rwObj n' bad false)) ∧ Hid (OutAt es i text n' bad)) (fun _ t _ => es.length - (intOf t).toNat)
 case atStart => exact ⟨0, _, _, _, Nat.zero_le _, rfl, rfl, K1, R1, A1⟩
 case round =>
  clear K1 R1 A1
  obtain ⟨i, text, n1, bad, hi, rfl, rfl, KR, RR, AR⟩ := hrel
  rename World => wq
  have c1 := (rw_bad RR.out).1
  have hbq : w.heap.size < wq.heap.size := size_of_row RR.out
  by_cases hlt : i < es.length
  ·cases bad with
   | true =>
    go_wp2
    go_ret2
    exact ⟨KR.out.1, Or.inr ⟨by simp, (AR.out.done (Or.inl rfl)).1 rfl⟩⟩
   | false =>
    obtain ⟨name, ins, outs, owns, qs, o1, c1', o2, c2, o3, c3, o4, c4, zs, e, m0, m1, m2, m3, m4, r1, r2, r3, r4, r5⟩ := H2.out.at hlt
    obtain ⟨p, f, c9, hv, hpB, _, g⟩ := H1.out.at (by have := H1.out.1; omega)
    obtain rfl : o = some ⟨p, f, none⟩ := by injection hv
    clear hv
    have x0 := below_cell KR.out.1 hpB (g _ _ m0)
    have x1 := below_cell KR.out.1 hpB (g _ _ m1)
    have x2 := below_cell KR.out.1 hpB (g _ _ m2)
    have x3 := below_cell KR.out.1 hpB (g _ _ m3)
    have x4 := below_cell KR.out.1 hpB (g _ _ m4)
    rw [← Nat.add_assoc] at x1 x2 x3 x4
    clear m0 m1 m2 m3 m4 g
    have i0 : (0 : Int) ≤ (i : Int) := by omega
    have i1 : (i : Int) < (es.length : Int) := by omega
    have HE : Hid (es[i] = ndOf name ins outs owns qs) := e
    have HNB : Hid (NodeB name ins outs owns qs) := HBK.out i hlt _ _ _ _ _ e
    have hts : text.size ≤ 6000 := AR.out.size
    have hns : name.size ≤ 9000000 := HNB.out.name
    have HV1 : Hid (RowAt w (fun k => k < w.heap.size) 2 (.slice o1 ins.length c1') ins.length (varCells ins)) := r1
    have HV2 : Hid (RowAt w (fun k => k < w.heap.size) 2 (.slice o2 outs.length c2) outs.length (varCells outs)) := r2
    have HV3 : Hid (RowAt w (fun k => k < w.heap.size) 2 (.slice o3 owns.length c3) owns.length (varCells owns)) := r3
    have HV4 : Hid (RowAt w (fun k => k < w.heap.size) 6 (.slice o4 qs.length c4) qs.length zs ∧ EqIn w (fun k => k < w.heap.size) qs zs) := ⟨r4, r5⟩
    have hql := r4.len
    unfold maxLen at hql
    have hol := r2.len
    unfold maxLen at hol
    have KN : Hid (RwK w.heap.size w.heap.size w (wq.alloc (ndObj name (.slice o1 ins.length c1') (.slice o2 outs.length c2) (.slice o3 owns.length c3) (.slice o4 qs.length c4)))) := KR.out.alloc (by omega) _
    have RN : Hid ((wq.alloc (ndObj name (.slice o1 ins.length c1') (.slice o2 outs.length c2) (.slice o3 owns.length c3) (.slice o4 qs.length c4))).heap[w.heap.size]? = some (rwObj n1 false false)) := alloc_row _ RR.out
    have EN : Hid ((wq.alloc (ndObj name (.slice o1 ins.length c1') (.slice o2 outs.length c2) (.slice o3 owns.length c3) (.slice o4 qs.length c4))).heap[wq.heap.size]? = some (ndObj name (.slice o1 ins.length c1') (.slice o2 outs.length c2) (.slice o3 owns.length c3) (.slice o4 qs.length c4))) := heap_alloc_new wq _
    clear r1 r2 r3 r4 r5 e
    go_upto_region 8 with fail
    go_cut [] (fun wc => ∃ bad2, Hid (RwK w.heap.size w.heap.size w wc) ∧ Hid (wc.heap[w.heap.size]? = some (rwObj n1 bad2 false)) ∧ Hid (wc.heap[wq.heap.size]? = some (ndObj name (.slice o1 ins.length c1') (.slice o2 outs.length c2) (.slice o3 owns.length c3) (.slice o4 qs.length c4))) ∧ Hid (bad2 = false ↔ NmOk name ∧ outs ≠ []))
    case first =>
     go_wp2_with fail
     refine (refIsName_any name hns _).mono ?_
     rintro e w5 ⟨b5, rfl, hb5, hw5⟩
     have R5 : Hid _ := row_keep hw5 RN.out
     have K5 : Hid (RwK w.heap.size w.heap.size w w5) := KN.out.trans (RwK.of hw5 (by simp; omega))
     have E5 : Hid _ := row_keep hw5 EN.out
     have H5 : Hid (b5 = true ↔ NmOk name) := hb5
     obtain ⟨y0, y1, y2, y3, y4, _⟩ := blk5 E5.out
     clear hw5 hb5 x0 x1 x2 x3 x4
     cases b5 with
     | false =>
      go_wp2_with fail
      refine (must_k w.heap.size w.heap.size n1 false false _ R5.out (Nat.le_refl _)).mono ?_
      rintro e w6 ⟨rfl, k6, r6⟩
      go_wp2
      go_meet
      case rel => exact ⟨_, K5.out.trans k6, r6, k6.nd (by omega) E5.out, ⟨fun h => (by simp at h), fun h => (by cases H5.out.2 h.1)⟩⟩
     | true =>
      go_wp2_with fail
      refine (must_k w.heap.size w.heap.size n1 false (decide (0 < outs.length)) _ R5.out (Nat.le_refl _)).mono ?_
      rintro e w6 ⟨rfl, k6, r6⟩
      go_wp2
      go_meet
      case rel => exact ⟨_, K5.out.trans k6, r6, k6.nd (by omega) E5.out, head_two H5.out (by first | trivial | rfl)⟩
    case rest =>
     clear KN RN EN x0 x1 x2 x3 x4 c1
     obtain ⟨bad2, K6, R6, E6, H6⟩ := hcut
     rename World => w6
     obtain ⟨y0, y1, y2, y3, y4, _⟩ := blk5 E6.out
     have hn6 : wq.heap.size < w6.heap.size := size_of_row E6.out
     have hi1 : (sOf (rvTxt ins)).size ≤ 1000000000000 := by rw [← bytes_len, sOf_list]; exact HNB.out.ins.all
     have ho1 : (sOf (rvTxt outs)).size ≤ 1000000000000 := by rw [← bytes_len, sOf_list]; exact HNB.out.outs.all
     have hw1 : (sOf (rvTxt owns)).size ≤ 1000000000000 := by rw [← bytes_len, sOf_list]; exact HNB.out.owns.all
     obtain ⟨ti, hti⟩ : ∃ ti, sOf (rvTxt ins) = ti := ⟨_, rfl⟩
     obtain ⟨tu, htu⟩ : ∃ tu, sOf (rvTxt outs) = tu := ⟨_, rfl⟩
     rw [hti] at hi1
     rw [htu] at ho1
     have HTI : Hid (sOf (rvTxt ins) = ti) := hti
     have HTU : Hid (sOf (rvTxt outs) = tu) := htu
     clear hti htu
     have hs1 : ∀ W : World, (Op.stringOp .add (text) ⟨#[110, 111, 100, 101, 32]⟩).run Tryz.prog W = .ok (.string (text ++ ⟨#[110, 111, 100, 101, 32]⟩)) W := fun W => run_string_add_sum W _ _ (by show text.size + 5 ≤ _; omega)
     have hs2 : ∀ W : World, (Op.stringOp .add (text ++ ⟨#[110, 111, 100, 101, 32]⟩) name).run Tryz.prog W = .ok (.string (text ++ ⟨#[110, 111, 100, 101, 32]⟩ ++ name)) W := fun W => run_string_add_sum W _ _ (by rw [ByteArray.size_append]; show text.size + 5 + name.size ≤ _; omega)
     have hs3 : ∀ W : World, (Op.stringOp .add (text ++ ⟨#[110, 111, 100, 101, 32]⟩ ++ name) ⟨#[40]⟩).run Tryz.prog W = .ok (.string (text ++ ⟨#[110, 111, 100, 101, 32]⟩ ++ name ++ ⟨#[40]⟩)) W := fun W => run_string_add_sum W _ _ (by rw [ByteArray.size_append, ByteArray.size_append]; show text.size + 5 + name.size + 1 ≤ _; omega)
     have hs4 : ∀ W : World, (Op.stringOp .add (text ++ ⟨#[110, 111, 100, 101, 32]⟩ ++ name ++ ⟨#[40]⟩) ti).run Tryz.prog W = .ok (.string (text ++ ⟨#[110, 111, 100, 101, 32]⟩ ++ name ++ ⟨#[40]⟩ ++ ti)) W := fun W => run_string_add_sum W _ _ (by rw [ByteArray.size_append, ByteArray.size_append, ByteArray.size_append]; show text.size + 5 + name.size + 1 + ti.size ≤ _; omega)
     have hs5 : ∀ W : World, (Op.stringOp .add (text ++ ⟨#[110, 111, 100, 101, 32]⟩ ++ name ++ ⟨#[40]⟩ ++ ti) ⟨#[41, 32, 114, 101, 116, 117, 114, 110, 115, 32, 40]⟩).run Tryz.prog W = .ok (.string (text ++ ⟨#[110, 111, 100, 101, 32]⟩ ++ name ++ ⟨#[40]⟩ ++ ti ++ ⟨#[41, 32, 114, 101, 116, 117, 114, 110, 115, 32, 40]⟩)) W := fun W => run_string_add_sum W _ _ (by rw [ByteArray.size_append, ByteArray.size_append, ByteArray.size_append, ByteArray.size_append]; show text.size + 5 + name.size + 1 + ti.size + 11 ≤ _; omega)
     have hs6 : ∀ W : World, (Op.stringOp .add (text ++ ⟨#[110, 111, 100, 101, 32]⟩ ++ name ++ ⟨#[40]⟩ ++ ti ++ ⟨#[41, 32, 114, 101, 116, 117, 114, 110, 115, 32, 40]⟩) tu).run Tryz.prog W = .ok (.string (text ++ ⟨#[110, 111, 100, 101, 32]⟩ ++ name ++ ⟨#[40]⟩ ++ ti ++ ⟨#[41, 32, 114, 101, 116, 117, 114, 110, 115, 32, 40]⟩ ++ tu)) W := fun W => run_string_add_sum W _ _ (by rw [ByteArray.size_append, ByteArray.size_append, ByteArray.size_append, ByteArray.size_append, ByteArray.size_append]; show text.size + 5 + name.size + 1 + ti.size + 11 + tu.size ≤ _; omega)
     have hs7 : ∀ W : World, (Op.stringOp .add (text ++ ⟨#[110, 111, 100, 101, 32]⟩ ++ name ++ ⟨#[40]⟩ ++ ti ++ ⟨#[41, 32, 114, 101, 116, 117, 114, 110, 115, 32, 40]⟩ ++ tu) ⟨#[41, 59, 10]⟩).run Tryz.prog W = .ok (.string (text ++ ⟨#[110, 111, 100, 101, 32]⟩ ++ name ++ ⟨#[40]⟩ ++ ti ++ ⟨#[41, 32, 114, 101, 116, 117, 114, 110, 115, 32, 40]⟩ ++ tu ++ ⟨#[41, 59, 10]⟩)) W := fun W => run_string_add_sum W _ _ (by rw [ByteArray.size_append, ByteArray.size_append, ByteArray.size_append, ByteArray.size_append, ByteArray.size_append, ByteArray.size_append]; show text.size + 5 + name.size + 1 + ti.size + 11 + tu.size + 3 ≤ _; omega)
     have HS : Hid (∀ w', RwK w.heap.size w.heap.size w6 w' → (fun w' => w'.cell? ⟨wq.heap.size, 0, none⟩ = some (.string name) ∧ w'.cell? ⟨wq.heap.size, 1, none⟩ = some (.slice o1 ins.length c1') ∧ w'.cell? ⟨wq.heap.size, 2, none⟩ = some (.slice o2 outs.length c2) ∧ RwK w.heap.size w.heap.size w6 w') w') := fun w' h => ⟨(blk5 (h.nd (by omega) E6.out)).1, (blk5 (h.nd (by omega) E6.out)).2.1, (blk5 (h.nd (by omega) E6.out)).2.2.1, h⟩
     have hnb : w.heap.size < wq.heap.size := hbq
     go_upto_region 9 with fail
     go_cut [5] (fun x wc => ∃ (t9 : ByteArray) (bad4 : Bool), x = .string t9 ∧ t9.size ≤ 2100000000000 ∧ Hid (text ++ ⟨#[110, 111, 100, 101, 32]⟩ ++ name ++ ⟨#[40]⟩ ++ ti ++ ⟨#[41, 32, 114, 101, 116, 117, 114, 110, 115, 32, 40]⟩ ++ tu ++ ⟨#[41, 59, 10]⟩ = t9) ∧ Hid (RwK w.heap.size w.heap.size w wc) ∧ Hid (wc.heap[w.heap.size]? = some (rwObj n1 bad4 false)) ∧ Hid (wc.heap[wq.heap.size]? = some (ndObj name (.slice o1 ins.length c1') (.slice o2 outs.length c2) (.slice o3 owns.length c3) (.slice o4 qs.length c4))) ∧ Hid (bad4 = false ↔ (bad2 = false ∧ ∀ v ∈ ins, VarOk v) ∧ ∀ v ∈ outs, VarOk v))
     case first =>
      go_wp2
      refine wp_region_held_drew (S := fun w' => w'.cell? ⟨wq.heap.size, 0, none⟩ = some (.string name) ∧ w'.cell? ⟨wq.heap.size, 1, none⟩ = some (.slice o1 ins.length c1') ∧ w'.cell? ⟨wq.heap.size, 2, none⟩ = some (.slice o2 outs.length c2) ∧ RwK w.heap.size w.heap.size w6 w') (by kernel_rfl) (HS.out _ (RwK.refl _ _ _).drew) (fun hHeld => ?_)
      refine wpAnyH_take (i := 0) (v := ?_) rfl (by kernel_rfl) (by kernel_rfl) (by kernel_rfl) (fun _ _ _ h => h) (Or.inl ⟨by rfl, ?_⟩) (by assumption) ?_
      rotate_left
      ·intro w hSw
       (try dsimp only at hSw)
       go_simp
       (try with_reducible rfl)
      (try simp only [Act.put, List.setIfInBounds_toArray, List.set_cons_zero, List.set_cons_succ])
      refine wpAnyH_take (i := 1) (v := ?_) rfl (by kernel_rfl) (by kernel_rfl) (by kernel_rfl) (fun _ _ _ h => h) (Or.inl ⟨by rfl, ?_⟩) (by assumption) ?_
      rotate_left
      ·intro w hSw
       (try dsimp only at hSw)
       go_simp
       (try with_reducible rfl)
      (try simp only [Act.put, List.setIfInBounds_toArray, List.set_cons_zero, List.set_cons_succ])
      refine wpAnyH_take (i := 2) (v := ?_) rfl (by kernel_rfl) (by kernel_rfl) (by kernel_rfl) (fun _ _ _ h => h) (Or.inl ⟨by rfl, ?_⟩) (by assumption) ?_
      rotate_left
      ·intro w hSw
       (try dsimp only at hSw)
       go_simp
       (try with_reducible rfl)
      (try simp only [Act.put, List.setIfInBounds_toArray, List.set_cons_zero, List.set_cons_succ])
      refine wpAnyH_take (i := 3) (v := ?_) rfl (by kernel_rfl) (by kernel_rfl) (by kernel_rfl) (fun _ _ _ h => h) (Or.inl ⟨by rfl, ?_⟩) (by assumption) ?_
      rotate_left
      ·intro w hSw
       (try dsimp only at hSw)
       go_simp
       (try with_reducible rfl)
      (try simp only [Act.put, List.setIfInBounds_toArray, List.set_cons_zero, List.set_cons_succ])
      refine wpAnyH_take (i := 4) (v := ?_) rfl (by kernel_rfl) (by kernel_rfl) (by kernel_rfl) (fun _ _ _ h => h) (Or.inl ⟨by rfl, ?_⟩) (by assumption) ?_
      rotate_left
      ·intro w hSw
       (try dsimp only at hSw)
       go_simp
       (try with_reducible rfl)
      (try simp only [Act.put, List.setIfInBounds_toArray, List.set_cons_zero, List.set_cons_succ])
      refine wpAnyH_take (i := 5) (v := ?_) rfl (by kernel_rfl) (by kernel_rfl) (by kernel_rfl) (fun _ _ _ h => h) (Or.inl ⟨by rfl, ?_⟩) (by assumption) ?_
      rotate_left
      ·intro w hSw
       (try dsimp only at hSw)
       go_simp
       (try with_reducible rfl)
      (try simp only [Act.put, List.setIfInBounds_toArray, List.set_cons_zero, List.set_cons_succ])
      refine wpAnyH_take (i := 6) (v := ?_) rfl (by kernel_rfl) (by kernel_rfl) (by kernel_rfl) (fun _ _ _ h => h) (Or.inl ⟨by rfl, ?_⟩) (by assumption) ?_
      rotate_left
      ·intro w hSw
       (try dsimp only at hSw)
       go_simp
       (try with_reducible rfl)
      (try simp only [Act.put, List.setIfInBounds_toArray, List.set_cons_zero, List.set_cons_succ])
      refine wpAnyH_take (i := 7) (v := ?_) rfl (by kernel_rfl) (by kernel_rfl) (by kernel_rfl) (fun _ _ _ h => h) (Or.inl ⟨by rfl, ?_⟩) (by assumption) ?_
      rotate_left
      ·intro w hSw
       (try dsimp only at hSw)
       go_simp
       (try with_reducible rfl)
      (try simp only [Act.put, List.setIfInBounds_toArray, List.set_cons_zero, List.set_cons_succ])
      refine wpAnyH_take (i := 8) (v := ?_) rfl (by kernel_rfl) (by kernel_rfl) (by kernel_rfl) (fun _ _ _ h => h) (Or.inl ⟨by rfl, ?_⟩) (by assumption) ?_
      rotate_left
      ·intro w hSw
       (try dsimp only at hSw)
       go_simp
       (try with_reducible rfl)
      (try simp only [Act.put, List.setIfInBounds_toArray, List.set_cons_zero, List.set_cons_succ])
      refine wpAnyH_take (i := 12) (v := ?_) rfl (by kernel_rfl) (by kernel_rfl) (by kernel_rfl) (fun _ _ _ h => h) (Or.inl ⟨by rfl, ?_⟩) (by assumption) ?_
      rotate_left
      ·intro w hSw
       (try dsimp only at hSw)
       go_simp
       (try with_reducible rfl)
      (try simp only [Act.put, List.setIfInBounds_toArray, List.set_cons_zero, List.set_cons_succ])
      refine wpAnyH_take (i := 13) (v := ?_) rfl (by kernel_rfl) (by kernel_rfl) (by kernel_rfl) (fun _ _ _ h => h) (Or.inl ⟨by rfl, ?_⟩) (by assumption) ?_
      rotate_left
      ·intro w hSw
       (try dsimp only at hSw)
       go_simp
       (try with_reducible rfl)
      (try simp only [Act.put, List.setIfInBounds_toArray, List.set_cons_zero, List.set_cons_succ])
      refine wpAnyH_take (i := 14) (v := ?_) rfl (by kernel_rfl) (by kernel_rfl) (by kernel_rfl) (fun _ _ _ h => h) (Or.inl ⟨by rfl, ?_⟩) (by assumption) ?_
      rotate_left
      ·intro w hSw
       (try dsimp only at hSw)
       go_simp
       (try with_reducible rfl)
      (try simp only [Act.put, List.setIfInBounds_toArray, List.set_cons_zero, List.set_cons_succ])
      refine wpAnyH_ready (rs := [9]) (by kernel_rfl) (by simp) ?_
      refine AllReadyH.cons rfl (fun K hK => ?_) AllReadyH.nil
      refine step_call rfl 54 #[Value.pointer (some ⟨w.heap.size, 0, none⟩), .slice o1 ins.length c1'] (by kernel_rfl) ?_
      refine (rwVars_t w.heap.size w.heap.size n1 bad2 w6.drew o1 c1' ins ti HTI.out R6.out (Nat.le_refl _) (below_row HV1.out (Below.drew K6.out.1)) HNB.out.ins).mono ?_
      rintro e v1 ⟨rfl, kv1, bad3, rv1, hv1⟩
      have kv1' : RwK w.heap.size w.heap.size w6 v1 := (RwK.refl _ _ _).drew.trans kv1
      have HK1 : Hid (RwK w.heap.size w.heap.size w v1) := K6.out.trans kv1'
      have HB3 : Hid (bad3 = false ↔ bad2 = false ∧ ∀ v ∈ ins, VarOk v) := hv1
      clear hv1
      dsimp only
      refine hK.out _ _ ?_ (fun hHeld => ?_)
      ·exact HS.out _ kv1'
      clear hK K
      (try simp only [Act.put, List.setIfInBounds_toArray, List.set_cons_zero, List.set_cons_succ])
      refine wpAnyH_take (i := 10) (v := ?_) rfl (by kernel_rfl) (by kernel_rfl) (by kernel_rfl) (fun _ _ _ h => h) (Or.inl ⟨by rfl, ?_⟩) (by assumption) ?_
      rotate_left
      ·intro w hSw
       (try dsimp only at hSw)
       go_simp
       (try with_reducible rfl)
      (try simp only [Act.put, List.setIfInBounds_toArray, List.set_cons_zero, List.set_cons_succ])
      refine wpAnyH_take (i := 11) (v := ?_) rfl (by kernel_rfl) (by kernel_rfl) (by kernel_rfl) (fun _ _ _ h => h) (Or.inl ⟨by rfl, ?_⟩) (by assumption) ?_
      rotate_left
      ·intro w hSw
       (try dsimp only at hSw)
       go_simp
       (try with_reducible rfl)
      (try simp only [Act.put, List.setIfInBounds_toArray, List.set_cons_zero, List.set_cons_succ])
      refine wpAnyH_ready (rs := [15]) (by kernel_rfl) (by simp) ?_
      refine AllReadyH.cons rfl (fun K hK => ?_) AllReadyH.nil
      refine step_call rfl 54 #[Value.pointer (some ⟨w.heap.size, 0, none⟩), .slice o2 outs.length c2] (by kernel_rfl) ?_
      refine (rwVars_t w.heap.size w.heap.size n1 bad3 v1 o2 c2 outs tu HTU.out rv1 (Nat.le_refl _) (below_row HV2.out HK1.out.1) HNB.out.outs).mono ?_
      rintro e v2 ⟨rfl, kv2, bad4, rv2, hv2⟩
      have kv2' : RwK w.heap.size w.heap.size w6 v2 := kv1'.trans kv2
      have HK2 : Hid (RwK w.heap.size w.heap.size w v2) := K6.out.trans kv2'
      have HB4 : Hid (bad4 = false ↔ bad3 = false ∧ ∀ v ∈ outs, VarOk v) := hv2
      have E7 : Hid _ := kv2'.nd (by omega) E6.out
      have R7 : Hid _ := rv2
      clear hv2 rv2
      dsimp only
      refine hK.out _ _ ?_ (fun hHeld => ?_)
      ·exact HS.out _ kv2'
      clear hK K
      (try simp only [Act.put, List.setIfInBounds_toArray, List.set_cons_zero, List.set_cons_succ])
      refine wpAnyH_take (i := 16) (v := ?_) rfl (by kernel_rfl) (by kernel_rfl) (by kernel_rfl) (fun _ _ _ h => h) (Or.inl ⟨by rfl, ?_⟩) (by assumption) ?_
      rotate_left
      ·intro w hSw
       (try dsimp only at hSw)
       go_simp
       (try with_reducible rfl)
      (try simp only [Act.put, List.getElem_toArray, List.getElem_cons_succ, List.getElem_cons_zero, List.setIfInBounds_toArray, List.set_cons_zero, List.set_cons_succ])
      refine wpAnyH_take (i := 17) (v := ?_) rfl (by kernel_rfl) (by kernel_rfl) (by kernel_rfl) (fun _ _ _ h => h) (Or.inl ⟨by rfl, ?_⟩) (by assumption) ?_
      rotate_left
      ·intro w hSw
       (try dsimp only at hSw)
       go_simp
       (try with_reducible rfl)
      (try simp only [Act.put, List.getElem_toArray, List.getElem_cons_succ, List.getElem_cons_zero, List.setIfInBounds_toArray, List.set_cons_zero, List.set_cons_succ])
      refine wpAnyH_take (i := 18) (v := ?_) rfl (by kernel_rfl) (by kernel_rfl) (by kernel_rfl) (fun _ _ _ h => h) (Or.inl ⟨by rfl, ?_⟩) (by assumption) ?_
      rotate_left
      ·intro w hSw
       (try dsimp only at hSw)
       go_simp
       (try with_reducible rfl)
      (try simp only [Act.put, List.getElem_toArray, List.getElem_cons_succ, List.getElem_cons_zero, List.setIfInBounds_toArray, List.set_cons_zero, List.set_cons_succ])
      refine wpAnyH_done (by kernel_rfl) ?_ _
      go_wp2
      go_meet
      case rel => exact ⟨_, bad4, rfl, by rw [ByteArray.size_append, ByteArray.size_append, ByteArray.size_append, ByteArray.size_append, ByteArray.size_append, ByteArray.size_append, ByteArray.size_append]; show text.size + 5 + name.size + 1 + ti.size + 11 + tu.size + 3 ≤ _; omega, (show text ++ ⟨#[110, 111, 100, 101, 32]⟩ ++ name ++ ⟨#[40]⟩ ++ ti ++ ⟨#[41, 32, 114, 101, 116, 117, 114, 110, 115, 32, 40]⟩ ++ tu ++ ⟨#[41, 59, 10]⟩ = text ++ ⟨#[110, 111, 100, 101, 32]⟩ ++ name ++ ⟨#[40]⟩ ++ ti ++ ⟨#[41, 32, 114, 101, 116, 117, 114, 110, 115, 32, 40]⟩ ++ tu ++ ⟨#[41, 59, 10]⟩ from rfl), HK2, R7, E7, (show bad4 = false ↔ (bad2 = false ∧ ∀ v ∈ ins, VarOk v) ∧ ∀ v ∈ outs, VarOk v from by rw [HB4.out, HB3.out])⟩
     case rest => as_aux_lemma =>
      clear HS K6 R6 E6 y0 y1 y2 y3 y4 HV1 HV2 hs1 hs2 hs3 hs4 hs5 hs6 hs7
      obtain ⟨t9, bad4, rfl, ht9, HT9, HK2, R7, E7, HB4⟩ := hcut
      rename World => v2
      have hn7 : wq.heap.size < v2.heap.size := size_of_row E7.out
      have hy := blk5 E7.out
      have y3 := hy.2.2.2.1
      clear hy
      go_upto_if 68 with fail
      go_cut [5] (fun x wc => ∃ (text2 : ByteArray) (bad5 : Bool), x = .string text2 ∧ Hid (RwK w.heap.size w.heap.size w wc) ∧ Hid (wc.heap[w.heap.size]? = some (rwObj n1 bad5 false)) ∧ Hid (wc.heap[wq.heap.size]? = some (ndObj name (.slice o1 ins.length c1') (.slice o2 outs.length c2) (.slice o3 owns.length c3) (.slice o4 qs.length c4))) ∧ text2.size ≤ 3200000000000 ∧ Hid (∃ hd : ByteArray, hd.toList = hdTx name ins outs owns ∧ text2 ++ ⟨#[108, 101, 116, 10]⟩ = text ++ hd) ∧ Hid (bad5 = false ↔ HeadOk name ins outs owns))
      case first =>
       by_cases how : owns.length = 0
       ·have hw0 : ¬ ((0 : Int) < (owns.length : Int)) := by omega
        have HOW : Hid (owns.length = 0) := how
        clear how
        go_wp2
        go_meet
        case rel => exact ⟨_, bad4, rfl, HK2, R7, E7, by omega, hd_text HT9.out HTI.out HTU.out (Or.inl ⟨HOW.out, rfl⟩), head_bad H6.out HB4.out ⟨fun h => ⟨h, fun v hv => by rw [List.length_eq_zero_iff.1 HOW.out] at hv; cases hv⟩, fun h => h.1⟩⟩
       ·have hw0 : (0 : Int) < (owns.length : Int) := by omega
        have HOW : Hid (owns.length ≠ 0) := how
        clear how
        obtain ⟨tw, htw⟩ : ∃ tw, sOf (rvTxt owns) = tw := ⟨_, rfl⟩
        rw [htw] at hw1
        have HTW : Hid (sOf (rvTxt owns) = tw) := htw
        clear htw
        have hs1 : ∀ W : World, (Op.stringOp .add (t9) ⟨#[118, 97, 114, 32]⟩).run Tryz.prog W = .ok (.string (t9 ++ ⟨#[118, 97, 114, 32]⟩)) W := fun W => run_string_add_sum W _ _ (by show t9.size + 4 ≤ _; omega)
        have hs2 : ∀ W : World, (Op.stringOp .add (t9 ++ ⟨#[118, 97, 114, 32]⟩) tw).run Tryz.prog W = .ok (.string (t9 ++ ⟨#[118, 97, 114, 32]⟩ ++ tw)) W := fun W => run_string_add_sum W _ _ (by rw [ByteArray.size_append]; show t9.size + 4 + tw.size ≤ _; omega)
        have hs3 : ∀ W : World, (Op.stringOp .add (t9 ++ ⟨#[118, 97, 114, 32]⟩ ++ tw) ⟨#[59, 10]⟩).run Tryz.prog W = .ok (.string (t9 ++ ⟨#[118, 97, 114, 32]⟩ ++ tw ++ ⟨#[59, 10]⟩)) W := fun W => run_string_add_sum W _ _ (by rw [ByteArray.size_append, ByteArray.size_append]; show t9.size + 4 + tw.size + 2 ≤ _; omega)
        go_wp2_with fail
        refine (rwVars_t w.heap.size w.heap.size n1 bad4 _ o3 c3 owns tw HTW.out R7.out (Nat.le_refl _) (below_row HV3.out HK2.out.1) HNB.out.owns).mono ?_
        rintro e v3 ⟨rfl, kv3, bad5, rv3, hv3⟩
        have HB5 : Hid (bad5 = false ↔ bad4 = false ∧ ∀ v ∈ owns, VarOk v) := hv3
        clear hv3
        go_wp2
        go_meet
        case rel => exact ⟨_, bad5, rfl, HK2.out.trans kv3, rv3, kv3.nd (by omega) E7.out, by rw [ByteArray.size_append, ByteArray.size_append, ByteArray.size_append]; show t9.size + 4 + tw.size + 2 ≤ _; omega, hd_text HT9.out HTI.out HTU.out (Or.inr ⟨HOW.out, by rw [HTW.out]⟩), head_bad H6.out HB4.out HB5.out⟩
      case rest =>
       clear HK2 R7 E7 HB4 H6 HTI HTU ht9 HT9 y3 hi1 ho1 hw1 HV3
       obtain ⟨text2, bad5, rfl, K8, R8, E8, ht2, HT2, HH⟩ := hcut
       rename World => w8
       have A8 : Hid (InAt es i name ins outs owns qs 0 (text2 ++ ⟨#[108, 101, 116, 10]⟩) n1 bad5) := by
        obtain ⟨hd, g1, g2⟩ := HT2.out
        rw [g2]
        exact AR.out.head hlt HE.out g1 HH.out (by rw [← g2, ByteArray.size_append]; show text2.size + 4 ≤ _; omega)
       have ha1 : ∀ W : World, (Op.stringOp .add text2 ⟨#[108, 101, 116, 10]⟩).run Tryz.prog W = .ok (.string (text2 ++ ⟨#[108, 101, 116, 10]⟩)) W := fun W => run_string_add_sum W _ _ (by show text2.size + 4 ≤ _; omega)
       go_wp2
       go_loopw [5, 8] (fun x t wr => ∃ (k : Nat) (tx2 : ByteArray) (n' : Int) (bad : Bool), k ≤ qs.length ∧ t = .int .i64 k ∧ x = .string tx2 ∧ Hid (RwK w.heap.size w.heap.size w wr) ∧ Hid (wr.heap[w.heap.size]? = some (rwObj n' bad false)) ∧ Hid (wr.heap[wq.heap.size]? = some (ndObj name (.slice o1 ins.length c1') (.slice o2 outs.length c2) (.slice o3 owns.length c3) (.slice o4 qs.length c4))) ∧ Hid (InAt es i name ins outs owns qs k tx2 n' bad)) (fun _ t _ => qs.length - (intOf t).toNat)
       case atStart => exact ⟨0, _, _, _, Nat.zero_le _, rfl, rfl, K8, R8, E8, A8⟩
       case round => as_aux_lemma =>
        clear K8 R8 E8 A8 ha1 HT2 HH
        obtain ⟨k, tx2, n2, bad, hk, rfl, rfl, KK, RK, EK, AK⟩ := hrel
        rename World => wk
        have ck := (rw_bad RK.out).1
        have hnk : wq.heap.size < wk.heap.size := size_of_row EK.out
        obtain ⟨y0, y1, y2, y3, y4, _⟩ := blk5 EK.out
        have hts2 := AK.out.size
        have hat : ∀ W : World, (Op.stringOp .add tx2 ⟨#[116, 101, 108, 10]⟩).run Tryz.prog W = .ok (.string (tx2 ++ ⟨#[116, 101, 108, 10]⟩)) W := fun W => run_string_add_sum W _ _ (by show tx2.size + 4 ≤ _; omega)
        by_cases hlk : k < qs.length
        ·cases bad with
         | true =>
          go_wp2_with fail
          refine (must_k w.heap.size w.heap.size n2 true (decide ((tx2.size : Int) + 4 ≤ 6000)) _ RK.out (Nat.le_refl _)).mono ?_
          rintro e w9 ⟨rfl, k9, r9⟩
          go_wp2
          exact ⟨⟨i + 1, _, _, _, by omega, by go_num, rfl, KK.out.trans k9, r9, AK.out.done hlt HE.out (Or.inl rfl)⟩, by simp [intOf]; omega⟩
         | false =>
          clear hat
          obtain ⟨kind, ns, no, nc, op, nx, s, es', eo, ec, us, e, m0, m1, m2, m3, m4, m5, r1, r2, r3⟩ := HV4.out.2.at hlk
          obtain ⟨p4, f4, c9, hv, hp4, _, g⟩ := HV4.out.1.at (by have := HV4.out.1.1; omega)
          obtain rfl : o4 = some ⟨p4, f4, none⟩ := by injection hv
          clear hv
          have q0 := below_cell KK.out.1 hp4 (g _ _ m0)
          have q1 := below_cell KK.out.1 hp4 (g _ _ m1)
          have q2 := below_cell KK.out.1 hp4 (g _ _ m2)
          have q3 := below_cell KK.out.1 hp4 (g _ _ m3)
          have q4 := below_cell KK.out.1 hp4 (g _ _ m4)
          have q5 := below_cell KK.out.1 hp4 (g _ _ m5)
          rw [← Nat.add_assoc] at q1 q2 q3 q4 q5
          clear m0 m1 m2 m3 m4 m5 g
          have k0 : (0 : Int) ≤ (k : Int) := by omega
          have k1 : (k : Int) < (qs.length : Int) := by omega
          have HQ : Hid (qs[k] = eqOf kind ns (.mk op nx s es')) := e
          have HEB : Hid (EqB kind ns (.mk op nx s es')) := HNB.out.eqs k hlk _ _ _ e
          have HRN : Hid (RowAt w (fun k => k < w.heap.size) 1 (.slice no ns.length nc) ns.length (nameCells ns)) := r1
          have HRT : Hid (RowAt w (fun k => k < w.heap.size) 4 (.slice eo es'.length ec) es'.length us ∧ ExIn w (fun k => k < w.heap.size) es' us) := ⟨r2, r3⟩
          have hnl := r1.len
          unfold maxLen at hnl
          have KQ : Hid (RwK w.heap.size w.heap.size w (wk.alloc (eqObj kind (.slice no ns.length nc) op nx s (.slice eo es'.length ec)))) := KK.out.alloc (by omega) _
          have RQ : Hid ((wk.alloc (eqObj kind (.slice no ns.length nc) op nx s (.slice eo es'.length ec))).heap[w.heap.size]? = some (rwObj n2 false false)) := alloc_row _ RK.out
          have NQ : Hid ((wk.alloc (eqObj kind (.slice no ns.length nc) op nx s (.slice eo es'.length ec))).heap[wq.heap.size]? = some (ndObj name (.slice o1 ins.length c1') (.slice o2 outs.length c2) (.slice o3 owns.length c3) (.slice (some ⟨p4, f4, none⟩) qs.length c4))) := alloc_row _ EK.out
          have EQ : Hid ((wk.alloc (eqObj kind (.slice no ns.length nc) op nx s (.slice eo es'.length ec))).heap[wk.heap.size]? = some (eqObj kind (.slice no ns.length nc) op nx s (.slice eo es'.length ec))) := heap_alloc_new wk _
          clear r1 r2 r3 e
          go_wp2
          go_loopw [10, 11] (fun x t wr => ∃ (j : Nat) (bad : Bool), j ≤ ns.length ∧ t = .int .i64 j ∧ x = .string (sOf ([32, 32] ++ nmJ ns j)) ∧ Hid (RwK w.heap.size w.heap.size w wr) ∧ Hid (wr.heap[w.heap.size]? = some (rwObj n2 bad false)) ∧ Hid (wr.heap[wq.heap.size]? = some (ndObj name (.slice o1 ins.length c1') (.slice o2 outs.length c2) (.slice o3 owns.length c3) (.slice (some ⟨p4, f4, none⟩) qs.length c4))) ∧ Hid (wr.heap[wk.heap.size]? = some (eqObj kind (.slice no ns.length nc) op nx s (.slice eo es'.length ec))) ∧ Hid (bad = false ↔ ∀ v ∈ ns.take j, NmOk v.op)) (fun _ t _ => ns.length - (intOf t).toNat)
          case atStart => exact ⟨0, false, Nat.zero_le _, rfl, rfl, KQ, RQ, NQ, EQ, ⟨fun _ v hv => by simp at hv, fun _ => rfl⟩⟩
          case round => as_aux_lemma =>
           clear KQ RQ NQ EQ q0 q1 q2 q3 q4 q5 y0 y1 y2 y3 y4 ck
           obtain ⟨j, badj, hj, rfl, rfl, KJ, RJ, NJ, EJ, HJ⟩ := hrel
           rename World => wj
           have hkj : wk.heap.size < wj.heap.size := size_of_row EJ.out
           obtain ⟨u0, u1, u2, u3, u4, u5, _⟩ := blk6 EJ.out
           by_cases hlj : j < ns.length
           ·obtain ⟨p1, f1, c8, hv, hp1, _, g⟩ := HRN.out.at (by rw [nameCells_length]; omega)
            obtain rfl : no = some ⟨p1, f1, none⟩ := by injection hv
            clear hv
            have a0 := below_cell KJ.out.1 hp1 (g _ _ (nameCells_at hlj))
            clear g
            have j0 : (0 : Int) ≤ (j : Int) := by omega
            have j1 : (j : Int) < (ns.length : Int) := by omega
            have hz1 : ns[j].op.size ≤ 9000000 := HEB.out.names _ (List.getElem_mem hlj)
            have HNX : Hid (sOf ([32, 32] ++ nmJ ns (j + 1)) = sOf ([32, 32] ++ nmJ ns j) ++ sOf (if 0 < j then [44, 32] else if 1 < ns.length then [40] else []) ++ ns[j].op) := nmJ_list hlj
            have hzl : (sOf ([32, 32] ++ nmJ ns j)).size ≤ 1000000000002 := by rw [← bytes_len, sOf_list]; have := HEB.out.line j (by omega); simp only [List.length_append, List.length_cons, List.length_nil]; omega
            generalize hbase : sOf ([32, 32] ++ nmJ ns j) = base at hzl HNX ⊢
            clear hbase
            have HI : Hid (∀ w, Calls Tryz.prog 53 #[.string ns[j].op] w fun e w' => ∃ b, e = .returned (.bool b) ∧ (b = true ↔ NmOk ns[j].op) ∧ Below w.heap.size w w') := fun w => refIsName_any ns[j].op hz1 w
            go_wp2_with fail
            refine (HI.out _).mono ?_
            rintro e wi ⟨bi, rfl, hbi, hwi⟩
            have KI : Hid (RwK w.heap.size w.heap.size w wi) := KJ.out.trans (RwK.of hwi (by omega))
            have RI : Hid _ := row_keep hwi RJ.out
            have NI : Hid _ := row_keep hwi NJ.out
            have EI : Hid _ := row_keep hwi EJ.out
            have HBI : Hid (bi = true ↔ NmOk ns[j].op) := hbi
            clear hbi hwi a0 u0 u1 u2 u3 u4 u5 HI
            go_wp2_with fail
            refine (must_k w.heap.size w.heap.size n2 badj bi _ RI.out (Nat.le_refl _)).mono ?_
            rintro e wm ⟨rfl, km, rm⟩
            have KM : Hid (RwK w.heap.size w.heap.size w wm) := KI.out.trans km
            have RM : Hid _ := rm
            have NM : Hid _ := km.nd (by omega) NI.out
            have EM : Hid _ := km.eq (by omega) EI.out
            clear km rm KI RI NI EI KJ RJ NJ EJ
            obtain ⟨u0, u1, u2, u3, u4, u5, _⟩ := blk6 EM.out
            have a0 : wm.cell? ⟨p1, f1 + j, none⟩ = some (.string ns[j].op) := by
             obtain ⟨p1', f1', c8', hv, hp1', _, g⟩ := HRN.out.at (by rw [nameCells_length]; omega)
             injection hv with hv; injection hv with hv; injection hv with e1 e2
             subst e1; subst e2
             exact below_cell KM.out.1 hp1' (g _ _ (nameCells_at hlj))
            by_cases hj0 : j = 0
            ·have hj0' : ¬ ((0 : Int) < (j : Int)) := by omega
             have HJ0 : Hid (¬ 0 < j) := (show ¬ 0 < j from by omega)
             clear hj0
             by_cases hn1 : 1 < ns.length
             ·have hn1' : (1 : Int) < (ns.length : Int) := by omega
              have ha1 : ∀ W : World, (Op.stringOp .add base ⟨#[40]⟩).run Tryz.prog W = .ok (.string (base ++ ⟨#[40]⟩)) W := fun W => run_string_add_sum W _ _ (by show base.size + 1 ≤ _; omega)
              have ha2 : ∀ W : World, (Op.stringOp .add (base ++ ⟨#[40]⟩) ns[j].op).run Tryz.prog W = .ok (.string (base ++ ⟨#[40]⟩ ++ ns[j].op)) W := fun W => run_string_add_sum W _ _ (by rw [ByteArray.size_append]; show base.size + 1 + _ ≤ _; omega)
              go_wp2
              exact ⟨⟨j + 1, _, by omega, by go_num, by rw [HNX.out, if_neg HJ0.out, if_pos hn1]; rfl, KM, RM, NM, EM, names_bad hlj HJ.out HBI.out⟩, by simp [intOf]; omega⟩
             ·have hn1' : ¬ ((1 : Int) < (ns.length : Int)) := by omega
              have ha1 : ∀ W : World, (Op.stringOp .add base ns[j].op).run Tryz.prog W = .ok (.string (base ++ ns[j].op)) W := fun W => run_string_add_sum W _ _ (by omega)
              go_wp2
              exact ⟨⟨j + 1, _, by omega, by go_num, by rw [HNX.out, if_neg HJ0.out, if_neg hn1, sOf_nil_add], KM, RM, NM, EM, names_bad hlj HJ.out HBI.out⟩, by simp [intOf]; omega⟩
            ·have hj0' : (0 : Int) < (j : Int) := by omega
             have HJ0 : Hid (0 < j) := (show 0 < j from by omega)
             clear hj0
             have ha1 : ∀ W : World, (Op.stringOp .add base ⟨#[44, 32]⟩).run Tryz.prog W = .ok (.string (base ++ ⟨#[44, 32]⟩)) W := fun W => run_string_add_sum W _ _ (by show base.size + 2 ≤ _; omega)
             have ha2 : ∀ W : World, (Op.stringOp .add (base ++ ⟨#[44, 32]⟩) ns[j].op).run Tryz.prog W = .ok (.string (base ++ ⟨#[44, 32]⟩ ++ ns[j].op)) W := fun W => run_string_add_sum W _ _ (by rw [ByteArray.size_append]; show base.size + 2 + _ ≤ _; omega)
             go_wp2
             exact ⟨⟨j + 1, _, by omega, by go_num, by rw [HNX.out, if_pos HJ0.out]; rfl, KM, RM, NM, EM, names_bad hlj HJ.out HBI.out⟩, by simp [intOf]; omega⟩
           ·obtain rfl : j = ns.length := by omega
            rw [List.take_length] at HJ
            have hzl : (sOf ([32, 32] ++ nmJ ns ns.length)).size ≤ 1000000000002 := by rw [← bytes_len, sOf_list]; have := HEB.out.line ns.length (Nat.le_refl _); simp only [List.length_append, List.length_cons, List.length_nil]; omega
            obtain ⟨base, hbase⟩ : ∃ base, sOf ([32, 32] ++ nmJ ns ns.length) = base := ⟨_, rfl⟩
            rw [hbase] at hzl ⊢
            have HBS : Hid (sOf ([32, 32] ++ nmJ ns ns.length) = base) := hbase
            clear hbase
            go_upto_if 133 with fail
            go_cut [10] (fun x wc => ∃ line : ByteArray, x = .string line ∧ line.size ≤ 1000000000003 ∧ Hid (line.toList = [32, 32] ++ nmTx ns) ∧ wc = wj)
            case first =>
             by_cases hn1 : 1 < ns.length
             ·have hn1' : (1 : Int) < (ns.length : Int) := by omega
              have ha1 : ∀ W : World, (Op.stringOp .add base ⟨#[41]⟩).run Tryz.prog W = .ok (.string (base ++ ⟨#[41]⟩)) W := fun W => run_string_add_sum W _ _ (by show base.size + 1 ≤ _; omega)
              go_wp2
              go_meet
              case rel => exact ⟨_, rfl, by rw [ByteArray.size_append]; show base.size + 1 ≤ _; omega, (show _ = _ from by rw [list_app, ← HBS.out, sOf_list, nmTx, if_pos hn1, show (⟨#[41]⟩ : ByteArray).toList = [41] from by rw [ByteArray.toList_eq]]; simp), rfl⟩
             ·have hn1' : ¬ ((1 : Int) < (ns.length : Int)) := by omega
              go_wp2
              go_meet
              case rel => exact ⟨_, rfl, by omega, (show _ = _ from by rw [← HBS.out, sOf_list, nmTx, if_neg hn1]; simp), rfl⟩
            case rest =>
             clear HBS hzl
             obtain ⟨line, rfl, hzl, HLN, hwc⟩ := hcut
             have hwc' := hwc.symm
             subst hwc'
             go_step
             go_upto_block 6 with fail
             go_cut [10] (fun x wc => ∃ (line : ByteArray) (bad2 : Bool), x = .string line ∧ line.size ≤ 1100000000000 ∧ Hid (RwK w.heap.size w.heap.size w wc) ∧ Hid (wc.heap[w.heap.size]? = some (rwObj n2 bad2 false)) ∧ Hid (wc.heap[wq.heap.size]? = some (ndObj name (.slice o1 ins.length c1') (.slice o2 outs.length c2) (.slice o3 owns.length c3) (.slice (some ⟨p4, f4, none⟩) qs.length c4))) ∧ Hid (wc.heap[wk.heap.size]? = some (eqObj kind (.slice no ns.length nc) op nx s (.slice eo es'.length ec))) ∧ Hid (bad2 = false ↔ LineOk kind ns) ∧ Hid (LineOk kind ns → line.toList = lnTx kind ns))
             case first =>
              have hkz : kind.size ≤ 9000000 := HEB.out.kind
              by_cases hk1 : kind.toList = [115, 101, 116]
              ·have HK1 : Hid (kind.toList = [115, 101, 116]) := hk1
               have ha1 : ∀ W : World, (Op.stringOp .add line ⟨#[32, 61, 32]⟩).run Tryz.prog W = .ok (.string (line ++ ⟨#[32, 61, 32]⟩)) W := fun W => run_string_add_sum W _ _ (by show line.size + 3 ≤ _; omega)
               go_wp2_with fail
               refine (must_k w.heap.size w.heap.size n2 badj (decide (0 < ns.length)) _ RJ.out (Nat.le_refl _)).mono ?_
               rintro e wm ⟨rfl, km, rm⟩
               go_wp2
               go_meet
               case rel => exact ⟨_, _, rfl, by rw [ByteArray.size_append]; show line.size + 3 ≤ _; omega, KJ.out.trans km, rm, km.nd (by omega) NJ.out, km.eq (by omega) EJ.out, line_set HK1.out HJ.out, (fun _ => by rw [list_app, HLN.out, lnTx, if_pos HK1.out, show (⟨#[32, 61, 32]⟩ : ByteArray).toList = [32, 61, 32] from by rw [ByteArray.toList_eq]])⟩
              ·have hk1' : (kind.toList == [115, 101, 116]) = false := beq_eq_false_iff_ne.2 hk1
               have HK1 : Hid (¬ kind.toList = [115, 101, 116]) := hk1
               clear hk1
               by_cases hk2 : kind.toList = [97, 115, 115, 101, 114, 116] ∨ kind.toList = [99, 104, 101, 99, 107]
               ·have HK2 : Hid (kind.toList = [97, 115, 115, 101, 114, 116] ∨ kind.toList = [99, 104, 101, 99, 107]) := hk2
                have ha1 : ∀ W : World, (Op.stringOp .add line kind).run Tryz.prog W = .ok (.string (line ++ kind)) W := fun W => run_string_add_sum W _ _ (by omega)
                have ha2 : ∀ W : World, (Op.stringOp .add (line ++ kind) ⟨#[32]⟩).run Tryz.prog W = .ok (.string (line ++ kind ++ ⟨#[32]⟩)) W := fun W => run_string_add_sum W _ _ (by rw [ByteArray.size_append]; show line.size + kind.size + 1 ≤ _; omega)
                have hfin : ∀ {wm : World}, Hid (RwK w.heap.size w.heap.size wj wm) → Hid (wm.heap[w.heap.size]? = some (rwObj n2 (badj || !decide ((ns.length : Int) = 0)) false)) → ∃ (line' : ByteArray) (bad2 : Bool), Value.string (line ++ kind ++ ⟨#[32]⟩) = .string line' ∧ line'.size ≤ 1100000000000 ∧ Hid (RwK w.heap.size w.heap.size w wm) ∧ Hid (wm.heap[w.heap.size]? = some (rwObj n2 bad2 false)) ∧ Hid (wm.heap[wq.heap.size]? = some (ndObj name (.slice o1 ins.length c1') (.slice o2 outs.length c2) (.slice o3 owns.length c3) (.slice (some ⟨p4, f4, none⟩) qs.length c4))) ∧ Hid (wm.heap[wk.heap.size]? = some (eqObj kind (.slice no ns.length nc) op nx s (.slice eo es'.length ec))) ∧ Hid (bad2 = false ↔ LineOk kind ns) ∧ Hid (LineOk kind ns → line'.toList = lnTx kind ns) := fun km rm => ⟨_, _, rfl, by rw [ByteArray.size_append, ByteArray.size_append]; show line.size + kind.size + 1 ≤ _; omega, KJ.out.trans km.out, rm, km.out.nd (by omega) NJ.out, km.out.eq (by omega) EJ.out, line_chk HK2.out HJ.out, (fun _ => by rw [list_app, list_app, HLN.out, lnTx, if_neg HK1.out, show (⟨#[32]⟩ : ByteArray).toList = [32] from by rw [ByteArray.toList_eq]]; simp)⟩
                rcases hk2 with hk2 | hk2
                ·have hk3 : (kind.toList == [97, 115, 115, 101, 114, 116]) = true := by rw [hk2]; decide
                 clear hk2
                 go_wp2_with fail
                 refine (must_k w.heap.size w.heap.size n2 badj (decide ((ns.length : Int) = 0)) _ RJ.out (Nat.le_refl _)).mono ?_
                 rintro e wm ⟨rfl, km, rm⟩
                 obtain ⟨u0, u1, u2, u3, u4, u5, _⟩ := blk6 (km.eq (by omega) EJ.out)
                 go_wp2
                 go_meet
                 case rel => exact hfin km rm
                ·have hk3 : (kind.toList == [97, 115, 115, 101, 114, 116]) = false := by rw [hk2]; decide
                 have hk4 : (kind.toList == [99, 104, 101, 99, 107]) = true := by rw [hk2]; decide
                 clear hk2
                 go_wp2_with fail
                 refine (must_k w.heap.size w.heap.size n2 badj (decide ((ns.length : Int) = 0)) _ RJ.out (Nat.le_refl _)).mono ?_
                 rintro e wm ⟨rfl, km, rm⟩
                 obtain ⟨u0, u1, u2, u3, u4, u5, _⟩ := blk6 (km.eq (by omega) EJ.out)
                 go_wp2
                 go_meet
                 case rel => exact hfin km rm
               ·have hk3 : (kind.toList == [97, 115, 115, 101, 114, 116]) = false := beq_eq_false_iff_ne.2 fun h => hk2 (Or.inl h)
                have hk4 : (kind.toList == [99, 104, 101, 99, 107]) = false := beq_eq_false_iff_ne.2 fun h => hk2 (Or.inr h)
                have HK2 : Hid (¬ (kind.toList = [97, 115, 115, 101, 114, 116] ∨ kind.toList = [99, 104, 101, 99, 107])) := hk2
                clear hk2
                go_wp2_with fail
                refine (must_k w.heap.size w.heap.size n2 badj false _ RJ.out (Nat.le_refl _)).mono ?_
                rintro e wm ⟨rfl, km, rm⟩
                go_wp2
                go_meet
                case rel => exact ⟨_, _, rfl, by omega, KJ.out.trans km, rm, km.nd (by omega) NJ.out, km.eq (by omega) EJ.out, line_none HK1.out HK2.out, (fun h => absurd h (no_line HK1.out HK2.out))⟩
             case rest =>
              clear KJ RJ NJ EJ HJ HLN hzl u0 u1 u2 u3 u4 u5
              obtain ⟨line, bad2, rfl, hzl, K9, R9, N9, E9, HL1, HL2⟩ := hcut
              rename World => w9
              obtain ⟨u0, u1, u2, u3, u4, u5, _⟩ := blk6 E9.out
              have h4 : tx2.size ≤ 4000000000000 := (AK.out.good rfl).2
              have HG : Hid (∃ m : Nat, n2 = m ∧ m ≤ 6000) := by obtain ⟨⟨m, hm, hp⟩, _⟩ := AK.out.good rfl; exact ⟨m, hm, hp.room⟩
              have HTM : Hid (RwTerm w.heap.size w.heap.size op nx s es' 0 0) := rwTerm_all w.heap.size w.heap.size (Nat.le_refl _) (SizeOf.sizeOf es' + 1) op nx s es' (by omega) HEB.out.term 0 0 (Or.inl ⟨rfl, rfl⟩)
              have ha1 : ∀ W : World, (Op.stringOp .add tx2 line).run Tryz.prog W = .ok (.string (tx2 ++ line)) W := fun W => run_string_add_sum W _ _ (by omega)
              go_wp2_with fail
              refine (HTM.out _ 0 eo ec us n2 bad2 R9.out (below_row HRT.out.1 K9.out.1) (below_ex HRT.out.2 K9.out.1) (fun _ => ⟨by omega, HG.out⟩)).mono ?_
              rintro e wt ⟨tx, n3, bad3, rfl, kt, rt, hres⟩
              have hzx := hres.size (fun _ => HG.out)
              have HRS : Hid (RwRes 0 (.mk op nx s es') 0 n2 bad2 tx n3 bad3) := hres
              clear hres
              have ha2 : ∀ W : World, (Op.stringOp .add (tx2 ++ line) tx).run Tryz.prog W = .ok (.string (tx2 ++ line ++ tx)) W := fun W => run_string_add_sum W _ _ (by rw [ByteArray.size_append]; omega)
              have ha3 : ∀ W : World, (Op.stringOp .add (tx2 ++ line ++ tx) ⟨#[59, 10]⟩).run Tryz.prog W = .ok (.string (tx2 ++ line ++ tx ++ ⟨#[59, 10]⟩)) W := fun W => run_string_add_sum W _ _ (by rw [ByteArray.size_append, ByteArray.size_append]; show tx2.size + line.size + tx.size + 2 ≤ _; omega)
              go_wp2_with fail
              refine (must_k w.heap.size w.heap.size n3 bad3 (decide ((tx2.size : Int) + line.size + tx.size + 2 ≤ 6000)) _ rt (Nat.le_refl _)).mono ?_
              rintro e wm ⟨rfl, km, rm⟩
              go_wp2
              exact ⟨⟨k + 1, _, _, _, by omega, by go_num, rfl, (K9.out.trans kt).trans km, rm, (kt.trans km).nd (by omega) N9.out, AK.out.next hlt HE.out hlk HQ.out HL1.out HL2.out HRS.out rfl hzl hzx⟩, by simp [intOf]; omega⟩
        ·obtain rfl : k = qs.length := by omega
         go_wp2_with fail
         refine (must_k w.heap.size w.heap.size n2 bad (decide ((tx2.size : Int) + 4 ≤ 6000)) _ RK.out (Nat.le_refl _)).mono ?_
         rintro e w9 ⟨rfl, k9, r9⟩
         go_wp2
         exact ⟨⟨i + 1, _, _, _, by omega, by go_num, rfl, KK.out.trans k9, r9, AK.out.done hlt HE.out (Or.inr rfl)⟩, by simp [intOf]; omega⟩
  ·obtain rfl : i = es.length := by omega
   cases bad with
   | true =>
    go_wp2
    go_ret2
    exact ⟨KR.out.1, Or.inr ⟨by simp, (AR.out.done (Or.inl rfl)).1 rfl⟩⟩
   | false =>
    go_wp2
    go_ret2
    exact ⟨KR.out.1, Or.inl ⟨text, by simp, (AR.out.done (Or.inr rfl)).2 rfl⟩⟩
end Go.Proofs.YtgbpccipdcajgaaGreatDoor
