/-
  package word: divide BY CONTRACT.
-/
import Derived.Test.YtpiglmaojonbnaaGreatDoorP22
namespace Go.Proofs.YtpiglmaojonbnaaGreatDoor
open Go.RowKit Go.Maps

/-- What divide's rounds keep. -/
def DvR (G : Nat) (gs : List (Int × Int)) (ins : Nat) (F : Nat → Prop) (w : World) (a b : List Int) (d : Nat) (rv : Value) (wr : World) : Prop :=
  ∃ (o : Option Addr) (n c : Nat) (rs ws : List Int) (gj : List (Int × Int)) (Fj : Nat → Prop), rv = .slice o n c ∧ RestAt wr o n c rs ∧ (∀ V, o = some ⟨V, 0, none⟩ → w.heap.size + 1 < V ∧ V < wr.heap.size ∧ ¬ Fj V) ∧ n ≤ d ∧ rs.length = n ∧
    wr.cell? ⟨w.heap.size, 0, none⟩ = some (.pointer (some ⟨G, 0, none⟩)) ∧ ¬ Fj w.heap.size ∧ wr.heap[w.heap.size + 1]? = some (.cells (rowI (List.replicate (8 - d) 0 ++ ws)) 39 (0, 0)) ∧ ¬ Fj (w.heap.size + 1) ∧ ws.length = d ∧
    GrAt G gj ins Fj wr ∧ Mvd F Fj w wr ∧ DivOk gs gj d a b ws rs

theorem sum_len {G : Nat} {gs : List (Int × Int)} {ins : Nat} {F : Nat → Prop} {w : World} (h : GrAt G gs ins F w) (va vb : Value) (a b : List Int) (m : Nat) (hm : a.length = m) (hva : LitsAt F w va a) (hvb : LitsAt F w vb b) (hab : b.length = m) (ha : ∀ x ∈ a, HasL gs x) (hb : ∀ x ∈ b, HasL gs x) (c : Int) (hc : HasL gs c) (hl : gs.length + 9 * m < 88000) :
    Calls Tryz.prog 39 #[.agg #[.pointer (some ⟨G, 0, none⟩)], va, vb, .int .i64 c] w fun e w' => ∃ V out c' gs' F', e = .returned (.tuple #[.slice (some ⟨V, 0, none⟩) m m, .int .i64 c']) ∧ out.length = m ∧ w.heap.size ≤ V ∧ LitsAt F' w' (.slice (some ⟨V, 0, none⟩) m m) out ∧ GrAt G gs' ins F' w' ∧ Mvd F F' w w' ∧ Mads gs gs' (9 * m) out (fun inp => smB (bitsL gs inp a) (bitsL gs inp b) (valL gs inp c)) ∧ HasL gs' c' ∧ ∀ inp, valL gs' inp c' = cry (bitsL gs inp a) (bitsL gs inp b) (valL gs inp c) m := by
  have h1 := hva.1
  subst hm
  refine (sum_any h va vb a b hva hvb hab ha hb c hc hl).mono fun e w' ⟨V, out, c', gs', F', h1, h2, h3, h4, h5, h6, h7, h8, h9, h10⟩ => ⟨V, out, c', gs', F', h1, h2, h3, ?_, h6, h7, h8, h9, h10⟩
  have := lits_row (F := F') (c := a.length) h4 h5 (by omega)
  rw [h2] at this
  exact this
theorem row_back {w : World} {V i k : Nat} {ws : List Int} {t : TypeId} (hV : w.heap[V]? = some (.cells (rowI (List.replicate k 0 ++ ws)) t (0, 0))) (hk : k = i + 1) (z : Int) :
    w.cell? ⟨V, i, none⟩ = some (.int .i64 0) ∧ (w.setCell ⟨V, i, none⟩ (.int .i64 z)).heap[V]? = some (.cells (rowI (List.replicate i 0 ++ z :: ws)) t (0, 0)) := by
  subst hk
  have e1 : (List.replicate (i + 1) (0 : Int) ++ ws)[i]? = some 0 := by rw [List.getElem?_append_left (by simp), List.getElem?_replicate, if_pos (by omega)]
  have e2 : (List.replicate (i + 1) (0 : Int) ++ ws).set i z = List.replicate i 0 ++ z :: ws := by
    rw [List.replicate_succ', List.append_assoc, List.set_append_right _ _ (by simp)]
    simp
  exact ⟨by rw [cell_of_row w V _ _ t (0, 0) hV]; exact rowI_get e1, by rw [heap_setCell_at hV, rowI_set, e2]⟩
theorem DivOk.pad {gs gj : List (Int × Int)} {a b ws rs : List Int} {n : Nat} (h : DivOk gs gj 8 a b ws rs) (hn : rs.length = n) (h8 : n ≤ 8) : DivOk gs gj 8 a b ws (rs ++ List.replicate (8 - n) 0) := by
  refine ⟨h.ext, h.len, h.hw, fun x hx => ?_, fun inp hB => ?_⟩
  · rcases List.mem_append.1 hx with e | e
    · exact h.hr x e
    · rw [List.eq_of_mem_replicate e]; exact HasL.zero _
  · have hl : (rs ++ List.replicate (8 - n) (0 : Int)).length = 8 := by simp; omega
    have e1 : natF (bitsL gj inp (rs ++ List.replicate (8 - n) 0)) 8 = natF (bitsL gj inp (rs ++ List.replicate (8 - n) 0)) n := natF_zeros _ h8 fun j hj hj8 => by
      have : (rs ++ List.replicate (8 - n) (0 : Int))[j]? = some 0 := by rw [List.getElem?_append_right (by omega), List.getElem?_replicate, if_pos (by omega)]
      rw [bitsL_get this, val_zero]
    have e2 : natF (bitsL gj inp (rs ++ List.replicate (8 - n) 0)) n = natF (bitsL gj inp rs) n := natF_congr fun j hj => by
      have q1 : rs[j]? = some rs[j] := List.getElem?_eq_getElem (by omega)
      have q2 : (rs ++ List.replicate (8 - n) (0 : Int))[j]? = some rs[j] := by rw [List.getElem?_append_left (by omega)]; exact q1
      rw [bitsL_get q1, bitsL_get q2]
    have := h.is inp hB
    rw [hn] at this
    rw [hl, e1, e2]
    exact this
theorem RestAt.below {w w' : World} {o : Option Addr} {n c : Nat} {l : List Int} (h : RestAt w o n c l) (hb : Below w.heap.size w w') : RestAt w' o n c l := by
  rcases h with h | ⟨V, r, h1, h2, h3⟩
  · exact .inl h
  · exact .inr ⟨V, r, h1, row_keep hb h2, h3⟩
set_option maxRecDepth 100000 in
set_option maxHeartbeats 1000000 in
theorem divide_any {G : Nat} {gs : List (Int × Int)} {ins : Nat} {F : Nat → Prop} {w : World} (h : GrAt G gs ins F w) (Va Vb : Nat) (a b : List Int) (hva : LitsAt F w (.slice (some ⟨Va, 0, none⟩) 8 8) a) (hvb : LitsAt F w (.slice (some ⟨Vb, 0, none⟩) 8 8) b) (ha8 : a.length = 8) (hb8 : b.length = 8) (ha : ∀ x ∈ a, HasL gs x) (hb : ∀ x ∈ b, HasL gs x) (hl : gs.length + 880 < 80000) :
    Calls Tryz.prog 61 #[.agg #[.pointer (some ⟨G, 0, none⟩)], .slice (some ⟨Va, 0, none⟩) 8 8, .slice (some ⟨Vb, 0, none⟩) 8 8] w fun e w' => ∃ V1 o2 c2 q rs gs' F', e = .returned (.tuple #[.slice (some ⟨V1, 0, none⟩) 8 8, .slice o2 8 c2]) ∧ q.length = 8 ∧ rs.length = 8 ∧ LitsAt F' w' (.slice (some ⟨V1, 0, none⟩) 8 8) q ∧ LitsAt F' w' (.slice o2 8 c2) rs ∧ GrAt G gs' ins F' w' ∧ Mvd F F' w w' ∧ DivOk gs gs' 8 a b q rs := by
  obtain ⟨i0, hi0, hz0, hz1, hz2⟩ := info_parts Tryz.infoLit
  have HVA : Hid (LitsAt F w (.slice (some ⟨Va, 0, none⟩) 8 8) a) := hva
  have HVB : Hid (LitsAt F w (.slice (some ⟨Vb, 0, none⟩) 8 8) b) := hvb
  have HA8 : Hid (a.length = 8) := ha8
  have HB8 : Hid (b.length = 8) := hb8
  have HBY : Hid (i0.bytes * 8 ≤ 281474976710656) := by unfold Hid; rw [hz2]; omega
  have HMX : Hid (8 ≤ maxLen) := by unfold Hid maxLen; omega
  have HL : Hid (gs.length + 880 < 80000) := hl
  have HA : Hid (∀ x ∈ a, HasL gs x) := ha
  have HB : Hid (∀ x ∈ b, HasL gs x) := hb
  have hF := h.2.2.1
  have HF0 : Hid (¬ F w.heap.size) := fun hf => by have := hF _ hf; omega
  have HF1 : Hid (¬ F (w.heap.size + 1)) := fun hf => by have := hF _ hf; omega
  have hb1 : Below w.heap.size w (w.alloc (.cells #[.pointer (some ⟨G, 0, none⟩)] 60)) := (Below.refl _ _).alloc (Nat.le_refl _) _
  have HBW : Hid (Below w.heap.size w (w.alloc (.cells #[.pointer (some ⟨G, 0, none⟩)] 60))) := hb1
  have HRM : Hid ((w.alloc (.cells #[.pointer (some ⟨G, 0, none⟩)] 60)).heap[w.heap.size]? = some (.cells #[.pointer (some ⟨G, 0, none⟩)] 60 (0, 0))) := heap_alloc_new _ _
  have HG : Hid (GrAt G gs ins F w) := h
  have HS0 : Hid ((w.alloc (.cells #[.pointer (some ⟨G, 0, none⟩)] 60)).heap.size = w.heap.size + 1) := by unfold Hid; simp
  clear hl ha hb hF hb1 h hva hvb ha8 hb8
  go_enter Tryz.func61, Tryz.ntmps61
  go_wp2_with (first
    | (at_make; refine wpList_make_full _ rfl _ _ 38 rfl 0 39 i0 _ 1 Tryz.underlying38 hi0 hz0 hz1 .i64 .i64 _ _ 8 rfl rfl (by simp) (by simp) HBY.out HMX.out (Nat.zero_le _) ?_; intro w1 hown1 hgr1; have hV1 := made_lits hown1; rw [HS0.out, rowP_zero] at hV1; have hb2 : Below (w.heap.size + 1) (w.alloc (.cells #[.pointer (some ⟨G, 0, none⟩)] 60)) w1 := ⟨hgr1.os, hgr1.tape, hgr1.output, hgr1.size, fun k hk => hgr1.block k (by rw [HS0.out]; exact hk) (by simp)⟩; have HR1 : Hid (w1.heap[w.heap.size + 1]? = some (.cells (rowI (List.replicate 8 0)) 39 (0, 0))) := hV1; have HB1 : Hid (Below w.heap.size w w1) := HBW.out.trans (hb2.mono (by omega)); have HM1 : Hid (w1.cell? ⟨w.heap.size, 0, none⟩ = some (.pointer (some ⟨G, 0, none⟩))) := (by unfold Hid; rw [cell_of_row w1 _ 0 _ _ (0, 0) (by rw [hb2.block _ (by omega)]; exact HRM.out)]; rfl); clear hown1 hgr1 hV1 hi0 hz0 hz1 hz2 HBY HMX hb2 HBW HRM HS0)
    | (go_at_call 79; fail))
  refine (width_any (F := F) _ 8 8 b (HVB.out.move (Mvd.of_below HB1.out)) HB8.out).mono ?_
  rintro e w2 ⟨⟨most, rfl, hmost, hzero⟩, rfl⟩
  have HMO : Hid (most ≤ 8) := hmost
  have HZE : Hid (∀ k x, most ≤ k → b[k]? = some x → x = 0) := hzero
  clear hmost hzero
  go_wp2
  go_loopw [7, 9] (fun rv tv wr => ∃ d : Nat, d ≤ 8 ∧ tv = .int .i64 (7 - (d : Int)) ∧ DvR G gs ins F w a b d rv wr) (fun _ tv _ => (intOf tv + 1).toNat)
  case atStart =>
    refine ⟨0, Nat.zero_le _, rfl, none, 0, 0, [], [], gs, F, rfl, .inl ⟨rfl, rfl, rfl, rfl⟩, (fun V hV => by cases hV), Nat.le_refl _, rfl, HM1.out, HF0.out, ?_, HF1.out, rfl, HG.out.below HB1.out, Mvd.of_below HB1.out, Ext.refl _, by omega, by simp, by simp, fun inp hB => ⟨by simp [natF], ?_⟩⟩
    · simpa using HR1.out
    · have := (natF_lt (bitsL gs inp b) 8).1
      show (0 : Int) < natF (bitsL gs inp b) 8
      omega
  case round =>
    obtain ⟨d, hd, rfl, hR⟩ := hrel
    by_cases hdl : d < 8
    · obtain ⟨o, n, c, rs, ws, gj, Fj, rfl, hrest, ho, hnd, hrs, hcM, hnM, hrV, hnV, hws, hG, hM, hD⟩ := hR
      obtain ⟨i, hi⟩ : ∃ i : Nat, i + d = 7 := ⟨7 - d, by omega⟩
      have ei : (7 : Int) - (d : Int) = (i : Int) := by omega
      rw [ei]
      obtain ⟨x, hx⟩ : ∃ x, a[i]? = some x := ⟨_, List.getElem?_eq_getElem (by have := HA8.out; omega)⟩
      obtain ⟨ba, fa, eba, hbl, hmv⟩ := HVA.out.at hx
      obtain ⟨rfl, rfl⟩ : Va = ba ∧ 0 = fa := by simpa using eba
      obtain ⟨hna, hcx⟩ := hmv _ _ hM
      rw [Nat.zero_add] at hcx
      have i0' : (0 : Int) ≤ (i : Int) := by omega
      have i1' : (i : Int) < 8 := by omega
      have hsz : w.heap.size + 1 < wr.heap.size := (Array.getElem?_eq_some_iff.1 hrV).1
      have hbal : Below wr.heap.size wr (wr.alloc (.cells #[.int .i64 x] 39)) := (Below.refl _ _).alloc (Nat.le_refl _) _
      obtain ⟨m, hm⟩ : ∃ m, n + 1 = m := ⟨_, rfl⟩
      have hm8 : m ≤ 8 := by omega
      have HINS : Hid (Calls Tryz.prog 80 #[.slice o n c, .int .i64 0, .slice (some ⟨wr.heap.size, 0, none⟩) 1 1] (wr.alloc (.cells #[.int .i64 x] 39)) fun e w2 => ∃ V c, e = .returned (.slice (some ⟨V, 0, none⟩) m c) ∧ LitsAt Fj w2 (.slice (some ⟨V, 0, none⟩) m c) (x :: rs) ∧ GrAt G gj ins Fj w2 ∧ Mvd F Fj w w2 ∧ (∀ k, k ≤ w.heap.size + 1 → w2.heap[k]? = wr.heap[k]?) ∧ w.heap.size + 1 < V) := by
        rw [← hm]
        exact (insert_any x wr.heap.size n c o rs _ (hrest.below hbal) (heap_alloc_new _ _) (fun e => by have := (ho _ e).2.1; omega)).mono fun e w2 hp => ins_after hG hM hrs (by omega) ho hsz _ hp
      have HII : Hid (i + d = 7) := hi
      have HX : Hid (a[i]? = some x) := hx
      have HND : Hid (n ≤ d ∧ m ≤ 8 ∧ d < 8) := ⟨hnd, hm8, hdl⟩
      have HNM : Hid (n + 1 = m) := hm
      have HXM : Hid ((x :: rs).length = m) := by unfold Hid; rw [List.length_cons, hrs, hm]
      have s0 : (0 : Int) ≤ (m : Int) := by omega
      have s1 : (m : Int) ≤ 8 := by omega
      have HLJ : Hid (gj.length ≤ gs.length + 110 * d) := hD.len
      have HXR : Hid (∀ y ∈ x :: rs, HasL gj y) := fun y hy => by
        rcases List.mem_cons.1 hy with e | e
        · rw [e]; exact (HA.out x (List.mem_of_getElem? hx)).ext hD.ext
        · exact hD.hr y e
      have HTL : Hid ((b.take m).length = m) := by unfold Hid; rw [List.length_take, HB8.out]; omega
      have HTM : Hid (((b.take m).map turnL).length = m) := by unfold Hid; rw [List.length_map, List.length_take, HB8.out]; omega
      have HBJ : Hid (∀ y ∈ b, HasL gj y) := fun y hy => (HB.out y hy).ext hD.ext
      have HLG : Hid (gj.length + 110 < 80000) := by have := hD.len; have := HL.out; unfold Hid; omega
      have HRS : Hid (rs.length = n) := hrs
      have HWS : Hid (ws.length = d) := hws
      have HD : Hid (DivOk gs gj d a b ws rs) := hD
      have HnM : Hid (¬ Fj w.heap.size) := hnM
      have HnV : Hid (¬ Fj (w.heap.size + 1)) := hnV
      have HcM : Hid (wr.cell? ⟨w.heap.size, 0, none⟩ = some (.pointer (some ⟨G, 0, none⟩))) := hcM
      have HrV : Hid (wr.heap[w.heap.size + 1]? = some (.cells (rowI (List.replicate (8 - d) 0 ++ ws)) 39 (0, 0))) := hrV
      clear hm hm8 hd hrest ho hnd hrs hcM hnM hrV hnV hws hG hM hD hdl hi ei hx eba hbl hmv hna hsz hbal
      go_wp2_with (go_at_call 80; fail)
      refine HINS.out.mono ?_
      rintro e w2 ⟨V, cV, rfl, hLV, hG2, hM2, hk2, hVgt⟩
      have HVG : Hid (w.heap.size + 1 < V) := hVgt
      clear hVgt
      have hcM2 : w2.cell? ⟨w.heap.size, 0, none⟩ = some (.pointer (some ⟨G, 0, none⟩)) := by
        have e := HcM.out
        simp only [World.cell?] at e ⊢
        rw [hk2 _ (by simp)]; exact e
      have HrV2 : Hid (w2.heap[w.heap.size + 1]? = some (.cells (rowI (List.replicate (8 - d) 0 ++ ws)) 39 (0, 0))) := by unfold Hid; rw [hk2 _ (Nat.le_refl _)]; exact HrV.out
      have HLV : Hid (LitsAt Fj w2 (.slice (some ⟨V, 0, none⟩) m cV) (x :: rs)) := hLV
      have HG2 : Hid (GrAt G gj ins Fj w2) := hG2
      have HM2 : Hid (Mvd F Fj w w2) := hM2
      have HLB : Hid (LitsAt Fj w2 (.slice (some ⟨Vb, 0, none⟩) 8 8) b) := HVB.out.move hM2
      clear hk2 hLV hG2 hM2 HINS HcM HrV hcx
      go_wp2
      go_region_held3 (fun w' => w'.cell? ⟨w.heap.size, 0, none⟩ = some (.pointer (some ⟨G, 0, none⟩))) ((first | go_keep | exact r0.1 | exact q0))
        (first
          | (go_at_call 40; refine (turned_len (F := Fj) _ (b.take m) m HTL.out (by exact lits_take HLB.out HB8.out HND.out.2.1) (fun y hy => (HBJ.out y (List.mem_of_mem_take hy)).i64 (by have := HLG.out; omega)) (by exact HG2.out.2.2.1)).mono ?_; rintro e w3 ⟨T, rfl, hT, hbT⟩; have q0 := cell_keep hbT (by exact hcM2); have G3 : GrAt G gj ins Fj w3 := GrAt.below (by exact HG2.out) hbT; have M3 : Mvd Fj Fj w2 w3 := (Mvd.of_below hbT).undrew)
          | (go_at_call 39; refine (sum_len (by assumption) _ _ (x :: rs) ((b.take m).map turnL) m HXM.out (HLV.out.move (by assumption)) (by assumption) HTM.out HXR.out (fun y hy => by obtain ⟨z, hz, rfl⟩ := List.mem_map.1 hy; exact (HBJ.out z (List.mem_of_mem_take hz)).turn) 1 (HasL.one _) (by have := HLG.out; have := HND.out; omega)).mono ?_; rintro e w4 ⟨L, lf, en, g4, F4, rfl, h1, hLge, h2, G4, M4, D4, E4, X4⟩; have r0 := M4.cell (by assumption) HnM.out))
      have M24 : Mvd Fj F4 w2 w4 := M3.trans M4
      have HG4 : Hid (GrAt G g4 ins F4 w4) := G4
      have HM4 : Hid (Mvd F F4 w w4) := HM2.out.trans M24
      have HLB4 : Hid (LitsAt F4 w4 (.slice (some ⟨Vb, 0, none⟩) 8 8) b) := HLB.out.move M24
      have HLV4 : Hid (LitsAt F4 w4 (.slice (some ⟨V, 0, none⟩) m cV) (x :: rs)) := HLV.out.move M24
      have HLF4 : Hid (LitsAt F4 w4 (.slice (some ⟨L, 0, none⟩) m m) lf) := h2
      have HrV4 : Hid (w4.heap[w.heap.size + 1]? = some (.cells (rowI (List.replicate (8 - d) 0 ++ ws)) 39 (0, 0)) ∧ ¬ F4 (w.heap.size + 1)) := M24.rowKept HrV2.out HnV.out
      have hcM4 := r0.1
      have HLG2 : Hid (w.heap.size + 1 < L) := by have e1 := M3.size; have e2 : w.heap.size + 1 < w2.heap.size := (Array.getElem?_eq_some_iff.1 HrV2.out).1; unfold Hid; omega
      clear hLge
      have HnM4 : Hid (¬ F4 w.heap.size) := r0.2
      have HLF : Hid (lf.length = m) := h1
      have HD4 : Hid (Mads gj g4 (9 * m) lf (fun inp => smB (bitsL gj inp (x :: rs)) (bitsL gj inp ((b.take m).map turnL)) (valL gj inp 1))) := D4
      have HE4 : Hid (HasL g4 en) := E4
      have HX4 : Hid (∀ inp, valL g4 inp en = cry (bitsL gj inp (x :: rs)) (bitsL gj inp ((b.take m).map turnL)) (valL gj inp 1) m) := X4
      have HB4 : Hid (∀ y ∈ b.drop m, HasL g4 y) := fun y hy => (HBJ.out y (List.mem_of_mem_drop hy)).ext D4.ext
      have HLG4 : Hid (g4.length + 38 < 80000) := by have := D4.len; have := HLG.out; have := HND.out; unfold Hid; omega
      have HDL : Hid ((b.drop m).length = 8 - m) := by unfold Hid; rw [List.length_drop, HB8.out]
      have NE : Hid (w.heap.size ≠ w.heap.size + 1) := by unfold Hid; omega
      have HSZ : Hid (8 - d = i + 1) := by have := HII.out; unfold Hid; omega
      rename_i hheld
      clear hheld M24 G4 M4 G3 M3 h2 h1 D4 E4 X4 r0 q0 hT hbT HG2 HLB HLV HrV2 HM2 HnM HnV hcM2
      obtain ⟨k, hk⟩ : ∃ k, k = min m most := ⟨_, rfl⟩
      have HK : Hid (k = min m most) := hk
      clear hk
      obtain rfl | hm8 : m = 8 ∨ ¬ (8 = m) := by omega
      all_goals
        go_wp2
        go_region_held3 (fun w' => w'.cell? ⟨w.heap.size, 0, none⟩ = some (.pointer (some ⟨G, 0, none⟩))) ((first | exact (cell_apart NE.out).trans z0.1 | exact z0.1 | exact y0.1 | go_keep))
          (first
            | (go_at_call 64; refine (many_any (by exact HG4.out) _ _ _ (b.drop _) (by exact lits_drop HLB4.out HB8.out (by first | rfl | omega) (by omega)) (by have := HDL.out; omega) HB4.out (by have := HLG4.out; omega)).mono ?_; rintro e w5 ⟨ay, g5, F5, rfl, G5, M5, D5⟩; have y0 := M5.cell (by exact hcM4) HnM4.out; have I5 : I64 ay := D5.has.i64 (by have := D5.len; have := HLG4.out; omega))
            | (go_at_call 60; refine (not_any _ _ (by assumption)).mono ?_; rintro e w' ⟨rfl, rfl⟩)
            | (go_at_call 36; refine (mand_any (by assumption) (by have := D5.len; have := HLG4.out; omega) _ _ (HE4.out.ext D5.ext) D5.has.turn).mono ?_; rintro e w6 ⟨z, g6, F6, rfl, G6, M6, D6⟩; have z0 := M6.cell y0.1 y0.2; have q3 := (M5.undrew.trans M6).rowKept HrV4.out.1 HrV4.out.2; have fV : w6.frozen? ⟨w.heap.size + 1, i, none⟩ = false := frozen_row q3.1; have cW := (row_back q3.1 HSZ.out 0).1))
        obtain ⟨w7, hw7⟩ : ∃ w7, w7 = w6.setCell ⟨w.heap.size + 1, i, none⟩ (.int .i64 z) := ⟨_, rfl⟩
        have M46 : Mvd F4 F6 w4 w6 := M5.undrew.trans M6
        have q4 : w7.heap[w.heap.size + 1]? = some (.cells (rowI (List.replicate i 0 ++ z :: ws)) 39 (0, 0)) := by rw [hw7]; exact (row_back q3.1 HSZ.out z).2
        have hcM7 : w7.cell? ⟨w.heap.size, 0, none⟩ = some (.pointer (some ⟨G, 0, none⟩)) := by rw [hw7, cell_apart NE.out]; exact z0.1
        have hcz : w7.cell? ⟨w.heap.size + 1, i, none⟩ = some (.int .i64 z) := by rw [cell_of_row w7 _ _ _ _ (0, 0) q4]; exact rowI_get (by rw [List.getElem?_append_right (by simp)]; simp)
        have HG7 : Hid (GrAt G g6 ins F6 w7) := by unfold Hid; rw [hw7]; exact G6.set q3.2 _ _
        have HM7 : Hid (Mvd F F6 w w7) := by unfold Hid; rw [hw7]; exact (HM4.out.trans M46).set (by omega) _
        have LV7 := (HLV4.out.move M46).set (V := w.heap.size + 1) (i := i) (.int .i64 z) (by have := HVG.out; omega)
        rw [← hw7] at LV7
        have LF7 := (HLF4.out.move M46).set (V := w.heap.size + 1) (i := i) (.int .i64 z) (by have := HLG2.out; omega)
        rw [← hw7] at LF7
        have HQ4 : Hid (w7.heap[w.heap.size + 1]? = some (.cells (rowI (List.replicate i 0 ++ z :: ws)) 39 (0, 0))) := q4
        have HNV7 : Hid (¬ F6 (w.heap.size + 1)) := q3.2
        have HNM7 : Hid (¬ F6 w.heap.size) := z0.2
        have HD6 : Hid (Mad g5 g6 1 z (fun inp => valL g5 inp en && valL g5 inp (turnL ay))) := D6
        have HZ6 : Hid (HasL g6 z) := D6.has
        have HLF6 : Hid (∀ y ∈ lf, HasL g6 y) := fun y hy => (HD4.out.has y hy).ext (D5.ext.trans D6.ext)
        have HXR6 : Hid (∀ y ∈ x :: rs, HasL g6 y) := fun y hy => (HXR.out y hy).ext (HD4.out.ext.trans (D5.ext.trans D6.ext))
        have HLG6 : Hid (g6.length + 24 < 80000) := by have := D5.len; have := D6.len; have := HLG4.out; unfold Hid; omega
        rw [← hw7]
        have hs7 : w.heap.size + 1 < w7.heap.size := (Array.getElem?_eq_some_iff.1 q4).1
        have HS7 : Hid (w.heap.size + 1 < w7.heap.size) := hs7
        clear hs7
        have k0' : (0 : Int) ≤ (k : Int) := by omega
        have HKK : Hid (k ≤ d + 1) := by have := HK.out; have := HND.out; have := HNM.out; unfold Hid; omega
        first
          | (have mk : min (8 : Int) (most : Int) = (k : Int) := (by have := HK.out; omega); have k1' : (k : Int) ≤ 8 := (by have := HK.out; omega))
          | (have mk : min (m : Int) (most : Int) = (k : Int) := (by have := HK.out; omega); have k1' : (k : Int) ≤ (m : Int) := (by have := HK.out; omega))
        rename_i hheld
        clear hheld hw7 M46 q4 q3 z0 y0 fV cW G6 M6 G5 M5 D6 I5 HG4 HM4 HLB4 HLV4 HLF4 HrV4 hcM4 HnM4
        go_wp2
        go_region_held3 (fun w' => w'.cell? ⟨w.heap.size, 0, none⟩ = some (.pointer (some ⟨G, 0, none⟩)) ∧ w'.cell? ⟨w.heap.size + 1, i, none⟩ = some (.int .i64 z)) ((first | exact ⟨t0.1, t1.1⟩ | go_keep))
          (first | (go_at_call 37; refine (choice_any (by exact HG7.out) z HZ6.out _ _ _ _ _ _ lf (x :: rs) (by exact LF7) (by exact LV7) HLF.out HXM.out (Nat.le_refl _) HLF6.out HXR6.out (by have := HLG6.out; have := HND.out; omega)).mono ?_; rintro e w8 ⟨C, out, g8, F8, rfl, c1, c2, c3, c4, G8, M8, D8⟩; have t0 := M8.cell (by exact hcM7) HNM7.out; have t1 := M8.cell (by exact hcz) HNV7.out))
        all_goals
          go_wp2
          refine ⟨⟨d + 1, by have := HND.out; omega, by (congr 1; have := HII.out; omega), some ⟨C, 0, none⟩, k, _, out.take k, z :: ws, g8, F8, rfl, .inr ⟨C, out, rfl, c3, c1, by have := HNM.out; omega, by have := HND.out; omega, by have := HK.out; omega, rfl⟩, fun V' hV' => ?_, HKK.out, by rw [List.length_take, c1]; have := HK.out; omega, t0.1, t0.2, ?_, ?_, by rw [List.length_cons, HWS.out], G8, HM7.out.trans M8.undrew, divOk_step HD.out HII.out HX.out HRS.out HNM.out HND.out.2.1 HMO.out HZE.out HB8.out HA.out HB.out HLF.out HD4.out HE4.out HX4.out D5 HD6.out c1 D8 HK.out⟩, by have := HII.out; simp [intOf] <;> omega⟩
          · obtain rfl : C = V' := by simpa using hV'
            have c2' : w7.heap.size ≤ C := c2
            exact ⟨by have := HS7.out; omega, (Array.getElem?_eq_some_iff.1 c3).1, c4⟩
          · rw [show 8 - (d + 1) = i by have := HII.out; omega]
            exact (M8.undrew.rowKept HQ4.out HNV7.out).1
          · exact (M8.undrew.rowKept HQ4.out HNV7.out).2
    · obtain rfl : d = 8 := by omega
      obtain ⟨o, n, c, rs, ws, gj, Fj, rfl, hrest, ho, hnd, hrs, hcM, hnM, hrV, hnV, hws, hG, hM, hD⟩ := hR
      obtain ⟨P, c2, wP, hrun, hP1, hP2, hP3⟩ := pad_any hrest hrs hnd
      have hF := hG.2.2.1
      have hsz : w.heap.size + 1 < wr.heap.size := (Array.getElem?_eq_some_iff.1 hrV).1
      have hnP : ¬ Fj P := by
        rcases hP1 with e | e
        · intro hf; have := hF _ hf; omega
        · exact (ho P e).2.2
      have hlen : (rs ++ List.replicate (8 - n) (0 : Int)).length = 8 := by simp; omega
      have hrW : wP.heap[w.heap.size + 1]? = some (.cells (rowI ws) 39 (0, 0)) := by
        rw [hP3.block _ hsz (fun e => by have := (ho _ e).1; omega)]
        exact hrV
      have HEND : Hid (∃ V1 o2 c2' q rs gs' F', (Ending.returned (.tuple #[.slice (some ⟨w.heap.size + 1, 0, none⟩) 8 8, .slice (some ⟨P, 0, none⟩) 8 c2])) = .returned (.tuple #[.slice (some ⟨V1, 0, none⟩) 8 8, .slice o2 8 c2']) ∧ q.length = 8 ∧ rs.length = 8 ∧ LitsAt F' wP (.slice (some ⟨V1, 0, none⟩) 8 8) q ∧ LitsAt F' wP (.slice o2 8 c2') rs ∧ GrAt G gs' ins F' wP ∧ Mvd F F' w wP ∧ DivOk gs gs' 8 a b q rs) := by
        refine ⟨_, _, _, ws, rs ++ List.replicate (8 - n) 0, gj, Fj, rfl, hws, hlen, ?_, ?_, ?_, ?_, hD.pad hrs hnd⟩
        · have := lits_row (F := Fj) (c := 8) hrW hnV (by omega)
          rw [hws] at this
          exact this
        · exact ⟨by omega, some ⟨P, 0, none⟩, c2, by rw [hlen], fun k y hk => ⟨P, 0, rfl, hnP, by rw [Nat.zero_add]; exact hP2 k y hk⟩⟩
        · exact GrAt.other hG hP3 (fun k hk he => (ho k he).2.2 hk)
        · exact hM.over hP3 (fun i hi => by have := (ho i hi).1; omega)
      have HRUN : Hid (∀ ty, (Builtin.append_ #[38, 3] ty #[.slice o n c, .int .i64 (8 - (n : Int))]).run Tryz.prog wr = .ok (.slice (some ⟨P, 0, none⟩) 8 c2) wP) := hrun
      have s1 : wrap64 (8 - (n : Int)) = 8 - (n : Int) := by unfold wrap64; omega
      have e7 : (7 : Int) - ((8 : Nat) : Int) = -1 := by decide
      rw [e7]
      clear hrest ho hnd hrs hcM hnM hrV hnV hws hG hM hD hrun hP1 hP2 hP3 hF hsz hnP hlen hrW hd hdl e7
      go_wp2_with (at_builtin; refine Lib.wpList_append_run _ rfl _ _ 38 3 rfl (.slice o n c) (.int .i64 (8 - (n : Int))) (by simp [Act.eval]; done) (by simp [Act.eval, s1]; done) _ _ (HRUN.out _) ?_)
      go_ret2
      exact HEND.out
end Go.Proofs.YtpiglmaojonbnaaGreatDoor

/-
  package word: quotient, rest BY CONTRACT.
-/
namespace Go.Proofs.YtpiglmaojonbnaaGreatDoor
open Go.RowKit Go.Maps

/-- The size of a word, as bits. -/
def absB (gs : List (Int × Int)) (inp : List Bool) (l : List Int) : Nat → Bool := opB (bitsL gs inp l 7) (bitsL gs inp l)
theorem DivOk.quot {gs g1 g2 gj : List (Int × Int)} {a b sa sb q r : List Int} (h : DivOk g2 gj 8 sa sb q r) (hr : r.length = 8)
    (Da : Mads gs g1 40 sa (fun inp => absB gs inp a)) (Db : Mads g1 g2 40 sb (fun inp => absB g1 inp b)) (hsa : sa.length = 8) (hsb : sb.length = 8) (hb : ∀ x ∈ b, HasL gs x) (inp : List Bool) (hB : natF (absB gs inp b) 8 ≠ 0) :
    natF (bitsL gj inp q) 8 = natF (absB gs inp a) 8 / natF (absB gs inp b) 8 ∧ natF (bitsL gj inp r) 8 = natF (absB gs inp a) 8 % natF (absB gs inp b) 8 := by
  have eb' : absB g1 inp b = absB gs inp b := by
    have : ∀ j, bitsL g1 inp b j = bitsL gs inp b j := fun j => bitsL_more Da.ext inp hb j
    unfold absB
    rw [this 7, show bitsL g1 inp b = bitsL gs inp b from funext this]
  have ea : natF (bitsL g2 inp sa) 8 = natF (absB gs inp a) 8 := natF_congr fun j hj => by
    rw [bitsL_more Db.ext inp Da.has, Da.bits inp (by omega)]
  have eb : natF (bitsL g2 inp sb) 8 = natF (absB gs inp b) 8 := natF_congr fun j hj => by
    rw [Db.bits inp (by omega), eb']
  have hk := h.is inp (by rw [eb]; exact hB)
  rw [hr, eb] at hk
  have e0 : natF (fun j => bitsL g2 inp sa (8 - 8 + j)) 8 = natF (absB gs inp a) 8 := by
    rw [← ea]; exact natF_congr fun j _ => by rw [Nat.sub_self, Nat.zero_add]
  rw [e0] at hk
  have hb0 := (natF_lt (absB gs inp b) 8).1
  have hr0 := (natF_lt (bitsL gj inp r) 8).1
  have := (Int.ediv_emod_unique (a := natF (absB gs inp a) 8) (b := natF (absB gs inp b) 8) (r := natF (bitsL gj inp r) 8) (q := natF (bitsL gj inp q) 8) (by omega)).2 ⟨by rw [Int.mul_comm]; omega, hr0, hk.2⟩
  exact ⟨this.1.symm, this.2.symm⟩

set_option maxRecDepth 100000 in
set_option maxHeartbeats 4000000 in
theorem quotient_any {G : Nat} {gs : List (Int × Int)} {ins : Nat} {F : Nat → Prop} {w : World} (h : GrAt G gs ins F w) (oa ob : Option Addr) (ca cb : Nat) (a b : List Int) (hva : LitsAt F w (.slice oa 8 ca) a) (hvb : LitsAt F w (.slice ob 8 cb) b) (ha8 : a.length = 8) (hb8 : b.length = 8) (ha : ∀ x ∈ a, HasL gs x) (hb : ∀ x ∈ b, HasL gs x) (hl : gs.length + 1010 < 80000) :
    Calls Tryz.prog 42 #[.agg #[.pointer (some ⟨G, 0, none⟩)], .slice oa 8 ca, .slice ob 8 cb] w fun e w' => ∃ (V : Nat) (out : List Int) (gs' : List (Int × Int)) (F' : Nat → Prop) (q : List Bool → Nat → Bool), e = .returned (.slice (some ⟨V, 0, none⟩) 8 8) ∧ out.length = 8 ∧ w.heap.size ≤ V ∧ w'.heap[V]? = some (.cells (rowI out) 39 (0, 0)) ∧ ¬ F' V ∧ GrAt G gs' ins F' w' ∧ Mvd F F' w w' ∧ Mads gs gs' 1010 out (fun inp => opB (bitsL gs inp a 7 ^^ bitsL gs inp b 7) (q inp)) ∧ ∀ inp, natF (absB gs inp b) 8 ≠ 0 → natF (q inp) 8 = natF (absB gs inp a) 8 / natF (absB gs inp b) 8 := by
  obtain ⟨x, hx⟩ : ∃ x, a[7]? = some x := ⟨_, List.getElem?_eq_getElem (by omega)⟩
  obtain ⟨y, hy⟩ : ∃ y, b[7]? = some y := ⟨_, List.getElem?_eq_getElem (by omega)⟩
  have hb1 : Below w.heap.size w (w.alloc (.cells #[.pointer (some ⟨G, 0, none⟩)] 60)) := (Below.refl _ _).alloc (Nat.le_refl _) _
  have hm : Mvd F F w (w.alloc (.cells #[.pointer (some ⟨G, 0, none⟩)] 60)) := Mvd.of_below hb1
  obtain ⟨w1, hw1⟩ : ∃ w1, w1 = w.alloc (.cells #[.pointer (some ⟨G, 0, none⟩)] 60) := ⟨_, rfl⟩
  have c0 : w1.cell? ⟨w.heap.size, 0, none⟩ = some (.pointer (some ⟨G, 0, none⟩)) := by rw [hw1]; simp
  rw [← hw1] at hb1 hm
  have HVA : Hid (LitsAt F w1 (.slice oa 8 ca) a) := hva.move hm
  have HVB : Hid (LitsAt F w1 (.slice ob 8 cb) b) := hvb.move hm
  have HG : Hid (GrAt G gs ins F w1) := h.below hb1
  have HM : Hid (Mvd F F w w1) := hm
  have HX : Hid (a[7]? = some x) := hx
  have HY : Hid (b[7]? = some y) := hy
  have HXH : Hid (HasL gs x) := ha x (List.mem_of_getElem? hx)
  have HYH : Hid (HasL gs y) := hb y (List.mem_of_getElem? hy)
  have HA8 : Hid (a.length = 8) := ha8
  have HB8 : Hid (b.length = 8) := hb8
  have HA : Hid (∀ x ∈ a, HasL gs x) := ha
  have HB : Hid (∀ x ∈ b, HasL gs x) := hb
  have HL : Hid (gs.length + 1010 < 80000) := hl
  have hF := h.2.2.1
  have HF0 : Hid (¬ F w.heap.size) := fun hf => by have := hF _ hf; omega
  have HW : Hid (w.alloc (.cells #[.pointer (some ⟨G, 0, none⟩)] 60) = w1) := hw1.symm
  clear h hva hvb ha8 hb8 ha hb hl hx hy hb1 hm hF hw1
  go_enter Tryz.func42, Tryz.ntmps42
  go_wp2
  rw [HW.out]
  go_region_held3 (fun w' => w'.cell? ⟨w.heap.size, 0, none⟩ = some (.pointer (some ⟨G, 0, none⟩))) ((first | exact t0.1 | exact s0.1 | exact r0.1 | go_keep))
    (first
      | (go_at_call 61; refine (divide_any (by exact g3) Sa Sb sa sb (by exact LA3) (by exact LB3) a1 b1 HA3 d3.has (by have := d3.len; have := d2.len; have := HL.out; omega)).mono ?_; rintro e w4 ⟨Q, o2, c2, q, r, gs4, F4, rfl, hq8, hr8, LQ, LR, g4, m4, D4⟩; have t0 := m4.cell (by exact s0.1) s0.2)
      | (go_at_call 62; refine (size_any (F := F2) (by exact g2) _ _ b (by exact HVB.out.move m2.undrew) HB8.out (fun z hz => (HB.out z hz).ext d2.ext) (by have := d2.len; have := HL.out; omega)).mono ?_; rintro e w3 ⟨Sb, sb, gs3, F3, rfl, b1, b2, b3, b4, g3, m3, d3⟩; have s0 := m3.cell (by exact r0.1) r0.2; have LA3 := LA2.move m3; have LB3 : LitsAt F3 w3 (.slice (some ⟨Sb, 0, none⟩) 8 8) sb := (by have := lits_row (F := F3) (c := 8) b3 b4 (by omega); rw [b1] at this; exact this); have HA3 : ∀ z ∈ sa, HasL gs3 z := (fun z hz => (d2.has z hz).ext d3.ext))
      | (go_at_call 62; refine (size_any (F := F) (by exact HG.out) _ _ a (by exact HVA.out) HA8.out HA.out (by have := HL.out; omega)).mono ?_; rintro e w2 ⟨Sa, sa, gs2, F2, rfl, a1, a2, a3, a4, g2, m2, d2⟩; have r0 := m2.cell (by exact c0) HF0.out; have LA2 : LitsAt F2 w2 (.slice (some ⟨Sa, 0, none⟩) 8 8) sa := (by have := lits_row (F := F2) (c := 8) a3 a4 (by omega); rw [a1] at this; exact this)))
  have MQ : Mvd F F4 w w4 := ((HM.out.trans m2.undrew).trans m3).trans m4
  have EX : Ext gs gs4 := (d2.ext.trans d3.ext).trans D4.ext
  have HLQ : Hid (LitsAt F4 w4 (.slice (some ⟨Q, 0, none⟩) 8 8) q) := LQ
  have HG4 : Hid (GrAt G gs4 ins F4 w4) := g4
  have HVA4 : Hid (LitsAt F4 w4 (.slice oa 8 ca) a) := HVA.out.move ((m2.undrew.trans m3).trans m4)
  have HVB4 : Hid (LitsAt F4 w4 (.slice ob 8 cb) b) := HVB.out.move ((m2.undrew.trans m3).trans m4)
  have HMQ : Hid (Mvd F F4 w w4) := MQ
  have HEX : Hid (Ext gs gs4) := EX
  have HQ8 : Hid (q.length = 8) := hq8
  have HQH : Hid (∀ z ∈ q, HasL gs4 z) := D4.hw
  have HL4 : Hid (gs4.length ≤ gs.length + 960) := by have := D4.len; have := d3.len; have := d2.len; unfold Hid; omega
  have HDIV : Hid (∀ inp, natF (absB gs inp b) 8 ≠ 0 → natF (bitsL gs4 inp q) 8 = natF (absB gs inp a) 8 / natF (absB gs inp b) 8) := fun inp hB => (D4.quot hr8 (a := a) (b := b) d2 d3 a1 b1 HB.out inp hB).1
  have hc4 := t0.1
  have HN4 : Hid (¬ F4 w.heap.size) := t0.2
  have HX4 : Hid (HasL gs4 x) := HXH.out.ext EX
  have HY4 : Hid (HasL gs4 y) := HYH.out.ext EX
  rename_i hheld
  clear hheld MQ EX LQ LR g4 m4 D4 hq8 hr8 t0 s0 r0 LA3 LB3 HA3 LA2 g3 m3 d3 b1 b2 b3 b4 g2 m2 d2 a1 a2 a3 a4 HG HVA HVB c0 HM HF0
  go_wp2
  go_region_held3 (fun w' => w'.cell? ⟨w.heap.size, 0, none⟩ = some (.pointer (some ⟨G, 0, none⟩))) ((first | exact t0.1 | exact s0.1 | go_keep))
    (first
      | (go_at_call 38; refine (opposite_any (by exact g5) xx d5.has _ 8 _ q (by exact HLQ.out.move m5.undrew) HQ8.out (fun z hz => (HQH.out z hz).ext d5.ext) (by have := d5.len; have := HL4.out; have := HL.out; omega)).mono ?_; rintro e w6 ⟨V, out, gs6, F6, rfl, h1, h2, h3, h4, g6, m6, d6⟩; have t0 := m6.cell (by exact s0.1) s0.2)
      | (go_at_call 58; refine (mxor_any (F := F4) (by exact HG4.out) (by have := HL4.out; have := HL.out; omega) x y HX4.out HY4.out).mono ?_; rintro e w5 ⟨xx, gs5, F5, rfl, g5, m5, d5⟩; have s0 := m5.cell (by exact hc4) HN4.out)
      | (go_at_call 63; refine (sign_any (F := F4) _ _ a (by exact HVA4.out) x HX.out).mono ?_; rintro e w' ⟨rfl, rfl⟩)
      | (go_at_call 63; refine (sign_any (F := F4) _ _ b (by exact HVB4.out) y HY.out).mono ?_; rintro e w' ⟨rfl, rfl⟩))
  have HEND : Hid (∃ (V' : Nat) (out : List Int) (gs' : List (Int × Int)) (F' : Nat → Prop) (q : List Bool → Nat → Bool), Ending.returned (.slice (some ⟨V, 0, none⟩) 8 8) = .returned (.slice (some ⟨V', 0, none⟩) 8 8) ∧ out.length = 8 ∧ w.heap.size ≤ V' ∧ w6.heap[V']? = some (.cells (rowI out) 39 (0, 0)) ∧ ¬ F' V' ∧ GrAt G gs' ins F' w6 ∧ Mvd F F' w w6 ∧ Mads gs gs' 1010 out (fun inp => opB (bitsL gs inp a 7 ^^ bitsL gs inp b 7) (q inp)) ∧ ∀ inp, natF (absB gs inp b) 8 ≠ 0 → natF (q inp) 8 = natF (absB gs inp a) 8 / natF (absB gs inp b) 8) := by
    refine ⟨V, out, gs6, F6, fun inp => bitsL gs4 inp q, rfl, h1, ?_, h3, h4, g6, (HMQ.out.trans m5.undrew).trans m6, ⟨(HEX.out.trans d5.ext).trans d6.ext, ?_, d6.has, fun inp i z hz => ?_⟩, HDIV.out⟩
    · have := HMQ.out.size; have := m5.undrew.size; omega
    · have := d5.len; have := d6.len; have := HL4.out; omega
    · rw [d6.val inp i z hz, d5.val inp, HEX.out.val inp HXH.out, HEX.out.val inp HYH.out, bitsL_get HX.out, bitsL_get HY.out, show bitsL gs5 inp q = bitsL gs4 inp q from funext fun j => bitsL_more d5.ext inp HQH.out j]
  rename_i hheld
  clear hheld h1 h2 h3 h4 g6 m6 d6 t0 s0 g5 m5 d5 hc4
  go_wp2
  go_ret
  exact HEND.out
set_option maxRecDepth 100000 in
set_option maxHeartbeats 4000000 in
theorem rest_any {G : Nat} {gs : List (Int × Int)} {ins : Nat} {F : Nat → Prop} {w : World} (h : GrAt G gs ins F w) (oa ob : Option Addr) (ca cb : Nat) (a b : List Int) (hva : LitsAt F w (.slice oa 8 ca) a) (hvb : LitsAt F w (.slice ob 8 cb) b) (ha8 : a.length = 8) (hb8 : b.length = 8) (ha : ∀ x ∈ a, HasL gs x) (hb : ∀ x ∈ b, HasL gs x) (hl : gs.length + 1010 < 80000) :
    Calls Tryz.prog 44 #[.agg #[.pointer (some ⟨G, 0, none⟩)], .slice oa 8 ca, .slice ob 8 cb] w fun e w' => ∃ (V : Nat) (out : List Int) (gs' : List (Int × Int)) (F' : Nat → Prop) (q : List Bool → Nat → Bool), e = .returned (.slice (some ⟨V, 0, none⟩) 8 8) ∧ out.length = 8 ∧ w.heap.size ≤ V ∧ w'.heap[V]? = some (.cells (rowI out) 39 (0, 0)) ∧ ¬ F' V ∧ GrAt G gs' ins F' w' ∧ Mvd F F' w w' ∧ Mads gs gs' 1010 out (fun inp => opB (bitsL gs inp a 7) (q inp)) ∧ ∀ inp, natF (absB gs inp b) 8 ≠ 0 → natF (q inp) 8 = natF (absB gs inp a) 8 % natF (absB gs inp b) 8 := by
  obtain ⟨x, hx⟩ : ∃ x, a[7]? = some x := ⟨_, List.getElem?_eq_getElem (by omega)⟩
  obtain ⟨y, hy⟩ : ∃ y, b[7]? = some y := ⟨_, List.getElem?_eq_getElem (by omega)⟩
  have hb1 : Below w.heap.size w (w.alloc (.cells #[.pointer (some ⟨G, 0, none⟩)] 60)) := (Below.refl _ _).alloc (Nat.le_refl _) _
  have hm : Mvd F F w (w.alloc (.cells #[.pointer (some ⟨G, 0, none⟩)] 60)) := Mvd.of_below hb1
  obtain ⟨w1, hw1⟩ : ∃ w1, w1 = w.alloc (.cells #[.pointer (some ⟨G, 0, none⟩)] 60) := ⟨_, rfl⟩
  have c0 : w1.cell? ⟨w.heap.size, 0, none⟩ = some (.pointer (some ⟨G, 0, none⟩)) := by rw [hw1]; simp
  rw [← hw1] at hb1 hm
  have HVA : Hid (LitsAt F w1 (.slice oa 8 ca) a) := hva.move hm
  have HVB : Hid (LitsAt F w1 (.slice ob 8 cb) b) := hvb.move hm
  have HG : Hid (GrAt G gs ins F w1) := h.below hb1
  have HM : Hid (Mvd F F w w1) := hm
  have HX : Hid (a[7]? = some x) := hx
  have HY : Hid (b[7]? = some y) := hy
  have HXH : Hid (HasL gs x) := ha x (List.mem_of_getElem? hx)
  have HYH : Hid (HasL gs y) := hb y (List.mem_of_getElem? hy)
  have HA8 : Hid (a.length = 8) := ha8
  have HB8 : Hid (b.length = 8) := hb8
  have HA : Hid (∀ x ∈ a, HasL gs x) := ha
  have HB : Hid (∀ x ∈ b, HasL gs x) := hb
  have HL : Hid (gs.length + 1010 < 80000) := hl
  have hF := h.2.2.1
  have HF0 : Hid (¬ F w.heap.size) := fun hf => by have := hF _ hf; omega
  have HW : Hid (w.alloc (.cells #[.pointer (some ⟨G, 0, none⟩)] 60) = w1) := hw1.symm
  clear h hva hvb ha8 hb8 ha hb hl hx hy hb1 hm hF hw1
  go_enter Tryz.func44, Tryz.ntmps44
  go_wp2
  rw [HW.out]
  go_region_held3 (fun w' => w'.cell? ⟨w.heap.size, 0, none⟩ = some (.pointer (some ⟨G, 0, none⟩))) ((first | exact t0.1 | exact s0.1 | exact r0.1 | go_keep))
    (first
      | (go_at_call 61; refine (divide_any (by exact g3) Sa Sb sa sb (by exact LA3) (by exact LB3) a1 b1 HA3 d3.has (by have := d3.len; have := d2.len; have := HL.out; omega)).mono ?_; rintro e w4 ⟨Q, o2, c2, q, r, gs4, F4, rfl, hq8, hr8, LQ, LR, g4, m4, D4⟩; have t0 := m4.cell (by exact s0.1) s0.2)
      | (go_at_call 62; refine (size_any (F := F2) (by exact g2) _ _ b (by exact HVB.out.move m2.undrew) HB8.out (fun z hz => (HB.out z hz).ext d2.ext) (by have := d2.len; have := HL.out; omega)).mono ?_; rintro e w3 ⟨Sb, sb, gs3, F3, rfl, b1, b2, b3, b4, g3, m3, d3⟩; have s0 := m3.cell (by exact r0.1) r0.2; have LA3 := LA2.move m3; have LB3 : LitsAt F3 w3 (.slice (some ⟨Sb, 0, none⟩) 8 8) sb := (by have := lits_row (F := F3) (c := 8) b3 b4 (by omega); rw [b1] at this; exact this); have HA3 : ∀ z ∈ sa, HasL gs3 z := (fun z hz => (d2.has z hz).ext d3.ext))
      | (go_at_call 62; refine (size_any (F := F) (by exact HG.out) _ _ a (by exact HVA.out) HA8.out HA.out (by have := HL.out; omega)).mono ?_; rintro e w2 ⟨Sa, sa, gs2, F2, rfl, a1, a2, a3, a4, g2, m2, d2⟩; have r0 := m2.cell (by exact c0) HF0.out; have LA2 : LitsAt F2 w2 (.slice (some ⟨Sa, 0, none⟩) 8 8) sa := (by have := lits_row (F := F2) (c := 8) a3 a4 (by omega); rw [a1] at this; exact this)))
  have MQ : Mvd F F4 w w4 := ((HM.out.trans m2.undrew).trans m3).trans m4
  have EX : Ext gs gs4 := (d2.ext.trans d3.ext).trans D4.ext
  have HLQ : Hid (LitsAt F4 w4 (.slice o2 8 c2) r) := LR
  have HG4 : Hid (GrAt G gs4 ins F4 w4) := g4
  have HVA4 : Hid (LitsAt F4 w4 (.slice oa 8 ca) a) := HVA.out.move ((m2.undrew.trans m3).trans m4)
  have HVB4 : Hid (LitsAt F4 w4 (.slice ob 8 cb) b) := HVB.out.move ((m2.undrew.trans m3).trans m4)
  have HMQ : Hid (Mvd F F4 w w4) := MQ
  have HEX : Hid (Ext gs gs4) := EX
  have HQ8 : Hid (r.length = 8) := hr8
  have HQH : Hid (∀ z ∈ r, HasL gs4 z) := D4.hr
  have HL4 : Hid (gs4.length ≤ gs.length + 960) := by have := D4.len; have := d3.len; have := d2.len; unfold Hid; omega
  have HDIV : Hid (∀ inp, natF (absB gs inp b) 8 ≠ 0 → natF (bitsL gs4 inp r) 8 = natF (absB gs inp a) 8 % natF (absB gs inp b) 8) := fun inp hB => (D4.quot hr8 (a := a) (b := b) d2 d3 a1 b1 HB.out inp hB).2
  have hc4 := t0.1
  have HN4 : Hid (¬ F4 w.heap.size) := t0.2
  have HX4 : Hid (HasL gs4 x) := HXH.out.ext EX
  have HY4 : Hid (HasL gs4 y) := HYH.out.ext EX
  rename_i hheld
  clear hheld MQ EX LQ LR g4 m4 D4 hq8 hr8 t0 s0 r0 LA3 LB3 HA3 LA2 g3 m3 d3 b1 b2 b3 b4 g2 m2 d2 a1 a2 a3 a4 HG HVA HVB c0 HM HF0
  go_wp2
  go_region_held3 (fun w' => w'.cell? ⟨w.heap.size, 0, none⟩ = some (.pointer (some ⟨G, 0, none⟩))) ((first | exact t0.1 | go_keep))
    (first
      | (go_at_call 38; refine (opposite_any (F := F4) (by exact HG4.out) x HX4.out _ 8 _ r (by exact HLQ.out) HQ8.out HQH.out (by have := HL4.out; have := HL.out; omega)).mono ?_; rintro e w6 ⟨V, out, gs6, F6, rfl, h1, h2, h3, h4, g6, m6, d6⟩; have t0 := m6.cell (by exact hc4) HN4.out)
      | (go_at_call 63; refine (sign_any (F := F4) _ _ a (by exact HVA4.out) x HX.out).mono ?_; rintro e w' ⟨rfl, rfl⟩))
  have HEND : Hid (∃ (V' : Nat) (out : List Int) (gs' : List (Int × Int)) (F' : Nat → Prop) (q : List Bool → Nat → Bool), Ending.returned (.slice (some ⟨V, 0, none⟩) 8 8) = .returned (.slice (some ⟨V', 0, none⟩) 8 8) ∧ out.length = 8 ∧ w.heap.size ≤ V' ∧ w6.heap[V']? = some (.cells (rowI out) 39 (0, 0)) ∧ ¬ F' V' ∧ GrAt G gs' ins F' w6 ∧ Mvd F F' w w6 ∧ Mads gs gs' 1010 out (fun inp => opB (bitsL gs inp a 7) (q inp)) ∧ ∀ inp, natF (absB gs inp b) 8 ≠ 0 → natF (q inp) 8 = natF (absB gs inp a) 8 % natF (absB gs inp b) 8) := by
    refine ⟨V, out, gs6, F6, fun inp => bitsL gs4 inp r, rfl, h1, ?_, h3, h4, g6, HMQ.out.trans m6.undrew, ⟨HEX.out.trans d6.ext, ?_, d6.has, fun inp i z hz => ?_⟩, HDIV.out⟩
    · have := HMQ.out.size; have h2' : w4.heap.size ≤ V := h2; omega
    · have := d6.len; have := HL4.out; omega
    · rw [d6.val inp i z hz, HEX.out.val inp HXH.out, bitsL_get HX.out]
  rename_i hheld
  clear hheld h1 h2 h3 h4 g6 m6 d6 t0 hc4
  go_wp2
  go_ret
  exact HEND.out
end Go.Proofs.YtpiglmaojonbnaaGreatDoor
