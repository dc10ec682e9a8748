/-
  package types: Result BY CONTRACT.
-/
import Derived.Test.YtpiglmaojonbnaaDoorP26
namespace Go.Proofs.YtpiglmaojonbnaaDoor
open Go.RowKit Go.Maps

/-- The type of what an operator makes of parts of such types. -/
def resK (op : List UInt8) (ps : List Int) : Option Int :=
  match signRow op with
  | none => none
  | some (tk, gv) => if ps.length = tk.length then (if ps.any noKind = true then none else (fitK tk ps 0).map fun f => (giveK gv f).headD 0) else none
theorem zero_sign (w : World) : (zeroValue 81).run Tryd.prog w = .ok (.agg #[.slice none 0 0, .slice none 0 0]) w := by kernel_rfl
set_option maxRecDepth 100000 in
set_option maxHeartbeats 2000000 in
theorem result_any (w : World) (s : ByteArray) (hs : s.size ≤ maxLen) (op : Option Addr) (cp : Nat) (ps : List Int) (hp : IntsAt w (.slice op ps.length cp) ps) (hl : ps.length ≤ 100) (et st : TypeId) (eq sq : Value) (he : w.cell? ⟨4, 0, none⟩ = some (.iface et eq)) (hsh : w.cell? ⟨1, 0, none⟩ = some (.iface st sq)) :
    Calls Tryd.prog 20 #[.string s, .slice op ps.length cp] w fun e w' => Below w.heap.size w w' ∧ ∃ k err, e = .returned (.tuple #[.int .i64 k, err]) ∧ ((resK s.data.toList ps = some k ∧ err = .nilIface) ∨ (resK s.data.toList ps = none ∧ ∃ t q, err = .iface t q)) := by
  have hmf : ∀ (fn : Fn) (first cap : Array Value) (w : World), (Instr.makeFunc fn first cap).run Tryd.prog w = .ok (.func fn first cap) w := fun _ _ _ _ => rfl
  have hb1 : Below w.heap.size w (w.alloc (.cells #[.slice op ps.length cp] 22)) := (Below.refl _ _).alloc (Nat.le_refl _) _
  obtain ⟨w1, hw1⟩ : ∃ w1, w1 = w.alloc (.cells #[.slice op ps.length cp] 22) := ⟨_, rfl⟩
  have hs1 : w1.heap.size = w.heap.size + 1 := by rw [hw1]; simp
  have hr1 : w1.heap[w.heap.size]? = some (.cells #[.slice op ps.length cp] 22 (0, 0)) := by rw [hw1]; exact heap_alloc_new _ _
  rw [← hw1] at hb1
  have HW1 : Hid (w.alloc (.cells #[.slice op ps.length cp] 22) = w1) := hw1.symm
  have HB1 : Hid (Below w.heap.size w w1) := hb1
  have HR1 : Hid (w1.heap[w.heap.size]? = some (.cells #[.slice op ps.length cp] 22 (0, 0))) := hr1
  have HP : Hid (IntsAt w (.slice op ps.length cp) ps) := hp
  have HE : Hid (w.cell? ⟨4, 0, none⟩ = some (.iface et eq)) := he
  have HSH : Hid (w.cell? ⟨1, 0, none⟩ = some (.iface st sq)) := hsh
  have HL : Hid (ps.length ≤ 100) := hl
  have HS : Hid (s.size ≤ maxLen) := hs
  have HS1 : Hid (w1.heap.size = w.heap.size + 1) := hs1
  clear hb1 hw1 hs1 hr1 hp he hsh hl hs
  go_enter Tryd.func20, Tryd.ntmps20
  go_wp2_with fail
  rw [HW1.out]
  refine (signs_any w1).mono ?_
  rintro e w2 ⟨M, C, rfl, hF, hb2, hR⟩
  have hb2' : Below w.heap.size w w2 := HB1.out.trans (hb2.mono HB1.out.size)
  have hlk := hF.look Tryd.underlying83 (zero_sign w2) s HS.out
  have r2 := row_keep hb2 HR1.out
  have p0 : w2.cell? ⟨w.heap.size, 0, none⟩ = some (.slice op ps.length cp) := by rw [cell_of_row w2 _ 0 _ _ (0, 0) r2]; rfl
  have hlt : w.heap.size < w2.heap.size := (Array.getElem?_eq_some_iff.1 r2).1
  have HR2 : Hid (w2.heap[w.heap.size]? = _) := r2
  have HB2 : Hid (Below w.heap.size w w2) := hb2'
  have HP2 : Hid (IntsAt w2 (.slice op ps.length cp) ps) := HP.out.keep hb2'
  clear hb2 hb2' hF r2
  rcases sign_look hR s.data.toList with ⟨e1, e2⟩ | ⟨o1, c1, o2, c2, tk, gv, e1, e2, i1, i2, l1, l2⟩
  · rw [e1] at hlk
    have E : Hid (resK s.data.toList ps = none) := by unfold Hid resK; rw [e2]
    have q0 := cell_keep (HB2.out.alloc HB2.out.size (.cells #[.slice none 0 0, .slice none 0 0] 81)) HSH.out
    have HB3 : Hid (Below w.heap.size w (w2.alloc (.cells #[.slice none 0 0, .slice none 0 0] 81))) := HB2.out.alloc HB2.out.size _
    clear e1 e2 hR
    simp only [Option.getD_none, Option.isSome_none] at hlk
    go_wp2
    go_region
    all_goals go_wp2
    all_goals go_ret2
    all_goals exact ⟨HB3.out.drew, 0, _, rfl, Or.inr ⟨E.out, _, _, rfl⟩⟩
  · rw [e1] at hlk
    simp only [Option.getD_some, Option.isSome_some] at hlk
    have hb3 : Below w2.heap.size w2 (w2.alloc (.cells #[.slice o1 tk.length c1, .slice o2 gv.length c2] 81)) := (Below.refl _ _).alloc (Nat.le_refl _) _
    have hr3 : (w2.alloc (.cells #[.slice o1 tk.length c1, .slice o2 gv.length c2] 81)).heap[w2.heap.size]? = some (.cells #[.slice o1 tk.length c1, .slice o2 gv.length c2] 81 (0, 0)) := heap_alloc_new _ _
    have I1 : Hid (IntsAt w2 (.slice o1 tk.length c1) tk) := i1
    have I2 : Hid (IntsAt w2 (.slice o2 gv.length c2) gv) := i2
    have HLT : Hid (tk.length ≤ 10) := l1
    have HLG : Hid (gv.length = 1) := l2
    have ER : Hid (resK s.data.toList ps = if ps.length = tk.length then (if ps.any noKind = true then none else (fitK tk ps 0).map fun f => (giveK gv f).headD 0) else none) := by unfold Hid resK; rw [e2]
    have HB3 : Hid (Below w2.heap.size w2 (w2.alloc (.cells #[.slice o1 tk.length c1, .slice o2 gv.length c2] 81))) := hb3
    have HR3 : Hid ((w2.alloc (.cells #[.slice o1 tk.length c1, .slice o2 gv.length c2] 81)).heap[w2.heap.size]? = _) := hr3
    have HBB : Hid (Below w.heap.size w (w2.alloc (.cells #[.slice o1 tk.length c1, .slice o2 gv.length c2] 81))) := HB2.out.alloc HB2.out.size _
    have hsz : w2.heap.size < (w2.alloc (.cells #[.slice o1 tk.length c1, .slice o2 gv.length c2] 81)).heap.size := by simp
    clear e1 e2 i1 i2 l1 l2 hR hb3 hr3
    by_cases hn : ps.length = tk.length
    · have d1 : (((ps.length : Nat) : Int) == ((tk.length : Nat) : Int)) = true := by simp; omega
      have d2 : (((ps.length : Nat) : Int) != ((tk.length : Nat) : Int)) = false := by simp; omega
      have ER2 : Hid (resK s.data.toList ps = if ps.any noKind = true then none else (fitK tk ps 0).map fun f => (giveK gv f).headD 0) := by unfold Hid; rw [ER.out, if_pos hn]
      have HNN : Hid (ps.length = tk.length) := hn
      clear hn
      go_upto_region 4 with fail
      obtain ⟨w3, hw3⟩ : ∃ w3, w3 = w2.alloc (.cells #[.slice o1 tk.length c1, .slice o2 gv.length c2] 81) := ⟨_, rfl⟩
      rw [← hw3] at HB3 HR3 HBB hsz
      rw [← hw3]
      have p3 := cell_keep HB3.out p0
      have HP3 : Hid (IntsAt w3 (.slice op ps.length cp) ps) := HP2.out.keep HB3.out
      clear hw3 p0 hlk ER
      cases ha : ps.any noKind
      · have ER3 : Hid (resK s.data.toList ps = (fitK tk ps 0).map fun f => (giveK gv f).headD 0) := by unfold Hid; rw [ER2.out, ha]; rfl
        clear ER2
        go_wp2_with (go_at_call 35; refine (contains_any _ _ _ _ ps HP3.out rfl HL.out).mono ?_; rw [ha]; rintro e w' ⟨rfl, hw⟩; have hw2 := hw.symm; subst hw2)
        have hbk : Below w3.heap.size w3 (w3.alloc (.cells #[.int .i64 0] 3)) := (Below.refl _ _).alloc (Nat.le_refl _) _
        have hrk : (w3.alloc (.cells #[.int .i64 0] 3)).heap[w3.heap.size]? = some (.cells #[.int .i64 0] 3 (0, 0)) := heap_alloc_new _ _
        have e3 := cell_keep (HBB.out.trans (hbk.mono HBB.out.size)) HE.out
        have hpk := HP3.out.keep hbk
        rw [HNN.out] at hpk
        have hrp := row_keep hbk (row_keep HB3.out HR2.out)
        rw [HNN.out] at hrp
        have hcg := tcaught_any (w3.alloc (.cells #[.int .i64 0] 3)) w.heap.size w2.heap.size w.heap.size w3.heap.size o1 o2 op c1 c2 cp tk gv ps (.int .i64 0) (row_keep hbk HR3.out) hrp hrk ((I1.out.keep HB3.out).keep hbk) ((I2.out.keep HB3.out).keep hbk) hpk HNN.out HLT.out HLG.out et eq e3 (HBB.out.size) (by have := HBB.out.size; simp; omega)
        have HBK : Hid (Below w.heap.size w (w3.alloc (.cells #[.int .i64 0] 3))) := HBB.out.trans (hbk.mono HBB.out.size)
        clear hbk hrk e3 hpk hrp
        refine hcg.mono ?_
        clear hcg
        rintro e w4 ⟨hb4, ⟨f, hf, rfl, hk⟩ | ⟨hf, rfl, hk⟩⟩
        · have HF : Hid (resK s.data.toList ps = some ((giveK gv f).headD 0)) := by unfold Hid; rw [ER3.out, hf]; rfl
          have HB4 : Hid (Below w.heap.size w w4) := HBK.out.trans hb4
          clear hf hb4
          go_wp2
          go_ret2
          exact ⟨HB4.out, _, _, rfl, Or.inl ⟨by rw [HF.out]; simp, rfl⟩⟩
        · have HF : Hid (resK s.data.toList ps = none) := by unfold Hid; rw [ER3.out, hf]; rfl
          have HB4 : Hid (Below w.heap.size w w4) := HBK.out.trans hb4
          clear hf hb4
          go_wp2
          go_ret2
          exact ⟨HB4.out, _, _, rfl, Or.inr ⟨HF.out, _, _, rfl⟩⟩
      · have E : Hid (resK s.data.toList ps = none) := by unfold Hid; rw [ER2.out, ha]; rfl
        have q0 := cell_keep HBB.out HE.out
        go_wp2_with (go_at_call 35; refine (contains_any _ _ _ _ ps HP3.out rfl HL.out).mono ?_; rw [ha]; rintro e w' ⟨rfl, hw⟩; have hw2 := hw.symm; subst hw2)
        go_region
        all_goals go_wp2
        all_goals go_ret2
        all_goals exact ⟨HBB.out.drew, 0, _, rfl, Or.inr ⟨E.out, _, _, rfl⟩⟩
    · have d1 : (((ps.length : Nat) : Int) == ((tk.length : Nat) : Int)) = false := by simp; omega
      have d2 : (((ps.length : Nat) : Int) != ((tk.length : Nat) : Int)) = true := by simp; omega
      have E : Hid (resK s.data.toList ps = none) := by unfold Hid; rw [ER.out, if_neg hn]
      have q0 := cell_keep HBB.out HSH.out
      clear hn ER
      go_wp2
      go_region
      all_goals go_wp2
      all_goals go_ret2
      all_goals exact ⟨HBB.out.drew, 0, _, rfl, Or.inr ⟨E.out, _, _, rfl⟩⟩
end Go.Proofs.YtpiglmaojonbnaaDoor
