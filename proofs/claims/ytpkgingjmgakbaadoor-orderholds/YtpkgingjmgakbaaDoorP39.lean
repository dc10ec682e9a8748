/-
  package order: Order BY CONTRACT, of a flat program that is right (flat.Check): an order of all flows, or a fault at the least flow of a cycle.
-/
import Derived.Deep.RegionWith
import Derived.Test.YtpkgingjmgakbaaDoorP38
import Derived.Test.YtpkgingjmgakbaaDoorP29
import Derived.Test.YtpkgingjmgakbaaDoorP34
import Derived.Test.YtpkgingjmgakbaaDoorP32
namespace Go.Proofs.YtpkgingjmgakbaaDoor
open Go.RowKit Go.Maps

theorem ndF_length (fs : List Fw) : (ndF fs).length = fs.length := by simp [ndF]
theorem ndF_lt (fs : List Fw) (i : Nat) : ∀ k ∈ ndA (ndF fs) i, k < (ndF fs).length := by
  intro k hk
  rw [ndF_length]
  unfold ndA ndF at hk
  rw [List.getElem?_map] at hk
  cases h : fs[i]? with
  | none => rw [h] at hk; simp at hk
  | some f =>
    rw [h] at hk
    simp only [Option.map_some, Option.getD_some, List.mem_filterMap] at hk
    obtain ⟨s, _, hs⟩ := hk
    exact (numN_lt hs).1
/-- What Order answers of a right program. -/
def OrdIs (nd : List (List Nat)) (base : Nat) (cv : Value) (e : Ending) (w' : World) : Prop :=
  (∃ (d : List Nat) (o : Option Addr) (c : Nat), e = .returned (.tuple #[.slice o d.length c, .nilIface]) ∧ Grd nd d ∧ d.length = nd.length ∧ w'.ownsRow base 3 1 (.slice o d.length c) d.length ((cI d).map (Value.int .i64))) ∨
  ∃ m b : Nat, e = .returned (.tuple #[.slice none 0 0, .iface 48 (.pointer (some ⟨b, 0, none⟩))]) ∧ m < nd.length ∧ Rch nd m m ∧ (∀ j, j < m → ¬ Rch nd j j) ∧ w'.cell? ⟨b, 0, none⟩ = some (.int .i64 (m : Int)) ∧ w'.cell? ⟨b, 0 + 1, none⟩ = some cv
set_option maxRecDepth 100000 in
set_option maxHeartbeats 8000000 in
theorem order_any (w : World) (S : Nat → Prop) (p : Pg) (o1 o2 o3 o4 o5 : Option Addr) (c1 c2 c3 c4 c5 : Nat) (hp : PgAt w S p (.slice o1 p.ins.length c1) (.slice o2 p.outs.length c2) (.slice o3 p.fs.length c3) (.slice o4 p.asserts.length c4) (.slice o5 p.checks.length c5)) (hS : Plain w S) (hlt : ∀ b, S b → b < w.heap.size) (hnil : p.ins.length = 0 → o1 = none ∧ c1 = 0) (hok : PgOk p) (st bt tt : TypeId) (sq bq tq : Value) (he : E3 w st bt tt sq bq tq) (h0 : flatC p = 0) (hfb : fbL (termsP p)) (htot : tot (ndF p.fs) (ndF p.fs).length ≤ 200000) (ct : TypeId) (cq : Value) (hcv : w.cell? ⟨0, 0, none⟩ = some (.iface ct cq)) :
    Calls Tryd.prog 6 #[.agg #[.slice o1 p.ins.length c1, .slice o2 p.outs.length c2, .slice o3 p.fs.length c3, .slice o4 p.asserts.length c4, .slice o5 p.checks.length c5]] w fun e w' => Below w.heap.size w w' ∧ OrdIs (ndF p.fs) w.heap.size (.iface ct cq) e w' := by
  obtain ⟨w1, hw1⟩ : ∃ w1, w1 = w.alloc (.cells #[.slice o1 p.ins.length c1, .slice o2 p.outs.length c2, .slice o3 p.fs.length c3, .slice o4 p.asserts.length c4, .slice o5 p.checks.length c5] 29) := ⟨_, rfl⟩
  have hb1 : Below w.heap.size w w1 := by rw [hw1]; exact (Below.refl _ _).alloc (Nat.le_refl _) _
  have hr1 : w1.heap[w.heap.size]? = some (.cells #[.slice o1 p.ins.length c1, .slice o2 p.outs.length c2, .slice o3 p.fs.length c3, .slice o4 p.asserts.length c4, .slice o5 p.checks.length c5] 29 (0, 0)) := by rw [hw1]; exact heap_alloc_new _ _
  have hst : Stays S S w w1 := fun b hS hl => ⟨hS, hb1.block b hl⟩
  have hp1 := hp.keep hst
  have hlt1 : ∀ b, S b → b < w1.heap.size := fun b hb => Nat.lt_of_lt_of_le (hlt b hb) hb1.size
  have hS1 : Plain w1 S := hS.keep hb1 (fun b hb _ => hlt b hb)
  have HFC : Hid (Calls Tryd.prog 12 #[.agg #[.slice o1 p.ins.length c1, .slice o2 p.outs.length c2, .slice o3 p.fs.length c3, .slice o4 p.asserts.length c4, .slice o5 p.checks.length c5]] w1 fun e w' => Below w1.heap.size w1 w' ∧ e = .returned .nilIface) := by
    have := flatCheck_any w1 S p o1 o2 o3 o4 o5 c1 c2 c3 c4 c5 hp1 hS1 hlt1 hnil hok st bt tt sq bq tq (he.keep hb1)
    rw [h0] at this
    exact this
  have HNF : Hid (∀ w2, Below w1.heap.size w1 w2 → Calls Tryd.prog 13 #[.agg #[.slice o1 p.ins.length c1, .slice o2 p.outs.length c2, .slice o3 p.fs.length c3, .slice o4 p.asserts.length c4, .slice o5 p.checks.length c5]] w2 fun e w' => ∃ nb, e = .returned (.slice (some ⟨nb, 0, none⟩) p.fs.length p.fs.length) ∧ RwsAt w' w2.heap.size nb (fun _ => False) ((ndF p.fs).map cI) ∧ Below w2.heap.size w2 w') := fun w2 hb2 => by
    have hst2 : Stays S S w1 w2 := fun b hS hl => ⟨hS, hb2.block b hl⟩
    exact needsOf_any w2 S p o3 c3 _ _ _ _ (hp1.keep hst2) hok hfb
  have HR1 : Hid (w1.heap[w.heap.size]? = some (.cells #[.slice o1 p.ins.length c1, .slice o2 p.outs.length c2, .slice o3 p.fs.length c3, .slice o4 p.asserts.length c4, .slice o5 p.checks.length c5] 29 (0, 0)) ∧ Below w.heap.size w w1) := ⟨hr1, hb1⟩
  have HCV : Hid (w1.cell? ⟨0, 0, none⟩ = some (.iface ct cq)) := cell_keep hb1 hcv
  have HN : Hid ((ndF p.fs).length = p.fs.length ∧ p.fs.length ≤ 1000 ∧ tot (ndF p.fs) (ndF p.fs).length ≤ 200000) := ⟨ndF_length _, by have := hok.vars; omega, htot⟩
  have HW1 : Hid (w.alloc (.cells #[.slice o1 p.ins.length c1, .slice o2 p.outs.length c2, .slice o3 p.fs.length c3, .slice o4 p.asserts.length c4, .slice o5 p.checks.length c5] 29) = w1) := hw1.symm
  obtain ⟨P, hP⟩ : ∃ P, P = w.heap.size := ⟨_, rfl⟩
  have HP : Hid (P = w.heap.size) := hP
  have cell5 : ∀ w2, Below w1.heap.size w1 w2 → w2.cell? ⟨P, 0, none⟩ = some (.slice o1 p.ins.length c1) ∧ w2.cell? ⟨P, 0 + 1, none⟩ = some (.slice o2 p.outs.length c2) ∧ w2.cell? ⟨P, 0 + 2, none⟩ = some (.slice o3 p.fs.length c3) ∧ w2.cell? ⟨P, 0 + 3, none⟩ = some (.slice o4 p.asserts.length c4) ∧ w2.cell? ⟨P, 0 + 4, none⟩ = some (.slice o5 p.checks.length c5) := fun w2 hb2 => by
    have h2 := row_keep hb2 (hP ▸ hr1)
    refine ⟨?_, ?_, ?_, ?_, ?_⟩ <;> (rw [cell_of_row w2 _ _ _ _ (0, 0) h2]; rfl)
  have H5 : Hid (∀ w2, Below w1.heap.size w1 w2 → w2.cell? ⟨P, 0, none⟩ = some (.slice o1 p.ins.length c1) ∧ w2.cell? ⟨P, 0 + 1, none⟩ = some (.slice o2 p.outs.length c2) ∧ w2.cell? ⟨P, 0 + 2, none⟩ = some (.slice o3 p.fs.length c3) ∧ w2.cell? ⟨P, 0 + 3, none⟩ = some (.slice o4 p.asserts.length c4) ∧ w2.cell? ⟨P, 0 + 4, none⟩ = some (.slice o5 p.checks.length c5)) := cell5
  obtain ⟨a1, a2, a3, a4, a5⟩ := cell5 w1 (Below.refl _ _)
  clear hp hS hlt hnil hok he h0 hfb htot hcv hw1 hb1 hr1 hst hp1 hlt1 hS1 hP cell5
  go_enter Tryd.func6, Tryd.ntmps6
  go_upto_region 1 with fail
  rw [HW1.out, ← HP.out]
  go_wp2_with fail
  refine HFC.out.mono ?_
  rintro e w2 ⟨hb2, rfl⟩
  have HB2 : Hid (Below w1.heap.size w1 w2) := hb2
  obtain ⟨d1, d2, d3, d4, d5⟩ := H5.out w2 hb2
  clear hb2 a1 a2 a3 a4 a5 HFC
  go_wp2_with fail
  refine (HNF.out w2 HB2.out).mono ?_
  rintro e w3 ⟨nb, rfl, hR3, hb3⟩
  have HB3 : Hid (Below w1.heap.size w1 w3) := HB2.out.trans (hb3.mono HB2.out.size)
  have HR3 : Hid (RwsAt w3 w2.heap.size nb (fun _ => False) ((ndF p.fs).map cI)) := hR3
  have HIO : Hid (Calls Tryd.prog 14 #[.slice (some ⟨nb, 0, none⟩) p.fs.length p.fs.length] w3 fun e w' => ∃ d o c, e = .returned (.slice o d.length c) ∧ Grd (ndF p.fs) d ∧ (∀ i, ¬ Fre (ndF p.fs) d i) ∧ w'.ownsRow w3.heap.size 3 1 (.slice o d.length c) d.length ((cI d).map (Value.int .i64)) ∧ Below w3.heap.size w3 w') := by
    have := inOrder_any w3 _ nb _ (ndF p.fs) hR3 (by have := HN.out; omega) (ndF_lt _) HN.out.2.2
    rwa [HN.out.1] at this
  clear hR3 hb3 d1 d2 d3 d4 d5 HNF
  go_wp2_with fail
  refine HIO.out.mono ?_
  rintro e w4 ⟨d, o, c, rfl, hG, hF, hown, hb4⟩
  have HB4 : Hid (Below w1.heap.size w1 w4) := HB3.out.trans (hb4.mono HB3.out.size)
  have HG : Hid (Grd (ndF p.fs) d ∧ ∀ i, ¬ Fre (ndF p.fs) d i) := ⟨hG, hF⟩
  have HOW : Hid (w4.ownsRow w3.heap.size 3 1 (.slice o d.length c) d.length ((cI d).map (Value.int .i64))) := hown
  have HR4 : Hid (RwsAt w4 w2.heap.size nb (fun _ => False) ((ndF p.fs).map cI)) := HR3.out.below hb4
  obtain ⟨d1, d2, d3, d4, d5⟩ := H5.out w4 HB4.out
  have hdl := hG.len
  rw [HN.out.1] at hdl
  clear hG hF hown hb4 HIO HR3
  by_cases hlen : d.length = p.fs.length
  · rw [hlen] at HOW ⊢
    have HLE : Hid (d.length = p.fs.length) := hlen
    clear hdl hlen
    go_wp2
    refine bodyPost_ret (results_tmp2 rfl _ _ _) rfl ?_
    refine ⟨HR1.out.2.trans (HB4.out.mono HR1.out.2.size), .inl ⟨d, o, c, by rw [HLE.out]; rfl, HG.out.1, by rw [HLE.out, HN.out.1], ?_⟩⟩
    rw [HLE.out]
    exact owns_mono HOW.out (Nat.le_trans HR1.out.2.size HB3.out.size)
  · have hll : (d.length : Int) < (p.fs.length : Int) := by omega
    obtain ⟨m, ⟨hm0, hm1⟩, hm2⟩ := least_ex (P := fun i => i < (ndF p.fs).length ∧ Rch (ndF p.fs) i i) (Grd.cycle HG.out.2 (by have := HN.out; omega) (ndF_lt _))
    have HM : Hid (m < (ndF p.fs).length ∧ Rch (ndF p.fs) m m ∧ ∀ j, j < m → ¬ Rch (ndF p.fs) j j) := ⟨hm0, hm1, fun j hj hr => hm2 j hj ⟨by omega, hr⟩⟩
    have HLC : Hid (∀ W, Below w4.heap.size w4 W → Calls Tryd.prog 15 #[.slice (some ⟨nb, 0, none⟩) p.fs.length p.fs.length] W fun e w' => e = .returned (.int .i64 (m : Int)) ∧ Below w4.heap.size w4 w') := fun W hW => by
      have := leastOfCycles_any W _ nb _ (ndF p.fs) (HR4.out.below hW) (by have := HN.out; omega) (ndF_lt _) HN.out.2.2 m HM.out.1 HM.out.2.1 HM.out.2.2
      rw [HN.out.1] at this
      refine this.mono ?_
      rintro e w' ⟨rfl, hb⟩
      exact ⟨rfl, hW.trans (hb.mono hW.size)⟩
    have HBW : Hid (Below w.heap.size w w4) := HR1.out.2.trans (HB4.out.mono HR1.out.2.size)
    have g4 : w4.drew.cell? ⟨0, 0, none⟩ = some (.iface ct cq) := cell_keep HB4.out HCV.out
    have G4 : Hid (w4.cell? ⟨0, 0, none⟩ = some (.iface ct cq)) := cell_keep HB4.out HCV.out
    clear hdl hlen hm0 hm1 hm2 HB4 HCV HR4 HB3 HB2 HOW HG H5
    go_upto_region 7 with fail
    go_region_with (go_at_call 15; refine (HLC.out _ (by first | exact Below.refl _ _ | exact (Below.refl _ _).drew)).mono ?_; rintro e w6 ⟨rfl, hb6⟩; have g6 : w6.cell? ⟨0, 0, none⟩ = some (.iface ct cq) := cell_keep hb6 G4.out)
    all_goals go_wp2
    all_goals refine bodyPost_ret (results_tmp2 rfl _ _ _) rfl ?_
    all_goals exact ⟨HBW.out.trans ((hb6.alloc hb6.size _).mono HBW.out.size), .inr ⟨m, w6.heap.size, rfl, HM.out.1, HM.out.2.1, HM.out.2.2, by rw [cell_of_row _ _ _ _ _ (0, 0) (heap_alloc_new _ _)]; rfl, by rw [cell_of_row _ _ _ _ _ (0, 0) (heap_alloc_new _ _)]; rfl⟩⟩
end Go.Proofs.YtpkgingjmgakbaaDoor

/-
  HOW LATE TERMS ARE (mathematics), by how late names are: the least numbers that hold.
-/
namespace Go.Proofs.YtpkgingjmgakbaaDoor
open Go.RowKit Go.Maps

def lArrow : List UInt8 := [45, 62]
def agoN (n : Nat) : Nat := if n + 1 < 2 then n + 1 else 2
def behN (a b : Nat) : Nat := if b = 2 then 2 else a
mutual
/-- How late a term is. -/
def ltE (f : List UInt8 → Nat) : Ex → Nat
  | .mk op _ s l => if op.data.toList = lName then f s.data.toList else if op.data.toList = lPre then agoN ((ltL f l)[0]?.getD 0) else if op.data.toList = lArrow then behN ((ltL f l)[0]?.getD 0) ((ltL f l)[1]?.getD 0) else if op.data.toList = lFby then behN ((ltL f l)[0]?.getD 0) (agoN ((ltL f l)[1]?.getD 0)) else (ltL f l).foldl Nat.max 0
def ltL (f : List UInt8 → Nat) : List Ex → List Nat
  | [] => []
  | e :: es => ltE f e :: ltL f es
end
theorem ltE_mk (f : List UInt8 → Nat) (op : ByteArray) (n : Int) (s : ByteArray) (l : List Ex) : ltE f (.mk op n s l) = if op.data.toList = lName then f s.data.toList else if op.data.toList = lPre then agoN ((ltL f l)[0]?.getD 0) else if op.data.toList = lArrow then behN ((ltL f l)[0]?.getD 0) ((ltL f l)[1]?.getD 0) else if op.data.toList = lFby then behN ((ltL f l)[0]?.getD 0) (agoN ((ltL f l)[1]?.getD 0)) else (ltL f l).foldl Nat.max 0 := by rw [ltE]
theorem ltL_map (f : List UInt8 → Nat) : ∀ l : List Ex, ltL f l = l.map (ltE f)
  | [] => by simp [ltL]
  | e :: l => by simp [ltL, ltL_map f l]
theorem ltL_at {f : List UInt8 → Nat} {l : List Ex} {i : Nat} {e : Ex} (h : l[i]? = some e) : (ltL f l)[i]?.getD 0 = ltE f e := by
  rw [ltL_map, List.getElem?_map, h]; rfl
theorem foldl_max_le {k : Nat} : ∀ (l : List Nat) (a : Nat), a ≤ k → (∀ x ∈ l, x ≤ k) → l.foldl Nat.max a ≤ k
  | [], a, ha, _ => ha
  | x :: l, a, ha, h => by
    rw [List.foldl_cons]
    refine foldl_max_le l _ ?_ fun y hy => h y (List.mem_cons_of_mem _ hy)
    have := h x (List.mem_cons_self ..)
    exact Nat.max_le.2 ⟨ha, this⟩
theorem foldl_max_mono : ∀ (l m : List Nat) (a b : Nat), a ≤ b → l.length = m.length → (∀ i : Nat, l[i]?.getD 0 ≤ m[i]?.getD 0) → l.foldl Nat.max a ≤ m.foldl Nat.max b
  | [], [], a, b, h, _, _ => h
  | [], y :: m, a, b, h, hl, _ => by simp at hl
  | x :: l, [], a, b, h, hl, _ => by simp at hl
  | x :: l, y :: m, a, b, h, hl, hi => by
    rw [List.foldl_cons, List.foldl_cons]
    refine foldl_max_mono l m _ _ ?_ (by simpa using hl) fun i => by simpa using hi (i + 1)
    have := hi 0
    simp at this
    exact Nat.max_le.2 ⟨Nat.le_trans h (Nat.le_max_left ..), Nat.le_trans this (Nat.le_max_right ..)⟩
theorem agoN_le (n : Nat) : agoN n ≤ 2 := by unfold agoN; split <;> omega
theorem agoN_mono {a b : Nat} (h : a ≤ b) : agoN a ≤ agoN b := by unfold agoN; split <;> split <;> omega
theorem behN_le {a b : Nat} (h : a ≤ 2) : behN a b ≤ 2 := by unfold behN; split <;> omega
theorem behN_mono {a b c d : Nat} (h : a ≤ b) (h2 : c ≤ d) (hb : a ≤ 2) (hd : d ≤ 2) : behN a c ≤ behN b d := by unfold behN; split <;> split <;> omega
theorem getD_le {l : List Nat} {k : Nat} (h : ∀ x ∈ l, x ≤ k) (i : Nat) : l[i]?.getD 0 ≤ k := by
  cases e : l[i]? with
  | none => exact Nat.zero_le _
  | some x => exact h x (List.mem_of_getElem? e)
mutual
theorem ltE_le {f : List UInt8 → Nat} (hf : ∀ s, f s ≤ 2) : ∀ e : Ex, ltE f e ≤ 2
  | .mk op n s l => by
    have h := ltL_le hf l
    unfold ltE
    split
    · exact hf _
    split
    · exact agoN_le _
    split
    · exact behN_le (getD_le h _)
    split
    · exact behN_le (getD_le h _)
    exact foldl_max_le _ _ (by omega) h
theorem ltL_le {f : List UInt8 → Nat} (hf : ∀ s, f s ≤ 2) : ∀ l : List Ex, ∀ x ∈ ltL f l, x ≤ 2
  | [], x, hx => by simp [ltL] at hx
  | e :: l, x, hx => by
    unfold ltL at hx
    rcases List.mem_cons.1 hx with rfl | hx
    · exact ltE_le hf e
    · exact ltL_le hf l x hx
end
mutual
theorem ltE_mono {f g : List UInt8 → Nat} (hf : ∀ s, f s ≤ g s) (hg : ∀ s, g s ≤ 2) : ∀ e : Ex, ltE f e ≤ ltE g e
  | .mk op n s l => by
    have h := ltL_mono hf hg l
    have h2 := ltL_le hg l
    have h1 := ltL_le (fun s => Nat.le_trans (hf s) (hg s)) l
    unfold ltE
    split
    · exact hf _
    split
    · exact agoN_mono (h _)
    split
    · exact behN_mono (h _) (h _) (getD_le h1 _) (getD_le h2 _)
    split
    · exact behN_mono (h _) (agoN_mono (h _)) (getD_le h1 _) (agoN_le _)
    exact foldl_max_mono _ _ _ _ (Nat.le_refl _) (by rw [ltL_map, ltL_map]; simp) h
theorem ltL_mono {f g : List UInt8 → Nat} (hf : ∀ s, f s ≤ g s) (hg : ∀ s, g s ≤ 2) : ∀ (l : List Ex) (i : Nat), (ltL f l)[i]?.getD 0 ≤ (ltL g l)[i]?.getD 0
  | [], i => by simp [ltL]
  | e :: l, 0 => by simpa [ltL] using ltE_mono hf hg e
  | e :: l, i + 1 => by simpa [ltL] using ltL_mono hf hg l i
end
/-- These numbers hold of flows. -/
def LtOk (fs : List Fw) (f : List UInt8 → Nat) : Prop := (∀ s, f s ≤ 2) ∧ ∀ x ∈ fs, ltE f x.e ≤ f x.name.data.toList
/-- Not above any that hold. -/
def LtLow (fs : List Fw) (f : List UInt8 → Nat) : Prop := (∀ s, f s ≤ 2) ∧ ∀ g, LtOk fs g → ∀ s, f s ≤ g s
/-- The least that hold. -/
def LtIs (fs : List Fw) (f : List UInt8 → Nat) : Prop := LtOk fs f ∧ ∀ g, LtOk fs g → ∀ s, f s ≤ g s
theorem LtIs.one {fs : List Fw} {f g : List UInt8 → Nat} (hf : LtIs fs f) (hg : LtIs fs g) : f = g := by
  funext s
  exact Nat.le_antisymm (hf.2 g hg.1 s) (hg.2 f hf.1 s)
theorem LtLow.start (fs : List Fw) : LtLow fs fun _ => 0 := ⟨fun _ => Nat.zero_le _, fun _ _ _ => Nat.zero_le _⟩
def ltPut (f : List UInt8 → Nat) (s : List UInt8) (n : Nat) : List UInt8 → Nat := fun t => if t = s then n else f t
theorem LtLow.put {fs : List Fw} {f : List UInt8 → Nat} (h : LtLow fs f) {x : Fw} (hx : x ∈ fs) : LtLow fs (ltPut f x.name.data.toList (ltE f x.e)) := by
  refine ⟨fun s => ?_, fun g hg s => ?_⟩
  · unfold ltPut; split
    · exact ltE_le h.1 _
    · exact h.1 s
  · unfold ltPut; split
    · rename_i e
      rw [e]
      exact Nat.le_trans (ltE_mono (h.2 g hg) hg.1 _) (hg.2 x hx)
    · exact h.2 g hg s
/-- How much flows can still grow. -/
def ltLeft (fs : List Fw) (f : List UInt8 → Nat) : Nat := (fs.map fun x => 2 - f x.name.data.toList).sum
theorem sum_le_sum : ∀ (l : List Fw) (a b : Fw → Nat), (∀ x, a x ≤ b x) → (l.map a).sum ≤ (l.map b).sum
  | [], _, _, _ => by simp
  | x :: l, a, b, h => by
    have := sum_le_sum l a b h
    have := h x
    simp
    omega
theorem sum_lt_sum : ∀ (l : List Fw) (a b : Fw → Nat), (∀ x, a x ≤ b x) → ∀ y ∈ l, a y < b y → (l.map a).sum < (l.map b).sum
  | [], _, _, _, y, hy, _ => by simp at hy
  | x :: l, a, b, h, y, hy, hlt => by
    have h1 := sum_le_sum l a b h
    have h2 := h x
    rcases List.mem_cons.1 hy with rfl | hy
    · simp; omega
    · have := sum_lt_sum l a b h y hy hlt
      simp; omega
theorem ltLeft_put {fs : List Fw} {f : List UInt8 → Nat} {x : Fw} (hx : x ∈ fs) {n : Nat} (hn : n ≤ 2) (hlt : f x.name.data.toList < n) : ltLeft fs (ltPut f x.name.data.toList n) < ltLeft fs f := by
  refine sum_lt_sum fs _ _ (fun y => ?_) x hx ?_
  · unfold ltPut
    split
    · rename_i e; rw [e]; omega
    · omega
  · unfold ltPut
    rw [if_pos rfl]
    omega
end Go.Proofs.YtpkgingjmgakbaaDoor
