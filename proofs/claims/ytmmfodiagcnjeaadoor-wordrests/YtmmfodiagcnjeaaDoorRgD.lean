/-
  A GRAPH THAT IS WORKED ON BY A STATEMENT; made of + and *, told by numbers.
-/
import Derived.Test.YtmmfodiagcnjeaaDoorRgA
import Derived.Test.YtmmfodiagcnjeaaDoorRgC
import Derived.Test.YtmmfodiagcnjeaaDoorCdS
import Derived.Test.YtmmfodiagcnjeaaDoorGrL
namespace Go.Proofs.YtmmfodiagcnjeaaDoor
open Go.RowKit Go.Maps

/-- The sentinels that an operator of words may tell. -/
structure Errs (w : World) : Prop where
  ty : ∃ t q, w.cell? ⟨1, 0, none⟩ = some (.iface t q)
  sh : ∃ t q, w.cell? ⟨2, 0, none⟩ = some (.iface t q)
/-- A graph whose blocks are all new since W. -/
structure Sq (W : World) (G : Nat) (gs : List (Int × Int)) (ins : Nat) (F : Nat → Prop) (w : World) : Prop where
  gr : GrAt G gs ins F w
  bel : Below W.heap.size W w
  lo : ∀ k, F k → W.heap.size ≤ k
theorem Sq.step {W : World} {G : Nat} {gs gs' : List (Int × Int)} {ins ins' : Nat} {F F' : Nat → Prop} {w w' : World} (h : Sq W G gs ins F w) (hm : Mvd F F' w w') (hg : GrAt G gs' ins' F' w') : Sq W G gs' ins' F' w' :=
  ⟨hg, hm.below h.bel h.bel.size h.lo, fun k hk => by
    rcases hm.more k hk with h1 | h1
    · exact h.lo k h1
    · have := h.bel.size; omega⟩
/-- The number of a word. -/
def numW (gs : List (Int × Int)) (inp : List Bool) (l : List Int) : Int := natF (bitsL gs inp l) 8
theorem numW_ext {gs gs' : List (Int × Int)} (h : Ext gs gs') (inp : List Bool) {l : List Int} (hl : l.length = 8) (hH : ∀ x ∈ l, HasL gs x) : numW gs' inp l = numW gs inp l := by
  unfold numW
  refine natF_congr fun i hi => ?_
  have e : l[i]? = some l[i] := List.getElem?_eq_getElem (by omega)
  rw [bitsL_get e, bitsL_get e, h.val inp (hH _ (List.mem_of_getElem? e))]
theorem numW_of {gs gs' : List (Int × Int)} {K : Nat} {l : List Int} {f : List Bool → Nat → Bool} (h : Mads gs gs' K l f) (hl : l.length = 8) (inp : List Bool) : numW gs' inp l = natF (f inp) 8 := by
  unfold numW
  exact natF_congr fun i hi => h.bits inp (by omega)
/-- A word that a statement has made. -/
structure Wd (gs : List (Int × Int)) (F : Nat → Prop) (w : World) (o : Option Addr) (c : Nat) (l : List Int) : Prop where
  at_ : LitsAt F w (.slice o 8 c) l
  len : l.length = 8
  has : ∀ x ∈ l, HasL gs x
theorem Wd.move {gs gs' : List (Int × Int)} {F F' : Nat → Prop} {w w' : World} {o : Option Addr} {c : Nat} {l : List Int} (h : Wd gs F w o c l) (hm : Mvd F F' w w') (he : Ext gs gs') : Wd gs' F' w' o c l := ⟨h.at_.move hm, h.len, fun x hx => (h.has x hx).ext he⟩
theorem Sq.drewR {W : World} {G : Nat} {gs : List (Int × Int)} {ins : Nat} {F : Nat → Prop} {w : World} (h : Sq W G gs ins F w) : Sq W G gs ins F w.drew := ⟨h.gr.drewR, h.bel.drew, h.lo⟩
theorem Wd.drewR {gs : List (Int × Int)} {F : Nat → Prop} {w : World} {o : Option Addr} {c : Nat} {l : List Int} (h : Wd gs F w o c l) : Wd gs F w.drew o c l := h.move (Mvd.refl F w).drewR (Ext.refl _)
theorem Wd.news {gs : List (Int × Int)} {F : Nat → Prop} {w : World} {V c : Nat} {l : List Int} (h : Wd gs F w (some ⟨V, 0, none⟩) c l) : ∀ j u, (l.map (Value.int .i64))[j]? = some u → w.cell? ((⟨V, 0, none⟩ : Addr).add j) = some u := fun j u hj => by
  rw [List.getElem?_map] at hj
  obtain ⟨x, hx, rfl⟩ := Option.map_eq_some_iff.1 hj
  obtain ⟨b, off, e, _, h2⟩ := h.at_.at hx
  obtain ⟨rfl, rfl⟩ : V = b ∧ 0 = off := by simpa using e
  have hadd' : (⟨V, 0, none⟩ : Addr).add j = ⟨V, 0 + j, none⟩ := by unfold Addr.add; split <;> simp_all
  rw [hadd']
  exact (h2 F w (Mvd.refl _ _)).2
theorem ints_one (l : List Int) : ∀ u ∈ l.map (Value.int .i64), u.oneCell' = true := fun u hu => by obtain ⟨x, _, rfl⟩ := List.mem_map.1 hu; rfl
theorem ints_three (w : World) (a b c : Int) : IntsAt (w.alloc (.cells #[.int .i64 a, .int .i64 b, .int .i64 c] 3)) (.slice (some ⟨w.heap.size, 0, none⟩) 3 3) [a, b, c] :=
  ints_of_row (l := [a, b, c]) (c := 3) (heap_alloc_new w _) (by unfold maxLen; simp)
/-- Two words of one number have the same bits. -/
theorem numW_bits {gs : List (Int × Int)} {inp : List Bool} {x y : List Int} (h : numW gs inp x = numW gs inp y) {i : Nat} (hi : i < 8) : bitsL gs inp x i = bitsL gs inp y i := natF_inj h i hi
/-- What 'made' answers, by numbers. -/
def MadeN (W : World) (G : Nat) (gs : List (Int × Int)) (ins K : Nat) (f : List Bool → Int) (F : Nat → Prop) (w : World) (e : Ending) (w' : World) : Prop :=
  ∃ (V : Nat) (out : List Int) (gs' : List (Int × Int)) (F' : Nat → Prop), e = .returned (.slice (some ⟨V, 0, none⟩) 8 8) ∧ Sq W G gs' ins F' w' ∧ Mvd F F' w w' ∧ Ext gs gs' ∧ gs'.length ≤ gs.length + K ∧ Wd gs' F' w' (some ⟨V, 0, none⟩) 8 out ∧ ∀ inp, numW gs' inp out = f inp
theorem madeN_of {W : World} {G : Nat} {gs : List (Int × Int)} {ins K : Nat} {f : List Bool → Nat → Bool} {F : Nat → Prop} {w : World} {e : Ending} {w' : World} (hq : Sq W G gs ins F w) (h : MadeP G gs ins K f F w e w') : MadeN W G gs ins K (fun inp => natF (f inp) 8) F w e w' := by
  obtain ⟨V, out, gs', F', rfl, h1, h2, h3, h4, h5, h6, h7⟩ := h
  have hlit : LitsAt F' w' (.slice (some ⟨V, 0, none⟩) 8 8) out := by have := lits_row (c := 8) h3 h4 (by omega); rw [h1] at this; exact this
  exact ⟨V, out, gs', F', rfl, hq.step h6 h5, h6, h7.ext, h7.len, ⟨hlit, h1, h7.has⟩, fun inp => numW_of h7 h1 inp⟩
theorem MadeN.to {W : World} {G : Nat} {gs : List (Int × Int)} {ins K : Nat} {f g : List Bool → Int} {F : Nat → Prop} {w : World} {e : Ending} {w' : World} (h : MadeN W G gs ins K f F w e w') (hfg : ∀ inp, f inp = g inp) : MadeN W G gs ins K g F w e w' := by
  obtain ⟨V, out, gs', F', h1, h2, h3, h4, h5, h6, h7⟩ := h
  exact ⟨V, out, gs', F', h1, h2, h3, h4, h5, h6, fun inp => (h7 inp).trans (hfg inp)⟩
theorem lplus_any {W : World} (S : Errs W) {G : Nat} {gs : List (Int × Int)} {ins : Nat} {F : Nat → Prop} {w : World} (h : Sq W G gs ins F w) (oa ob : Option Addr) (ca cb : Nat) (x y : List Int) (hx : Wd gs F w oa ca x) (hy : Wd gs F w ob cb y) (hl : gs.length + 72 < 88000) :
    Calls Tryd.prog 20 #[.pointer (some ⟨G, 0, none⟩), .string ⟨#[43]⟩, .slice oa 8 ca, .slice ob 8 cb] w (MadeN W G gs ins 72 (fun inp => (numW gs inp x + numW gs inp y) % 256) F w) := by
  obtain ⟨⟨et, eq, he⟩, ⟨st, sq, hsh⟩⟩ := S
  have := lmade_any h.gr ⟨#[43]⟩ (by decide) _ _ ca cb x y hx.at_ hy.at_ hx.len hy.len hx.has hy.has (by omega) 72 _ (ask_plus hx.len hy.len) (fun F1 w1 o c g1 v1 => value_plus g1 hl o c x y v1 hx.len hy.len hx.has hy.has) et st eq sq (cell_keep h.bel he) (cell_keep h.bel hsh)
  refine this.mono fun e w' hp => (madeN_of h hp).to fun inp => ?_
  have e8 : (2 : Int) ^ 8 = 256 := by decide
  have := sum_mod (bitsL gs inp x) (bitsL gs inp y) false 8
  rw [e8] at this
  rw [this]
  unfold numW
  simp [bI]
theorem ltimes_any {W : World} (S : Errs W) {G : Nat} {gs : List (Int × Int)} {ins : Nat} {F : Nat → Prop} {w : World} (h : Sq W G gs ins F w) (oa ob : Option Addr) (ca cb : Nat) (x y : List Int) (hx : Wd gs F w oa ca x) (hy : Wd gs F w ob cb y) (hl : gs.length + 640 < 88000) :
    Calls Tryd.prog 20 #[.pointer (some ⟨G, 0, none⟩), .string ⟨#[42]⟩, .slice oa 8 ca, .slice ob 8 cb] w (MadeN W G gs ins 640 (fun inp => (numW gs inp x * numW gs inp y) % 256) F w) := by
  obtain ⟨⟨et, eq, he⟩, ⟨st, sq, hsh⟩⟩ := S
  have := lmade_any h.gr ⟨#[42]⟩ (by decide) _ _ ca cb x y hx.at_ hy.at_ hx.len hy.len hx.has hy.has (by omega) 640 _ (ask_times hx.len hy.len) (fun F1 w1 o c g1 v1 => value_times g1 hl o c x y v1 hx.len hy.len hx.has hy.has) et st eq sq (cell_keep h.bel he) (cell_keep h.bel hsh)
  refine this.mono fun e w' hp => (madeN_of h hp).to fun inp => ?_
  have e8 : (2 : Int) ^ 8 = 256 := by decide
  have := prod_nat (bitsL gs inp x) (bitsL gs inp y) 8 8 (Nat.le_refl _)
  rw [e8] at this
  exact this
/-- A product of a sum is a sum of products. -/
theorem ring_mod (a b c : Int) : (a * ((b + c) % 256)) % 256 = ((a * b) % 256 + (a * c) % 256) % 256 ∧ (a * ((b + c) % 256)) % 256 = (((c + b) % 256) * a) % 256 := by
  constructor
  · rw [Int.mul_emod, Int.emod_emod_of_dvd _ (Int.dvd_refl 256), ← Int.mul_emod, ← Int.add_emod, Int.mul_add]
  · rw [Int.add_comm c b, Int.mul_comm]
end Go.Proofs.YtmmfodiagcnjeaaDoor

/-
  lustrumlaw3.WordRing, WALKED: it answers true.
-/
namespace Go.Proofs.YtmmfodiagcnjeaaDoor
open Go.RowKit Go.Maps

theorem wd_inp {F : Nat → Prop} {w : World} {o : Option Addr} {c i n : Nat} (h : LitsAt F w (.slice o (inpW i).length c) (inpW i)) (hi : 8 * i + 8 ≤ n) : Wd (inps n) F w o c (inpW i) :=
  ⟨by rw [inpW_length] at h; exact h, inpW_length i, inpW_has hi⟩
set_option maxRecDepth 100000 in
set_option maxHeartbeats 8000000 in
theorem wordRing_walk (w : World) (S : Errs w) (na nb nc : Int) :
    Calls Tryd.prog 6 #[.int .i64 na, .int .i64 nb, .int .i64 nc] w fun e w' => e = .returned (.bool true) ∧ Below w.heap.size w w' := by
  have HS : Hid (Errs w) := S
  clear S
  go_enter Tryd.func6, Tryd.ntmps6
  go_wp2_with fail
  refine (five_any w).mono ?_
  rintro e w1 ⟨rfl, hb1⟩
  have hg1 := new_graph w1 28
  have hq1 : Sq w w1.heap.size [] 0 (fun k => k = w1.heap.size) (w1.alloc (.cells #[.slice none 0 0, .map none, .int .i64 0] 28)) := ⟨hg1, hb1.alloc hb1.size _, fun k hk => by rw [hk]; exact hb1.size⟩
  obtain ⟨G, hG⟩ : ∃ G, G = w1.heap.size := ⟨_, rfl⟩
  have HW := wordsOf_any hg1 3 (by omega)
  rw [← hG] at hq1 HW
  have HWO : Hid (Calls Tryd.prog 19 #[.pointer (some ⟨G, 0, none⟩), .int .i64 3] (w1.alloc (.cells #[.slice none 0 0, .map none, .int .i64 0] 28)) fun e w' => ∃ (o : Option Addr) (c : Nat) (F' : Nat → Prop), e = .returned (.tuple #[.slice o 3 c, .bool true]) ∧ GrAt G (inps (8 * 3)) (8 * 3) F' w' ∧ Mvd (fun k => k = G) F' (w1.alloc (.cells #[.slice none 0 0, .map none, .int .i64 0] 28)) w' ∧ WordsAt F' w' (.slice o 3 c) ((List.range 3).map inpW)) := HW
  have HQ1 : Hid (Sq w G [] 0 (fun k => k = G) (w1.alloc (.cells #[.slice none 0 0, .map none, .int .i64 0] 28))) := hq1
  have HGE : Hid (w1.heap.size = G) := hG.symm
  clear hg1 hq1 HW hG hb1
  go_wp2_with fail
  rw [HGE.out]
  refine HWO.out.mono ?_
  rintro e w2 ⟨qo, qc, F2, rfl, g2, m2, hws⟩
  obtain ⟨qb, qf, o0, c0, rfl, hnq, q0, l0⟩ := hws.get (k := 0) rfl
  obtain ⟨qb', qf', o1, c1, e1, _, q1, l1⟩ := hws.get (k := 1) rfl
  obtain ⟨rfl, rfl⟩ : qb = qb' ∧ qf = qf' := by simpa using e1
  obtain ⟨qb', qf', o2, c2, e2, _, q2, l2⟩ := hws.get (k := 2) rfl
  obtain ⟨rfl, rfl⟩ : qb = qb' ∧ qf = qf' := by simpa using e2
  have HQ2 : Hid (Sq w G (inps 24) 24 F2 w2) := HQ1.out.step m2 g2
  have W0 : Hid (Wd (inps 24) F2 w2 o0 c0 (inpW 0)) := wd_inp l0 (by omega)
  have W1 : Hid (Wd (inps 24) F2 w2 o1 c1 (inpW 1)) := wd_inp l1 (by omega)
  have W2 : Hid (Wd (inps 24) F2 w2 o2 c2 (inpW 2)) := wd_inp l2 (by omega)
  have HNQ : Hid (¬ F2 qb) := hnq
  rw [inpW_length] at q0 q1 q2
  rw [Nat.add_zero] at q0
  clear g2 m2 hws l0 l1 l2 e1 e2 hnq HWO HQ1
  have L24 : Hid ((inps 24).length = 24) := inps_length 24
  go_wp2
  go_region_held3 (fun w' => w'.cell? ⟨qb, qf, none⟩ = some (.slice o0 8 c0) ∧ w'.cell? ⟨qb, qf + 1, none⟩ = some (.slice o1 8 c1) ∧ w'.cell? ⟨qb, qf + 2, none⟩ = some (.slice o2 8 c2)) ((first | go_keep | exact ⟨t0.1, t1.1, t2.1⟩ | exact ⟨r0.1, r1.1, r2.1⟩))
    (first
      | (go_at_call 20; refine (ltimes_any HS.out HQ3.out _ _ _ _ (inpW 0) p1 W03.out P13.out (by have := L3.out; omega)).mono ?_; rintro e w4 ⟨VL, lL, gs4, F4, rfl, Q4, M4, E4, N4, D4, X4⟩; have t0 := M4.cell (by exact r0.1) r0.2; have t1 := M4.cell (by exact r1.1) r1.2; have t2 := M4.cell (by exact r2.1) r2.2)
      | (go_at_call 20; refine (lplus_any HS.out HQ2.out.drewR _ _ _ _ (inpW 1) (inpW 2) W1.out.drewR W2.out.drewR (by have := L24.out; omega)).mono ?_; rintro e w3 ⟨V1, p1, gs3, F3, rfl, Q3, M3, E3, N3, D3, X3⟩; have r0 := M3.cell (by exact q0) HNQ.out; have r1 := M3.cell (by exact q1) HNQ.out; have r2 := M3.cell (by exact q2) HNQ.out; have HQ3 : Hid (Sq w G gs3 24 F3 w3) := Q3; have W03 : Hid (Wd gs3 F3 w3 o0 c0 (inpW 0)) := W0.out.move M3.undrew E3; have P13 : Hid (Wd gs3 F3 w3 (some ⟨V1, 0, none⟩) 8 p1) := D3; have L3 : Hid (gs3.length ≤ 96) := (by have := L24.out; unfold Hid; omega)))
  have E24 : Ext (inps 24) gs4 := E3.trans E4
  have M24 : Mvd F2 F4 w2 w4 := M3.undrew.trans M4
  have HQ4 : Hid (Sq w G gs4 24 F4 w4) := Q4
  have U0 : Hid (Wd gs4 F4 w4 o0 c0 (inpW 0)) := W0.out.move M24 E24
  have U1 : Hid (Wd gs4 F4 w4 o1 c1 (inpW 1)) := W1.out.move M24 E24
  have U2 : Hid (Wd gs4 F4 w4 o2 c2 (inpW 2)) := W2.out.move M24 E24
  have DL : Hid (Wd gs4 F4 w4 (some ⟨VL, 0, none⟩) 8 lL) := D4
  have XE4 : Hid (Ext (inps 24) gs4) := E24
  have XL : Hid (∀ inp, numW gs4 inp lL = (numW (inps 24) inp (inpW 0) * ((numW (inps 24) inp (inpW 1) + numW (inps 24) inp (inpW 2)) % 256)) % 256) := fun inp => by rw [X4 inp, X3 inp, numW_ext E3 inp (inpW_length 0) W0.out.has]
  have L4 : Hid (gs4.length ≤ 740) := by have := L3.out; unfold Hid; omega
  have HN4 : Hid (¬ F4 qb) := t0.2
  have q0 := t0.1
  have q1 := t1.1
  have q2 := t2.1
  clear E24 M24 Q4 D4 X4 X3 N4 E4 M4 Q3 M3 E3 N3 D3 r0 r1 r2 HQ3 W03 P13 L3 t0 t1 t2 W0 W1 W2 HQ2 HNQ
  rename_i hheld
  clear hheld
  go_wp2
  go_region_held3 (fun w' => w'.cell? ⟨qb, qf, none⟩ = some (.slice o0 8 c0) ∧ w'.cell? ⟨qb, qf + 1, none⟩ = some (.slice o1 8 c1) ∧ w'.cell? ⟨qb, qf + 2, none⟩ = some (.slice o2 8 c2)) ((first | go_keep | exact ⟨u0.1, u1.1, u2.1⟩ | exact ⟨t0.1, t1.1, t2.1⟩ | exact ⟨r0.1, r1.1, r2.1⟩))
    (first
      | (go_at_call 20; refine (lplus_any HS.out HQ6.out _ _ _ _ p2 p3 P26.out P36.out (by have := L6.out; omega)).mono ?_; rintro e w7 ⟨VR, lR, gs7, F7, rfl, Q7, M7, E7, N7, D7, X7⟩; have u0 := M7.cell t0.1 t0.2; have u1 := M7.cell t1.1 t1.2; have u2 := M7.cell t2.1 t2.2)
      | (go_at_call 20; refine (ltimes_any HS.out HQ5.out _ _ _ _ (inpW 0) (inpW 2) W05.out W25.out (by have := L5.out; omega)).mono ?_; rintro e w6 ⟨V3, p3, gs6, F6, rfl, Q6, M6, E6, N6, D6, X6⟩; have t0 := M6.cell r0.1 r0.2; have t1 := M6.cell r1.1 r1.2; have t2 := M6.cell r2.1 r2.2; have HQ6 : Hid (Sq w G gs6 24 F6 w6) := Q6; have P26 : Hid (Wd gs6 F6 w6 (some ⟨V2, 0, none⟩) 8 p2) := P25.out.move M6 E6; have P36 : Hid (Wd gs6 F6 w6 (some ⟨V3, 0, none⟩) 8 p3) := D6; have L6 : Hid (gs6.length ≤ 2020) := (by have := L5.out; unfold Hid; omega))
      | (go_at_call 20; refine (ltimes_any HS.out HQ4.out.drewR _ _ _ _ (inpW 0) (inpW 1) U0.out.drewR U1.out.drewR (by have := L4.out; omega)).mono ?_; rintro e w5 ⟨V2, p2, gs5, F5, rfl, Q5, M5, E5, N5, D5, X5⟩; have r0 := M5.cell (by exact q0) HN4.out; have r1 := M5.cell (by exact q1) HN4.out; have r2 := M5.cell (by exact q2) HN4.out; have HQ5 : Hid (Sq w G gs5 24 F5 w5) := Q5; have W05 : Hid (Wd gs5 F5 w5 o0 c0 (inpW 0)) := U0.out.move M5.undrew E5; have W25 : Hid (Wd gs5 F5 w5 o2 c2 (inpW 2)) := U2.out.move M5.undrew E5; have P25 : Hid (Wd gs5 F5 w5 (some ⟨V2, 0, none⟩) 8 p2) := D5; have L5 : Hid (gs5.length ≤ 1380) := (by have := L4.out; unfold Hid; omega)))
  have E47 : Ext gs4 gs7 := (E5.trans E6).trans E7
  have M47 : Mvd F4 F7 w4 w7 := (M5.undrew.trans M6).trans M7
  have HQ7 : Hid (Sq w G gs7 24 F7 w7) := Q7
  have T0 : Hid (Wd gs7 F7 w7 o0 c0 (inpW 0)) := U0.out.move M47 E47
  have T1 : Hid (Wd gs7 F7 w7 o1 c1 (inpW 1)) := U1.out.move M47 E47
  have T2 : Hid (Wd gs7 F7 w7 o2 c2 (inpW 2)) := U2.out.move M47 E47
  have DL7 : Hid (Wd gs7 F7 w7 (some ⟨VL, 0, none⟩) 8 lL) := DL.out.move M47 E47
  have DR7 : Hid (Wd gs7 F7 w7 (some ⟨VR, 0, none⟩) 8 lR) := D7
  have XE7 : Hid (Ext (inps 24) gs7) := XE4.out.trans E47
  have XL7 : Hid (∀ inp, numW gs7 inp lL = (numW (inps 24) inp (inpW 0) * ((numW (inps 24) inp (inpW 1) + numW (inps 24) inp (inpW 2)) % 256)) % 256) := fun inp => by rw [numW_ext E47 inp DL.out.len DL.out.has, XL.out inp]
  have XR7 : Hid (∀ inp, numW gs7 inp lR = ((numW (inps 24) inp (inpW 0) * numW (inps 24) inp (inpW 1)) % 256 + (numW (inps 24) inp (inpW 0) * numW (inps 24) inp (inpW 2)) % 256) % 256) := fun inp => by
    rw [X7 inp, numW_ext E6 inp D5.len D5.has, X5 inp, X6 inp, numW_ext E5 inp (inpW_length 0) U0.out.has, numW_ext E5 inp (inpW_length 2) U2.out.has, numW_ext XE4.out inp (inpW_length 0) (inpW_has (by omega)), numW_ext XE4.out inp (inpW_length 1) (inpW_has (by omega)), numW_ext XE4.out inp (inpW_length 2) (inpW_has (by omega))]
  have L7 : Hid (gs7.length ≤ 2100) := by have := L6.out; unfold Hid; omega
  have HN7 : Hid (¬ F7 qb) := u0.2
  have q0 := u0.1
  have q1 := u1.1
  have q2 := u2.1
  clear E47 M47 Q7 D7 X7 X6 X5 N7 N6 N5 E7 E6 E5 M7 M6 M5 Q6 Q5 D6 D5 r0 r1 r2 t0 t1 t2 u0 u1 u2 HQ5 HQ6 W05 W25 P25 P26 P36 L5 L6 U0 U1 U2 HQ4 HN4 DL XL L4 XE4
  rename_i hheld
  clear hheld
  go_wp2
  go_region_held3 (fun w' => w'.cell? ⟨qb, qf, none⟩ = some (.slice o0 8 c0) ∧ w'.cell? ⟨qb, qf + 1, none⟩ = some (.slice o1 8 c1) ∧ w'.cell? ⟨qb, qf + 2, none⟩ = some (.slice o2 8 c2)) ((first | go_keep | exact ⟨t0.1, t1.1, t2.1⟩ | exact ⟨r0.1, r1.1, r2.1⟩))
    (first
      | (go_at_call 20; refine (ltimes_any HS.out HQ8.out _ _ _ _ p4 (inpW 0) P48.out W08.out (by have := L8.out; omega)).mono ?_; rintro e w9 ⟨VO, lO, gs9, F9, rfl, Q9, M9, E9, N9, D9, X9⟩; have t0 := M9.cell r0.1 r0.2; have t1 := M9.cell r1.1 r1.2; have t2 := M9.cell r2.1 r2.2)
      | (go_at_call 20; refine (lplus_any HS.out HQ7.out.drewR _ _ _ _ (inpW 2) (inpW 1) T2.out.drewR T1.out.drewR (by have := L7.out; omega)).mono ?_; rintro e w8 ⟨V4, p4, gs8, F8, rfl, Q8, M8, E8, N8, D8, X8⟩; have r0 := M8.cell (by exact q0) HN7.out; have r1 := M8.cell (by exact q1) HN7.out; have r2 := M8.cell (by exact q2) HN7.out; have HQ8 : Hid (Sq w G gs8 24 F8 w8) := Q8; have W08 : Hid (Wd gs8 F8 w8 o0 c0 (inpW 0)) := T0.out.move M8.undrew E8; have P48 : Hid (Wd gs8 F8 w8 (some ⟨V4, 0, none⟩) 8 p4) := D8; have L8 : Hid (gs8.length ≤ 2180) := (by have := L7.out; unfold Hid; omega)))
  have E79 : Ext gs7 gs9 := E8.trans E9
  have M79 : Mvd F7 F9 w7 w9 := M8.undrew.trans M9
  have HQ9 : Hid (Sq w G gs9 24 F9 w9) := Q9
  have DL9 : Hid (Wd gs9 F9 w9 (some ⟨VL, 0, none⟩) 8 lL) := DL7.out.move M79 E79
  have DR9 : Hid (Wd gs9 F9 w9 (some ⟨VR, 0, none⟩) 8 lR) := DR7.out.move M79 E79
  have DO9 : Hid (Wd gs9 F9 w9 (some ⟨VO, 0, none⟩) 8 lO) := D9
  have XE9 : Hid (Ext (inps 24) gs9) := XE7.out.trans E79
  have XX : Hid (∀ inp, numW gs9 inp lL = numW gs9 inp lR ∧ numW gs9 inp lL = numW gs9 inp lO) := fun inp => by
    have hr := ring_mod (numW (inps 24) inp (inpW 0)) (numW (inps 24) inp (inpW 1)) (numW (inps 24) inp (inpW 2))
    have hL := (numW_ext E79 inp DL7.out.len DL7.out.has).trans (XL7.out inp)
    have hR := (numW_ext E79 inp DR7.out.len DR7.out.has).trans (XR7.out inp)
    have hO : numW gs9 inp lO = (((numW (inps 24) inp (inpW 2) + numW (inps 24) inp (inpW 1)) % 256) * numW (inps 24) inp (inpW 0)) % 256 := by
      rw [X9 inp, X8 inp, numW_ext E8 inp (inpW_length 0) T0.out.has, numW_ext XE7.out inp (inpW_length 0) (inpW_has (by omega)), numW_ext XE7.out inp (inpW_length 1) (inpW_has (by omega)), numW_ext XE7.out inp (inpW_length 2) (inpW_has (by omega))]
    exact ⟨by rw [hL, hR, hr.1], by rw [hL, hO, hr.2]⟩
  have L9 : Hid (gs9.length ≤ 2900) := by have := L8.out; unfold Hid; omega
  clear E79 M79 Q9 D9 X9 X8 N9 N8 E9 E8 M9 M8 Q8 D8 r0 r1 r2 t0 t1 t2 HQ8 W08 P48 L8 T0 T1 T2 HQ7 HN7 DL7 DR7 XL7 XR7 L7 XE7 q0 q1 q2
  rename_i hheld
  clear hheld
  obtain ⟨i0, hi0, hz0, hz1, hz2⟩ := info_parts Tryd.infoLit
  have LL : Hid ((lL.map (Value.int .i64)).length = 8 * 1) := by unfold Hid; rw [List.length_map, DL9.out.len]
  have LR : Hid ((lR.map (Value.int .i64)).length = 8 * 1) := by unfold Hid; rw [List.length_map, DR9.out.len]
  have LO : Hid ((lO.map (Value.int .i64)).length = 8 * 1) := by unfold Hid; rw [List.length_map, DO9.out.len]
  have M8 : Hid (0 + 8 ≤ maxLen ∧ (0 + 8) * 8 ≤ 140737488355328 ∧ 0 + 8 + 8 ≤ maxLen ∧ (0 + 8 + 8) * 8 ≤ 140737488355328 ∧ 0 + 8 + 8 + 8 ≤ maxLen ∧ (0 + 8 + 8 + 8) * 8 ≤ 140737488355328) := by unfold Hid maxLen; omega
  have MM9 : Hid (Mvd F9 F9 w9 w9) := Mvd.refl _ _
  have GG9 : Hid (GrAt G gs9 24 F9 w9) := HQ9.out.gr
  have LF : Hid (∀ k, w9.heap.size ≤ k → ¬ F9 k) := fun k hk hf => by have := HQ9.out.gr.2.2.1 k hf; omega
  have IL : Hid (∀ x ∈ lL ++ lR ++ lO, HasL gs9 x) := fun x hx => by
    rcases List.mem_append.1 hx with hx | hx
    · rcases List.mem_append.1 hx with hx | hx
      · exact DL9.out.has x hx
      · exact DR9.out.has x hx
    · exact DO9.out.has x hx
  go_wp2_with (first
    | (at_builtin; refine wpList_append_lies _ rfl _ _ 31 rfl w9.heap.size 34 i0 _ 1 8 Tryd.underlying31 hi0 hz0 hz1 hz2 rfl (by omega) (.slice (some ⟨g2, 0, none⟩) 16 cap2) 16 _ rfl A2.out ⟨VO, 0, none⟩ 8 8 (lO.map (Value.int .i64)) rfl LO.out DO11.out.news (ints_one _) (by omega) M8.out.2.2.2.2.1 M8.out.2.2.2.2.2 S2.out _ rfl ?_; intro g3 cap3 wc hown3 hgrow3 hat3 hlt3; have R2 : ∀ k, (Value.slice (some ⟨g2, 0, none⟩) 16 cap2).ownBlock = some k → w9.heap.size ≤ k := (fun k hk => (A2.out.lt k hk).1); have MC : Hid (Mvd F9 F9 w9 wc) := grown_mvd MB.out hgrow3 R2; have GC : Hid (GrAt G gs9 24 F9 wc) := grown_gr GB.out hgrow3 (fun k hk => LF.out k (R2 k hk)); have A3 : Hid (wc.ownsRow w9.heap.size 34 1 (.slice (some ⟨g3, 0, none⟩) 24 cap3) 24 ((lL ++ lR ++ lO).map (Value.int .i64))) := (by unfold Hid; rw [List.map_append, List.map_append]; exact hown3); clear hown3 hgrow3 hat3 hlt3 R2)
    | (at_builtin; refine wpList_append_lies _ rfl _ _ 31 rfl w9.heap.size 34 i0 _ 1 8 Tryd.underlying31 hi0 hz0 hz1 hz2 rfl (by omega) (.slice (some ⟨g1, 0, none⟩) 8 cap1) 8 _ rfl A1.out ⟨VR, 0, none⟩ 8 8 (lR.map (Value.int .i64)) rfl LR.out DR10.out.news (ints_one _) (by omega) M8.out.2.2.1 M8.out.2.2.2.1 S1.out _ rfl ?_; intro g2 cap2 wb hown2 hgrow2 hat2 hlt2; have R1 : ∀ k, (Value.slice (some ⟨g1, 0, none⟩) 8 cap1).ownBlock = some k → w9.heap.size ≤ k := (fun k hk => (A1.out.lt k hk).1); have MB : Hid (Mvd F9 F9 w9 wb) := grown_mvd MA.out hgrow2 R1; have GB : Hid (GrAt G gs9 24 F9 wb) := grown_gr GA.out hgrow2 (fun k hk => LF.out k (R1 k hk)); have A2 : Hid (wb.ownsRow w9.heap.size 34 1 (.slice (some ⟨g2, 0, none⟩) 16 cap2) 16 (lL.map (Value.int .i64) ++ lR.map (Value.int .i64))) := hown2; have S2 : Hid (w9.heap.size ≤ wb.heap.size) := MB.out.size; have DO11 : Hid (Wd gs9 F9 wb (some ⟨VO, 0, none⟩) 8 lO) := DO9.out.move MB.out (Ext.refl _); clear hown2 hgrow2 hat2 hlt2 R1)
    | (at_builtin; refine wpList_append_lies _ rfl _ _ 31 rfl w9.heap.size 34 i0 _ 1 8 Tryd.underlying31 hi0 hz0 hz1 hz2 rfl (by omega) (.slice none 0 0) 0 [] rfl (World.ownsRow_nil _ _ _ _) ⟨VL, 0, none⟩ 8 8 (lL.map (Value.int .i64)) rfl LL.out DL9.out.news (ints_one _) (by omega) M8.out.1 M8.out.2.1 (Nat.le_refl _) _ rfl ?_; intro g1 cap1 wa hown1 hgrow1 hat1 hlt1; have MA : Hid (Mvd F9 F9 w9 wa) := grown_mvd MM9.out hgrow1 (fun k hk => by simp [Value.ownBlock] at hk); have GA : Hid (GrAt G gs9 24 F9 wa) := grown_gr GG9.out hgrow1 (fun k hk => by simp [Value.ownBlock] at hk); have A1 : Hid (wa.ownsRow w9.heap.size 34 1 (.slice (some ⟨g1, 0, none⟩) 8 cap1) 8 (lL.map (Value.int .i64))) := hown1; have S1 : Hid (w9.heap.size ≤ wa.heap.size) := MA.out.size; have DR10 : Hid (Wd gs9 F9 wa (some ⟨VR, 0, none⟩) 8 lR) := DR9.out.move MA.out (Ext.refl _); clear hown1 hgrow1 hat1 hlt1)
    | (go_at_call 21; fail))
  refine (lbits_any _ _ 3 3 [na, nb, nc] (ints_three wc na nb nc) rfl (by omega)).mono ?_
  rintro e wd ⟨bo, bc, rfl, hbits, hbd⟩
  have hlen : (lL ++ lR ++ lO).length = 24 := by rw [List.length_append, List.length_append, DL9.out.len, DR9.out.len, DO9.out.len]
  have hbw : Below wc.heap.size wc wd := ((Below.refl _ _).alloc (Nat.le_refl _) _).trans (hbd.mono (by simp))
  have hmd : Mvd F9 F9 w9 wd := MC.out.trans (Mvd.of_below hbw)
  have hown := owns_keep A3.out (fun k hk => hbw.block k ((A3.out.lt k hk).2))
  have hev := eval_ok (GC.out.below hbw) (by have := L9.out; omega) _ (bitsAll [na, nb, nc]) hbits _ (lL ++ lR ++ lO) (ints_of_owns hown hlen (by unfold maxLen; omega)) (fun x hx => (IL.out x hx).i64 (by have := L9.out; omega)) (by rw [bitsAll_length]; rfl) (by rw [XE9.out.cnt, inps_cnt, bitsAll_length]; rfl) (by rw [List.all_eq_true]; intro x hx; exact hasB_t (IL.out x hx)) (by omega)
  rw [hlen] at hev
  have HEV : Hid (Calls Tryd.prog 18 #[.pointer (some ⟨G, 0, none⟩), .slice bo (8 * 3) bc, .slice (some ⟨g3, 0, none⟩) 24 cap3] wd fun e w' => ∃ O, e = .returned (.tuple #[.slice (some ⟨O, 0, none⟩) 24 24, .nilIface]) ∧ w'.heap[O]? = some (.cells (rowB ((lL ++ lR ++ lO).map (litV (valsOf gs9 (bitsAll [na, nb, nc]))))) 4 (0, 0)) ∧ wd.heap.size ≤ O ∧ Below wd.heap.size wd w') := hev
  have HBD : Hid (Below w.heap.size w wd) := hmd.below HQ9.out.bel HQ9.out.bel.size HQ9.out.lo
  have HB3 : Hid (∀ i, i < 8 → ∃ x : Bool, ((lL ++ lR ++ lO).map (litV (valsOf gs9 (bitsAll [na, nb, nc]))))[i]? = some x ∧ ((lL ++ lR ++ lO).map (litV (valsOf gs9 (bitsAll [na, nb, nc]))))[8 + i]? = some x ∧ ((lL ++ lR ++ lO).map (litV (valsOf gs9 (bitsAll [na, nb, nc]))))[16 + i]? = some x) := fun i hi => by
    have hx := XX.out (bitsAll [na, nb, nc])
    have k1 := numW_bits hx.1 hi
    have k2 := numW_bits hx.2 hi
    obtain ⟨x1, e1⟩ : ∃ x1, lL[i]? = some x1 := ⟨_, List.getElem?_eq_getElem (by rw [DL9.out.len]; exact hi)⟩
    obtain ⟨x2, e2⟩ : ∃ x2, lR[i]? = some x2 := ⟨_, List.getElem?_eq_getElem (by rw [DR9.out.len]; exact hi)⟩
    obtain ⟨x3, e3⟩ : ∃ x3, lO[i]? = some x3 := ⟨_, List.getElem?_eq_getElem (by rw [DO9.out.len]; exact hi)⟩
    rw [bitsL_get e1, bitsL_get e2] at k1
    rw [bitsL_get e1, bitsL_get e3] at k2
    refine ⟨valL gs9 (bitsAll [na, nb, nc]) x1, ?_, ?_, ?_⟩
    · rw [List.getElem?_map, List.append_assoc, List.getElem?_append_left (by rw [DL9.out.len]; exact hi), e1]; rfl
    · rw [List.getElem?_map, List.append_assoc, List.getElem?_append_right (by rw [DL9.out.len]; omega), DL9.out.len, Nat.add_sub_cancel_left, List.getElem?_append_left (by rw [DR9.out.len]; exact hi), e2, k1]; rfl
    · have hlr : (lL ++ lR).length = 16 := by rw [List.length_append, DL9.out.len, DR9.out.len]
      rw [List.getElem?_map, List.getElem?_append_right (by rw [hlr]; omega), hlr, Nat.add_sub_cancel_left, e3, k2]; rfl
  clear hbits hbd hlen hbw hmd hown hev A1 A2 A3 MA MB MC GA GB GC S1 S2 DR10 DO11 DL9 DR9 DO9 XX XE9 LL LR LO M8 MM9 GG9 LF IL L9 HQ9 hi0 hz0 hz1 hz2
  go_wp2_with fail
  refine HEV.out.mono ?_
  rintro e we ⟨O, rfl, hO, hOl, hbe⟩
  obtain ⟨L, hL⟩ : ∃ L, L = (lL ++ lR ++ lO).map (litV (valsOf gs9 (bitsAll [na, nb, nc]))) := ⟨_, rfl⟩
  rw [← hL] at hO HB3
  have HO : Hid (we.heap[O]? = some (.cells (rowB L) 4 (0, 0))) := hO
  have HBE : Hid (Below w.heap.size w we) := HBD.out.trans (hbe.mono HBD.out.size)
  clear hL hO hOl hbe HEV
  go_wp2
  go_loopw [17] (fun t wr => ∃ j : Nat, j ≤ 8 ∧ t = .int .i64 j ∧ Below we.heap.size we wr) (fun t _ => 8 - (intOf t).toNat)
  case atStart => exact ⟨0, Nat.zero_le _, rfl, Below.refl _ _⟩
  case round =>
    obtain ⟨j, hj, rfl, hbr⟩ := hrel
    have HBR : Hid (Below we.heap.size we wr) := hbr
    by_cases hjl : j < 8
    · obtain ⟨x, h0, h1, h2⟩ := HB3.out j hjl
      have hr := row_keep hbr HO.out
      have z0 : wr.cell? ⟨O, j, none⟩ = some (.bool x) := by rw [cell_of_row wr O _ _ _ (0, 0) hr]; exact rowB_get h0
      have z1 : wr.cell? ⟨O, 8 + j, none⟩ = some (.bool x) := by rw [cell_of_row wr O _ _ _ (0, 0) hr]; exact rowB_get h1
      have z2 : wr.cell? ⟨O, 16 + j, none⟩ = some (.bool x) := by rw [cell_of_row wr O _ _ _ (0, 0) hr]; exact rowB_get h2
      have i0' : (0 : Int) ≤ (j : Int) := by omega
      have i1' : (j : Int) < 8 := by omega
      have i2' : (j : Int) < 24 := by omega
      have i3' : (0 : Int) ≤ 8 + (j : Int) := by omega
      have i4' : 8 + (j : Int) < 24 := by omega
      have i5' : (0 : Int) ≤ 16 + (j : Int) := by omega
      have i6' : 16 + (j : Int) < 24 := by omega
      have w1' : wrap64 (8 + (j : Int)) = 8 + (j : Int) := by unfold wrap64; omega
      have w2' : wrap64 (16 + (j : Int)) = 16 + (j : Int) := by unfold wrap64; omega
      have n1 : (8 + (j : Int)).toNat = 8 + j := by omega
      have n2 : (16 + (j : Int)).toNat = 16 + j := by omega
      have HJ : Hid (j < 8) := hjl
      clear hj hjl hbr hr h0 h1 h2
      go_wp2
      go_quiet (fail)
      go_wp2
      exact ⟨⟨j + 1, HJ.out, rfl, ⟨HBR.out.os, HBR.out.tape, HBR.out.output, HBR.out.size, HBR.out.block⟩⟩, by have := HJ.out; simp [intOf]; omega⟩
    · obtain rfl : j = 8 := by omega
      clear hj hjl hbr
      go_wp2
      go_ret
      exact ⟨rfl, HBE.out.trans (HBR.out.mono HBE.out.size)⟩
end Go.Proofs.YtmmfodiagcnjeaaDoor
