/-
  A GRAPH THAT IS WORKED ON BY A STATEMENT; made of + and *, told by numbers.
-/
import Derived.Test.YtpiglmaojonbnaaDoorP40
import Derived.Test.YtpiglmaojonbnaaDoorP41
namespace Go.Proofs.YtpiglmaojonbnaaDoor
open Go.RowKit Go.Maps

/-- The sentinels that an operator of words may tell. -/
structure Errs (w : World) : Prop where
  ty : ∃ t q, w.cell? ⟨4, 0, none⟩ = some (.iface t q)
  sh : ∃ t q, w.cell? ⟨1, 0, none⟩ = some (.iface t q)
/-- A graph whose blocks are all new since W. -/
structure Sq (W : World) (G : Nat) (gs : List (Int × Int)) (ins : Nat) (F : Nat → Prop) (w : World) : Prop where
  gr : GrAt G gs ins F w
  bel : Below W.heap.size W w
  lo : ∀ k, F k → W.heap.size ≤ k
theorem Sq.step {W : World} {G : Nat} {gs gs' : List (Int × Int)} {ins ins' : Nat} {F F' : Nat → Prop} {w w' : World} (h : Sq W G gs ins F w) (hm : Mvd F F' w w') (hg : GrAt G gs' ins' F' w') : Sq W G gs' ins' F' w' :=
  ⟨hg, hm.below h.bel h.bel.size h.lo, fun k hk => by
    rcases hm.more k hk with h1 | h1
    · exact h.lo k h1
    · have := h.bel.size; omega⟩
/-- The number of a word. -/
def numW (gs : List (Int × Int)) (inp : List Bool) (l : List Int) : Int := natF (bitsL gs inp l) 8
theorem numW_ext {gs gs' : List (Int × Int)} (h : Ext gs gs') (inp : List Bool) {l : List Int} (hl : l.length = 8) (hH : ∀ x ∈ l, HasL gs x) : numW gs' inp l = numW gs inp l := by
  unfold numW
  refine natF_congr fun i hi => ?_
  have e : l[i]? = some l[i] := List.getElem?_eq_getElem (by omega)
  rw [bitsL_get e, bitsL_get e, h.val inp (hH _ (List.mem_of_getElem? e))]
theorem numW_of {gs gs' : List (Int × Int)} {K : Nat} {l : List Int} {f : List Bool → Nat → Bool} (h : Mads gs gs' K l f) (hl : l.length = 8) (inp : List Bool) : numW gs' inp l = natF (f inp) 8 := by
  unfold numW
  exact natF_congr fun i hi => h.bits inp (by omega)
/-- A word that a statement has made. -/
structure Wd (gs : List (Int × Int)) (F : Nat → Prop) (w : World) (o : Option Addr) (c : Nat) (l : List Int) : Prop where
  at_ : LitsAt F w (.slice o 8 c) l
  len : l.length = 8
  has : ∀ x ∈ l, HasL gs x
theorem Wd.move {gs gs' : List (Int × Int)} {F F' : Nat → Prop} {w w' : World} {o : Option Addr} {c : Nat} {l : List Int} (h : Wd gs F w o c l) (hm : Mvd F F' w w') (he : Ext gs gs') : Wd gs' F' w' o c l := ⟨h.at_.move hm, h.len, fun x hx => (h.has x hx).ext he⟩
theorem Sq.drewR {W : World} {G : Nat} {gs : List (Int × Int)} {ins : Nat} {F : Nat → Prop} {w : World} (h : Sq W G gs ins F w) : Sq W G gs ins F w.drew := ⟨h.gr.drewR, h.bel.drew, h.lo⟩
theorem Wd.drewR {gs : List (Int × Int)} {F : Nat → Prop} {w : World} {o : Option Addr} {c : Nat} {l : List Int} (h : Wd gs F w o c l) : Wd gs F w.drew o c l := h.move (Mvd.refl F w).drewR (Ext.refl _)
theorem Wd.news {gs : List (Int × Int)} {F : Nat → Prop} {w : World} {V c : Nat} {l : List Int} (h : Wd gs F w (some ⟨V, 0, none⟩) c l) : ∀ j u, (l.map (Value.int .i64))[j]? = some u → w.cell? ((⟨V, 0, none⟩ : Addr).add j) = some u := fun j u hj => by
  rw [List.getElem?_map] at hj
  obtain ⟨x, hx, rfl⟩ := Option.map_eq_some_iff.1 hj
  obtain ⟨b, off, e, _, h2⟩ := h.at_.at hx
  obtain ⟨rfl, rfl⟩ : V = b ∧ 0 = off := by simpa using e
  have hadd' : (⟨V, 0, none⟩ : Addr).add j = ⟨V, 0 + j, none⟩ := by unfold Addr.add; split <;> simp_all
  rw [hadd']
  exact (h2 F w (Mvd.refl _ _)).2
theorem ints_one (l : List Int) : ∀ u ∈ l.map (Value.int .i64), u.oneCell' = true := fun u hu => by obtain ⟨x, _, rfl⟩ := List.mem_map.1 hu; rfl
theorem ints_three (w : World) (a b c : Int) : IntsAt (w.alloc (.cells #[.int .i64 a, .int .i64 b, .int .i64 c] 3)) (.slice (some ⟨w.heap.size, 0, none⟩) 3 3) [a, b, c] :=
  ints_of_row (l := [a, b, c]) (c := 3) (heap_alloc_new w _) (by unfold maxLen; simp)
/-- Two words of one number have the same bits. -/
theorem numW_bits {gs : List (Int × Int)} {inp : List Bool} {x y : List Int} (h : numW gs inp x = numW gs inp y) {i : Nat} (hi : i < 8) : bitsL gs inp x i = bitsL gs inp y i := natF_inj h i hi
/-- What 'made' answers, by numbers. -/
def MadeN (W : World) (G : Nat) (gs : List (Int × Int)) (ins K : Nat) (f : List Bool → Int) (F : Nat → Prop) (w : World) (e : Ending) (w' : World) : Prop :=
  ∃ (V : Nat) (out : List Int) (gs' : List (Int × Int)) (F' : Nat → Prop), e = .returned (.slice (some ⟨V, 0, none⟩) 8 8) ∧ Sq W G gs' ins F' w' ∧ Mvd F F' w w' ∧ Ext gs gs' ∧ gs'.length ≤ gs.length + K ∧ Wd gs' F' w' (some ⟨V, 0, none⟩) 8 out ∧ ∀ inp, numW gs' inp out = f inp
theorem madeN_of {W : World} {G : Nat} {gs : List (Int × Int)} {ins K : Nat} {f : List Bool → Nat → Bool} {F : Nat → Prop} {w : World} {e : Ending} {w' : World} (hq : Sq W G gs ins F w) (h : MadeP G gs ins K f F w e w') : MadeN W G gs ins K (fun inp => natF (f inp) 8) F w e w' := by
  obtain ⟨V, out, gs', F', rfl, h1, h2, h3, h4, h5, h6, h7⟩ := h
  have hlit : LitsAt F' w' (.slice (some ⟨V, 0, none⟩) 8 8) out := by have := lits_row (c := 8) h3 h4 (by omega); rw [h1] at this; exact this
  exact ⟨V, out, gs', F', rfl, hq.step h6 h5, h6, h7.ext, h7.len, ⟨hlit, h1, h7.has⟩, fun inp => numW_of h7 h1 inp⟩
theorem MadeN.to {W : World} {G : Nat} {gs : List (Int × Int)} {ins K : Nat} {f g : List Bool → Int} {F : Nat → Prop} {w : World} {e : Ending} {w' : World} (h : MadeN W G gs ins K f F w e w') (hfg : ∀ inp, f inp = g inp) : MadeN W G gs ins K g F w e w' := by
  obtain ⟨V, out, gs', F', h1, h2, h3, h4, h5, h6, h7⟩ := h
  exact ⟨V, out, gs', F', h1, h2, h3, h4, h5, h6, fun inp => (h7 inp).trans (hfg inp)⟩
/-- A product of a sum is a sum of products. -/
theorem ring_mod (a b c : Int) : (a * ((b + c) % 256)) % 256 = ((a * b) % 256 + (a * c) % 256) % 256 ∧ (a * ((b + c) % 256)) % 256 = (((c + b) % 256) * a) % 256 := by
  constructor
  · rw [Int.mul_emod, Int.emod_emod_of_dvd _ (Int.dvd_refl 256), ← Int.mul_emod, ← Int.add_emod, Int.mul_add]
  · rw [Int.add_comm c b, Int.mul_comm]
end Go.Proofs.YtpiglmaojonbnaaDoor

/-
  lustrumlaw3.WordRing, WALKED: it answers true.
-/
namespace Go.Proofs.YtpiglmaojonbnaaDoor
open Go.RowKit Go.Maps

theorem wd_inp {F : Nat → Prop} {w : World} {o : Option Addr} {c i n : Nat} (h : LitsAt F w (.slice o (inpW i).length c) (inpW i)) (hi : 8 * i + 8 ≤ n) : Wd (inps n) F w o c (inpW i) :=
  ⟨by rw [inpW_length] at h; exact h, inpW_length i, inpW_has hi⟩
end Go.Proofs.YtpiglmaojonbnaaDoor
