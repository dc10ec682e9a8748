/-
  lustrumlaw3.made of + and * BY CONTRACT.
-/
import Derived.Test.YtmmfodiagcnjeaaDoorWgK
namespace Go.Proofs.YtmmfodiagcnjeaaDoor
open Go.RowKit Go.Maps

theorem kinds_two {a b : List Int} (ha : a.length = 8) (hb : b.length = 8) : [a, b].map kindL = [2, 2] := by simp [kindL, ha, hb]
theorem ask_plus {a b : List Int} (ha : a.length = 8) (hb : b.length = 8) : askB [43] [a, b] = true := by
  unfold askB
  rw [kinds_two ha hb]
  have : (resK [43] [2, 2]).isSome = true := by decide
  rw [this]; rfl
theorem ask_times {a b : List Int} (ha : a.length = 8) (hb : b.length = 8) : askB [42] [a, b] = true := by
  unfold askB
  rw [kinds_two ha hb]
  have : (resK [42] [2, 2]).isSome = true := by decide
  rw [this]; rfl
/-- What 'made' answers. -/
def MadeP (G : Nat) (gs : List (Int × Int)) (ins K : Nat) (f : List Bool → Nat → Bool) (F : Nat → Prop) (w : World) (e : Ending) (w' : World) : Prop :=
  ∃ (V : Nat) (out : List Int) (gs' : List (Int × Int)) (F' : Nat → Prop), e = .returned (.slice (some ⟨V, 0, none⟩) 8 8) ∧ out.length = 8 ∧ w.heap.size ≤ V ∧ w'.heap[V]? = some (.cells (rowI out) 34 (0, 0)) ∧ ¬ F' V ∧ GrAt G gs' ins F' w' ∧ Mvd F F' w w' ∧ Mads gs gs' K out f
theorem words_two {F : Nat → Prop} {w : World} {oa ob : Option Addr} {ca cb : Nat} {a b : List Int} (hA : LitsAt F w (.slice oa 8 ca) a) (hB : LitsAt F w (.slice ob 8 cb) b) (ha : a.length = 8) (hb : b.length = 8) (hF : ∀ k, F k → k < w.heap.size) (t : TypeId) :
    WordsAt F (w.alloc (.cells #[.slice oa 8 ca, .slice ob 8 cb] t)) (.slice (some ⟨w.heap.size, 0, none⟩) 2 2) [a, b] := by
  have hm : Mvd F F w (w.alloc (.cells #[.slice oa 8 ca, .slice ob 8 cb] t)) := Mvd.of_below ((Below.refl _ _).alloc (Nat.le_refl _) _)
  refine ⟨by simp, _, _, rfl, fun k l hk => ?_⟩
  rcases k with _ | _ | k
  · simp at hk; subst hk
    refine ⟨w.heap.size, 0, oa, ca, rfl, fun hf => by have := hF _ hf; omega, ?_, ?_⟩
    · rw [ha]; simp
    · rw [ha]; exact hA.move hm
  · simp at hk; subst hk
    refine ⟨w.heap.size, 0, ob, cb, rfl, fun hf => by have := hF _ hf; omega, ?_, ?_⟩
    · rw [hb]; simp
    · rw [hb]; exact hB.move hm
  · simp at hk
set_option maxRecDepth 100000 in
set_option maxHeartbeats 1000000 in
theorem lmade_any {G : Nat} {gs : List (Int × Int)} {ins : Nat} {F : Nat → Prop} {w : World} (h : GrAt G gs ins F w) (s : ByteArray) (hs : s.size ≤ maxLen) (oa ob : Option Addr) (ca cb : Nat) (a b : List Int) (hA : LitsAt F w (.slice oa 8 ca) a) (hB : LitsAt F w (.slice ob 8 cb) b) (ha8 : a.length = 8) (hb8 : b.length = 8) (ha : ∀ x ∈ a, HasL gs x) (hb : ∀ x ∈ b, HasL gs x) (hl : gs.length < 89000) (K : Nat) (f : List Bool → Nat → Bool) (hk : askB s.data.toList [a, b] = true)
    (hval : ∀ F1 w1 o c, GrAt G gs ins F1 w1 → WordsAt F1 w1 (.slice o 2 c) [a, b] → Calls Tryd.prog 25 #[.agg #[.pointer (some ⟨G, 0, none⟩)], .string s, .slice o 2 c] w1 (ValP G gs ins K 8 f (fun _ => false) F1 w1))
    (et st : TypeId) (eq sq : Value) (he : w.cell? ⟨1, 0, none⟩ = some (.iface et eq)) (hsh : w.cell? ⟨2, 0, none⟩ = some (.iface st sq)) :
    Calls Tryd.prog 20 #[.pointer (some ⟨G, 0, none⟩), .string s, .slice oa 8 ca, .slice ob 8 cb] w (MadeP G gs ins K f F w) := by
  have hb1 : Below w.heap.size w (w.alloc (.cells #[.slice oa 8 ca, .slice ob 8 cb] 31)) := (Below.refl _ _).alloc (Nat.le_refl _) _
  have hm : Mvd F F w (w.alloc (.cells #[.slice oa 8 ca, .slice ob 8 cb] 31)) := Mvd.of_below hb1
  have hC := of_any (h.below hb1) hl s hs (some ⟨w.heap.size, 0, none⟩) 2 2 [a, b] (words_two hA hB ha8 hb8 h.2.2.1 _) rfl (fun l hl x hx => by
      simp at hl
      rcases hl with rfl | rfl
      · exact ha x hx
      · exact hb x hx) et st eq sq (cell_keep hb1 he) (cell_keep hb1 hsh) K 8 f (fun _ => false) (fun _ F1 w1 g1 v1 => hval F1 w1 _ _ g1 v1)
  have HM : Hid (Mvd F F w (w.alloc (.cells #[.slice oa 8 ca, .slice ob 8 cb] 31))) := hm
  have HK : Hid (askB s.data.toList [a, b] = true) := hk
  clear h hs hA hB ha8 hb8 ha hb hl hval he hsh hb1 hm hk
  go_enter Tryd.func20, Tryd.ntmps20
  go_wp2_with fail
  refine hC.mono ?_
  clear hC
  rintro e w2 (⟨_, uv, tv, rfl, V, out, tr, gs', F', rfl, rfl, h1, h2, h3, h4, h5, h6, h7, _⟩ | ⟨hk, _⟩)
  · have HEND : Hid (MadeP G gs ins K f F w (.returned (.slice (some ⟨V, 0, none⟩) 8 8)) w2) := ⟨V, out, gs', F', rfl, h1, by have := HM.out.size; omega, h3, h4, h5, HM.out.trans h6, h7⟩
    clear h1 h2 h3 h4 h5 h6 h7
    go_wp2
    go_ret
    exact HEND.out
  · exact absurd HK.out (by rw [hk]; simp)
end Go.Proofs.YtmmfodiagcnjeaaDoor
