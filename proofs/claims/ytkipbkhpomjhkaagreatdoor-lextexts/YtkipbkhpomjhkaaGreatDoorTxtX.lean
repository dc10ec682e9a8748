/-
  lex.Text BY ITS CONTRACT: the tokens' texts ahead of the last one, one blank between, if that is read as these tokens again; else ErrShape. Conditions: at most 2^47 tokens, and bytes in each text; ErrText, ErrShape and strconv's ErrRange hold errors.
-/
import Derived.Test.YtkipbkhpomjhkaaGreatDoorOwn
import Derived.Test.YtkipbkhpomjhkaaGreatDoorTxtJ
namespace Go.Proofs.YtkipbkhpomjhkaaGreatDoor
open Go.RowKit

def tkK (l : List Tk) (i : Nat) : ByteArray := match l[i]? with | some t => t.kind | none => ⟨#[]⟩
def tkX (l : List Tk) (i : Nat) : ByteArray := match l[i]? with | some t => t.text | none => ⟨#[]⟩
def tkZ (l : List Tk) (i : Nat) : Int := match l[i]? with | some t => t.pos | none => 0
theorem toks_tk {w : World} {base : Nat} {e : TypeId} {v : Value} {l : List Tk} (h : w.ownsRow base e 3 v l.length (tkCells l)) (hn : 0 < l.length) : ∃ ao cap, v = .slice ao l.length cap ∧ Toks w ao l.length (tkK l) (tkX l) (tkZ l) := by
  obtain ⟨g, cap, hv, hc⟩ := own_cells h hn
  refine ⟨_, cap, hv, fun i hi => ⟨g, 0, rfl, ?_⟩⟩
  obtain ⟨a, b, c⟩ := hc i hi
  have e : l[i]? = some l[i] := List.getElem?_eq_getElem hi
  simp only [tkK, tkX, tkZ, e, Nat.zero_add]
  exact ⟨a, b, c⟩
/-- These kinds and texts are those that their text is read as. -/
def TOk (n : Nat) (K X : Nat → ByteArray) : Prop := (joinT X (n - 1)).size ≤ 6000 ∧ ∃ l, Lexes (joinT X (n - 1)) 0 l none ∧ Same n l.length K X (tkK l) (tkX l)
theorem tok_pos {n : Nat} {K X : Nat → ByteArray} (h : TOk n K X) : 0 < n ∧ (joinT X (n - 1)).size ≤ 6000 := by
  obtain ⟨h0, l, hl, hs⟩ := h
  have := hl.ne
  have := hs.1
  exact ⟨by omega, h0⟩

set_option maxHeartbeats 1000000 in
theorem text_any (w : World) (ao : Option Addr) (n c : Nat) (K X : Nat → ByteArray) (Z : Nat → Int) (pT pS : Addr) (ev : Value) (T : Toks w ao n K X Z) (hn : n ≤ 140737488355328) (hX : ∀ i, i < n → (X i).size ≤ 140737488355328) (hnc : n ≤ c) (hc : c ≤ maxLen)
    (hT : w.cell? ⟨2, 0, none⟩ = some (.iface 126 (.pointer (some pT)))) (hS : w.cell? ⟨0, 0, none⟩ = some (.iface 126 (.pointer (some pS)))) (hv : w.cell? ⟨11, 0, none⟩ = some ev) (hev : ev = .nilIface ∨ ∃ te pe, ev = .iface te pe) :
    Calls Tryz.prog 5 #[.slice ao n c] w fun e w' => Below w.heap.size w w' ∧ ((TOk n K X ∧ e = .returned (.tuple #[.string (joinT X (n - 1)), .nilIface])) ∨ (¬ TOk n K X ∧ e = .returned (.tuple #[.string ⟨#[]⟩, .iface 126 (.pointer (some pS))]))) := by
  go_enter Tryz.func5, Tryz.ntmps5
  go_wp2_with fail
  refine (join_any w ao n c K X Z T hn hX hnc hc).mono ?_
  rintro e w1 ⟨hb1, hj⟩
  have hS1 := cell_keep hb1 hS
  clear hX
  rcases hj with ⟨⟨h0, hj6⟩, rfl⟩ | ⟨hj, rfl⟩
  · have hT1 := cell_keep hb1 hT
    have hv1 := cell_keep hb1 hv
    have T1 : Hid (Toks w1 ao n K X Z) := T.keep hb1
    clear T hT hS hv
    go_wp2_with fail
    refine (lex_any _ w1 pT ev (by omega) hT1 hv1 hev).mono ?_
    rintro e w2 ⟨hb2, h⟩
    have hS2 := cell_keep hb2 hS1
    have hB2 : Below w.heap.size w w2 := hb1.trans (hb2.mono hb1.size)
    rcases h with ⟨l, v, hl, rfl, hown⟩ | ⟨l, j, p, hl, rfl, _, _⟩
    · obtain ⟨bo, d, rfl, T2⟩ := toks_tk hown hl.ne
      have hlen : l.length ≤ 6001 := hl.len (by omega)
      go_wp2_with fail
      refine (alike_any w2 ao bo n l.length c d K X _ _ Z _ (Toks.keep T1.out hb2) T2 hn (by omega)).mono ?_
      rintro e w3 ⟨⟨r, rfl, hr⟩, hb3⟩
      have hS3 := cell_keep hb3 hS2
      have hB3 : Below w.heap.size w w3 := hB2.trans (hb3.mono hB2.size)
      cases r with
      | true =>
        have hok : TOk n K X := ⟨hj6, l, hl, hr.1 rfl⟩
        clear hr T2 hown hS1 hS2 hS3 hT1 hv1
        go_wp2
        go_ret2
        exact ⟨hB3, Or.inl ⟨hok, rfl⟩⟩
      | false =>
        have hno : ¬ TOk n K X := fun ⟨_, l', hl', hs'⟩ => by
          obtain ⟨rfl, _⟩ := hl.one hl'
          exact absurd (hr.2 hs') (by simp)
        clear hr T2 hown hS1 hS2 hT1 hv1
        go_wp2
        go_quiet (fail)
        go_wp2
        go_ret2
        exact ⟨below_drewN hB3 _, Or.inr ⟨hno, rfl⟩⟩
    · have hno : ¬ TOk n K X := fun ⟨_, l', hl', hs'⟩ => absurd (hl.one hl').2 (by simp)
      clear hS1 hT1 hv1
      go_wp2
      go_quiet (fail)
      go_wp2
      go_ret2
      exact ⟨below_drewN hB2 _, Or.inr ⟨hno, rfl⟩⟩
  · have hno : ¬ TOk n K X := fun h => hj (tok_pos h)
    clear T hT hS hv hj
    go_wp2
    go_quiet (fail)
    go_wp2
    go_ret2
    exact ⟨below_drewN hb1 _, Or.inr ⟨hno, rfl⟩⟩
end Go.Proofs.YtkipbkhpomjhkaaGreatDoor
