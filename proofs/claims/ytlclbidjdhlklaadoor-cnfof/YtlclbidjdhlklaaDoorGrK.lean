/-
  THE KEYS OF THE GATES' MAP: arrays of two literals.
-/
import Derived.Test.YtlclbidjdhlklaaDoorGrA
import Derived.Maps.OwnSet
import Derived.DeepKeys4
namespace Go.Proofs.YtlclbidjdhlklaaDoor
open Go.RowKit Go.Maps
theorem pairLaidOut : laidOutB Tryd.prog = true := by kernel_rfl
theorem pairRow : (85 : TypeId) < Tryd.prog.types.size := of_decide_eq_true (by kernel_rfl)
theorem pairWide : (match Tryd.prog.underlying 85 with | some (.array _ _) | some (.struct _) => true | _ => false) = true := by kernel_rfl
theorem pairAt : Tryd.prog.keyTypeAt 2 85 = true := by kernel_rfl
set_option maxRecDepth 100000 in
theorem pairLaw : Keyed Tryd.prog 85 := Keyed.of_law (deep_law_laid pairLaidOut (m := 2) (by omega) pairRow pairAt pairWide)
theorem litZero (w : World) : (zeroValue 30).run Tryd.prog w = .ok (.int .i64 0) w := by kernel_rfl
def pairV (p : Int × Int) : Value := .agg #[.int .i64 p.1, .int .i64 p.2]
/-- What a pair reads as. -/
def pairK (p : Int × Int) : Lit := .string (keyBytes [.int .i64 p.1, .int .i64 p.2])
def I64 (a : Int) : Prop := -9223372036854775808 ≤ a ∧ a ≤ 9223372036854775807
theorem wf_of {a : Int} (h : I64 a) : (Lit.int .i64 a).wf = true := WalkArith.wf_i64 (by unfold I64 at h; omega)
theorem pairType : Tryd.prog.keyType 85 = true := by kernel_rfl
theorem pairCells : Tryd.prog.cellsOf 85 = 2 := by kernel_rfl
theorem litCells : Tryd.prog.cellsOf 30 = 1 := by kernel_rfl
set_option maxRecDepth 100000 in
theorem pairKey {p : Int × Int} (h1 : I64 p.1) (h2 : I64 p.2) : keyOf Tryd.prog 85 (pairV p) = some (pairK p) := by
  have hf : (pairV p).formed Tryd.prog 85 = true := by
    unfold pairV
    simp [Value.formed, Tryd.underlying85, pairCells]
  unfold keyOf
  simp only [Tryd.underlying85, pairType, hf, Bool.and_self, if_true]
  unfold Program.keyLits
  simp [Tryd.underlying85, pairCells, litCells, pairV, Value.cells, List.range, List.range.loop]
  have hl : ∀ a, I64 a → Tryd.prog.keyLits 190 30 [.int .i64 a] = some [.int .i64 a] := fun a ha => by
    unfold Program.keyLits
    simp [Tryd.underlying30, wf_of ha]
  rw [hl _ h1, hl _ h2]
  rfl
theorem pairK_inj {p q : Int × Int} (h1 : I64 p.1) (h2 : I64 p.2) (k1 : I64 q.1) (k2 : I64 q.2) (h : pairK p = pairK q) : p = q := by
  have e := pairLaw.inj (pairKey h1 h2) (h ▸ pairKey k1 k2)
  simp only [pairV, Value.agg.injEq] at e
  obtain ⟨p1, p2⟩ := p
  obtain ⟨q1, q2⟩ := q
  simp at e
  simp [e]
end Go.Proofs.YtlclbidjdhlklaaDoor
