/-
  FROM A ROW's LIST OF VARIABLES TO WHAT THE WALKS ASK: each sentinel's cell, its text, its row; errorType's cell; no two sentinels are one pointer (their texts differ).
-/
import Derived.Test.YtpiglmaojonbnaaDoorP03
import Derived.Test.YtpiglmaojonbnaaDoorRows
import Derived.LaidLaws
import Derived.LaidHandle
import Derived.Stop.LaidErr
namespace Go.Proofs.YtpiglmaojonbnaaDoor
open Go.RowKit Go.ChangeShapes

/-- A sentinel, wherever it stands on the list. -/
theorem sent_mem {P : Program} {n nm : String} {text : List UInt8} {W : World} {g : Nat} {ti tp te ts : TypeId} {ms : Array (String × TypeId)} {f : Field} : ∀ {l : List (String × DataW Unit)},
    laidMet P l W → (n, .iface nm (.ptr (.agg [.lit (.string text)]))) ∈ l →
    P.globalNamed n = some g → (P.globals[g]?).map (·.type) = some ti → P.underlying ti = some (.interface ms) → (∀ u, P.typeName? 3 u = some nm → u = tp) →
    P.underlying tp = some (.pointer te) → P.underlying te = some (.struct #[f]) → f.type = ts → f.offset = 0 → P.underlying ts = some .string → P.cellsOf te = 1 → P.cellsOf ts = 1 →
    ∃ (a : Addr) (s : ByteArray) (c : Array Value) (t : TypeId), W.cell? ⟨g, 0, none⟩ = some (.iface tp (.pointer (some a))) ∧ W.cell? a = some (.string s) ∧ s.data.toList = text ∧ W.heap[a.block]? = some (.cells c t (0, 0)) := by
  intro l
  induction l with
  | nil => intro _ hm; cases hm
  | cons x r ih =>
    intro h hm hg ht hi hrow hp he hft hfo hs hc hcs
    rcases List.mem_cons.1 hm with rfl | hm
    · obtain ⟨ps, ⟨g0, t0, cs0, f0, p0, q0, hg0, ht0, hv0, hd0, _, e0⟩, _, hrows⟩ := h
      obtain rfl := Option.some.inj (hg.symm.trans hg0)
      obtain rfl := Option.some.inj (ht.symm.trans ht0)
      subst e0
      obtain ⟨l0⟩ := cs0
      have ok0 : ∀ u v, l0 = [.iface u v] → Value.okWide P W .any 0 u v := fun u v e => by
        subst e
        exact (hrows g 0 (by simp [MemPlace.row])).2 u v (by simpa using World.var?_cell hg0 hv0 0)
      obtain ⟨a0, s0, rfl, hc0, hs0, _, rfl⟩ := errorString_of_trod hi hrow hp he hft hfo hs hc hcs hd0 ok0
      obtain ⟨c0, t0, hb0⟩ := (hrows a0.block a0.off (by simp [MemPlace.row])).1
      exact ⟨a0, s0, c0, t0, by simpa using World.var?_cell hg0 hv0 0, hc0, hs0, hb0⟩
    · exact ih h.tail hm hg ht hi hrow hp he hft hfo hs hc hcs

theorem Tryd.own : ownKnob Tryd.prog.godebug = none := by kernel_rfl
theorem Tryd.cellsStr : Tryd.prog.cellsOf 9 = 1 := by kernel_rfl
theorem Tryd.cellsES : Tryd.prog.cellsOf 162 = 1 := by kernel_rfl
theorem Tryd.gEt : Tryd.prog.globalNamed "errors.errorType" = some 9 := by kernel_rfl
theorem Tryd.rt : (Tryd.prog.cutTypes.find? (·.1 == "internal/reflectlite.rtype")).map (·.2) = some 122 := by kernel_rfl
theorem Tryd.oneRow : ((List.range 174).filter fun t => Tryd.prog.rowNamed t [101, 114, 114, 111, 114]) = [36] := by kernel_rfl
theorem Tryd.tsize : Tryd.prog.types.size = 174 := by kernel_rfl
theorem Tryd.star : "*errors.errorString" = "*" ++ "errors.errorString" := by decide
theorem Tryd.esRow (u : TypeId) (h : Tryd.prog.typeName? 3 u = some "*errors.errorString") : u = 141 :=
  typeName_ptr_named (nm := "errors.errorString") (by rw [← Tryd.star]; kernel_rfl) (by kernel_rfl) (by decide) u (by rw [← Tryd.star]; exact h)
/-- errorType's one cell. -/
theorem Tryd.handle {l : List (String × DataW Unit)} {W : World} (h : handlesMet Tryd.prog l W) (hm : ("errors.errorType", .iface "internal/reflectlite.rtype" (.agg [.ptr (.lit (.string [101, 114, 114, 111, 114]))])) ∈ l) :
    W.cell? ⟨9, 0, none⟩ = some (.iface 122 (.agg #[.pointer (some ⟨10, 36, none⟩)])) := by
  obtain ⟨name, u, ty, e1, e2, e3, e4, e5⟩ := h _ hm
  have en : name = [101, 114, 114, 111, 114] := (Option.some.inj e1).symm
  subst en
  obtain rfl := Option.some.inj (Tryd.rt.symm.trans e2)
  have hm : ty ∈ (List.range 174).filter fun t => Tryd.prog.rowNamed t [101, 114, 114, 111, 114] := List.mem_filter.2 ⟨List.mem_range.2 (by rw [← Tryd.tsize]; exact e3), e4⟩
  rw [Tryd.oneRow] at hm
  obtain rfl := List.mem_singleton.1 hm
  have hh : typeHandle Tryd.prog 36 = .pointer (some ⟨10, 36, none⟩) := by kernel_rfl
  rw [hh] at e5
  simpa using World.var?_cell Tryd.gEt e5 0
theorem Tryd.sent {l : List (String × DataW Unit)} {n : String} {text : List UInt8} {W : World} {g : Nat} (h : laidMet Tryd.prog l W) (hm : (n, .iface "*errors.errorString" (.ptr (.agg [.lit (.string text)]))) ∈ l) (hg : Tryd.prog.globalNamed n = some g) (ht : (Tryd.prog.globals[g]?).map (·.type) = some 36) :
    ∃ (a : Addr) (s : ByteArray) (c : Array Value) (t : TypeId), W.cell? ⟨g, 0, none⟩ = some (.iface 141 (.pointer (some a))) ∧ W.cell? a = some (.string s) ∧ s.data.toList = text ∧ W.heap[a.block]? = some (.cells c t (0, 0)) :=
  sent_mem h hm hg ht Tryd.underlying36 Tryd.esRow Tryd.underlying141 Tryd.underlying162 rfl rfl Tryd.underlying9 Tryd.cellsES Tryd.cellsStr

theorem string_of {s : ByteArray} {l : List UInt8} (h : s.data.toList = l) : s = ⟨l.toArray⟩ := by
  cases s with
  | mk d => cases d with
    | mk m => simp at h; subst h; rfl
theorem Tryd.gErrText : Tryd.prog.globalNamed "lustrum/api.ErrText" = some 2 := by kernel_rfl
theorem Tryd.tErrText : (Tryd.prog.globals[(2 : Nat)]?).map (·.type) = some 36 := by kernel_rfl
theorem Tryd.gErrBound : Tryd.prog.globalNamed "lustrum/api.ErrBound" = some 0 := by kernel_rfl
theorem Tryd.tErrBound : (Tryd.prog.globals[(0 : Nat)]?).map (·.type) = some 36 := by kernel_rfl
theorem Tryd.gErrShape : Tryd.prog.globalNamed "lustrum/api.ErrShape" = some 1 := by kernel_rfl
theorem Tryd.tErrShape : (Tryd.prog.globals[(1 : Nat)]?).map (·.type) = some 36 := by kernel_rfl
theorem Tryd.gErrName : Tryd.prog.globalNamed "lustrum/api.ErrName" = some 3 := by kernel_rfl
theorem Tryd.tErrName : (Tryd.prog.globals[(3 : Nat)]?).map (·.type) = some 36 := by kernel_rfl
theorem Tryd.gErrType : Tryd.prog.globalNamed "lustrum/api.ErrType" = some 4 := by kernel_rfl
theorem Tryd.tErrType : (Tryd.prog.globals[(4 : Nat)]?).map (·.type) = some 36 := by kernel_rfl
theorem Tryd.gErrCycle : Tryd.prog.globalNamed "lustrum/api.ErrCycle" = some 5 := by kernel_rfl
theorem Tryd.tErrCycle : (Tryd.prog.globals[(5 : Nat)]?).map (·.type) = some 36 := by kernel_rfl
theorem Tryd.gErrFirst : Tryd.prog.globalNamed "lustrum/api.ErrFirst" = some 6 := by kernel_rfl
theorem Tryd.tErrFirst : (Tryd.prog.globals[(6 : Nat)]?).map (·.type) = some 36 := by kernel_rfl
theorem Tryd.gErrProof : Tryd.prog.globalNamed "lustrum/api.ErrProof" = some 7 := by kernel_rfl
theorem Tryd.tErrProof : (Tryd.prog.globals[(7 : Nat)]?).map (·.type) = some 36 := by kernel_rfl
theorem Tryd.gErrNone : Tryd.prog.globalNamed "lustrum/api.ErrNone" = some 8 := by kernel_rfl
theorem Tryd.tErrNone : (Tryd.prog.globals[(8 : Nat)]?).map (·.type) = some 36 := by kernel_rfl

/-- Where the nine pointers are, by their numbers. -/
def pick9 (a0 a1 a2 a3 a4 a5 a6 a7 a8 : Addr) : Nat → Addr
  | 0 => a0 | 1 => a1 | 2 => a2 | 3 => a3 | 4 => a4 | 5 => a5 | 6 => a6 | 7 => a7 | _ => a8
theorem short_inj (j k : Nat) (hj : j < 9) (hk : k < 9) (h : short j = short k) : j = k := by
  have hall : ((List.range 9).all fun j => (List.range 9).all fun k => !((short j).data.toList == (short k).data.toList) || j == k) = true := by decide
  have h1 := List.all_eq_true.1 (List.all_eq_true.1 hall j (List.mem_range.2 hj)) k (List.mem_range.2 hk)
  rw [h] at h1
  simpa using h1

/-- THE NINE, WITH THEIR TEXTS, out of any list that bears them. -/
theorem sents_of {l hs : List (String × DataW Unit)} {W : World} (h : laidMet Tryd.prog l W) (hh : handlesMet Tryd.prog hs W)
    (hm : ("errors.errorType", .iface "internal/reflectlite.rtype" (.agg [.ptr (.lit (.string [101, 114, 114, 111, 114]))])) ∈ hs)
    (hl : ∀ x ∈ [("lustrum/api.ErrText", Rows.laid_lustrum_api_ErrText), ("lustrum/api.ErrBound", Rows.laid_lustrum_api_ErrBound), ("lustrum/api.ErrShape", Rows.laid_lustrum_api_ErrShape), ("lustrum/api.ErrName", Rows.laid_lustrum_api_ErrName), ("lustrum/api.ErrType", Rows.laid_lustrum_api_ErrType), ("lustrum/api.ErrCycle", Rows.laid_lustrum_api_ErrCycle), ("lustrum/api.ErrFirst", Rows.laid_lustrum_api_ErrFirst), ("lustrum/api.ErrProof", Rows.laid_lustrum_api_ErrProof), ("lustrum/api.ErrNone", Rows.laid_lustrum_api_ErrNone)], x ∈ l) :
    ∃ a : Nat → Addr, Sents a W ∧ ∀ k, k < 9 → W.cell? (a k) = some (.string (⟨#[108, 117, 115, 116, 114, 117, 109, 58, 32]⟩ ++ short k)) := by
  obtain ⟨a0, s0, c0, t0, v0, p0, x0, r0⟩ := Tryd.sent h (hl ("lustrum/api.ErrText", Rows.laid_lustrum_api_ErrText) (by simp)) Tryd.gErrText Tryd.tErrText
  obtain ⟨a1, s1, c1, t1, v1, p1, x1, r1⟩ := Tryd.sent h (hl ("lustrum/api.ErrBound", Rows.laid_lustrum_api_ErrBound) (by simp)) Tryd.gErrBound Tryd.tErrBound
  obtain ⟨a2, s2, c2, t2, v2, p2, x2, r2⟩ := Tryd.sent h (hl ("lustrum/api.ErrShape", Rows.laid_lustrum_api_ErrShape) (by simp)) Tryd.gErrShape Tryd.tErrShape
  obtain ⟨a3, s3, c3, t3, v3, p3, x3, r3⟩ := Tryd.sent h (hl ("lustrum/api.ErrName", Rows.laid_lustrum_api_ErrName) (by simp)) Tryd.gErrName Tryd.tErrName
  obtain ⟨a4, s4, c4, t4, v4, p4, x4, r4⟩ := Tryd.sent h (hl ("lustrum/api.ErrType", Rows.laid_lustrum_api_ErrType) (by simp)) Tryd.gErrType Tryd.tErrType
  obtain ⟨a5, s5, c5, t5, v5, p5, x5, r5⟩ := Tryd.sent h (hl ("lustrum/api.ErrCycle", Rows.laid_lustrum_api_ErrCycle) (by simp)) Tryd.gErrCycle Tryd.tErrCycle
  obtain ⟨a6, s6, c6, t6, v6, p6, x6, r6⟩ := Tryd.sent h (hl ("lustrum/api.ErrFirst", Rows.laid_lustrum_api_ErrFirst) (by simp)) Tryd.gErrFirst Tryd.tErrFirst
  obtain ⟨a7, s7, c7, t7, v7, p7, x7, r7⟩ := Tryd.sent h (hl ("lustrum/api.ErrProof", Rows.laid_lustrum_api_ErrProof) (by simp)) Tryd.gErrProof Tryd.tErrProof
  obtain ⟨a8, s8, c8, t8, v8, p8, x8, r8⟩ := Tryd.sent h (hl ("lustrum/api.ErrNone", Rows.laid_lustrum_api_ErrNone) (by simp)) Tryd.gErrNone Tryd.tErrNone
  have hT : ∀ k, k < 9 → W.cell? (pick9 a0 a1 a2 a3 a4 a5 a6 a7 a8 k) = some (.string (⟨#[108, 117, 115, 116, 114, 117, 109, 58, 32]⟩ ++ short k)) := by
    intro k hk
    rcases k with _ | _ | _ | _ | _ | _ | _ | _ | _ | k
    · refine p0.trans ?_; rw [string_of x0]; exact congrArg (fun b => some (Value.string b)) (ByteArray.ext (by decide))
    · refine p1.trans ?_; rw [string_of x1]; exact congrArg (fun b => some (Value.string b)) (ByteArray.ext (by decide))
    · refine p2.trans ?_; rw [string_of x2]; exact congrArg (fun b => some (Value.string b)) (ByteArray.ext (by decide))
    · refine p3.trans ?_; rw [string_of x3]; exact congrArg (fun b => some (Value.string b)) (ByteArray.ext (by decide))
    · refine p4.trans ?_; rw [string_of x4]; exact congrArg (fun b => some (Value.string b)) (ByteArray.ext (by decide))
    · refine p5.trans ?_; rw [string_of x5]; exact congrArg (fun b => some (Value.string b)) (ByteArray.ext (by decide))
    · refine p6.trans ?_; rw [string_of x6]; exact congrArg (fun b => some (Value.string b)) (ByteArray.ext (by decide))
    · refine p7.trans ?_; rw [string_of x7]; exact congrArg (fun b => some (Value.string b)) (ByteArray.ext (by decide))
    · refine p8.trans ?_; rw [string_of x8]; exact congrArg (fun b => some (Value.string b)) (ByteArray.ext (by decide))
    · omega
  refine ⟨pick9 a0 a1 a2 a3 a4 a5 a6 a7 a8, ⟨v0, v1, v2, v3, v4, v5, v6, v7, v8, Tryd.handle hh hm, ?_, ?_⟩, hT⟩
  · intro k hk
    rcases k with _ | _ | _ | _ | _ | _ | _ | _ | _ | k
    · exact ⟨c0, t0, r0⟩
    · exact ⟨c1, t1, r1⟩
    · exact ⟨c2, t2, r2⟩
    · exact ⟨c3, t3, r3⟩
    · exact ⟨c4, t4, r4⟩
    · exact ⟨c5, t5, r5⟩
    · exact ⟨c6, t6, r6⟩
    · exact ⟨c7, t7, r7⟩
    · exact ⟨c8, t8, r8⟩
    · omega
  · intro j k hj hk hne he
    have h1 := hT j hj
    rw [he, hT k hk] at h1
    exact hne (short_inj j k hj hk (by simpa using h1.symm))
end Go.Proofs.YtpiglmaojonbnaaDoor
