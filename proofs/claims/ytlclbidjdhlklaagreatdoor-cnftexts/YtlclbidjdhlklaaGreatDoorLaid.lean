/-
  FROM A ROW's LIST OF VARIABLES TO WHAT THE WALKS ASK: each sentinel's cell, its text, its row; errorType's cell; no two sentinels are one pointer (their texts differ).
-/
import Derived.Test.YtlclbidjdhlklaaGreatDoorShort
import Derived.Test.YtlclbidjdhlklaaGreatDoorRows
import Derived.LaidLaws
import Derived.LaidHandle
import Derived.Stop.LaidErr
namespace Go.Proofs.YtlclbidjdhlklaaGreatDoor
open Go.RowKit Go.ChangeShapes

/-- A sentinel, wherever it stands on the list. -/
theorem sent_mem {P : Program} {n nm : String} {text : List UInt8} {W : World} {g : Nat} {ti tp te ts : TypeId} {ms : Array (String × TypeId)} {f : Field} : ∀ {l : List (String × DataW Unit)},
    laidMet P l W → (n, .iface nm (.ptr (.agg [.lit (.string text)]))) ∈ l →
    P.globalNamed n = some g → (P.globals[g]?).map (·.type) = some ti → P.underlying ti = some (.interface ms) → (∀ u, P.typeName? 3 u = some nm → u = tp) →
    P.underlying tp = some (.pointer te) → P.underlying te = some (.struct #[f]) → f.type = ts → f.offset = 0 → P.underlying ts = some .string → P.cellsOf te = 1 → P.cellsOf ts = 1 →
    ∃ (a : Addr) (s : ByteArray) (c : Array Value) (t : TypeId), W.cell? ⟨g, 0, none⟩ = some (.iface tp (.pointer (some a))) ∧ W.cell? a = some (.string s) ∧ s.data.toList = text ∧ W.heap[a.block]? = some (.cells c t (0, 0)) := by
  intro l
  induction l with
  | nil => intro _ hm; cases hm
  | cons x r ih =>
    intro h hm hg ht hi hrow hp he hft hfo hs hc hcs
    rcases List.mem_cons.1 hm with rfl | hm
    · obtain ⟨ps, ⟨g0, t0, cs0, f0, p0, q0, hg0, ht0, hv0, hd0, _, e0⟩, _, hrows⟩ := h
      obtain rfl := Option.some.inj (hg.symm.trans hg0)
      obtain rfl := Option.some.inj (ht.symm.trans ht0)
      subst e0
      obtain ⟨l0⟩ := cs0
      have ok0 : ∀ u v, l0 = [.iface u v] → Value.okWide P W .any 0 u v := fun u v e => by
        subst e
        exact (hrows g 0 (by simp [MemPlace.row])).2 u v (by simpa using World.var?_cell hg0 hv0 0)
      obtain ⟨a0, s0, rfl, hc0, hs0, _, rfl⟩ := errorString_of_trod hi hrow hp he hft hfo hs hc hcs hd0 ok0
      obtain ⟨c0, t0, hb0⟩ := (hrows a0.block a0.off (by simp [MemPlace.row])).1
      exact ⟨a0, s0, c0, t0, by simpa using World.var?_cell hg0 hv0 0, hc0, hs0, hb0⟩
    · exact ih h.tail hm hg ht hi hrow hp he hft hfo hs hc hcs

theorem Tryz.own : ownKnob Tryz.prog.godebug = none := by kernel_rfl
theorem Tryz.cellsStr : Tryz.prog.cellsOf 9 = 1 := by kernel_rfl
theorem Tryz.cellsES : Tryz.prog.cellsOf 163 = 1 := by kernel_rfl
theorem Tryz.gEt : Tryz.prog.globalNamed "errors.errorType" = some 9 := by kernel_rfl
theorem Tryz.rt : (Tryz.prog.cutTypes.find? (·.1 == "internal/reflectlite.rtype")).map (·.2) = some 100 := by kernel_rfl
theorem Tryz.oneRow : ((List.range 192).filter fun t => Tryz.prog.rowNamed t [101, 114, 114, 111, 114]) = [28] := by kernel_rfl
theorem Tryz.tsize : Tryz.prog.types.size = 192 := by kernel_rfl
theorem Tryz.star : "*errors.errorString" = "*" ++ "errors.errorString" := by decide
theorem Tryz.esRow (u : TypeId) (h : Tryz.prog.typeName? 3 u = some "*errors.errorString") : u = 161 :=
  typeName_ptr_named (nm := "errors.errorString") (by rw [← Tryz.star]; kernel_rfl) (by kernel_rfl) (by decide) u (by rw [← Tryz.star]; exact h)
/-- errorType's one cell. -/
theorem Tryz.handle {l : List (String × DataW Unit)} {W : World} (h : handlesMet Tryz.prog l W) (hm : ("errors.errorType", .iface "internal/reflectlite.rtype" (.agg [.ptr (.lit (.string [101, 114, 114, 111, 114]))])) ∈ l) :
    W.cell? ⟨9, 0, none⟩ = some (.iface 100 (.agg #[.pointer (some ⟨18, 28, none⟩)])) := by
  obtain ⟨name, u, ty, e1, e2, e3, e4, e5⟩ := h _ hm
  have en : name = [101, 114, 114, 111, 114] := (Option.some.inj e1).symm
  subst en
  obtain rfl := Option.some.inj (Tryz.rt.symm.trans e2)
  have hm : ty ∈ (List.range 192).filter fun t => Tryz.prog.rowNamed t [101, 114, 114, 111, 114] := List.mem_filter.2 ⟨List.mem_range.2 (by rw [← Tryz.tsize]; exact e3), e4⟩
  rw [Tryz.oneRow] at hm
  obtain rfl := List.mem_singleton.1 hm
  have hh : typeHandle Tryz.prog 28 = .pointer (some ⟨18, 28, none⟩) := by kernel_rfl
  rw [hh] at e5
  simpa using World.var?_cell Tryz.gEt e5 0
theorem Tryz.sent {l : List (String × DataW Unit)} {n : String} {text : List UInt8} {W : World} {g : Nat} (h : laidMet Tryz.prog l W) (hm : (n, .iface "*errors.errorString" (.ptr (.agg [.lit (.string text)]))) ∈ l) (hg : Tryz.prog.globalNamed n = some g) (ht : (Tryz.prog.globals[g]?).map (·.type) = some 28) :
    ∃ (a : Addr) (s : ByteArray) (c : Array Value) (t : TypeId), W.cell? ⟨g, 0, none⟩ = some (.iface 161 (.pointer (some a))) ∧ W.cell? a = some (.string s) ∧ s.data.toList = text ∧ W.heap[a.block]? = some (.cells c t (0, 0)) :=
  sent_mem h hm hg ht Tryz.underlying28 Tryz.esRow Tryz.underlying161 Tryz.underlying163 rfl rfl Tryz.underlying9 Tryz.cellsES Tryz.cellsStr

theorem string_of {s : ByteArray} {l : List UInt8} (h : s.data.toList = l) : s = ⟨l.toArray⟩ := by
  cases s with
  | mk d => cases d with
    | mk m => simp at h; subst h; rfl
theorem Tryz.gErrText : Tryz.prog.globalNamed "lustrum/api.ErrText" = some 2 := by kernel_rfl
theorem Tryz.tErrText : (Tryz.prog.globals[(2 : Nat)]?).map (·.type) = some 28 := by kernel_rfl
theorem Tryz.gErrBound : Tryz.prog.globalNamed "lustrum/api.ErrBound" = some 0 := by kernel_rfl
theorem Tryz.tErrBound : (Tryz.prog.globals[(0 : Nat)]?).map (·.type) = some 28 := by kernel_rfl
theorem Tryz.gErrShape : Tryz.prog.globalNamed "lustrum/api.ErrShape" = some 1 := by kernel_rfl
theorem Tryz.tErrShape : (Tryz.prog.globals[(1 : Nat)]?).map (·.type) = some 28 := by kernel_rfl
theorem Tryz.gErrName : Tryz.prog.globalNamed "lustrum/api.ErrName" = some 3 := by kernel_rfl
theorem Tryz.tErrName : (Tryz.prog.globals[(3 : Nat)]?).map (·.type) = some 28 := by kernel_rfl
theorem Tryz.gErrType : Tryz.prog.globalNamed "lustrum/api.ErrType" = some 4 := by kernel_rfl
theorem Tryz.tErrType : (Tryz.prog.globals[(4 : Nat)]?).map (·.type) = some 28 := by kernel_rfl
theorem Tryz.gErrCycle : Tryz.prog.globalNamed "lustrum/api.ErrCycle" = some 5 := by kernel_rfl
theorem Tryz.tErrCycle : (Tryz.prog.globals[(5 : Nat)]?).map (·.type) = some 28 := by kernel_rfl
theorem Tryz.gErrFirst : Tryz.prog.globalNamed "lustrum/api.ErrFirst" = some 6 := by kernel_rfl
theorem Tryz.tErrFirst : (Tryz.prog.globals[(6 : Nat)]?).map (·.type) = some 28 := by kernel_rfl
theorem Tryz.gErrProof : Tryz.prog.globalNamed "lustrum/api.ErrProof" = some 7 := by kernel_rfl
theorem Tryz.tErrProof : (Tryz.prog.globals[(7 : Nat)]?).map (·.type) = some 28 := by kernel_rfl
theorem Tryz.gErrNone : Tryz.prog.globalNamed "lustrum/api.ErrNone" = some 8 := by kernel_rfl
theorem Tryz.tErrNone : (Tryz.prog.globals[(8 : Nat)]?).map (·.type) = some 28 := by kernel_rfl

/-- Where the nine pointers are, by their numbers. -/
def pick9 (a0 a1 a2 a3 a4 a5 a6 a7 a8 : Addr) : Nat → Addr
  | 0 => a0 | 1 => a1 | 2 => a2 | 3 => a3 | 4 => a4 | 5 => a5 | 6 => a6 | 7 => a7 | _ => a8
theorem short_inj (j k : Nat) (hj : j < 9) (hk : k < 9) (h : short j = short k) : j = k := by
  have hall : ((List.range 9).all fun j => (List.range 9).all fun k => !((short j).data.toList == (short k).data.toList) || j == k) = true := by decide
  have h1 := List.all_eq_true.1 (List.all_eq_true.1 hall j (List.mem_range.2 hj)) k (List.mem_range.2 hk)
  rw [h] at h1
  simpa using h1

/-- THE NINE, WITH THEIR TEXTS, out of any list that bears them. -/
theorem sents_of {l hs : List (String × DataW Unit)} {W : World} (h : laidMet Tryz.prog l W) (hh : handlesMet Tryz.prog hs W)
    (hm : ("errors.errorType", .iface "internal/reflectlite.rtype" (.agg [.ptr (.lit (.string [101, 114, 114, 111, 114]))])) ∈ hs)
    (hl : ∀ x ∈ [("lustrum/api.ErrText", Rows.laid_lustrum_api_ErrText), ("lustrum/api.ErrBound", Rows.laid_lustrum_api_ErrBound), ("lustrum/api.ErrShape", Rows.laid_lustrum_api_ErrShape), ("lustrum/api.ErrName", Rows.laid_lustrum_api_ErrName), ("lustrum/api.ErrType", Rows.laid_lustrum_api_ErrType), ("lustrum/api.ErrCycle", Rows.laid_lustrum_api_ErrCycle), ("lustrum/api.ErrFirst", Rows.laid_lustrum_api_ErrFirst), ("lustrum/api.ErrProof", Rows.laid_lustrum_api_ErrProof), ("lustrum/api.ErrNone", Rows.laid_lustrum_api_ErrNone)], x ∈ l) :
    ∃ a : Nat → Addr, Sents a W ∧ ∀ k, k < 9 → W.cell? (a k) = some (.string (⟨#[108, 117, 115, 116, 114, 117, 109, 58, 32]⟩ ++ short k)) := by
  obtain ⟨a0, s0, c0, t0, v0, p0, x0, r0⟩ := Tryz.sent h (hl ("lustrum/api.ErrText", Rows.laid_lustrum_api_ErrText) (by simp)) Tryz.gErrText Tryz.tErrText
  obtain ⟨a1, s1, c1, t1, v1, p1, x1, r1⟩ := Tryz.sent h (hl ("lustrum/api.ErrBound", Rows.laid_lustrum_api_ErrBound) (by simp)) Tryz.gErrBound Tryz.tErrBound
  obtain ⟨a2, s2, c2, t2, v2, p2, x2, r2⟩ := Tryz.sent h (hl ("lustrum/api.ErrShape", Rows.laid_lustrum_api_ErrShape) (by simp)) Tryz.gErrShape Tryz.tErrShape
  obtain ⟨a3, s3, c3, t3, v3, p3, x3, r3⟩ := Tryz.sent h (hl ("lustrum/api.ErrName", Rows.laid_lustrum_api_ErrName) (by simp)) Tryz.gErrName Tryz.tErrName
  obtain ⟨a4, s4, c4, t4, v4, p4, x4, r4⟩ := Tryz.sent h (hl ("lustrum/api.ErrType", Rows.laid_lustrum_api_ErrType) (by simp)) Tryz.gErrType Tryz.tErrType
  obtain ⟨a5, s5, c5, t5, v5, p5, x5, r5⟩ := Tryz.sent h (hl ("lustrum/api.ErrCycle", Rows.laid_lustrum_api_ErrCycle) (by simp)) Tryz.gErrCycle Tryz.tErrCycle
  obtain ⟨a6, s6, c6, t6, v6, p6, x6, r6⟩ := Tryz.sent h (hl ("lustrum/api.ErrFirst", Rows.laid_lustrum_api_ErrFirst) (by simp)) Tryz.gErrFirst Tryz.tErrFirst
  obtain ⟨a7, s7, c7, t7, v7, p7, x7, r7⟩ := Tryz.sent h (hl ("lustrum/api.ErrProof", Rows.laid_lustrum_api_ErrProof) (by simp)) Tryz.gErrProof Tryz.tErrProof
  obtain ⟨a8, s8, c8, t8, v8, p8, x8, r8⟩ := Tryz.sent h (hl ("lustrum/api.ErrNone", Rows.laid_lustrum_api_ErrNone) (by simp)) Tryz.gErrNone Tryz.tErrNone
  have hT : ∀ k, k < 9 → W.cell? (pick9 a0 a1 a2 a3 a4 a5 a6 a7 a8 k) = some (.string (⟨#[108, 117, 115, 116, 114, 117, 109, 58, 32]⟩ ++ short k)) := by
    intro k hk
    rcases k with _ | _ | _ | _ | _ | _ | _ | _ | _ | k
    · refine p0.trans ?_; rw [string_of x0]; exact congrArg (fun b => some (Value.string b)) (ByteArray.ext (by decide))
    · refine p1.trans ?_; rw [string_of x1]; exact congrArg (fun b => some (Value.string b)) (ByteArray.ext (by decide))
    · refine p2.trans ?_; rw [string_of x2]; exact congrArg (fun b => some (Value.string b)) (ByteArray.ext (by decide))
    · refine p3.trans ?_; rw [string_of x3]; exact congrArg (fun b => some (Value.string b)) (ByteArray.ext (by decide))
    · refine p4.trans ?_; rw [string_of x4]; exact congrArg (fun b => some (Value.string b)) (ByteArray.ext (by decide))
    · refine p5.trans ?_; rw [string_of x5]; exact congrArg (fun b => some (Value.string b)) (ByteArray.ext (by decide))
    · refine p6.trans ?_; rw [string_of x6]; exact congrArg (fun b => some (Value.string b)) (ByteArray.ext (by decide))
    · refine p7.trans ?_; rw [string_of x7]; exact congrArg (fun b => some (Value.string b)) (ByteArray.ext (by decide))
    · refine p8.trans ?_; rw [string_of x8]; exact congrArg (fun b => some (Value.string b)) (ByteArray.ext (by decide))
    · omega
  refine ⟨pick9 a0 a1 a2 a3 a4 a5 a6 a7 a8, ⟨v0, v1, v2, v3, v4, v5, v6, v7, v8, Tryz.handle hh hm, ?_, ?_⟩, hT⟩
  · intro k hk
    rcases k with _ | _ | _ | _ | _ | _ | _ | _ | _ | k
    · exact ⟨c0, t0, r0⟩
    · exact ⟨c1, t1, r1⟩
    · exact ⟨c2, t2, r2⟩
    · exact ⟨c3, t3, r3⟩
    · exact ⟨c4, t4, r4⟩
    · exact ⟨c5, t5, r5⟩
    · exact ⟨c6, t6, r6⟩
    · exact ⟨c7, t7, r7⟩
    · exact ⟨c8, t8, r8⟩
    · omega
  · intro j k hj hk hne he
    have h1 := hT j hj
    rw [he, hT k hk] at h1
    exact hne (short_inj j k hj hk (by simpa using h1.symm))
end Go.Proofs.YtlclbidjdhlklaaGreatDoor
