/-
  FROM A ROW's LIST OF VARIABLES TO WHAT THE WALKS ASK: each sentinel's cell, its text, its row; errorType's cell; no two sentinels are one pointer (their texts differ).
-/
import Derived.Test.YtpkgingjmgakbaaDoorP03
import Derived.Test.YtpkgingjmgakbaaDoorRows
import Derived.LaidLaws
import Derived.LaidHandle
import Derived.Stop.LaidErr
import Derived.Test.YtpkgingjmgakbaaDoorChecked
import Derived.Test.YtpkgingjmgakbaaDoorP02
import Derived.Deep.RegionLaw
import Derived.Handy
import Derived.Deep.QuietTactic
import Derived.BigQuiet
import Derived.WalkSmall
import Derived.LoopTactic
import Derived.Maps.OwnSet
import Derived.Maps.RangeWalk
import Derived.StringKeys
namespace Go.Proofs.YtpkgingjmgakbaaDoor
open Go.RowKit Go.ChangeShapes

/-- A sentinel, wherever it stands on the list. -/
theorem sent_mem {P : Program} {n nm : String} {text : List UInt8} {W : World} {g : Nat} {ti tp te ts : TypeId} {ms : Array (String × TypeId)} {f : Field} : ∀ {l : List (String × DataW Unit)},
    laidMet P l W → (n, .iface nm (.ptr (.agg [.lit (.string text)]))) ∈ l →
    P.globalNamed n = some g → (P.globals[g]?).map (·.type) = some ti → P.underlying ti = some (.interface ms) → (∀ u, P.typeName? 3 u = some nm → u = tp) →
    P.underlying tp = some (.pointer te) → P.underlying te = some (.struct #[f]) → f.type = ts → f.offset = 0 → P.underlying ts = some .string → P.cellsOf te = 1 → P.cellsOf ts = 1 →
    ∃ (a : Addr) (s : ByteArray) (c : Array Value) (t : TypeId), W.cell? ⟨g, 0, none⟩ = some (.iface tp (.pointer (some a))) ∧ W.cell? a = some (.string s) ∧ s.data.toList = text ∧ W.heap[a.block]? = some (.cells c t (0, 0)) := by
  intro l
  induction l with
  | nil => intro _ hm; cases hm
  | cons x r ih =>
    intro h hm hg ht hi hrow hp he hft hfo hs hc hcs
    rcases List.mem_cons.1 hm with rfl | hm
    · obtain ⟨ps, ⟨g0, t0, cs0, f0, p0, q0, hg0, ht0, hv0, hd0, _, e0⟩, _, hrows⟩ := h
      obtain rfl := Option.some.inj (hg.symm.trans hg0)
      obtain rfl := Option.some.inj (ht.symm.trans ht0)
      subst e0
      obtain ⟨l0⟩ := cs0
      have ok0 : ∀ u v, l0 = [.iface u v] → Value.okWide P W .any 0 u v := fun u v e => by
        subst e
        exact (hrows g 0 (by simp [MemPlace.row])).2 u v (by simpa using World.var?_cell hg0 hv0 0)
      obtain ⟨a0, s0, rfl, hc0, hs0, _, rfl⟩ := errorString_of_trod hi hrow hp he hft hfo hs hc hcs hd0 ok0
      obtain ⟨c0, t0, hb0⟩ := (hrows a0.block a0.off (by simp [MemPlace.row])).1
      exact ⟨a0, s0, c0, t0, by simpa using World.var?_cell hg0 hv0 0, hc0, hs0, hb0⟩
    · exact ih h.tail hm hg ht hi hrow hp he hft hfo hs hc hcs

theorem Tryd.own : ownKnob Tryd.prog.godebug = none := by kernel_rfl
theorem Tryd.cellsStr : Tryd.prog.cellsOf 9 = 1 := by kernel_rfl
theorem Tryd.cellsES : Tryd.prog.cellsOf 170 = 1 := by kernel_rfl
theorem Tryd.gEt : Tryd.prog.globalNamed "errors.errorType" = some 9 := by kernel_rfl
theorem Tryd.rt : (Tryd.prog.cutTypes.find? (·.1 == "internal/reflectlite.rtype")).map (·.2) = some 118 := by kernel_rfl
theorem Tryd.oneRow : ((List.range 182).filter fun t => Tryd.prog.rowNamed t [101, 114, 114, 111, 114]) = [36] := by kernel_rfl
theorem Tryd.tsize : Tryd.prog.types.size = 182 := by kernel_rfl
theorem Tryd.star : "*errors.errorString" = "*" ++ "errors.errorString" := by decide
theorem Tryd.esRow (u : TypeId) (h : Tryd.prog.typeName? 3 u = some "*errors.errorString") : u = 148 :=
  typeName_ptr_named (nm := "errors.errorString") (by rw [← Tryd.star]; kernel_rfl) (by kernel_rfl) (by decide) u (by rw [← Tryd.star]; exact h)
/-- errorType's one cell. -/
theorem Tryd.handle {l : List (String × DataW Unit)} {W : World} (h : handlesMet Tryd.prog l W) (hm : ("errors.errorType", .iface "internal/reflectlite.rtype" (.agg [.ptr (.lit (.string [101, 114, 114, 111, 114]))])) ∈ l) :
    W.cell? ⟨9, 0, none⟩ = some (.iface 118 (.agg #[.pointer (some ⟨10, 36, none⟩)])) := by
  obtain ⟨name, u, ty, e1, e2, e3, e4, e5⟩ := h _ hm
  have en : name = [101, 114, 114, 111, 114] := (Option.some.inj e1).symm
  subst en
  obtain rfl := Option.some.inj (Tryd.rt.symm.trans e2)
  have hm : ty ∈ (List.range 182).filter fun t => Tryd.prog.rowNamed t [101, 114, 114, 111, 114] := List.mem_filter.2 ⟨List.mem_range.2 (by rw [← Tryd.tsize]; exact e3), e4⟩
  rw [Tryd.oneRow] at hm
  obtain rfl := List.mem_singleton.1 hm
  have hh : typeHandle Tryd.prog 36 = .pointer (some ⟨10, 36, none⟩) := by kernel_rfl
  rw [hh] at e5
  simpa using World.var?_cell Tryd.gEt e5 0
theorem Tryd.sent {l : List (String × DataW Unit)} {n : String} {text : List UInt8} {W : World} {g : Nat} (h : laidMet Tryd.prog l W) (hm : (n, .iface "*errors.errorString" (.ptr (.agg [.lit (.string text)]))) ∈ l) (hg : Tryd.prog.globalNamed n = some g) (ht : (Tryd.prog.globals[g]?).map (·.type) = some 36) :
    ∃ (a : Addr) (s : ByteArray) (c : Array Value) (t : TypeId), W.cell? ⟨g, 0, none⟩ = some (.iface 148 (.pointer (some a))) ∧ W.cell? a = some (.string s) ∧ s.data.toList = text ∧ W.heap[a.block]? = some (.cells c t (0, 0)) :=
  sent_mem h hm hg ht Tryd.underlying36 Tryd.esRow Tryd.underlying148 Tryd.underlying170 rfl rfl Tryd.underlying9 Tryd.cellsES Tryd.cellsStr

theorem string_of {s : ByteArray} {l : List UInt8} (h : s.data.toList = l) : s = ⟨l.toArray⟩ := by
  cases s with
  | mk d => cases d with
    | mk m => simp at h; subst h; rfl
theorem Tryd.gErrText : Tryd.prog.globalNamed "lustrum/api.ErrText" = some 5 := by kernel_rfl
theorem Tryd.tErrText : (Tryd.prog.globals[(5 : Nat)]?).map (·.type) = some 36 := by kernel_rfl
theorem Tryd.gErrBound : Tryd.prog.globalNamed "lustrum/api.ErrBound" = some 3 := by kernel_rfl
theorem Tryd.tErrBound : (Tryd.prog.globals[(3 : Nat)]?).map (·.type) = some 36 := by kernel_rfl
theorem Tryd.gErrShape : Tryd.prog.globalNamed "lustrum/api.ErrShape" = some 2 := by kernel_rfl
theorem Tryd.tErrShape : (Tryd.prog.globals[(2 : Nat)]?).map (·.type) = some 36 := by kernel_rfl
theorem Tryd.gErrName : Tryd.prog.globalNamed "lustrum/api.ErrName" = some 6 := by kernel_rfl
theorem Tryd.tErrName : (Tryd.prog.globals[(6 : Nat)]?).map (·.type) = some 36 := by kernel_rfl
theorem Tryd.gErrType : Tryd.prog.globalNamed "lustrum/api.ErrType" = some 4 := by kernel_rfl
theorem Tryd.tErrType : (Tryd.prog.globals[(4 : Nat)]?).map (·.type) = some 36 := by kernel_rfl
theorem Tryd.gErrCycle : Tryd.prog.globalNamed "lustrum/api.ErrCycle" = some 0 := by kernel_rfl
theorem Tryd.tErrCycle : (Tryd.prog.globals[(0 : Nat)]?).map (·.type) = some 36 := by kernel_rfl
theorem Tryd.gErrFirst : Tryd.prog.globalNamed "lustrum/api.ErrFirst" = some 1 := by kernel_rfl
theorem Tryd.tErrFirst : (Tryd.prog.globals[(1 : Nat)]?).map (·.type) = some 36 := by kernel_rfl
theorem Tryd.gErrProof : Tryd.prog.globalNamed "lustrum/api.ErrProof" = some 7 := by kernel_rfl
theorem Tryd.tErrProof : (Tryd.prog.globals[(7 : Nat)]?).map (·.type) = some 36 := by kernel_rfl
theorem Tryd.gErrNone : Tryd.prog.globalNamed "lustrum/api.ErrNone" = some 8 := by kernel_rfl
theorem Tryd.tErrNone : (Tryd.prog.globals[(8 : Nat)]?).map (·.type) = some 36 := by kernel_rfl

/-- Where the nine pointers are, by their numbers. -/
def pick9 (a0 a1 a2 a3 a4 a5 a6 a7 a8 : Addr) : Nat → Addr
  | 0 => a0 | 1 => a1 | 2 => a2 | 3 => a3 | 4 => a4 | 5 => a5 | 6 => a6 | 7 => a7 | _ => a8
theorem short_inj (j k : Nat) (hj : j < 9) (hk : k < 9) (h : short j = short k) : j = k := by
  have hall : ((List.range 9).all fun j => (List.range 9).all fun k => !((short j).data.toList == (short k).data.toList) || j == k) = true := by decide
  have h1 := List.all_eq_true.1 (List.all_eq_true.1 hall j (List.mem_range.2 hj)) k (List.mem_range.2 hk)
  rw [h] at h1
  simpa using h1

/-- THE NINE, WITH THEIR TEXTS, out of any list that bears them. -/
theorem sents_of {l hs : List (String × DataW Unit)} {W : World} (h : laidMet Tryd.prog l W) (hh : handlesMet Tryd.prog hs W)
    (hm : ("errors.errorType", .iface "internal/reflectlite.rtype" (.agg [.ptr (.lit (.string [101, 114, 114, 111, 114]))])) ∈ hs)
    (hl : ∀ x ∈ [("lustrum/api.ErrText", Rows.laid_lustrum_api_ErrText), ("lustrum/api.ErrBound", Rows.laid_lustrum_api_ErrBound), ("lustrum/api.ErrShape", Rows.laid_lustrum_api_ErrShape), ("lustrum/api.ErrName", Rows.laid_lustrum_api_ErrName), ("lustrum/api.ErrType", Rows.laid_lustrum_api_ErrType), ("lustrum/api.ErrCycle", Rows.laid_lustrum_api_ErrCycle), ("lustrum/api.ErrFirst", Rows.laid_lustrum_api_ErrFirst), ("lustrum/api.ErrProof", Rows.laid_lustrum_api_ErrProof), ("lustrum/api.ErrNone", Rows.laid_lustrum_api_ErrNone)], x ∈ l) :
    ∃ a : Nat → Addr, Sents a W ∧ ∀ k, k < 9 → W.cell? (a k) = some (.string (⟨#[108, 117, 115, 116, 114, 117, 109, 58, 32]⟩ ++ short k)) := by
  obtain ⟨a0, s0, c0, t0, v0, p0, x0, r0⟩ := Tryd.sent h (hl ("lustrum/api.ErrText", Rows.laid_lustrum_api_ErrText) (by simp)) Tryd.gErrText Tryd.tErrText
  obtain ⟨a1, s1, c1, t1, v1, p1, x1, r1⟩ := Tryd.sent h (hl ("lustrum/api.ErrBound", Rows.laid_lustrum_api_ErrBound) (by simp)) Tryd.gErrBound Tryd.tErrBound
  obtain ⟨a2, s2, c2, t2, v2, p2, x2, r2⟩ := Tryd.sent h (hl ("lustrum/api.ErrShape", Rows.laid_lustrum_api_ErrShape) (by simp)) Tryd.gErrShape Tryd.tErrShape
  obtain ⟨a3, s3, c3, t3, v3, p3, x3, r3⟩ := Tryd.sent h (hl ("lustrum/api.ErrName", Rows.laid_lustrum_api_ErrName) (by simp)) Tryd.gErrName Tryd.tErrName
  obtain ⟨a4, s4, c4, t4, v4, p4, x4, r4⟩ := Tryd.sent h (hl ("lustrum/api.ErrType", Rows.laid_lustrum_api_ErrType) (by simp)) Tryd.gErrType Tryd.tErrType
  obtain ⟨a5, s5, c5, t5, v5, p5, x5, r5⟩ := Tryd.sent h (hl ("lustrum/api.ErrCycle", Rows.laid_lustrum_api_ErrCycle) (by simp)) Tryd.gErrCycle Tryd.tErrCycle
  obtain ⟨a6, s6, c6, t6, v6, p6, x6, r6⟩ := Tryd.sent h (hl ("lustrum/api.ErrFirst", Rows.laid_lustrum_api_ErrFirst) (by simp)) Tryd.gErrFirst Tryd.tErrFirst
  obtain ⟨a7, s7, c7, t7, v7, p7, x7, r7⟩ := Tryd.sent h (hl ("lustrum/api.ErrProof", Rows.laid_lustrum_api_ErrProof) (by simp)) Tryd.gErrProof Tryd.tErrProof
  obtain ⟨a8, s8, c8, t8, v8, p8, x8, r8⟩ := Tryd.sent h (hl ("lustrum/api.ErrNone", Rows.laid_lustrum_api_ErrNone) (by simp)) Tryd.gErrNone Tryd.tErrNone
  have hT : ∀ k, k < 9 → W.cell? (pick9 a0 a1 a2 a3 a4 a5 a6 a7 a8 k) = some (.string (⟨#[108, 117, 115, 116, 114, 117, 109, 58, 32]⟩ ++ short k)) := by
    intro k hk
    rcases k with _ | _ | _ | _ | _ | _ | _ | _ | _ | k
    · refine p0.trans ?_; rw [string_of x0]; exact congrArg (fun b => some (Value.string b)) (ByteArray.ext (by decide))
    · refine p1.trans ?_; rw [string_of x1]; exact congrArg (fun b => some (Value.string b)) (ByteArray.ext (by decide))
    · refine p2.trans ?_; rw [string_of x2]; exact congrArg (fun b => some (Value.string b)) (ByteArray.ext (by decide))
    · refine p3.trans ?_; rw [string_of x3]; exact congrArg (fun b => some (Value.string b)) (ByteArray.ext (by decide))
    · refine p4.trans ?_; rw [string_of x4]; exact congrArg (fun b => some (Value.string b)) (ByteArray.ext (by decide))
    · refine p5.trans ?_; rw [string_of x5]; exact congrArg (fun b => some (Value.string b)) (ByteArray.ext (by decide))
    · refine p6.trans ?_; rw [string_of x6]; exact congrArg (fun b => some (Value.string b)) (ByteArray.ext (by decide))
    · refine p7.trans ?_; rw [string_of x7]; exact congrArg (fun b => some (Value.string b)) (ByteArray.ext (by decide))
    · refine p8.trans ?_; rw [string_of x8]; exact congrArg (fun b => some (Value.string b)) (ByteArray.ext (by decide))
    · omega
  refine ⟨pick9 a0 a1 a2 a3 a4 a5 a6 a7 a8, ⟨v0, v1, v2, v3, v4, v5, v6, v7, v8, Tryd.handle hh hm, ?_, ?_⟩, hT⟩
  · intro k hk
    rcases k with _ | _ | _ | _ | _ | _ | _ | _ | _ | k
    · exact ⟨c0, t0, r0⟩
    · exact ⟨c1, t1, r1⟩
    · exact ⟨c2, t2, r2⟩
    · exact ⟨c3, t3, r3⟩
    · exact ⟨c4, t4, r4⟩
    · exact ⟨c5, t5, r5⟩
    · exact ⟨c6, t6, r6⟩
    · exact ⟨c7, t7, r7⟩
    · exact ⟨c8, t8, r8⟩
    · omega
  · intro j k hj hk hne he
    have h1 := hT j hj
    rw [he, hT k hk] at h1
    exact hne (short_inj j k hj hk (by simpa using h1.symm))
end Go.Proofs.YtpkgingjmgakbaaDoor

/-
  TERMS, IN PLAIN MATHEMATICS.
-/
namespace Go.Proofs.YtpkgingjmgakbaaDoor

/-- What is read: a term; a variable (its name, its kind); a name; an equation (its kind; names and a term); a node (its name; four lists). -/
inductive Ex where
  | mk (op : ByteArray) (n : Int) (s : ByteArray) (l : List Ex)
def Ex.op : Ex → ByteArray | .mk op _ _ _ => op
def Ex.n : Ex → Int | .mk _ n _ _ => n
def Ex.s : Ex → ByteArray | .mk _ _ s _ => s
def Ex.l : Ex → List Ex | .mk _ _ _ l => l

end Go.Proofs.YtpkgingjmgakbaaDoor

/-
  A CALL INSIDE A DRAWN REGION.
-/
namespace Go.Proofs.YtpkgingjmgakbaaDoor
open Go.RowKit

theorem step_call {P : Program} {ops : Array Oper} {o : Oper} {a : Act} {w : World} {K : Act → World → Prop} {Q : Exit → Act → World → Prop} {E : Prop} (hgd : o.guard = none) (f : FuncId) (vs : Array Value) (hrun : (execOp a.eval o).run P w = .ok (.enter f vs) w)
    (h : Calls P f vs w fun
      | .returned v, w' => K (a.put o.dst v) w'
      | .panicked c, w' => Q (.panic c) a w'
      | .outgrown, _ => LetsOut Q) : if Region.wanted o (yielded ops a.tmps) = true then Oper.wp P o a w K Q else E := by
  have hw : Region.wanted o (yielded ops a.tmps) = true := by simp [Region.wanted, hgd]
  rw [if_pos hw]
  unfold Oper.wp
  rw [hrun]
  exact h
end Go.Proofs.YtpkgingjmgakbaaDoor

/-
  THE DOCUMENT's OPERATORS (lustrumref2): Around, Truth, Right BY CONTRACT; values in memory.
-/
namespace Go.Proofs.YtpkgingjmgakbaaDoor
open Go.RowKit

/-- An int of eight bits. -/
def aroundI (n : Int) : Int := (n + 128) % 256 - 128
theorem aroundI_of (n : Int) : aroundI n = (let r := n.tmod 256; let s := if r < 0 then r + 256 else r; if 127 < s then s - 256 else s) := by
  have h : n.tmod 256 = n % 256 ∨ n.tmod 256 = n % 256 - 256 ∧ n % 256 ≠ 0 := by
    rcases Int.lt_or_le n 0 with h | h
    · have e : n.tmod 256 = -((-n) % 256) := by
        have := Int.neg_tmod (-n) 256
        rw [Int.neg_neg] at this
        rw [this, Int.tmod_eq_emod_of_nonneg (by omega)]
      rw [e]
      omega
    · exact .inl (Int.tmod_eq_emod_of_nonneg h)
  unfold aroundI
  simp only
  split <;> split <;> omega
/-- A bool's value. -/
def truthI (b : Bool) : Int := if b = true then 1 else 0
/-- Is it a value of that kind? -/
def rightB (k n kind : Int) : Bool := if k = kind then (if kind = 1 then (decide (n = 0) || decide (n = 1)) else (decide (kind = 2) && (decide (-129 < n) && decide (n < 128)))) else false
theorem cell_lt {w : World} {p : Addr} {v : Value} (hc : w.cell? p = some v) : p.block < w.heap.size := by
  rcases Nat.lt_or_ge p.block w.heap.size with h | h
  · exact h
  · simp [World.cell?, Array.getElem?_eq_none h] at hc
/-- Values one behind the other. -/
def ValsAt (w : World) (v : Value) (l : List (Int × Int)) : Prop := l.length ≤ maxLen ∧ ∃ o c, v = .slice o l.length c ∧ ∀ k x, l[k]? = some x → ∃ b off, o = some ⟨b, off, none⟩ ∧ w.cell? ⟨b, off + k * 2, none⟩ = some (.int .i64 x.1) ∧ w.cell? ⟨b, off + k * 2 + 1, none⟩ = some (.int .i64 x.2)
theorem ValsAt.below {w w' : World} {v : Value} {l : List (Int × Int)} (h : ValsAt w v l) (hb : Below w.heap.size w w') : ValsAt w' v l := by
  obtain ⟨hl, o, c, rfl, h⟩ := h
  refine ⟨hl, o, c, rfl, fun k x hk => ?_⟩
  obtain ⟨b, off, e, c0, c1⟩ := h k x hk
  exact ⟨b, off, e, cell_keep hb c0, cell_keep hb c1⟩
end Go.Proofs.YtpkgingjmgakbaaDoor

/-
  MAPS OF FUNCTIONS BY NAMES: made, written, looked up, ranged over.
-/
namespace Go.Proofs.YtpkgingjmgakbaaDoor
open Go.RowKit Go.Maps

/-- A value reads as itself. -/
def heldE : Value → Option (DataW Value × List MemPlace) := fun v => some (.held v, [])
def fset (f : List UInt8 → Option Value) (k : List UInt8) (v : Value) : List UInt8 → Option Value := fun x => if x = k then some v else f x
def fnone : List UInt8 → Option Value := fun _ => none
/-- The map in block b has at most n entries, and they are these. -/
def FnAt (w : World) (b n : Nat) (f : List UInt8 → Option Value) : Prop := ∃ D : DataW Value, w.ownsMap Tryd.prog 9 heldE b n D ∧ ∀ k, Maps.has D (.string k) = (f k).isSome ∧ ∀ v z, f k = some v → D.atKey (.string k) z = .held v
theorem strKeyed : Keyed Tryd.prog 9 := string_keyed Tryd.underlying9
theorem FnAt.lt {w : World} {b n : Nat} {f : List UInt8 → Option Value} (h : FnAt w b n f) : b < w.heap.size := by
  obtain ⟨D, h, _⟩ := h
  exact h.lt
theorem FnAt.kept {w w' : World} {b n : Nat} {f : List UInt8 → Option Value} (h : FnAt w b n f) (e : w'.heap[b]? = w.heap[b]?) : FnAt w' b n f := by
  obtain ⟨D, ⟨es, clock, hb, r⟩, k⟩ := h
  exact ⟨D, ⟨es, clock, by rw [e]; exact hb, r⟩, k⟩
theorem FnAt.made (w : World) : FnAt (w.alloc (.map #[] 0)) w.heap.size 0 fnone :=
  ⟨.map [], World.ownsMap_made w _ _ _, fun k => ⟨rfl, fun v z h => by simp [fnone] at h⟩⟩
theorem fn_put {D : DataW Value} {f : List UInt8 → Option Value} (hD : IsMap D) (h : ∀ k, Maps.has D (.string k) = (f k).isSome ∧ ∀ v z, f k = some v → D.atKey (.string k) z = .held v) (s : List UInt8) (val : Value) :
    ∀ k, Maps.has (D.put (.string s) (.held val)) (.string k) = (fset f s val k).isSome ∧ ∀ v z, fset f s val k = some v → (D.put (.string s) (.held val)).atKey (.string k) z = .held v := by
  intro k
  unfold fset
  by_cases e : k = s
  · subst e
    rw [if_pos rfl]
    exact ⟨has_put_same hD (show WideAt.IsKeyLit (.string k) from trivial) _, fun v z hv => by rw [atKey_put_same hD (show WideAt.IsKeyLit (.string k) from trivial)]; simpa using hv⟩
  · have hne : Lit.string k ≠ Lit.string s := fun q => e (by simpa using q)
    rw [if_neg e, has_put_other hne]
    exact ⟨(h k).1, fun v z hv => by rw [atKey_put_other hne]; exact (h k).2 v z hv⟩
theorem FnAt.put {w : World} {b n : Nat} {f : List UInt8 → Option Value} (h : FnAt w b n f) {t e : TypeId} (ht : Tryd.prog.underlying t = some (.map 9 e)) (hn : n < maxLen) (s : ByteArray) (hs : s.size ≤ maxLen) (val : Value) :
    ∃ w', (Instr.mapUpdate t (.map (some b)) (.string s) val).run Tryd.prog w = .ok () w' ∧ FnAt w' b (n + 1) (fset f s.data.toList val) ∧ w.grownBy w' (some b) := by
  obtain ⟨D, h, k⟩ := h
  obtain ⟨w', r1, r2, r3⟩ := h.update strKeyed ht hn (WideMaps.keyOf_string_mk Tryd.underlying9 hs) (show heldE val = some (.held val, []) from rfl)
  exact ⟨w', r1, ⟨_, r2, fn_put h.isMap k _ _⟩, r3⟩
/-- An entry of a map that is written out. -/
theorem wpList_insert_fn {ops : Array Oper} {rest : List Oper} {o : Oper} {a : Act} {Q : Exit → Act → World → Prop} (w : World) (hg : o.guard = none) (m x v : Operand) (t e : TypeId) (hop : o.op = Op.insert t m x v) (ht : Tryd.prog.underlying t = some (.map 9 e)) (b n : Nat) (f : List UInt8 → Option Value)
    (hm : a.eval m = .map (some b)) (h : FnAt w b n f) (hn : n < maxLen) (s : ByteArray) (hs : s.size ≤ maxLen) (hx : a.eval x = .string s) (val : Value) (hv : a.eval v = val)
    (hK : ∀ w', FnAt w' b (n + 1) (fset f s.data.toList val) → w.grownBy w' (some b) → wpList Tryd.prog ops Q rest (a.put o.dst undef) w') : wpList Tryd.prog ops Q (o :: rest) a w := by
  refine wpList_plain hg fun K' hK' => ?_
  obtain ⟨w', hrun, r1, r2⟩ := h.put ht hn s hs val
  unfold Oper.wp
  simp [execOp, hop, hm, hx, hv, hrun, Result.andThen]
  exact hK' _ _ (hK w' r1 r2)
/-- A function without what it captures. -/
def fnV (f : FuncId) : Value := .func (.func f) #[] #[]
theorem grown_trans {a b c : World} {row : Option Nat} (h : a.grownBy b row) (k : b.grownBy c row) : a.grownBy c row :=
  ⟨k.os.trans h.os, k.tape.trans h.tape, k.output.trans h.output, Nat.le_trans h.size k.size, fun i hi hr => by rw [k.block i (Nat.lt_of_lt_of_le hi h.size) hr, h.block i hi hr]⟩
theorem heap_grown' {w w' : World} {row : Option Nat} (hg : w.grownBy w' row) {b : Nat} {o : Obj} (hne : row ≠ some b) (h : w.heap[b]? = some o) : w'.heap[b]? = some o := by
  rw [hg.block b (Array.getElem?_eq_some_iff.1 h).1 (fun e => hne e.symm)]; exact h
theorem alloc_row' {w : World} (o : Obj) {k : Nat} {x : Obj} (h : w.heap[k]? = some x) : (w.alloc o).heap[k]? = some x := by
  rw [Below.heap_alloc w o k (Array.getElem?_eq_some_iff.1 h).1]; exact h
end Go.Proofs.YtpkgingjmgakbaaDoor
