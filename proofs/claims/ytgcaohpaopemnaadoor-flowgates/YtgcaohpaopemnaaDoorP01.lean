/-
  errors.Is BY ITS CONTRACTS, where the target is a sentinel of errors.New's make and the error is such a pointer too, or an *api.Fault that wraps one. Go's own text is walked. Conditions: the two errors' rows of cells bear the frozen range (0, 0).
-/
import Derived.Test.YtgcaohpaopemnaaDoorChecked
import Derived.WalkKit
import Derived.LaidEql
import Derived.Stop.Asserts
import Derived.RowKitTokens
import Derived.LoopTactic
import Derived.Below
import Derived.Test.YtgcaohpaopemnaaDoorRows
import Derived.LaidLaws
import Derived.LaidHandle
import Derived.Stop.LaidErr
import Derived.Deep.RegionLaw
import Derived.Handy
import Derived.Deep.QuietTactic
import Derived.BigQuiet
import Derived.WalkSmall
namespace Go.Proofs.YtgcaohpaopemnaaDoor
open Go.RowKit Go.Extern.Stop Go.Stop Go.Extern

/-- The model's entry for (rtype).Comparable, under a name that the walk does not look behind. -/
def cmpEntry : Array Value → Sem Value := Extern.ReflectliteType.method fun t => do Extern.Rtype.noPackHeld "Comparable" t; pure (.bool (← typeInfo t).comparable)
theorem Tryd.isComparable (w : World) : (cmpEntry #[.agg #[.pointer (some ⟨4, 125, none⟩)]]).run Tryd.prog w = .ok (.bool true) w := by kernel_rfl
theorem Tryd.isComp : (Tryd.prog.info? 125).map (·.comparable) = some true := by kernel_rfl
theorem Tryd.isSize : (Tryd.prog.info? 142).map (·.size) = some 1 := by kernel_rfl
end Go.Proofs.YtgcaohpaopemnaaDoor

/-
  errors.As(err, &f), f a variable of type *api.Fault, BY ITS CONTRACTS: 'as_hit' (err is an *api.Fault: true, f is set) and 'as_miss' (err is of errors.New's make: false, f stays). Conditions: the library's variable errorType holds the handle of the type 'error'; f's cell is there and not frozen.
-/
namespace Go.Proofs.YtgcaohpaopemnaaDoor
open Go.RowKit Go.Extern.Stop Go.Stop Go.Extern

theorem one_of (v : Value) (h1 : Value → Sem Value) (h2 : Array Value → Sem Value) : ReflectliteValue.method.match_2 (fun _ => Sem Value) #[v] h1 h2 = h1 v := rfl
theorem two_of (v x : Value) (h1 : Value → Value → Sem Value) (h2 : Array Value → Sem Value) : ReflectliteValue.set.match_3 (fun _ => Sem Value) #[v, x] h1 h2 = h1 v x := rfl
end Go.Proofs.YtgcaohpaopemnaaDoor

/-
  WHAT IS READ OF OLD MEMORY IS READ OF IT LATER.
-/
namespace Go.Proofs.YtgcaohpaopemnaaDoor
open Go.RowKit

/-- What is read of a cell is read of it later, where no old block has turned. -/
theorem cell_keep {w w' : World} (hb : Below w.heap.size w w') {p : Addr} {v : Value} (hc : w.cell? p = some v) : w'.cell? p = some v := by
  have hp : p.block < w.heap.size := by
    rcases Nat.lt_or_ge p.block w.heap.size with h | h
    · exact h
    · simp [World.cell?, Array.getElem?_eq_none h] at hc
  rw [hb.cell hp]; exact hc
theorem row_keep {w w' : World} (hb : Below w.heap.size w w') {k : Nat} {o : Obj} (hc : w.heap[k]? = some o) : w'.heap[k]? = some o := by
  have hp : k < w.heap.size := by
    rcases Nat.lt_or_ge k w.heap.size with h | h
    · exact h
    · simp [Array.getElem?_eq_none h] at hc
  rw [hb.block k hp]; exact hc
end Go.Proofs.YtgcaohpaopemnaaDoor

/-
  plain.Code BY ITS CONTRACTS: of an error of errors.New's make ('code_str'), of an *api.Fault that wraps one ('code_fault'), of nil ('code_nil'): the error's number and its place; what was in memory stays. Conditions: the nine sentinels and the library's errorType lie in memory as the program's text lays them ('Sents').
-/
namespace Go.Proofs.YtgcaohpaopemnaaDoor
open Go.RowKit Go.Extern.Stop Go.Stop Go.Extern

/-- The number of an error that is the m-th sentinel (9: none). -/
def codeOf (m : Nat) : Int := if m < 9 then (m : Int) + 1 else -1
theorem codeOf_in {m : Nat} (h : m < 9) : codeOf m = (m : Int) + 1 := if_pos h
theorem codeOf_out : codeOf 9 = -1 := rfl

theorem nine (a : Nat → Addr) (j : Nat) (hj : j < 9) : ([.iface 125 (.pointer (some (a 0))), .iface 125 (.pointer (some (a 1))), .iface 125 (.pointer (some (a 2))), .iface 125 (.pointer (some (a 3))), .iface 125 (.pointer (some (a 4))), .iface 125 (.pointer (some (a 5))), .iface 125 (.pointer (some (a 6))), .iface 125 (.pointer (some (a 7))), .iface 125 (.pointer (some (a 8)))] : List Value)[j]'(by simpa using hj) = .iface 125 (.pointer (some (a j))) := by
  rcases j with _ | _ | _ | _ | _ | _ | _ | _ | _ | j
  all_goals first | rfl | omega

end Go.Proofs.YtgcaohpaopemnaaDoor

/-
  THE NINE SENTINELS' TEXTS behind 'lustrum: '.
-/
namespace Go.Proofs.YtgcaohpaopemnaaDoor
open Go.RowKit

/-- A sentinel's text behind 'lustrum: '. -/
def short : Nat → ByteArray
  | 0 => ⟨#[116, 101, 120, 116]⟩
  | 1 => ⟨#[98, 111, 117, 110, 100]⟩
  | 2 => ⟨#[115, 104, 97, 112, 101]⟩
  | 3 => ⟨#[110, 97, 109, 101]⟩
  | 4 => ⟨#[116, 121, 112, 101]⟩
  | 5 => ⟨#[99, 121, 99, 108, 101]⟩
  | 6 => ⟨#[102, 105, 114, 115, 116]⟩
  | 7 => ⟨#[112, 114, 111, 111, 102]⟩
  | _ => ⟨#[110, 111, 110, 101]⟩

theorem short_size (j : Nat) : (short j).size ≤ 5 := by
  rcases j with _ | _ | _ | _ | _ | _ | _ | _ | j
  all_goals exact Nat.le_of_ble_eq_true rfl
end Go.Proofs.YtgcaohpaopemnaaDoor

/-
  FROM A ROW's LIST OF VARIABLES TO WHAT THE WALKS ASK: each sentinel's cell, its text, its row; errorType's cell; no two sentinels are one pointer (their texts differ).
-/
namespace Go.Proofs.YtgcaohpaopemnaaDoor
open Go.RowKit Go.ChangeShapes

/-- A sentinel, wherever it stands on the list. -/
theorem sent_mem {P : Program} {n nm : String} {text : List UInt8} {W : World} {g : Nat} {ti tp te ts : TypeId} {ms : Array (String × TypeId)} {f : Field} : ∀ {l : List (String × DataW Unit)},
    laidMet P l W → (n, .iface nm (.ptr (.agg [.lit (.string text)]))) ∈ l →
    P.globalNamed n = some g → (P.globals[g]?).map (·.type) = some ti → P.underlying ti = some (.interface ms) → (∀ u, P.typeName? 3 u = some nm → u = tp) →
    P.underlying tp = some (.pointer te) → P.underlying te = some (.struct #[f]) → f.type = ts → f.offset = 0 → P.underlying ts = some .string → P.cellsOf te = 1 → P.cellsOf ts = 1 →
    ∃ (a : Addr) (s : ByteArray) (c : Array Value) (t : TypeId), W.cell? ⟨g, 0, none⟩ = some (.iface tp (.pointer (some a))) ∧ W.cell? a = some (.string s) ∧ s.data.toList = text ∧ W.heap[a.block]? = some (.cells c t (0, 0)) := by
  intro l
  induction l with
  | nil => intro _ hm; cases hm
  | cons x r ih =>
    intro h hm hg ht hi hrow hp he hft hfo hs hc hcs
    rcases List.mem_cons.1 hm with rfl | hm
    · obtain ⟨ps, ⟨g0, t0, cs0, f0, p0, q0, hg0, ht0, hv0, hd0, _, e0⟩, _, hrows⟩ := h
      obtain rfl := Option.some.inj (hg.symm.trans hg0)
      obtain rfl := Option.some.inj (ht.symm.trans ht0)
      subst e0
      obtain ⟨l0⟩ := cs0
      have ok0 : ∀ u v, l0 = [.iface u v] → Value.okWide P W .any 0 u v := fun u v e => by
        subst e
        exact (hrows g 0 (by simp [MemPlace.row])).2 u v (by simpa using World.var?_cell hg0 hv0 0)
      obtain ⟨a0, s0, rfl, hc0, hs0, _, rfl⟩ := errorString_of_trod hi hrow hp he hft hfo hs hc hcs hd0 ok0
      obtain ⟨c0, t0, hb0⟩ := (hrows a0.block a0.off (by simp [MemPlace.row])).1
      exact ⟨a0, s0, c0, t0, by simpa using World.var?_cell hg0 hv0 0, hc0, hs0, hb0⟩
    · exact ih h.tail hm hg ht hi hrow hp he hft hfo hs hc hcs

theorem Tryd.own : ownKnob Tryd.prog.godebug = none := by kernel_rfl
theorem Tryd.cellsStr : Tryd.prog.cellsOf 9 = 1 := by kernel_rfl
theorem Tryd.cellsES : Tryd.prog.cellsOf 142 = 1 := by kernel_rfl
theorem Tryd.oneRow : ((List.range 145).filter fun t => Tryd.prog.rowNamed t [101, 114, 114, 111, 114]) = [26] := by kernel_rfl
theorem Tryd.tsize : Tryd.prog.types.size = 145 := by kernel_rfl
theorem Tryd.star : "*errors.errorString" = "*" ++ "errors.errorString" := by decide
theorem Tryd.esRow (u : TypeId) (h : Tryd.prog.typeName? 3 u = some "*errors.errorString") : u = 125 :=
  typeName_ptr_named (nm := "errors.errorString") (by rw [← Tryd.star]; kernel_rfl) (by kernel_rfl) (by decide) u (by rw [← Tryd.star]; exact h)
theorem Tryd.sent {l : List (String × DataW Unit)} {n : String} {text : List UInt8} {W : World} {g : Nat} (h : laidMet Tryd.prog l W) (hm : (n, .iface "*errors.errorString" (.ptr (.agg [.lit (.string text)]))) ∈ l) (hg : Tryd.prog.globalNamed n = some g) (ht : (Tryd.prog.globals[g]?).map (·.type) = some 26) :
    ∃ (a : Addr) (s : ByteArray) (c : Array Value) (t : TypeId), W.cell? ⟨g, 0, none⟩ = some (.iface 125 (.pointer (some a))) ∧ W.cell? a = some (.string s) ∧ s.data.toList = text ∧ W.heap[a.block]? = some (.cells c t (0, 0)) :=
  sent_mem h hm hg ht Tryd.underlying26 Tryd.esRow Tryd.underlying125 Tryd.underlying142 rfl rfl Tryd.underlying9 Tryd.cellsES Tryd.cellsStr

theorem string_of {s : ByteArray} {l : List UInt8} (h : s.data.toList = l) : s = ⟨l.toArray⟩ := by
  cases s with
  | mk d => cases d with
    | mk m => simp at h; subst h; rfl
theorem Tryd.gErrBound : Tryd.prog.globalNamed "lustrum/api.ErrBound" = some 2 := by kernel_rfl
theorem Tryd.tErrBound : (Tryd.prog.globals[(2 : Nat)]?).map (·.type) = some 26 := by kernel_rfl
theorem Tryd.gErrShape : Tryd.prog.globalNamed "lustrum/api.ErrShape" = some 0 := by kernel_rfl
theorem Tryd.tErrShape : (Tryd.prog.globals[(0 : Nat)]?).map (·.type) = some 26 := by kernel_rfl
theorem Tryd.gErrName : Tryd.prog.globalNamed "lustrum/api.ErrName" = some 3 := by kernel_rfl
theorem Tryd.tErrName : (Tryd.prog.globals[(3 : Nat)]?).map (·.type) = some 26 := by kernel_rfl
theorem Tryd.gErrType : Tryd.prog.globalNamed "lustrum/api.ErrType" = some 1 := by kernel_rfl
theorem Tryd.tErrType : (Tryd.prog.globals[(1 : Nat)]?).map (·.type) = some 26 := by kernel_rfl
/-- Where the nine pointers are, by their numbers. -/
def pick9 (a0 a1 a2 a3 a4 a5 a6 a7 a8 : Addr) : Nat → Addr
  | 0 => a0 | 1 => a1 | 2 => a2 | 3 => a3 | 4 => a4 | 5 => a5 | 6 => a6 | 7 => a7 | _ => a8
theorem short_inj (j k : Nat) (hj : j < 9) (hk : k < 9) (h : short j = short k) : j = k := by
  have hall : ((List.range 9).all fun j => (List.range 9).all fun k => !((short j).data.toList == (short k).data.toList) || j == k) = true := by decide
  have h1 := List.all_eq_true.1 (List.all_eq_true.1 hall j (List.mem_range.2 hj)) k (List.mem_range.2 hk)
  rw [h] at h1
  simpa using h1

end Go.Proofs.YtgcaohpaopemnaaDoor

/-
  A CALL INSIDE A DRAWN REGION.
-/
namespace Go.Proofs.YtgcaohpaopemnaaDoor
open Go.RowKit

theorem step_call {P : Program} {ops : Array Oper} {o : Oper} {a : Act} {w : World} {K : Act → World → Prop} {Q : Exit → Act → World → Prop} {E : Prop} (hgd : o.guard = none) (f : FuncId) (vs : Array Value) (hrun : (execOp a.eval o).run P w = .ok (.enter f vs) w)
    (h : Calls P f vs w fun
      | .returned v, w' => K (a.put o.dst v) w'
      | .panicked c, w' => Q (.panic c) a w'
      | .outgrown, _ => LetsOut Q) : if Region.wanted o (yielded ops a.tmps) = true then Oper.wp P o a w K Q else E := by
  have hw : Region.wanted o (yielded ops a.tmps) = true := by simp [Region.wanted, hgd]
  rw [if_pos hw]
  unfold Oper.wp
  rw [hrun]
  exact h
end Go.Proofs.YtgcaohpaopemnaaDoor

/-
  THE DOCUMENT's OPERATORS (lustrumref2): Around, Truth, Right BY CONTRACT; values in memory.
-/
namespace Go.Proofs.YtgcaohpaopemnaaDoor
open Go.RowKit

/-- An int of eight bits. -/
def aroundI (n : Int) : Int := (n + 128) % 256 - 128
theorem aroundI_of (n : Int) : aroundI n = (let r := n.tmod 256; let s := if r < 0 then r + 256 else r; if 127 < s then s - 256 else s) := by
  have h : n.tmod 256 = n % 256 ∨ n.tmod 256 = n % 256 - 256 ∧ n % 256 ≠ 0 := by
    rcases Int.lt_or_le n 0 with h | h
    · have e : n.tmod 256 = -((-n) % 256) := by
        have := Int.neg_tmod (-n) 256
        rw [Int.neg_neg] at this
        rw [this, Int.tmod_eq_emod_of_nonneg (by omega)]
      rw [e]
      omega
    · exact .inl (Int.tmod_eq_emod_of_nonneg h)
  unfold aroundI
  simp only
  split <;> split <;> omega
/-- A bool's value. -/
def truthI (b : Bool) : Int := if b = true then 1 else 0
/-- Is it a value of that kind? -/
def rightB (k n kind : Int) : Bool := if k = kind then (if kind = 1 then (decide (n = 0) || decide (n = 1)) else (decide (kind = 2) && (decide (-129 < n) && decide (n < 128)))) else false
theorem cell_lt {w : World} {p : Addr} {v : Value} (hc : w.cell? p = some v) : p.block < w.heap.size := by
  rcases Nat.lt_or_ge p.block w.heap.size with h | h
  · exact h
  · simp [World.cell?, Array.getElem?_eq_none h] at hc
/-- Values one behind the other. -/
def ValsAt (w : World) (v : Value) (l : List (Int × Int)) : Prop := l.length ≤ maxLen ∧ ∃ o c, v = .slice o l.length c ∧ ∀ k x, l[k]? = some x → ∃ b off, o = some ⟨b, off, none⟩ ∧ w.cell? ⟨b, off + k * 2, none⟩ = some (.int .i64 x.1) ∧ w.cell? ⟨b, off + k * 2 + 1, none⟩ = some (.int .i64 x.2)
theorem ValsAt.below {w w' : World} {v : Value} {l : List (Int × Int)} (h : ValsAt w v l) (hb : Below w.heap.size w w') : ValsAt w' v l := by
  obtain ⟨hl, o, c, rfl, h⟩ := h
  refine ⟨hl, o, c, rfl, fun k x hk => ?_⟩
  obtain ⟨b, off, e, c0, c1⟩ := h k x hk
  exact ⟨b, off, e, cell_keep hb c0, cell_keep hb c1⟩
end Go.Proofs.YtgcaohpaopemnaaDoor
