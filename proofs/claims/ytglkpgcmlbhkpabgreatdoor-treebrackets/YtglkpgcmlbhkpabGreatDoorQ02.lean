/-
  THE NINE SENTINELS' TEXTS behind 'lustrum: '.
-/
import Derived.Test.YtglkpgcmlbhkpabGreatDoorQ01
import Derived.Test.YtglkpgcmlbhkpabGreatDoorRows
import Derived.LaidLaws
import Derived.LaidHandle
import Derived.Stop.LaidErr
import Derived.Below
import Derived.Lib.Bytealg
import Derived.Lib.AtoiAll
import Derived.Laws.Strings
namespace Go.Proofs.YtglkpgcmlbhkpabGreatDoor
open Go.RowKit

/-- A sentinel's text behind 'lustrum: '. -/
def short : Nat → ByteArray
  | 0 => ⟨#[116, 101, 120, 116]⟩
  | 1 => ⟨#[98, 111, 117, 110, 100]⟩
  | 2 => ⟨#[115, 104, 97, 112, 101]⟩
  | 3 => ⟨#[110, 97, 109, 101]⟩
  | 4 => ⟨#[116, 121, 112, 101]⟩
  | 5 => ⟨#[99, 121, 99, 108, 101]⟩
  | 6 => ⟨#[102, 105, 114, 115, 116]⟩
  | 7 => ⟨#[112, 114, 111, 111, 102]⟩
  | _ => ⟨#[110, 111, 110, 101]⟩

theorem short_size (j : Nat) : (short j).size ≤ 5 := by
  rcases j with _ | _ | _ | _ | _ | _ | _ | _ | j
  all_goals exact Nat.le_of_ble_eq_true rfl
end Go.Proofs.YtglkpgcmlbhkpabGreatDoor

/-
  FROM A ROW's LIST OF VARIABLES TO WHAT THE WALKS ASK: each sentinel's cell, its text, its row; errorType's cell; no two sentinels are one pointer (their texts differ).
-/
namespace Go.Proofs.YtglkpgcmlbhkpabGreatDoor
open Go.RowKit Go.ChangeShapes

/-- A sentinel, wherever it stands on the list. -/
theorem sent_mem {P : Program} {n nm : String} {text : List UInt8} {W : World} {g : Nat} {ti tp te ts : TypeId} {ms : Array (String × TypeId)} {f : Field} : ∀ {l : List (String × DataW Unit)},
    laidMet P l W → (n, .iface nm (.ptr (.agg [.lit (.string text)]))) ∈ l →
    P.globalNamed n = some g → (P.globals[g]?).map (·.type) = some ti → P.underlying ti = some (.interface ms) → (∀ u, P.typeName? 3 u = some nm → u = tp) →
    P.underlying tp = some (.pointer te) → P.underlying te = some (.struct #[f]) → f.type = ts → f.offset = 0 → P.underlying ts = some .string → P.cellsOf te = 1 → P.cellsOf ts = 1 →
    ∃ (a : Addr) (s : ByteArray) (c : Array Value) (t : TypeId), W.cell? ⟨g, 0, none⟩ = some (.iface tp (.pointer (some a))) ∧ W.cell? a = some (.string s) ∧ s.data.toList = text ∧ W.heap[a.block]? = some (.cells c t (0, 0)) := by
  intro l
  induction l with
  | nil => intro _ hm; cases hm
  | cons x r ih =>
    intro h hm hg ht hi hrow hp he hft hfo hs hc hcs
    rcases List.mem_cons.1 hm with rfl | hm
    · obtain ⟨ps, ⟨g0, t0, cs0, f0, p0, q0, hg0, ht0, hv0, hd0, _, e0⟩, _, hrows⟩ := h
      obtain rfl := Option.some.inj (hg.symm.trans hg0)
      obtain rfl := Option.some.inj (ht.symm.trans ht0)
      subst e0
      obtain ⟨l0⟩ := cs0
      have ok0 : ∀ u v, l0 = [.iface u v] → Value.okWide P W .any 0 u v := fun u v e => by
        subst e
        exact (hrows g 0 (by simp [MemPlace.row])).2 u v (by simpa using World.var?_cell hg0 hv0 0)
      obtain ⟨a0, s0, rfl, hc0, hs0, _, rfl⟩ := errorString_of_trod hi hrow hp he hft hfo hs hc hcs hd0 ok0
      obtain ⟨c0, t0, hb0⟩ := (hrows a0.block a0.off (by simp [MemPlace.row])).1
      exact ⟨a0, s0, c0, t0, by simpa using World.var?_cell hg0 hv0 0, hc0, hs0, hb0⟩
    · exact ih h.tail hm hg ht hi hrow hp he hft hfo hs hc hcs

theorem Tryz.own : ownKnob Tryz.prog.godebug = none := by kernel_rfl
theorem Tryz.cellsStr : Tryz.prog.cellsOf 9 = 1 := by kernel_rfl
theorem Tryz.cellsES : Tryz.prog.cellsOf 327 = 1 := by kernel_rfl
theorem Tryz.gEt : Tryz.prog.globalNamed "errors.errorType" = some 9 := by kernel_rfl
theorem Tryz.rt : (Tryz.prog.cutTypes.find? (·.1 == "internal/reflectlite.rtype")).map (·.2) = some 254 := by kernel_rfl
theorem Tryz.oneRow : ((List.range 370).filter fun t => Tryz.prog.rowNamed t [101, 114, 114, 111, 114]) = [26] := by kernel_rfl
theorem Tryz.tsize : Tryz.prog.types.size = 370 := by kernel_rfl
theorem Tryz.star : "*errors.errorString" = "*" ++ "errors.errorString" := by decide
theorem Tryz.esRow (u : TypeId) (h : Tryz.prog.typeName? 3 u = some "*errors.errorString") : u = 325 :=
  typeName_ptr_named (nm := "errors.errorString") (by rw [← Tryz.star]; kernel_rfl) (by kernel_rfl) (by decide) u (by rw [← Tryz.star]; exact h)
/-- errorType's one cell. -/
theorem Tryz.handle {l : List (String × DataW Unit)} {W : World} (h : handlesMet Tryz.prog l W) (hm : ("errors.errorType", .iface "internal/reflectlite.rtype" (.agg [.ptr (.lit (.string [101, 114, 114, 111, 114]))])) ∈ l) :
    W.cell? ⟨9, 0, none⟩ = some (.iface 254 (.agg #[.pointer (some ⟨16, 26, none⟩)])) := by
  obtain ⟨name, u, ty, e1, e2, e3, e4, e5⟩ := h _ hm
  have en : name = [101, 114, 114, 111, 114] := (Option.some.inj e1).symm
  subst en
  obtain rfl := Option.some.inj (Tryz.rt.symm.trans e2)
  have hm : ty ∈ (List.range 370).filter fun t => Tryz.prog.rowNamed t [101, 114, 114, 111, 114] := List.mem_filter.2 ⟨List.mem_range.2 (by rw [← Tryz.tsize]; exact e3), e4⟩
  rw [Tryz.oneRow] at hm
  obtain rfl := List.mem_singleton.1 hm
  have hh : typeHandle Tryz.prog 26 = .pointer (some ⟨16, 26, none⟩) := by kernel_rfl
  rw [hh] at e5
  simpa using World.var?_cell Tryz.gEt e5 0
theorem Tryz.sent {l : List (String × DataW Unit)} {n : String} {text : List UInt8} {W : World} {g : Nat} (h : laidMet Tryz.prog l W) (hm : (n, .iface "*errors.errorString" (.ptr (.agg [.lit (.string text)]))) ∈ l) (hg : Tryz.prog.globalNamed n = some g) (ht : (Tryz.prog.globals[g]?).map (·.type) = some 26) :
    ∃ (a : Addr) (s : ByteArray) (c : Array Value) (t : TypeId), W.cell? ⟨g, 0, none⟩ = some (.iface 325 (.pointer (some a))) ∧ W.cell? a = some (.string s) ∧ s.data.toList = text ∧ W.heap[a.block]? = some (.cells c t (0, 0)) :=
  sent_mem h hm hg ht Tryz.underlying26 Tryz.esRow Tryz.underlying325 Tryz.underlying327 rfl rfl Tryz.underlying9 Tryz.cellsES Tryz.cellsStr

theorem string_of {s : ByteArray} {l : List UInt8} (h : s.data.toList = l) : s = ⟨l.toArray⟩ := by
  cases s with
  | mk d => cases d with
    | mk m => simp at h; subst h; rfl
theorem Tryz.gErrText : Tryz.prog.globalNamed "lustrum/api.ErrText" = some 1 := by kernel_rfl
theorem Tryz.tErrText : (Tryz.prog.globals[(1 : Nat)]?).map (·.type) = some 26 := by kernel_rfl
theorem Tryz.gErrBound : Tryz.prog.globalNamed "lustrum/api.ErrBound" = some 2 := by kernel_rfl
theorem Tryz.tErrBound : (Tryz.prog.globals[(2 : Nat)]?).map (·.type) = some 26 := by kernel_rfl
theorem Tryz.gErrShape : Tryz.prog.globalNamed "lustrum/api.ErrShape" = some 0 := by kernel_rfl
theorem Tryz.tErrShape : (Tryz.prog.globals[(0 : Nat)]?).map (·.type) = some 26 := by kernel_rfl
theorem Tryz.gErrName : Tryz.prog.globalNamed "lustrum/api.ErrName" = some 3 := by kernel_rfl
theorem Tryz.tErrName : (Tryz.prog.globals[(3 : Nat)]?).map (·.type) = some 26 := by kernel_rfl
theorem Tryz.gErrType : Tryz.prog.globalNamed "lustrum/api.ErrType" = some 4 := by kernel_rfl
theorem Tryz.tErrType : (Tryz.prog.globals[(4 : Nat)]?).map (·.type) = some 26 := by kernel_rfl
theorem Tryz.gErrCycle : Tryz.prog.globalNamed "lustrum/api.ErrCycle" = some 5 := by kernel_rfl
theorem Tryz.tErrCycle : (Tryz.prog.globals[(5 : Nat)]?).map (·.type) = some 26 := by kernel_rfl
theorem Tryz.gErrFirst : Tryz.prog.globalNamed "lustrum/api.ErrFirst" = some 6 := by kernel_rfl
theorem Tryz.tErrFirst : (Tryz.prog.globals[(6 : Nat)]?).map (·.type) = some 26 := by kernel_rfl
theorem Tryz.gErrProof : Tryz.prog.globalNamed "lustrum/api.ErrProof" = some 7 := by kernel_rfl
theorem Tryz.tErrProof : (Tryz.prog.globals[(7 : Nat)]?).map (·.type) = some 26 := by kernel_rfl
theorem Tryz.gErrNone : Tryz.prog.globalNamed "lustrum/api.ErrNone" = some 8 := by kernel_rfl
theorem Tryz.tErrNone : (Tryz.prog.globals[(8 : Nat)]?).map (·.type) = some 26 := by kernel_rfl

/-- Where the nine pointers are, by their numbers. -/
def pick9 (a0 a1 a2 a3 a4 a5 a6 a7 a8 : Addr) : Nat → Addr
  | 0 => a0 | 1 => a1 | 2 => a2 | 3 => a3 | 4 => a4 | 5 => a5 | 6 => a6 | 7 => a7 | _ => a8
theorem short_inj (j k : Nat) (hj : j < 9) (hk : k < 9) (h : short j = short k) : j = k := by
  have hall : ((List.range 9).all fun j => (List.range 9).all fun k => !((short j).data.toList == (short k).data.toList) || j == k) = true := by decide
  have h1 := List.all_eq_true.1 (List.all_eq_true.1 hall j (List.mem_range.2 hj)) k (List.mem_range.2 hk)
  rw [h] at h1
  simpa using h1

/-- THE NINE, WITH THEIR TEXTS, out of any list that bears them. -/
theorem sents_of {l hs : List (String × DataW Unit)} {W : World} (h : laidMet Tryz.prog l W) (hh : handlesMet Tryz.prog hs W)
    (hm : ("errors.errorType", .iface "internal/reflectlite.rtype" (.agg [.ptr (.lit (.string [101, 114, 114, 111, 114]))])) ∈ hs)
    (hl : ∀ x ∈ [("lustrum/api.ErrText", Rows.laid_lustrum_api_ErrText), ("lustrum/api.ErrBound", Rows.laid_lustrum_api_ErrBound), ("lustrum/api.ErrShape", Rows.laid_lustrum_api_ErrShape), ("lustrum/api.ErrName", Rows.laid_lustrum_api_ErrName), ("lustrum/api.ErrType", Rows.laid_lustrum_api_ErrType), ("lustrum/api.ErrCycle", Rows.laid_lustrum_api_ErrCycle), ("lustrum/api.ErrFirst", Rows.laid_lustrum_api_ErrFirst), ("lustrum/api.ErrProof", Rows.laid_lustrum_api_ErrProof), ("lustrum/api.ErrNone", Rows.laid_lustrum_api_ErrNone)], x ∈ l) :
    ∃ a : Nat → Addr, Sents a W ∧ ∀ k, k < 9 → W.cell? (a k) = some (.string (⟨#[108, 117, 115, 116, 114, 117, 109, 58, 32]⟩ ++ short k)) := by
  obtain ⟨a0, s0, c0, t0, v0, p0, x0, r0⟩ := Tryz.sent h (hl ("lustrum/api.ErrText", Rows.laid_lustrum_api_ErrText) (by simp)) Tryz.gErrText Tryz.tErrText
  obtain ⟨a1, s1, c1, t1, v1, p1, x1, r1⟩ := Tryz.sent h (hl ("lustrum/api.ErrBound", Rows.laid_lustrum_api_ErrBound) (by simp)) Tryz.gErrBound Tryz.tErrBound
  obtain ⟨a2, s2, c2, t2, v2, p2, x2, r2⟩ := Tryz.sent h (hl ("lustrum/api.ErrShape", Rows.laid_lustrum_api_ErrShape) (by simp)) Tryz.gErrShape Tryz.tErrShape
  obtain ⟨a3, s3, c3, t3, v3, p3, x3, r3⟩ := Tryz.sent h (hl ("lustrum/api.ErrName", Rows.laid_lustrum_api_ErrName) (by simp)) Tryz.gErrName Tryz.tErrName
  obtain ⟨a4, s4, c4, t4, v4, p4, x4, r4⟩ := Tryz.sent h (hl ("lustrum/api.ErrType", Rows.laid_lustrum_api_ErrType) (by simp)) Tryz.gErrType Tryz.tErrType
  obtain ⟨a5, s5, c5, t5, v5, p5, x5, r5⟩ := Tryz.sent h (hl ("lustrum/api.ErrCycle", Rows.laid_lustrum_api_ErrCycle) (by simp)) Tryz.gErrCycle Tryz.tErrCycle
  obtain ⟨a6, s6, c6, t6, v6, p6, x6, r6⟩ := Tryz.sent h (hl ("lustrum/api.ErrFirst", Rows.laid_lustrum_api_ErrFirst) (by simp)) Tryz.gErrFirst Tryz.tErrFirst
  obtain ⟨a7, s7, c7, t7, v7, p7, x7, r7⟩ := Tryz.sent h (hl ("lustrum/api.ErrProof", Rows.laid_lustrum_api_ErrProof) (by simp)) Tryz.gErrProof Tryz.tErrProof
  obtain ⟨a8, s8, c8, t8, v8, p8, x8, r8⟩ := Tryz.sent h (hl ("lustrum/api.ErrNone", Rows.laid_lustrum_api_ErrNone) (by simp)) Tryz.gErrNone Tryz.tErrNone
  have hT : ∀ k, k < 9 → W.cell? (pick9 a0 a1 a2 a3 a4 a5 a6 a7 a8 k) = some (.string (⟨#[108, 117, 115, 116, 114, 117, 109, 58, 32]⟩ ++ short k)) := by
    intro k hk
    rcases k with _ | _ | _ | _ | _ | _ | _ | _ | _ | k
    · refine p0.trans ?_; rw [string_of x0]; exact congrArg (fun b => some (Value.string b)) (ByteArray.ext (by decide))
    · refine p1.trans ?_; rw [string_of x1]; exact congrArg (fun b => some (Value.string b)) (ByteArray.ext (by decide))
    · refine p2.trans ?_; rw [string_of x2]; exact congrArg (fun b => some (Value.string b)) (ByteArray.ext (by decide))
    · refine p3.trans ?_; rw [string_of x3]; exact congrArg (fun b => some (Value.string b)) (ByteArray.ext (by decide))
    · refine p4.trans ?_; rw [string_of x4]; exact congrArg (fun b => some (Value.string b)) (ByteArray.ext (by decide))
    · refine p5.trans ?_; rw [string_of x5]; exact congrArg (fun b => some (Value.string b)) (ByteArray.ext (by decide))
    · refine p6.trans ?_; rw [string_of x6]; exact congrArg (fun b => some (Value.string b)) (ByteArray.ext (by decide))
    · refine p7.trans ?_; rw [string_of x7]; exact congrArg (fun b => some (Value.string b)) (ByteArray.ext (by decide))
    · refine p8.trans ?_; rw [string_of x8]; exact congrArg (fun b => some (Value.string b)) (ByteArray.ext (by decide))
    · omega
  refine ⟨pick9 a0 a1 a2 a3 a4 a5 a6 a7 a8, ⟨v0, v1, v2, v3, v4, v5, v6, v7, v8, Tryz.handle hh hm, ?_, ?_⟩, hT⟩
  · intro k hk
    rcases k with _ | _ | _ | _ | _ | _ | _ | _ | _ | k
    · exact ⟨c0, t0, r0⟩
    · exact ⟨c1, t1, r1⟩
    · exact ⟨c2, t2, r2⟩
    · exact ⟨c3, t3, r3⟩
    · exact ⟨c4, t4, r4⟩
    · exact ⟨c5, t5, r5⟩
    · exact ⟨c6, t6, r6⟩
    · exact ⟨c7, t7, r7⟩
    · exact ⟨c8, t8, r8⟩
    · omega
  · intro j k hj hk hne he
    have h1 := hT j hj
    rw [he, hT k hk] at h1
    exact hne (short_inj j k hj hk (by simpa using h1.symm))
end Go.Proofs.YtglkpgcmlbhkpabGreatDoor

/-
  THE WORDS OF A PROGRAM, IN PLAIN MATHEMATICS: what stands between tokens, which token begins at a byte, steps from byte to byte; that these steps have one end. Nothing of the program is in this text.
-/
namespace Go.Proofs.YtglkpgcmlbhkpabGreatDoor

def blankI (c : Int) : Bool := c == 32 || c == 10
def notNlI (c : Int) : Bool := c != 10
def lowI (c : Int) : Bool := decide (97 ≤ c) && decide (c ≤ 122)
def digI (c : Int) : Bool := decide (48 ≤ c) && decide (c ≤ 57)
def nameI (c : Int) : Bool := lowI c || digI c || c == 95

/-- The byte at a place, as a number (0 behind the end). -/
def byteI (s : ByteArray) (i : Nat) : Int := if h : i < s.size then (s[i].toNat : Int) else 0
theorem byteI_lt {s : ByteArray} {i : Nat} (h : i < s.size) : byteI s i = (s[i].toNat : Int) := dif_pos h

/-- n bytes from i on are such ones, and the next one, if there is one, is not. -/
structure IsRun (p : Int → Bool) (s : ByteArray) (i n : Nat) : Prop where
  le : i + n ≤ s.size
  all : ∀ k, k < n → p (byteI s (i + k)) = true
  stop : i + n < s.size → p (byteI s (i + n)) = false
theorem IsRun.one {p : Int → Bool} {s : ByteArray} {i n m : Nat} (a : IsRun p s i n) (b : IsRun p s i m) : n = m := by
  rcases Nat.lt_trichotomy n m with h | h | h
  · have h1 := a.stop (by have := b.le; omega)
    rw [b.all n h] at h1; cases h1
  · exact h
  · have h1 := b.stop (by have := a.le; omega)
    rw [a.all m h] at h1; cases h1

/-- The language's words. -/
def wordL : List (List UInt8) := [[97, 110, 100], [97, 115, 115, 101, 114, 116], [98, 111, 111, 108], [99, 104, 101, 99, 107], [101, 108, 115, 101], [102, 97, 108, 115, 101], [102, 98, 121], [105, 102], [105, 110, 116], [108, 101, 116], [109, 111, 100], [110, 111, 100, 101], [110, 111, 116], [111, 114], [112, 114, 101], [114, 101, 116, 117, 114, 110, 115], [116, 101, 108], [116, 104, 101, 110], [116, 114, 117, 101], [118, 97, 114], [120, 111, 114]]
def wordB (t : ByteArray) : Bool := wordL.any fun l => t.toList == l

def kName : ByteArray := ⟨#[110, 97, 109, 101]⟩
def kWord : ByteArray := ⟨#[119, 111, 114, 100]⟩
def kInt : ByteArray := ⟨#[105, 110, 116]⟩
def kOp : ByteArray := ⟨#[111, 112]⟩
def kEnd : ByteArray := ⟨#[101, 110, 100]⟩
def kNone : ByteArray := ⟨#[]⟩

def nameK (t : ByteArray) : ByteArray := if t.size > 12 then kNone else if wordB t then kWord else kName
/-- What digits come to. -/
def valL (l : List UInt8) : Nat := l.foldl (fun n c => 10 * n + (c.toNat - 48)) 0
def intB (t : ByteArray) : Bool := decide (valL t.data.toList ≤ 127) && !(decide (1 < t.size) && (byteI t 0 == 48))
def opK (t : ByteArray) : ByteArray := if t.toList.isEmpty then kNone else kOp
def intK (t : ByteArray) : ByteArray := if intB t then kInt else kNone
def twoL : List (List UInt8) := [[60, 62], [60, 61], [62, 61], [61, 62], [45, 62]]
def oneL : List UInt8 := [40, 41, 44, 59, 58, 61, 60, 62, 43, 45, 42, 47]
/-- How long the operator is with which bytes begin (0: there is none). -/
def twoB (s : ByteArray) : Bool := decide (1 < s.size) && twoL.any fun l => (s.extract 0 2).toList == l
def oneB (s : ByteArray) : Bool := if h : 0 < s.size then decide (0 ≤ Lib.indexByte oneL s[0]) else false
def opN (s : ByteArray) : Nat := if twoB s then 2 else if oneB s then 1 else 0
theorem opN_two {s : ByteArray} (h : twoB s = true) : opN s = 2 := by simp [opN, h]
theorem opN_one {s : ByteArray} (h : twoB s = false) (h1 : oneB s = true) : opN s = 1 := by simp [opN, h, h1]
theorem opN_none {s : ByteArray} (h : twoB s = false) (h1 : oneB s = false) : opN s = 0 := by simp [opN, h, h1]
theorem byteI_data (t : ByteArray) (k : Nat) (h : k < t.size) : byteI t k = ((t.data.toList[k]'(by simpa using h)).toNat : Int) := by rw [byteI_lt h]; rfl
/-- Every byte a digit: a number, or too great for any. -/
theorem parse_digits : ∀ (l : List UInt8) (acc : Nat), (∀ c ∈ l, 48 ≤ c.toNat ∧ c.toNat ≤ 57) →
    (Lib.parseUint10 acc l = .ok (l.foldl (fun n c => 10 * n + (c.toNat - 48)) acc)) ∨ (Lib.parseUint10 acc l = .range ∧ 1844674407370955161 ≤ l.foldl (fun n c => 10 * n + (c.toNat - 48)) acc)
  | [], _, _ => Or.inl rfl
  | c :: r, acc, h => by
    have hc := h c List.mem_cons_self
    have hr : ∀ c ∈ r, 48 ≤ c.toNat ∧ c.toNat ≤ 57 := fun x hx => h x (List.mem_cons_of_mem _ hx)
    have hge : ∀ (l : List UInt8) (a : Nat), a ≤ l.foldl (fun n c => 10 * n + (c.toNat - 48)) a := by
      intro l
      induction l with
      | nil => intro a; exact Nat.le_refl _
      | cons x r ih => intro a; exact Nat.le_trans (by show a ≤ 10 * a + (x.toNat - 48); omega) (ih _)
    have hg := hge r (10 * acc + (c.toNat - 48))
    simp only [Lib.parseUint10, List.foldl_cons]
    rw [if_pos hc]
    by_cases h1 : 1844674407370955162 ≤ acc
    · rw [if_pos h1]; exact Or.inr ⟨rfl, by omega⟩
    · rw [if_neg h1]
      by_cases h2 : 18446744073709551616 ≤ acc * 10 + (c.toNat - 48)
      · rw [if_pos h2]; exact Or.inr ⟨rfl, by omega⟩
      · rw [if_neg h2]
        have e : acc * 10 + (c.toNat - 48) = 10 * acc + (c.toNat - 48) := by omega
        rw [e]
        exact parse_digits r _ hr
theorem dig_mem {t : ByteArray} (hd : ∀ k, k < t.size → digI (byteI t k) = true) : ∀ c ∈ t.data.toList, 48 ≤ c.toNat ∧ c.toNat ≤ 57 := by
  intro c hc
  obtain ⟨k, hk, rfl⟩ := List.mem_iff_getElem.1 hc
  have h1 := hd k (by simpa using hk)
  rw [byteI_data t k (by simpa using hk)] at h1
  simp only [digI, Bool.and_eq_true, decide_eq_true_eq] at h1
  omega
theorem atoi_digits (t : ByteArray) (ht : 0 < t.size) (hd : ∀ k, k < t.size → digI (byteI t k) = true) :
    (Lib.atoiAll t.data.toList = .ok (valL t.data.toList : Int)) ∨ (Lib.atoiAll t.data.toList = .range ∧ 127 < valL t.data.toList) := by
  have hm := dig_mem hd
  have hl : t.data.toList.length = t.size := Array.length_toList
  rcases hdl : t.data.toList with _ | ⟨c, r⟩
  · rw [hdl] at hl; simp at hl; omega
  · rw [hdl] at hm
    have hc := hm c List.mem_cons_self
    have h43 : ¬ (c.toNat = 43 ∨ c.toNat = 45) := by omega
    have h45 : ¬ c.toNat = 45 := by omega
    rcases parse_digits (c :: r) 0 hm with h | ⟨h, hb⟩
    · by_cases hbig : 9223372036854775808 ≤ valL (c :: r)
      · refine Or.inr ⟨?_, by omega⟩
        simp only [Lib.atoiAll, if_neg h43, Lib.parseMag, h]
        rw [if_neg (by simp)]
        dsimp only
        rw [if_pos ⟨h45, hbig⟩]
      · refine Or.inl ?_
        simp only [Lib.atoiAll, if_neg h43, Lib.parseMag, h]
        rw [if_neg (by simp)]
        dsimp only
        rw [if_neg (fun x => hbig x.2), if_neg (fun x => h45 x.1), if_neg h45]
        rfl
    · refine Or.inr ⟨?_, by show 127 < (c :: r).foldl _ 0; omega⟩
      simp only [Lib.atoiAll, if_neg h43, Lib.parseMag, h]
      rw [if_neg (by simp)]
theorem intK_big {t : ByteArray} (h : (127 : Int) < (valL t.data.toList : Int)) : intK t = kNone := by
  have h1 : ¬ valL t.data.toList ≤ 127 := by omega
  simp [intK, intB, h1]
theorem intK_zero {t : ByteArray} (ht : 0 < t.size) (h1 : 1 < (t.size : Int)) (h : (t[0].toNat : Int) = 48) : intK t = kNone := by
  have h2 : 1 < t.size := by omega
  have hb : byteI t 0 = 48 := by rw [byteI_lt ht]; exact h
  simp [intK, intB, h2, hb]
theorem intK_yes {t : ByteArray} (ht : 0 < t.size) (hv : (valL t.data.toList : Int) ≤ 127) (h : (t.size : Int) ≤ 1 ∨ ((t[0].toNat : Int) == 48) = false) : intK t = kInt := by
  have h1 : valL t.data.toList ≤ 127 := by omega
  rcases h with h | h
  · have h2 : ¬ 1 < t.size := by omega
    simp [intK, intB, h1, h2]
  · have hb : (byteI t 0 == 48) = false := by rw [byteI_lt ht]; exact h
    simp [intK, intB, h1, hb]
theorem twoB_short {s : ByteArray} (h : (s.size : Int) ≤ 1) : twoB s = false := by
  have h1 : ¬ 1 < s.size := by omega
  simp [twoB, h1]
theorem twoB_none {s : ByteArray} (h1 : ((s.extract 0 2).toList == [60, 62]) = false) (h2 : ((s.extract 0 2).toList == [60, 61]) = false) (h3 : ((s.extract 0 2).toList == [62, 61]) = false) (h4 : ((s.extract 0 2).toList == [61, 62]) = false) (h5 : ((s.extract 0 2).toList == [45, 62]) = false) : twoB s = false := by
  simp [twoB, twoL, h1, h2, h3, h4, h5]
theorem twoB_of {s : ByteArray} {l : List UInt8} (h : 1 < (s.size : Int)) (hl : l ∈ twoL) (he : ((s.extract 0 2).toList == l) = true) : twoB s = true := by
  have h1 : 1 < s.size := by omega
  simp only [twoB, h1, decide_true, Bool.true_and, List.any_eq_true]
  exact ⟨l, hl, he⟩
theorem oneB_of {s : ByteArray} (h : 0 < s.size) {b : Bool} (hi : b = true ∧ 0 ≤ Lib.indexByte [40, 41, 44, 59, 58, 61, 60, 62, 43, 45, 42, 47] s[0]) : oneB s = true := by
  rw [oneB, dif_pos h]; exact decide_eq_true hi.2
theorem oneB_not {s : ByteArray} (h : 0 < s.size) (hi : (!s.toList.isEmpty) = false ∨ Lib.indexByte [40, 41, 44, 59, 58, 61, 60, 62, 43, 45, 42, 47] s[0] < 0) : oneB s = false := by
  rw [oneB, dif_pos h]
  rcases hi with hi | hi
  · exfalso
    have h1 : s.toList = [] := by simpa using hi
    rw [ByteArray.toList_eq] at h1
    have h2 : s.data.toList.length = 0 := by rw [h1]; rfl
    rw [Array.length_toList] at h2
    have h3 : s.size = s.data.size := rfl
    omega
  · exact decide_eq_false (by show ¬ 0 ≤ Lib.indexByte [40, 41, 44, 59, 58, 61, 60, 62, 43, 45, 42, 47] s[0]; omega)
theorem oneB_nil {s : ByteArray} (h : ¬ 0 < s.size) : oneB s = false := by rw [oneB, dif_neg h]
theorem nil_iff (s : ByteArray) : s.toList = [] ↔ s.size = 0 := by
  rw [ByteArray.toList_eq]
  constructor
  · intro h; show s.data.size = 0; rw [← Array.length_toList, h]; rfl
  · intro h; exact List.eq_nil_of_length_eq_zero (by rw [Array.length_toList]; exact h)
end Go.Proofs.YtglkpgcmlbhkpabGreatDoor
