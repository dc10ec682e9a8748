/-
  FROM A ROW's LIST OF VARIABLES TO WHAT THE WALKS ASK: each sentinel's cell, its text, its row; errorType's cell; no two sentinels are one pointer (their texts differ).
-/
import Derived.Test.YtiejfopholdbnaaGreatDoorQ19
import Derived.Test.YtiejfopholdbnaaGreatDoorRows
import Derived.LaidLaws
import Derived.LaidHandle
import Derived.Stop.LaidErr
import Derived.Test.YtiejfopholdbnaaGreatDoorQ14
import Derived.Test.YtiejfopholdbnaaGreatDoorQ32
namespace Go.Proofs.YtiejfopholdbnaaGreatDoor
open Go.RowKit Go.ChangeShapes
theorem sent_mem {P : Program} {n nm : String} {text : List UInt8} {W : World} {g : Nat} {ti tp te ts : TypeId} {ms : Array (String × TypeId)} {f : Field} : ∀ {l : List (String × DataW Unit)},
  laidMet P l W → (n, .iface nm (.ptr (.agg [.lit (.string text)]))) ∈ l →
  P.globalNamed n = some g → (P.globals[g]?).map (·.type) = some ti → P.underlying ti = some (.interface ms) → (∀ u, P.typeName? 3 u = some nm → u = tp) →
  P.underlying tp = some (.pointer te) → P.underlying te = some (.struct #[f]) → f.type = ts → f.offset = 0 → P.underlying ts = some .string → P.cellsOf te = 1 → P.cellsOf ts = 1 →
  ∃ (a : Addr) (s : ByteArray) (c : Array Value) (t : TypeId), W.cell? ⟨g, 0, none⟩ = some (.iface tp (.pointer (some a))) ∧ W.cell? a = some (.string s) ∧ s.data.toList = text ∧ W.heap[a.block]? = some (.cells c t (0, 0)) := by
 intro l
 induction l with
 | nil => intro _ hm; cases hm
 | cons x r ih =>
  intro h hm hg ht hi hrow hp he hft hfo hs hc hcs
  rcases List.mem_cons.1 hm with rfl | hm
  ·obtain ⟨ps, ⟨g0, t0, cs0, f0, p0, q0, hg0, ht0, hv0, hd0, _, e0⟩, _, hrows⟩ := h
   obtain rfl := Option.some.inj (hg.symm.trans hg0)
   obtain rfl := Option.some.inj (ht.symm.trans ht0)
   subst e0
   obtain ⟨l0⟩ := cs0
   have ok0 : ∀ u v, l0 = [.iface u v] → Value.okWide P W .any 0 u v := fun u v e => by
    subst e
    exact (hrows g 0 (by simp [MemPlace.row])).2 u v (by simpa using World.var?_cell hg0 hv0 0)
   obtain ⟨a0, s0, rfl, hc0, hs0, _, rfl⟩ := errorString_of_trod hi hrow hp he hft hfo hs hc hcs hd0 ok0
   obtain ⟨c0, t0, hb0⟩ := (hrows a0.block a0.off (by simp [MemPlace.row])).1
   exact ⟨a0, s0, c0, t0, by simpa using World.var?_cell hg0 hv0 0, hc0, hs0, hb0⟩
  ·exact ih h.tail hm hg ht hi hrow hp he hft hfo hs hc hcs

theorem Tryz.own : ownKnob Tryz.prog.godebug = none := by kernel_rfl
theorem Tryz.cellsStr : Tryz.prog.cellsOf 9 = 1 := by kernel_rfl
theorem Tryz.cellsES : Tryz.prog.cellsOf 311 = 1 := by kernel_rfl
theorem Tryz.gEt : Tryz.prog.globalNamed "errors.errorType" = some 9 := by kernel_rfl
theorem Tryz.rt : (Tryz.prog.cutTypes.find? (·.1 == "internal/reflectlite.rtype")).map (·.2) = some 260 := by kernel_rfl
theorem Tryz.oneRow : ((List.range 323).filter fun t => Tryz.prog.rowNamed t [101, 114, 114, 111, 114]) = [32] := by kernel_rfl
theorem Tryz.tsize : Tryz.prog.types.size = 323 := by kernel_rfl
theorem Tryz.star : "*errors.errorString" = "*" ++ "errors.errorString" := by decide
theorem Tryz.esRow (u : TypeId) (h : Tryz.prog.typeName? 3 u = some "*errors.errorString") : u = 289 :=
 typeName_ptr_named (nm := "errors.errorString") (by rw [← Tryz.star]; kernel_rfl) (by kernel_rfl) (by decide) u (by rw [← Tryz.star]; exact h)
theorem Tryz.handle {l : List (String × DataW Unit)} {W : World} (h : handlesMet Tryz.prog l W) (hm : ("errors.errorType", .iface "internal/reflectlite.rtype" (.agg [.ptr (.lit (.string [101, 114, 114, 111, 114]))])) ∈ l) :
  W.cell? ⟨9, 0, none⟩ = some (.iface 260 (.agg #[.pointer (some ⟨10, 32, none⟩)])) := by
 obtain ⟨name, u, ty, e1, e2, e3, e4, e5⟩ := h _ hm
 have en : name = [101, 114, 114, 111, 114] := (Option.some.inj e1).symm
 subst en
 obtain rfl := Option.some.inj (Tryz.rt.symm.trans e2)
 have hm : ty ∈ (List.range 323).filter fun t => Tryz.prog.rowNamed t [101, 114, 114, 111, 114] := List.mem_filter.2 ⟨List.mem_range.2 (by rw [← Tryz.tsize]; exact e3), e4⟩
 rw [Tryz.oneRow] at hm
 obtain rfl := List.mem_singleton.1 hm
 have hh : typeHandle Tryz.prog 32 = .pointer (some ⟨10, 32, none⟩) := by kernel_rfl
 rw [hh] at e5
 simpa using World.var?_cell Tryz.gEt e5 0
theorem Tryz.sent {l : List (String × DataW Unit)} {n : String} {text : List UInt8} {W : World} {g : Nat} (h : laidMet Tryz.prog l W) (hm : (n, .iface "*errors.errorString" (.ptr (.agg [.lit (.string text)]))) ∈ l) (hg : Tryz.prog.globalNamed n = some g) (ht : (Tryz.prog.globals[g]?).map (·.type) = some 32) :
  ∃ (a : Addr) (s : ByteArray) (c : Array Value) (t : TypeId), W.cell? ⟨g, 0, none⟩ = some (.iface 289 (.pointer (some a))) ∧ W.cell? a = some (.string s) ∧ s.data.toList = text ∧ W.heap[a.block]? = some (.cells c t (0, 0)) :=
 sent_mem h hm hg ht Tryz.underlying32 Tryz.esRow Tryz.underlying289 Tryz.underlying311 rfl rfl Tryz.underlying9 Tryz.cellsES Tryz.cellsStr

theorem string_of {s : ByteArray} {l : List UInt8} (h : s.data.toList = l) : s = ⟨l.toArray⟩ := by
 cases s with
 | mk d => cases d with
  | mk m => simp at h; subst h; rfl
theorem Tryz.gErrText : Tryz.prog.globalNamed "lustrum/api.ErrText" = some 5 := by kernel_rfl
theorem Tryz.tErrText : (Tryz.prog.globals[(5 : Nat)]?).map (·.type) = some 32 := by kernel_rfl
theorem Tryz.gErrBound : Tryz.prog.globalNamed "lustrum/api.ErrBound" = some 2 := by kernel_rfl
theorem Tryz.tErrBound : (Tryz.prog.globals[(2 : Nat)]?).map (·.type) = some 32 := by kernel_rfl
theorem Tryz.gErrShape : Tryz.prog.globalNamed "lustrum/api.ErrShape" = some 4 := by kernel_rfl
theorem Tryz.tErrShape : (Tryz.prog.globals[(4 : Nat)]?).map (·.type) = some 32 := by kernel_rfl
theorem Tryz.gErrName : Tryz.prog.globalNamed "lustrum/api.ErrName" = some 6 := by kernel_rfl
theorem Tryz.tErrName : (Tryz.prog.globals[(6 : Nat)]?).map (·.type) = some 32 := by kernel_rfl
theorem Tryz.gErrType : Tryz.prog.globalNamed "lustrum/api.ErrType" = some 3 := by kernel_rfl
theorem Tryz.tErrType : (Tryz.prog.globals[(3 : Nat)]?).map (·.type) = some 32 := by kernel_rfl
theorem Tryz.gErrCycle : Tryz.prog.globalNamed "lustrum/api.ErrCycle" = some 0 := by kernel_rfl
theorem Tryz.tErrCycle : (Tryz.prog.globals[(0 : Nat)]?).map (·.type) = some 32 := by kernel_rfl
theorem Tryz.gErrFirst : Tryz.prog.globalNamed "lustrum/api.ErrFirst" = some 1 := by kernel_rfl
theorem Tryz.tErrFirst : (Tryz.prog.globals[(1 : Nat)]?).map (·.type) = some 32 := by kernel_rfl
theorem Tryz.gErrProof : Tryz.prog.globalNamed "lustrum/api.ErrProof" = some 7 := by kernel_rfl
theorem Tryz.tErrProof : (Tryz.prog.globals[(7 : Nat)]?).map (·.type) = some 32 := by kernel_rfl
theorem Tryz.gErrNone : Tryz.prog.globalNamed "lustrum/api.ErrNone" = some 8 := by kernel_rfl
theorem Tryz.tErrNone : (Tryz.prog.globals[(8 : Nat)]?).map (·.type) = some 32 := by kernel_rfl

def pick9 (a0 a1 a2 a3 a4 a5 a6 a7 a8 : Addr) : Nat → Addr
 | 0 => a0 | 1 => a1 | 2 => a2 | 3 => a3 | 4 => a4 | 5 => a5 | 6 => a6 | 7 => a7 | _ => a8
theorem short_inj (j k : Nat) (hj : j < 9) (hk : k < 9) (h : short j = short k) : j = k := by
 have hall : ((List.range 9).all fun j => (List.range 9).all fun k => !((short j).data.toList == (short k).data.toList) || j == k) = true := by decide
 have h1 := List.all_eq_true.1 (List.all_eq_true.1 hall j (List.mem_range.2 hj)) k (List.mem_range.2 hk)
 rw [h] at h1
 simpa using h1

theorem sents_of {l hs : List (String × DataW Unit)} {W : World} (h : laidMet Tryz.prog l W) (hh : handlesMet Tryz.prog hs W)
  (hm : ("errors.errorType", .iface "internal/reflectlite.rtype" (.agg [.ptr (.lit (.string [101, 114, 114, 111, 114]))])) ∈ hs)
  (hl : ∀ x ∈ [("lustrum/api.ErrText", Rows.laid_lustrum_api_ErrText), ("lustrum/api.ErrBound", Rows.laid_lustrum_api_ErrBound), ("lustrum/api.ErrShape", Rows.laid_lustrum_api_ErrShape), ("lustrum/api.ErrName", Rows.laid_lustrum_api_ErrName), ("lustrum/api.ErrType", Rows.laid_lustrum_api_ErrType), ("lustrum/api.ErrCycle", Rows.laid_lustrum_api_ErrCycle), ("lustrum/api.ErrFirst", Rows.laid_lustrum_api_ErrFirst), ("lustrum/api.ErrProof", Rows.laid_lustrum_api_ErrProof), ("lustrum/api.ErrNone", Rows.laid_lustrum_api_ErrNone)], x ∈ l) :
  ∃ a : Nat → Addr, Sents a W ∧ ∀ k, k < 9 → W.cell? (a k) = some (.string (⟨#[108, 117, 115, 116, 114, 117, 109, 58, 32]⟩ ++ short k)) := by
 obtain ⟨a0, s0, c0, t0, v0, p0, x0, r0⟩ := Tryz.sent h (hl ("lustrum/api.ErrText", Rows.laid_lustrum_api_ErrText) (by simp)) Tryz.gErrText Tryz.tErrText
 obtain ⟨a1, s1, c1, t1, v1, p1, x1, r1⟩ := Tryz.sent h (hl ("lustrum/api.ErrBound", Rows.laid_lustrum_api_ErrBound) (by simp)) Tryz.gErrBound Tryz.tErrBound
 obtain ⟨a2, s2, c2, t2, v2, p2, x2, r2⟩ := Tryz.sent h (hl ("lustrum/api.ErrShape", Rows.laid_lustrum_api_ErrShape) (by simp)) Tryz.gErrShape Tryz.tErrShape
 obtain ⟨a3, s3, c3, t3, v3, p3, x3, r3⟩ := Tryz.sent h (hl ("lustrum/api.ErrName", Rows.laid_lustrum_api_ErrName) (by simp)) Tryz.gErrName Tryz.tErrName
 obtain ⟨a4, s4, c4, t4, v4, p4, x4, r4⟩ := Tryz.sent h (hl ("lustrum/api.ErrType", Rows.laid_lustrum_api_ErrType) (by simp)) Tryz.gErrType Tryz.tErrType
 obtain ⟨a5, s5, c5, t5, v5, p5, x5, r5⟩ := Tryz.sent h (hl ("lustrum/api.ErrCycle", Rows.laid_lustrum_api_ErrCycle) (by simp)) Tryz.gErrCycle Tryz.tErrCycle
 obtain ⟨a6, s6, c6, t6, v6, p6, x6, r6⟩ := Tryz.sent h (hl ("lustrum/api.ErrFirst", Rows.laid_lustrum_api_ErrFirst) (by simp)) Tryz.gErrFirst Tryz.tErrFirst
 obtain ⟨a7, s7, c7, t7, v7, p7, x7, r7⟩ := Tryz.sent h (hl ("lustrum/api.ErrProof", Rows.laid_lustrum_api_ErrProof) (by simp)) Tryz.gErrProof Tryz.tErrProof
 obtain ⟨a8, s8, c8, t8, v8, p8, x8, r8⟩ := Tryz.sent h (hl ("lustrum/api.ErrNone", Rows.laid_lustrum_api_ErrNone) (by simp)) Tryz.gErrNone Tryz.tErrNone
 have hT : ∀ k, k < 9 → W.cell? (pick9 a0 a1 a2 a3 a4 a5 a6 a7 a8 k) = some (.string (⟨#[108, 117, 115, 116, 114, 117, 109, 58, 32]⟩ ++ short k)) := by
  intro k hk
  rcases k with _ | _ | _ | _ | _ | _ | _ | _ | _ | k
  ·refine p0.trans ?_; rw [string_of x0]; exact congrArg (fun b => some (Value.string b)) (ByteArray.ext (by decide))
  ·refine p1.trans ?_; rw [string_of x1]; exact congrArg (fun b => some (Value.string b)) (ByteArray.ext (by decide))
  ·refine p2.trans ?_; rw [string_of x2]; exact congrArg (fun b => some (Value.string b)) (ByteArray.ext (by decide))
  ·refine p3.trans ?_; rw [string_of x3]; exact congrArg (fun b => some (Value.string b)) (ByteArray.ext (by decide))
  ·refine p4.trans ?_; rw [string_of x4]; exact congrArg (fun b => some (Value.string b)) (ByteArray.ext (by decide))
  ·refine p5.trans ?_; rw [string_of x5]; exact congrArg (fun b => some (Value.string b)) (ByteArray.ext (by decide))
  ·refine p6.trans ?_; rw [string_of x6]; exact congrArg (fun b => some (Value.string b)) (ByteArray.ext (by decide))
  ·refine p7.trans ?_; rw [string_of x7]; exact congrArg (fun b => some (Value.string b)) (ByteArray.ext (by decide))
  ·refine p8.trans ?_; rw [string_of x8]; exact congrArg (fun b => some (Value.string b)) (ByteArray.ext (by decide))
  ·omega
 refine ⟨pick9 a0 a1 a2 a3 a4 a5 a6 a7 a8, ⟨v0, v1, v2, v3, v4, v5, v6, v7, v8, Tryz.handle hh hm, ?_, ?_⟩, hT⟩
 ·intro k hk
  rcases k with _ | _ | _ | _ | _ | _ | _ | _ | _ | k
  ·exact ⟨c0, t0, r0⟩
  ·exact ⟨c1, t1, r1⟩
  ·exact ⟨c2, t2, r2⟩
  ·exact ⟨c3, t3, r3⟩
  ·exact ⟨c4, t4, r4⟩
  ·exact ⟨c5, t5, r5⟩
  ·exact ⟨c6, t6, r6⟩
  ·exact ⟨c7, t7, r7⟩
  ·exact ⟨c8, t8, r8⟩
  ·omega
 ·intro j k hj hk hne he
  have h1 := hT j hj
  rw [he, hT k hk] at h1
  exact hne (short_inj j k hj hk (by simpa using h1.symm))
end Go.Proofs.YtiejfopholdbnaaGreatDoor
namespace Go.Proofs.YtiejfopholdbnaaGreatDoor
open Go.RowKit Go.Maps
set_option maxRecDepth 100000
set_option maxHeartbeats 2000000

def shpK (op : List UInt8) (ps : List Int) : Bool := match signRow op with | none => true | some (tk, _) => !decide (ps.length = tk.length)
theorem result_full (w : World) (s : ByteArray) (hs : s.size ≤ maxLen) (op : Option Addr) (cp : Nat) (ps : List Int) (hp : IntsAt w (.slice op ps.length cp) ps) (hl : ps.length ≤ 100) (et st : TypeId) (eq sq : Value) (he : w.cell? ⟨3, 0, none⟩ = some (.iface et eq)) (hsh : w.cell? ⟨4, 0, none⟩ = some (.iface st sq)) :
  Calls Tryz.prog 63 #[.string s, .slice op ps.length cp] w fun e w' => Below w.heap.size w w' ∧ ∃ k err, e = .returned (.tuple #[.int .i64 k, err]) ∧ ((resK s.data.toList ps = some k ∧ err = .nilIface) ∨ (resK s.data.toList ps = none ∧ shpK s.data.toList ps = true ∧ err = .iface st sq) ∨ (resK s.data.toList ps = none ∧ shpK s.data.toList ps = false ∧ err = .iface et eq)) := by
 have hmf : ∀ (fn : Fn) (first cap : Array Value) (w : World), (Instr.makeFunc fn first cap).run Tryz.prog w = .ok (.func fn first cap) w := fun _ _ _ _ => rfl
 have hb1 : Below w.heap.size w (w.alloc (.cells #[.slice op ps.length cp] 30)) := bal
 obtain ⟨w1, hw1⟩ : ∃ w1, w1 = w.alloc (.cells #[.slice op ps.length cp] 30) := ⟨_, rfl⟩
 have hs1 : w1.heap.size = w.heap.size + 1 := by rw [hw1]; simp
 have hr1 : w1.heap[w.heap.size]? = some (.cells #[.slice op ps.length cp] 30 (0, 0)) := by rw [hw1]; exact heap_alloc_new _ _
 rw [← hw1] at hb1
 have HW1 : Hid (w.alloc (.cells #[.slice op ps.length cp] 30) = w1) := hw1.symm
 have HB1 := hidP hb1
 have HR1 := hidP hr1
 have HP := hidP hp
 have HE := hidP he
 have HSH := hidP hsh
 have HL := hidP hl
 have HS := hidP hs
 have HS1 := hidP hs1
 clear hb1 hw1 hs1 hr1 hp he hsh hl hs
 go_enter Tryz.func63, Tryz.ntmps63
 go_wp2_with fail
 rw [HW1.out]
 refine (signs_any w1).mono ?_
 rintro e w2 ⟨M, C, rfl, hF, hb2, hR⟩
 have hb2' : Below w.heap.size w w2 := HB1.out.trans (hb2.mono HB1.out.size)
 have hlk := hF.look Tryz.underlying208 (zero_sign w2) s HS.out
 have r2 := row_keep hb2 HR1.out
 have p0 : w2.cell? ⟨w.heap.size, 0, none⟩ = some (.slice op ps.length cp) := cr r2 rfl
 have hlt : w.heap.size < w2.heap.size := (Array.getElem?_eq_some_iff.1 r2).1
 have HR2 : Hid (w2.heap[w.heap.size]? = _) := r2
 have HB2 := hidP hb2'
 have HP2 : Hid (IntsAt w2 (.slice op ps.length cp) ps) := HP.out.keep hb2'
 clear hb2 hb2' hF r2
 rcases sign_look hR s.data.toList with ⟨e1, e2⟩ | ⟨o1, c1, o2, c2, tk, gv, e1, e2, i1, i2, l1, l2⟩
 ·rw [e1] at hlk
  have E : Hid (resK s.data.toList ps = none ∧ shpK s.data.toList ps = true) := by unfold Hid resK shpK; rw [e2]; exact ⟨rfl, rfl⟩
  have q0 := cell_keep (HB2.out.alloc HB2.out.size (.cells #[.slice none 0 0, .slice none 0 0] 206)) HSH.out
  have HB3 : Hid (Below w.heap.size w (w2.alloc (.cells #[.slice none 0 0, .slice none 0 0] 206))) := HB2.out.alloc HB2.out.size _
  clear e1 e2 hR
  simp only [Option.getD_none, Option.isSome_none] at hlk
  go_wp2
  go_region
  all_goals go_wp2
  all_goals go_ret2
  all_goals exact ⟨HB3.out.drew, 0, _, rfl, Or.inr (Or.inl ⟨E.out.1, E.out.2, rfl⟩)⟩
 ·rw [e1] at hlk
  simp only [Option.getD_some, Option.isSome_some] at hlk
  have hb3 : Below w2.heap.size w2 (w2.alloc (.cells #[.slice o1 tk.length c1, .slice o2 gv.length c2] 206)) := bal
  have hr3 : (w2.alloc (.cells #[.slice o1 tk.length c1, .slice o2 gv.length c2] 206)).heap[w2.heap.size]? = some (.cells #[.slice o1 tk.length c1, .slice o2 gv.length c2] 206 (0, 0)) := heap_alloc_new _ _
  have I1 : Hid (IntsAt w2 (.slice o1 tk.length c1) tk) := i1
  have I2 : Hid (IntsAt w2 (.slice o2 gv.length c2) gv) := i2
  have HLT : Hid (tk.length ≤ 10) := l1
  have HLG : Hid (gv.length = 1) := l2
  have ER : Hid (resK s.data.toList ps = if ps.length = tk.length then (if ps.any noKind = true then none else (fitK tk ps 0).map fun f => (giveK gv f).headD 0) else none) := by unfold Hid resK; rw [e2]
  have ESH : Hid (shpK s.data.toList ps = !decide (ps.length = tk.length)) := by unfold Hid shpK; rw [e2]
  have HB3 := hidP hb3
  have HR3 := hidP hr3
  have HBB : Hid (Below w.heap.size w (w2.alloc (.cells #[.slice o1 tk.length c1, .slice o2 gv.length c2] 206))) := HB2.out.alloc HB2.out.size _
  have hsz : w2.heap.size < (w2.alloc (.cells #[.slice o1 tk.length c1, .slice o2 gv.length c2] 206)).heap.size := by simp
  clear e1 e2 i1 i2 l1 l2 hR hb3 hr3
  by_cases hn : ps.length = tk.length
  ·have d1 : (((ps.length : Nat) : Int) == ((tk.length : Nat) : Int)) = true := by simp; omega
   have d2 : (((ps.length : Nat) : Int) != ((tk.length : Nat) : Int)) = false := by simp; omega
   have ER2 : Hid (resK s.data.toList ps = if ps.any noKind = true then none else (fitK tk ps 0).map fun f => (giveK gv f).headD 0) := by unfold Hid; rw [ER.out, if_pos hn]
   have HNN := hidP hn
   have SH : Hid (shpK s.data.toList ps = false) := by unfold Hid; rw [ESH.out, decide_eq_true hn]; rfl
   clear ESH
   clear hn
   go_upto_region 4 with fail
   obtain ⟨w3, hw3⟩ : ∃ w3, w3 = w2.alloc (.cells #[.slice o1 tk.length c1, .slice o2 gv.length c2] 206) := ⟨_, rfl⟩
   rw [← hw3] at HB3 HR3 HBB hsz
   rw [← hw3]
   have p3 := cell_keep HB3.out p0
   have HP3 : Hid (IntsAt w3 (.slice op ps.length cp) ps) := HP2.out.keep HB3.out
   clear hw3 p0 hlk ER
   cases ha : ps.any noKind
   ·have ER3 : Hid (resK s.data.toList ps = (fitK tk ps 0).map fun f => (giveK gv f).headD 0) := by unfold Hid; rw [ER2.out, ha]; rfl
    clear ER2
    go_wp2_with (go_at_call 122; refine (contains_any _ _ _ _ ps HP3.out rfl HL.out).mono ?_; rw [ha]; rintro e w' ⟨rfl, hw⟩; have hw2 := hw.symm; subst hw2)
    have hbk : Below w3.heap.size w3 (w3.alloc (.cells #[.int .i64 0] 3)) := bal
    have hrk : (w3.alloc (.cells #[.int .i64 0] 3)).heap[w3.heap.size]? = some (.cells #[.int .i64 0] 3 (0, 0)) := heap_alloc_new _ _
    have e3 := cell_keep (HBB.out.trans (hbk.mono HBB.out.size)) HE.out
    have hpk := HP3.out.keep hbk
    rw [HNN.out] at hpk
    have hrp := row_keep hbk (row_keep HB3.out HR2.out)
    rw [HNN.out] at hrp
    have hcg := tcaught_any (w3.alloc (.cells #[.int .i64 0] 3)) w.heap.size w2.heap.size w.heap.size w3.heap.size o1 o2 op c1 c2 cp tk gv ps (.int .i64 0) (row_keep hbk HR3.out) hrp hrk ((I1.out.keep HB3.out).keep hbk) ((I2.out.keep HB3.out).keep hbk) hpk HNN.out HLT.out HLG.out et eq e3 (HBB.out.size) (by have := HBB.out.size; simp; omega)
    have HBK : Hid (Below w.heap.size w (w3.alloc (.cells #[.int .i64 0] 3))) := HBB.out.trans (hbk.mono HBB.out.size)
    clear hbk hrk e3 hpk hrp
    refine hcg.mono ?_
    clear hcg
    rintro e w4 ⟨hb4, ⟨f, hf, rfl, hk⟩ | ⟨hf, rfl, hk⟩⟩
    ·have HF : Hid (resK s.data.toList ps = some ((giveK gv f).headD 0)) := by unfold Hid; rw [ER3.out, hf]; rfl
     have HB4 : Hid (Below w.heap.size w w4) := HBK.out.trans hb4
     clear hf hb4
     go_wp2
     go_ret2
     exact ⟨HB4.out, _, _, rfl, Or.inl ⟨by rw [HF.out]; simp, rfl⟩⟩
    ·have HF : Hid (resK s.data.toList ps = none) := by unfold Hid; rw [ER3.out, hf]; rfl
     have HB4 : Hid (Below w.heap.size w w4) := HBK.out.trans hb4
     clear hf hb4
     go_wp2
     go_ret2
     exact ⟨HB4.out, _, _, rfl, Or.inr (Or.inr ⟨HF.out, SH.out, rfl⟩)⟩
   ·have E : Hid (resK s.data.toList ps = none) := by unfold Hid; rw [ER2.out, ha]; rfl
    have q0 := cell_keep HBB.out HE.out
    go_wp2_with (go_at_call 122; refine (contains_any _ _ _ _ ps HP3.out rfl HL.out).mono ?_; rw [ha]; rintro e w' ⟨rfl, hw⟩; have hw2 := hw.symm; subst hw2)
    go_region
    all_goals go_wp2
    all_goals go_ret2
    all_goals exact ⟨HBB.out.drew, 0, _, rfl, Or.inr (Or.inr ⟨E.out, SH.out, rfl⟩)⟩
  ·have d1 : (((ps.length : Nat) : Int) == ((tk.length : Nat) : Int)) = false := by simp; omega
   have d2 : (((ps.length : Nat) : Int) != ((tk.length : Nat) : Int)) = true := by simp; omega
   have E : Hid (resK s.data.toList ps = none) := by unfold Hid; rw [ER.out, if_neg hn]
   have q0 := cell_keep HBB.out HSH.out
   have SH : Hid (shpK s.data.toList ps = true) := by unfold Hid; rw [ESH.out, decide_eq_false hn]; rfl
   clear hn ER ESH
   go_wp2
   go_region
   all_goals go_wp2
   all_goals go_ret2
   all_goals exact ⟨HBB.out.drew, 0, _, rfl, Or.inr (Or.inl ⟨E.out, SH.out, rfl⟩)⟩
theorem RowAt.block {w : World} {S : Nat → Prop} {size b n c : Nat} {t : TypeId} {cs : Array Value} {xs : List Value} (h : w.heap[b]? = some (.cells cs t (0, 0))) (hS : S b) (hx : cs.toList = xs) (hl : xs.length = n * size) (hn : n ≤ maxLen) (hc : n ≤ c) : RowAt w S size (.slice (some ⟨b, 0, none⟩) n c) n xs := by
 refine ⟨hl, hn, _, c, rfl, fun k x hk => ⟨b, 0, rfl, hS, ?_⟩, hc⟩
 rw [Nat.zero_add, cell_of_row w b k cs t (0, 0) h]
 rw [← hx] at hk
 simpa using hk
theorem RowAt.nilS (w : World) (S : Nat → Prop) (size : Nat) : RowAt w S size (.slice none 0 0) 0 [] := ⟨by simp, by unfold maxLen; omega, none, 0, rfl, fun k x hx => by simp at hx, Nat.le_refl _⟩
structure ErrsAt (w : World) (E : ErV) : Prop where
 e3 : E3 w E.st E.bt E.tt E.sq E.bq E.tq
 cyc : w.cell? ⟨0, 0, none⟩ = some (.iface E.ct E.cq)
 fst : w.cell? ⟨1, 0, none⟩ = some (.iface E.ft E.fq)
theorem ErrsAt.keep {w w' : World} {E : ErV} (h : ErrsAt w E) (hb : Below w.heap.size w w') : ErrsAt w' E := ⟨h.e3.keep hb, cell_keep hb h.cyc, cell_keep hb h.fst⟩
def bX : ByteArray := ⟨#[120]⟩
def bTrue : ByteArray := ⟨#[116, 114, 117, 101]⟩
def bNone : ByteArray := ⟨#[]⟩
def pBare : Pg := ⟨[], [.mk bX 0 bNone []], [⟨bX, 1, .mk bTrue 0 bNone []⟩], [], []⟩
structure BareAt (w : World) (b1 b2 : Nat) : Prop where
 out : w.heap[b1]? = some (.cells #[.string ⟨#[120]⟩] 9 (0, 0))
 fl : w.heap[b2]? = some (.cells #[.string ⟨#[120]⟩, .int .i64 1, .string ⟨#[116, 114, 117, 101]⟩, .int .i64 0, .string ⟨#[]⟩, .slice none 0 0] 95 (0, 0))
theorem three_new (w : World) (o1 o2 o3 : Obj) : (((w.alloc o1).alloc o2).alloc o3).heap[w.heap.size + 1 + 1]? = some o3 := by
 have := heap_alloc_new ((w.alloc o1).alloc o2) o3
 rwa [show ((w.alloc o1).alloc o2).heap.size = w.heap.size + 1 + 1 from by simp] at this
set_option maxRecDepth 100000 in
theorem bare_any (w : World) : Calls Tryz.prog 31 #[] w fun e w' => ∃ b1 b2, e = .returned (.agg #[.slice none 0 0, .slice (some ⟨b1, 0, none⟩) 1 1, .slice (some ⟨b2, 0, none⟩) 1 1, .slice none 0 0, .slice none 0 0]) ∧ BareAt w' b1 b2 ∧ Below w.heap.size w w' := by
 go_enter Tryz.func31, Tryz.ntmps31
 go_wp2
 go_returns
 refine ⟨_, _, rfl, ⟨alloc_row' _ (two_new w _ _), three_new w _ _ _⟩, ((bal).alloc (by simp) _).alloc (by simp; omega) _⟩
theorem bare_flat : flatC pBare = 0 := by
 have h1 : kRun (fun _ => none) (varsP pBare) = some (kStep (fun _ => none) (bX, 1)) := rfl
 have h2 : outsB pBare = true := by decide
 have h3 : fmL (kStep (fun _ => none) (bX, 1)) (termsP pBare) = true := by
  show fmL (kStep (fun _ => none) (bX, 1)) [.mk bTrue 0 bNone []] = true
  unfold fmL fmE fmL formF
  rw [ByteArray.toList_eq, ByteArray.toList_eq]
  rfl
 have h4 : tyL (kStep (fun _ => none) (bX, 1)) (termsP pBare) = some (kindsP pBare, [1]) := rfl
 unfold flatC
 rw [h1]
 simp only
 rw [h2, h3, h4]
 rfl
theorem bare_rch {m k : Nat} : ¬ Rch (ndF pBare.fs) m k := by
 have h0 : ndF pBare.fs = [[]] := rfl
 have h1 : ∀ m, ndA (ndF pBare.fs) m = [] := fun m => by
  rw [h0]
  cases m <;> rfl
 intro h
 cases h with
 | one _ _ hk => rw [h1] at hk; simp at hk
 | more _ _ _ hk _ => rw [h1] at hk; simp at hk
theorem bare_noerr {E : ErV} {w : World} {t : TypeId} {x : Value} (h : OErr pBare E w t x) : False := by
 rcases h with ⟨h, _⟩ | ⟨_, m, b, _, _, _, h, _⟩
 ·exact h bare_flat
 ·exact bare_rch h
theorem bare_lt {f : List UInt8 → Nat} (h : LtIs pBare.fs f) (s : List UInt8) : f s = 0 := by
 have := h.2 (fun _ => 0) ⟨fun _ => Nat.zero_le _, fun x hx => by
  obtain rfl := List.mem_singleton.1 hx
  exact Nat.le_of_eq rfl⟩ s
 omega
theorem BareAt.pg {w : World} {b1 b2 : Nat} (h : BareAt w b1 b2) {E : ErV} (he : ErrsAt w E) : PgG w (fun b => b = b1 ∨ b = b2) pBare none (some ⟨b1, 0, none⟩) (some ⟨b2, 0, none⟩) none none 0 1 1 0 0 E := by
 refine ⟨⟨RowAt.nilS _ _ _, ?_, ⟨_, RowAt.block h.fl (.inr rfl) rfl rfl (by unfold maxLen; exact Nat.le_of_ble_eq_true rfl) (Nat.le_refl _), ?_⟩, ⟨[], RowAt.nilS _ _ _, .nil⟩, ⟨[], RowAt.nilS _ _ _, .nil⟩⟩, ?_, ?_, fun _ => ⟨rfl, rfl⟩, ?_, he.e3, he.cyc, he.fst⟩
 ·exact RowAt.block h.out (.inl rfl) rfl rfl (by unfold maxLen; exact Nat.le_of_ble_eq_true rfl) (Nat.le_refl _)
 ·exact .cons _ _ _ _ _ _ (.cons _ _ _ _ _ _ _ _ (RowAt.nilS _ _ _) .nil .nil) .nil
 ·rintro b (rfl | rfl) _
  ·exact ⟨_, _, h.out⟩
  ·exact ⟨_, _, h.fl⟩
 ·rintro b (rfl | rfl)
  ·exact (Array.getElem?_eq_some_iff.1 h.out).1
  ·exact (Array.getElem?_eq_some_iff.1 h.fl).1
 ·have hm : ∀ n : Nat, n ≤ 100 → n ≤ maxLen := fun n hn => by unfold maxLen; omega
  refine ⟨by decide, by decide, by decide, ?_, ?_, ?_, ?_⟩
  ·show szL [.mk bTrue 0 bNone []] ≤ 100000
   simp [szL, szE]
  ·show smL [.mk bTrue 0 bNone []]
   unfold smL smE smL
   exact ⟨⟨hm _ (by decide), hm _ (by decide), trivial⟩, trivial⟩
  ·intro v hv
   obtain rfl : v = (bX, 1) := List.mem_singleton.1 hv
   exact hm _ (by decide)
  ·intro e he
   obtain rfl : e = .mk bX 0 bNone [] := List.mem_singleton.1 he
   exact hm _ (by decide)
end Go.Proofs.YtiejfopholdbnaaGreatDoor
