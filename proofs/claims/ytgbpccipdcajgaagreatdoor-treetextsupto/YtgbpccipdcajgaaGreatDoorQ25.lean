/-
  THE NINE SENTINELS' TEXTS behind 'lustrum: '.
-/
import Derived.Test.YtgbpccipdcajgaaGreatDoorQ07
import Derived.Test.YtgbpccipdcajgaaGreatDoorRows
import Derived.LaidLaws
import Derived.LaidHandle
import Derived.Stop.LaidErr
import Derived.Test.YtgbpccipdcajgaaGreatDoorQ17
import Derived.Test.YtgbpccipdcajgaaGreatDoorQ08
namespace Go.Proofs.YtgbpccipdcajgaaGreatDoor
open Go.RowKit
def short : Nat → ByteArray
 | 0 => ⟨#[116, 101, 120, 116]⟩
 | 1 => ⟨#[98, 111, 117, 110, 100]⟩
 | 2 => ⟨#[115, 104, 97, 112, 101]⟩
 | 3 => ⟨#[110, 97, 109, 101]⟩
 | 4 => ⟨#[116, 121, 112, 101]⟩
 | 5 => ⟨#[99, 121, 99, 108, 101]⟩
 | 6 => ⟨#[102, 105, 114, 115, 116]⟩
 | 7 => ⟨#[112, 114, 111, 111, 102]⟩
 | _ => ⟨#[110, 111, 110, 101]⟩
end Go.Proofs.YtgbpccipdcajgaaGreatDoor
namespace Go.Proofs.YtgbpccipdcajgaaGreatDoor
open Go.RowKit Go.ChangeShapes
theorem sent_mem {P : Program} {n nm : String} {text : List UInt8} {W : World} {g : Nat} {ti tp te ts : TypeId} {ms : Array (String × TypeId)} {f : Field} : ∀ {l : List (String × DataW Unit)},
  laidMet P l W → (n, .iface nm (.ptr (.agg [.lit (.string text)]))) ∈ l →
  P.globalNamed n = some g → (P.globals[g]?).map (·.type) = some ti → P.underlying ti = some (.interface ms) → (∀ u, P.typeName? 3 u = some nm → u = tp) →
  P.underlying tp = some (.pointer te) → P.underlying te = some (.struct #[f]) → f.type = ts → f.offset = 0 → P.underlying ts = some .string → P.cellsOf te = 1 → P.cellsOf ts = 1 →
  ∃ (a : Addr) (s : ByteArray) (c : Array Value) (t : TypeId), W.cell? ⟨g, 0, none⟩ = some (.iface tp (.pointer (some a))) ∧ W.cell? a = some (.string s) ∧ s.data.toList = text ∧ W.heap[a.block]? = some (.cells c t (0, 0)) := by
 intro l
 induction l with
 | nil => intro _ hm; cases hm
 | cons x r ih =>
  intro h hm hg ht hi hrow hp he hft hfo hs hc hcs
  rcases List.mem_cons.1 hm with rfl | hm
  ·obtain ⟨ps, ⟨g0, t0, cs0, f0, p0, q0, hg0, ht0, hv0, hd0, _, e0⟩, _, hrows⟩ := h
   obtain rfl := Option.some.inj (hg.symm.trans hg0)
   obtain rfl := Option.some.inj (ht.symm.trans ht0)
   subst e0
   obtain ⟨l0⟩ := cs0
   have ok0 : ∀ u v, l0 = [.iface u v] → Value.okWide P W .any 0 u v := fun u v e => by
    subst e
    exact (hrows g 0 (by simp [MemPlace.row])).2 u v (by simpa using World.var?_cell hg0 hv0 0)
   obtain ⟨a0, s0, rfl, hc0, hs0, _, rfl⟩ := errorString_of_trod hi hrow hp he hft hfo hs hc hcs hd0 ok0
   obtain ⟨c0, t0, hb0⟩ := (hrows a0.block a0.off (by simp [MemPlace.row])).1
   exact ⟨a0, s0, c0, t0, by simpa using World.var?_cell hg0 hv0 0, hc0, hs0, hb0⟩
  ·exact ih h.tail hm hg ht hi hrow hp he hft hfo hs hc hcs

theorem Tryz.own : ownKnob Tryz.prog.godebug = none := by kernel_rfl
theorem Tryz.cellsStr : Tryz.prog.cellsOf 9 = 1 := by kernel_rfl
theorem Tryz.cellsES : Tryz.prog.cellsOf 237 = 1 := by kernel_rfl
theorem Tryz.gEt : Tryz.prog.globalNamed "errors.errorType" = some 9 := by kernel_rfl
theorem Tryz.rt : (Tryz.prog.cutTypes.find? (·.1 == "internal/reflectlite.rtype")).map (·.2) = some 188 := by kernel_rfl
theorem Tryz.oneRow : ((List.range 281).filter fun t => Tryz.prog.rowNamed t [101, 114, 114, 111, 114]) = [27] := by kernel_rfl
theorem Tryz.tsize : Tryz.prog.types.size = 281 := by kernel_rfl
theorem Tryz.star : "*errors.errorString" = "*" ++ "errors.errorString" := by decide
theorem Tryz.esRow (u : TypeId) (h : Tryz.prog.typeName? 3 u = some "*errors.errorString") : u = 235 :=
 typeName_ptr_named (nm := "errors.errorString") (by rw [← Tryz.star]; kernel_rfl) (by kernel_rfl) (by decide) u (by rw [← Tryz.star]; exact h)
theorem Tryz.handle {l : List (String × DataW Unit)} {W : World} (h : handlesMet Tryz.prog l W) (hm : ("errors.errorType", .iface "internal/reflectlite.rtype" (.agg [.ptr (.lit (.string [101, 114, 114, 111, 114]))])) ∈ l) :
  W.cell? ⟨9, 0, none⟩ = some (.iface 188 (.agg #[.pointer (some ⟨16, 27, none⟩)])) := by
 obtain ⟨name, u, ty, e1, e2, e3, e4, e5⟩ := h _ hm
 have en : name = [101, 114, 114, 111, 114] := (Option.some.inj e1).symm
 subst en
 obtain rfl := Option.some.inj (Tryz.rt.symm.trans e2)
 have hm : ty ∈ (List.range 281).filter fun t => Tryz.prog.rowNamed t [101, 114, 114, 111, 114] := List.mem_filter.2 ⟨List.mem_range.2 (by rw [← Tryz.tsize]; exact e3), e4⟩
 rw [Tryz.oneRow] at hm
 obtain rfl := List.mem_singleton.1 hm
 have hh : typeHandle Tryz.prog 27 = .pointer (some ⟨16, 27, none⟩) := by kernel_rfl
 rw [hh] at e5
 simpa using World.var?_cell Tryz.gEt e5 0
theorem Tryz.sent {l : List (String × DataW Unit)} {n : String} {text : List UInt8} {W : World} {g : Nat} (h : laidMet Tryz.prog l W) (hm : (n, .iface "*errors.errorString" (.ptr (.agg [.lit (.string text)]))) ∈ l) (hg : Tryz.prog.globalNamed n = some g) (ht : (Tryz.prog.globals[g]?).map (·.type) = some 27) :
  ∃ (a : Addr) (s : ByteArray) (c : Array Value) (t : TypeId), W.cell? ⟨g, 0, none⟩ = some (.iface 235 (.pointer (some a))) ∧ W.cell? a = some (.string s) ∧ s.data.toList = text ∧ W.heap[a.block]? = some (.cells c t (0, 0)) :=
 sent_mem h hm hg ht Tryz.underlying27 Tryz.esRow Tryz.underlying235 Tryz.underlying237 rfl rfl Tryz.underlying9 Tryz.cellsES Tryz.cellsStr

theorem string_of {s : ByteArray} {l : List UInt8} (h : s.data.toList = l) : s = ⟨l.toArray⟩ := by
 cases s with
 | mk d => cases d with
  | mk m => simp at h; subst h; rfl
theorem Tryz.gErrText : Tryz.prog.globalNamed "lustrum/api.ErrText" = some 2 := by kernel_rfl
theorem Tryz.tErrText : (Tryz.prog.globals[(2 : Nat)]?).map (·.type) = some 27 := by kernel_rfl
theorem Tryz.gErrBound : Tryz.prog.globalNamed "lustrum/api.ErrBound" = some 1 := by kernel_rfl
theorem Tryz.tErrBound : (Tryz.prog.globals[(1 : Nat)]?).map (·.type) = some 27 := by kernel_rfl
theorem Tryz.gErrShape : Tryz.prog.globalNamed "lustrum/api.ErrShape" = some 0 := by kernel_rfl
theorem Tryz.tErrShape : (Tryz.prog.globals[(0 : Nat)]?).map (·.type) = some 27 := by kernel_rfl
theorem Tryz.gErrName : Tryz.prog.globalNamed "lustrum/api.ErrName" = some 3 := by kernel_rfl
theorem Tryz.tErrName : (Tryz.prog.globals[(3 : Nat)]?).map (·.type) = some 27 := by kernel_rfl
theorem Tryz.gErrType : Tryz.prog.globalNamed "lustrum/api.ErrType" = some 4 := by kernel_rfl
theorem Tryz.tErrType : (Tryz.prog.globals[(4 : Nat)]?).map (·.type) = some 27 := by kernel_rfl
theorem Tryz.gErrCycle : Tryz.prog.globalNamed "lustrum/api.ErrCycle" = some 5 := by kernel_rfl
theorem Tryz.tErrCycle : (Tryz.prog.globals[(5 : Nat)]?).map (·.type) = some 27 := by kernel_rfl
theorem Tryz.gErrFirst : Tryz.prog.globalNamed "lustrum/api.ErrFirst" = some 6 := by kernel_rfl
theorem Tryz.tErrFirst : (Tryz.prog.globals[(6 : Nat)]?).map (·.type) = some 27 := by kernel_rfl
theorem Tryz.gErrProof : Tryz.prog.globalNamed "lustrum/api.ErrProof" = some 7 := by kernel_rfl
theorem Tryz.tErrProof : (Tryz.prog.globals[(7 : Nat)]?).map (·.type) = some 27 := by kernel_rfl
theorem Tryz.gErrNone : Tryz.prog.globalNamed "lustrum/api.ErrNone" = some 8 := by kernel_rfl
theorem Tryz.tErrNone : (Tryz.prog.globals[(8 : Nat)]?).map (·.type) = some 27 := by kernel_rfl

def pick9 (a0 a1 a2 a3 a4 a5 a6 a7 a8 : Addr) : Nat → Addr
 | 0 => a0 | 1 => a1 | 2 => a2 | 3 => a3 | 4 => a4 | 5 => a5 | 6 => a6 | 7 => a7 | _ => a8
theorem short_inj (j k : Nat) (hj : j < 9) (hk : k < 9) (h : short j = short k) : j = k := by
 have hall : ((List.range 9).all fun j => (List.range 9).all fun k => !((short j).data.toList == (short k).data.toList) || j == k) = true := by decide
 have h1 := List.all_eq_true.1 (List.all_eq_true.1 hall j (List.mem_range.2 hj)) k (List.mem_range.2 hk)
 rw [h] at h1
 simpa using h1

theorem sents_of {l hs : List (String × DataW Unit)} {W : World} (h : laidMet Tryz.prog l W) (hh : handlesMet Tryz.prog hs W)
  (hm : ("errors.errorType", .iface "internal/reflectlite.rtype" (.agg [.ptr (.lit (.string [101, 114, 114, 111, 114]))])) ∈ hs)
  (hl : ∀ x ∈ [("lustrum/api.ErrText", Rows.laid_lustrum_api_ErrText), ("lustrum/api.ErrBound", Rows.laid_lustrum_api_ErrBound), ("lustrum/api.ErrShape", Rows.laid_lustrum_api_ErrShape), ("lustrum/api.ErrName", Rows.laid_lustrum_api_ErrName), ("lustrum/api.ErrType", Rows.laid_lustrum_api_ErrType), ("lustrum/api.ErrCycle", Rows.laid_lustrum_api_ErrCycle), ("lustrum/api.ErrFirst", Rows.laid_lustrum_api_ErrFirst), ("lustrum/api.ErrProof", Rows.laid_lustrum_api_ErrProof), ("lustrum/api.ErrNone", Rows.laid_lustrum_api_ErrNone)], x ∈ l) :
  ∃ a : Nat → Addr, Sents a W ∧ ∀ k, k < 9 → W.cell? (a k) = some (.string (⟨#[108, 117, 115, 116, 114, 117, 109, 58, 32]⟩ ++ short k)) := by
 obtain ⟨a0, s0, c0, t0, v0, p0, x0, r0⟩ := Tryz.sent h (hl ("lustrum/api.ErrText", Rows.laid_lustrum_api_ErrText) (by simp)) Tryz.gErrText Tryz.tErrText
 obtain ⟨a1, s1, c1, t1, v1, p1, x1, r1⟩ := Tryz.sent h (hl ("lustrum/api.ErrBound", Rows.laid_lustrum_api_ErrBound) (by simp)) Tryz.gErrBound Tryz.tErrBound
 obtain ⟨a2, s2, c2, t2, v2, p2, x2, r2⟩ := Tryz.sent h (hl ("lustrum/api.ErrShape", Rows.laid_lustrum_api_ErrShape) (by simp)) Tryz.gErrShape Tryz.tErrShape
 obtain ⟨a3, s3, c3, t3, v3, p3, x3, r3⟩ := Tryz.sent h (hl ("lustrum/api.ErrName", Rows.laid_lustrum_api_ErrName) (by simp)) Tryz.gErrName Tryz.tErrName
 obtain ⟨a4, s4, c4, t4, v4, p4, x4, r4⟩ := Tryz.sent h (hl ("lustrum/api.ErrType", Rows.laid_lustrum_api_ErrType) (by simp)) Tryz.gErrType Tryz.tErrType
 obtain ⟨a5, s5, c5, t5, v5, p5, x5, r5⟩ := Tryz.sent h (hl ("lustrum/api.ErrCycle", Rows.laid_lustrum_api_ErrCycle) (by simp)) Tryz.gErrCycle Tryz.tErrCycle
 obtain ⟨a6, s6, c6, t6, v6, p6, x6, r6⟩ := Tryz.sent h (hl ("lustrum/api.ErrFirst", Rows.laid_lustrum_api_ErrFirst) (by simp)) Tryz.gErrFirst Tryz.tErrFirst
 obtain ⟨a7, s7, c7, t7, v7, p7, x7, r7⟩ := Tryz.sent h (hl ("lustrum/api.ErrProof", Rows.laid_lustrum_api_ErrProof) (by simp)) Tryz.gErrProof Tryz.tErrProof
 obtain ⟨a8, s8, c8, t8, v8, p8, x8, r8⟩ := Tryz.sent h (hl ("lustrum/api.ErrNone", Rows.laid_lustrum_api_ErrNone) (by simp)) Tryz.gErrNone Tryz.tErrNone
 have hT : ∀ k, k < 9 → W.cell? (pick9 a0 a1 a2 a3 a4 a5 a6 a7 a8 k) = some (.string (⟨#[108, 117, 115, 116, 114, 117, 109, 58, 32]⟩ ++ short k)) := by
  intro k hk
  rcases k with _ | _ | _ | _ | _ | _ | _ | _ | _ | k
  ·refine p0.trans ?_; rw [string_of x0]; exact congrArg (fun b => some (Value.string b)) (ByteArray.ext (by decide))
  ·refine p1.trans ?_; rw [string_of x1]; exact congrArg (fun b => some (Value.string b)) (ByteArray.ext (by decide))
  ·refine p2.trans ?_; rw [string_of x2]; exact congrArg (fun b => some (Value.string b)) (ByteArray.ext (by decide))
  ·refine p3.trans ?_; rw [string_of x3]; exact congrArg (fun b => some (Value.string b)) (ByteArray.ext (by decide))
  ·refine p4.trans ?_; rw [string_of x4]; exact congrArg (fun b => some (Value.string b)) (ByteArray.ext (by decide))
  ·refine p5.trans ?_; rw [string_of x5]; exact congrArg (fun b => some (Value.string b)) (ByteArray.ext (by decide))
  ·refine p6.trans ?_; rw [string_of x6]; exact congrArg (fun b => some (Value.string b)) (ByteArray.ext (by decide))
  ·refine p7.trans ?_; rw [string_of x7]; exact congrArg (fun b => some (Value.string b)) (ByteArray.ext (by decide))
  ·refine p8.trans ?_; rw [string_of x8]; exact congrArg (fun b => some (Value.string b)) (ByteArray.ext (by decide))
  ·omega
 refine ⟨pick9 a0 a1 a2 a3 a4 a5 a6 a7 a8, ⟨v0, v1, v2, v3, v4, v5, v6, v7, v8, Tryz.handle hh hm, ?_, ?_⟩, hT⟩
 ·intro k hk
  rcases k with _ | _ | _ | _ | _ | _ | _ | _ | _ | k
  ·exact ⟨c0, t0, r0⟩
  ·exact ⟨c1, t1, r1⟩
  ·exact ⟨c2, t2, r2⟩
  ·exact ⟨c3, t3, r3⟩
  ·exact ⟨c4, t4, r4⟩
  ·exact ⟨c5, t5, r5⟩
  ·exact ⟨c6, t6, r6⟩
  ·exact ⟨c7, t7, r7⟩
  ·exact ⟨c8, t8, r8⟩
  ·omega
 ·intro j k hj hk hne he
  have h1 := hT j hj
  rw [he, hT k hk] at h1
  exact hne (short_inj j k hj hk (by simpa using h1.symm))
end Go.Proofs.YtgbpccipdcajgaaGreatDoor
namespace Go.Proofs.YtgbpccipdcajgaaGreatDoor
open Go.RowKit
attribute [local go_sem ↓] Go.wp_at_zero Go.wp_at_succ
theorem nameCells_ext {ns ns' : List Ex} (hl : ns.length = ns'.length) (h : ∀ m (h1 : m < ns.length) (h2 : m < ns'.length), ns[m].op = ns'[m].op) : nameCells ns = nameCells ns' := by
 unfold nameCells
 apply List.ext_getElem (by simpa using hl)
 intro m h1 h2
 simp only [List.getElem_map]
 rw [h m (by simpa using h1) (by simpa using h2)]
theorem bytes_ne {a b : ByteArray} (h : ¬ a = b) : (a.toList == b.toList) = false := by
 rw [beq_eq_false_iff_ne, ByteArray.toList_eq, ByteArray.toList_eq]
 intro e
 exact h (ByteArray.ext (Array.toList_inj.1 e))
set_option maxHeartbeats 1000000 in
theorem eqTexts_is (w : World) (S S' : Nat → Prop) (o o' : Option Addr) (c c' : Nat) (ns ns' : List Ex) (h1 : RowAt w S 1 (.slice o ns.length c) ns.length (nameCells ns)) (h2 : RowAt w S' 1 (.slice o' ns'.length c') ns'.length (nameCells ns')) :
  Calls Tryz.prog 146 #[.slice o ns.length c, .slice o' ns'.length c'] w fun e w' => ∃ r : Bool, e = .returned (.bool r) ∧ (r = true → nameCells ns = nameCells ns') ∧ ∃ k, w' = w.drewN k := by
 have hl := h1.len
 unfold maxLen at hl
 have hl' := h2.len
 unfold maxLen at hl'
 have H1 : Hid (RowAt w S 1 (.slice o ns.length c) ns.length (nameCells ns)) := h1
 have H2 : Hid (RowAt w S' 1 (.slice o' ns'.length c') ns'.length (nameCells ns')) := h2
 clear h1 h2
 by_cases hlen : ns.length = ns'.length
 ·have HL : Hid (ns.length = ns'.length) := hlen
  have hlen' : (ns'.length : Int) = (ns.length : Int) := by omega
  rw [← hlen]
  clear hlen hl'
  go_enter Tryz.func146, Tryz.ntmps146
  go_wp2
  go_loopw [13] (fun i wr => ∃ j k : Nat, j ≤ ns.length ∧ i = .int .i64 j ∧ wr = w.drewN k ∧ ∀ m (h1 : m < ns.length) (h2 : m < ns'.length), m < j → ns[m].op = ns'[m].op) (fun i _ => ns.length - (intOf i).toNat)
  case atStart => exact ⟨0, 0, Nat.zero_le _, rfl, rfl, fun m _ _ h => absurd h (by omega)⟩
  case round =>
   obtain ⟨j, k, hj, rfl, rfl, hall⟩ := hrel
   by_cases hlt : j < ns.length
   ·have hlt' : j < ns'.length := by rw [← HL.out]; exact hlt
    obtain ⟨b, off, rfl, _, hc⟩ := row_get H1.out (by rw [nameCells_length]; omega)
    obtain ⟨b', off', rfl, _, hc'⟩ := row_get H2.out (by rw [nameCells_length]; omega)
    have x0 := hc j _ (nameCells_at hlt)
    have x1 := hc' j _ (nameCells_at hlt')
    clear hc hc'
    have hi0 : (0 : Int) ≤ (j : Int) := by omega
    have hi1 : (j : Int) < (ns.length : Int) := by omega
    have hi2 : (j : Int) < (ns'.length : Int) := by omega
    by_cases he : ns[j].op = ns'[j].op
    ·rw [← he] at x1
     have HA : Hid (∀ m (h1 : m < ns.length) (h2 : m < ns'.length), m < j + 1 → ns[m].op = ns'[m].op) := fun m h1 h2 h => by
      rcases Nat.lt_succ_iff_lt_or_eq.1 h with h | rfl
      ·exact hall m h1 h2 h
      ·exact he
     clear hall he
     go_wp2
     go_quiet (fail)
     go_wp2
     refine ⟨⟨j + 1, _, by omega, by go_num, rfl, HA.out⟩, ?_⟩
     simp [intOf]; omega
    ·have he' : (ns[j].op.toList == ns'[j].op.toList) = false := bytes_ne he
     clear hall
     go_wp2
     go_quiet (fail)
     go_wp2
     go_ret
     exact ⟨false, rfl, by simp, k + nq, World.drewN_drewN _ _ _⟩
   ·have HA : Hid (∀ m (h1 : m < ns.length) (h2 : m < ns'.length), m < j → ns[m].op = ns'[m].op) := hall
    clear hall
    go_wp2
    go_ret
    exact ⟨true, rfl, fun _ => nameCells_ext HL.out (fun m h1 h2 => HA.out m h1 h2 (by omega)), k, rfl⟩
 ·have hne : ((ns.length : Int) == (ns'.length : Int)) = false := by simp; omega
  clear hlen
  go_enter Tryz.func146, Tryz.ntmps146
  go_wp2
  go_ret
  exact ⟨false, rfl, by simp, 0, rfl⟩
theorem varCells_ext : ∀ {ns ns' : List Ex} (_ : ns.length = ns'.length) (_ : ∀ m (h1 : m < ns.length) (h2 : m < ns'.length), (ns[m].op = ns'[m].op ∧ ns[m].n = ns'[m].n)), varCells ns = varCells ns'
 | [], [], _, _ => rfl
 | [], _ :: _, h, _ => by simp at h
 | _ :: _, [], h, _ => by simp at h
 | a :: l, a' :: l', h, g => by
  have h0 := g 0 (by simp) (by simp)
  have hr := varCells_ext (ns := l) (ns' := l') (by simpa using h) (fun m h1 h2 => g (m + 1) (by simpa using h1) (by simpa using h2))
  simp only [List.getElem_cons_zero] at h0
  unfold varCells at hr ⊢
  rw [List.flatMap_cons, List.flatMap_cons, hr, h0.1, h0.2]
set_option maxHeartbeats 1000000 in
theorem eqVars_is (w : World) (S S' : Nat → Prop) (o o' : Option Addr) (c c' : Nat) (ns ns' : List Ex) (h1 : RowAt w S 2 (.slice o ns.length c) ns.length (varCells ns)) (h2 : RowAt w S' 2 (.slice o' ns'.length c') ns'.length (varCells ns')) :
  Calls Tryz.prog 121 #[.slice o ns.length c, .slice o' ns'.length c'] w fun e w' => ∃ r : Bool, e = .returned (.bool r) ∧ (r = true → varCells ns = varCells ns') ∧ ∃ k, w' = w.drewN k := by
 have hl := h1.len
 unfold maxLen at hl
 have hl' := h2.len
 unfold maxLen at hl'
 have H1 : Hid (RowAt w S 2 (.slice o ns.length c) ns.length (varCells ns)) := h1
 have H2 : Hid (RowAt w S' 2 (.slice o' ns'.length c') ns'.length (varCells ns')) := h2
 clear h1 h2
 by_cases hlen : ns.length = ns'.length
 ·have HL : Hid (ns.length = ns'.length) := hlen
  have hlen' : (ns'.length : Int) = (ns.length : Int) := by omega
  rw [← hlen]
  clear hlen hl'
  go_enter Tryz.func121, Tryz.ntmps121
  go_wp2
  go_loopw [13] (fun i wr => ∃ j k : Nat, j ≤ ns.length ∧ i = .int .i64 j ∧ wr = w.drewN k ∧ ∀ m (h1 : m < ns.length) (h2 : m < ns'.length), m < j → (ns[m].op = ns'[m].op ∧ ns[m].n = ns'[m].n)) (fun i _ => ns.length - (intOf i).toNat)
  case atStart => exact ⟨0, 0, Nat.zero_le _, rfl, rfl, fun m _ _ h => absurd h (by omega)⟩
  case round =>
   obtain ⟨j, k, hj, rfl, rfl, hall⟩ := hrel
   by_cases hlt : j < ns.length
   ·have hlt' : j < ns'.length := by rw [← HL.out]; exact hlt
    obtain ⟨b, off, rfl, _, hc⟩ := row_get H1.out (by rw [varCells_length]; omega)
    obtain ⟨b', off', rfl, _, hc'⟩ := row_get H2.out (by rw [varCells_length]; omega)
    have x0 := hc _ _ (varCells_at hlt).1
    have x1 := hc _ _ (varCells_at hlt).2
    have y0 := hc' _ _ (varCells_at hlt').1
    have y1 := hc' _ _ (varCells_at hlt').2
    rw [← Nat.add_assoc] at x1 y1
    clear hc hc'
    have hi0 : (0 : Int) ≤ (j : Int) := by omega
    have hi1 : (j : Int) < (ns.length : Int) := by omega
    have hi2 : (j : Int) < (ns'.length : Int) := by omega
    by_cases he : ns[j].op = ns'[j].op
    ·by_cases hn : ns[j].n = ns'[j].n
     ·rw [← he] at y0
      rw [← hn] at y1
      have HA : Hid (∀ m (h1 : m < ns.length) (h2 : m < ns'.length), m < j + 1 → (ns[m].op = ns'[m].op ∧ ns[m].n = ns'[m].n)) := fun m h1 h2 h => by
       rcases Nat.lt_succ_iff_lt_or_eq.1 h with h | rfl
       ·exact hall m h1 h2 h
       ·exact ⟨he, hn⟩
      clear hall he hn
      go_wp2
      go_quiet (fail)
      go_wp2
      refine ⟨⟨j + 1, _, by omega, by go_num, rfl, HA.out⟩, ?_⟩
      simp [intOf]; omega
     ·have hn' : (ns[j].n == ns'[j].n) = false := by simpa using hn
      rw [← he] at y0
      clear hall he
      go_wp2
      go_quiet (fail)
      go_wp2
      go_ret
      exact ⟨false, rfl, by simp, k + nq, World.drewN_drewN _ _ _⟩
    ·have he' : (ns[j].op.toList == ns'[j].op.toList) = false := bytes_ne he
     clear hall
     go_wp2
     go_quiet (fail)
     go_wp2
     go_ret
     exact ⟨false, rfl, by simp, k + nq, World.drewN_drewN _ _ _⟩
   ·have HA : Hid (∀ m (h1 : m < ns.length) (h2 : m < ns'.length), m < j → (ns[m].op = ns'[m].op ∧ ns[m].n = ns'[m].n)) := hall
    clear hall
    go_wp2
    go_ret
    exact ⟨true, rfl, fun _ => varCells_ext HL.out (fun m h1 h2 => HA.out m h1 h2 (by omega)), k, rfl⟩
 ·have hne : ((ns.length : Int) == (ns'.length : Int)) = false := by simp; omega
  clear hlen
  go_enter Tryz.func121, Tryz.ntmps121
  go_wp2
  go_ret
  exact ⟨false, rfl, by simp, 0, rfl⟩
def Tells (p : Prop) (w : World) (e : Ending) (w' : World) : Prop := ∃ r : Bool, e = .returned (.bool r) ∧ (r = true → p) ∧ Below w.heap.size w w'
abbrev TellT (m : Nat) : Prop := ∀ (op : ByteArray) (n : Int) (s : ByteArray) (l : List Ex) (op' : ByteArray) (n' : Int) (s' : ByteArray) (l' : List Ex), SizeOf.sizeOf l < m → ∀ (w : World) (S S' : Nat → Prop) (o o' : Option Addr) (c c' : Nat) (ys ys' : List Value), RowAt w S 4 (.slice o l.length c) l.length ys → ExIn w S l ys → RowAt w S' 4 (.slice o' l'.length c') l'.length ys' → ExIn w S' l' ys' →
  Calls Tryz.prog 147 #[.agg #[.string op, .int .i64 n, .string s, .slice o l.length c], .agg #[.string op', .int .i64 n', .string s', .slice o' l'.length c']] w (Tells (op = op' ∧ n = n' ∧ s = s' ∧ l = l') w)
set_option maxRecDepth 100000 in
set_option maxHeartbeats 1000000 in
theorem eqfE_is (m : Nat) (IH : TellT m) (l l' : List Ex) (hm : SizeOf.sizeOf l < m + 1) (w : World) (S S' : Nat → Prop) (o o' : Option Addr) (c c' : Nat) (ys ys' : List Value) (h1 : RowAt w S 4 (.slice o l.length c) l.length ys) (h2 : ExIn w S l ys) (h3 : RowAt w S' 4 (.slice o' l'.length c') l'.length ys') (h4 : ExIn w S' l' ys') :
  Calls Tryz.prog 163 #[.slice o l.length c, .slice o' l'.length c', .func (.func 147) #[] #[]] w (Tells (l = l') w) := by
 have hl := h1.len
 unfold maxLen at hl
 have hl' := h3.len
 unfold maxLen at hl'
 have H1 : Hid (RowAt w S 4 (.slice o l.length c) l.length ys) := h1
 have H2 : Hid (ExIn w S l ys) := h2
 have H3 : Hid (RowAt w S' 4 (.slice o' l'.length c') l'.length ys') := h3
 have H4 : Hid (ExIn w S' l' ys') := h4
 have HI : Hid (TellT m) := IH
 clear h1 h2 h3 h4 IH
 by_cases hlen : l.length = l'.length
 ·have HL : Hid (l.length = l'.length) := hlen
  have hlen' : (l'.length : Int) = (l.length : Int) := by omega
  rw [← hlen]
  clear hlen hl'
  go_enter Tryz.func163, Tryz.ntmps163
  go_wp2
  go_loopw [17] (fun t wr => ∃ i : Nat, i ≤ l.length ∧ t = .int .i64 i ∧ Below w.heap.size w wr ∧ ∀ m (h1 : m < l.length) (h2 : m < l'.length), m < i → l[m] = l'[m]) (fun t _ => l.length - (intOf t).toNat)
  case atStart => exact ⟨0, Nat.zero_le _, rfl, Below.refl _ _, fun m _ _ h => absurd h (by omega)⟩
  case round =>
   obtain ⟨i, hi, rfl, hbr, hall⟩ := hrel
   have HA : Hid (∀ m (h1 : m < l.length) (h2 : m < l'.length), m < i → l[m] = l'[m]) := hall
   clear hall
   by_cases hlt : i < l.length
   ·have hlt' : i < l'.length := by rw [← HL.out]; exact hlt
    obtain ⟨op, n, s, es, oo, cc, zs, e, m0, m1, m2, m3, r1, r2⟩ := H2.out.at hlt
    obtain ⟨op', n', s', es', oo', cc', zs', e', k0, k1, k2, k3, r3, r4⟩ := H4.out.at hlt'
    obtain ⟨p, f, rfl, _, g⟩ := row_get H1.out (by have := H1.out.1; omega)
    obtain ⟨p', f', rfl, _, g'⟩ := row_get H3.out (by have := H3.out.1; omega)
    have x0 := cell_keep hbr (g _ _ m0)
    have x1 := cell_keep hbr (g _ _ m1)
    have x2 := cell_keep hbr (g _ _ m2)
    have x3 := cell_keep hbr (g _ _ m3)
    have y0 := cell_keep hbr (g' _ _ k0)
    have y1 := cell_keep hbr (g' _ _ k1)
    have y2 := cell_keep hbr (g' _ _ k2)
    have y3 := cell_keep hbr (g' _ _ k3)
    rw [← Nat.add_assoc] at x1 x2 x3 y1 y2 y3
    clear m0 m1 m2 m3 k0 k1 k2 k3
    have i0 : (0 : Int) ≤ (i : Int) := by omega
    have i1 : (i : Int) < (l.length : Int) := by omega
    have i2 : (i : Int) < (l'.length : Int) := by omega
    have hpl : p' < wr.heap.size := lt_of_cell y0
    have hsz := size_part hlt e
    have hbz := hbr.size
    have hbA : Below w.heap.size w ((wr.alloc (teObj op n s (.slice oo es.length cc))).alloc (teObj op' n' s' (.slice oo' es'.length cc'))) := (hbr.alloc hbz _).alloc (by simp; omega) _
    have Hr : Hid (Calls Tryz.prog 147 #[.agg #[.string op, .int .i64 n, .string s, .slice oo es.length cc], .agg #[.string op', .int .i64 n', .string s', .slice oo' es'.length cc']] ((wr.alloc (teObj op n s (.slice oo es.length cc))).alloc (teObj op' n' s' (.slice oo' es'.length cc'))) (Tells (op = op' ∧ n = n' ∧ s = s' ∧ es = es') ((wr.alloc (teObj op n s (.slice oo es.length cc))).alloc (teObj op' n' s' (.slice oo' es'.length cc'))))) := HI.out op n s es op' n' s' es' (by omega) _ S S' oo oo' cc cc' zs zs' (r1.keep (Stays.below hbA (fun k hk => hk))) (r2.keep (Stays.below hbA (fun k hk => hk))) (r3.keep (Stays.below hbA (fun k hk => hk))) (r4.keep (Stays.below hbA (fun k hk => hk)))
    have HE : Hid (l[i] = .mk op n s es ∧ l'[i] = .mk op' n' s' es') := ⟨e, e'⟩
    clear g g' r1 r2 r3 r4 hsz e e'
    go_wp2_with fail
    refine Hr.out.mono ?_
    rintro e w4 ⟨r, rfl, hr, hb4⟩
    cases r with
    | false =>
     clear hr
     go_wp2
     go_ret
     exact ⟨false, rfl, by simp, hbA.trans (hb4.mono (by simp; omega))⟩
    | true =>
     obtain ⟨q1, q2, q3, q4⟩ := hr rfl
     have HB : Hid (∀ m (h1 : m < l.length) (h2 : m < l'.length), m < i + 1 → l[m] = l'[m]) := fun m h1 h2 h => by
      rcases Nat.lt_succ_iff_lt_or_eq.1 h with h | rfl
      ·exact HA.out m h1 h2 h
      ·rw [HE.out.1, HE.out.2, q1, q2, q3, q4]
     clear hr q1 q2 q3 q4
     go_wp2
     exact ⟨⟨i + 1, by omega, by go_num, hbA.trans (hb4.mono (by simp; omega)), HB.out⟩, by simp [intOf]; omega⟩
   ·go_wp2
    go_ret
    exact ⟨true, rfl, fun _ => List.ext_getElem HL.out (fun m h1 h2 => HA.out m h1 h2 (by omega)), hbr⟩
 ·have hne : ((l.length : Int) == (l'.length : Int)) = false := by simp; omega
  clear hlen
  go_enter Tryz.func163, Tryz.ntmps163
  go_wp2
  go_ret
  exact ⟨false, rfl, by simp, Below.refl _ _⟩

set_option maxRecDepth 100000 in
set_option maxHeartbeats 1000000 in
theorem alikeTerms_is : ∀ (m : Nat), TellT m
 | 0 => fun _ _ _ _ _ _ _ _ h => absurd h (Nat.not_lt_zero _)
 | m + 1 => by
  intro op n s l op' n' s' l' hm w S S' o o' c c' ys ys' h1 h2 h3 h4
  have IH := alikeTerms_is m
  have hbA : Below w.heap.size w ((w.alloc (teObj op n s (.slice o l.length c))).alloc (teObj op' n' s' (.slice o' l'.length c'))) := ((Below.refl _ _).alloc (Nat.le_refl _) _).alloc (by simp) _
  have h1 := h1.keep (Stays.below hbA (fun k hk => hk))
  have h2 := h2.keep (Stays.below hbA (fun k hk => hk))
  have h3 := h3.keep (Stays.below hbA (fun k hk => hk))
  have h4 := h4.keep (Stays.below hbA (fun k hk => hk))
  have Hr : Hid (Calls Tryz.prog 163 #[.slice o l.length c, .slice o' l'.length c', .func (.func 147) #[] #[]] ((w.alloc (teObj op n s (.slice o l.length c))).alloc (teObj op' n' s' (.slice o' l'.length c'))) (Tells (l = l') ((w.alloc (teObj op n s (.slice o l.length c))).alloc (teObj op' n' s' (.slice o' l'.length c'))))) := eqfE_is m IH l l' hm _ S S' o o' c c' ys ys' h1 h2 h3 h4
  clear h1 h2 h3 h4 IH
  by_cases e1 : op = op'
  ·subst e1
   by_cases e2 : n = n'
   ·subst e2
    by_cases e3 : s = s'
    ·subst e3
     go_enter Tryz.func147, Tryz.ntmps147
     go_wp2_with fail
     refine Hr.out.mono ?_
     rintro e w4 ⟨r, rfl, hr, hb4⟩
     go_wp2
     go_ret
     exact ⟨r, by cases r <;> rfl, fun h => (by refine ⟨?_, ?_, ?_, hr h⟩ <;> first | rfl | trivial), hbA.trans (hb4.mono (by simp; omega))⟩
    ·have e3' := bytes_ne e3
     clear e3
     go_enter Tryz.func147, Tryz.ntmps147
     go_wp2
     go_ret
     exact ⟨false, rfl, by simp, hbA⟩
   ·have e2' : (n == n') = false := by simpa using e2
    clear e2
    go_enter Tryz.func147, Tryz.ntmps147
    go_wp2
    go_ret
    exact ⟨false, rfl, by simp, hbA⟩
  ·have e1' := bytes_ne e1
   clear e1
   go_enter Tryz.func147, Tryz.ntmps147
   go_wp2
   go_ret
   exact ⟨false, rfl, by simp, hbA⟩
theorem tok_isName {s kind text : ByteArray} {n : Nat} (T : TokAt s 0 kind text n) : (kind.toList = [110, 97, 109, 101] ∧ text = s) ↔ NmOk s := by
 constructor
 ·rintro ⟨h1, rfl⟩
  exact T.name h1
 ·intro h
  have hH : Has s 0 s.toList := by
   refine ⟨by rw [bytes_len]; omega, fun k hk => ?_⟩
   rw [Nat.zero_add, byteI_list hk]
  have T2 := (Tok.name h hH (fun hlt => by rw [bytes_len] at hlt; omega)).at'
  obtain ⟨rfl, rfl, _⟩ := T.one T2
  exact ⟨by rw [ByteArray.toList_eq]; rfl, rfl⟩
set_option maxRecDepth 100000 in
set_option maxHeartbeats 1000000 in
theorem refIsName_any (s : ByteArray) (hs : s.size ≤ 9000000) (w : World) : Calls Tryz.prog 53 #[.string s] w fun e w' => ∃ b, e = .returned (.bool b) ∧ (b = true ↔ NmOk s) ∧ Below w.heap.size w w' := by
 by_cases h0 : s.size = 0
 ·have hl : s.toList = [] := (nil_iff s).2 h0
  have hn : ¬ NmOk s := fun h => by have := h.pos; omega
  have HN : Hid (¬ NmOk s) := hn
  clear hn
  go_enter Tryz.func53, Tryz.ntmps53
  go_wp2
  go_ret
  exact ⟨false, by simp, by simpa using HN.out, Below.refl _ _⟩
 ·have hl : s.toList ≠ [] := fun h => h0 ((nil_iff s).1 h)
  have hl' : (s.toList == []) = false := beq_eq_false_iff_ne.2 hl
  have HT : Hid (∀ w, Calls Tryz.prog 60 #[.string s] w fun e w' => ∃ (kind text : ByteArray) (n : Nat), TokAt s 0 kind text n ∧ e = .returned (tokVal kind text) ∧ Below w.heap.size w w') := fun w => tokenOf_any s w (by omega) hs
  go_enter Tryz.func53, Tryz.ntmps53
  go_wp2_with fail
  refine (HT.out _).mono ?_
  rintro e w1 ⟨kind, text, n, T, rfl, hb⟩
  have HK : Hid ((kind.toList = [110, 97, 109, 101] ∧ text = s) ↔ NmOk s) := tok_isName T
  clear T
  by_cases hk : kind.toList.isEmpty = true
  ·have hkn : kind.toList = [] := by simpa using hk
   have e1 : tokVal kind text = .agg #[.string ⟨#[]⟩, .string ⟨#[]⟩, .int .i64 0] := by simp [tokVal, hkn]
   rw [e1]
   have hb2 : Below w.heap.size w (w1.alloc (.cells #[.string ⟨#[]⟩, .string ⟨#[]⟩, .int .i64 0] 25)) := hb.alloc hb.size _
   have HN : Hid (¬ NmOk s) := (show ¬ NmOk s from fun h => absurd (HK.out.2 h).1 (by rw [hkn]; simp))
   clear e1 hk hkn
   go_wp2
   go_ret
   exact ⟨false, by simp, by simpa using HN.out, hb2⟩
  ·have e1 : tokVal kind text = .agg #[.string kind, .string text, .int .i64 0] := tokVal_some (by simpa using hk)
   rw [e1]
   have hb2 : Below w.heap.size w (w1.alloc (.cells #[.string kind, .string text, .int .i64 0] 25)) := hb.alloc hb.size _
   clear e1 hk
   by_cases k1 : kind.toList = [110, 97, 109, 101]
   ·by_cases k2 : text = s
    ·subst k2
     have HN : Hid (NmOk text) := HK.out.1 ⟨k1, rfl⟩
     go_wp2
     go_ret
     exact ⟨true, by simp, by simpa using HN.out, hb2⟩
    ·have k3 : (text.toList == s.toList) = false := beq_eq_false_iff_ne.2 fun h => k2 (by rw [← sOf_bytes text, h, sOf_bytes])
     have HN : Hid (¬ NmOk s) := (fun h => k2 (HK.out.2 h).2 : ¬ NmOk s)
     clear k2
     go_wp2
     go_ret
     exact ⟨false, by simp, by simpa using HN.out, hb2⟩
   ·have k3 : (kind.toList == [110, 97, 109, 101]) = false := beq_eq_false_iff_ne.2 k1
    have HN : Hid (¬ NmOk s) := (fun h => k1 (HK.out.2 h).1 : ¬ NmOk s)
    clear k1
    go_wp2
    go_ret
    exact ⟨false, by simp, by simpa using HN.out, hb2⟩
end Go.Proofs.YtgbpccipdcajgaaGreatDoor
