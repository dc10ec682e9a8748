/-
  PROVED: for every formula lustrumlaw3.CnfTexts returns true: cnf.Text tells the text that the document's answer tells, or both tell that there is none, and cnf.Read reads it again. Conditions: the row's own: the listed variables start as the program's text lays them (the card ties that).
-/
import Derived.Test.YtlclbidjdhlklaaGreatDoorLaid
import Derived.Test.YtlclbidjdhlklaaGreatDoorCtX
import Derived.Test.YtlclbidjdhlklaaGreatDoorOpC
import Derived.Test.YtlclbidjdhlklaaGreatDoorCards
import Derived.Test.YtlclbidjdhlklaaGreatDoorTie
import Derived.ProofKit
import Derived.OpenShut
import Derived.Carry
import Derived.LaidMore
import Derived.Lay
import Derived.MakeChecks
import Derived.Shelf.Vars
import Derived.Deep.DeepHandedRow
import Derived.Deep.DeepWitnessRowRef
import Derived.Lib.LaidTab
namespace Go.Proofs.YtlclbidjdhlklaaGreatDoor.cnfTexts
open Go.ChangeShapes Go.WideShapes Go.ChangeAt Go.RowKit

/-- The variables that are plain data. -/
def lay : List (String × DataW Unit) := Rows.cnfTextsRow.laid.filter fun x => x.2.handleName?.isNone
/-- Nothing but the handle. -/
noncomputable def bare (os : Os) : World :=
  { World.holding Tryz.prog os ⟨#[], #[], []⟩ with heap := ⟨Lay.setRows (World.holding Tryz.prog os ⟨#[], #[], []⟩).heap.toList [(9, [.iface 100 (.agg #[.pointer (some ⟨18, 28, none⟩)])])]⟩ }
/-- The witness's world: the handle, and the data. -/
noncomputable def wit (os : Os) : World := (bare os).layVars Tryz.prog lay
theorem wit_os (os : Os) : (wit os).os = os := World.layVars_os _ _ _
theorem met_lay {P : Program} {w0 : World} {laid : List (String × DataW Unit)} (args : Array Value) (hf : w0.layFits P laid [] = true) (hi : w0.layIfaces P laid (w0.layVars P laid) = true) :
    laidMet P laid ((w0.layVars P laid).forCall (fun _ _ => 0) ⟨#[], args, []⟩).memory := by
  have e1 : (laid.filter fun x => (laid.map (·.1)).contains x.1) = laid := List.filter_eq_self.2 fun x hx => List.contains_iff_mem.2 (List.mem_map.2 ⟨x, hx, rfl⟩)
  have e2 : (laid.filter fun x => !(laid.map (·.1)).contains x.1) = [] := List.filter_eq_nil_iff.2 fun x hx => by rw [List.contains_iff_mem.2 (List.mem_map.2 ⟨x, hx, rfl⟩)]; simp
  have h : laidMet P laid (w0.layVars P laid) := laidMet_layVars (w0 := w0) (laid.map (·.1)) [] (by rw [e1]) (by rw [e1]; exact hf) (by rw [e1]; exact hi) (by rw [e2]; exact LaidIn.none)
  exact h.of_heap (by simp [World.memory, World.forCall, Input.heap])
theorem door_met (os : Os) : laidMetH Tryz.prog Rows.cnfTextsRow.laid ((wit os).forCall (fun _ _ => 0) ⟨#[], #[.agg #[.int .i64 0, .slice none 0 0]], []⟩).memory :=
  laidMetH_of_parts (met_lay (w0 := bare os) _ (by kernel_rfl) (by kernel_rfl)) (by kernel_rfl)
theorem reads (os : Os) {H : Type} (enc : TypeId × Value → H) : ∃ places, DataW.whole enc Tryz.prog ((wit os).forCall (fun _ _ => 0) ⟨#[], #[.agg #[.int .i64 0, .slice none 0 0]], []⟩).memory Tryz.f3.params.toList Rows.cnfTextsSpec.vars false (#[.agg #[.int .i64 0, .slice none 0 0]] : Array Value).toList 8 = some ([.agg [.lit (.int .i64 0), .nil]], [], places) :=
  ⟨[], by kernel_rfl⟩
theorem tab_mem {P : Program} {W : World} {name : String} {k : IntKind} {zs : List Int} {g : Nat} {t e : TypeId} {n : Nat} (hg : P.globalNamed name = some g) (hty : (P.globals[g]?).map (·.type) = some t) (ht : P.underlying t = some (.array n e)) (he : P.underlying e = some (.int k)) (hce : P.cellsOf e = 1) (hct : P.cellsOf t = n) : ∀ {l : List (String × DataW Unit)}, laidMet P l W → (name, Lib.tabData k zs) ∈ l → Lib.TabIs P W name k zs
  | x :: r, h, hm => by
    rcases List.mem_cons.1 hm with rfl | hm
    · exact Lib.tabIs_of_head hg hty ht he hce hct h
    · exact tab_mem hg hty ht he hce hct h.tail hm
theorem tab_data : (Rows.laid_internal_strconv_uint64pow10 : DataW Unit) = Lib.tabData .u64 Lib.pow10Tab := by rfl
theorem env {W : World} (h : laidMetH Tryz.prog Rows.cnfTextsRow.laid W) (hS : W.ShapedOpen Tryz.prog) : ∃ a : Nat → Addr, Sents a W ∧ RsEnv W := by
  have h' : laidMet Tryz.prog (Rows.cnfTextsRow.laid.filter fun x => x.2.handleName?.isNone) W ∧ handlesMet Tryz.prog (Rows.cnfTextsRow.laid.filter fun x => x.2.handleName?.isSome) W := h
  obtain ⟨a, S, _⟩ := sents_of h'.1 h'.2 (List.mem_filter.2 ⟨by simp [Rows.cnfTextsRow, Rows.laid_errors_errorType], rfl⟩) (fun x hx => List.mem_filter.2 ⟨by
    simp only [List.mem_cons, List.not_mem_nil, or_false] at hx
    rcases hx with rfl | rfl | rfl | rfl | rfl | rfl | rfl | rfl | rfl <;> simp [Rows.cnfTextsRow], by
    simp only [List.mem_cons, List.not_mem_nil, or_false] at hx
    rcases hx with rfl | rfl | rfl | rfl | rfl | rfl | rfl | rfl | rfl <;> rfl⟩)
  have ht : Lib.TabIs Tryz.prog W "internal/strconv.uint64pow10" .u64 Lib.pow10Tab := tab_mem (g := 10) (t := 131) (e := 97) (n := 20) (by kernel_rfl) (by kernel_rfl) Tryz.underlying131 Tryz.underlying97 (by kernel_rfl) (by kernel_rfl) h'.1 (List.mem_filter.2 ⟨by rw [← tab_data]; simp [Rows.cnfTextsRow], rfl⟩)
  have hm : ∃ m, W.cell? ⟨11, 0, none⟩ = some (.int .i64 m) := cell_of_shapedOpen_int (t := 3) (zero := #[.int .i64 0]) hS (of_decide_eq_true (by kernel_rfl)) (by kernel_rfl) rfl (by kernel_rfl) (by kernel_rfl) Tryz.underlying3
  obtain ⟨a4, s4, c4, t4, k4, _⟩ := Tryz.sent (n := "strconv.ErrRange") h'.1 (List.mem_filter.2 ⟨(by simp [Rows.cnfTextsRow] : ("strconv.ErrRange", Rows.laid_strconv_ErrRange) ∈ Rows.cnfTextsRow.laid), rfl⟩) (by kernel_rfl) (show (Tryz.prog.globals[(15 : Nat)]?).map (·.type) = some 28 from by kernel_rfl)
  obtain ⟨a5, s5, c5, t5, k5, _⟩ := Tryz.sent (n := "strconv.ErrSyntax") h'.1 (List.mem_filter.2 ⟨(by simp [Rows.cnfTextsRow] : ("strconv.ErrSyntax", Rows.laid_strconv_ErrSyntax) ∈ Rows.cnfTextsRow.laid), rfl⟩) (by kernel_rfl) (show (Tryz.prog.globals[(14 : Nat)]?).map (·.type) = some 28 from by kernel_rfl)
  exact ⟨a, S, ⟨ht, ⟨_, _, k5⟩, ⟨_, _, k4⟩, hm, ⟨_, _, S.g0⟩⟩, ⟨_, _, S.g1⟩, ⟨_, _, S.g2⟩⟩
theorem laidOut : laidOutB Tryz.prog = true := by kernel_rfl

set_option maxRecDepth 100000 in
theorem contract (H : Type) (enc : TypeId × Value → H) (W : World) (base : Nat) (args : Array Value) (ds gs : List (DataW H)) (before : List MemPlace)
    (hval : ∀ (j : Nat) t v, Tryz.f3.params[j]? = some t → args[j]? = some v → Value.okWide Tryz.prog W .any base t v)
    (hW : DataW.Whole enc Tryz.prog Tryz.f3.params.toList Rows.cnfTextsSpec.vars false W args.toList ds gs before) (hL : laidMetH Tryz.prog Rows.cnfTextsRow.laid W) (hS : W.ShapedOpen Tryz.prog) (hz : (DataW.weightsEach Tryz.prog (Tryz.f3.params.toList ++ (OpenSpec.ofChange Rows.cnfTextsSpec).bare.plain.varTypes Tryz.prog) (ds ++ gs)).all (· ≤ reachBytes) = true) :
    Calls Tryz.prog 3 args W fun e W' => ∃ v, e = .returned v ∧ Rows.cnfTextsSpec.post enc Tryz.prog Tryz.f3 false true false false W args v W' := by
  have hW' := hW
  obtain ⟨p, q, hA0, hV, rfl, hfz, hnd⟩ := hW
  have hA : DataW.TrodAll enc Tryz.prog W 0 (fun _ => true) true Tryz.f3.params.toList args.toList ds p := hA0
  rw [Tryz.params3] at hA hval
  obtain ⟨v0, vs0, d0, ds0, p0, q0, hargs0, rfl, rfl, h0, r0⟩ := trodAll_cons hA
  obtain ⟨rfl, rfl, rfl⟩ := trodAll_nil r0
  obtain rfl : args = #[v0] := by cases args; simp_all
  obtain ⟨rfl, rfl⟩ := trodVars_none hV
  simp only [List.append_nil] at hW'
  have hlt : ∀ x ∈ p0, x.block < W.heap.size := fun x hx => by simpa using hW'.lt x (by simpa using hx)
  have back0 : ∀ W', Below W.heap.size W W' → DataW.Trod enc Tryz.prog W' 0 (fun b => decide (b < W.heap.size)) true 24 v0 d0 p0 :=
    fun W' hb => Below.trod laidOut (by kernel_rfl) (of_decide_eq_true (by kernel_rfl)) h0 hb (fun x hx => hlt x (by simp [hx]))
  obtain ⟨fs, rfl, _⟩ := okWide_struct Tryz.underlying24 (hval 0 24 v0 rfl rfl)
  obtain ⟨fuel, h0'⟩ := h0
  obtain ⟨n, v, l, hcs, hn, hv, hI, hs⟩ := open_formula h0' fun k hk => of_decide_eq_true (List.all_eq_true.1 hz k (DataW.weights_mem_each (j := 0) (by rw [Tryz.params3]; rfl) rfl k hk))
  obtain rfl : fs = #[.int .i64 n, v] := by
    cases fs; simp only [Value.cells] at hcs; rw [hcs]
  clear hA0
  obtain ⟨a, S, R⟩ := env hL hS
  refine (texts_walk a W S R n hn v l hv hI hs).mono fun e W' ⟨he, hb⟩ => ?_
  subst he
  refine ⟨_, rfl, _, _, _, [], p0, [], hW', ?_, ?_, ?_, hb.frame _, fun h => by cases h⟩
  · exact trodAll_cons_mk (shut_bool Tryz.underlying4 _) trodAll_mk0
  · have := trodAll_cons_mk (back0 W' hb) trodAll_mk0
    simp only [List.append_nil] at this
    exact this
  · rfl

set_option maxRecDepth 100000 in
theorem lifted (os : Os) (started : os.Started) (H : Type) (enc : TypeId × Value → H) (F : Stop.Interp) :
    ReturnsInHanded {} Tryz.checked os 3 .any ((OpenSpec.ofChange Rows.cnfTextsSpec).preRow enc Tryz.prog Tryz.f3 Rows.cnfTextsRow.domain false Rows.cnfTextsRow.laid) (((OpenSpec.ofChange Rows.cnfTextsSpec).at F).post enc Tryz.prog Tryz.f3 false true false false) := by
  obtain ⟨places, hx⟩ := reads os enc
  refine returnsInHanded_of_row (C := Tryz.checked) (s := OpenSpec.ofChange Rows.cnfTextsSpec) Tryz.own started (by kernel_rfl) Tryz.func3
    (witness_row_atRef (enc := enc) (C := Tryz.checked) false (wit os) #[.agg #[.int .i64 0, .slice none 0 0]] (wit_os os) (by kernel_rfl) (by kernel_rfl) (by kernel_rfl)
      (OpenSpec.preRow_of_cond 8 hx (by kernel_rfl) (fun k hk => by cases hk) (by kernel_rfl) (door_met os))) ?_
  intro W base args ds gs before hval hW _ _ hz hL hS _
  exact contract H enc W base args ds gs before hval hW hL hS hz

theorem said : Rows.CnfTextsSaid :=
  OpenClaim.holds_of_cond 3 Tryz.f3 rfl rfl rfl rfl rfl rfl rfl ⟨rfl, rfl, rfl, rfl, rfl⟩ rfl rfl rfl rfl rfl (by kernel_rfl) Tryz.func3 (by kernel_rfl)
    (of_decide_eq_true (by kernel_rfl)) (by unfold Func.isWrapper; rw [if_neg (of_decide_eq_false (by kernel_rfl))]; exact ⟨rfl, rfl⟩)
    (fun os started H enc _ F => by rw [OpenClaim.pre_eq_preRow]; exact lifted os started H enc F)

theorem plain (f : FuncId) (fn : Func) (hf : Tryz.pinned.checked.prog.funcNamed "lustrum/lustrumlaw3.CnfTexts" = some f) (hfn : Tryz.pinned.checked.prog.funcs[f]? = some fn) :
    true = Tryz.pinned.checked.prog.looks [] ∧ ∀ (j : Nat) t, fn.params[j]? = some t → Tryz.pinned.checked.prog.wantsStandIn t = false := by
  obtain rfl : f = 3 := Option.some.inj ((show Tryz.prog.funcNamed "lustrum/lustrumlaw3.CnfTexts" = some 3 by kernel_rfl).symm.trans hf) |>.symm
  obtain rfl : fn = Tryz.f3 := (Option.some.inj (Tryz.func3.symm.trans hfn)).symm
  refine ⟨by kernel_rfl, fun j t ht => ?_⟩
  rw [Tryz.params3] at ht
  have hm := Array.mem_of_getElem? ht
  simp only [List.mem_toArray, List.mem_cons, List.not_mem_nil, or_false] at hm
  rcases hm with rfl
  · exact (show Tryz.prog.wantsStandIn 24 = false by kernel_rfl)

theorem card : Rows.CnfTextsCardSaid :=
  Claim7.holds_tied_plain_at .later [] _ _ _ _ said (fun _ h => by cases h) (by kernel_rfl) (fun _ h => by cases h) cnfTexts_row_tie rfl ⟨rfl, rfl⟩ (by kernel_rfl) rfl plain (by kernel_rfl)
end Go.Proofs.YtlclbidjdhlklaaGreatDoor.cnfTexts

namespace Go.Proofs.YtlclbidjdhlklaaGreatDoor
theorem cnfTexts_card : Rows.CnfTextsCardSaid := cnfTexts.card
#print axioms cnfTexts_card
end Go.Proofs.YtlclbidjdhlklaaGreatDoor
