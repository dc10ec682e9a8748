/-
  PROVED: for every term and every int lustrumlaw1.TreeBrackets returns true: brackets around a term, as many as are asked for, change nothing: the text of a node with that check is read as the same node, or is too deep. Conditions: the row's own: the listed variables start as the program's text lays them (the card ties that).
-/
import Derived.Test.YtglkpgcmlbhkpabGreatDoorQ02
import Derived.Test.YtglkpgcmlbhkpabGreatDoorQ43
import Derived.Test.YtglkpgcmlbhkpabGreatDoorQ44
import Derived.Test.YtglkpgcmlbhkpabGreatDoorCards
import Derived.Test.YtglkpgcmlbhkpabGreatDoorTie
import Derived.ProofKit
import Derived.OpenShut
import Derived.Carry
import Derived.LaidMore
import Derived.Deep.DeepHandedRow
import Derived.Deep.DeepWitnessRowRef
namespace Go.Proofs.YtglkpgcmlbhkpabGreatDoor.treeBrackets
open Go.ChangeShapes Go.WideShapes Go.ChangeAt Go.RowKit

/-- The door's own heap meets the row's condition. -/
theorem door_met (os : Os) : laidMetH Tryz.prog Rows.treeBracketsRow.laid ((World.doorLaid Tryz.prog 400 os).forCall (fun _ _ => 0) ⟨#[], #[.agg #[.string ⟨#[]⟩, .int .i64 0, .string ⟨#[]⟩, .slice none 0 0], .int .i64 0], []⟩).memory :=
  laidMetH_of_parts3 (fuel := 8) (laidMet_of_run' 8 (by kernel_rfl) (by kernel_rfl)) (by kernel_rfl) (by kernel_rfl)
theorem reads (os : Os) {H : Type} (enc : TypeId × Value → H) : ∃ places, DataW.whole enc Tryz.prog ((World.doorLaid Tryz.prog 400 os).forCall (fun _ _ => 0) ⟨#[], #[.agg #[.string ⟨#[]⟩, .int .i64 0, .string ⟨#[]⟩, .slice none 0 0], .int .i64 0], []⟩).memory Tryz.f4.params.toList Rows.treeBracketsSpec.vars false (#[.agg #[.string ⟨#[]⟩, .int .i64 0, .string ⟨#[]⟩, .slice none 0 0], .int .i64 0] : Array Value).toList 8 = some ([.agg [.lit (.string []), .lit (.int .i64 0), .lit (.string []), .nil], .lit (.int .i64 0)], [], places) :=
  ⟨[], by kernel_rfl⟩
theorem tab_mem {P : Program} {W : World} {name : String} {k : IntKind} {zs : List Int} {g : Nat} {t e : TypeId} {n : Nat} (hg : P.globalNamed name = some g) (hty : (P.globals[g]?).map (·.type) = some t) (ht : P.underlying t = some (.array n e)) (he : P.underlying e = some (.int k)) (hce : P.cellsOf e = 1) (hct : P.cellsOf t = n) : ∀ {l : List (String × DataW Unit)}, laidMet P l W → (name, Lib.tabData k zs) ∈ l → Lib.TabIs P W name k zs
  | x :: r, h, hm => by
    rcases List.mem_cons.1 hm with rfl | hm
    · exact Lib.tabIs_of_head hg hty ht he hce hct h
    · exact tab_mem hg hty ht he hce hct h.tail hm
theorem tab_data : (Rows.laid_internal_strconv_uint64pow10 : DataW Unit) = Lib.tabData .u64 Lib.pow10Tab := by rfl
theorem env {W : World} (h : laidMetH Tryz.prog Rows.treeBracketsRow.laid W) : ∃ (a : Nat → Addr) (ev : Value), Sents a W ∧ Env (a 0) (a 1) (a 2) ev W := by
  have h' : laidMet Tryz.prog (Rows.treeBracketsRow.laid.filter fun x => x.2.handleName?.isNone) W ∧ handlesMet Tryz.prog (Rows.treeBracketsRow.laid.filter fun x => x.2.handleName?.isSome) W := h
  obtain ⟨a, S, _⟩ := sents_of h'.1 h'.2 (List.mem_filter.2 ⟨by simp [Rows.treeBracketsRow, Rows.laid_errors_errorType], rfl⟩) (fun x hx => List.mem_filter.2 ⟨by
    simp only [List.mem_cons, List.not_mem_nil, or_false] at hx
    rcases hx with rfl | rfl | rfl | rfl | rfl | rfl | rfl | rfl | rfl <;> simp [Rows.treeBracketsRow], by
    simp only [List.mem_cons, List.not_mem_nil, or_false] at hx
    rcases hx with rfl | rfl | rfl | rfl | rfl | rfl | rfl | rfl | rfl <;> rfl⟩)
  obtain ⟨b, _, _, _, hb, _⟩ := Tryz.sent (n := "strconv.ErrRange") h'.1 (List.mem_filter.2 ⟨(by simp [Rows.treeBracketsRow] : ("strconv.ErrRange", Rows.laid_strconv_ErrRange) ∈ Rows.treeBracketsRow.laid), rfl⟩) (by kernel_rfl) (show (Tryz.prog.globals[(11 : Nat)]?).map (·.type) = some 26 from by kernel_rfl)
  have ht : Lib.TabIs Tryz.prog W "internal/strconv.uint64pow10" .u64 Lib.pow10Tab := tab_mem (g := 13) (t := 335) (e := 316) (n := 20) (by kernel_rfl) (by kernel_rfl) Tryz.underlying335 Tryz.underlying316 (by kernel_rfl) (by kernel_rfl) h'.1 (List.mem_filter.2 ⟨by rw [← tab_data]; simp [Rows.treeBracketsRow], rfl⟩)
  have hgz : 13 < W.heap.size := by
    have := ht.cell (g := 13) (by kernel_rfl) 0 (by decide)
    exact lt_of_cell this
  exact ⟨a, _, S, S.g2, S.g0, S.g1, hb, Or.inr ⟨_, _, rfl⟩, ht, hgz⟩
theorem laidOut : laidOutB Tryz.prog = true := by kernel_rfl

set_option maxRecDepth 100000 in
theorem contract (H : Type) (enc : TypeId × Value → H) (W : World) (base : Nat) (args : Array Value) (ds gs : List (DataW H)) (before : List MemPlace)
    (hval : ∀ (j : Nat) t v, Tryz.f4.params[j]? = some t → args[j]? = some v → Value.okWide Tryz.prog W .any base t v)
    (hW : DataW.Whole enc Tryz.prog Tryz.f4.params.toList Rows.treeBracketsSpec.vars false W args.toList ds gs before) (hL : laidMetH Tryz.prog Rows.treeBracketsRow.laid W) (hz : (DataW.weightsEach Tryz.prog (Tryz.f4.params.toList ++ (OpenSpec.ofChange Rows.treeBracketsSpec).bare.plain.varTypes Tryz.prog) (ds ++ gs)).all (· ≤ reachBytes) = true) :
    Calls Tryz.prog 4 args W fun e W' => ∃ v, e = .returned v ∧ Rows.treeBracketsSpec.post enc Tryz.prog Tryz.f4 false true false false W args v W' := by
  have hW' := hW
  obtain ⟨p, q, hA0, hV, rfl, hfz, hnd⟩ := hW
  have hA : DataW.TrodAll enc Tryz.prog W 0 (fun _ => true) true Tryz.f4.params.toList args.toList ds p := hA0
  rw [Tryz.params4] at hA hval
  obtain ⟨v0, vs0, d0, ds0, p0, q0, hargs, rfl, rfl, h0, r0⟩ := trodAll_cons hA
  obtain ⟨v1, vs1, d1, ds1, p1, q1, rfl, rfl, rfl, h1, r1⟩ := trodAll_cons r0
  obtain ⟨rfl, rfl, rfl⟩ := trodAll_nil r1
  obtain rfl : args = #[v0, v1] := by cases args; simp_all
  obtain ⟨rfl, rfl⟩ := trodVars_none hV
  obtain ⟨m, rfl, rfl, rfl, hm⟩ := open_int Tryz.underlying3 (hval 1 3 v1 rfl rfl) h1
  simp only [List.append_nil] at hW'
  have hlt : ∀ x ∈ p0, x.block < W.heap.size := fun x hx => by simpa using hW'.lt x hx
  have back : ∀ W', Below W.heap.size W W' → DataW.Trod enc Tryz.prog W' 0 (fun b => decide (b < W.heap.size)) true 38 v0 d0 p0 :=
    fun W' hb => Below.trod laidOut (by kernel_rfl) (of_decide_eq_true (by kernel_rfl)) h0 hb hlt
  obtain ⟨cs, rfl, hcsz⟩ := okWide_struct (show Tryz.prog.underlying 38 = _ from Tryz.underlying38) (hval 0 38 v0 rfl rfl)
  obtain ⟨fuel, h0'⟩ := h0
  obtain ⟨ex, hin, hX⟩ := open_term _ fuel _ (d0, p0) (Nat.lt_succ_self _) h0'
  have hfit := hX fun k hk => of_decide_eq_true (List.all_eq_true.1 hz k (DataW.weights_mem_each (j := 0) (by rw [Tryz.params4]; rfl) rfl k hk))
  obtain ⟨op, n, s, l, o, c, ys, rfl, hcs, hrow, hexs⟩ := hin.one'
  have hcs' : cs = #[.string op, .int .i64 n, .string s, .slice o l.length c] := by
    apply Array.toList_inj.1
    exact hcs
  subst hcs'
  clear hA0
  have hfl : l.length ≤ 2199023255552 ∧ Fit 2199023255552 l := by
    cases hfit with
    | cons _ _ _ _ _ a1 a2 _ => exact ⟨a1, a2⟩
  obtain ⟨a, ev, S, E⟩ := env hL
  refine (brackets_walk a ev op n s l AnyB o c ys m W S E hrow hexs hfl.1 hfl.2).mono fun e W' ⟨he, hb⟩ => ?_
  subst he
  refine ⟨_, rfl, _, _, _, [], p0, [], hW', ?_, ?_, ?_, hb.frame _, fun h => by cases h⟩
  · exact trodAll_cons_mk (shut_bool Tryz.underlying4 _) trodAll_mk0
  · have := trodAll_cons_mk (back W' hb) (trodAll_cons_mk (shut_int Tryz.underlying3 hm) trodAll_mk0)
    simp only [List.append_nil] at this
    exact this
  · rfl

set_option maxRecDepth 100000 in
theorem lifted (os : Os) (started : os.Started) (H : Type) (enc : TypeId × Value → H) (F : Stop.Interp) :
    ReturnsInHanded {} Tryz.checked os 4 .any ((OpenSpec.ofChange Rows.treeBracketsSpec).preRow enc Tryz.prog Tryz.f4 Rows.treeBracketsRow.domain false Rows.treeBracketsRow.laid) (((OpenSpec.ofChange Rows.treeBracketsSpec).at F).post enc Tryz.prog Tryz.f4 false true false false) := by
  obtain ⟨places, hx⟩ := reads os enc
  refine returnsInHanded_of_row (C := Tryz.checked) (s := OpenSpec.ofChange Rows.treeBracketsSpec) Tryz.own started (by kernel_rfl) Tryz.func4
    (witness_row_atRef (enc := enc) (C := Tryz.checked) false (World.doorLaid Tryz.prog 400 os) #[.agg #[.string ⟨#[]⟩, .int .i64 0, .string ⟨#[]⟩, .slice none 0 0], .int .i64 0] rfl (by kernel_rfl) (by kernel_rfl) (by kernel_rfl)
      (OpenSpec.preRow_of_cond 8 hx (by kernel_rfl) (fun k hk => by cases hk) (by kernel_rfl) (door_met os))) ?_
  intro W base args ds gs before hval hW _ _ hz hL _ _
  exact contract H enc W base args ds gs before hval hW hL hz

theorem grown_fix {P : Program} {l : List TypeId} (h : P.grow l = l) : ∀ d, P.grown d l = l
  | 0 => rfl
  | d + 1 => by rw [Program.grown, h]; exact grown_fix h d
theorem grown_add (P : Program) : ∀ (a b : Nat) (l : List TypeId), P.grown (a + b) l = P.grown b (P.grown a l)
  | 0, b, l => by rw [Nat.zero_add]; rfl
  | a + 1, b, l => by rw [show a + 1 + b = (a + b) + 1 from by omega]; exact grown_add P a b (P.grow l)
/-- What a type's parts are, found in a few steps: nothing new comes behind them. -/
theorem book_of {P : Program} {t : TypeId} {l : List TypeId} (k : Nat) (hk : (Nat.ble k P.types.size) = true) (h : P.grown k [t] = l) (hs : P.grow l = l) : P.book t = l := by
  obtain ⟨m, hm⟩ := Nat.exists_eq_add_of_le (Nat.le_of_ble_eq_true hk)
  rw [Program.book, hm, grown_add, h, grown_fix hs]
theorem bkE : Tryz.prog.book 38 = [38, 9, 3, 36] := book_of 8 (by kernel_rfl) (by kernel_rfl) (by kernel_rfl)
theorem bkS : Tryz.prog.book 3 = [3] := book_of 0 (by kernel_rfl) (by kernel_rfl) (by kernel_rfl)
theorem bkB : Tryz.prog.book 4 = [4] := book_of 0 (by kernel_rfl) (by kernel_rfl) (by kernel_rfl)
theorem readable : Tryz.f4.params.all (Tryz.prog.readableRec ·) = true := by
  rw [Tryz.params4]
  have h1 : Tryz.prog.readableRec 38 = true := by rw [Program.readableRec, bkE]; kernel_rfl
  have h2 : Tryz.prog.readableRec 3 = true := by rw [Program.readableRec, bkS]; kernel_rfl
  simp only [Array.all_eq_true_iff_forall_mem]
  intro t ht
  simp only [List.mem_toArray, List.mem_cons, List.not_mem_nil, or_false] at ht
  rcases ht with rfl | rfl
  · exact h1
  · exact h2
theorem ins : Tryz.f4.params.toList ++ (OpenSpec.ofChange Rows.treeBracketsSpec).bare.plain.varTypes Tryz.prog = [38, 3] := by kernel_rfl
theorem insOut : Tryz.f4.params.toList ++ (OpenSpec.ofChange Rows.treeBracketsSpec).bare.plain.varTypes Tryz.prog ++ Tryz.f4.resultTypes.toList = [38, 3, 4] := by kernel_rfl
theorem maps : [38, 3].any (Tryz.prog.mapsRec ·) = false := by
  simp only [List.any_cons, List.any_nil, Program.mapsRec, bkE, bkS]; kernel_rfl
theorem ifaces : [38, 3].any (Tryz.prog.ifacesRec ·) = false := by
  simp only [List.any_cons, List.any_nil, Program.ifacesRec, bkE, bkS]; kernel_rfl
theorem loops : [38, 3].any (Tryz.prog.loopsFrom ·) = true := by
  refine List.any_eq_true.2 ⟨38, List.mem_cons_self, ?_⟩
  rw [Program.loopsFrom, bkE]
  refine List.any_eq_true.2 ⟨36, by decide, List.any_eq_true.2 ⟨38, ?_, ?_⟩⟩
  · rw [show Tryz.prog.partsOf 36 = [38] from by kernel_rfl]; exact List.mem_cons_self
  · rw [bkE]; rfl
theorem wideKeys : [38, 3, 4].any (Tryz.prog.wideKeysFrom ·) = false := by
  simp only [List.any_cons, List.any_nil, Program.wideKeysFrom, bkE, bkS, bkB]; kernel_rfl
theorem veiled : [38, 3, 4].any (Tryz.prog.veiledRec ·) = false := by
  simp only [List.any_cons, List.any_nil, Program.veiledRec, bkE, bkS, bkB]; kernel_rfl
set_option maxRecDepth 100000 in
theorem veiledFits : OpenClaim.veiledFits Rows.treeBracketsRow Tryz.prog Tryz.f4.params.toList [38, 3, 4] = true := by
  have hv : Tryz.prog.veiledRec 38 = false ∧ Tryz.prog.veiledRec 3 = false ∧ Tryz.prog.veiledRec 4 = false := by
    have := veiled
    simp only [List.any_cons, List.any_nil, Bool.or_false, Bool.or_eq_false_iff] at this
    exact this
  have h0 : (Rows.treeBracketsRow.laid.filterMap fun x => (Tryz.prog.globalNamed x.1).bind fun g => (Tryz.prog.globals[g]?).map (·.type)).all (Tryz.prog.veiledOwn ·) = true := by kernel_rfl
  unfold OpenClaim.veiledFits
  rw [List.all_append, h0]
  simp only [List.all_cons, List.all_nil, Program.veiledOwn, hv.1, hv.2.1, hv.2.2]
  rfl
set_option maxRecDepth 100000 in
theorem closed : joinedFacts Tryz.prog 4 Tryz.f4 (OpenSpec.ofChange Rows.treeBracketsSpec).bare Rows.treeBracketsRow = true := by
  unfold joinedFacts
  rw [insOut]
  simp only [ins, maps, ifaces, loops, wideKeys, veiled, veiledFits, readable, Bool.and_true]
  kernel_rfl
theorem said : Rows.TreeBracketsSaid :=
  OpenClaim.holds_of_cond 4 Tryz.f4 rfl rfl rfl rfl rfl rfl rfl ⟨rfl, rfl, rfl, rfl, rfl⟩ rfl rfl rfl rfl rfl (by kernel_rfl) Tryz.func4 closed
    (of_decide_eq_true (by kernel_rfl)) (by unfold Func.isWrapper; rw [if_neg (of_decide_eq_false (by kernel_rfl))]; exact ⟨rfl, rfl⟩)
    (fun os started H enc _ F => by rw [OpenClaim.pre_eq_preRow]; exact lifted os started H enc F)

theorem plain (f : FuncId) (fn : Func) (hf : Tryz.pinned.checked.prog.funcNamed "lustrum/lustrumlaw1.TreeBrackets" = some f) (hfn : Tryz.pinned.checked.prog.funcs[f]? = some fn) :
    true = Tryz.pinned.checked.prog.looks [] ∧ ∀ (j : Nat) t, fn.params[j]? = some t → Tryz.pinned.checked.prog.wantsStandIn t = false := by
  obtain rfl : f = 4 := Option.some.inj ((show Tryz.prog.funcNamed "lustrum/lustrumlaw1.TreeBrackets" = some 4 by kernel_rfl).symm.trans hf) |>.symm
  obtain rfl : fn = Tryz.f4 := (Option.some.inj (Tryz.func4.symm.trans hfn)).symm
  refine ⟨by kernel_rfl, fun j t ht => ?_⟩
  rw [Tryz.params4] at ht
  have hm := Array.mem_of_getElem? ht
  simp only [List.mem_toArray, List.mem_cons, List.not_mem_nil, or_false] at hm
  rcases hm with rfl | rfl
  · exact (show Tryz.prog.wantsStandIn 38 = false by kernel_rfl)
  · exact (show Tryz.prog.wantsStandIn 3 = false by kernel_rfl)

theorem card : Rows.TreeBracketsCardSaid :=
  Claim7.holds_tied_plain_at .later [] _ _ _ _ said (fun _ h => by cases h) (by kernel_rfl) (fun _ h => by cases h) treeBrackets_row_tie rfl ⟨rfl, rfl⟩ (by kernel_rfl) rfl plain (by kernel_rfl)
end Go.Proofs.YtglkpgcmlbhkpabGreatDoor.treeBrackets

namespace Go.Proofs.YtglkpgcmlbhkpabGreatDoor
theorem treeBrackets_card : Rows.TreeBracketsCardSaid := treeBrackets.card
#print axioms treeBrackets_card
end Go.Proofs.YtglkpgcmlbhkpabGreatDoor
