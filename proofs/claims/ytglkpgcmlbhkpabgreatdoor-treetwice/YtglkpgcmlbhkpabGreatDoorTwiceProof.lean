/-
  PROVED: for every program and every string lustrumlaw1.TreeTwice returns true: what tree.Text writes of the program is read by tree.Read, and the same; what is read of the string is written so that it is read again, and the same. Conditions: the row's own: the listed variables start as the program's text lays them (the card ties that).
-/
import Derived.Test.YtglkpgcmlbhkpabGreatDoorP02
import Derived.Test.YtglkpgcmlbhkpabGreatDoorP46
import Derived.Test.YtglkpgcmlbhkpabGreatDoorP47
import Derived.Test.YtglkpgcmlbhkpabGreatDoorCards
import Derived.Test.YtglkpgcmlbhkpabGreatDoorTie
import Derived.ProofKit
import Derived.OpenShut
import Derived.Carry
import Derived.LaidMore
import Derived.Deep.DeepHandedRow
import Derived.Deep.DeepWitnessRowRef
namespace Go.Proofs.YtglkpgcmlbhkpabGreatDoor.treeTwice
open Go.ChangeShapes Go.WideShapes Go.ChangeAt Go.RowKit
open Go.ChangeMaps (open_string shut_string)

/-- The door's own heap meets the row's condition. -/
theorem door_met (os : Os) : laidMetH Tryz.prog Rows.treeTwiceRow.laid ((World.doorLaid Tryz.prog 400 os).forCall (fun _ _ => 0) ⟨#[], #[.slice none 0 0, .string ⟨#[]⟩], []⟩).memory :=
  laidMetH_of_parts3 (fuel := 8) (laidMet_of_run' 8 (by kernel_rfl) (by kernel_rfl)) (by kernel_rfl) (by kernel_rfl)
theorem reads (os : Os) {H : Type} (enc : TypeId × Value → H) : ∃ places, DataW.whole enc Tryz.prog ((World.doorLaid Tryz.prog 400 os).forCall (fun _ _ => 0) ⟨#[], #[.slice none 0 0, .string ⟨#[]⟩], []⟩).memory Tryz.f3.params.toList Rows.treeTwiceSpec.vars false (#[.slice none 0 0, .string ⟨#[]⟩] : Array Value).toList 8 = some ([.nil, .lit (.string [])], [], places) :=
  ⟨[], by kernel_rfl⟩
theorem tab_mem {P : Program} {W : World} {name : String} {k : IntKind} {zs : List Int} {g : Nat} {t e : TypeId} {n : Nat} (hg : P.globalNamed name = some g) (hty : (P.globals[g]?).map (·.type) = some t) (ht : P.underlying t = some (.array n e)) (he : P.underlying e = some (.int k)) (hce : P.cellsOf e = 1) (hct : P.cellsOf t = n) : ∀ {l : List (String × DataW Unit)}, laidMet P l W → (name, Lib.tabData k zs) ∈ l → Lib.TabIs P W name k zs
  | x :: r, h, hm => by
    rcases List.mem_cons.1 hm with rfl | hm
    · exact Lib.tabIs_of_head hg hty ht he hce hct h
    · exact tab_mem hg hty ht he hce hct h.tail hm
theorem tab_data : (Rows.laid_internal_strconv_uint64pow10 : DataW Unit) = Lib.tabData .u64 Lib.pow10Tab := by rfl
theorem env {W : World} (h : laidMetH Tryz.prog Rows.treeTwiceRow.laid W) : ∃ (pT pB pS : Addr) (ev : Value), Env pT pB pS ev W := by
  have h' : laidMet Tryz.prog Rows.treeTwiceRow.laid W := h
  obtain ⟨pT, _, _, _, hpT, _⟩ := Tryz.sent (n := "lustrum/api.ErrText") h' (by simp [Rows.treeTwiceRow] : ("lustrum/api.ErrText", Rows.laid_lustrum_api_ErrText) ∈ Rows.treeTwiceRow.laid) (by kernel_rfl) (show (Tryz.prog.globals[(1 : Nat)]?).map (·.type) = some 26 from by kernel_rfl)
  obtain ⟨pB, _, _, _, hpB, _⟩ := Tryz.sent (n := "lustrum/api.ErrBound") h' (by simp [Rows.treeTwiceRow] : ("lustrum/api.ErrBound", Rows.laid_lustrum_api_ErrBound) ∈ Rows.treeTwiceRow.laid) (by kernel_rfl) (show (Tryz.prog.globals[(2 : Nat)]?).map (·.type) = some 26 from by kernel_rfl)
  obtain ⟨pS, _, _, _, hpS, _⟩ := Tryz.sent (n := "lustrum/api.ErrShape") h' (by simp [Rows.treeTwiceRow] : ("lustrum/api.ErrShape", Rows.laid_lustrum_api_ErrShape) ∈ Rows.treeTwiceRow.laid) (by kernel_rfl) (show (Tryz.prog.globals[(0 : Nat)]?).map (·.type) = some 26 from by kernel_rfl)
  obtain ⟨pR, _, _, _, hpR, _⟩ := Tryz.sent (n := "strconv.ErrRange") h' (by simp [Rows.treeTwiceRow] : ("strconv.ErrRange", Rows.laid_strconv_ErrRange) ∈ Rows.treeTwiceRow.laid) (by kernel_rfl) (show (Tryz.prog.globals[(11 : Nat)]?).map (·.type) = some 26 from by kernel_rfl)
  have ht : Lib.TabIs Tryz.prog W "internal/strconv.uint64pow10" .u64 Lib.pow10Tab := tab_mem (g := 13) (t := 335) (e := 316) (n := 20) (by kernel_rfl) (by kernel_rfl) Tryz.underlying335 Tryz.underlying316 (by kernel_rfl) (by kernel_rfl) h' (by rw [← tab_data]; simp [Rows.treeTwiceRow])
  have hgz : 13 < W.heap.size := by
    have := ht.cell (g := 13) (by kernel_rfl) 0 (by decide)
    exact lt_of_cell this
  exact ⟨pT, pB, pS, _, hpS, hpT, hpB, hpR, Or.inr ⟨_, _, rfl⟩, ht, hgz⟩
theorem laidOut : laidOutB Tryz.prog = true := by kernel_rfl

set_option maxRecDepth 100000 in
theorem contract (H : Type) (enc : TypeId × Value → H) (W : World) (base : Nat) (args : Array Value) (ds gs : List (DataW H)) (before : List MemPlace)
    (hval : ∀ (j : Nat) t v, Tryz.f3.params[j]? = some t → args[j]? = some v → Value.okWide Tryz.prog W .any base t v)
    (hW : DataW.Whole enc Tryz.prog Tryz.f3.params.toList Rows.treeTwiceSpec.vars false W args.toList ds gs before) (hL : laidMetH Tryz.prog Rows.treeTwiceRow.laid W) (hz : (DataW.weightsEach Tryz.prog (Tryz.f3.params.toList ++ (OpenSpec.ofChange Rows.treeTwiceSpec).bare.plain.varTypes Tryz.prog) (ds ++ gs)).all (· ≤ reachBytes) = true) :
    Calls Tryz.prog 3 args W fun e W' => ∃ v, e = .returned v ∧ Rows.treeTwiceSpec.post enc Tryz.prog Tryz.f3 false true false false W args v W' := by
  have hW' := hW
  obtain ⟨p, q, hA0, hV, rfl, hfz, hnd⟩ := hW
  have hA : DataW.TrodAll enc Tryz.prog W 0 (fun _ => true) true Tryz.f3.params.toList args.toList ds p := hA0
  rw [Tryz.params3] at hA hval
  obtain ⟨v0, vs0, d0, ds0, p0, q0, hargs, rfl, rfl, h0, r0⟩ := trodAll_cons hA
  obtain ⟨v1, vs1, d1, ds1, p1, q1, rfl, rfl, rfl, h1, r1⟩ := trodAll_cons r0
  obtain ⟨rfl, rfl, rfl⟩ := trodAll_nil r1
  obtain rfl : args = #[v0, v1] := by cases args; simp_all
  obtain ⟨rfl, rfl⟩ := trodVars_none hV
  obtain ⟨s, rfl, rfl, rfl, hs⟩ := open_string Tryz.underlying9 (hval 1 9 v1 rfl rfl) h1
  simp only [List.append_nil] at hW'
  have hlt : ∀ x ∈ p0, x.block < W.heap.size := fun x hx => by simpa using hW'.lt x hx
  have back : ∀ W', Below W.heap.size W W' → DataW.Trod enc Tryz.prog W' 0 (fun b => decide (b < W.heap.size)) true 22 v0 d0 p0 :=
    fun W' hb => Below.trod laidOut (by kernel_rfl) (of_decide_eq_true (by kernel_rfl)) h0 hb hlt
  obtain ⟨ao, n, c, rfl⟩ := okWide_slice Tryz.underlying22 (hval 0 22 v0 rfl rfl)
  obtain ⟨fuel, h0'⟩ := h0
  obtain ⟨o, c', es, ys, hcs, hrow, hin, hX⟩ := open_nodes h0'
  simp only [Value.cells, List.cons.injEq, Value.slice.injEq, and_true] at hcs
  obtain ⟨rfl, rfl, rfl⟩ := hcs
  obtain ⟨hn, hfit⟩ := hX fun k hk => of_decide_eq_true (List.all_eq_true.1 hz k (DataW.weights_mem_each (j := 0) (by rw [Tryz.params3]; rfl) rfl k hk))
  clear hA0
  obtain ⟨pT, pB, pS, ev, E⟩ := env hL
  refine (twice_walk pT pB pS ev es AnyB ao c ys s W E hrow hin hn hfit hs).mono fun e W' ⟨he, hb⟩ => ?_
  subst he
  refine ⟨_, rfl, _, _, _, [], p0, [], hW', ?_, ?_, ?_, hb.frame _, fun h => by cases h⟩
  · exact trodAll_cons_mk (shut_bool Tryz.underlying4 _) trodAll_mk0
  · have := trodAll_cons_mk (back W' hb) (trodAll_cons_mk (shut_string Tryz.underlying9 hs) trodAll_mk0)
    simp only [List.append_nil] at this
    exact this
  · rfl

set_option maxRecDepth 100000 in
theorem lifted (os : Os) (started : os.Started) (H : Type) (enc : TypeId × Value → H) (F : Stop.Interp) :
    ReturnsInHanded {} Tryz.checked os 3 .any ((OpenSpec.ofChange Rows.treeTwiceSpec).preRow enc Tryz.prog Tryz.f3 Rows.treeTwiceRow.domain false Rows.treeTwiceRow.laid) (((OpenSpec.ofChange Rows.treeTwiceSpec).at F).post enc Tryz.prog Tryz.f3 false true false false) := by
  obtain ⟨places, hx⟩ := reads os enc
  refine returnsInHanded_of_row (C := Tryz.checked) (s := OpenSpec.ofChange Rows.treeTwiceSpec) Tryz.own started (by kernel_rfl) Tryz.func3
    (witness_row_atRef (enc := enc) (C := Tryz.checked) false (World.doorLaid Tryz.prog 400 os) #[.slice none 0 0, .string ⟨#[]⟩] rfl (by kernel_rfl) (by kernel_rfl) (by kernel_rfl)
      (OpenSpec.preRow_of_cond 8 hx (by kernel_rfl) (fun k hk => by cases hk) (by kernel_rfl) (door_met os))) ?_
  intro W base args ds gs before hval hW _ _ hz hL _ _
  exact contract H enc W base args ds gs before hval hW hL hz

theorem grown_fix {P : Program} {l : List TypeId} (h : P.grow l = l) : ∀ d, P.grown d l = l
  | 0 => rfl
  | d + 1 => by rw [Program.grown, h]; exact grown_fix h d
theorem grown_add (P : Program) : ∀ (a b : Nat) (l : List TypeId), P.grown (a + b) l = P.grown b (P.grown a l)
  | 0, b, l => by rw [Nat.zero_add]; rfl
  | a + 1, b, l => by rw [show a + 1 + b = (a + b) + 1 from by omega]; exact grown_add P a b (P.grow l)
/-- What a type's parts are, found in a few steps: nothing new comes behind them. -/
theorem book_of {P : Program} {t : TypeId} {l : List TypeId} (k : Nat) (hk : (Nat.ble k P.types.size) = true) (h : P.grown k [t] = l) (hs : P.grow l = l) : P.book t = l := by
  obtain ⟨m, hm⟩ := Nat.exists_eq_add_of_le (Nat.le_of_ble_eq_true hk)
  rw [Program.book, hm, grown_add, h, grown_fix hs]
theorem bkN : Tryz.prog.book 22 = [22, 48, 9, 42, 46, 41, 45, 3, 43, 38, 36] := book_of 8 (by kernel_rfl) (by kernel_rfl) (by kernel_rfl)
theorem bkE : Tryz.prog.book 38 = [38, 9, 3, 36] := book_of 8 (by kernel_rfl) (by kernel_rfl) (by kernel_rfl)
theorem bkS : Tryz.prog.book 9 = [9] := book_of 0 (by kernel_rfl) (by kernel_rfl) (by kernel_rfl)
theorem bkB : Tryz.prog.book 4 = [4] := book_of 0 (by kernel_rfl) (by kernel_rfl) (by kernel_rfl)
theorem readable : Tryz.f3.params.all (Tryz.prog.readableRec ·) = true := by
  rw [Tryz.params3]
  have h1 : Tryz.prog.readableRec 22 = true := by rw [Program.readableRec, bkN]; kernel_rfl
  have h2 : Tryz.prog.readableRec 9 = true := by rw [Program.readableRec, bkS]; kernel_rfl
  simp only [Array.all_eq_true_iff_forall_mem]
  intro t ht
  simp only [List.mem_toArray, List.mem_cons, List.not_mem_nil, or_false] at ht
  rcases ht with rfl | rfl
  · exact h1
  · exact h2
theorem ins : Tryz.f3.params.toList ++ (OpenSpec.ofChange Rows.treeTwiceSpec).bare.plain.varTypes Tryz.prog = [22, 9] := by kernel_rfl
theorem insOut : Tryz.f3.params.toList ++ (OpenSpec.ofChange Rows.treeTwiceSpec).bare.plain.varTypes Tryz.prog ++ Tryz.f3.resultTypes.toList = [22, 9, 4] := by kernel_rfl
theorem maps : [22, 9].any (Tryz.prog.mapsRec ·) = false := by
  simp only [List.any_cons, List.any_nil, Program.mapsRec, bkN, bkS]; kernel_rfl
theorem ifaces : [22, 9].any (Tryz.prog.ifacesRec ·) = false := by
  simp only [List.any_cons, List.any_nil, Program.ifacesRec, bkN, bkS]; kernel_rfl
theorem loops : [22, 9].any (Tryz.prog.loopsFrom ·) = true := by
  refine List.any_eq_true.2 ⟨22, List.mem_cons_self, ?_⟩
  rw [Program.loopsFrom, bkN]
  refine List.any_eq_true.2 ⟨36, by decide, List.any_eq_true.2 ⟨38, ?_, ?_⟩⟩
  · rw [show Tryz.prog.partsOf 36 = [38] from by kernel_rfl]; exact List.mem_cons_self
  · rw [bkE]; rfl
theorem wideKeys : [22, 9, 4].any (Tryz.prog.wideKeysFrom ·) = false := by
  simp only [List.any_cons, List.any_nil, Program.wideKeysFrom, bkN, bkS, bkB]; kernel_rfl
theorem veiled : [22, 9, 4].any (Tryz.prog.veiledRec ·) = false := by
  simp only [List.any_cons, List.any_nil, Program.veiledRec, bkN, bkS, bkB]; kernel_rfl
set_option maxRecDepth 100000 in
theorem veiledFits : OpenClaim.veiledFits Rows.treeTwiceRow Tryz.prog Tryz.f3.params.toList [22, 9, 4] = true := by
  have hv : Tryz.prog.veiledRec 22 = false ∧ Tryz.prog.veiledRec 9 = false ∧ Tryz.prog.veiledRec 4 = false := by
    have := veiled
    simp only [List.any_cons, List.any_nil, Bool.or_false, Bool.or_eq_false_iff] at this
    exact this
  have h0 : (Rows.treeTwiceRow.laid.filterMap fun x => (Tryz.prog.globalNamed x.1).bind fun g => (Tryz.prog.globals[g]?).map (·.type)).all (Tryz.prog.veiledOwn ·) = true := by kernel_rfl
  unfold OpenClaim.veiledFits
  rw [List.all_append, h0]
  simp only [List.all_cons, List.all_nil, Program.veiledOwn, hv.1, hv.2.1, hv.2.2]
  rfl
set_option maxRecDepth 100000 in
theorem closed : joinedFacts Tryz.prog 3 Tryz.f3 (OpenSpec.ofChange Rows.treeTwiceSpec).bare Rows.treeTwiceRow = true := by
  unfold joinedFacts
  rw [insOut]
  simp only [ins, maps, ifaces, loops, wideKeys, veiled, veiledFits, readable, Bool.and_true]
  kernel_rfl
theorem said : Rows.TreeTwiceSaid :=
  OpenClaim.holds_of_cond 3 Tryz.f3 rfl rfl rfl rfl rfl rfl rfl ⟨rfl, rfl, rfl, rfl, rfl⟩ rfl rfl rfl rfl rfl (by kernel_rfl) Tryz.func3 closed
    (of_decide_eq_true (by kernel_rfl)) (by unfold Func.isWrapper; rw [if_neg (of_decide_eq_false (by kernel_rfl))]; exact ⟨rfl, rfl⟩)
    (fun os started H enc _ F => by rw [OpenClaim.pre_eq_preRow]; exact lifted os started H enc F)

theorem plain (f : FuncId) (fn : Func) (hf : Tryz.pinned.checked.prog.funcNamed "lustrum/lustrumlaw1.TreeTwice" = some f) (hfn : Tryz.pinned.checked.prog.funcs[f]? = some fn) :
    true = Tryz.pinned.checked.prog.looks [] ∧ ∀ (j : Nat) t, fn.params[j]? = some t → Tryz.pinned.checked.prog.wantsStandIn t = false := by
  obtain rfl : f = 3 := Option.some.inj ((show Tryz.prog.funcNamed "lustrum/lustrumlaw1.TreeTwice" = some 3 by kernel_rfl).symm.trans hf) |>.symm
  obtain rfl : fn = Tryz.f3 := (Option.some.inj (Tryz.func3.symm.trans hfn)).symm
  refine ⟨by kernel_rfl, fun j t ht => ?_⟩
  rw [Tryz.params3] at ht
  have hm := Array.mem_of_getElem? ht
  simp only [List.mem_toArray, List.mem_cons, List.not_mem_nil, or_false] at hm
  rcases hm with rfl | rfl
  · exact (show Tryz.prog.wantsStandIn 22 = false by kernel_rfl)
  · exact (show Tryz.prog.wantsStandIn 9 = false by kernel_rfl)

theorem card : Rows.TreeTwiceCardSaid :=
  Claim7.holds_tied_plain_at .later [] _ _ _ _ said (fun _ h => by cases h) (by kernel_rfl) (fun _ h => by cases h) treeTwice_row_tie rfl ⟨rfl, rfl⟩ (by kernel_rfl) rfl plain (by kernel_rfl)
end Go.Proofs.YtglkpgcmlbhkpabGreatDoor.treeTwice

namespace Go.Proofs.YtglkpgcmlbhkpabGreatDoor
theorem treeTwice_card : Rows.TreeTwiceCardSaid := treeTwice.card
#print axioms treeTwice_card
end Go.Proofs.YtglkpgcmlbhkpabGreatDoor
