/-
  PROVED: for every program that holds at most 1048576 values and letters lustrumlaw1.TreeTexts returns true: tree.Text tells the text that the document's answer tells, or both tell that there is none. Conditions: the row's own: that bulk, and the listed variables start as the program's text lays them (the card ties that).
-/
import Derived.Test.YtgbpccipdcajgaaGreatDoorQ25
import Derived.Test.YtgbpccipdcajgaaGreatDoorQ45
import Derived.Test.YtgbpccipdcajgaaGreatDoorQ44
import Derived.Test.YtgbpccipdcajgaaGreatDoorCards
import Derived.Test.YtgbpccipdcajgaaGreatDoorTie
import Derived.ProofKit
import Derived.OpenShut
import Derived.Carry
import Derived.LaidMore
import Derived.Deep.DeepHandedRow
import Derived.Deep.DeepWitnessRowRef
namespace Go.Proofs.YtgbpccipdcajgaaGreatDoor.treeTexts
open Go.ChangeShapes Go.WideShapes Go.ChangeAt Go.RowKit
open Go.ChangeMaps (open_string shut_string)

theorem door_met (os : Os) : laidMetH Tryz.prog Rows.treeTextsUptoRow.laid ((World.doorLaid Tryz.prog 400 os).forCall (fun _ _ => 0) ⟨#[], #[.slice none 0 0], []⟩).memory :=
 laidMetH_of_parts3 (fuel := 8) (laidMet_of_run' 8 (by kernel_rfl) (by kernel_rfl)) (by kernel_rfl) (by kernel_rfl)
theorem reads (os : Os) {H : Type} (enc : TypeId × Value → H) : ∃ places, DataW.whole enc Tryz.prog ((World.doorLaid Tryz.prog 400 os).forCall (fun _ _ => 0) ⟨#[], #[.slice none 0 0], []⟩).memory Tryz.f5.params.toList Rows.treeTextsSpec.vars false (#[.slice none 0 0] : Array Value).toList 8 = some ([.nil], [], places) :=
 ⟨[], by kernel_rfl⟩
theorem tab_mem {P : Program} {W : World} {name : String} {k : IntKind} {zs : List Int} {g : Nat} {t e : TypeId} {n : Nat} (hg : P.globalNamed name = some g) (hty : (P.globals[g]?).map (·.type) = some t) (ht : P.underlying t = some (.array n e)) (he : P.underlying e = some (.int k)) (hce : P.cellsOf e = 1) (hct : P.cellsOf t = n) : ∀ {l : List (String × DataW Unit)}, laidMet P l W → (name, Lib.tabData k zs) ∈ l → Lib.TabIs P W name k zs
 | x :: r, h, hm => by
  rcases List.mem_cons.1 hm with rfl | hm
  ·exact Lib.tabIs_of_head hg hty ht he hce hct h
  ·exact tab_mem hg hty ht he hce hct h.tail hm
theorem tab_data : (Rows.laid_internal_strconv_uint64pow10 : DataW Unit) = Lib.tabData .u64 Lib.pow10Tab := by rfl
theorem env {W : World} (h : laidMetH Tryz.prog Rows.treeTextsUptoRow.laid W) : ∃ (a : Nat → Addr) (ev : Value), Sents a W ∧ Env (a 0) (a 1) (a 2) ev W := by
 have h' : laidMet Tryz.prog (Rows.treeTextsUptoRow.laid.filter fun x => x.2.handleName?.isNone) W ∧ handlesMet Tryz.prog (Rows.treeTextsUptoRow.laid.filter fun x => x.2.handleName?.isSome) W := h
 obtain ⟨a, S, _⟩ := sents_of h'.1 h'.2 (List.mem_filter.2 ⟨by simp [Rows.treeTextsUptoRow, Rows.laid_errors_errorType], rfl⟩) (fun x hx => List.mem_filter.2 ⟨by
  simp only [List.mem_cons, List.not_mem_nil, or_false] at hx
  rcases hx with rfl | rfl | rfl | rfl | rfl | rfl | rfl | rfl | rfl <;> simp [Rows.treeTextsUptoRow], by
  simp only [List.mem_cons, List.not_mem_nil, or_false] at hx
  rcases hx with rfl | rfl | rfl | rfl | rfl | rfl | rfl | rfl | rfl <;> rfl⟩)
 obtain ⟨b, _, _, _, hb, _⟩ := Tryz.sent (n := "strconv.ErrRange") h'.1 (List.mem_filter.2 ⟨(by simp [Rows.treeTextsUptoRow] : ("strconv.ErrRange", Rows.laid_strconv_ErrRange) ∈ Rows.treeTextsUptoRow.laid), rfl⟩) (by kernel_rfl) (show (Tryz.prog.globals[(11 : Nat)]?).map (·.type) = some 27 from by kernel_rfl)
 have ht : Lib.TabIs Tryz.prog W "internal/strconv.uint64pow10" .u64 Lib.pow10Tab := tab_mem (g := 13) (t := 246) (e := 222) (n := 20) (by kernel_rfl) (by kernel_rfl) Tryz.underlying246 Tryz.underlying222 (by kernel_rfl) (by kernel_rfl) h'.1 (List.mem_filter.2 ⟨by rw [← tab_data]; simp [Rows.treeTextsUptoRow], rfl⟩)
 have hgz : 13 < W.heap.size := by
  have := ht.cell (g := 13) (by kernel_rfl) 0 (by decide)
  exact lt_of_cell this
 exact ⟨a, _, S, S.g2, S.g0, S.g1, hb, Or.inr ⟨_, _, rfl⟩, ht, hgz⟩
theorem laidOut : laidOutB Tryz.prog = true := by kernel_rfl

set_option maxRecDepth 100000 in
theorem contract (H : Type) (enc : TypeId × Value → H) (W : World) (base : Nat) (args : Array Value) (ds gs : List (DataW H)) (before : List MemPlace)
  (hval : ∀ (j : Nat) t v, Tryz.f5.params[j]? = some t → args[j]? = some v → Value.okWide Tryz.prog W .any base t v)
  (hW : DataW.Whole enc Tryz.prog Tryz.f5.params.toList Rows.treeTextsSpec.vars false W args.toList ds gs before) (hL : laidMetH Tryz.prog Rows.treeTextsUptoRow.laid W) (hc : Rows.uptoSmall H (ds ++ gs) = true) :
  Calls Tryz.prog 5 args W fun e W' => ∃ v, e = .returned v ∧ Rows.treeTextsSpec.post enc Tryz.prog Tryz.f5 false true false false W args v W' := by
 have hW' := hW
 obtain ⟨p, q, hA0, hV, rfl, hfz, hnd⟩ := hW
 have hA : DataW.TrodAll enc Tryz.prog W 0 (fun _ => true) true Tryz.f5.params.toList args.toList ds p := hA0
 rw [Tryz.params5] at hA hval
 obtain ⟨v0, vs0, d0, ds0, p0, q0, hargs, rfl, rfl, h0, r0⟩ := trodAll_cons hA
 obtain ⟨rfl, rfl, rfl⟩ := trodAll_nil r0
 obtain rfl : args = #[v0] := by cases args; simp_all
 obtain ⟨rfl, rfl⟩ := trodVars_none hV
 simp only [List.append_nil] at hW'
 have hlt : ∀ x ∈ p0, x.block < W.heap.size := fun x hx => by simpa using hW'.lt x hx
 have back : ∀ W', Below W.heap.size W W' → DataW.Trod enc Tryz.prog W' 0 (fun b => decide (b < W.heap.size)) true 42 v0 d0 p0 :=
  fun W' hb => Below.trod laidOut (by kernel_rfl) (of_decide_eq_true (by kernel_rfl)) h0 hb hlt
 obtain ⟨ao, n, c, rfl⟩ := okWide_slice Tryz.underlying42 (hval 0 42 v0 rfl rfl)
 obtain ⟨fuel, h0'⟩ := h0
 obtain ⟨o, c', es, ys, hcs, hrow, hin, hX⟩ := open_nodesB h0'
 simp only [Value.cells, List.cons.injEq, Value.slice.injEq, and_true] at hcs
 obtain ⟨rfl, rfl, rfl⟩ := hcs
 have hbk : Rows.uptoBulk d0 ≤ 1048576 := by
  have h := of_decide_eq_true hc
  simp only [List.append_nil, Rows.uptoBulkAll] at h
  exact h
 obtain ⟨hn, hfit, hB⟩ := hX hbk
 clear hA0
 obtain ⟨a, ev, S, E⟩ := env hL
 refine (nodeTexts_walk a ev es AnyB ao c ys W E S hrow hin hn hfit hB).mono fun e W' ⟨he, hb⟩ => ?_
 subst he
 refine ⟨_, rfl, _, _, _, [], p0, [], hW', ?_, ?_, ?_, hb.frame _, fun h => by cases h⟩
 ·exact trodAll_cons_mk (shut_bool Tryz.underlying4 _) trodAll_mk0
 ·have := trodAll_cons_mk (back W' hb) trodAll_mk0
  simp only [List.append_nil] at this
  exact this
 ·rfl

set_option maxRecDepth 100000 in
theorem lifted (os : Os) (started : os.Started) (H : Type) (enc : TypeId × Value → H) (F : Stop.Interp) :
  ReturnsInHanded {} Tryz.checked os 5 .any ((Rows.OpenSpec.upto Rows.treeTextsSpec).preRow enc Tryz.prog Tryz.f5 Rows.treeTextsUptoRow.domain false Rows.treeTextsUptoRow.laid) (((Rows.OpenSpec.upto Rows.treeTextsSpec).at F).post enc Tryz.prog Tryz.f5 false true false false) := by
 obtain ⟨places, hx⟩ := reads os enc
 refine returnsInHanded_of_row (C := Tryz.checked) (s := Rows.OpenSpec.upto Rows.treeTextsSpec) Tryz.own started (by kernel_rfl) Tryz.func5
  (witness_row_atRef (enc := enc) (C := Tryz.checked) false (World.doorLaid Tryz.prog 400 os) #[.slice none 0 0] rfl (by kernel_rfl) (by kernel_rfl) (by kernel_rfl)
   (OpenSpec.preRow_of_cond 8 hx (by kernel_rfl) (fun k hk => by cases hk; kernel_rfl) (by kernel_rfl) (door_met os))) ?_
 intro W base args ds gs before hval hW _ hc _ hL _ _
 exact contract H enc W base args ds gs before hval hW hL (hc _ rfl)

theorem grown_fix {P : Program} {l : List TypeId} (h : P.grow l = l) : ∀ d, P.grown d l = l
 | 0 => rfl
 | d + 1 => by rw [Program.grown, h]; exact grown_fix h d
theorem grown_add (P : Program) : ∀ (a b : Nat) (l : List TypeId), P.grown (a + b) l = P.grown b (P.grown a l)
 | 0, b, l => by rw [Nat.zero_add]; rfl
 | a + 1, b, l => by rw [show a + 1 + b = (a + b) + 1 from by omega]; exact grown_add P a b (P.grow l)
theorem book_of {P : Program} {t : TypeId} {l : List TypeId} (k : Nat) (hk : (Nat.ble k P.types.size) = true) (h : P.grown k [t] = l) (hs : P.grow l = l) : P.book t = l := by
 obtain ⟨m, hm⟩ := Nat.exists_eq_add_of_le (Nat.le_of_ble_eq_true hk)
 rw [Program.book, hm, grown_add, h, grown_fix hs]
theorem bkN : Tryz.prog.book 42 = [42, 86, 9, 83, 84, 89, 96, 3, 91, 94, 92] := book_of 8 (by kernel_rfl) (by kernel_rfl) (by kernel_rfl)
theorem bkE : Tryz.prog.book 94 = [94, 9, 3, 92] := book_of 8 (by kernel_rfl) (by kernel_rfl) (by kernel_rfl)
theorem bkB : Tryz.prog.book 4 = [4] := book_of 0 (by kernel_rfl) (by kernel_rfl) (by kernel_rfl)
theorem readable : Tryz.f5.params.all (Tryz.prog.readableRec ·) = true := by
 rw [Tryz.params5]
 have h1 : Tryz.prog.readableRec 42 = true := by rw [Program.readableRec, bkN]; kernel_rfl
 simp only [Array.all_eq_true_iff_forall_mem]
 intro t ht
 simp only [List.mem_toArray, List.mem_cons, List.not_mem_nil, or_false] at ht
 subst ht
 exact h1
theorem ins : Tryz.f5.params.toList ++ (Rows.OpenSpec.upto Rows.treeTextsSpec).bare.plain.varTypes Tryz.prog = [42] := by kernel_rfl
theorem insOut : Tryz.f5.params.toList ++ (Rows.OpenSpec.upto Rows.treeTextsSpec).bare.plain.varTypes Tryz.prog ++ Tryz.f5.resultTypes.toList = [42, 4] := by kernel_rfl
theorem maps : [42].any (Tryz.prog.mapsRec ·) = false := by
 simp only [List.any_cons, List.any_nil, Program.mapsRec, bkN]; kernel_rfl
theorem ifaces : [42].any (Tryz.prog.ifacesRec ·) = false := by
 simp only [List.any_cons, List.any_nil, Program.ifacesRec, bkN]; kernel_rfl
theorem loops : [42].any (Tryz.prog.loopsFrom ·) = true := by
 refine List.any_eq_true.2 ⟨42, List.mem_cons_self, ?_⟩
 rw [Program.loopsFrom, bkN]
 refine List.any_eq_true.2 ⟨92, by decide, List.any_eq_true.2 ⟨94, ?_, ?_⟩⟩
 ·rw [show Tryz.prog.partsOf 92 = [94] from by kernel_rfl]; exact List.mem_cons_self
 ·rw [bkE]; rfl
theorem wideKeys : [42, 4].any (Tryz.prog.wideKeysFrom ·) = false := by
 simp only [List.any_cons, List.any_nil, Program.wideKeysFrom, bkN, bkB]; kernel_rfl
theorem veiled : [42, 4].any (Tryz.prog.veiledRec ·) = false := by
 simp only [List.any_cons, List.any_nil, Program.veiledRec, bkN, bkB]; kernel_rfl
set_option maxRecDepth 100000 in
theorem veiledFits : OpenClaim.veiledFits Rows.treeTextsUptoRow Tryz.prog Tryz.f5.params.toList [42, 4] = true := by
 have hv : Tryz.prog.veiledRec 42 = false ∧ Tryz.prog.veiledRec 4 = false := by
  have := veiled
  simp only [List.any_cons, List.any_nil, Bool.or_false, Bool.or_eq_false_iff] at this
  exact this
 have h0 : (Rows.treeTextsUptoRow.laid.filterMap fun x => (Tryz.prog.globalNamed x.1).bind fun g => (Tryz.prog.globals[g]?).map (·.type)).all (Tryz.prog.veiledOwn ·) = true := by kernel_rfl
 unfold OpenClaim.veiledFits
 rw [List.all_append, h0]
 simp only [List.all_cons, List.all_nil, Program.veiledOwn, hv.1, hv.2]
 rfl
set_option maxRecDepth 100000 in
theorem closed : joinedFacts Tryz.prog 5 Tryz.f5 (Rows.OpenSpec.upto Rows.treeTextsSpec).bare Rows.treeTextsUptoRow = true := by
 unfold joinedFacts
 rw [insOut]
 simp only [ins, maps, ifaces, loops, wideKeys, veiled, veiledFits, readable, Bool.and_true]
 kernel_rfl
theorem said : Rows.TreeTextsUptoSaid :=
 OpenClaim.holds_of_cond 5 Tryz.f5 rfl rfl rfl rfl rfl rfl rfl ⟨rfl, rfl, rfl, rfl, rfl⟩ rfl rfl rfl rfl rfl (by kernel_rfl) Tryz.func5 closed
  (of_decide_eq_true (by kernel_rfl)) (by unfold Func.isWrapper; rw [if_neg (of_decide_eq_false (by kernel_rfl))]; exact ⟨rfl, rfl⟩)
  (fun os started H enc _ F => by rw [OpenClaim.pre_eq_preRow]; exact lifted os started H enc F)

theorem plain (f : FuncId) (fn : Func) (hf : Tryz.pinned.checked.prog.funcNamed "lustrum/lustrumlaw1.TreeTexts" = some f) (hfn : Tryz.pinned.checked.prog.funcs[f]? = some fn) :
  true = Tryz.pinned.checked.prog.looks [] ∧ ∀ (j : Nat) t, fn.params[j]? = some t → Tryz.pinned.checked.prog.wantsStandIn t = false := by
 obtain rfl : f = 5 := Option.some.inj ((show Tryz.prog.funcNamed "lustrum/lustrumlaw1.TreeTexts" = some 5 by kernel_rfl).symm.trans hf) |>.symm
 obtain rfl : fn = Tryz.f5 := (Option.some.inj (Tryz.func5.symm.trans hfn)).symm
 refine ⟨by kernel_rfl, fun j t ht => ?_⟩
 rw [Tryz.params5] at ht
 have hm := Array.mem_of_getElem? ht
 simp only [List.mem_toArray, List.mem_cons, List.not_mem_nil, or_false] at hm
 subst hm
 exact (show Tryz.prog.wantsStandIn 42 = false by kernel_rfl)

theorem card : Rows.TreeTextsUptoCardSaid :=
 Claim7.holds_tied_plain_at .later [] _ _ _ _ said (fun _ h => by cases h) (by kernel_rfl) (fun _ h => by cases h) treeTextsUpto_row_tie rfl ⟨rfl, rfl⟩ (by kernel_rfl) rfl plain (by kernel_rfl)
end Go.Proofs.YtgbpccipdcajgaaGreatDoor.treeTexts

namespace Go.Proofs.YtgbpccipdcajgaaGreatDoor
theorem treeTextsUpto_card : Rows.TreeTextsUptoCardSaid := treeTexts.card
#print axioms treeTextsUpto_card
end Go.Proofs.YtgbpccipdcajgaaGreatDoor
