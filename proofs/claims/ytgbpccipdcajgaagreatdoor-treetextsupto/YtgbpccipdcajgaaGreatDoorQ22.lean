/-
  ONE TEXT: its tokens and its tree, by the relations of the document (mathematics alone).
-/
import Derived.Test.YtgbpccipdcajgaaGreatDoorQ17
import Derived.Test.YtgbpccipdcajgaaGreatDoorQ08
import Derived.Test.YtgbpccipdcajgaaGreatDoorQ18
import Derived.Test.YtgbpccipdcajgaaGreatDoorQ20
import Derived.Test.YtgbpccipdcajgaaGreatDoorQ21
import Derived.Laws.BytesArg
namespace Go.Proofs.YtgbpccipdcajgaaGreatDoor
open Go.RowKit
def cText : ByteArray := ⟨#[110, 111, 100, 101, 32, 97, 40, 41, 32, 114, 101, 116, 117, 114, 110, 115, 32, 40, 120, 58, 32, 98, 111, 111, 108, 41, 59, 10, 108, 101, 116, 10, 32, 32, 120, 32, 61, 32, 116, 114, 117, 101, 59, 10, 116, 101, 108, 10]⟩
theorem stand_at {s : ByteArray} {i j : Nat} (h : Skips s i j) (hj : j < s.size) (hb : blankI (byteI s j) = false) : Stands s i j := ⟨h, by omega, fun _ => hb⟩
theorem low_at {s t k : ByteArray} {j n : Nat} (h1 : j < s.size) (h2 : lowI (byteI s j) = true) (h3 : j + n ≤ s.size) (h4 : ∀ k, k < n → nameI (byteI s (j + k)) = true) (h5 : j + n < s.size → nameI (byteI s (j + n)) = false) (ht : s.extract j (j + n) = t) (hk : nameK t = k) : TokAt s j k t n := by
 have := TokAt.low (s := s) (j := j) n h1 h2 ⟨h3, h4, h5⟩
 rw [ht, hk] at this; exact this
theorem op_at {s t k r : ByteArray} {j n : Nat} (h1 : j < s.size) (h2 : lowI (byteI s j) = false) (h3 : digI (byteI s j) = false) (hr : s.extract j s.size = r) (hn : n = opN r) (ht : s.extract j (j + n) = t) (hk : opK t = k) : TokAt s j k t n := by
 have := TokAt.op (s := s) (j := j) n h1 h2 h3 (by rw [hr]; exact hn)
 rw [ht, hk] at this; exact this
def cToks : List Tk := [⟨kWord, ⟨#[110, 111, 100, 101]⟩, 0⟩, ⟨kName, ⟨#[97]⟩, 5⟩, ⟨kOp, ⟨#[40]⟩, 6⟩, ⟨kOp, ⟨#[41]⟩, 7⟩, ⟨kWord, ⟨#[114, 101, 116, 117, 114, 110, 115]⟩, 9⟩, ⟨kOp, ⟨#[40]⟩, 17⟩, ⟨kName, ⟨#[120]⟩, 18⟩, ⟨kOp, ⟨#[58]⟩, 19⟩, ⟨kWord, ⟨#[98, 111, 111, 108]⟩, 21⟩, ⟨kOp, ⟨#[41]⟩, 25⟩, ⟨kOp, ⟨#[59]⟩, 26⟩, ⟨kWord, ⟨#[108, 101, 116]⟩, 28⟩, ⟨kName, ⟨#[120]⟩, 34⟩, ⟨kOp, ⟨#[61]⟩, 36⟩, ⟨kWord, ⟨#[116, 114, 117, 101]⟩, 38⟩, ⟨kOp, ⟨#[59]⟩, 42⟩, ⟨kWord, ⟨#[116, 101, 108]⟩, 44⟩, ⟨kEnd, ⟨#[]⟩, 48⟩]
theorem cLex17 : Lexes cText 47 (cToks.drop 17) none := .fin 47 48 0 kEnd ⟨#[]⟩ ⟨.blank 47 48 (by decide) (by decide) (.refl 48), by decide, fun h => absurd h (by decide)⟩ (by decide) (.fin rfl) (by rw [kEnd_list]; rfl) (by rw [kEnd_list]; rfl)
theorem cLex16 : Lexes cText 43 (cToks.drop 16) none := .tok 43 44 3 kWord ⟨#[116, 101, 108]⟩ (cToks.drop 17) none (stand_at (.blank 43 44 (by decide) (by decide) (.refl 44)) (by decide) (by decide)) (by decide) (low_at (by decide) (by decide) (by decide) (by decide) (by decide) (by kernel_rfl) (by simp only [nameK, wordB, ByteArray.toList_eq]; decide)) (by rw [ByteArray.toList_eq]; rfl) (not_end (Or.inr (Or.inl rfl))) cLex17
theorem cLex15 : Lexes cText 42 (cToks.drop 15) none := .tok 42 42 1 kOp ⟨#[59]⟩ (cToks.drop 16) none (stand_at (.refl 42) (by decide) (by decide)) (by decide) (op_at (by decide) (by decide) (by decide) (r := ⟨#[59, 10, 116, 101, 108, 10]⟩) (by kernel_rfl) (by simp only [opN, twoB, oneB, ByteArray.toList_eq]; decide) (by kernel_rfl) (by simp only [opK, ByteArray.toList_eq]; rfl)) (by rw [ByteArray.toList_eq]; rfl) (not_end (Or.inr (Or.inr (Or.inr (Or.inr rfl))))) cLex16
theorem cLex14 : Lexes cText 37 (cToks.drop 14) none := .tok 37 38 4 kWord ⟨#[116, 114, 117, 101]⟩ (cToks.drop 15) none (stand_at (.blank 37 38 (by decide) (by decide) (.refl 38)) (by decide) (by decide)) (by decide) (low_at (by decide) (by decide) (by decide) (by decide) (by decide) (by kernel_rfl) (by simp only [nameK, wordB, ByteArray.toList_eq]; decide)) (by rw [ByteArray.toList_eq]; rfl) (not_end (Or.inr (Or.inl rfl))) cLex15
theorem cLex13 : Lexes cText 35 (cToks.drop 13) none := .tok 35 36 1 kOp ⟨#[61]⟩ (cToks.drop 14) none (stand_at (.blank 35 36 (by decide) (by decide) (.refl 36)) (by decide) (by decide)) (by decide) (op_at (by decide) (by decide) (by decide) (r := ⟨#[61, 32, 116, 114, 117, 101, 59, 10, 116, 101, 108, 10]⟩) (by kernel_rfl) (by simp only [opN, twoB, oneB, ByteArray.toList_eq]; decide) (by kernel_rfl) (by simp only [opK, ByteArray.toList_eq]; rfl)) (by rw [ByteArray.toList_eq]; rfl) (not_end (Or.inr (Or.inr (Or.inr (Or.inr rfl))))) cLex14
theorem cLex12 : Lexes cText 31 (cToks.drop 12) none := .tok 31 34 1 kName ⟨#[120]⟩ (cToks.drop 13) none (stand_at (.blank 31 34 (by decide) (by decide) (.blank 32 34 (by decide) (by decide) (.blank 33 34 (by decide) (by decide) (.refl 34)))) (by decide) (by decide)) (by decide) (low_at (by decide) (by decide) (by decide) (by decide) (by decide) (by kernel_rfl) (by simp only [nameK, wordB, ByteArray.toList_eq]; decide)) (by rw [ByteArray.toList_eq]; rfl) (not_end (Or.inr (Or.inr (Or.inl rfl)))) cLex13
theorem cLex11 : Lexes cText 27 (cToks.drop 11) none := .tok 27 28 3 kWord ⟨#[108, 101, 116]⟩ (cToks.drop 12) none (stand_at (.blank 27 28 (by decide) (by decide) (.refl 28)) (by decide) (by decide)) (by decide) (low_at (by decide) (by decide) (by decide) (by decide) (by decide) (by kernel_rfl) (by simp only [nameK, wordB, ByteArray.toList_eq]; decide)) (by rw [ByteArray.toList_eq]; rfl) (not_end (Or.inr (Or.inl rfl))) cLex12
theorem cLex10 : Lexes cText 26 (cToks.drop 10) none := .tok 26 26 1 kOp ⟨#[59]⟩ (cToks.drop 11) none (stand_at (.refl 26) (by decide) (by decide)) (by decide) (op_at (by decide) (by decide) (by decide) (r := ⟨#[59, 10, 108, 101, 116, 10, 32, 32, 120, 32, 61, 32, 116, 114, 117, 101, 59, 10, 116, 101, 108, 10]⟩) (by kernel_rfl) (by simp only [opN, twoB, oneB, ByteArray.toList_eq]; decide) (by kernel_rfl) (by simp only [opK, ByteArray.toList_eq]; rfl)) (by rw [ByteArray.toList_eq]; rfl) (not_end (Or.inr (Or.inr (Or.inr (Or.inr rfl))))) cLex11
theorem cLex9 : Lexes cText 25 (cToks.drop 9) none := .tok 25 25 1 kOp ⟨#[41]⟩ (cToks.drop 10) none (stand_at (.refl 25) (by decide) (by decide)) (by decide) (op_at (by decide) (by decide) (by decide) (r := ⟨#[41, 59, 10, 108, 101, 116, 10, 32, 32, 120, 32, 61, 32, 116, 114, 117, 101, 59, 10, 116, 101, 108, 10]⟩) (by kernel_rfl) (by simp only [opN, twoB, oneB, ByteArray.toList_eq]; decide) (by kernel_rfl) (by simp only [opK, ByteArray.toList_eq]; rfl)) (by rw [ByteArray.toList_eq]; rfl) (not_end (Or.inr (Or.inr (Or.inr (Or.inr rfl))))) cLex10
theorem cLex8 : Lexes cText 20 (cToks.drop 8) none := .tok 20 21 4 kWord ⟨#[98, 111, 111, 108]⟩ (cToks.drop 9) none (stand_at (.blank 20 21 (by decide) (by decide) (.refl 21)) (by decide) (by decide)) (by decide) (low_at (by decide) (by decide) (by decide) (by decide) (by decide) (by kernel_rfl) (by simp only [nameK, wordB, ByteArray.toList_eq]; decide)) (by rw [ByteArray.toList_eq]; rfl) (not_end (Or.inr (Or.inl rfl))) cLex9
theorem cLex7 : Lexes cText 19 (cToks.drop 7) none := .tok 19 19 1 kOp ⟨#[58]⟩ (cToks.drop 8) none (stand_at (.refl 19) (by decide) (by decide)) (by decide) (op_at (by decide) (by decide) (by decide) (r := ⟨#[58, 32, 98, 111, 111, 108, 41, 59, 10, 108, 101, 116, 10, 32, 32, 120, 32, 61, 32, 116, 114, 117, 101, 59, 10, 116, 101, 108, 10]⟩) (by kernel_rfl) (by simp only [opN, twoB, oneB, ByteArray.toList_eq]; decide) (by kernel_rfl) (by simp only [opK, ByteArray.toList_eq]; rfl)) (by rw [ByteArray.toList_eq]; rfl) (not_end (Or.inr (Or.inr (Or.inr (Or.inr rfl))))) cLex8
theorem cLex6 : Lexes cText 18 (cToks.drop 6) none := .tok 18 18 1 kName ⟨#[120]⟩ (cToks.drop 7) none (stand_at (.refl 18) (by decide) (by decide)) (by decide) (low_at (by decide) (by decide) (by decide) (by decide) (by decide) (by kernel_rfl) (by simp only [nameK, wordB, ByteArray.toList_eq]; decide)) (by rw [ByteArray.toList_eq]; rfl) (not_end (Or.inr (Or.inr (Or.inl rfl)))) cLex7
theorem cLex5 : Lexes cText 16 (cToks.drop 5) none := .tok 16 17 1 kOp ⟨#[40]⟩ (cToks.drop 6) none (stand_at (.blank 16 17 (by decide) (by decide) (.refl 17)) (by decide) (by decide)) (by decide) (op_at (by decide) (by decide) (by decide) (r := ⟨#[40, 120, 58, 32, 98, 111, 111, 108, 41, 59, 10, 108, 101, 116, 10, 32, 32, 120, 32, 61, 32, 116, 114, 117, 101, 59, 10, 116, 101, 108, 10]⟩) (by kernel_rfl) (by simp only [opN, twoB, oneB, ByteArray.toList_eq]; decide) (by kernel_rfl) (by simp only [opK, ByteArray.toList_eq]; rfl)) (by rw [ByteArray.toList_eq]; rfl) (not_end (Or.inr (Or.inr (Or.inr (Or.inr rfl))))) cLex6
theorem cLex4 : Lexes cText 8 (cToks.drop 4) none := .tok 8 9 7 kWord ⟨#[114, 101, 116, 117, 114, 110, 115]⟩ (cToks.drop 5) none (stand_at (.blank 8 9 (by decide) (by decide) (.refl 9)) (by decide) (by decide)) (by decide) (low_at (by decide) (by decide) (by decide) (by decide) (by decide) (by kernel_rfl) (by simp only [nameK, wordB, ByteArray.toList_eq]; decide)) (by rw [ByteArray.toList_eq]; rfl) (not_end (Or.inr (Or.inl rfl))) cLex5
theorem cLex3 : Lexes cText 7 (cToks.drop 3) none := .tok 7 7 1 kOp ⟨#[41]⟩ (cToks.drop 4) none (stand_at (.refl 7) (by decide) (by decide)) (by decide) (op_at (by decide) (by decide) (by decide) (r := ⟨#[41, 32, 114, 101, 116, 117, 114, 110, 115, 32, 40, 120, 58, 32, 98, 111, 111, 108, 41, 59, 10, 108, 101, 116, 10, 32, 32, 120, 32, 61, 32, 116, 114, 117, 101, 59, 10, 116, 101, 108, 10]⟩) (by kernel_rfl) (by simp only [opN, twoB, oneB, ByteArray.toList_eq]; decide) (by kernel_rfl) (by simp only [opK, ByteArray.toList_eq]; rfl)) (by rw [ByteArray.toList_eq]; rfl) (not_end (Or.inr (Or.inr (Or.inr (Or.inr rfl))))) cLex4
theorem cLex2 : Lexes cText 6 (cToks.drop 2) none := .tok 6 6 1 kOp ⟨#[40]⟩ (cToks.drop 3) none (stand_at (.refl 6) (by decide) (by decide)) (by decide) (op_at (by decide) (by decide) (by decide) (r := ⟨#[40, 41, 32, 114, 101, 116, 117, 114, 110, 115, 32, 40, 120, 58, 32, 98, 111, 111, 108, 41, 59, 10, 108, 101, 116, 10, 32, 32, 120, 32, 61, 32, 116, 114, 117, 101, 59, 10, 116, 101, 108, 10]⟩) (by kernel_rfl) (by simp only [opN, twoB, oneB, ByteArray.toList_eq]; decide) (by kernel_rfl) (by simp only [opK, ByteArray.toList_eq]; rfl)) (by rw [ByteArray.toList_eq]; rfl) (not_end (Or.inr (Or.inr (Or.inr (Or.inr rfl))))) cLex3
theorem cLex1 : Lexes cText 4 (cToks.drop 1) none := .tok 4 5 1 kName ⟨#[97]⟩ (cToks.drop 2) none (stand_at (.blank 4 5 (by decide) (by decide) (.refl 5)) (by decide) (by decide)) (by decide) (low_at (by decide) (by decide) (by decide) (by decide) (by decide) (by kernel_rfl) (by simp only [nameK, wordB, ByteArray.toList_eq]; decide)) (by rw [ByteArray.toList_eq]; rfl) (not_end (Or.inr (Or.inr (Or.inl rfl)))) cLex2
theorem cLex0 : Lexes cText 0 (cToks.drop 0) none := .tok 0 0 4 kWord ⟨#[110, 111, 100, 101]⟩ (cToks.drop 1) none (stand_at (.refl 0) (by decide) (by decide)) (by decide) (low_at (by decide) (by decide) (by decide) (by decide) (by decide) (by kernel_rfl) (by simp only [nameK, wordB, ByteArray.toList_eq]; decide)) (by rw [ByteArray.toList_eq]; rfl) (not_end (Or.inr (Or.inl rfl))) cLex1
theorem cLex : Lexes cText 0 cToks none := cLex0
theorem tx_data (l : List Tk) (i : Nat) (x : List UInt8) : tx l i x = ((tkx l i).data.toList == x) := by rw [tx, ByteArray.toList_eq]
theorem txs_data (l : List Tk) (i : Nat) (xs : List (List UInt8)) : txs l i xs = xs.any (fun x => (tkx l i).data.toList == x) := by simp only [txs, tx_data]
theorem isName_data (l : List Tk) (i : Nat) : isName l i = ((tkk l i).data.toList == [110, 97, 109, 101]) := by rw [isName, ByteArray.toList_eq]
theorem isEnd_data (l : List Tk) (i : Nat) : isEnd l i = ((tkk l i).data.toList == [101, 110, 100]) := by rw [isEnd, ByteArray.toList_eq]
theorem isInt_data (l : List Tk) (i : Nat) : isInt l i = ((tkk l i).data.toList == [105, 110, 116]) := by rw [isInt, ByteArray.toList_eq]
def cTrue : Ex := .mk ⟨#[116, 114, 117, 101]⟩ 0 b0 []
def cNode : Ex := .mk ⟨#[97]⟩ 0 b0 [lst [], lst [.mk ⟨#[120]⟩ 1 b0 []], lst [], lst [.mk sSet 0 b0 [lst [.mk ⟨#[120]⟩ 0 b0 []], cTrue]]]
set_option maxRecDepth 100000 in
theorem cTree : ∃ j, Parse cToks (.nodes []) 0 0 (.ok [cNode] j) := by
 refine ⟨17, ?_⟩
 have T : ∀ {i : Nat} {x : List UInt8} {b : Bool}, ((tkx cToks i).data.toList == x) = b → tx cToks i x = b := fun h => by rw [tx_data]; exact h
 have TS : ∀ {i : Nat} {x : List (List UInt8)} {b : Bool}, (x.any fun x => (tkx cToks i).data.toList == x) = b → txs cToks i x = b := fun h => by rw [txs_data]; exact h
 have Nm : ∀ {i : Nat} {b : Bool}, ((tkk cToks i).data.toList == [110, 97, 109, 101]) = b → isName cToks i = b := fun h => by rw [isName_data]; exact h
 have It : ∀ {i : Nat} {b : Bool}, ((tkk cToks i).data.toList == [105, 110, 116]) = b → isInt cToks i = b := fun h => by rw [isInt_data]; exact h
 have En : ∀ {i : Nat} {b : Bool}, ((tkk cToks i).data.toList == [101, 110, 100]) = b → isEnd cToks i = b := fun h => by rw [isEnd_data]; exact h
 have one6 : Parse cToks .one 6 0 (.ok [.mk ⟨#[120]⟩ 1 b0 []] 9) := by
  unfold Parse
  simp only [step]
  exact Run.nam (Nm rfl) (Run.exp (T rfl) (Run.ifT (T rfl) (.ret _)))
 have atom : Parse cToks .atom 14 0 (.ok [cTrue] 15) := Run.ifF (It rfl) (Run.ifT (TS rfl) (.ret _))
 have un : Parse cToks .un 14 0 (.ok [cTrue] 15) := Run.ifF (T rfl) (Run.ifF (T rfl) (Run.tail atom))
 have loop : ∀ v, Parse cToks (.loop v [cTrue]) 15 0 (.ok [cTrue] 15) := fun v => by cases v <;> exact Parse.loopStop _ (TS rfl)
 have prod : Parse cToks (.left .prod) 14 0 (.ok [cTrue] 15) := Parse.left .prod un (loop _)
 have sum : Parse cToks (.left .sum) 14 0 (.ok [cTrue] 15) := Parse.left .sum prod (loop _)
 have cmp : Parse cToks .cmp 14 0 (.ok [cTrue] 15) := Run.then sum (Run.ifF (TS rfl) Run.done)
 have nt : Parse cToks .not 14 0 (.ok [cTrue] 15) := Run.ifF (T rfl) (Run.tail cmp)
 have and : Parse cToks (.left .and) 14 0 (.ok [cTrue] 15) := Parse.left .and nt (loop _)
 have or : Parse cToks (.left .or) 14 0 (.ok [cTrue] 15) := Parse.left .or and (loop _)
 have term : Parse cToks .term 14 0 (.ok [cTrue] 15) := Run.ifF (T rfl) (Run.then or (Run.ifF (TS rfl) Run.done))
 have eq : Parse cToks .eq 12 0 (.ok [.mk sSet 0 b0 [lst [.mk ⟨#[120]⟩ 0 b0 []], cTrue]] 16) := Run.ifF (TS rfl) (Run.ifF (T rfl) (Run.nam (Nm rfl) (Run.exp (T rfl) (Run.then term (Run.exp (T rfl) (.ret _))))))
 have eqs : Parse cToks (.eqs []) 12 0 (.ok [.mk sSet 0 b0 [lst [.mk ⟨#[120]⟩ 0 b0 []], cTrue]] 16) := Run.ifF (T rfl) (Run.then eq (Run.tail (Run.ifT (T rfl) (.ret _))))
 have node : Parse cToks .node 0 0 (.ok [cNode] 17) := by
  have body : Run cToks (bodyA cToks ⟨#[97]⟩ [] 3 0) (.ok [cNode] 17) := Run.exp (T rfl) (Run.exp (T rfl) (Run.exp (T rfl) (Run.then one6 (Run.then (Run.ifF (T rfl) (.ret _)) (Run.exp (T rfl) (Run.exp (T rfl) (Run.ifF (T rfl) (Run.exp (T rfl) (Run.then eqs (Run.exp (T rfl) (.ret _)))))))))))
  unfold Parse
  simp only [step]
  exact Run.exp (T rfl) (Run.nam (Nm rfl) (Run.exp (T rfl) (Run.ifT (T rfl) body)))
 exact Run.ifF (En rfl) (Run.ifF (by rw [T (b := true) rfl]; rfl) (Run.then node (Run.tail (Run.ifT (En rfl) (.ret _)))))
end Go.Proofs.YtgbpccipdcajgaaGreatDoor
namespace Go.Proofs.YtgbpccipdcajgaaGreatDoor
open Go.RowKit
attribute [local go_sem ↓] Go.wp_at_zero Go.wp_at_succ
def ShapeAny (pS : Addr) (op : ByteArray) (n : Int) (s : ByteArray) (m : Nat) (w : World) (e : Ending) (w' : World) : Prop := Below w.heap.size w w' ∧ ((∃ (lv : Nat) (ps : List Nat) (so : Option Addr) (sc : Nat), e = .returned (.agg #[.int .i64 lv, .slice so ps.length sc]) ∧ PartsAt w' w.heap.size so sc ps ∧ formedB op.toList n s.toList m = true ∧ ((op.toList = tCallL ∧ lv = 8 ∧ ps = []) ∨ ∃ t ∈ shapeL, op.toList = t.1 ∧ t.2.1 = lv ∧ t.2.2 = ps ∧ ps.length = m)) ∨ (WThrew pS e ∧ formedB op.toList n s.toList m = false))
abbrev shObj (lv : Int) (v : Value) : Obj := .cells #[.int .i64 lv, v] 218
theorem PartsAt.keep {w w' : World} {base base' : Nat} {o : Option Addr} {c : Nat} {ps : List Nat} (h : PartsAt w base o c ps) (hb : base' ≤ base) (hs : Stays (From base) (From base') w w') : PartsAt w' base' o c ps := by
 rcases h with h | ⟨q, h1, h2, h3, h4⟩
 ·exact Or.inl h
 ·exact Or.inr ⟨q, by omega, h2, h3, ((hs q h1 (Array.getElem?_eq_some_iff.1 h4).1).2).trans h4⟩
set_option maxRecDepth 100000 in
set_option maxHeartbeats 1000000 in
theorem wshape_any (b : Nat) (pS : Addr) (op : ByteArray) (n : Int) (s : ByteArray) (o : Option Addr) (m c : Nat) (w : World) (hm : m ≤ maxLen) (hE : w.cell? ⟨0, 0, none⟩ = some (.iface 235 (.pointer (some pS)))) :
  Calls Tryz.prog 161 #[.pointer (some ⟨b, 0, none⟩), .agg #[.string op, .int .i64 n, .string s, .slice o m c]] w (ShapeAny pS op n s m w) := by
 have hbA : Below w.heap.size w ((w.alloc (teObj op n s (.slice o m c))).alloc (shObj 0 (.slice none 0 0))) := ((Below.refl _ _).alloc (Nat.le_refl _) _).alloc (by simp) _
 have HA : Hid _ := alloc_row (shObj 0 (.slice none 0 0)) (heap_alloc_new w (teObj op n s (.slice o m c)))
 have HB : Hid _ := two_new w (teObj op n s (.slice o m c)) (shObj 0 (.slice none 0 0))
 obtain ⟨fb, hfb⟩ : ∃ fb, fb = formedB op.toList n s.toList m := ⟨_, rfl⟩
 have HF : Hid (∀ w0, Calls Tryz.prog 170 #[.agg #[.string op, .int .i64 n, .string s, .slice o m c]] w0 fun e w' => Below w0.heap.size w0 w' ∧ e = .returned (.bool fb)) := fun w0 => hfb ▸ formed_any op n s o m c w0 hm
 cases fb with
 | false =>
  have HX : Hid (formedB op.toList n s.toList m = false) := hfb.symm
  clear hfb
  go_enter Tryz.func161, Tryz.ntmps161
  go_wp2_with fail
  refine (HF.out _).mono ?_
  rintro e w0 ⟨hb0, rfl⟩
  have hE0 := cell_keep hb0 (cell_keep hbA hE)
  go_wp2_with fail
  refine (wfail_any b pS _ hE0).mono ?_
  rintro e w3 ⟨ht, rfl⟩
  unfold WThrew at ht
  subst ht
  go_wp2
  exact ⟨rfl, hbA.trans (hb0.mono (by simp; omega)), Or.inr ⟨rfl, HX.out⟩⟩
 | true =>
  have HX : Hid (formedB op.toList n s.toList m = true) := hfb.symm
  have hof := formedB_of hfb.symm
  clear hfb
  by_cases hc : op.toList = tCallL
  ·have hc' : (op.toList == [99, 97, 108, 108]) = true := by rw [hc]; rfl
   have HC : Hid (op.toList = tCallL) := hc
   clear hc hof
   go_enter Tryz.func161, Tryz.ntmps161
   go_wp2_with fail
   refine (HF.out _).mono ?_
   rintro e w0 ⟨hb0, rfl⟩
   have HA0 : Hid _ := row_keep hb0 HA.out
   have HB0 : Hid _ := row_keep hb0 HB.out
   obtain ⟨x0, x1, x2, x3, _⟩ := blk4 HA0.out
   obtain ⟨b0, b1, bf⟩ := blk2 HB0.out
   have bf0 := bf 0
   have bf1 := bf 1
   have hl0 : w.heap.size < w0.heap.size := lt_of_cell x0
   have hl2 : w.heap.size + 1 < w0.heap.size := lt_of_cell b0
   clear bf
   go_wp2
   obtain ⟨y0, y1, _⟩ := blk2 (set_row (k := 1) (v := .slice none 0 0) (set_row (k := 0) (v := .int .i64 8) HB0.out))
   exact bodyPost_ret (v := .agg #[.int .i64 8, .slice none 0 0]) (by simp [results, Tryz.results161, go_sem, y0, y1]) rfl ⟨((hbA.trans (hb0.mono (by simp; omega))).setCell (by show w.heap.size ≤ w.heap.size + 1; omega) _).setCell (by show w.heap.size ≤ w.heap.size + 1; omega) _, Or.inl ⟨8, [], none, 0, rfl, Or.inl ⟨rfl, rfl, rfl⟩, HX.out, Or.inl ⟨HC.out, rfl, rfl⟩⟩⟩
  ·obtain ⟨t, ht, hop, rfl⟩ := hof.resolve_left hc
   have hc' : (op.toList == [99, 97, 108, 108]) = false := by simpa [tCallL] using hc
   have HOP : Hid (op.toList = t.1) := hop
   clear hop hc hof
   go_enter Tryz.func161, Tryz.ntmps161
   go_wp2_with fail
   refine (HF.out _).mono ?_
   rintro e w0 ⟨hb0, rfl⟩
   have HA0 : Hid _ := row_keep hb0 HA.out
   have HB0 : Hid _ := row_keep hb0 HB.out
   obtain ⟨x0, x1, x2, x3, _⟩ := blk4 HA0.out
   have hl0 : w.heap.size < w0.heap.size := lt_of_cell x0
   go_wp2_with fail
   refine (shapeOf_in op _ t ht HOP.out).mono ?_
   rintro e w1 ⟨hb1, so, sc, rfl, hrow⟩
   obtain ⟨a0, a1, a2, a3, _⟩ := blk4 (row_keep hb1 HA0.out)
   obtain ⟨b0, b1, bf⟩ := blk2 (row_keep hb1 HB0.out)
   have bf0 := bf 0
   have bf1 := bf 1
   have hl1 : w.heap.size < w1.heap.size := lt_of_cell a0
   have hl2 : w.heap.size + 1 < w1.heap.size := lt_of_cell b0
   have HRow : Hid _ := hrow
   have hpl := (by decide : ∀ t ∈ shapeL, t.2.2.length ≤ 3) t ht
   clear hrow bf
   go_wp2
   have hr := alloc_row (shObj t.2.1 (.slice so t.2.2.length sc)) (set_row (k := 1) (v := .slice so t.2.2.length sc) (set_row (k := 0) (v := .int .i64 t.2.1) (row_keep hb1 HB0.out)))
   obtain ⟨y0, y1, _⟩ := blk2 hr
   have hs0 := hb0.size
   simp only [World.size_alloc] at hs0
   have St : Stays (From w0.heap.size) (From w.heap.size) w1 (((w1.setCell ⟨w.heap.size + 1, 0, none⟩ (.int .i64 t.2.1)).setCell ⟨w.heap.size + 1, 1, none⟩ (.slice so t.2.2.length sc)).alloc (shObj t.2.1 (.slice so t.2.2.length sc))) := ((Stays.set (S' := From (w.heap.size + 1 + 1)) (p := ⟨w.heap.size + 1, 0, none⟩) _ (fun k hk => by unfold From at hk ⊢; exact ⟨by show k ≠ w.heap.size + 1; omega, by omega⟩)).trans (Stays.set (S' := From (w.heap.size + 1 + 1)) (p := ⟨w.heap.size + 1, 1, none⟩) _ (fun k hk => by unfold From at hk ⊢; exact ⟨by show k ≠ w.heap.size + 1; omega, hk⟩)) (by simp)).trans (Stays.alloc _ (fun k hk => by unfold From at hk ⊢; omega)) (by simp)
   exact bodyPost_ret (v := .agg #[.int .i64 t.2.1, .slice so t.2.2.length sc]) (by simp [results, Tryz.results161, go_sem, y0, y1]) rfl ⟨((((hbA.trans (hb0.mono (by simp; omega))).trans (hb1.mono (by omega))).setCell (by show w.heap.size ≤ w.heap.size + 1; omega) _).setCell (by show w.heap.size ≤ w.heap.size + 1; omega) _).alloc (by simp; omega) _, Or.inl ⟨t.2.1, t.2.2, so, sc, rfl, PartsAt.keep HRow.out (by omega) St, HX.out, Or.inr ⟨t, ht, HOP.out, rfl, rfl, rfl⟩⟩⟩
theorem intCells_at {ps : List Nat} {i : Nat} (hi : i < ps.length) : (intCells ps)[i]? = some (.int .i64 (ps[i] : Nat)) := by
 simp [intCells, hi]
theorem below_ex {B : Nat} {w w' : World} {l : List Ex} {xs : List Value} (h : ExIn w (fun k => k < B) l xs) (hb : Below B w w') : ExIn w' (fun k => k < B) l xs := h.keep (fun k hk _ => ⟨hk, hb.block k hk⟩)
set_option maxRecDepth 100000 in
set_option maxHeartbeats 1000000 in
theorem refFormed_out (op : ByteArray) (n : Int) (s : ByteArray) (o : Option Addr) (m c : Nat) (w : World) (h : ∀ t ∈ arL, op.toList ≠ t.1) :
  Calls Tryz.prog 88 #[.agg #[.string op, .int .i64 n, .string s, .slice o m c]] w fun e w' => e = .returned (.bool false) ∧ Below w.heap.size w w' := by
 have hbA : Below w.heap.size w (w.alloc (.cells #[.string op, .int .i64 n, .string s, .slice o m c] 94)) := (Below.refl _ _).alloc (Nat.le_refl _) _
 have HA : Hid (∀ w, Calls Tryz.prog 124 #[.string op] w fun e w' => e = .returned (.tuple #[.int .i64 0, .bool false]) ∧ w' = w) := fun w => arity_out op w h
 clear h
 go_enter Tryz.func88, Tryz.ntmps88
 go_wp2_with fail
 refine (HA.out _).mono ?_
 rintro e w1 ⟨rfl, rfl⟩
 go_wp2
 go_ret
 exact ⟨rfl, hbA⟩
theorem refB_call (n : Int) (s : List UInt8) (m : Nat) : refB [99, 97, 108, 108] n s m = formedB [99, 97, 108, 108] n s m := by
 have h1 : arL.find? (fun t => t.1 == [99, 97, 108, 108]) = some ([99, 97, 108, 108], -1, 9) := by decide
 simp only [refB, h1, formedB, tCallL, tIntL, tNameL]
 by_cases hn : n = 0
 ·subst hn; simp
 ·have e0 : (n == 0) = false := beq_eq_false_iff_ne.2 hn
  simp [e0]
theorem refB_in {t : List UInt8 × Nat × List Nat} (ht : t ∈ shapeL) (n : Int) (s : List UInt8) (m : Nat) : refB t.1 n s m = formedB t.1 n s m := by
 have hf0 : (arL.find? (fun u => u.1 == t.1)).map (fun u => (u.1, u.2.1)) = some (t.1, (t.2.2.length : Int)) := (by decide : ∀ t ∈ shapeL, (arL.find? (fun u => u.1 == t.1)).map (fun u => (u.1, u.2.1)) = some (t.1, (t.2.2.length : Int))) t ht
 obtain ⟨k, hfind⟩ : ∃ k, arL.find? (fun u => u.1 == t.1) = some (t.1, (t.2.2.length : Int), k) := by
  cases hu : arL.find? (fun u => u.1 == t.1) with
  | none => rw [hu] at hf0; cases hf0
  | some u =>
   rw [hu] at hf0
   simp only [Option.map_some, Option.some.injEq, Prod.mk.injEq] at hf0
   exact ⟨u.2.2, by rw [← hf0.1, ← hf0.2]⟩
 have hc : t.1 ≠ tCallL := (by decide : ∀ t ∈ shapeL, t.1 ≠ tCallL) t ht
 by_cases hm : m = t.2.2.length
 ·subst hm
  rw [formedB_in ht rfl]
  simp only [refB, hfind]
  by_cases hi : t.1 = tIntL
  ·have hn0 : t.1 ≠ tNameL := by rw [hi]; decide
   simp only [hi, tIntL, tNameL, tCallL] at *
   cases s with
   | nil => by_cases h0 : n < 0 <;> by_cases h1 : 127 < n <;> simp [h0, h1] <;> omega
   | cons a b => simp
  ·by_cases hn : t.1 = tNameL
   ·simp only [hn, tIntL, tNameL, tCallL] at *
    by_cases h0 : n = 0
    ·subst h0; simp
    ·have e0 : (n == 0) = false := beq_eq_false_iff_ne.2 h0
     simp [e0]
   ·have e1 : (t.1 == [105, 110, 116]) = false := beq_eq_false_iff_ne.2 hi
    have e2 : (t.1 == [110, 97, 109, 101]) = false := beq_eq_false_iff_ne.2 hn
    have e3 : (t.1 == [99, 97, 108, 108]) = false := beq_eq_false_iff_ne.2 hc
    simp only [tIntL, tNameL, tCallL, e1, e2, e3]
    by_cases h0 : n = 0
    ·subst h0
     cases s <;> simp
    ·have e0 : (n == 0) = false := beq_eq_false_iff_ne.2 h0
     simp [e0]
 ·rw [formedB_not ht rfl hc hm]
  simp only [refB, hfind]
  have : ¬ ((t.2.2.length : Int) = (m : Int)) := by omega
  simp [this]
theorem refB_formed (op : List UInt8) (n : Int) (s : List UInt8) (m : Nat) : refB op n s m = formedB op n s m := by
 by_cases hc : op = tCallL
 ·subst hc; exact refB_call n s m
 ·by_cases hs : ∃ t ∈ shapeL, op = t.1
  ·obtain ⟨t, ht, rfl⟩ := hs
   exact refB_in ht n s m
  ·rw [formedB_out hc hs]
   have : arL.find? (fun t => t.1 == op) = none := by
    rw [List.find?_eq_none]
    intro u hu hub
    have hu' : u.1 = op := by simpa using hub
    rcases (by decide : ∀ u ∈ arL, u.1 = tCallL ∨ ∃ t ∈ shapeL, u.1 = t.1) u hu with h | ⟨t, ht, h⟩
    ·exact hc (hu'.symm.trans h)
    ·exact hs ⟨t, ht, hu'.symm.trans h⟩
   simp only [refB, this]
theorem refFormed_any (op : ByteArray) (n : Int) (s : ByteArray) (o : Option Addr) (m c : Nat) (w : World) :
  Calls Tryz.prog 88 #[.agg #[.string op, .int .i64 n, .string s, .slice o m c]] w fun e w' => e = .returned (.bool (formedB op.toList n s.toList m)) ∧ Below w.heap.size w w' := by
 rw [← refB_formed]
 by_cases h : ∃ t ∈ arL, op.toList = t.1
 ·obtain ⟨t, ht, ho⟩ := h
  have hf : arL.find? (fun u => u.1 == op.toList) = some t := by
   rw [ho]
   exact (by decide : ∀ t ∈ arL, arL.find? (fun u => u.1 == t.1) = some t) t ht
  have := refFormed_in op n s o m c w t ht ho
  simp only [refB, hf]
  exact this
 ·have hn : arL.find? (fun u => u.1 == op.toList) = none := by
   rw [List.find?_eq_none]
   intro u hu hub
   exact h ⟨u, hu, (by simpa using hub : u.1 = op.toList).symm⟩
  have := refFormed_out op n s o m c w fun t ht ho => h ⟨t, ht, ho⟩
  simp only [refB, hn]
  exact this
abbrev rwObj (n : Int) (bad free : Bool) : Obj := .cells #[.int .i64 n, .bool bad, .bool free] 123 (0, 0)
set_option maxRecDepth 100000 in
set_option maxHeartbeats 1000000 in
theorem down_any (b : Nat) (n : Int) (bad : Bool) (d : Nat) (hd : d ≤ 20) (w : World) (h : w.heap[b]? = some (rwObj n bad false)) :
  Calls Tryz.prog 90 #[.pointer (some ⟨b, 0, none⟩), .int .i64 d] w fun e w' => e = .returned (.int .i64 (d + 1 : Nat)) ∧ w' = (if d < 20 then w else w.setCell ⟨b, 1, none⟩ (.bool true)) := by
 have c2 : w.cell? ⟨b, 2, none⟩ = some (.bool false) := by simp [World.cell?, h]
 have HM : Hid (∀ ok, Calls Tryz.prog 52 #[.pointer (some ⟨b, 0, none⟩), .bool ok] w fun e w' => e = .returned (.tuple #[]) ∧ w' = (if ok then w else w.setCell ⟨b, 1, none⟩ (.bool true))) := fun ok => must_any b n bad false ok w h
 clear h
 by_cases h20 : d < 20
 ·have h20' : (d : Int) < 20 := by omega
  rw [if_pos h20]
  go_enter Tryz.func90, Tryz.ntmps90
  go_wp2_with fail
  refine (HM.out _).mono ?_
  rintro e w1 ⟨rfl, hw⟩
  simp only [if_true] at hw
  subst hw
  go_wp2
  go_ret
  exact ⟨by push_cast; rfl, rfl⟩
 ·obtain rfl : d = 20 := by omega
  rw [if_neg h20]
  go_enter Tryz.func90, Tryz.ntmps90
  go_wp2_with fail
  refine (HM.out _).mono ?_
  rintro e w1 ⟨rfl, hw⟩
  simp only [Bool.false_eq_true, if_false] at hw
  subst hw
  go_wp2
  go_ret
  exact ⟨rfl, rfl⟩
set_option maxRecDepth 100000 in
set_option maxHeartbeats 1000000 in
theorem byte_any (k : Int) (h0 : 0 ≤ k) (h1 : k < 256) (w : World) : Calls Tryz.prog 148 #[.int .i64 k] w fun e w' => e = .returned (.string ⟨#[UInt8.ofNat k.toNat]⟩) ∧ Below w.heap.size w w' := by
 have hb : Below w.heap.size w (w.alloc (.cells #[.int .u8 k] 5)) := (Below.refl _ _).alloc (Nat.le_refl _) _
 have hcv : (convert 112 9 (.slice (some ⟨w.heap.size, 0, none⟩) 1 1)).run Tryz.prog (w.alloc (.cells #[.int .u8 k] 5)) = .ok (.string (strOfNums [k])) (w.alloc (.cells #[.int .u8 k] 5)) := by
  refine run_convert_bytes_arg _ 112 5 Tryz.underlying112 Tryz.underlying5 w.heap.size 0 1 1 [k] rfl (fun i hi => ?_) 9 Tryz.underlying9
  obtain rfl : i = 0 := by omega
  simp
 have hst : strOfNums [k] = ⟨#[UInt8.ofNat k.toNat]⟩ := by simp [strOfNums]
 rw [hst] at hcv
 go_enter Tryz.func148, Tryz.ntmps148
 go_wp2
 go_ret
 exact ⟨rfl, hb⟩
def decB : Nat → Nat → List UInt8
 | 0, _ => []
 | f + 1, n => if n < 10 then [UInt8.ofNat (48 + n)] else decB f (n / 10) ++ [UInt8.ofNat (48 + n % 10)]
theorem decB_len : ∀ (f n : Nat), (decB f n).length ≤ f
 | 0, _ => Nat.le_refl _
 | f + 1, n => by
  rw [decB]
  split
  ·simp
  ·have := decB_len f (n / 10)
   rw [List.length_append]
   simp only [List.length_cons, List.length_nil]
   omega
theorem app_one (x : List UInt8) (c : UInt8) : (⟨x.toArray⟩ : ByteArray) ++ (⟨#[c]⟩ : ByteArray) = ⟨(x ++ [c]).toArray⟩ := by
 apply ByteArray.ext
 rw [ByteArray.data_append]
 simp
set_option maxRecDepth 100000 in
set_option maxHeartbeats 1000000 in
theorem below_any : ∀ (f n : Nat) (w : World), f ≤ 3 → n < 10 ^ f → 0 < f → Calls Tryz.prog 125 #[.int .i64 (-(n : Int))] w fun e w' => e = .returned (.string ⟨(decB f n).toArray⟩) ∧ Below w.heap.size w w'
 | 0, n, w, _, _, h => absurd h (by omega)
 | f + 1, n, w, hf, h, _ => by
  by_cases h10 : n < 10
  ·have HB : Hid (∀ w, Calls Tryz.prog 148 #[.int .i64 (48 + (n : Int))] w fun e w' => e = .returned (.string ⟨#[UInt8.ofNat (48 + (n : Int)).toNat]⟩) ∧ Below w.heap.size w w') := fun w => byte_any (48 + (n : Int)) (by omega) (by omega) w
   have h1 : (-10 : Int) < -(n : Int) := by omega
   rw [decB, if_pos h10]
   go_enter Tryz.func125, Tryz.ntmps125
   go_wp2_with fail
   refine (HB.out _).mono ?_
   rintro e w1 ⟨rfl, hb⟩
   have e9 : (48 + (n : Int)).toNat = 48 + n := by omega
   rw [e9]
   go_wp2
   go_ret
   exact ⟨by simp, hb⟩
  ·have hf0 : 0 < f := by
    rcases Nat.eq_zero_or_pos f with h0 | h0
    ·subst h0; simp at h; omega
    ·exact h0
   have HB : Hid (∀ (k : Int) (w : World), 0 ≤ k → k < 256 → Calls Tryz.prog 148 #[.int .i64 k] w fun e w' => e = .returned (.string ⟨#[UInt8.ofNat k.toNat]⟩) ∧ Below w.heap.size w w') := fun k w h0 h1 => byte_any k h0 h1 w
   have ed : (n : Int) / 10 = ((n / 10 : Nat) : Int) := by omega
   have HR : Hid (∀ w, Calls Tryz.prog 125 #[.int .i64 (-((n : Int) / 10))] w fun e w' => e = .returned (.string ⟨(decB f (n / 10)).toArray⟩) ∧ Below w.heap.size w w') := fun w => ed ▸ below_any f (n / 10) w (by omega) (by rw [Nat.pow_succ] at h; omega) hf0
   have hn : n < 1000 := by
    have : 10 ^ (f + 1) ≤ 10 ^ 3 := Nat.pow_le_pow_right (by omega) hf
    omega
   have h1 : ¬ (-10 : Int) < -(n : Int) := by omega
   have hl := decB_len f (n / 10)
   have hz : (⟨(decB f (n / 10)).toArray⟩ : ByteArray).size ≤ 3 := by show (decB f (n / 10)).toArray.size ≤ 3; simp; omega
   have HX : Hid ((⟨(decB f (n / 10)).toArray⟩ : ByteArray) ++ (⟨#[UInt8.ofNat (48 + n % 10)]⟩ : ByteArray) = ⟨(decB (f + 1) n).toArray⟩) := (by rw [app_one, decB, if_neg h10] : (⟨(decB f (n / 10)).toArray⟩ : ByteArray) ++ (⟨#[UInt8.ofNat (48 + n % 10)]⟩ : ByteArray) = ⟨(decB (f + 1) n).toArray⟩)
   rw [← HX.out]
   generalize (⟨(decB f (n / 10)).toArray⟩ : ByteArray) = pre at HR hz ⊢
   have e2 : (-(n : Int)).tdiv 10 = -((n : Int) / 10) := by rw [Int.neg_tdiv, Int.tdiv_eq_ediv_of_nonneg (by omega)]
   have e3 : (-(n : Int)).tmod 10 = -((n : Int) % 10) := by rw [Int.neg_tmod, Int.tmod_eq_emod_of_nonneg (by omega)]
   clear ed hl HX
   go_enter Tryz.func125, Tryz.ntmps125
   go_wp2_with fail
   refine (HR.out _).mono ?_
   rintro e w1 ⟨rfl, hb1⟩
   go_wp2_with fail
   refine (HB.out _ _ ?_ ?_).mono ?_
   ·omega
   ·omega
   ·rintro e w2 ⟨rfl, hb2⟩
    have ez : ¬ 9223372036854775807 < pre.size + 1 := by omega
    have hb := hb1.trans (hb2.mono hb1.size)
    have e9 : (48 + (n : Int) % 10).toNat = 48 + n % 10 := by omega
    rw [e9]
    go_wp2
    go_ret
    exact ⟨by simp, hb⟩
theorem decB_itoa : ∀ n, n < 128 → decB 3 n = Lib.itoa (n : Int) := by decide +kernel
set_option maxRecDepth 100000 in
theorem decimal_any (n : Int) (h0 : 0 ≤ n) (h1 : n ≤ 127) (w : World) : Calls Tryz.prog 91 #[.int .i64 n] w fun e w' => e = .returned (.string ⟨(Lib.itoa n).toArray⟩) ∧ Below w.heap.size w w' := by
 obtain ⟨m, rfl⟩ := Int.eq_ofNat_of_zero_le h0
 have HB : Hid (∀ w, Calls Tryz.prog 125 #[.int .i64 (-(m : Int))] w fun e w' => e = .returned (.string ⟨(Lib.itoa (m : Int)).toArray⟩) ∧ Below w.heap.size w w') := fun w => decB_itoa m (by omega) ▸ below_any 3 m w (by omega) (by omega) (by omega)
 generalize (⟨(Lib.itoa (m : Int)).toArray⟩ : ByteArray) = t at HB ⊢
 have h2 : ¬ (m : Int) < 0 := by omega
 go_enter Tryz.func91, Tryz.ntmps91
 go_wp2_with fail
 refine (HB.out _).mono ?_
 rintro e w1 ⟨rfl, hb⟩
 go_wp2
 go_ret
 exact ⟨by simp, hb⟩
end Go.Proofs.YtgbpccipdcajgaaGreatDoor
