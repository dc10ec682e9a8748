/-
  ONE TEXT: its tokens and its tree, by the relations of the document (mathematics alone).
-/
import Derived.Test.YtglkpgcmlbhkpabGreatDoorQ21
import Derived.Test.YtglkpgcmlbhkpabGreatDoorQ08
import Derived.Test.YtglkpgcmlbhkpabGreatDoorQ20
import Derived.Test.YtglkpgcmlbhkpabGreatDoorQ18
namespace Go.Proofs.YtglkpgcmlbhkpabGreatDoor
open Go.RowKit

def cText : ByteArray := ⟨#[110, 111, 100, 101, 32, 97, 40, 41, 32, 114, 101, 116, 117, 114, 110, 115, 32, 40, 120, 58, 32, 98, 111, 111, 108, 41, 59, 10, 108, 101, 116, 10, 32, 32, 120, 32, 61, 32, 116, 114, 117, 101, 59, 10, 116, 101, 108, 10]⟩
theorem stand_at {s : ByteArray} {i j : Nat} (h : Skips s i j) (hj : j < s.size) (hb : blankI (byteI s j) = false) : Stands s i j := ⟨h, by omega, fun _ => hb⟩
theorem low_at {s t k : ByteArray} {j n : Nat} (h1 : j < s.size) (h2 : lowI (byteI s j) = true) (h3 : j + n ≤ s.size) (h4 : ∀ k, k < n → nameI (byteI s (j + k)) = true) (h5 : j + n < s.size → nameI (byteI s (j + n)) = false) (ht : s.extract j (j + n) = t) (hk : nameK t = k) : TokAt s j k t n := by
  have := TokAt.low (s := s) (j := j) n h1 h2 ⟨h3, h4, h5⟩
  rw [ht, hk] at this; exact this
theorem op_at {s t k r : ByteArray} {j n : Nat} (h1 : j < s.size) (h2 : lowI (byteI s j) = false) (h3 : digI (byteI s j) = false) (hr : s.extract j s.size = r) (hn : n = opN r) (ht : s.extract j (j + n) = t) (hk : opK t = k) : TokAt s j k t n := by
  have := TokAt.op (s := s) (j := j) n h1 h2 h3 (by rw [hr]; exact hn)
  rw [ht, hk] at this; exact this
def cToks : List Tk := [⟨kWord, ⟨#[110, 111, 100, 101]⟩, 0⟩, ⟨kName, ⟨#[97]⟩, 5⟩, ⟨kOp, ⟨#[40]⟩, 6⟩, ⟨kOp, ⟨#[41]⟩, 7⟩, ⟨kWord, ⟨#[114, 101, 116, 117, 114, 110, 115]⟩, 9⟩, ⟨kOp, ⟨#[40]⟩, 17⟩, ⟨kName, ⟨#[120]⟩, 18⟩, ⟨kOp, ⟨#[58]⟩, 19⟩, ⟨kWord, ⟨#[98, 111, 111, 108]⟩, 21⟩, ⟨kOp, ⟨#[41]⟩, 25⟩, ⟨kOp, ⟨#[59]⟩, 26⟩, ⟨kWord, ⟨#[108, 101, 116]⟩, 28⟩, ⟨kName, ⟨#[120]⟩, 34⟩, ⟨kOp, ⟨#[61]⟩, 36⟩, ⟨kWord, ⟨#[116, 114, 117, 101]⟩, 38⟩, ⟨kOp, ⟨#[59]⟩, 42⟩, ⟨kWord, ⟨#[116, 101, 108]⟩, 44⟩, ⟨kEnd, ⟨#[]⟩, 48⟩]
def cToksFrom (n : Nat) : List Tk := cToks.drop n
theorem cLex17 : Lexes cText 47 (cToks.drop 17) none := .fin 47 48 0 kEnd ⟨#[]⟩ ⟨.blank 47 48 (by decide) (by decide) (.refl 48), by decide, fun h => absurd h (by decide)⟩ (by decide) (.fin rfl) (by rw [kEnd_list]; rfl) (by rw [kEnd_list]; rfl)
theorem cLex16 : Lexes cText 43 (cToks.drop 16) none := .tok 43 44 3 kWord ⟨#[116, 101, 108]⟩ (cToks.drop 17) none (stand_at (.blank 43 44 (by decide) (by decide) (.refl 44)) (by decide) (by decide)) (by decide) (low_at (by decide) (by decide) (by decide) (by decide) (by decide) (by kernel_rfl) (by simp only [nameK, wordB, ByteArray.toList_eq]; decide)) (by rw [ByteArray.toList_eq]; rfl) (not_end (Or.inr (Or.inl rfl))) cLex17
theorem cLex15 : Lexes cText 42 (cToks.drop 15) none := .tok 42 42 1 kOp ⟨#[59]⟩ (cToks.drop 16) none (stand_at (.refl 42) (by decide) (by decide)) (by decide) (op_at (by decide) (by decide) (by decide) (r := ⟨#[59, 10, 116, 101, 108, 10]⟩) (by kernel_rfl) (by simp only [opN, twoB, oneB, ByteArray.toList_eq]; decide) (by kernel_rfl) (by simp only [opK, ByteArray.toList_eq]; rfl)) (by rw [ByteArray.toList_eq]; rfl) (not_end (Or.inr (Or.inr (Or.inr (Or.inr rfl))))) cLex16
theorem cLex14 : Lexes cText 37 (cToks.drop 14) none := .tok 37 38 4 kWord ⟨#[116, 114, 117, 101]⟩ (cToks.drop 15) none (stand_at (.blank 37 38 (by decide) (by decide) (.refl 38)) (by decide) (by decide)) (by decide) (low_at (by decide) (by decide) (by decide) (by decide) (by decide) (by kernel_rfl) (by simp only [nameK, wordB, ByteArray.toList_eq]; decide)) (by rw [ByteArray.toList_eq]; rfl) (not_end (Or.inr (Or.inl rfl))) cLex15
theorem cLex13 : Lexes cText 35 (cToks.drop 13) none := .tok 35 36 1 kOp ⟨#[61]⟩ (cToks.drop 14) none (stand_at (.blank 35 36 (by decide) (by decide) (.refl 36)) (by decide) (by decide)) (by decide) (op_at (by decide) (by decide) (by decide) (r := ⟨#[61, 32, 116, 114, 117, 101, 59, 10, 116, 101, 108, 10]⟩) (by kernel_rfl) (by simp only [opN, twoB, oneB, ByteArray.toList_eq]; decide) (by kernel_rfl) (by simp only [opK, ByteArray.toList_eq]; rfl)) (by rw [ByteArray.toList_eq]; rfl) (not_end (Or.inr (Or.inr (Or.inr (Or.inr rfl))))) cLex14
theorem cLex12 : Lexes cText 31 (cToks.drop 12) none := .tok 31 34 1 kName ⟨#[120]⟩ (cToks.drop 13) none (stand_at (.blank 31 34 (by decide) (by decide) (.blank 32 34 (by decide) (by decide) (.blank 33 34 (by decide) (by decide) (.refl 34)))) (by decide) (by decide)) (by decide) (low_at (by decide) (by decide) (by decide) (by decide) (by decide) (by kernel_rfl) (by simp only [nameK, wordB, ByteArray.toList_eq]; decide)) (by rw [ByteArray.toList_eq]; rfl) (not_end (Or.inr (Or.inr (Or.inl rfl)))) cLex13
theorem cLex11 : Lexes cText 27 (cToks.drop 11) none := .tok 27 28 3 kWord ⟨#[108, 101, 116]⟩ (cToks.drop 12) none (stand_at (.blank 27 28 (by decide) (by decide) (.refl 28)) (by decide) (by decide)) (by decide) (low_at (by decide) (by decide) (by decide) (by decide) (by decide) (by kernel_rfl) (by simp only [nameK, wordB, ByteArray.toList_eq]; decide)) (by rw [ByteArray.toList_eq]; rfl) (not_end (Or.inr (Or.inl rfl))) cLex12
theorem cLex10 : Lexes cText 26 (cToks.drop 10) none := .tok 26 26 1 kOp ⟨#[59]⟩ (cToks.drop 11) none (stand_at (.refl 26) (by decide) (by decide)) (by decide) (op_at (by decide) (by decide) (by decide) (r := ⟨#[59, 10, 108, 101, 116, 10, 32, 32, 120, 32, 61, 32, 116, 114, 117, 101, 59, 10, 116, 101, 108, 10]⟩) (by kernel_rfl) (by simp only [opN, twoB, oneB, ByteArray.toList_eq]; decide) (by kernel_rfl) (by simp only [opK, ByteArray.toList_eq]; rfl)) (by rw [ByteArray.toList_eq]; rfl) (not_end (Or.inr (Or.inr (Or.inr (Or.inr rfl))))) cLex11
theorem cLex9 : Lexes cText 25 (cToks.drop 9) none := .tok 25 25 1 kOp ⟨#[41]⟩ (cToks.drop 10) none (stand_at (.refl 25) (by decide) (by decide)) (by decide) (op_at (by decide) (by decide) (by decide) (r := ⟨#[41, 59, 10, 108, 101, 116, 10, 32, 32, 120, 32, 61, 32, 116, 114, 117, 101, 59, 10, 116, 101, 108, 10]⟩) (by kernel_rfl) (by simp only [opN, twoB, oneB, ByteArray.toList_eq]; decide) (by kernel_rfl) (by simp only [opK, ByteArray.toList_eq]; rfl)) (by rw [ByteArray.toList_eq]; rfl) (not_end (Or.inr (Or.inr (Or.inr (Or.inr rfl))))) cLex10
theorem cLex8 : Lexes cText 20 (cToks.drop 8) none := .tok 20 21 4 kWord ⟨#[98, 111, 111, 108]⟩ (cToks.drop 9) none (stand_at (.blank 20 21 (by decide) (by decide) (.refl 21)) (by decide) (by decide)) (by decide) (low_at (by decide) (by decide) (by decide) (by decide) (by decide) (by kernel_rfl) (by simp only [nameK, wordB, ByteArray.toList_eq]; decide)) (by rw [ByteArray.toList_eq]; rfl) (not_end (Or.inr (Or.inl rfl))) cLex9
theorem cLex7 : Lexes cText 19 (cToks.drop 7) none := .tok 19 19 1 kOp ⟨#[58]⟩ (cToks.drop 8) none (stand_at (.refl 19) (by decide) (by decide)) (by decide) (op_at (by decide) (by decide) (by decide) (r := ⟨#[58, 32, 98, 111, 111, 108, 41, 59, 10, 108, 101, 116, 10, 32, 32, 120, 32, 61, 32, 116, 114, 117, 101, 59, 10, 116, 101, 108, 10]⟩) (by kernel_rfl) (by simp only [opN, twoB, oneB, ByteArray.toList_eq]; decide) (by kernel_rfl) (by simp only [opK, ByteArray.toList_eq]; rfl)) (by rw [ByteArray.toList_eq]; rfl) (not_end (Or.inr (Or.inr (Or.inr (Or.inr rfl))))) cLex8
theorem cLex6 : Lexes cText 18 (cToks.drop 6) none := .tok 18 18 1 kName ⟨#[120]⟩ (cToks.drop 7) none (stand_at (.refl 18) (by decide) (by decide)) (by decide) (low_at (by decide) (by decide) (by decide) (by decide) (by decide) (by kernel_rfl) (by simp only [nameK, wordB, ByteArray.toList_eq]; decide)) (by rw [ByteArray.toList_eq]; rfl) (not_end (Or.inr (Or.inr (Or.inl rfl)))) cLex7
theorem cLex5 : Lexes cText 16 (cToks.drop 5) none := .tok 16 17 1 kOp ⟨#[40]⟩ (cToks.drop 6) none (stand_at (.blank 16 17 (by decide) (by decide) (.refl 17)) (by decide) (by decide)) (by decide) (op_at (by decide) (by decide) (by decide) (r := ⟨#[40, 120, 58, 32, 98, 111, 111, 108, 41, 59, 10, 108, 101, 116, 10, 32, 32, 120, 32, 61, 32, 116, 114, 117, 101, 59, 10, 116, 101, 108, 10]⟩) (by kernel_rfl) (by simp only [opN, twoB, oneB, ByteArray.toList_eq]; decide) (by kernel_rfl) (by simp only [opK, ByteArray.toList_eq]; rfl)) (by rw [ByteArray.toList_eq]; rfl) (not_end (Or.inr (Or.inr (Or.inr (Or.inr rfl))))) cLex6
theorem cLex4 : Lexes cText 8 (cToks.drop 4) none := .tok 8 9 7 kWord ⟨#[114, 101, 116, 117, 114, 110, 115]⟩ (cToks.drop 5) none (stand_at (.blank 8 9 (by decide) (by decide) (.refl 9)) (by decide) (by decide)) (by decide) (low_at (by decide) (by decide) (by decide) (by decide) (by decide) (by kernel_rfl) (by simp only [nameK, wordB, ByteArray.toList_eq]; decide)) (by rw [ByteArray.toList_eq]; rfl) (not_end (Or.inr (Or.inl rfl))) cLex5
theorem cLex3 : Lexes cText 7 (cToks.drop 3) none := .tok 7 7 1 kOp ⟨#[41]⟩ (cToks.drop 4) none (stand_at (.refl 7) (by decide) (by decide)) (by decide) (op_at (by decide) (by decide) (by decide) (r := ⟨#[41, 32, 114, 101, 116, 117, 114, 110, 115, 32, 40, 120, 58, 32, 98, 111, 111, 108, 41, 59, 10, 108, 101, 116, 10, 32, 32, 120, 32, 61, 32, 116, 114, 117, 101, 59, 10, 116, 101, 108, 10]⟩) (by kernel_rfl) (by simp only [opN, twoB, oneB, ByteArray.toList_eq]; decide) (by kernel_rfl) (by simp only [opK, ByteArray.toList_eq]; rfl)) (by rw [ByteArray.toList_eq]; rfl) (not_end (Or.inr (Or.inr (Or.inr (Or.inr rfl))))) cLex4
theorem cLex2 : Lexes cText 6 (cToks.drop 2) none := .tok 6 6 1 kOp ⟨#[40]⟩ (cToks.drop 3) none (stand_at (.refl 6) (by decide) (by decide)) (by decide) (op_at (by decide) (by decide) (by decide) (r := ⟨#[40, 41, 32, 114, 101, 116, 117, 114, 110, 115, 32, 40, 120, 58, 32, 98, 111, 111, 108, 41, 59, 10, 108, 101, 116, 10, 32, 32, 120, 32, 61, 32, 116, 114, 117, 101, 59, 10, 116, 101, 108, 10]⟩) (by kernel_rfl) (by simp only [opN, twoB, oneB, ByteArray.toList_eq]; decide) (by kernel_rfl) (by simp only [opK, ByteArray.toList_eq]; rfl)) (by rw [ByteArray.toList_eq]; rfl) (not_end (Or.inr (Or.inr (Or.inr (Or.inr rfl))))) cLex3
theorem cLex1 : Lexes cText 4 (cToks.drop 1) none := .tok 4 5 1 kName ⟨#[97]⟩ (cToks.drop 2) none (stand_at (.blank 4 5 (by decide) (by decide) (.refl 5)) (by decide) (by decide)) (by decide) (low_at (by decide) (by decide) (by decide) (by decide) (by decide) (by kernel_rfl) (by simp only [nameK, wordB, ByteArray.toList_eq]; decide)) (by rw [ByteArray.toList_eq]; rfl) (not_end (Or.inr (Or.inr (Or.inl rfl)))) cLex2
theorem cLex0 : Lexes cText 0 (cToks.drop 0) none := .tok 0 0 4 kWord ⟨#[110, 111, 100, 101]⟩ (cToks.drop 1) none (stand_at (.refl 0) (by decide) (by decide)) (by decide) (low_at (by decide) (by decide) (by decide) (by decide) (by decide) (by kernel_rfl) (by simp only [nameK, wordB, ByteArray.toList_eq]; decide)) (by rw [ByteArray.toList_eq]; rfl) (not_end (Or.inr (Or.inl rfl))) cLex1
theorem cLex : Lexes cText 0 cToks none := cLex0
theorem tx_data (l : List Tk) (i : Nat) (x : List UInt8) : tx l i x = ((tkx l i).data.toList == x) := by rw [tx, ByteArray.toList_eq]
theorem txs_data (l : List Tk) (i : Nat) (xs : List (List UInt8)) : txs l i xs = xs.any (fun x => (tkx l i).data.toList == x) := by simp only [txs, tx_data]
theorem isName_data (l : List Tk) (i : Nat) : isName l i = ((tkk l i).data.toList == [110, 97, 109, 101]) := by rw [isName, ByteArray.toList_eq]
theorem isEnd_data (l : List Tk) (i : Nat) : isEnd l i = ((tkk l i).data.toList == [101, 110, 100]) := by rw [isEnd, ByteArray.toList_eq]
theorem isInt_data (l : List Tk) (i : Nat) : isInt l i = ((tkk l i).data.toList == [105, 110, 116]) := by rw [isInt, ByteArray.toList_eq]
def cTrue : Ex := .mk ⟨#[116, 114, 117, 101]⟩ 0 b0 []
def cNode : Ex := .mk ⟨#[97]⟩ 0 b0 [lst [], lst [.mk ⟨#[120]⟩ 1 b0 []], lst [], lst [.mk sSet 0 b0 [lst [.mk ⟨#[120]⟩ 0 b0 []], cTrue]]]
theorem Run.then' {l : List Tk} {c : Cd} {i d : Nat} {k : List Ex → Nat → Act} {r : Res} (a : List Ex) (j : Nat) (h : Parse l c i d (.ok a j)) (p : Run l (k a j) r) : Run l (.call c i d k) r := Run.then h p
set_option maxRecDepth 100000 in
theorem cTree : ∃ j, Parse cToks (.nodes []) 0 0 (.ok [cNode] j) := by
  refine ⟨17, ?_⟩
  have T : ∀ {i : Nat} {x : List UInt8} {b : Bool}, ((tkx cToks i).data.toList == x) = b → tx cToks i x = b := fun h => by rw [tx_data]; exact h
  have TS : ∀ {i : Nat} {x : List (List UInt8)} {b : Bool}, (x.any fun x => (tkx cToks i).data.toList == x) = b → txs cToks i x = b := fun h => by rw [txs_data]; exact h
  have Nm : ∀ {i : Nat} {b : Bool}, ((tkk cToks i).data.toList == [110, 97, 109, 101]) = b → isName cToks i = b := fun h => by rw [isName_data]; exact h
  have It : ∀ {i : Nat} {b : Bool}, ((tkk cToks i).data.toList == [105, 110, 116]) = b → isInt cToks i = b := fun h => by rw [isInt_data]; exact h
  have En : ∀ {i : Nat} {b : Bool}, ((tkk cToks i).data.toList == [101, 110, 100]) = b → isEnd cToks i = b := fun h => by rw [isEnd_data]; exact h
  have one6 : Parse cToks .one 6 0 (.ok [.mk ⟨#[120]⟩ 1 b0 []] 9) := by
    unfold Parse
    simp only [step]
    exact Run.nam (Nm rfl) (Run.exp (T rfl) (Run.ifT (T rfl) (.ret _)))
  have atom : Parse cToks .atom 14 0 (.ok [cTrue] 15) := Run.ifF (It rfl) (Run.ifT (TS rfl) (.ret _))
  have un : Parse cToks .un 14 0 (.ok [cTrue] 15) := Run.ifF (T rfl) (Run.ifF (T rfl) (Run.tail atom))
  have loop : ∀ v, Parse cToks (.loop v [cTrue]) 15 0 (.ok [cTrue] 15) := fun v => by cases v <;> exact Parse.loopStop _ (TS rfl)
  have prod : Parse cToks (.left .prod) 14 0 (.ok [cTrue] 15) := Parse.left .prod un (loop _)
  have sum : Parse cToks (.left .sum) 14 0 (.ok [cTrue] 15) := Parse.left .sum prod (loop _)
  have cmp : Parse cToks .cmp 14 0 (.ok [cTrue] 15) := Run.then sum (Run.ifF (TS rfl) Run.done)
  have nt : Parse cToks .not 14 0 (.ok [cTrue] 15) := Run.ifF (T rfl) (Run.tail cmp)
  have and : Parse cToks (.left .and) 14 0 (.ok [cTrue] 15) := Parse.left .and nt (loop _)
  have or : Parse cToks (.left .or) 14 0 (.ok [cTrue] 15) := Parse.left .or and (loop _)
  have term : Parse cToks .term 14 0 (.ok [cTrue] 15) := Run.ifF (T rfl) (Run.then or (Run.ifF (TS rfl) Run.done))
  have eq : Parse cToks .eq 12 0 (.ok [.mk sSet 0 b0 [lst [.mk ⟨#[120]⟩ 0 b0 []], cTrue]] 16) := Run.ifF (TS rfl) (Run.ifF (T rfl) (Run.nam (Nm rfl) (Run.exp (T rfl) (Run.then term (Run.exp (T rfl) (.ret _))))))
  have eqs : Parse cToks (.eqs []) 12 0 (.ok [.mk sSet 0 b0 [lst [.mk ⟨#[120]⟩ 0 b0 []], cTrue]] 16) := Run.ifF (T rfl) (Run.then eq (Run.tail (Run.ifT (T rfl) (.ret _))))
  have node : Parse cToks .node 0 0 (.ok [cNode] 17) := by
    have body : Run cToks (bodyA cToks ⟨#[97]⟩ [] 3 0) (.ok [cNode] 17) := Run.exp (T rfl) (Run.exp (T rfl) (Run.exp (T rfl) (Run.then one6 (Run.then (Run.ifF (T rfl) (.ret _)) (Run.exp (T rfl) (Run.exp (T rfl) (Run.ifF (T rfl) (Run.exp (T rfl) (Run.then eqs (Run.exp (T rfl) (.ret _)))))))))))
    unfold Parse
    simp only [step]
    exact Run.exp (T rfl) (Run.nam (Nm rfl) (Run.exp (T rfl) (Run.ifT (T rfl) body)))
  exact Run.ifF (En rfl) (Run.ifF (by rw [T (b := true) rfl]; rfl) (Run.then node (Run.tail (Run.ifT (En rfl) (.ret _)))))
end Go.Proofs.YtglkpgcmlbhkpabGreatDoor

/-
  tree.Text ON ONE PROGRAM BY ITS CONTRACT.
-/
namespace Go.Proofs.YtglkpgcmlbhkpabGreatDoor
open Go.RowKit
attribute [local go_sem ↓] Go.wp_at_zero Go.wp_at_succ

theorem oneP_of {w : World} {S : Nat → Prop} {o : Option Addr} {c : Nat} {ys : List Value} (h1 : RowAt w S 5 (.slice o 1 c) 1 ys) (h2 : NdIn w S [cNode] ys) : ∃ (m mo : Nat) (io wo : Option Addr) (ic wc p f oc q g qc r ro rc : Nat) (o' : Option Addr) (c' : Nat), o = some ⟨m, mo, none⟩ ∧ OneP w w.heap.size m mo ⟨#[97]⟩ ⟨#[120]⟩ io wo ic wc p f oc q g qc r ro rc o' c' := by
  obtain ⟨name, ins, outs, owns, qs, o1, c1, o2, c2, o3, c3, o4, c4, zs, e, m0, m1, m2, m3, m4, r1, r2, r3, r4, r5⟩ := h2.at (i := 0) (by simp)
  simp only [List.getElem_cons_zero, cNode, lst, Ex.mk.injEq, List.cons.injEq, and_true, true_and] at e
  obtain ⟨rfl, rfl, rfl, rfl, rfl⟩ := e
  obtain ⟨m, mo, rfl, hm, gm⟩ := row_get h1 (by rw [h1.1]; decide)
  obtain ⟨p, f, rfl, hp, gp⟩ := row_get r2 (by rw [varCells_length]; decide)
  obtain ⟨q, g, rfl, hq, gq⟩ := row_get r4 (by rw [r4.1]; decide)
  obtain ⟨kd, ns, no, nc, op, n, s, es, eo, ec, us, e, x0, x1, x2, x3, x4, x5, t1, t2, t3⟩ := r5.at (i := 0) (by simp)
  simp only [List.getElem_cons_zero, cTrue, lst, Ex.mk.injEq, List.cons.injEq, and_true, true_and] at e
  obtain ⟨rfl, rfl, rfl, rfl, rfl, rfl⟩ := e
  obtain ⟨r, ro, rfl, hr, gr⟩ := row_get t1 (by rw [nameCells_length]; decide)
  exact ⟨m, mo, o1, o3, c1, c3, p, f, c2, q, g, c4, r, ro, nc, eo, ec, rfl, hm, hp, hq, hr, gm _ _ m0, gm _ _ m1, gm _ _ m2, gm _ _ m3, gm _ _ m4, gp 0 _ rfl, gp 1 _ rfl, gq _ _ x0, gq _ _ x1, gq _ _ x2, gq _ _ x3, gq _ _ x4, gq _ _ x5, gr 0 _ rfl⟩
theorem nodeT_text : nodeT ⟨#[97]⟩ ⟨#[120]⟩ = cText.data.toList := by decide
set_option maxRecDepth 100000 in
set_option maxHeartbeats 2000000 in
theorem text_one (S : Nat → Prop) (o : Option Addr) (c : Nat) (ys : List Value) (w : World) (h1 : RowAt w S 5 (.slice o 1 c) 1 ys) (h2 : NdIn w S [cNode] ys) (pT pB : Addr) (ev : Value) (hT : w.cell? ⟨1, 0, none⟩ = some (.iface 325 (.pointer (some pT)))) (hB : w.cell? ⟨2, 0, none⟩ = some (.iface 325 (.pointer (some pB)))) (hv : w.cell? ⟨11, 0, none⟩ = some ev) (hev : ev = .nilIface ∨ ∃ te pe, ev = .iface te pe) :
    Calls Tryz.prog 11 #[.slice o 1 c] w fun e w' => e = .returned (.tuple #[.string cText, .nilIface]) ∧ Below w.heap.size w w' := by
  have hmf : ∀ (fn : Fn) (first cap : Array Value) (w : World), (Instr.makeFunc fn first cap).run Tryz.prog w = .ok (.func fn first cap) w := fun _ _ _ _ => rfl
  have H1 : Hid (RowAt w S 5 (.slice o 1 c) 1 ys) := h1
  have H2 : Hid (NdIn w S [cNode] ys) := h2
  obtain ⟨m, mo, io, wo, ic, wc, p, f, oc, q, g, qc, r, ro, rc, o', c', rfl, O⟩ := oneP_of h1 h2
  have HO : Hid _ := O
  clear h1 h2 O
  have bz : Below w.heap.size w (((w.alloc (.cells #[.slice (some ⟨m, mo, none⟩) 1 c] 29)).alloc (.cells #[.pointer none, .slice none 0 0, .int .i64 6000, .int .i64 0] 91)).alloc (.cells #[.pointer (some ⟨w.heap.size + 1, 0, none⟩)] 85)) := (((Below.refl _ _).alloc (Nat.le_refl _) _).alloc (by simp) _).alloc (by simp; omega) _
  have HL : Hid ((((w.alloc (.cells #[.slice (some ⟨m, mo, none⟩) 1 c] 29)).alloc (.cells #[.pointer none, .slice none 0 0, .int .i64 6000, .int .i64 0] 91)).alloc (.cells #[.pointer (some ⟨w.heap.size + 1, 0, none⟩)] 85)).heap[w.heap.size]? = some (.cells #[.slice (some ⟨m, mo, none⟩) 1 c] 29)) := alloc_row _ (alloc_row _ (heap_alloc_new w _))
  have hwr : (((w.alloc (.cells #[.slice (some ⟨m, mo, none⟩) 1 c] 29)).alloc (.cells #[.pointer none, .slice none 0 0, .int .i64 6000, .int .i64 0] 91)).alloc (.cells #[.pointer (some ⟨w.heap.size + 1, 0, none⟩)] 85)).heap[w.heap.size + 1]? = some (.cells #[.pointer none, .slice none 0 0, .int .i64 6000, .int .i64 0] 91) := alloc_row _ (two_new w _ _)
  have HX : Hid ((((w.alloc (.cells #[.slice (some ⟨m, mo, none⟩) 1 c] 29)).alloc (.cells #[.pointer none, .slice none 0 0, .int .i64 6000, .int .i64 0] 91)).alloc (.cells #[.pointer (some ⟨w.heap.size + 1, 0, none⟩)] 85)).heap[w.heap.size + 1 + 1]? = some (.cells #[.pointer (some ⟨w.heap.size + 1, 0, none⟩)] 85)) := heap_alloc_new' (by simp) _
  have h0 : WT w.heap.size (w.heap.size + 1) [] 0 (((w.alloc (.cells #[.slice (some ⟨m, mo, none⟩) 1 c] 29)).alloc (.cells #[.pointer none, .slice none 0 0, .int .i64 6000, .int .i64 0] 91)).alloc (.cells #[.pointer (some ⟨w.heap.size + 1, 0, none⟩)] 85)) := Or.inl ⟨by omega, .slice none 0 0, hwr, World.ownsRow_nil _ _ _ _, by simp [Value.ownBlock]⟩
  have hlx : (((w.alloc (.cells #[.slice (some ⟨m, mo, none⟩) 1 c] 29)).alloc (.cells #[.pointer none, .slice none 0 0, .int .i64 6000, .int .i64 0] 91)).alloc (.cells #[.pointer (some ⟨w.heap.size + 1, 0, none⟩)] 85)).cell? ⟨w.heap.size + 1 + 1, 0, none⟩ = some (.pointer (some ⟨w.heap.size + 1, 0, none⟩)) := (tblk1 HX.out).1
  have hll : (((w.alloc (.cells #[.slice (some ⟨m, mo, none⟩) 1 c] 29)).alloc (.cells #[.pointer none, .slice none 0 0, .int .i64 6000, .int .i64 0] 91)).alloc (.cells #[.pointer (some ⟨w.heap.size + 1, 0, none⟩)] 85)).cell? ⟨w.heap.size, 0, none⟩ = some (.slice (some ⟨m, mo, none⟩) 1 c) := (tblk1 HL.out).1
  go_enter Tryz.func11, Tryz.ntmps11
  go_wp2_with fail
  refine (caught_true w.heap.size (w.heap.size + 1) 0 _ (w.heap.size + 1 + 1) w.heap.size m mo c _ _ io wo ic wc p f oc q g qc r ro rc o' c' h0 (HO.out.below bz) hlx hll (by decide) (by decide)).mono ?_
  rintro e w1 ⟨rfl, h1, b1, k1⟩
  clear hwr h0 hlx hll
  have HX1 : Hid _ := kept_row k1 HX.out (by omega) (by intro c fz e; injection e with _ e; exact absurd e (by decide))
  have HL1 : Hid _ := kept_row k1 HL.out (by omega) (by intro c fz e; injection e with _ e; exact absurd e (by decide))
  have x1 := (tblk1 HX1.out).1
  have hx1 : w.heap.size + 1 + 1 < w1.heap.size := lt_of_cell x1
  go_wp2_with fail
  refine (wString_any w.heap.size (w.heap.size + 1) _ 0 _ h1 (by decide)).mono ?_
  rintro e w2 ⟨rfl, b2, k2⟩
  have hct : (⟨(nodeT ⟨#[97]⟩ ⟨#[120]⟩).toArray⟩ : ByteArray) = cText := by rw [nodeT_text]
  rw [hct]
  have bw2 := (bz.trans b1).trans b2
  have HL2 : Hid _ := kept_row k2 HL1.out (by omega) (by intro c fz e; injection e with _ e; exact absurd e (by decide))
  have hs2 := bw2.size
  clear h1 x1 hx1
  go_wp2_with fail
  refine (read_any cText _ pT pB ev (by decide) (below_cell bw2 (lt_of_cell hT) hT) (below_cell bw2 (lt_of_cell hB) hB) (below_cell bw2 (lt_of_cell hv) hv) hev).mono ?_
  rintro e w3 ⟨b3, hR⟩
  obtain ⟨jt, hPt⟩ := cTree
  rcases hR with ⟨l, es, j, v, hlx, hP, rfl, hN⟩ | ⟨l, j, p', bd, hlx, hP, _⟩ | ⟨l, j, p', hlx, _⟩
  · obtain ⟨rfl, _⟩ := hlx.one cLex
    have hes := hP.one hPt
    injection hes with hes _
    subst hes
    obtain ⟨ys', hrow, hin⟩ := hN
    obtain ⟨so, sc, rfl⟩ := hrow.form
    have y0 := (tblk1 (row_keep b3 HL2.out)).1
    have hl3 : w.heap.size < w3.heap.size := lt_of_cell y0
    have bw3 : Below w.heap.size w w3 := bw2.trans (b3.mono hs2)
    have HRow : Hid _ := hrow
    have HIn : Hid _ := hin
    clear hrow hin
    go_wp2_with fail
    refine (alike_any [cNode] _ S (From w2.heap.size) (some ⟨m, mo, none⟩) so c sc ys ys' (H1.out.keep (Stays.below bw3 (fun k hk => hk))) (H2.out.keep (Stays.below bw3 (fun k hk => hk))) HRow.out HIn.out).mono ?_
    rintro e w4 ⟨rfl, b4⟩
    go_wp2
    go_ret2
    exact ⟨rfl, bw3.trans (b4.mono bw3.size)⟩
  · obtain ⟨rfl, _⟩ := hlx.one cLex
    exact absurd (hP.one hPt) (by simp)
  · exact absurd (hlx.one cLex).2 (by simp)
end Go.Proofs.YtglkpgcmlbhkpabGreatDoor

/-
  lustrumlaw1.pass BY ITS CONTRACT.
-/
namespace Go.Proofs.YtglkpgcmlbhkpabGreatDoor
open Go.RowKit
attribute [local go_sem ↓] Go.wp_at_zero Go.wp_at_succ

set_option maxRecDepth 100000 in
set_option maxHeartbeats 1000000 in
theorem pass_any (w : World) (pT pB : Addr) (ev : Value) (hT : w.cell? ⟨1, 0, none⟩ = some (.iface 325 (.pointer (some pT)))) (hB : w.cell? ⟨2, 0, none⟩ = some (.iface 325 (.pointer (some pB)))) (hv : w.cell? ⟨11, 0, none⟩ = some ev) (hev : ev = .nilIface ∨ ∃ te pe, ev = .iface te pe) :
    Calls Tryz.prog 9 #[] w fun e w' => e = .returned (.bool true) ∧ Below w.heap.size w w' := by
  go_enter Tryz.func9, Tryz.ntmps9
  go_wp2_with fail
  refine (read_any cText _ pT pB ev (by decide) hT hB hv hev).mono ?_
  rintro e w1 ⟨b1, hR⟩
  obtain ⟨jt, hPt⟩ := cTree
  rcases hR with ⟨l, es, j, v, hlx, hP, rfl, hN⟩ | ⟨l, j, p', bd, hlx, hP, _⟩ | ⟨l, j, p', hlx, _⟩
  · obtain ⟨rfl, _⟩ := hlx.one cLex
    have hes := hP.one hPt
    injection hes with hes _
    subst hes
    obtain ⟨ys, hrow, hin⟩ := hN
    obtain ⟨so, sc, rfl⟩ := hrow.form
    have H1 : Hid (RowAt w1 (From w.heap.size) 5 (.slice so 1 sc) 1 ys) := hrow
    have H2 : Hid (NdIn w1 (From w.heap.size) [cNode] ys) := hin
    obtain ⟨m, mo, io, wo, ic, wc, p, f, oc, q, g, qc, r, ro, rc, o', c', rfl, O⟩ := oneP_of hrow hin
    have m4 := O.m4
    have hT1 := cell_keep b1 hT
    have hB1 := cell_keep b1 hB
    have hv1 := cell_keep b1 hv
    have HC : Hid (w1.cell? ⟨1, 0, none⟩ = some (.iface 325 (.pointer (some pT))) ∧ w1.cell? ⟨2, 0, none⟩ = some (.iface 325 (.pointer (some pB))) ∧ w1.cell? ⟨11, 0, none⟩ = some ev) := ⟨hT1, hB1, hv1⟩
    clear hrow hin O hT1 hB1 hv1 hP hlx hPt
    simp only [List.length_cons, List.length_nil, Nat.zero_add]
    have hct : cText.toList = cText.data.toList := by rw [ByteArray.toList_eq]
    go_wp2_with fail
    refine (text_one (From w.heap.size) _ sc ys _ H1.out H2.out pT pB ev HC.out.1 HC.out.2.1 HC.out.2.2 hev).mono ?_
    rintro e w2 ⟨rfl, b2⟩
    go_wp2
    go_ret
    exact ⟨rfl, b1.trans (b2.mono b1.size)⟩
  · obtain ⟨rfl, _⟩ := hlx.one cLex
    exact absurd (hP.one hPt) (by simp)
  · exact absurd (hlx.one cLex).2 (by simp)
end Go.Proofs.YtglkpgcmlbhkpabGreatDoor

/-
  lustrumref1's READER OF TERMS BY ITS CONTRACT.
-/
namespace Go.Proofs.YtglkpgcmlbhkpabGreatDoor
open Go.RowKit

end Go.Proofs.YtglkpgcmlbhkpabGreatDoor

/-
  lustrumref1's READER OF NODES: one, vars BY THEIR CONTRACTS.
-/
namespace Go.Proofs.YtglkpgcmlbhkpabGreatDoor
open Go.RowKit
attribute [local go_sem ↓] Go.wp_at_zero Go.wp_at_succ

/-- From where it stood to where it stands: a variable was read; or it failed; or it had failed. -/
inductive VRel (l : List Tk) (d : Nat) : St → St → ByteArray → Int → Prop
  | ok (i j : Nat) (s : ByteArray) (x : Int) : Parse l .one i d (.ok [.mk s x b0 []] j) → i < j → VRel l d (.here i) (.here j) s x
  | fail (i j : Nat) (bd : Bool) (s : ByteArray) (x : Int) : Parse l .one i d (.bad j bd) → VRel l d (.here i) (.bad j bd) s x
  | stay (j : Nat) (bd : Bool) (s : ByteArray) (x : Int) : VRel l d (.bad j bd) (.bad j bd) s x
theorem VRel.int {l : List Tk} {d : Nat} {st : St} (h : ((st.name l).want l tColon).tx l tInt = true) : VRel l d st (((st.name l).want l tColon).pass l tInt) (st.nm l) 2 := by
  cases st with
  | bad j bd => cases h
  | here i =>
    cases h1 : isName l i with
    | false => simp [St.name, h1, St.want, St.tx] at h
    | true =>
      cases h2 : tx l (i + 1) tColon with
      | false => simp [St.name, h1, h2, St.want, St.tx] at h
      | true =>
        have h3 : tx l (i + 1 + 1) tInt = true := by simpa [St.name, h1, h2, St.want, St.tx] using h
        have e1 : (((St.here i).name l).want l tColon).pass l tInt = .here (i + 1 + 1 + 1) := by simp [St.name, h1, h2, h3, St.want, St.pass]
        have e2 : (St.here i).nm l = tkx l i := by simp [St.nm, h1]
        rw [e1, e2]
        exact .ok i _ _ _ (Run.ifT h1 (Run.exp h2 (Run.ifF (not_both h3 (by decide)) (Run.exp h3 Run.done)))) (by omega)
theorem VRel.bool {l : List Tk} {d : Nat} {st : St} (h : ((st.name l).want l tColon).tx l tInt = false) : VRel l d st ((((st.name l).want l tColon).pass l tInt).want l tBool) (st.nm l) 1 := by
  cases st with
  | bad j bd => exact .stay j bd _ _
  | here i =>
    cases h1 : isName l i with
    | false =>
      have e1 : ((((St.here i).name l).want l tColon).pass l tInt).want l tBool = .bad i false := by simp [St.name, h1, St.want, St.pass]
      rw [e1]
      exact .fail i i false _ _ (Run.ifF h1 (.ret _))
    | true =>
      have e2 : (St.here i).nm l = tkx l i := by simp [St.nm, h1]
      rw [e2]
      cases h2 : tx l (i + 1) tColon with
      | false =>
        have e1 : ((((St.here i).name l).want l tColon).pass l tInt).want l tBool = .bad (i + 1) false := by simp [St.name, h1, h2, St.want, St.pass]
        rw [e1]
        exact .fail i _ false _ _ (Run.ifT h1 (Run.unexp h2))
      | true =>
        have h3 : tx l (i + 1 + 1) tInt = false := by simpa [St.name, h1, h2, St.want, St.tx] using h
        cases h4 : tx l (i + 1 + 1) tBool with
        | true =>
          have e1 : ((((St.here i).name l).want l tColon).pass l tInt).want l tBool = .here (i + 1 + 1 + 1) := by simp [St.name, h1, h2, h3, h4, St.want, St.pass]
          rw [e1]
          exact .ok i _ _ _ (Run.ifT h1 (Run.exp h2 (Run.ifT h4 Run.done))) (by omega)
        | false =>
          have e1 : ((((St.here i).name l).want l tColon).pass l tInt).want l tBool = .bad (i + 1 + 1) false := by simp [St.name, h1, h2, h3, h4, St.want, St.pass]
          rw [e1]
          exact .fail i _ false _ _ (Run.ifT h1 (Run.exp h2 (Run.ifF h4 (Run.unexp h3))))

abbrev rVar : Obj := .cells #[.string ⟨#[]⟩, .int .i64 0] 41
end Go.Proofs.YtglkpgcmlbhkpabGreatDoor

/-
  lustrumref1's READER OF NODES: vars BY ITS CONTRACT.
-/
namespace Go.Proofs.YtglkpgcmlbhkpabGreatDoor
open Go.RowKit
attribute [local go_sem ↓] Go.wp_at_zero Go.wp_at_succ

def varsN (l : List Tk) (no : Bool) (i d : Nat) (k : List Ex → Nat → Act) : Act := if no && tx l i tShut then k [] i else varsA i d k
/-- Variables so far. -/
inductive WRel (l : List Tk) (d : Nat) : St → St → List Ex → Prop
  | here (i j : Nat) (es : List Ex) : (∀ k r, Run l (.call (.vars es) j d k) r → Run l (varsA i d k) r) → i < j → es.length ≤ j → WRel l d (.here i) (.here j) es
  | bad (i j : Nat) (bd : Bool) (es : List Ex) : (∀ k, Run l (varsA i d k) (.bad j bd)) → WRel l d (.here i) (.bad j bd) es
  | stay (j : Nat) (bd : Bool) (es : List Ex) : WRel l d (.bad j bd) (.bad j bd) es
/-- From where it stood to where it stands: variables were read; or it failed; or it had failed. -/
inductive VsRel (l : List Tk) (no : Bool) (d : Nat) (base : Nat) (w' : World) : St → St → Option Addr → Nat → Nat → Prop
  | ok (i j : Nat) (es : List Ex) (so : Option Addr) (sc : Nat) : (∀ k r, Run l (k es j) r → Run l (varsN l no i d k) r) → i ≤ j → es.length ≤ j → RowAt w' (From base) 2 (.slice so es.length sc) es.length (varCells es) → VsRel l no d base w' (.here i) (.here j) so es.length sc
  | fail (i j : Nat) (bd : Bool) (so : Option Addr) (m sc : Nat) : (∀ k, Run l (varsN l no i d k) (.bad j bd)) → VsRel l no d base w' (.here i) (.bad j bd) so m sc
  | stay (j : Nat) (bd : Bool) (so : Option Addr) (m sc : Nat) : VsRel l no d base w' (.bad j bd) (.bad j bd) so m sc
theorem WRel.first {l : List Tk} {d : Nat} {st st1 : St} {s : ByteArray} {x : Int} (q : VRel l d st st1 s x) : WRel l d st st1 [.mk s x b0 []] := by
  cases q with
  | ok i j s x hp hij => exact .here i j _ (fun k r h => Run.then hp h) hij (by simp; omega)
  | fail i j bd s x hp => exact .bad i j bd _ (fun k => Run.stop hp)
  | stay j bd s x => exact .stay j bd _
theorem WRel.num {l : List Tk} {d j : Nat} {st : St} {es : List Ex} (h : WRel l d st (.here j) es) : es.length ≤ j := by
  cases h with
  | here i _ _ _ _ hl => exact hl
theorem WRel.next {l : List Tk} {d j : Nat} {st st5 : St} {es : List Ex} {s : ByteArray} {x : Int} (h : WRel l d st (.here j) es) (hc : tx l j tSemi = true) (q : VRel l d (.here (j + 1)) st5 s x) : ∃ es', WRel l d st st5 es' ∧ ∀ k, st5 = .here k → j < k ∧ es' = es ++ [.mk s x b0 []] := by
  cases h with
  | here i _ _ HP hij hl =>
    cases q with
    | ok _ k s x hp hjk =>
      refine ⟨es ++ [.mk s x b0 []], .here i k _ (fun k r hr => HP k r ?_) (by omega) (by simp; omega), fun k' hk => by cases hk; exact ⟨by omega, rfl⟩⟩
      cases hr with
      | ok _ _ _ _ e j _ h1 h2 => exact Run.then (Run.ifT hc (Run.then hp (Run.tail h1))) h2
      | bad _ _ _ _ j b h1 => exact Run.stop (Run.ifT hc (Run.then hp (Run.tail h1)))
    | fail _ k bd s x hp => exact ⟨[], .bad i k bd _ (fun k => HP k _ (Run.stop (Run.ifT hc (Run.stop hp)))), fun k' hk => by cases hk⟩
theorem WRel.done {l : List Tk} {no : Bool} {d base : Nat} {w' : World} {st st' : St} {es : List Ex} {so : Option Addr} {m sc : Nat} (h : WRel l d st st' es) (hno : (no && st.tx l tShut) = false) (hc : st'.tx l tSemi = false) (hr : st'.isAt = true → m = es.length ∧ RowAt w' (From base) 2 (.slice so m sc) m (varCells es)) : VsRel l no d base w' st st' so m sc := by
  cases h with
  | here i j _ HP hij hl =>
    obtain ⟨rfl, hrow⟩ := hr rfl
    have hno' : (no && tx l i tShut) = false := hno
    have hc' : tx l j tSemi = false := hc
    exact .ok i j es so sc (fun k r h => by rw [varsN, hno']; exact HP k r (Run.then (Run.ifF hc' Run.done) h)) (by omega) hl hrow
  | bad i j bd _ HP =>
    have hno' : (no && tx l i tShut) = false := hno
    exact .fail i j bd _ _ _ (fun k => by rw [varsN, hno']; exact HP k)
  | stay j bd _ => exact .stay j bd _ _ _

theorem Tryz.infoRVar : (Tryz.prog.info? 41).map (fun i => (i.zero, i.size, i.bytes)) = some (some (.agg #[.string ⟨#[]⟩, .int .i64 0]), 2, 24) := by kernel_rfl
end Go.Proofs.YtglkpgcmlbhkpabGreatDoor
