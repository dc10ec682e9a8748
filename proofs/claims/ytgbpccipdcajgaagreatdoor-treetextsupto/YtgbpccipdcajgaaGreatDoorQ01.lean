/-
  THE WORDS OF A PROGRAM, IN PLAIN MATHEMATICS: what stands between tokens, which token begins at a byte, steps from byte to byte; that these steps have one end. Nothing of the program is in this text.
-/
import Derived.Below
import Derived.Lib.Bytealg
import Derived.Lib.AtoiAll
import Derived.Laws.Strings
namespace Go.Proofs.YtgbpccipdcajgaaGreatDoor
def blankI (c : Int) : Bool := c == 32 || c == 10
def notNlI (c : Int) : Bool := c != 10
def lowI (c : Int) : Bool := decide (97 ≤ c) && decide (c ≤ 122)
def digI (c : Int) : Bool := decide (48 ≤ c) && decide (c ≤ 57)
def nameI (c : Int) : Bool := lowI c || digI c || c == 95

def byteI (s : ByteArray) (i : Nat) : Int := if h : i < s.size then (s[i].toNat : Int) else 0
theorem byteI_lt {s : ByteArray} {i : Nat} (h : i < s.size) : byteI s i = (s[i].toNat : Int) := dif_pos h

structure IsRun (p : Int → Bool) (s : ByteArray) (i n : Nat) : Prop where
 le : i + n ≤ s.size
 all : ∀ k, k < n → p (byteI s (i + k)) = true
 stop : i + n < s.size → p (byteI s (i + n)) = false
theorem IsRun.one {p : Int → Bool} {s : ByteArray} {i n m : Nat} (a : IsRun p s i n) (b : IsRun p s i m) : n = m := by
 rcases Nat.lt_trichotomy n m with h | h | h
 ·have h1 := a.stop (by have := b.le; omega)
  rw [b.all n h] at h1; cases h1
 ·exact h
 ·have h1 := b.stop (by have := a.le; omega)
  rw [a.all m h] at h1; cases h1

def wordL : List (List UInt8) := [[97, 110, 100], [97, 115, 115, 101, 114, 116], [98, 111, 111, 108], [99, 104, 101, 99, 107], [101, 108, 115, 101], [102, 97, 108, 115, 101], [102, 98, 121], [105, 102], [105, 110, 116], [108, 101, 116], [109, 111, 100], [110, 111, 100, 101], [110, 111, 116], [111, 114], [112, 114, 101], [114, 101, 116, 117, 114, 110, 115], [116, 101, 108], [116, 104, 101, 110], [116, 114, 117, 101], [118, 97, 114], [120, 111, 114]]
def wordB (t : ByteArray) : Bool := wordL.any fun l => t.toList == l

def kName : ByteArray := ⟨#[110, 97, 109, 101]⟩
def kWord : ByteArray := ⟨#[119, 111, 114, 100]⟩
def kInt : ByteArray := ⟨#[105, 110, 116]⟩
def kOp : ByteArray := ⟨#[111, 112]⟩
def kEnd : ByteArray := ⟨#[101, 110, 100]⟩
def kNone : ByteArray := ⟨#[]⟩

def nameK (t : ByteArray) : ByteArray := if t.size > 12 then kNone else if wordB t then kWord else kName
def valL (l : List UInt8) : Nat := l.foldl (fun n c => 10 * n + (c.toNat - 48)) 0
def intB (t : ByteArray) : Bool := decide (valL t.data.toList ≤ 127) && !(decide (1 < t.size) && (byteI t 0 == 48))
def opK (t : ByteArray) : ByteArray := if t.toList.isEmpty then kNone else kOp
def intK (t : ByteArray) : ByteArray := if intB t then kInt else kNone
def twoL : List (List UInt8) := [[60, 62], [60, 61], [62, 61], [61, 62], [45, 62]]
def oneL : List UInt8 := [40, 41, 44, 59, 58, 61, 60, 62, 43, 45, 42, 47]
def twoB (s : ByteArray) : Bool := decide (1 < s.size) && twoL.any fun l => (s.extract 0 2).toList == l
def oneB (s : ByteArray) : Bool := if h : 0 < s.size then decide (0 ≤ Lib.indexByte oneL s[0]) else false
def opN (s : ByteArray) : Nat := if twoB s then 2 else if oneB s then 1 else 0
theorem opN_two {s : ByteArray} (h : twoB s = true) : opN s = 2 := by simp [opN, h]
theorem opN_one {s : ByteArray} (h : twoB s = false) (h1 : oneB s = true) : opN s = 1 := by simp [opN, h, h1]
theorem opN_none {s : ByteArray} (h : twoB s = false) (h1 : oneB s = false) : opN s = 0 := by simp [opN, h, h1]
theorem byteI_data (t : ByteArray) (k : Nat) (h : k < t.size) : byteI t k = ((t.data.toList[k]'(by simpa using h)).toNat : Int) := by rw [byteI_lt h]; rfl
theorem parse_digits : ∀ (l : List UInt8) (acc : Nat), (∀ c ∈ l, 48 ≤ c.toNat ∧ c.toNat ≤ 57) →
  (Lib.parseUint10 acc l = .ok (l.foldl (fun n c => 10 * n + (c.toNat - 48)) acc)) ∨ (Lib.parseUint10 acc l = .range ∧ 1844674407370955161 ≤ l.foldl (fun n c => 10 * n + (c.toNat - 48)) acc)
 | [], _, _ => Or.inl rfl
 | c :: r, acc, h => by
  have hc := h c List.mem_cons_self
  have hr : ∀ c ∈ r, 48 ≤ c.toNat ∧ c.toNat ≤ 57 := fun x hx => h x (List.mem_cons_of_mem _ hx)
  have hge : ∀ (l : List UInt8) (a : Nat), a ≤ l.foldl (fun n c => 10 * n + (c.toNat - 48)) a := by
   intro l
   induction l with
   | nil => intro a; exact Nat.le_refl _
   | cons x r ih => intro a; exact Nat.le_trans (by show a ≤ 10 * a + (x.toNat - 48); omega) (ih _)
  have hg := hge r (10 * acc + (c.toNat - 48))
  simp only [Lib.parseUint10, List.foldl_cons]
  rw [if_pos hc]
  by_cases h1 : 1844674407370955162 ≤ acc
  ·rw [if_pos h1]; exact Or.inr ⟨rfl, by omega⟩
  ·rw [if_neg h1]
   by_cases h2 : 18446744073709551616 ≤ acc * 10 + (c.toNat - 48)
   ·rw [if_pos h2]; exact Or.inr ⟨rfl, by omega⟩
   ·rw [if_neg h2]
    have e : acc * 10 + (c.toNat - 48) = 10 * acc + (c.toNat - 48) := by omega
    rw [e]
    exact parse_digits r _ hr
theorem dig_mem {t : ByteArray} (hd : ∀ k, k < t.size → digI (byteI t k) = true) : ∀ c ∈ t.data.toList, 48 ≤ c.toNat ∧ c.toNat ≤ 57 := by
 intro c hc
 obtain ⟨k, hk, rfl⟩ := List.mem_iff_getElem.1 hc
 have h1 := hd k (by simpa using hk)
 rw [byteI_data t k (by simpa using hk)] at h1
 simp only [digI, Bool.and_eq_true, decide_eq_true_eq] at h1
 omega
theorem atoi_digits (t : ByteArray) (ht : 0 < t.size) (hd : ∀ k, k < t.size → digI (byteI t k) = true) :
  (Lib.atoiAll t.data.toList = .ok (valL t.data.toList : Int)) ∨ (Lib.atoiAll t.data.toList = .range ∧ 127 < valL t.data.toList) := by
 have hm := dig_mem hd
 have hl : t.data.toList.length = t.size := Array.length_toList
 rcases hdl : t.data.toList with _ | ⟨c, r⟩
 ·rw [hdl] at hl; simp at hl; omega
 ·rw [hdl] at hm
  have hc := hm c List.mem_cons_self
  have h43 : ¬ (c.toNat = 43 ∨ c.toNat = 45) := by omega
  have h45 : ¬ c.toNat = 45 := by omega
  rcases parse_digits (c :: r) 0 hm with h | ⟨h, hb⟩
  ·by_cases hbig : 9223372036854775808 ≤ valL (c :: r)
   ·refine Or.inr ⟨?_, by omega⟩
    simp only [Lib.atoiAll, if_neg h43, Lib.parseMag, h]
    rw [if_neg (by simp)]
    dsimp only
    rw [if_pos ⟨h45, hbig⟩]
   ·refine Or.inl ?_
    simp only [Lib.atoiAll, if_neg h43, Lib.parseMag, h]
    rw [if_neg (by simp)]
    dsimp only
    rw [if_neg (fun x => hbig x.2), if_neg (fun x => h45 x.1), if_neg h45]
    rfl
  ·refine Or.inr ⟨?_, by show 127 < (c :: r).foldl _ 0; omega⟩
   simp only [Lib.atoiAll, if_neg h43, Lib.parseMag, h]
   rw [if_neg (by simp)]
theorem intK_big {t : ByteArray} (h : (127 : Int) < (valL t.data.toList : Int)) : intK t = kNone := by
 have h1 : ¬ valL t.data.toList ≤ 127 := by omega
 simp [intK, intB, h1]
theorem intK_zero {t : ByteArray} (ht : 0 < t.size) (h1 : 1 < (t.size : Int)) (h : (t[0].toNat : Int) = 48) : intK t = kNone := by
 have h2 : 1 < t.size := by omega
 have hb : byteI t 0 = 48 := by rw [byteI_lt ht]; exact h
 simp [intK, intB, h2, hb]
theorem intK_yes {t : ByteArray} (ht : 0 < t.size) (hv : (valL t.data.toList : Int) ≤ 127) (h : (t.size : Int) ≤ 1 ∨ ((t[0].toNat : Int) == 48) = false) : intK t = kInt := by
 have h1 : valL t.data.toList ≤ 127 := by omega
 rcases h with h | h
 ·have h2 : ¬ 1 < t.size := by omega
  simp [intK, intB, h1, h2]
 ·have hb : (byteI t 0 == 48) = false := by rw [byteI_lt ht]; exact h
  simp [intK, intB, h1, hb]
theorem twoB_short {s : ByteArray} (h : (s.size : Int) ≤ 1) : twoB s = false := by
 have h1 : ¬ 1 < s.size := by omega
 simp [twoB, h1]
theorem twoB_none {s : ByteArray} (h1 : ((s.extract 0 2).toList == [60, 62]) = false) (h2 : ((s.extract 0 2).toList == [60, 61]) = false) (h3 : ((s.extract 0 2).toList == [62, 61]) = false) (h4 : ((s.extract 0 2).toList == [61, 62]) = false) (h5 : ((s.extract 0 2).toList == [45, 62]) = false) : twoB s = false := by
 simp [twoB, twoL, h1, h2, h3, h4, h5]
theorem twoB_of {s : ByteArray} {l : List UInt8} (h : 1 < (s.size : Int)) (hl : l ∈ twoL) (he : ((s.extract 0 2).toList == l) = true) : twoB s = true := by
 have h1 : 1 < s.size := by omega
 simp only [twoB, h1, decide_true, Bool.true_and, List.any_eq_true]
 exact ⟨l, hl, he⟩
theorem oneB_of {s : ByteArray} (h : 0 < s.size) {b : Bool} (hi : b = true ∧ 0 ≤ Lib.indexByte [40, 41, 44, 59, 58, 61, 60, 62, 43, 45, 42, 47] s[0]) : oneB s = true := by
 rw [oneB, dif_pos h]; exact decide_eq_true hi.2
theorem oneB_not {s : ByteArray} (h : 0 < s.size) (hi : (!s.toList.isEmpty) = false ∨ Lib.indexByte [40, 41, 44, 59, 58, 61, 60, 62, 43, 45, 42, 47] s[0] < 0) : oneB s = false := by
 rw [oneB, dif_pos h]
 rcases hi with hi | hi
 ·exfalso
  have h1 : s.toList = [] := by simpa using hi
  rw [ByteArray.toList_eq] at h1
  have h2 : s.data.toList.length = 0 := by rw [h1]; rfl
  rw [Array.length_toList] at h2
  have h3 : s.size = s.data.size := rfl
  omega
 ·exact decide_eq_false (by show ¬ 0 ≤ Lib.indexByte [40, 41, 44, 59, 58, 61, 60, 62, 43, 45, 42, 47] s[0]; omega)
theorem oneB_nil {s : ByteArray} (h : ¬ 0 < s.size) : oneB s = false := by rw [oneB, dif_neg h]
theorem nil_iff (s : ByteArray) : s.toList = [] ↔ s.size = 0 := by
 rw [ByteArray.toList_eq]
 constructor
 ·intro h; show s.data.size = 0; rw [← Array.length_toList, h]; rfl
 ·intro h; exact List.eq_nil_of_length_eq_zero (by rw [Array.length_toList]; exact h)
end Go.Proofs.YtgbpccipdcajgaaGreatDoor
