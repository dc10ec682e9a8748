/-
  THE WORDS OF A PROGRAM, IN PLAIN MATHEMATICS: what stands between tokens, which token begins at a byte, steps from byte to byte; that these steps have one end. Nothing of the program is in this text.
-/
import Derived.Below
import Derived.Lib.Bytealg
import Derived.Lib.AtoiAll
import Derived.Laws.Strings
import Derived.Shelf.Small.Strs
import Derived.Shelf.LaysM
import Derived.Shelf.Strconv.Clone
import Derived.Shelf.LaysC
import Derived.Shelf.Strconv.AtoiAll
import Derived.Shelf.Strings.Prefix
import Derived.Shelf.Strings.Builder1
import Derived.Test.YtglkpgcmlbhkpabGreatDoorProg
namespace Go.Proofs.YtglkpgcmlbhkpabGreatDoor

def blankI (c : Int) : Bool := c == 32 || c == 10
def notNlI (c : Int) : Bool := c != 10
def lowI (c : Int) : Bool := decide (97 ≤ c) && decide (c ≤ 122)
def digI (c : Int) : Bool := decide (48 ≤ c) && decide (c ≤ 57)
def nameI (c : Int) : Bool := lowI c || digI c || c == 95

/-- The byte at a place, as a number (0 behind the end). -/
def byteI (s : ByteArray) (i : Nat) : Int := if h : i < s.size then (s[i].toNat : Int) else 0
theorem byteI_lt {s : ByteArray} {i : Nat} (h : i < s.size) : byteI s i = (s[i].toNat : Int) := dif_pos h

/-- n bytes from i on are such ones, and the next one, if there is one, is not. -/
structure IsRun (p : Int → Bool) (s : ByteArray) (i n : Nat) : Prop where
  le : i + n ≤ s.size
  all : ∀ k, k < n → p (byteI s (i + k)) = true
  stop : i + n < s.size → p (byteI s (i + n)) = false
theorem IsRun.one {p : Int → Bool} {s : ByteArray} {i n m : Nat} (a : IsRun p s i n) (b : IsRun p s i m) : n = m := by
  rcases Nat.lt_trichotomy n m with h | h | h
  · have h1 := a.stop (by have := b.le; omega)
    rw [b.all n h] at h1; cases h1
  · exact h
  · have h1 := b.stop (by have := a.le; omega)
    rw [a.all m h] at h1; cases h1

/-- The language's words. -/
def wordL : List (List UInt8) := [[97, 110, 100], [97, 115, 115, 101, 114, 116], [98, 111, 111, 108], [99, 104, 101, 99, 107], [101, 108, 115, 101], [102, 97, 108, 115, 101], [102, 98, 121], [105, 102], [105, 110, 116], [108, 101, 116], [109, 111, 100], [110, 111, 100, 101], [110, 111, 116], [111, 114], [112, 114, 101], [114, 101, 116, 117, 114, 110, 115], [116, 101, 108], [116, 104, 101, 110], [116, 114, 117, 101], [118, 97, 114], [120, 111, 114]]
def wordB (t : ByteArray) : Bool := wordL.any fun l => t.toList == l

def kName : ByteArray := ⟨#[110, 97, 109, 101]⟩
def kWord : ByteArray := ⟨#[119, 111, 114, 100]⟩
def kInt : ByteArray := ⟨#[105, 110, 116]⟩
def kOp : ByteArray := ⟨#[111, 112]⟩
def kEnd : ByteArray := ⟨#[101, 110, 100]⟩
def kNone : ByteArray := ⟨#[]⟩

def nameK (t : ByteArray) : ByteArray := if t.size > 12 then kNone else if wordB t then kWord else kName
/-- What digits come to. -/
def valL (l : List UInt8) : Nat := l.foldl (fun n c => 10 * n + (c.toNat - 48)) 0
def intB (t : ByteArray) : Bool := decide (valL t.data.toList ≤ 127) && !(decide (1 < t.size) && (byteI t 0 == 48))
def opK (t : ByteArray) : ByteArray := if t.toList.isEmpty then kNone else kOp
def intK (t : ByteArray) : ByteArray := if intB t then kInt else kNone
def twoL : List (List UInt8) := [[60, 62], [60, 61], [62, 61], [61, 62], [45, 62]]
def oneL : List UInt8 := [40, 41, 44, 59, 58, 61, 60, 62, 43, 45, 42, 47]
/-- How long the operator is with which bytes begin (0: there is none). -/
def twoB (s : ByteArray) : Bool := decide (1 < s.size) && twoL.any fun l => (s.extract 0 2).toList == l
def oneB (s : ByteArray) : Bool := if h : 0 < s.size then decide (0 ≤ Lib.indexByte oneL s[0]) else false
def opN (s : ByteArray) : Nat := if twoB s then 2 else if oneB s then 1 else 0
theorem opN_two {s : ByteArray} (h : twoB s = true) : opN s = 2 := by simp [opN, h]
theorem opN_one {s : ByteArray} (h : twoB s = false) (h1 : oneB s = true) : opN s = 1 := by simp [opN, h, h1]
theorem opN_none {s : ByteArray} (h : twoB s = false) (h1 : oneB s = false) : opN s = 0 := by simp [opN, h, h1]
theorem byteI_data (t : ByteArray) (k : Nat) (h : k < t.size) : byteI t k = ((t.data.toList[k]'(by simpa using h)).toNat : Int) := by rw [byteI_lt h]; rfl
/-- Every byte a digit: a number, or too great for any. -/
theorem parse_digits : ∀ (l : List UInt8) (acc : Nat), (∀ c ∈ l, 48 ≤ c.toNat ∧ c.toNat ≤ 57) →
    (Lib.parseUint10 acc l = .ok (l.foldl (fun n c => 10 * n + (c.toNat - 48)) acc)) ∨ (Lib.parseUint10 acc l = .range ∧ 1844674407370955161 ≤ l.foldl (fun n c => 10 * n + (c.toNat - 48)) acc)
  | [], _, _ => Or.inl rfl
  | c :: r, acc, h => by
    have hc := h c List.mem_cons_self
    have hr : ∀ c ∈ r, 48 ≤ c.toNat ∧ c.toNat ≤ 57 := fun x hx => h x (List.mem_cons_of_mem _ hx)
    have hge : ∀ (l : List UInt8) (a : Nat), a ≤ l.foldl (fun n c => 10 * n + (c.toNat - 48)) a := by
      intro l
      induction l with
      | nil => intro a; exact Nat.le_refl _
      | cons x r ih => intro a; exact Nat.le_trans (by show a ≤ 10 * a + (x.toNat - 48); omega) (ih _)
    have hg := hge r (10 * acc + (c.toNat - 48))
    simp only [Lib.parseUint10, List.foldl_cons]
    rw [if_pos hc]
    by_cases h1 : 1844674407370955162 ≤ acc
    · rw [if_pos h1]; exact Or.inr ⟨rfl, by omega⟩
    · rw [if_neg h1]
      by_cases h2 : 18446744073709551616 ≤ acc * 10 + (c.toNat - 48)
      · rw [if_pos h2]; exact Or.inr ⟨rfl, by omega⟩
      · rw [if_neg h2]
        have e : acc * 10 + (c.toNat - 48) = 10 * acc + (c.toNat - 48) := by omega
        rw [e]
        exact parse_digits r _ hr
theorem dig_mem {t : ByteArray} (hd : ∀ k, k < t.size → digI (byteI t k) = true) : ∀ c ∈ t.data.toList, 48 ≤ c.toNat ∧ c.toNat ≤ 57 := by
  intro c hc
  obtain ⟨k, hk, rfl⟩ := List.mem_iff_getElem.1 hc
  have h1 := hd k (by simpa using hk)
  rw [byteI_data t k (by simpa using hk)] at h1
  simp only [digI, Bool.and_eq_true, decide_eq_true_eq] at h1
  omega
theorem atoi_digits (t : ByteArray) (ht : 0 < t.size) (hd : ∀ k, k < t.size → digI (byteI t k) = true) :
    (Lib.atoiAll t.data.toList = .ok (valL t.data.toList : Int)) ∨ (Lib.atoiAll t.data.toList = .range ∧ 127 < valL t.data.toList) := by
  have hm := dig_mem hd
  have hl : t.data.toList.length = t.size := Array.length_toList
  rcases hdl : t.data.toList with _ | ⟨c, r⟩
  · rw [hdl] at hl; simp at hl; omega
  · rw [hdl] at hm
    have hc := hm c List.mem_cons_self
    have h43 : ¬ (c.toNat = 43 ∨ c.toNat = 45) := by omega
    have h45 : ¬ c.toNat = 45 := by omega
    rcases parse_digits (c :: r) 0 hm with h | ⟨h, hb⟩
    · by_cases hbig : 9223372036854775808 ≤ valL (c :: r)
      · refine Or.inr ⟨?_, by omega⟩
        simp only [Lib.atoiAll, if_neg h43, Lib.parseMag, h]
        rw [if_neg (by simp)]
        dsimp only
        rw [if_pos ⟨h45, hbig⟩]
      · refine Or.inl ?_
        simp only [Lib.atoiAll, if_neg h43, Lib.parseMag, h]
        rw [if_neg (by simp)]
        dsimp only
        rw [if_neg (fun x => hbig x.2), if_neg (fun x => h45 x.1), if_neg h45]
        rfl
    · refine Or.inr ⟨?_, by show 127 < (c :: r).foldl _ 0; omega⟩
      simp only [Lib.atoiAll, if_neg h43, Lib.parseMag, h]
      rw [if_neg (by simp)]
theorem intK_big {t : ByteArray} (h : (127 : Int) < (valL t.data.toList : Int)) : intK t = kNone := by
  have h1 : ¬ valL t.data.toList ≤ 127 := by omega
  simp [intK, intB, h1]
theorem intK_zero {t : ByteArray} (ht : 0 < t.size) (h1 : 1 < (t.size : Int)) (h : (t[0].toNat : Int) = 48) : intK t = kNone := by
  have h2 : 1 < t.size := by omega
  have hb : byteI t 0 = 48 := by rw [byteI_lt ht]; exact h
  simp [intK, intB, h2, hb]
theorem intK_yes {t : ByteArray} (ht : 0 < t.size) (hv : (valL t.data.toList : Int) ≤ 127) (h : (t.size : Int) ≤ 1 ∨ ((t[0].toNat : Int) == 48) = false) : intK t = kInt := by
  have h1 : valL t.data.toList ≤ 127 := by omega
  rcases h with h | h
  · have h2 : ¬ 1 < t.size := by omega
    simp [intK, intB, h1, h2]
  · have hb : (byteI t 0 == 48) = false := by rw [byteI_lt ht]; exact h
    simp [intK, intB, h1, hb]
theorem twoB_short {s : ByteArray} (h : (s.size : Int) ≤ 1) : twoB s = false := by
  have h1 : ¬ 1 < s.size := by omega
  simp [twoB, h1]
theorem twoB_none {s : ByteArray} (h1 : ((s.extract 0 2).toList == [60, 62]) = false) (h2 : ((s.extract 0 2).toList == [60, 61]) = false) (h3 : ((s.extract 0 2).toList == [62, 61]) = false) (h4 : ((s.extract 0 2).toList == [61, 62]) = false) (h5 : ((s.extract 0 2).toList == [45, 62]) = false) : twoB s = false := by
  simp [twoB, twoL, h1, h2, h3, h4, h5]
theorem twoB_of {s : ByteArray} {l : List UInt8} (h : 1 < (s.size : Int)) (hl : l ∈ twoL) (he : ((s.extract 0 2).toList == l) = true) : twoB s = true := by
  have h1 : 1 < s.size := by omega
  simp only [twoB, h1, decide_true, Bool.true_and, List.any_eq_true]
  exact ⟨l, hl, he⟩
theorem oneB_of {s : ByteArray} (h : 0 < s.size) {b : Bool} (hi : b = true ∧ 0 ≤ Lib.indexByte [40, 41, 44, 59, 58, 61, 60, 62, 43, 45, 42, 47] s[0]) : oneB s = true := by
  rw [oneB, dif_pos h]; exact decide_eq_true hi.2
theorem oneB_not {s : ByteArray} (h : 0 < s.size) (hi : (!s.toList.isEmpty) = false ∨ Lib.indexByte [40, 41, 44, 59, 58, 61, 60, 62, 43, 45, 42, 47] s[0] < 0) : oneB s = false := by
  rw [oneB, dif_pos h]
  rcases hi with hi | hi
  · exfalso
    have h1 : s.toList = [] := by simpa using hi
    rw [ByteArray.toList_eq] at h1
    have h2 : s.data.toList.length = 0 := by rw [h1]; rfl
    rw [Array.length_toList] at h2
    have h3 : s.size = s.data.size := rfl
    omega
  · exact decide_eq_false (by show ¬ 0 ≤ Lib.indexByte [40, 41, 44, 59, 58, 61, 60, 62, 43, 45, 42, 47] s[0]; omega)
theorem oneB_nil {s : ByteArray} (h : ¬ 0 < s.size) : oneB s = false := by rw [oneB, dif_neg h]
theorem nil_iff (s : ByteArray) : s.toList = [] ↔ s.size = 0 := by
  rw [ByteArray.toList_eq]
  constructor
  · intro h; show s.data.size = 0; rw [← Array.length_toList, h]; rfl
  · intro h; exact List.eq_nil_of_length_eq_zero (by rw [Array.length_toList]; exact h)
end Go.Proofs.YtglkpgcmlbhkpabGreatDoor

/-
  THE CONTRACTS OF Go's LIBRARY THAT THE PROOFS TAKE (strings.IndexByte, HasPrefix, stringslite.Clone, strconv.Atoi), laid at this program's numbers.
-/
namespace Go.Proofs
open Go.Shelf
def Tryz.lays170_ren : Go.Shelf.Ren := ⟨fun | 170 => 179 | n => n, fun | 70 => 86 | 3 => 3 | 0 => 0 | 72 => 89 | 37 => 87 | 5 => 5 | n => n, fun | n => n⟩
theorem Tryz.lays170 : Go.Proofs.Lays.n170 Tryz.prog Tryz.lays170_ren := {
  mixed := by kernel_rfl
  f170 := Tryz.func179.trans (congrArg some (by kernel_rfl))
  t0 := Tryz.underlying0
  a0 := Tryz.isAgg0
  z0 := Tryz.sizeOf0
  v0 := Tryz.zeroValue0
  t3 := Tryz.underlying3
  a3 := Tryz.isAgg3
  z3 := Tryz.sizeOf3
  v3 := Tryz.zeroValue3
  t37 := Tryz.underlying87
  a37 := Tryz.isAgg87
  z37 := Tryz.sizeOf87
  v37 := Tryz.zeroValue87
  t70 := Tryz.underlying86
  a70 := Tryz.isAgg86
  z70 := Tryz.sizeOf86
  v70 := Tryz.zeroValue86
  t72 := Tryz.underlying89
  a72 := Tryz.isAgg89
  z72 := Tryz.sizeOf89
  v72 := Tryz.zeroValue89 }
open Go.RowKit in
theorem Tryz.Builder_Len (B b : Nat) (bs : List Value) (w : World) (h : Lib.IsBuilder 89 5 B b bs w) :
    Calls Tryz.prog 179 #[.pointer (some ⟨b, 0, none⟩)] w fun e w' => e = .returned (.int .i64 bs.length) ∧ w' = w := Any.Builder_Len Tryz.lays170 B b bs w h
def Tryz.lays169_ren : Go.Shelf.Ren := ⟨fun | 169 => 37 | n => n, fun | 70 => 86 | 9 => 9 | 0 => 0 | 72 => 89 | 37 => 87 | 127 => 167 | 3 => 3 | 5 => 5 | n => n, fun | n => n⟩
theorem Tryz.lays169 : Go.Proofs.Lays.n169 Tryz.prog Tryz.lays169_ren := {
  mixed := by kernel_rfl
  f169 := Tryz.func37.trans (congrArg some (by kernel_rfl))
  t0 := Tryz.underlying0
  a0 := Tryz.isAgg0
  z0 := Tryz.sizeOf0
  v0 := Tryz.zeroValue0
  t3 := Tryz.underlying3
  a3 := Tryz.isAgg3
  z3 := Tryz.sizeOf3
  v3 := Tryz.zeroValue3
  t9 := Tryz.underlying9
  a9 := Tryz.isAgg9
  z9 := Tryz.sizeOf9
  v9 := Tryz.zeroValue9
  t37 := Tryz.underlying87
  a37 := Tryz.isAgg87
  z37 := Tryz.sizeOf87
  v37 := Tryz.zeroValue87
  t70 := Tryz.underlying86
  a70 := Tryz.isAgg86
  z70 := Tryz.sizeOf86
  v70 := Tryz.zeroValue86
  t72 := Tryz.underlying89
  a72 := Tryz.isAgg89
  z72 := Tryz.sizeOf89
  v72 := Tryz.zeroValue89
  t127 := Tryz.underlying167
  a127 := Tryz.isAgg167
  z127 := Tryz.sizeOf167
  v127 := Tryz.zeroValue167 }
theorem Tryz.Builder_Extra_169 : Builder.Extra Tryz.prog Tryz.lays169_ren := {
  sizeBuilder := by kernel_rfl
  liesBuilder := by kernel_rfl
  t5 := Tryz.underlying5
  a5 := Tryz.isAgg5
  z5 := Tryz.sizeOf5
  v5 := Tryz.zeroValue5
  infoByte := by kernel_rfl
  cellsByte := by kernel_rfl
  sizeByte := by kernel_rfl
  neB5 := by decide }
open Go.RowKit in
theorem Tryz.Builder_String_any (B b : Nat) (l : List UInt8) (w : World) (h : Lib.IsBuilder 89 5 B b (Lib.byteCells l) w) (hBw : B ≤ w.heap.size) :
    Calls Tryz.prog 37 #[.pointer (some ⟨b, 0, none⟩)] w fun e w' => e = .returned (.string ⟨l.toArray⟩) ∧ Below B w w' := Any.Builder_String_any Tryz.lays169 Tryz.Builder_Extra_169 B b l w h hBw
def Tryz.lays137_ren : Go.Shelf.Ren := ⟨fun | 137 => 192 | 217 => 216 | 266 => 236 | n => n, fun | 9 => 9 | 5 => 5 | 3 => 3 | n => n, fun | n => n⟩
theorem Tryz.lays137 : Go.Proofs.Lays.n137 Tryz.prog Tryz.lays137_ren := {
  mixed := by kernel_rfl
  f137 := Tryz.func192.trans (congrArg some (by kernel_rfl))
  f217 := Tryz.func216.trans (congrArg some (by kernel_rfl))
  f266 := Tryz.func236.trans (congrArg some (by kernel_rfl))
  t3 := Tryz.underlying3
  a3 := Tryz.isAgg3
  z3 := Tryz.sizeOf3
  v3 := Tryz.zeroValue3
  t5 := Tryz.underlying5
  a5 := Tryz.isAgg5
  z5 := Tryz.sizeOf5
  v5 := Tryz.zeroValue5
  t9 := Tryz.underlying9
  a9 := Tryz.isAgg9
  z9 := Tryz.sizeOf9
  v9 := Tryz.zeroValue9 }
open Go.RowKit in
theorem Tryz.strings_IndexByte (s : ByteArray) (c : Int) (w : World) :
    Calls Tryz.prog 192 #[.string s, .int .u8 c] w fun e w' => e = .returned (.int .i64 (Lib.indexByte s.data.toList c.toNat.toUInt8)) ∧ w' = w := Any.strings_IndexByte Tryz.lays137 s c w
def Tryz.laysM316_ren : Go.Shelf.Ren := ⟨fun | 316 => 188 | n => n, fun | 9 => 9 | 3 => 3 | 4 => 4 | 37 => 87 | 0 => 0 | 127 => 167 | 5 => 5 | n => n, fun | n => n⟩
theorem Tryz.laysM316 : Go.Proofs.LaysM.n316 Tryz.prog Tryz.laysM316_ren := {
  mixed := by kernel_rfl
  f316 := Tryz.func188.trans (congrArg some (by kernel_rfl))
  t0 := Tryz.underlying0
  a0 := Tryz.isAgg0
  z0 := Tryz.sizeOf0
  v0 := Tryz.zeroValue0
  t3 := Tryz.underlying3
  a3 := Tryz.isAgg3
  z3 := Tryz.sizeOf3
  v3 := Tryz.zeroValue3
  t4 := Tryz.underlying4
  a4 := Tryz.isAgg4
  z4 := Tryz.sizeOf4
  v4 := Tryz.zeroValue4
  t9 := Tryz.underlying9
  a9 := Tryz.isAgg9
  z9 := Tryz.sizeOf9
  v9 := Tryz.zeroValue9
  t37 := Tryz.underlying87
  a37 := Tryz.isAgg87
  z37 := Tryz.sizeOf87
  v37 := Tryz.zeroValue87
  t127 := Tryz.underlying167
  a127 := Tryz.isAgg167
  z127 := Tryz.sizeOf167
  v127 := Tryz.zeroValue167
  t5 := Tryz.underlying5
  a5 := Tryz.isAgg5
  z5 := Tryz.sizeOf5
  v5 := Tryz.zeroValue5
  i0 := by kernel_rfl
  i3 := by kernel_rfl
  i4 := by kernel_rfl
  i5 := by kernel_rfl
  i9 := by kernel_rfl
  i37 := by kernel_rfl
  i127 := by kernel_rfl }
open Go.RowKit in
theorem Tryz.stringslite_Clone (s : ByteArray) (w : World) (hlim : s.size ≤ 281474976710656) :
    Calls Tryz.prog 188 #[.string s] w fun e w' => e = .returned (.string s) ∧ Below w.heap.size w w' := Any.stringslite_Clone Tryz.laysM316 s w hlim
def Tryz.laysC172_ren : Go.Shelf.Ren := ⟨fun | 172 => 191 | 244 => 214 | 245 => 215 | 247 => 231 | 279 => 232 | 280 => 233 | 281 => 234 | 282 => 235 | 287 => 240 | 316 => 188 | 171 => 225 | 205 => 241 | 321 => 244 | 322 => 245 | 243 => 239 | 246 => 243 | 283 => 248 | 284 => 249 | 285 => 250 | 286 => 251 | 129 => 254 | 317 => 253 | 318 => 255 | 319 => 256 | 320 => 257 | 337 => 259 | 338 => 260 | n => n, fun | 9 => 9 | 3 => 3 | 75 => 26 | 76 => 58 | 4 => 4 | 5 => 5 | 167 => 309 | 37 => 87 | 0 => 0 | 85 => 310 | 2 => 2 | 168 => 312 | 53 => 316 | 175 => 317 | 46 => 319 | 210 => 321 | 127 => 167 | 145 => 327 | 143 => 325 | 21 => 21 | 171 => 329 | 173 => 332 | 212 => 335 | 51 => 336 | 20 => 20 | 213 => 337 | 232 => 341 | 233 => 342 | 80 => 94 | n => n, fun | 15 => 10 | 16 => 11 | 17 => 13 | 18 => 14 | 19 => 15 | n => n⟩
theorem Tryz.laysC172 : Go.Proofs.LaysC.n172 Tryz.prog Tryz.laysC172_ren := {
  mixed := by kernel_rfl
  f129 := Tryz.func254.trans (congrArg some (by kernel_rfl))
  f171 := Tryz.func225.trans (congrArg some (by kernel_rfl))
  f172 := Tryz.func191.trans (congrArg some (by kernel_rfl))
  f205 := Tryz.func241.trans (congrArg some (by kernel_rfl))
  f243 := Tryz.func239.trans (congrArg some (by kernel_rfl))
  f244 := Tryz.func214.trans (congrArg some (by kernel_rfl))
  f245 := Tryz.func215.trans (congrArg some (by kernel_rfl))
  f246 := Tryz.func243.trans (congrArg some (by kernel_rfl))
  f247 := Tryz.func231.trans (congrArg some (by kernel_rfl))
  f279 := Tryz.func232.trans (congrArg some (by kernel_rfl))
  f280 := Tryz.func233.trans (congrArg some (by kernel_rfl))
  f281 := Tryz.func234.trans (congrArg some (by kernel_rfl))
  f282 := Tryz.func235.trans (congrArg some (by kernel_rfl))
  f283 := Tryz.func248.trans (congrArg some (by kernel_rfl))
  f284 := Tryz.func249.trans (congrArg some (by kernel_rfl))
  f285 := Tryz.func250.trans (congrArg some (by kernel_rfl))
  f286 := Tryz.func251.trans (congrArg some (by kernel_rfl))
  f287 := Tryz.func240.trans (congrArg some (by kernel_rfl))
  f316 := Tryz.func188.trans (congrArg some (by kernel_rfl))
  f317 := Tryz.func253.trans (congrArg some (by kernel_rfl))
  f318 := Tryz.func255.trans (congrArg some (by kernel_rfl))
  f319 := Tryz.func256.trans (congrArg some (by kernel_rfl))
  f320 := Tryz.func257.trans (congrArg some (by kernel_rfl))
  f321 := Tryz.func244.trans (congrArg some (by kernel_rfl))
  f322 := Tryz.func245.trans (congrArg some (by kernel_rfl))
  f337 := Tryz.func259.trans (congrArg some (by kernel_rfl))
  f338 := Tryz.func260.trans (congrArg some (by kernel_rfl))
  t0 := Tryz.underlying0
  a0 := Tryz.isAgg0
  z0 := Tryz.sizeOf0
  v0 := Tryz.zeroValue0
  t2 := Tryz.underlying2
  a2 := Tryz.isAgg2
  z2 := Tryz.sizeOf2
  v2 := Tryz.zeroValue2
  t3 := Tryz.underlying3
  a3 := Tryz.isAgg3
  z3 := Tryz.sizeOf3
  v3 := Tryz.zeroValue3
  t4 := Tryz.underlying4
  a4 := Tryz.isAgg4
  z4 := Tryz.sizeOf4
  v4 := Tryz.zeroValue4
  t5 := Tryz.underlying5
  a5 := Tryz.isAgg5
  z5 := Tryz.sizeOf5
  v5 := Tryz.zeroValue5
  t9 := Tryz.underlying9
  a9 := Tryz.isAgg9
  z9 := Tryz.sizeOf9
  v9 := Tryz.zeroValue9
  t20 := Tryz.underlying20
  a20 := Tryz.isAgg20
  z20 := Tryz.sizeOf20
  v20 := Tryz.zeroValue20
  t21 := Tryz.underlying21
  a21 := Tryz.isAgg21
  z21 := Tryz.sizeOf21
  v21 := Tryz.zeroValue21
  t37 := Tryz.underlying87
  a37 := Tryz.isAgg87
  z37 := Tryz.sizeOf87
  v37 := Tryz.zeroValue87
  t46 := Tryz.underlying319
  a46 := Tryz.isAgg319
  z46 := Tryz.sizeOf319
  v46 := Tryz.zeroValue319
  t51 := Tryz.underlying336
  a51 := Tryz.isAgg336
  z51 := Tryz.sizeOf336
  v51 := Tryz.zeroValue336
  t53 := Tryz.underlying316
  a53 := Tryz.isAgg316
  z53 := Tryz.sizeOf316
  v53 := Tryz.zeroValue316
  t75 := Tryz.underlying26
  a75 := Tryz.isAgg26
  z75 := Tryz.sizeOf26
  v75 := Tryz.zeroValue26
  t76 := Tryz.underlying58
  a76 := Tryz.isAgg58
  z76 := Tryz.sizeOf58
  v76 := Tryz.zeroValue58
  t85 := Tryz.underlying310
  a85 := Tryz.isAgg310
  z85 := Tryz.sizeOf310
  v85 := Tryz.zeroValue310
  t127 := Tryz.underlying167
  a127 := Tryz.isAgg167
  z127 := Tryz.sizeOf167
  v127 := Tryz.zeroValue167
  t143 := Tryz.underlying325
  a143 := Tryz.isAgg325
  z143 := Tryz.sizeOf325
  v143 := Tryz.zeroValue325
  t145 := Tryz.underlying327
  a145 := Tryz.isAgg327
  z145 := Tryz.sizeOf327
  v145 := Tryz.zeroValue327
  t167 := Tryz.underlying309
  a167 := Tryz.isAgg309
  z167 := Tryz.sizeOf309
  v167 := Tryz.zeroValue309
  t168 := Tryz.underlying312
  a168 := Tryz.isAgg312
  z168 := Tryz.sizeOf312
  v168 := Tryz.zeroValue312
  t171 := Tryz.underlying329
  a171 := Tryz.isAgg329
  z171 := Tryz.sizeOf329
  v171 := Tryz.zeroValue329
  t173 := Tryz.underlying332
  a173 := Tryz.isAgg332
  z173 := Tryz.sizeOf332
  v173 := Tryz.zeroValue332
  t175 := Tryz.underlying317
  a175 := Tryz.isAgg317
  z175 := Tryz.sizeOf317
  v175 := Tryz.zeroValue317
  t210 := Tryz.underlying321
  a210 := Tryz.isAgg321
  z210 := Tryz.sizeOf321
  v210 := Tryz.zeroValue321
  t212 := Tryz.underlying335
  a212 := Tryz.isAgg335
  z212 := Tryz.sizeOf335
  v212 := Tryz.zeroValue335
  t213 := Tryz.underlying337
  a213 := Tryz.isAgg337
  z213 := Tryz.sizeOf337
  t232 := Tryz.underlying341
  a232 := Tryz.isAgg341
  z232 := Tryz.sizeOf341
  v232 := Tryz.zeroValue341
  t233 := Tryz.underlying342
  a233 := Tryz.isAgg342
  z233 := Tryz.sizeOf342
  v233 := Tryz.zeroValue342
  g15 := by kernel_rfl
  g16 := by kernel_rfl
  g17 := by kernel_rfl
  g18 := by kernel_rfl
  g19 := by kernel_rfl
  t80 := Tryz.underlying94
  a80 := Tryz.isAgg94
  z80 := Tryz.sizeOf94
  v80 := Tryz.zeroValue94
  i0 := by kernel_rfl
  i2 := by kernel_rfl
  i3 := by kernel_rfl
  i4 := by kernel_rfl
  i5 := by kernel_rfl
  i9 := by kernel_rfl
  i20 := by kernel_rfl
  i21 := by kernel_rfl
  i37 := by kernel_rfl
  i46 := by kernel_rfl
  i51 := by kernel_rfl
  i53 := by kernel_rfl
  i75 := by kernel_rfl
  i76 := by kernel_rfl
  i80 := by kernel_rfl
  i85 := by kernel_rfl
  i127 := by kernel_rfl
  i143 := by kernel_rfl
  i145 := by kernel_rfl
  i167 := by kernel_rfl
  i168 := by kernel_rfl
  i171 := by kernel_rfl
  i173 := by kernel_rfl
  i175 := by kernel_rfl
  i210 := by kernel_rfl
  i212 := by kernel_rfl
  i232 := by kernel_rfl
  i233 := by kernel_rfl
  m15 := by kernel_rfl
  m16 := by kernel_rfl
  m17 := by kernel_rfl
  m18 := by kernel_rfl
  m19 := by kernel_rfl
  c0 := by kernel_rfl
  c2 := by kernel_rfl
  c3 := by kernel_rfl
  c4 := by kernel_rfl
  c5 := by kernel_rfl
  c9 := by kernel_rfl
  c20 := by kernel_rfl
  c21 := by kernel_rfl
  c37 := by kernel_rfl
  c46 := by kernel_rfl
  c51 := by kernel_rfl
  c53 := by kernel_rfl
  c75 := by kernel_rfl
  c76 := by kernel_rfl
  c80 := by kernel_rfl
  c85 := by kernel_rfl
  c127 := by kernel_rfl
  c143 := by kernel_rfl
  c145 := by kernel_rfl
  c167 := by kernel_rfl
  c168 := by kernel_rfl
  c171 := by kernel_rfl
  c173 := by kernel_rfl
  c175 := by kernel_rfl
  c210 := by kernel_rfl
  c212 := by kernel_rfl
  c213 := by kernel_rfl
  c232 := by kernel_rfl
  c233 := by kernel_rfl }
open Go.RowKit in
theorem Tryz.strconv_Atoi_ok (s : ByteArray) (hmax : s.size ≤ 9223372036854775806) (v : Int) (h : Lib.atoiAll s.data.toList = .ok v) (w : World) :
    Calls Tryz.prog 191 #[.string s] w fun e w' => e = .returned (.tuple #[.int .i64 v, .nilIface]) ∧ (w' = w ∨ ∃ t, w' = Lib.bytesWorld w 5 t) := Any.strconv_Atoi_ok Tryz.laysC172 s hmax v h w
open Go.RowKit in
theorem Tryz.strconv_Atoi_range (s : ByteArray) (hlim : s.size ≤ 281474976710656) (h : Lib.atoiAll s.data.toList = .range) (ev : Value) (w : World) (hv : w.cell? ⟨11, 0, none⟩ = some ev) (hev : ev = .nilIface ∨ ∃ te pe, ev = .iface te pe) :
    Calls Tryz.prog 191 #[.string s] w fun e w' => ∃ N, e = .returned (.tuple #[.int .i64 (Lib.atoiSat s.data.toList), .iface 312 (.pointer (some ⟨N, 0, none⟩))]) ∧ w.heap.size ≤ N ∧ w'.heap[N]? = some (.cells #[.string ⟨#[65, 116, 111, 105]⟩, .string s, ev] 321 (0, 0)) ∧ Below w.heap.size w w' := Any.strconv_Atoi_range Tryz.laysC172 s hlim h ev w hv hev
def Tryz.lays99_ren : Go.Shelf.Ren := ⟨fun | 99 => 140 | 206 => 189 | n => n, fun | 9 => 9 | 4 => 4 | 3 => 3 | n => n, fun | n => n⟩
theorem Tryz.lays99 : Go.Proofs.Lays.n99 Tryz.prog Tryz.lays99_ren := {
  mixed := by kernel_rfl
  f99 := Tryz.func140.trans (congrArg some (by kernel_rfl))
  f206 := Tryz.func189.trans (congrArg some (by kernel_rfl))
  t3 := Tryz.underlying3
  a3 := Tryz.isAgg3
  z3 := Tryz.sizeOf3
  v3 := Tryz.zeroValue3
  t4 := Tryz.underlying4
  a4 := Tryz.isAgg4
  z4 := Tryz.sizeOf4
  v4 := Tryz.zeroValue4
  t9 := Tryz.underlying9
  a9 := Tryz.isAgg9
  z9 := Tryz.sizeOf9
  v9 := Tryz.zeroValue9 }
open Go.RowKit Go.Lib in
theorem Tryz.strings_HasPrefix (s p : ByteArray) (w : World) :
    Calls Tryz.prog 140 #[.string s, .string p] w fun e w' => e = .returned (.bool (Lib.hasPrefix s.data.toList p.data.toList)) ∧ w' = w := Any.strings_HasPrefix Tryz.lays99 s p w
end Go.Proofs
