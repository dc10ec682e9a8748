/-
  THE SMALL FUNCTIONS OF package lex, BY THEIR CONTRACTS: which bytes are blanks, letters, digits; the kind of a name, of an operator. No conditions.
-/
import Derived.Test.YtomgimfmcfjhdaaGreatDoorChecked
import Derived.Test.YtomgimfmcfjhdaaGreatDoorP03
import Derived.WalkKit
import Derived.Test.YtomgimfmcfjhdaaGreatDoorP01
import Derived.Laws.EntriesVeiled
import Derived.Deep.QuietTactic
import Derived.BigQuiet
import Derived.WalkSmall
namespace Go.Proofs.YtomgimfmcfjhdaaGreatDoor
open Go.RowKit

theorem ret_bool {a b : Bool} (h : a = b) : Ending.returned (.bool a) = .returned (.bool b) := by rw [h]
theorem ret_str {a b : ByteArray} (h : a = b) : Ending.returned (.string a) = .returned (.string b) := by rw [h]
theorem ret_i64 {a b : Int} (h : a = b) : Ending.returned (.int .i64 a) = .returned (.int .i64 b) := by rw [h]

theorem isBlank_any (c : Int) (w : World) : Calls Tryz.prog 67 #[.int .u8 c] w fun e w' => e = .returned (.bool (blankI c)) ∧ w' = w := by
  go_enter Tryz.func67, Tryz.ntmps67
  go_wp2
  all_goals (go_ret; exact ⟨ret_bool (by simp [blankI, *]), rfl⟩)
theorem notNl_any (c : Int) (w : World) : Calls Tryz.prog 69 #[.int .u8 c] w fun e w' => e = .returned (.bool (notNlI c)) ∧ w' = w := by
  go_enter Tryz.func69, Tryz.ntmps69
  go_wp2
  all_goals (go_ret; exact ⟨ret_bool (by simp [notNlI, *]), rfl⟩)
theorem isSmall_any (c : Int) (w : World) : Calls Tryz.prog 71 #[.int .u8 c] w fun e w' => e = .returned (.bool (lowI c)) ∧ w' = w := by
  go_enter Tryz.func71, Tryz.ntmps71
  go_wp2
  all_goals (go_ret; exact ⟨ret_bool (by simp [lowI]; omega), rfl⟩)
theorem isDigit_any (c : Int) (w : World) : Calls Tryz.prog 74 #[.int .u8 c] w fun e w' => e = .returned (.bool (digI c)) ∧ w' = w := by
  go_enter Tryz.func74, Tryz.ntmps74
  go_wp2
  all_goals (go_ret; exact ⟨ret_bool (by simp [digI]; omega), rfl⟩)
theorem isOfName_any (c : Int) (w : World) : Calls Tryz.prog 72 #[.int .u8 c] w fun e w' => e = .returned (.bool (nameI c)) ∧ w' = w := by
  go_enter Tryz.func72, Tryz.ntmps72
  go_wp2_with (first | (go_at_call 71; refine (isSmall_any _ _).mono ?_; rintro e w' ⟨rfl, rfl⟩) | (go_at_call 74; refine (isDigit_any _ _).mono ?_; rintro e w' ⟨rfl, rfl⟩))
  all_goals (go_ret; exact ⟨ret_bool (by simp [nameI, *]), rfl⟩)

theorem isWord_any (t : ByteArray) (w : World) : Calls Tryz.prog 106 #[.string t] w fun e w' => e = .returned (.bool (wordB t)) ∧ w' = w := by
  go_enter Tryz.func106, Tryz.ntmps106
  go_wp2
  all_goals (go_ret; exact ⟨ret_bool (by simp_all [wordB, wordL]), rfl⟩)
theorem opKind_any (t : ByteArray) (w : World) : Calls Tryz.prog 77 #[.string t] w fun e w' => e = .returned (.string (opK t)) ∧ w' = w := by
  go_enter Tryz.func77, Tryz.ntmps77
  go_wp2
  all_goals (go_ret; exact ⟨ret_str (by simp [opK, kNone, kOp, *]), rfl⟩)
theorem nameKind_any (t : ByteArray) (w : World) (ht : t.size ≤ 6000) : Calls Tryz.prog 73 #[.string t] w fun e w' => e = .returned (.string (nameK t)) ∧ w' = w := by
  go_enter Tryz.func73, Tryz.ntmps73
  go_wp2_with (go_at_call 106; refine (isWord_any _ _).mono ?_; rintro e w' ⟨rfl, rfl⟩)
  all_goals (go_ret; exact ⟨ret_str (by first | (rw [nameK, if_pos (by omega)]; rfl) | (rw [nameK, if_neg (by omega)]; simp [kWord, kName, *])), rfl⟩)
theorem opLength_any (s : ByteArray) (w : World) (hs : s.size ≤ 6000) : Calls Tryz.prog 76 #[.string s] w fun e w' => e = .returned (.int .i64 (opN s)) ∧ w' = w := by
  have hnil := nil_iff s
  have HN : Hid (s.toList = [] ↔ s.size = 0) := hnil
  clear hnil
  go_enter Tryz.func76, Tryz.ntmps76
  go_wp2_with (go_at_call 108; refine (Tryz.strings_IndexByte _ _ _).mono ?_; rintro e w' ⟨rfl, rfl⟩)
  all_goals (try (have hz := HN.out; first | (exfalso; simp_all; done) | (exfalso; simp_all; omega)))
  all_goals (try go_ret)
  all_goals (first
    | exact ⟨ret_i64 (by have h2 : twoB s = true := (by first | exact twoB_of (l := [60, 62]) ‹_› (by decide) ‹_› | exact twoB_of (l := [60, 61]) ‹_› (by decide) ‹_› | exact twoB_of (l := [62, 61]) ‹_› (by decide) ‹_› | exact twoB_of (l := [61, 62]) ‹_› (by decide) ‹_› | exact twoB_of (l := [45, 62]) ‹_› (by decide) ‹_›); rw [opN_two h2]; rfl), rfl⟩
    | exact ⟨ret_i64 (by rw [opN_one (twoB_none ‹_› ‹_› ‹_› ‹_› ‹_›) (oneB_of ‹_› ‹_›)]; rfl), rfl⟩
    | exact ⟨ret_i64 (by rw [opN_none (twoB_none ‹_› ‹_› ‹_› ‹_› ‹_›) (oneB_not ‹_› ‹_›)]; rfl), rfl⟩
    | exact ⟨ret_i64 (by rw [opN_one (twoB_short ‹_›) (oneB_of ‹_› ‹_›)]; rfl), rfl⟩
    | exact ⟨ret_i64 (by rw [opN_none (twoB_short ‹_›) (oneB_not ‹_› ‹_›)]; rfl), rfl⟩
    | exact ⟨ret_i64 (by rw [opN_none (twoB_short ‹_›) (oneB_nil (by have := HN.out.1 ‹_›; omega))]; rfl), rfl⟩
    | fail)

theorem intKind_any (t : ByteArray) (w : World) (ht : 0 < t.size) (hs : t.size ≤ 6000) (hd : ∀ k, k < t.size → digI (byteI t k) = true) (ev : Value) (hv : w.cell? ⟨11, 0, none⟩ = some ev) (hev : ev = .nilIface ∨ ∃ te pe, ev = .iface te pe) :
    Calls Tryz.prog 75 #[.string t] w fun e w' => e = .returned (.string (intK t)) ∧ Below w.heap.size w w' := by
  rcases atoi_digits t ht hd with h1 | ⟨h1, h2⟩
  · go_enter Tryz.func75, Tryz.ntmps75
    go_wp2_with fail
    refine (Tryz.strconv_Atoi_ok t (by omega) _ h1 _).mono ?_
    rintro e w1 ⟨rfl, hw1⟩
    have hb : Below w.heap.size w w1 := by
      rcases hw1 with rfl | ⟨t1, rfl⟩
      · exact Below.refl _ _
      · exact Lib.bytesWorld_below w _ t1
    clear hw1 h1
    go_wp2
    all_goals go_ret
    all_goals (first
      | exact ⟨ret_str (intK_big ‹_›).symm, hb⟩
      | exact ⟨ret_str (intK_yes ht ‹_› (Or.inl ‹_›)).symm, hb⟩
      | exact ⟨ret_str (intK_yes ht ‹_› (Or.inr (And.right ‹_›))).symm, hb⟩
      | exact ⟨ret_str (intK_zero ht ‹_› (by have h := ‹_ ∨ (_ == (48 : Int)) = true›; rcases h with h | h; (exfalso; omega); simpa using h)).symm, hb⟩)
  · have hbig : (127 : Int) < (valL t.data.toList : Int) := by omega
    go_enter Tryz.func75, Tryz.ntmps75
    go_wp2_with fail
    refine (Tryz.strconv_Atoi_range t (by omega) h1 ev _ hv hev).mono ?_
    rintro e w1 ⟨N, rfl, hN, hblk, hb⟩
    clear h1 hv hev
    go_wp2
    all_goals go_ret
    all_goals exact ⟨ret_str (intK_big hbig).symm, hb⟩
end Go.Proofs.YtomgimfmcfjhdaaGreatDoor

/-
  THE CLOSURES OF lex.reader, BY THEIR CONTRACTS: cut, take, skip. Conditions: the reader's five variables lie in memory as lex.reader lays them ('Rdr'); the place is within the text, the text of at most 6000 bytes.
-/
namespace Go.Proofs.YtomgimfmcfjhdaaGreatDoor
open Go.RowKit

/-- Of what was there all is as it was, but block ba. -/
abbrev Mv (ba : Nat) (w w' : World) : Prop := w.grownBy w' (some ba)
theorem Mv.refl (ba : Nat) (w : World) : Mv ba w w := ⟨rfl, rfl, rfl, Nat.le_refl _, fun _ _ _ => rfl⟩
theorem Mv.trans {ba : Nat} {a b c : World} (h : Mv ba a b) (k : Mv ba b c) : Mv ba a c :=
  ⟨k.os.trans h.os, k.tape.trans h.tape, k.output.trans h.output, Nat.le_trans h.size k.size, fun i hi hn => (k.block i (Nat.lt_of_lt_of_le hi h.size) hn).trans (h.block i hi hn)⟩
theorem Mv.of_below {ba : Nat} {w w' : World} (h : Below w.heap.size w w') : Mv ba w w' := ⟨h.os, h.tape, h.output, h.size, fun k hk _ => h.block k hk⟩
theorem Mv.set (ba : Nat) (w : World) (v : Value) : Mv ba w (w.setCell ⟨ba, 0, none⟩ v) :=
  ⟨rfl, rfl, rfl, by simp [World.setCell], fun k _ hn => Below.heap_setCell _ _ _ _ (fun e => hn (by rw [e]))⟩
theorem Mv.cell {ba : Nat} {w w' : World} (h : Mv ba w w') {p : Addr} {v : Value} (hp : p.block ≠ ba) (hc : w.cell? p = some v) : w'.cell? p = some v := by
  have hl : p.block < w.heap.size := by
    rcases Nat.lt_or_ge p.block w.heap.size with h | h
    · exact h
    · simp [World.cell?, Array.getElem?_eq_none h] at hc
  rw [World.cell?_of_block (w := w) (h.block p.block hl (fun e => hp (Option.some.inj e)))]; exact hc

/-- A reader: its text, where it stands, its closures. -/
structure Rdr (bs ba bc bt bk : Nat) (s : ByteArray) (i : Nat) (w : World) : Prop where
  hs : w.cell? ⟨bs, 0, none⟩ = some (.string s)
  ha : w.cell? ⟨ba, 0, none⟩ = some (.int .i64 i)
  hf : w.frozen? ⟨ba, 0, none⟩ = false
  hc : w.cell? ⟨bc, 0, none⟩ = some (.func (.func 63) #[] #[.pointer (some ⟨ba, 0, none⟩), .pointer (some ⟨bs, 0, none⟩)])
  ht : w.cell? ⟨bt, 0, none⟩ = some (.func (.func 65) #[] #[.pointer (some ⟨ba, 0, none⟩), .pointer (some ⟨bs, 0, none⟩), .pointer (some ⟨bc, 0, none⟩)])
  hk : w.cell? ⟨bk, 0, none⟩ = some (.func (.func 66) #[] #[.pointer (some ⟨bt, 0, none⟩), .pointer (some ⟨bs, 0, none⟩), .pointer (some ⟨ba, 0, none⟩)])
  ns : bs ≠ ba
  nc : bc ≠ ba
  nt : bt ≠ ba
  nk : bk ≠ ba
theorem Rdr.go {bs ba bc bt bk : Nat} {s : ByteArray} {i j : Nat} {w w' : World} (R : Rdr bs ba bc bt bk s i w) (h : Mv ba w w') (ha : w'.cell? ⟨ba, 0, none⟩ = some (.int .i64 j)) (hf : w'.frozen? ⟨ba, 0, none⟩ = false) : Rdr bs ba bc bt bk s j w' :=
  ⟨h.cell R.ns R.hs, ha, hf, h.cell R.nc R.hc, h.cell R.nt R.ht, h.cell R.nk R.hk, R.ns, R.nc, R.nt, R.nk⟩

theorem reader_any (s : ByteArray) (w : World) : Calls Tryz.prog 26 #[.string s] w fun e w' => ∃ bs ba bc bt bk : Nat, e = .returned (.func (.func 70) #[] #[.pointer (some ⟨bk, 0, none⟩), .pointer (some ⟨ba, 0, none⟩), .pointer (some ⟨bs, 0, none⟩), .pointer (some ⟨bt, 0, none⟩), .pointer (some ⟨bc, 0, none⟩)]) ∧ w.heap.size ≤ ba ∧ Rdr bs ba bc bt bk s 0 w' ∧ Below w.heap.size w w' := by
  go_enter Tryz.func26, Tryz.ntmps26
  go_wp2
  go_ret
  refine ⟨w.heap.size, w.heap.size + 1, w.heap.size + 1 + 1, w.heap.size + 1 + 1 + 1, w.heap.size + 1 + 1 + 1 + 1, rfl, by omega, ⟨?_, ?_, ?_, ?_, ?_, ?_, by omega, by omega, by omega, by omega⟩, ?_⟩
  · rw [World.cell?_alloc_past _ _ _ (by simp <;> omega), World.cell?_alloc_past _ _ _ (by simp <;> omega), World.cell?_alloc_past _ _ _ (by simp <;> omega), World.cell?_alloc_past _ _ _ (by simp <;> omega), World.cell?_alloc_at _ _ _ _ (by simp)]; rfl
  · rw [World.cell?_alloc_past _ _ _ (by simp <;> omega), World.cell?_alloc_past _ _ _ (by simp <;> omega), World.cell?_alloc_past _ _ _ (by simp <;> omega), World.cell?_alloc_at _ _ _ _ (by simp)]; rfl
  · rw [World.frozen?_alloc_past _ _ _ (by simp <;> omega), World.frozen?_alloc_past _ _ _ (by simp <;> omega), World.frozen?_alloc_past _ _ _ (by simp <;> omega), World.frozen?_alloc_at _ _ _ _ (by simp)]
  · rw [World.cell?_alloc_past _ _ _ (by simp <;> omega), World.cell?_alloc_past _ _ _ (by simp <;> omega), World.cell?_alloc_at _ _ _ _ (by simp)]; rfl
  · rw [World.cell?_alloc_past _ _ _ (by simp <;> omega), World.cell?_alloc_at _ _ _ _ (by simp)]; rfl
  · rw [World.cell?_alloc_at _ _ _ _ (by simp)]; rfl
  · exact (((((Below.refl _ _).alloc (Nat.le_refl _) _).alloc (by simp) _).alloc (by simp; omega) _).alloc (by simp; omega) _).alloc (by simp; omega) _

theorem clone_any (s : ByteArray) (w : World) (hs : s.size ≤ 6000) : Calls Tryz.prog 64 #[.string s] w fun e w' => e = .returned (.string s) ∧ Below w.heap.size w w' := by
  go_enter Tryz.func64, Tryz.ntmps64
  go_wp2_with (go_at_call 104; refine (Tryz.stringslite_Clone _ _ (by omega)).mono ?_; rintro e w' ⟨rfl, hb⟩)
  go_ret
  exact ⟨rfl, hb⟩

theorem slice_mid (s : ByteArray) (i n : Nat) (h : i + n ≤ s.size) (W : World) : (Instr.slice 9 (.string s) (some (.int .i64 (i : Int))) (some (.int .i64 ((i : Int) + (n : Int)))) none).run Tryz.prog W = .ok (.string (s.extract i (i + n))) W := by
  have h1 : ((i : Int) + (n : Int)).toNat = i + n := by omega
  have h2 : 0 ≤ (i : Int) + (n : Int) := by omega
  have h3 : ¬ (s.size : Int) < (i : Int) + (n : Int) := by omega
  simp [Instr.slice, Instr.sliceBounds, Instr.sliceBound, asIntOf, run_underlying Tryz.underlying9, h1, h2, h3, go_sem]
theorem slice_from (s : ByteArray) (i : Nat) (h : i ≤ s.size) (W : World) : (Instr.slice 9 (.string s) (some (.int .i64 (i : Int))) none none).run Tryz.prog W = .ok (.string (s.extract i s.size)) W := by
  have h3 : ¬ s.size < i := by omega
  simp [Instr.slice, Instr.sliceBounds, Instr.sliceBound, asIntOf, run_underlying Tryz.underlying9, h3, go_sem]

set_option maxRecDepth 100000 in
set_option maxHeartbeats 1000000 in
theorem cut_any (bs ba bc bt bk : Nat) (s : ByteArray) (i n : Nat) (w : World) (R : Rdr bs ba bc bt bk s i w) (h : i + n ≤ s.size) (hs : s.size ≤ 6000) :
    Calls Tryz.prog 63 #[.int .i64 n, .pointer (some ⟨ba, 0, none⟩), .pointer (some ⟨bs, 0, none⟩)] w fun e w' => e = .returned (.string (s.extract i (i + n))) ∧ Rdr bs ba bc bt bk s (i + n) w' ∧ Mv ba w w' := by
  have c1 := R.hs
  have c2 := R.ha
  have c3 := R.hf
  have hne : (⟨ba, 0, none⟩ : Addr) ≠ ⟨bs, 0, none⟩ := fun e => R.ns (by injection e with e1; exact e1.symm)
  have c4 : (w.setCell ⟨ba, 0, none⟩ (.int .i64 ((i : Int) + n))).cell? ⟨bs, 0, none⟩ = some (.string s) := by rw [World.cell?_setCell_other _ _ _ _ hne]; exact c1
  have c5 : (w.setCell ⟨ba, 0, none⟩ (.int .i64 ((i : Int) + n))).cell? ⟨ba, 0, none⟩ = some (.int .i64 ((i : Int) + n)) := World.cell?_setCell_same _ _ _ c2
  have c6 : (w.setCell ⟨ba, 0, none⟩ (.int .i64 ((i : Int) + n))).frozen? ⟨ba, 0, none⟩ = false := by rw [World.frozen?_setCell]; exact c3
  have hsl := slice_mid s i n h
  have hsz : (s.extract i (i + n)).size ≤ 6000 := by rw [ByteArray.size_extract]; omega
  go_enter Tryz.func63, Tryz.ntmps63
  go_wp2_with (go_at_call 64; refine (clone_any _ _ hsz).mono ?_; rintro e w1 ⟨rfl, hb⟩)
  go_ret
  have e0 : ((i : Int) + (n : Int)) = ((i + n : Nat) : Int) := by omega
  refine ⟨rfl, R.go ((Mv.set ba w _).trans (Mv.of_below hb)) ?_ ?_, (Mv.set ba w _).trans (Mv.of_below hb)⟩
  · rw [← e0]; exact cell_keep hb c5
  · rw [hb.frozen (p := ⟨ba, 0, none⟩) (by rcases Nat.lt_or_ge ba (w.setCell ⟨ba, 0, none⟩ (.int .i64 ((i : Int) + n))).heap.size with h | h; (exact h); (simp [World.cell?, Array.getElem?_eq_none h] at c5))]; exact c6

set_option maxRecDepth 100000 in
set_option maxHeartbeats 1000000 in
theorem take_blankI (bs ba bc bt bk : Nat) (s : ByteArray) (i : Nat) (w : World) (R : Rdr bs ba bc bt bk s i w) (hi : i ≤ s.size) (hs : s.size ≤ 6000) :
    Calls Tryz.prog 65 #[.func (.func 67) #[] #[], .pointer (some ⟨ba, 0, none⟩), .pointer (some ⟨bs, 0, none⟩), .pointer (some ⟨bc, 0, none⟩)] w fun e w' => ∃ n, IsRun blankI s i n ∧ e = .returned (.string (s.extract i (i + n))) ∧ Rdr bs ba bc bt bk s (i + n) w' ∧ Mv ba w w' := by
  have c1 := R.hs
  have c2 := R.ha
  have c3 := R.hc
  go_enter Tryz.func65, Tryz.ntmps65
  go_wp2
  go_loop [6] (fun t => ∃ n : Nat, i + n ≤ s.size ∧ t = .int .i64 n ∧ Hid (∀ k, k < n → blankI (byteI s (i + k)) = true)) (fun t => s.size - (intOf t).toNat)
  case atStart => exact ⟨0, by omega, rfl, fun k hk => by omega⟩
  case round =>
    obtain ⟨n, hn, rfl, hall⟩ := hrel
    by_cases hlt : i + n < s.size
    · have hbyte := byteI_lt hlt
      have HB : Hid (byteI s (i + n) = (s[i + n].toNat : Int)) := hbyte
      clear hbyte
      go_wp2_with (first | (go_at_call 67; refine (isBlank_any _ _).mono ?_; rintro e w' ⟨rfl, rfl⟩) | fail)
      · have hp : blankI (s[i + n].toNat : Int) = true := by assumption
        refine ⟨⟨n + 1, by omega, by go_num, ?_⟩, by simp [intOf]; omega⟩
        intro k hk
        by_cases e : k = n
        · subst e; rw [HB.out]; exact hp
        · exact hall.out k (by omega)
      · have hp : blankI (s[i + n].toNat : Int) = false := by assumption
        refine (cut_any _ _ bc bt bk s i n _ R hn hs).mono ?_
        rintro e w1 ⟨rfl, R1, hm⟩
        go_wp2
        go_ret
        exact ⟨n, ⟨hn, hall.out, fun _ => by rw [HB.out]; exact hp⟩, rfl, R1, hm⟩
    · go_wp2_with fail
      refine (cut_any _ _ bc bt bk s i n _ R hn hs).mono ?_
      rintro e w1 ⟨rfl, R1, hm⟩
      go_wp2
      go_ret
      exact ⟨n, ⟨hn, hall.out, fun h => absurd h hlt⟩, rfl, R1, hm⟩

set_option maxRecDepth 100000 in
set_option maxHeartbeats 1000000 in
theorem take_notNlI (bs ba bc bt bk : Nat) (s : ByteArray) (i : Nat) (w : World) (R : Rdr bs ba bc bt bk s i w) (hi : i ≤ s.size) (hs : s.size ≤ 6000) :
    Calls Tryz.prog 65 #[.func (.func 69) #[] #[], .pointer (some ⟨ba, 0, none⟩), .pointer (some ⟨bs, 0, none⟩), .pointer (some ⟨bc, 0, none⟩)] w fun e w' => ∃ n, IsRun notNlI s i n ∧ e = .returned (.string (s.extract i (i + n))) ∧ Rdr bs ba bc bt bk s (i + n) w' ∧ Mv ba w w' := by
  have c1 := R.hs
  have c2 := R.ha
  have c3 := R.hc
  go_enter Tryz.func65, Tryz.ntmps65
  go_wp2
  go_loop [6] (fun t => ∃ n : Nat, i + n ≤ s.size ∧ t = .int .i64 n ∧ Hid (∀ k, k < n → notNlI (byteI s (i + k)) = true)) (fun t => s.size - (intOf t).toNat)
  case atStart => exact ⟨0, by omega, rfl, fun k hk => by omega⟩
  case round =>
    obtain ⟨n, hn, rfl, hall⟩ := hrel
    by_cases hlt : i + n < s.size
    · have hbyte := byteI_lt hlt
      have HB : Hid (byteI s (i + n) = (s[i + n].toNat : Int)) := hbyte
      clear hbyte
      go_wp2_with (first | (go_at_call 69; refine (notNl_any _ _).mono ?_; rintro e w' ⟨rfl, rfl⟩) | fail)
      · have hp : notNlI (s[i + n].toNat : Int) = true := by assumption
        refine ⟨⟨n + 1, by omega, by go_num, ?_⟩, by simp [intOf]; omega⟩
        intro k hk
        by_cases e : k = n
        · subst e; rw [HB.out]; exact hp
        · exact hall.out k (by omega)
      · have hp : notNlI (s[i + n].toNat : Int) = false := by assumption
        refine (cut_any _ _ bc bt bk s i n _ R hn hs).mono ?_
        rintro e w1 ⟨rfl, R1, hm⟩
        go_wp2
        go_ret
        exact ⟨n, ⟨hn, hall.out, fun _ => by rw [HB.out]; exact hp⟩, rfl, R1, hm⟩
    · go_wp2_with fail
      refine (cut_any _ _ bc bt bk s i n _ R hn hs).mono ?_
      rintro e w1 ⟨rfl, R1, hm⟩
      go_wp2
      go_ret
      exact ⟨n, ⟨hn, hall.out, fun h => absurd h hlt⟩, rfl, R1, hm⟩

set_option maxRecDepth 100000 in
set_option maxHeartbeats 1000000 in
theorem take_nameI (bs ba bc bt bk : Nat) (s : ByteArray) (i : Nat) (w : World) (R : Rdr bs ba bc bt bk s i w) (hi : i ≤ s.size) (hs : s.size ≤ 6000) :
    Calls Tryz.prog 65 #[.func (.func 72) #[] #[], .pointer (some ⟨ba, 0, none⟩), .pointer (some ⟨bs, 0, none⟩), .pointer (some ⟨bc, 0, none⟩)] w fun e w' => ∃ n, IsRun nameI s i n ∧ e = .returned (.string (s.extract i (i + n))) ∧ Rdr bs ba bc bt bk s (i + n) w' ∧ Mv ba w w' := by
  have c1 := R.hs
  have c2 := R.ha
  have c3 := R.hc
  go_enter Tryz.func65, Tryz.ntmps65
  go_wp2
  go_loop [6] (fun t => ∃ n : Nat, i + n ≤ s.size ∧ t = .int .i64 n ∧ Hid (∀ k, k < n → nameI (byteI s (i + k)) = true)) (fun t => s.size - (intOf t).toNat)
  case atStart => exact ⟨0, by omega, rfl, fun k hk => by omega⟩
  case round =>
    obtain ⟨n, hn, rfl, hall⟩ := hrel
    by_cases hlt : i + n < s.size
    · have hbyte := byteI_lt hlt
      have HB : Hid (byteI s (i + n) = (s[i + n].toNat : Int)) := hbyte
      clear hbyte
      go_wp2_with (first | (go_at_call 72; refine (isOfName_any _ _).mono ?_; rintro e w' ⟨rfl, rfl⟩) | fail)
      · have hp : nameI (s[i + n].toNat : Int) = true := by assumption
        refine ⟨⟨n + 1, by omega, by go_num, ?_⟩, by simp [intOf]; omega⟩
        intro k hk
        by_cases e : k = n
        · subst e; rw [HB.out]; exact hp
        · exact hall.out k (by omega)
      · have hp : nameI (s[i + n].toNat : Int) = false := by assumption
        refine (cut_any _ _ bc bt bk s i n _ R hn hs).mono ?_
        rintro e w1 ⟨rfl, R1, hm⟩
        go_wp2
        go_ret
        exact ⟨n, ⟨hn, hall.out, fun _ => by rw [HB.out]; exact hp⟩, rfl, R1, hm⟩
    · go_wp2_with fail
      refine (cut_any _ _ bc bt bk s i n _ R hn hs).mono ?_
      rintro e w1 ⟨rfl, R1, hm⟩
      go_wp2
      go_ret
      exact ⟨n, ⟨hn, hall.out, fun h => absurd h hlt⟩, rfl, R1, hm⟩

set_option maxRecDepth 100000 in
set_option maxHeartbeats 1000000 in
theorem take_digI (bs ba bc bt bk : Nat) (s : ByteArray) (i : Nat) (w : World) (R : Rdr bs ba bc bt bk s i w) (hi : i ≤ s.size) (hs : s.size ≤ 6000) :
    Calls Tryz.prog 65 #[.func (.func 74) #[] #[], .pointer (some ⟨ba, 0, none⟩), .pointer (some ⟨bs, 0, none⟩), .pointer (some ⟨bc, 0, none⟩)] w fun e w' => ∃ n, IsRun digI s i n ∧ e = .returned (.string (s.extract i (i + n))) ∧ Rdr bs ba bc bt bk s (i + n) w' ∧ Mv ba w w' := by
  have c1 := R.hs
  have c2 := R.ha
  have c3 := R.hc
  go_enter Tryz.func65, Tryz.ntmps65
  go_wp2
  go_loop [6] (fun t => ∃ n : Nat, i + n ≤ s.size ∧ t = .int .i64 n ∧ Hid (∀ k, k < n → digI (byteI s (i + k)) = true)) (fun t => s.size - (intOf t).toNat)
  case atStart => exact ⟨0, by omega, rfl, fun k hk => by omega⟩
  case round =>
    obtain ⟨n, hn, rfl, hall⟩ := hrel
    by_cases hlt : i + n < s.size
    · have hbyte := byteI_lt hlt
      have HB : Hid (byteI s (i + n) = (s[i + n].toNat : Int)) := hbyte
      clear hbyte
      go_wp2_with (first | (go_at_call 74; refine (isDigit_any _ _).mono ?_; rintro e w' ⟨rfl, rfl⟩) | fail)
      · have hp : digI (s[i + n].toNat : Int) = true := by assumption
        refine ⟨⟨n + 1, by omega, by go_num, ?_⟩, by simp [intOf]; omega⟩
        intro k hk
        by_cases e : k = n
        · subst e; rw [HB.out]; exact hp
        · exact hall.out k (by omega)
      · have hp : digI (s[i + n].toNat : Int) = false := by assumption
        refine (cut_any _ _ bc bt bk s i n _ R hn hs).mono ?_
        rintro e w1 ⟨rfl, R1, hm⟩
        go_wp2
        go_ret
        exact ⟨n, ⟨hn, hall.out, fun _ => by rw [HB.out]; exact hp⟩, rfl, R1, hm⟩
    · go_wp2_with fail
      refine (cut_any _ _ bc bt bk s i n _ R hn hs).mono ?_
      rintro e w1 ⟨rfl, R1, hm⟩
      go_wp2
      go_ret
      exact ⟨n, ⟨hn, hall.out, fun h => absurd h hlt⟩, rfl, R1, hm⟩
end Go.Proofs.YtomgimfmcfjhdaaGreatDoor
