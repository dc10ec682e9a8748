/-
  THE CLOSURES OF lex.reader, BY THEIR CONTRACTS: cut, take, skip. Conditions: the reader's five variables lie in memory as lex.reader lays them ('Rdr'); the place is within the text, the text of at most 6000 bytes.
-/
import Derived.Test.YtglkpgcmlbhkpabGreatDoorQ03
import Derived.Test.YtglkpgcmlbhkpabGreatDoorQ01
import Derived.Laws.EntriesVeiled
import Derived.Deep.QuietTactic
import Derived.BigQuiet
import Derived.WalkSmall
import Derived.Test.YtglkpgcmlbhkpabGreatDoorQ02
import Derived.Lib.Strings
namespace Go.Proofs.YtglkpgcmlbhkpabGreatDoor
open Go.RowKit

/-- Of what was there all is as it was, but block ba. -/
abbrev Mv (ba : Nat) (w w' : World) : Prop := w.grownBy w' (some ba)
theorem Mv.refl (ba : Nat) (w : World) : Mv ba w w := ⟨rfl, rfl, rfl, Nat.le_refl _, fun _ _ _ => rfl⟩
theorem Mv.trans {ba : Nat} {a b c : World} (h : Mv ba a b) (k : Mv ba b c) : Mv ba a c :=
  ⟨k.os.trans h.os, k.tape.trans h.tape, k.output.trans h.output, Nat.le_trans h.size k.size, fun i hi hn => (k.block i (Nat.lt_of_lt_of_le hi h.size) hn).trans (h.block i hi hn)⟩
theorem Mv.of_below {ba : Nat} {w w' : World} (h : Below w.heap.size w w') : Mv ba w w' := ⟨h.os, h.tape, h.output, h.size, fun k hk _ => h.block k hk⟩
theorem Mv.set (ba : Nat) (w : World) (v : Value) : Mv ba w (w.setCell ⟨ba, 0, none⟩ v) :=
  ⟨rfl, rfl, rfl, by simp [World.setCell], fun k _ hn => Below.heap_setCell _ _ _ _ (fun e => hn (by rw [e]))⟩
theorem Mv.cell {ba : Nat} {w w' : World} (h : Mv ba w w') {p : Addr} {v : Value} (hp : p.block ≠ ba) (hc : w.cell? p = some v) : w'.cell? p = some v := by
  have hl : p.block < w.heap.size := by
    rcases Nat.lt_or_ge p.block w.heap.size with h | h
    · exact h
    · simp [World.cell?, Array.getElem?_eq_none h] at hc
  rw [World.cell?_of_block (w := w) (h.block p.block hl (fun e => hp (Option.some.inj e)))]; exact hc

/-- A reader: its text, where it stands, its closures. -/
structure Rdr (bs ba bc bt bk : Nat) (s : ByteArray) (i : Nat) (w : World) : Prop where
  hs : w.cell? ⟨bs, 0, none⟩ = some (.string s)
  ha : w.cell? ⟨ba, 0, none⟩ = some (.int .i64 i)
  hf : w.frozen? ⟨ba, 0, none⟩ = false
  hc : w.cell? ⟨bc, 0, none⟩ = some (.func (.func 135) #[] #[.pointer (some ⟨ba, 0, none⟩), .pointer (some ⟨bs, 0, none⟩)])
  ht : w.cell? ⟨bt, 0, none⟩ = some (.func (.func 137) #[] #[.pointer (some ⟨ba, 0, none⟩), .pointer (some ⟨bs, 0, none⟩), .pointer (some ⟨bc, 0, none⟩)])
  hk : w.cell? ⟨bk, 0, none⟩ = some (.func (.func 138) #[] #[.pointer (some ⟨bt, 0, none⟩), .pointer (some ⟨bs, 0, none⟩), .pointer (some ⟨ba, 0, none⟩)])
  ns : bs ≠ ba
  nc : bc ≠ ba
  nt : bt ≠ ba
  nk : bk ≠ ba
theorem Rdr.go {bs ba bc bt bk : Nat} {s : ByteArray} {i j : Nat} {w w' : World} (R : Rdr bs ba bc bt bk s i w) (h : Mv ba w w') (ha : w'.cell? ⟨ba, 0, none⟩ = some (.int .i64 j)) (hf : w'.frozen? ⟨ba, 0, none⟩ = false) : Rdr bs ba bc bt bk s j w' :=
  ⟨h.cell R.ns R.hs, ha, hf, h.cell R.nc R.hc, h.cell R.nt R.ht, h.cell R.nk R.hk, R.ns, R.nc, R.nt, R.nk⟩

theorem reader_any (s : ByteArray) (w : World) : Calls Tryz.prog 88 #[.string s] w fun e w' => ∃ bs ba bc bt bk : Nat, e = .returned (.func (.func 142) #[] #[.pointer (some ⟨bk, 0, none⟩), .pointer (some ⟨ba, 0, none⟩), .pointer (some ⟨bs, 0, none⟩), .pointer (some ⟨bt, 0, none⟩), .pointer (some ⟨bc, 0, none⟩)]) ∧ w.heap.size ≤ ba ∧ Rdr bs ba bc bt bk s 0 w' ∧ Below w.heap.size w w' := by
  go_enter Tryz.func88, Tryz.ntmps88
  go_wp2
  go_ret
  refine ⟨w.heap.size, w.heap.size + 1, w.heap.size + 1 + 1, w.heap.size + 1 + 1 + 1, w.heap.size + 1 + 1 + 1 + 1, rfl, by omega, ⟨?_, ?_, ?_, ?_, ?_, ?_, by omega, by omega, by omega, by omega⟩, ?_⟩
  · rw [World.cell?_alloc_past _ _ _ (by simp <;> omega), World.cell?_alloc_past _ _ _ (by simp <;> omega), World.cell?_alloc_past _ _ _ (by simp <;> omega), World.cell?_alloc_past _ _ _ (by simp <;> omega), World.cell?_alloc_at _ _ _ _ (by simp)]; rfl
  · rw [World.cell?_alloc_past _ _ _ (by simp <;> omega), World.cell?_alloc_past _ _ _ (by simp <;> omega), World.cell?_alloc_past _ _ _ (by simp <;> omega), World.cell?_alloc_at _ _ _ _ (by simp)]; rfl
  · rw [World.frozen?_alloc_past _ _ _ (by simp <;> omega), World.frozen?_alloc_past _ _ _ (by simp <;> omega), World.frozen?_alloc_past _ _ _ (by simp <;> omega), World.frozen?_alloc_at _ _ _ _ (by simp)]
  · rw [World.cell?_alloc_past _ _ _ (by simp <;> omega), World.cell?_alloc_past _ _ _ (by simp <;> omega), World.cell?_alloc_at _ _ _ _ (by simp)]; rfl
  · rw [World.cell?_alloc_past _ _ _ (by simp <;> omega), World.cell?_alloc_at _ _ _ _ (by simp)]; rfl
  · rw [World.cell?_alloc_at _ _ _ _ (by simp)]; rfl
  · exact (((((Below.refl _ _).alloc (Nat.le_refl _) _).alloc (by simp) _).alloc (by simp; omega) _).alloc (by simp; omega) _).alloc (by simp; omega) _

theorem clone_any (s : ByteArray) (w : World) (hs : s.size ≤ 6000) : Calls Tryz.prog 136 #[.string s] w fun e w' => e = .returned (.string s) ∧ Below w.heap.size w w' := by
  go_enter Tryz.func136, Tryz.ntmps136
  go_wp2_with (go_at_call 188; refine (Tryz.stringslite_Clone _ _ (by omega)).mono ?_; rintro e w' ⟨rfl, hb⟩)
  go_ret
  exact ⟨rfl, hb⟩

theorem slice_mid (s : ByteArray) (i n : Nat) (h : i + n ≤ s.size) (W : World) : (Instr.slice 9 (.string s) (some (.int .i64 (i : Int))) (some (.int .i64 ((i : Int) + (n : Int)))) none).run Tryz.prog W = .ok (.string (s.extract i (i + n))) W := by
  have h1 : ((i : Int) + (n : Int)).toNat = i + n := by omega
  have h2 : 0 ≤ (i : Int) + (n : Int) := by omega
  have h3 : ¬ (s.size : Int) < (i : Int) + (n : Int) := by omega
  simp [Instr.slice, Instr.sliceBounds, Instr.sliceBound, asIntOf, run_underlying Tryz.underlying9, h1, h2, h3, go_sem]
theorem slice_from (s : ByteArray) (i : Nat) (h : i ≤ s.size) (W : World) : (Instr.slice 9 (.string s) (some (.int .i64 (i : Int))) none none).run Tryz.prog W = .ok (.string (s.extract i s.size)) W := by
  have h3 : ¬ s.size < i := by omega
  simp [Instr.slice, Instr.sliceBounds, Instr.sliceBound, asIntOf, run_underlying Tryz.underlying9, h3, go_sem]

set_option maxRecDepth 100000 in
set_option maxHeartbeats 1000000 in
theorem cut_any (bs ba bc bt bk : Nat) (s : ByteArray) (i n : Nat) (w : World) (R : Rdr bs ba bc bt bk s i w) (h : i + n ≤ s.size) (hs : s.size ≤ 6000) :
    Calls Tryz.prog 135 #[.int .i64 n, .pointer (some ⟨ba, 0, none⟩), .pointer (some ⟨bs, 0, none⟩)] w fun e w' => e = .returned (.string (s.extract i (i + n))) ∧ Rdr bs ba bc bt bk s (i + n) w' ∧ Mv ba w w' := by
  have c1 := R.hs
  have c2 := R.ha
  have c3 := R.hf
  have hne : (⟨ba, 0, none⟩ : Addr) ≠ ⟨bs, 0, none⟩ := fun e => R.ns (by injection e with e1; exact e1.symm)
  have c4 : (w.setCell ⟨ba, 0, none⟩ (.int .i64 ((i : Int) + n))).cell? ⟨bs, 0, none⟩ = some (.string s) := by rw [World.cell?_setCell_other _ _ _ _ hne]; exact c1
  have c5 : (w.setCell ⟨ba, 0, none⟩ (.int .i64 ((i : Int) + n))).cell? ⟨ba, 0, none⟩ = some (.int .i64 ((i : Int) + n)) := World.cell?_setCell_same _ _ _ c2
  have c6 : (w.setCell ⟨ba, 0, none⟩ (.int .i64 ((i : Int) + n))).frozen? ⟨ba, 0, none⟩ = false := by rw [World.frozen?_setCell]; exact c3
  have hsl := slice_mid s i n h
  have hsz : (s.extract i (i + n)).size ≤ 6000 := by rw [ByteArray.size_extract]; omega
  go_enter Tryz.func135, Tryz.ntmps135
  go_wp2_with (go_at_call 136; refine (clone_any _ _ hsz).mono ?_; rintro e w1 ⟨rfl, hb⟩)
  go_ret
  have e0 : ((i : Int) + (n : Int)) = ((i + n : Nat) : Int) := by omega
  refine ⟨rfl, R.go ((Mv.set ba w _).trans (Mv.of_below hb)) ?_ ?_, (Mv.set ba w _).trans (Mv.of_below hb)⟩
  · rw [← e0]; exact cell_keep hb c5
  · rw [hb.frozen (p := ⟨ba, 0, none⟩) (by rcases Nat.lt_or_ge ba (w.setCell ⟨ba, 0, none⟩ (.int .i64 ((i : Int) + n))).heap.size with h | h; (exact h); (simp [World.cell?, Array.getElem?_eq_none h] at c5))]; exact c6

set_option maxRecDepth 100000 in
set_option maxHeartbeats 1000000 in
theorem take_blankI (bs ba bc bt bk : Nat) (s : ByteArray) (i : Nat) (w : World) (R : Rdr bs ba bc bt bk s i w) (hi : i ≤ s.size) (hs : s.size ≤ 6000) :
    Calls Tryz.prog 137 #[.func (.func 139) #[] #[], .pointer (some ⟨ba, 0, none⟩), .pointer (some ⟨bs, 0, none⟩), .pointer (some ⟨bc, 0, none⟩)] w fun e w' => ∃ n, IsRun blankI s i n ∧ e = .returned (.string (s.extract i (i + n))) ∧ Rdr bs ba bc bt bk s (i + n) w' ∧ Mv ba w w' := by
  have c1 := R.hs
  have c2 := R.ha
  have c3 := R.hc
  go_enter Tryz.func137, Tryz.ntmps137
  go_wp2
  go_loop [6] (fun t => ∃ n : Nat, i + n ≤ s.size ∧ t = .int .i64 n ∧ Hid (∀ k, k < n → blankI (byteI s (i + k)) = true)) (fun t => s.size - (intOf t).toNat)
  case atStart => exact ⟨0, by omega, rfl, fun k hk => by omega⟩
  case round =>
    obtain ⟨n, hn, rfl, hall⟩ := hrel
    by_cases hlt : i + n < s.size
    · have hbyte := byteI_lt hlt
      have HB : Hid (byteI s (i + n) = (s[i + n].toNat : Int)) := hbyte
      clear hbyte
      go_wp2_with (first | (go_at_call 139; refine (isBlank_any _ _).mono ?_; rintro e w' ⟨rfl, rfl⟩) | fail)
      · have hp : blankI (s[i + n].toNat : Int) = true := by assumption
        refine ⟨⟨n + 1, by omega, by go_num, ?_⟩, by simp [intOf]; omega⟩
        intro k hk
        by_cases e : k = n
        · subst e; rw [HB.out]; exact hp
        · exact hall.out k (by omega)
      · have hp : blankI (s[i + n].toNat : Int) = false := by assumption
        refine (cut_any _ _ bc bt bk s i n _ R hn hs).mono ?_
        rintro e w1 ⟨rfl, R1, hm⟩
        go_wp2
        go_ret
        exact ⟨n, ⟨hn, hall.out, fun _ => by rw [HB.out]; exact hp⟩, rfl, R1, hm⟩
    · go_wp2_with fail
      refine (cut_any _ _ bc bt bk s i n _ R hn hs).mono ?_
      rintro e w1 ⟨rfl, R1, hm⟩
      go_wp2
      go_ret
      exact ⟨n, ⟨hn, hall.out, fun h => absurd h hlt⟩, rfl, R1, hm⟩

set_option maxRecDepth 100000 in
set_option maxHeartbeats 1000000 in
theorem take_notNlI (bs ba bc bt bk : Nat) (s : ByteArray) (i : Nat) (w : World) (R : Rdr bs ba bc bt bk s i w) (hi : i ≤ s.size) (hs : s.size ≤ 6000) :
    Calls Tryz.prog 137 #[.func (.func 141) #[] #[], .pointer (some ⟨ba, 0, none⟩), .pointer (some ⟨bs, 0, none⟩), .pointer (some ⟨bc, 0, none⟩)] w fun e w' => ∃ n, IsRun notNlI s i n ∧ e = .returned (.string (s.extract i (i + n))) ∧ Rdr bs ba bc bt bk s (i + n) w' ∧ Mv ba w w' := by
  have c1 := R.hs
  have c2 := R.ha
  have c3 := R.hc
  go_enter Tryz.func137, Tryz.ntmps137
  go_wp2
  go_loop [6] (fun t => ∃ n : Nat, i + n ≤ s.size ∧ t = .int .i64 n ∧ Hid (∀ k, k < n → notNlI (byteI s (i + k)) = true)) (fun t => s.size - (intOf t).toNat)
  case atStart => exact ⟨0, by omega, rfl, fun k hk => by omega⟩
  case round =>
    obtain ⟨n, hn, rfl, hall⟩ := hrel
    by_cases hlt : i + n < s.size
    · have hbyte := byteI_lt hlt
      have HB : Hid (byteI s (i + n) = (s[i + n].toNat : Int)) := hbyte
      clear hbyte
      go_wp2_with (first | (go_at_call 141; refine (notNl_any _ _).mono ?_; rintro e w' ⟨rfl, rfl⟩) | fail)
      · have hp : notNlI (s[i + n].toNat : Int) = true := by assumption
        refine ⟨⟨n + 1, by omega, by go_num, ?_⟩, by simp [intOf]; omega⟩
        intro k hk
        by_cases e : k = n
        · subst e; rw [HB.out]; exact hp
        · exact hall.out k (by omega)
      · have hp : notNlI (s[i + n].toNat : Int) = false := by assumption
        refine (cut_any _ _ bc bt bk s i n _ R hn hs).mono ?_
        rintro e w1 ⟨rfl, R1, hm⟩
        go_wp2
        go_ret
        exact ⟨n, ⟨hn, hall.out, fun _ => by rw [HB.out]; exact hp⟩, rfl, R1, hm⟩
    · go_wp2_with fail
      refine (cut_any _ _ bc bt bk s i n _ R hn hs).mono ?_
      rintro e w1 ⟨rfl, R1, hm⟩
      go_wp2
      go_ret
      exact ⟨n, ⟨hn, hall.out, fun h => absurd h hlt⟩, rfl, R1, hm⟩

set_option maxRecDepth 100000 in
set_option maxHeartbeats 1000000 in
theorem take_nameI (bs ba bc bt bk : Nat) (s : ByteArray) (i : Nat) (w : World) (R : Rdr bs ba bc bt bk s i w) (hi : i ≤ s.size) (hs : s.size ≤ 6000) :
    Calls Tryz.prog 137 #[.func (.func 144) #[] #[], .pointer (some ⟨ba, 0, none⟩), .pointer (some ⟨bs, 0, none⟩), .pointer (some ⟨bc, 0, none⟩)] w fun e w' => ∃ n, IsRun nameI s i n ∧ e = .returned (.string (s.extract i (i + n))) ∧ Rdr bs ba bc bt bk s (i + n) w' ∧ Mv ba w w' := by
  have c1 := R.hs
  have c2 := R.ha
  have c3 := R.hc
  go_enter Tryz.func137, Tryz.ntmps137
  go_wp2
  go_loop [6] (fun t => ∃ n : Nat, i + n ≤ s.size ∧ t = .int .i64 n ∧ Hid (∀ k, k < n → nameI (byteI s (i + k)) = true)) (fun t => s.size - (intOf t).toNat)
  case atStart => exact ⟨0, by omega, rfl, fun k hk => by omega⟩
  case round =>
    obtain ⟨n, hn, rfl, hall⟩ := hrel
    by_cases hlt : i + n < s.size
    · have hbyte := byteI_lt hlt
      have HB : Hid (byteI s (i + n) = (s[i + n].toNat : Int)) := hbyte
      clear hbyte
      go_wp2_with (first | (go_at_call 144; refine (isOfName_any _ _).mono ?_; rintro e w' ⟨rfl, rfl⟩) | fail)
      · have hp : nameI (s[i + n].toNat : Int) = true := by assumption
        refine ⟨⟨n + 1, by omega, by go_num, ?_⟩, by simp [intOf]; omega⟩
        intro k hk
        by_cases e : k = n
        · subst e; rw [HB.out]; exact hp
        · exact hall.out k (by omega)
      · have hp : nameI (s[i + n].toNat : Int) = false := by assumption
        refine (cut_any _ _ bc bt bk s i n _ R hn hs).mono ?_
        rintro e w1 ⟨rfl, R1, hm⟩
        go_wp2
        go_ret
        exact ⟨n, ⟨hn, hall.out, fun _ => by rw [HB.out]; exact hp⟩, rfl, R1, hm⟩
    · go_wp2_with fail
      refine (cut_any _ _ bc bt bk s i n _ R hn hs).mono ?_
      rintro e w1 ⟨rfl, R1, hm⟩
      go_wp2
      go_ret
      exact ⟨n, ⟨hn, hall.out, fun h => absurd h hlt⟩, rfl, R1, hm⟩

set_option maxRecDepth 100000 in
set_option maxHeartbeats 1000000 in
theorem take_digI (bs ba bc bt bk : Nat) (s : ByteArray) (i : Nat) (w : World) (R : Rdr bs ba bc bt bk s i w) (hi : i ≤ s.size) (hs : s.size ≤ 6000) :
    Calls Tryz.prog 137 #[.func (.func 146) #[] #[], .pointer (some ⟨ba, 0, none⟩), .pointer (some ⟨bs, 0, none⟩), .pointer (some ⟨bc, 0, none⟩)] w fun e w' => ∃ n, IsRun digI s i n ∧ e = .returned (.string (s.extract i (i + n))) ∧ Rdr bs ba bc bt bk s (i + n) w' ∧ Mv ba w w' := by
  have c1 := R.hs
  have c2 := R.ha
  have c3 := R.hc
  go_enter Tryz.func137, Tryz.ntmps137
  go_wp2
  go_loop [6] (fun t => ∃ n : Nat, i + n ≤ s.size ∧ t = .int .i64 n ∧ Hid (∀ k, k < n → digI (byteI s (i + k)) = true)) (fun t => s.size - (intOf t).toNat)
  case atStart => exact ⟨0, by omega, rfl, fun k hk => by omega⟩
  case round =>
    obtain ⟨n, hn, rfl, hall⟩ := hrel
    by_cases hlt : i + n < s.size
    · have hbyte := byteI_lt hlt
      have HB : Hid (byteI s (i + n) = (s[i + n].toNat : Int)) := hbyte
      clear hbyte
      go_wp2_with (first | (go_at_call 146; refine (isDigit_any _ _).mono ?_; rintro e w' ⟨rfl, rfl⟩) | fail)
      · have hp : digI (s[i + n].toNat : Int) = true := by assumption
        refine ⟨⟨n + 1, by omega, by go_num, ?_⟩, by simp [intOf]; omega⟩
        intro k hk
        by_cases e : k = n
        · subst e; rw [HB.out]; exact hp
        · exact hall.out k (by omega)
      · have hp : digI (s[i + n].toNat : Int) = false := by assumption
        refine (cut_any _ _ bc bt bk s i n _ R hn hs).mono ?_
        rintro e w1 ⟨rfl, R1, hm⟩
        go_wp2
        go_ret
        exact ⟨n, ⟨hn, hall.out, fun _ => by rw [HB.out]; exact hp⟩, rfl, R1, hm⟩
    · go_wp2_with fail
      refine (cut_any _ _ bc bt bk s i n _ R hn hs).mono ?_
      rintro e w1 ⟨rfl, R1, hm⟩
      go_wp2
      go_ret
      exact ⟨n, ⟨hn, hall.out, fun h => absurd h hlt⟩, rfl, R1, hm⟩
end Go.Proofs.YtglkpgcmlbhkpabGreatDoor

/-
  WHAT STANDS BETWEEN TOKENS, IN PLAIN MATHEMATICS: blanks, lines, comments.
-/
namespace Go.Proofs.YtglkpgcmlbhkpabGreatDoor

/-- A comment begins here. -/
def comB (s : ByteArray) (i : Nat) : Bool := decide (i + 1 < s.size) && (byteI s i == 45) && (byteI s (i + 1) == 45)
/-- From i to j nothing but blanks, lines and comments. -/
inductive Skips (s : ByteArray) : Nat → Nat → Prop
  | refl (i : Nat) : Skips s i i
  | blank (i j : Nat) : i < s.size → blankI (byteI s i) = true → Skips s (i + 1) j → Skips s i j
  | comment (i n j : Nat) : comB s i = true → blankI (byteI s i) = false → IsRun notNlI s i n → Skips s (i + n) j → Skips s i j
theorem Skips.trans {s : ByteArray} {i j k : Nat} (h : Skips s i j) (g : Skips s j k) : Skips s i k := by
  induction h with
  | refl => exact g
  | blank i j h1 h2 _ ih => exact .blank i k h1 h2 (ih g)
  | comment i n j h1 h2 h3 _ ih => exact .comment i n k h1 h2 h3 (ih g)
theorem Skips.blanks {s : ByteArray} : ∀ (n i : Nat), i + n ≤ s.size → (∀ k, k < n → blankI (byteI s (i + k)) = true) → Skips s i (i + n)
  | 0, i, _, _ => .refl i
  | n + 1, i, hl, h => by
    refine .blank i _ (by omega) (by simpa using h 0 (by omega)) ?_
    have e : i + (n + 1) = (i + 1) + n := by omega
    rw [e]
    exact Skips.blanks n (i + 1) (by omega) (fun k hk => by have := h (k + 1) (by omega); rwa [show i + (k + 1) = i + 1 + k from by omega] at this)
/-- .. and at j neither stands. -/
structure Stands (s : ByteArray) (i j : Nat) : Prop where
  skips : Skips s i j
  le : j ≤ s.size
  blank : j < s.size → blankI (byteI s j) = false
theorem com_first {s : ByteArray} {i n : Nat} (h : comB s i = true) (r : IsRun notNlI s i n) : 2 ≤ n := by
  simp only [comB, Bool.and_eq_true, decide_eq_true_eq, beq_iff_eq] at h
  obtain ⟨⟨h1, h2⟩, h3⟩ := h
  rcases Nat.lt_or_ge n 2 with hn | hn
  · have hs := r.stop (by omega)
    have : n = 0 ∨ n = 1 := by omega
    rcases this with rfl | rfl
    · rw [Nat.add_zero, h2] at hs; cases hs
    · rw [h3] at hs; cases hs
  · exact hn
theorem byte_toNat {c : UInt8} {n : Nat} (hn : n < 256) : (c == UInt8.ofNat n) = ((c.toNat : Int) == (n : Int)) := by
  rw [Bool.eq_iff_iff, beq_iff_eq, beq_iff_eq, ← UInt8.toNat_inj, UInt8.toNat_ofNat']
  omega
theorem com_prefix (s : ByteArray) (i : Nat) (_h : i ≤ s.size) : Lib.hasPrefix (s.extract i s.size).data.toList [45, 45] = comB s i := by
  have hl : s.data.toList.length = s.size := Array.length_toList
  rw [Lib.extract_data, List.take_of_length_le (by rw [List.length_drop, hl]; omega)]
  unfold Lib.hasPrefix comB
  by_cases h2 : i + 1 < s.size
  · have h1 : i < s.size := by omega
    rw [List.drop_eq_getElem_cons (by omega), List.drop_eq_getElem_cons (by omega)]
    rw [byteI_data s i h1, byteI_data s (i + 1) h2]
    simp only [h2, decide_true, Bool.true_and, List.isPrefixOf, Bool.and_true]
    have e1 : ∀ c : UInt8, ((45 : UInt8) == c) = ((c.toNat : Int) == 45) := fun c => by
      rw [Bool.beq_comm]; exact byte_toNat (n := 45) (by decide)
    rw [e1, e1]
  · have h3 : ¬ i + 1 < s.size := h2
    simp only [h3, decide_false, Bool.false_and]
    have hd : (s.data.toList.drop i).length ≤ 1 := by rw [List.length_drop, hl]; omega
    rcases hx : s.data.toList.drop i with _ | ⟨c, _ | ⟨d, r⟩⟩
    · rfl
    · simp [List.isPrefixOf]
    · rw [hx] at hd; simp at hd
end Go.Proofs.YtglkpgcmlbhkpabGreatDoor

/-
  THE READER'S skip, BY ITS CONTRACT: from where it stands over blanks, lines and comments.
-/
namespace Go.Proofs.YtglkpgcmlbhkpabGreatDoor
open Go.RowKit

/-- The number in a cell. -/
def cellNat (w : World) (b : Nat) : Nat := match w.cell? ⟨b, 0, none⟩ with | some (.int _ k) => k.toNat | _ => 0
theorem Rdr.nat {bs ba bc bt bk : Nat} {s : ByteArray} {i : Nat} {w : World} (R : Rdr bs ba bc bt bk s i w) : cellNat w ba = i := by
  simp [cellNat, R.ha]

theorem dash_any (s : ByteArray) (j : Nat) (w : World) (h : j ≤ s.size) : Calls Tryz.prog 140 #[.string (s.extract j s.size), .string ⟨#[45, 45]⟩] w fun e w' => e = .returned (.bool (comB s j)) ∧ w' = w := by
  refine (Tryz.strings_HasPrefix _ _ _).mono ?_
  rintro e w' ⟨rfl, rfl⟩
  exact ⟨ret_bool (com_prefix s j h), rfl⟩

set_option maxRecDepth 100000 in
set_option maxHeartbeats 1000000 in
theorem skip_any (bs ba bc bt bk : Nat) (s : ByteArray) (i : Nat) (w : World) (R : Rdr bs ba bc bt bk s i w) (hi : i ≤ s.size) (hs : s.size ≤ 6000) :
    Calls Tryz.prog 138 #[.pointer (some ⟨bt, 0, none⟩), .pointer (some ⟨bs, 0, none⟩), .pointer (some ⟨ba, 0, none⟩)] w fun e w' => e = .returned (.tuple #[]) ∧ ∃ j, Stands s i j ∧ comB s j = false ∧ Rdr bs ba bc bt bk s j w' ∧ Mv ba w w' := by
  have c1 := R.ht
  go_enter Tryz.func138, Tryz.ntmps138
  go_wp2_with fail
  refine (take_blankI bs ba bc bt bk s i _ R hi hs).mono ?_
  rintro e w1 ⟨n, hrun, rfl, R1, hm⟩
  clear c1
  go_wp2
  go_loopw [] (fun wr => ∃ j : Nat, Stands s i j ∧ Rdr bs ba bc bt bk s j wr ∧ Mv ba w wr) (fun wr => s.size - cellNat wr ba)
  case atStart => exact ⟨i + n, ⟨Skips.blanks n i hrun.le hrun.all, hrun.le, hrun.stop⟩, R1, hm⟩
  case round =>
    obtain ⟨j, St, Rr, hmr⟩ := hrel
    have c1 := Rr.hs
    have c2 := Rr.ha
    have c3 := Rr.ht
    have hsl := slice_from s j St.le
    by_cases hcom : comB s j = true
    · go_wp2_with fail
      refine (dash_any s j _ St.le).mono ?_
      rintro e w2 ⟨rfl, rfl⟩
      go_wp2_with fail
      refine (take_notNlI bs ba bc bt bk s j _ Rr St.le hs).mono ?_
      rintro e w3 ⟨m, hrun3, rfl, R3, hm3⟩
      have c4 := R3.ht
      clear c1 c2 c3
      go_wp2_with fail
      refine (take_blankI bs ba bc bt bk s (j + m) _ R3 hrun3.le hs).mono ?_
      rintro e w4 ⟨k, hrun4, rfl, R4, hm4⟩
      have h2 := com_first hcom hrun3
      clear c4
      go_wp2
      have hjl : j < s.size := by
        have := hrun3.le; omega
      have hn1 := Rr.nat
      have hn2 := R4.nat
      refine ⟨⟨j + m + k, ⟨St.skips.trans (.comment j m _ hcom (St.blank hjl) hrun3 (Skips.blanks k _ hrun4.le hrun4.all)), hrun4.le, hrun4.stop⟩, R4, (hmr.trans hm3).trans hm4⟩, ?_⟩
      rw [hn1, hn2]; have := hrun4.le; omega
    · have hcom' : comB s j = false := by simpa using hcom
      go_wp2_with fail
      refine (dash_any s j _ St.le).mono ?_
      rintro e w2 ⟨rfl, rfl⟩
      clear c1 c2 c3
      go_wp2
      go_end0
      exact ⟨rfl, j, St, hcom', Rr, hmr⟩
end Go.Proofs.YtglkpgcmlbhkpabGreatDoor
