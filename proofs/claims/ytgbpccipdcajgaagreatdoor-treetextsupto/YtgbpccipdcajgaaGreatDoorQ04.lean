/-
  THE CLOSURES OF lex.reader, BY THEIR CONTRACTS: cut, take, skip. Conditions: the reader's five variables lie in memory as lex.reader lays them ('Rdr'); the place is within the text, the text of at most 6000 bytes.
-/
import Derived.Test.YtgbpccipdcajgaaGreatDoorQ02
import Derived.Test.YtgbpccipdcajgaaGreatDoorQ03
import Derived.Laws.EntriesVeiled
import Derived.Deep.QuietTactic
import Derived.BigQuiet
import Derived.WalkSmall
import Derived.Deep.RegionWith
import Derived.Deep.DrawnRows
namespace Go.Proofs.YtgbpccipdcajgaaGreatDoor
open Go.RowKit
abbrev Mv (ba : Nat) (w w' : World) : Prop := w.grownBy w' (some ba)
theorem Mv.refl (ba : Nat) (w : World) : Mv ba w w := ⟨rfl, rfl, rfl, Nat.le_refl _, fun _ _ _ => rfl⟩
theorem Mv.trans {ba : Nat} {a b c : World} (h : Mv ba a b) (k : Mv ba b c) : Mv ba a c :=
 ⟨k.os.trans h.os, k.tape.trans h.tape, k.output.trans h.output, Nat.le_trans h.size k.size, fun i hi hn => (k.block i (Nat.lt_of_lt_of_le hi h.size) hn).trans (h.block i hi hn)⟩
theorem Mv.of_below {ba : Nat} {w w' : World} (h : Below w.heap.size w w') : Mv ba w w' := ⟨h.os, h.tape, h.output, h.size, fun k hk _ => h.block k hk⟩
theorem Mv.set (ba : Nat) (w : World) (v : Value) : Mv ba w (w.setCell ⟨ba, 0, none⟩ v) :=
 ⟨rfl, rfl, rfl, by simp [World.setCell], fun k _ hn => Below.heap_setCell _ _ _ _ (fun e => hn (by rw [e]))⟩
theorem Mv.cell {ba : Nat} {w w' : World} (h : Mv ba w w') {p : Addr} {v : Value} (hp : p.block ≠ ba) (hc : w.cell? p = some v) : w'.cell? p = some v := by
 have hl : p.block < w.heap.size := by
  rcases Nat.lt_or_ge p.block w.heap.size with h | h
  ·exact h
  ·simp [World.cell?, Array.getElem?_eq_none h] at hc
 rw [World.cell?_of_block (w := w) (h.block p.block hl (fun e => hp (Option.some.inj e)))]; exact hc

structure Rdr (bs ba bc bt bk : Nat) (s : ByteArray) (i : Nat) (w : World) : Prop where
 hs : w.cell? ⟨bs, 0, none⟩ = some (.string s)
 ha : w.cell? ⟨ba, 0, none⟩ = some (.int .i64 i)
 hf : w.frozen? ⟨ba, 0, none⟩ = false
 hc : w.cell? ⟨bc, 0, none⟩ = some (.func (.func 63) #[] #[.pointer (some ⟨ba, 0, none⟩), .pointer (some ⟨bs, 0, none⟩)])
 ht : w.cell? ⟨bt, 0, none⟩ = some (.func (.func 65) #[] #[.pointer (some ⟨ba, 0, none⟩), .pointer (some ⟨bs, 0, none⟩), .pointer (some ⟨bc, 0, none⟩)])
 hk : w.cell? ⟨bk, 0, none⟩ = some (.func (.func 66) #[] #[.pointer (some ⟨bt, 0, none⟩), .pointer (some ⟨bs, 0, none⟩), .pointer (some ⟨ba, 0, none⟩)])
 ns : bs ≠ ba
 nc : bc ≠ ba
 nt : bt ≠ ba
 nk : bk ≠ ba
theorem Rdr.go {bs ba bc bt bk : Nat} {s : ByteArray} {i j : Nat} {w w' : World} (R : Rdr bs ba bc bt bk s i w) (h : Mv ba w w') (ha : w'.cell? ⟨ba, 0, none⟩ = some (.int .i64 j)) (hf : w'.frozen? ⟨ba, 0, none⟩ = false) : Rdr bs ba bc bt bk s j w' :=
 ⟨h.cell R.ns R.hs, ha, hf, h.cell R.nc R.hc, h.cell R.nt R.ht, h.cell R.nk R.hk, R.ns, R.nc, R.nt, R.nk⟩

theorem reader_any (s : ByteArray) (w : World) : Calls Tryz.prog 26 #[.string s] w fun e w' => ∃ bs ba bc bt bk : Nat, e = .returned (.func (.func 70) #[] #[.pointer (some ⟨bk, 0, none⟩), .pointer (some ⟨ba, 0, none⟩), .pointer (some ⟨bs, 0, none⟩), .pointer (some ⟨bt, 0, none⟩), .pointer (some ⟨bc, 0, none⟩)]) ∧ w.heap.size ≤ ba ∧ Rdr bs ba bc bt bk s 0 w' ∧ Below w.heap.size w w' := by
 go_enter Tryz.func26, Tryz.ntmps26
 go_wp2
 go_ret
 refine ⟨w.heap.size, w.heap.size + 1, w.heap.size + 1 + 1, w.heap.size + 1 + 1 + 1, w.heap.size + 1 + 1 + 1 + 1, rfl, by omega, ⟨?_, ?_, ?_, ?_, ?_, ?_, by omega, by omega, by omega, by omega⟩, ?_⟩
 ·rw [World.cell?_alloc_past _ _ _ (by simp <;> omega), World.cell?_alloc_past _ _ _ (by simp <;> omega), World.cell?_alloc_past _ _ _ (by simp <;> omega), World.cell?_alloc_past _ _ _ (by simp <;> omega), World.cell?_alloc_at _ _ _ _ (by simp)]; rfl
 ·rw [World.cell?_alloc_past _ _ _ (by simp <;> omega), World.cell?_alloc_past _ _ _ (by simp <;> omega), World.cell?_alloc_past _ _ _ (by simp <;> omega), World.cell?_alloc_at _ _ _ _ (by simp)]; rfl
 ·rw [World.frozen?_alloc_past _ _ _ (by simp <;> omega), World.frozen?_alloc_past _ _ _ (by simp <;> omega), World.frozen?_alloc_past _ _ _ (by simp <;> omega), World.frozen?_alloc_at _ _ _ _ (by simp)]
 ·rw [World.cell?_alloc_past _ _ _ (by simp <;> omega), World.cell?_alloc_past _ _ _ (by simp <;> omega), World.cell?_alloc_at _ _ _ _ (by simp)]; rfl
 ·rw [World.cell?_alloc_past _ _ _ (by simp <;> omega), World.cell?_alloc_at _ _ _ _ (by simp)]; rfl
 ·rw [World.cell?_alloc_at _ _ _ _ (by simp)]; rfl
 ·exact (((((Below.refl _ _).alloc (Nat.le_refl _) _).alloc (by simp) _).alloc (by simp; omega) _).alloc (by simp; omega) _).alloc (by simp; omega) _

theorem clone_any (s : ByteArray) (w : World) (hs : s.size ≤ 6000) : Calls Tryz.prog 64 #[.string s] w fun e w' => e = .returned (.string s) ∧ Below w.heap.size w w' := by
 go_enter Tryz.func64, Tryz.ntmps64
 go_wp2_with (go_at_call 104; refine (Tryz.stringslite_Clone _ _ (by omega)).mono ?_; rintro e w' ⟨rfl, hb⟩)
 go_ret
 exact ⟨rfl, hb⟩

theorem slice_mid (s : ByteArray) (i n : Nat) (h : i + n ≤ s.size) (W : World) : (Instr.slice 9 (.string s) (some (.int .i64 (i : Int))) (some (.int .i64 ((i : Int) + (n : Int)))) none).run Tryz.prog W = .ok (.string (s.extract i (i + n))) W := by
 have h1 : ((i : Int) + (n : Int)).toNat = i + n := by omega
 have h2 : 0 ≤ (i : Int) + (n : Int) := by omega
 have h3 : ¬ (s.size : Int) < (i : Int) + (n : Int) := by omega
 simp [Instr.slice, Instr.sliceBounds, Instr.sliceBound, asIntOf, run_underlying Tryz.underlying9, h1, h2, h3, go_sem]
theorem slice_from (s : ByteArray) (i : Nat) (h : i ≤ s.size) (W : World) : (Instr.slice 9 (.string s) (some (.int .i64 (i : Int))) none none).run Tryz.prog W = .ok (.string (s.extract i s.size)) W := by
 have h3 : ¬ s.size < i := by omega
 simp [Instr.slice, Instr.sliceBounds, Instr.sliceBound, asIntOf, run_underlying Tryz.underlying9, h3, go_sem]

set_option maxRecDepth 100000 in
set_option maxHeartbeats 1000000 in
theorem cut_any (bs ba bc bt bk : Nat) (s : ByteArray) (i n : Nat) (w : World) (R : Rdr bs ba bc bt bk s i w) (h : i + n ≤ s.size) (hs : s.size ≤ 6000) :
  Calls Tryz.prog 63 #[.int .i64 n, .pointer (some ⟨ba, 0, none⟩), .pointer (some ⟨bs, 0, none⟩)] w fun e w' => e = .returned (.string (s.extract i (i + n))) ∧ Rdr bs ba bc bt bk s (i + n) w' ∧ Mv ba w w' := by
 have c1 := R.hs
 have c2 := R.ha
 have c3 := R.hf
 have hne : (⟨ba, 0, none⟩ : Addr) ≠ ⟨bs, 0, none⟩ := fun e => R.ns (by injection e with e1; exact e1.symm)
 have c4 : (w.setCell ⟨ba, 0, none⟩ (.int .i64 ((i : Int) + n))).cell? ⟨bs, 0, none⟩ = some (.string s) := by rw [World.cell?_setCell_other _ _ _ _ hne]; exact c1
 have c5 : (w.setCell ⟨ba, 0, none⟩ (.int .i64 ((i : Int) + n))).cell? ⟨ba, 0, none⟩ = some (.int .i64 ((i : Int) + n)) := World.cell?_setCell_same _ _ _ c2
 have c6 : (w.setCell ⟨ba, 0, none⟩ (.int .i64 ((i : Int) + n))).frozen? ⟨ba, 0, none⟩ = false := by rw [World.frozen?_setCell]; exact c3
 have hsl := slice_mid s i n h
 have hsz : (s.extract i (i + n)).size ≤ 6000 := by rw [ByteArray.size_extract]; omega
 go_enter Tryz.func63, Tryz.ntmps63
 go_wp2_with (go_at_call 64; refine (clone_any _ _ hsz).mono ?_; rintro e w1 ⟨rfl, hb⟩)
 go_ret
 have e0 : ((i : Int) + (n : Int)) = ((i + n : Nat) : Int) := by omega
 refine ⟨rfl, R.go ((Mv.set ba w _).trans (Mv.of_below hb)) ?_ ?_, (Mv.set ba w _).trans (Mv.of_below hb)⟩
 ·rw [← e0]; exact cell_keep hb c5
 ·rw [hb.frozen (p := ⟨ba, 0, none⟩) (by rcases Nat.lt_or_ge ba (w.setCell ⟨ba, 0, none⟩ (.int .i64 ((i : Int) + n))).heap.size with h | h; (exact h); (simp [World.cell?, Array.getElem?_eq_none h] at c5))]; exact c6

set_option maxRecDepth 100000 in
set_option maxHeartbeats 1000000 in
theorem take_blankI (bs ba bc bt bk : Nat) (s : ByteArray) (i : Nat) (w : World) (R : Rdr bs ba bc bt bk s i w) (hi : i ≤ s.size) (hs : s.size ≤ 6000) :
  Calls Tryz.prog 65 #[.func (.func 67) #[] #[], .pointer (some ⟨ba, 0, none⟩), .pointer (some ⟨bs, 0, none⟩), .pointer (some ⟨bc, 0, none⟩)] w fun e w' => ∃ n, IsRun blankI s i n ∧ e = .returned (.string (s.extract i (i + n))) ∧ Rdr bs ba bc bt bk s (i + n) w' ∧ Mv ba w w' := by
 have c1 := R.hs
 have c2 := R.ha
 have c3 := R.hc
 go_enter Tryz.func65, Tryz.ntmps65
 go_wp2
 go_loop [6] (fun t => ∃ n : Nat, i + n ≤ s.size ∧ t = .int .i64 n ∧ Hid (∀ k, k < n → blankI (byteI s (i + k)) = true)) (fun t => s.size - (intOf t).toNat)
 case atStart => exact ⟨0, by omega, rfl, fun k hk => by omega⟩
 case round =>
  obtain ⟨n, hn, rfl, hall⟩ := hrel
  by_cases hlt : i + n < s.size
  ·have hbyte := byteI_lt hlt
   have HB : Hid (byteI s (i + n) = (s[i + n].toNat : Int)) := hbyte
   clear hbyte
   go_wp2_with (first | (go_at_call 67; refine (isBlank_any _ _).mono ?_; rintro e w' ⟨rfl, rfl⟩) | fail)
   ·have hp : blankI (s[i + n].toNat : Int) = true := by assumption
    refine ⟨⟨n + 1, by omega, by go_num, ?_⟩, by simp [intOf]; omega⟩
    intro k hk
    by_cases e : k = n
    ·subst e; rw [HB.out]; exact hp
    ·exact hall.out k (by omega)
   ·have hp : blankI (s[i + n].toNat : Int) = false := by assumption
    refine (cut_any _ _ bc bt bk s i n _ R hn hs).mono ?_
    rintro e w1 ⟨rfl, R1, hm⟩
    go_wp2
    go_ret
    exact ⟨n, ⟨hn, hall.out, fun _ => by rw [HB.out]; exact hp⟩, rfl, R1, hm⟩
  ·go_wp2_with fail
   refine (cut_any _ _ bc bt bk s i n _ R hn hs).mono ?_
   rintro e w1 ⟨rfl, R1, hm⟩
   go_wp2
   go_ret
   exact ⟨n, ⟨hn, hall.out, fun h => absurd h hlt⟩, rfl, R1, hm⟩

set_option maxRecDepth 100000 in
set_option maxHeartbeats 1000000 in
theorem take_notNlI (bs ba bc bt bk : Nat) (s : ByteArray) (i : Nat) (w : World) (R : Rdr bs ba bc bt bk s i w) (hi : i ≤ s.size) (hs : s.size ≤ 6000) :
  Calls Tryz.prog 65 #[.func (.func 69) #[] #[], .pointer (some ⟨ba, 0, none⟩), .pointer (some ⟨bs, 0, none⟩), .pointer (some ⟨bc, 0, none⟩)] w fun e w' => ∃ n, IsRun notNlI s i n ∧ e = .returned (.string (s.extract i (i + n))) ∧ Rdr bs ba bc bt bk s (i + n) w' ∧ Mv ba w w' := by
 have c1 := R.hs
 have c2 := R.ha
 have c3 := R.hc
 go_enter Tryz.func65, Tryz.ntmps65
 go_wp2
 go_loop [6] (fun t => ∃ n : Nat, i + n ≤ s.size ∧ t = .int .i64 n ∧ Hid (∀ k, k < n → notNlI (byteI s (i + k)) = true)) (fun t => s.size - (intOf t).toNat)
 case atStart => exact ⟨0, by omega, rfl, fun k hk => by omega⟩
 case round =>
  obtain ⟨n, hn, rfl, hall⟩ := hrel
  by_cases hlt : i + n < s.size
  ·have hbyte := byteI_lt hlt
   have HB : Hid (byteI s (i + n) = (s[i + n].toNat : Int)) := hbyte
   clear hbyte
   go_wp2_with (first | (go_at_call 69; refine (notNl_any _ _).mono ?_; rintro e w' ⟨rfl, rfl⟩) | fail)
   ·have hp : notNlI (s[i + n].toNat : Int) = true := by assumption
    refine ⟨⟨n + 1, by omega, by go_num, ?_⟩, by simp [intOf]; omega⟩
    intro k hk
    by_cases e : k = n
    ·subst e; rw [HB.out]; exact hp
    ·exact hall.out k (by omega)
   ·have hp : notNlI (s[i + n].toNat : Int) = false := by assumption
    refine (cut_any _ _ bc bt bk s i n _ R hn hs).mono ?_
    rintro e w1 ⟨rfl, R1, hm⟩
    go_wp2
    go_ret
    exact ⟨n, ⟨hn, hall.out, fun _ => by rw [HB.out]; exact hp⟩, rfl, R1, hm⟩
  ·go_wp2_with fail
   refine (cut_any _ _ bc bt bk s i n _ R hn hs).mono ?_
   rintro e w1 ⟨rfl, R1, hm⟩
   go_wp2
   go_ret
   exact ⟨n, ⟨hn, hall.out, fun h => absurd h hlt⟩, rfl, R1, hm⟩

set_option maxRecDepth 100000 in
set_option maxHeartbeats 1000000 in
theorem take_nameI (bs ba bc bt bk : Nat) (s : ByteArray) (i : Nat) (w : World) (R : Rdr bs ba bc bt bk s i w) (hi : i ≤ s.size) (hs : s.size ≤ 6000) :
  Calls Tryz.prog 65 #[.func (.func 72) #[] #[], .pointer (some ⟨ba, 0, none⟩), .pointer (some ⟨bs, 0, none⟩), .pointer (some ⟨bc, 0, none⟩)] w fun e w' => ∃ n, IsRun nameI s i n ∧ e = .returned (.string (s.extract i (i + n))) ∧ Rdr bs ba bc bt bk s (i + n) w' ∧ Mv ba w w' := by
 have c1 := R.hs
 have c2 := R.ha
 have c3 := R.hc
 go_enter Tryz.func65, Tryz.ntmps65
 go_wp2
 go_loop [6] (fun t => ∃ n : Nat, i + n ≤ s.size ∧ t = .int .i64 n ∧ Hid (∀ k, k < n → nameI (byteI s (i + k)) = true)) (fun t => s.size - (intOf t).toNat)
 case atStart => exact ⟨0, by omega, rfl, fun k hk => by omega⟩
 case round =>
  obtain ⟨n, hn, rfl, hall⟩ := hrel
  by_cases hlt : i + n < s.size
  ·have hbyte := byteI_lt hlt
   have HB : Hid (byteI s (i + n) = (s[i + n].toNat : Int)) := hbyte
   clear hbyte
   go_wp2_with (first | (go_at_call 72; refine (isOfName_any _ _).mono ?_; rintro e w' ⟨rfl, rfl⟩) | fail)
   ·have hp : nameI (s[i + n].toNat : Int) = true := by assumption
    refine ⟨⟨n + 1, by omega, by go_num, ?_⟩, by simp [intOf]; omega⟩
    intro k hk
    by_cases e : k = n
    ·subst e; rw [HB.out]; exact hp
    ·exact hall.out k (by omega)
   ·have hp : nameI (s[i + n].toNat : Int) = false := by assumption
    refine (cut_any _ _ bc bt bk s i n _ R hn hs).mono ?_
    rintro e w1 ⟨rfl, R1, hm⟩
    go_wp2
    go_ret
    exact ⟨n, ⟨hn, hall.out, fun _ => by rw [HB.out]; exact hp⟩, rfl, R1, hm⟩
  ·go_wp2_with fail
   refine (cut_any _ _ bc bt bk s i n _ R hn hs).mono ?_
   rintro e w1 ⟨rfl, R1, hm⟩
   go_wp2
   go_ret
   exact ⟨n, ⟨hn, hall.out, fun h => absurd h hlt⟩, rfl, R1, hm⟩

set_option maxRecDepth 100000 in
set_option maxHeartbeats 1000000 in
theorem take_digI (bs ba bc bt bk : Nat) (s : ByteArray) (i : Nat) (w : World) (R : Rdr bs ba bc bt bk s i w) (hi : i ≤ s.size) (hs : s.size ≤ 6000) :
  Calls Tryz.prog 65 #[.func (.func 74) #[] #[], .pointer (some ⟨ba, 0, none⟩), .pointer (some ⟨bs, 0, none⟩), .pointer (some ⟨bc, 0, none⟩)] w fun e w' => ∃ n, IsRun digI s i n ∧ e = .returned (.string (s.extract i (i + n))) ∧ Rdr bs ba bc bt bk s (i + n) w' ∧ Mv ba w w' := by
 have c1 := R.hs
 have c2 := R.ha
 have c3 := R.hc
 go_enter Tryz.func65, Tryz.ntmps65
 go_wp2
 go_loop [6] (fun t => ∃ n : Nat, i + n ≤ s.size ∧ t = .int .i64 n ∧ Hid (∀ k, k < n → digI (byteI s (i + k)) = true)) (fun t => s.size - (intOf t).toNat)
 case atStart => exact ⟨0, by omega, rfl, fun k hk => by omega⟩
 case round =>
  obtain ⟨n, hn, rfl, hall⟩ := hrel
  by_cases hlt : i + n < s.size
  ·have hbyte := byteI_lt hlt
   have HB : Hid (byteI s (i + n) = (s[i + n].toNat : Int)) := hbyte
   clear hbyte
   go_wp2_with (first | (go_at_call 74; refine (isDigit_any _ _).mono ?_; rintro e w' ⟨rfl, rfl⟩) | fail)
   ·have hp : digI (s[i + n].toNat : Int) = true := by assumption
    refine ⟨⟨n + 1, by omega, by go_num, ?_⟩, by simp [intOf]; omega⟩
    intro k hk
    by_cases e : k = n
    ·subst e; rw [HB.out]; exact hp
    ·exact hall.out k (by omega)
   ·have hp : digI (s[i + n].toNat : Int) = false := by assumption
    refine (cut_any _ _ bc bt bk s i n _ R hn hs).mono ?_
    rintro e w1 ⟨rfl, R1, hm⟩
    go_wp2
    go_ret
    exact ⟨n, ⟨hn, hall.out, fun _ => by rw [HB.out]; exact hp⟩, rfl, R1, hm⟩
  ·go_wp2_with fail
   refine (cut_any _ _ bc bt bk s i n _ R hn hs).mono ?_
   rintro e w1 ⟨rfl, R1, hm⟩
   go_wp2
   go_ret
   exact ⟨n, ⟨hn, hall.out, fun h => absurd h hlt⟩, rfl, R1, hm⟩
def cellNat (w : World) (b : Nat) : Nat := match w.cell? ⟨b, 0, none⟩ with | some (.int _ k) => k.toNat | _ => 0
theorem Rdr.nat {bs ba bc bt bk : Nat} {s : ByteArray} {i : Nat} {w : World} (R : Rdr bs ba bc bt bk s i w) : cellNat w ba = i := by
 simp [cellNat, R.ha]

theorem dash_any (s : ByteArray) (j : Nat) (w : World) (h : j ≤ s.size) : Calls Tryz.prog 68 #[.string (s.extract j s.size), .string ⟨#[45, 45]⟩] w fun e w' => e = .returned (.bool (comB s j)) ∧ w' = w := by
 refine (Tryz.strings_HasPrefix _ _ _).mono ?_
 rintro e w' ⟨rfl, rfl⟩
 exact ⟨ret_bool (com_prefix s j h), rfl⟩

set_option maxRecDepth 100000 in
set_option maxHeartbeats 1000000 in
theorem skip_any (bs ba bc bt bk : Nat) (s : ByteArray) (i : Nat) (w : World) (R : Rdr bs ba bc bt bk s i w) (hi : i ≤ s.size) (hs : s.size ≤ 6000) :
  Calls Tryz.prog 66 #[.pointer (some ⟨bt, 0, none⟩), .pointer (some ⟨bs, 0, none⟩), .pointer (some ⟨ba, 0, none⟩)] w fun e w' => e = .returned (.tuple #[]) ∧ ∃ j, Stands s i j ∧ comB s j = false ∧ Rdr bs ba bc bt bk s j w' ∧ Mv ba w w' := by
 have c1 := R.ht
 go_enter Tryz.func66, Tryz.ntmps66
 go_wp2_with fail
 refine (take_blankI bs ba bc bt bk s i _ R hi hs).mono ?_
 rintro e w1 ⟨n, hrun, rfl, R1, hm⟩
 clear c1
 go_wp2
 go_loopw [] (fun wr => ∃ j : Nat, Stands s i j ∧ Rdr bs ba bc bt bk s j wr ∧ Mv ba w wr) (fun wr => s.size - cellNat wr ba)
 case atStart => exact ⟨i + n, ⟨Skips.blanks n i hrun.le hrun.all, hrun.le, hrun.stop⟩, R1, hm⟩
 case round =>
  obtain ⟨j, St, Rr, hmr⟩ := hrel
  have c1 := Rr.hs
  have c2 := Rr.ha
  have c3 := Rr.ht
  have hsl := slice_from s j St.le
  by_cases hcom : comB s j = true
  ·go_wp2_with fail
   refine (dash_any s j _ St.le).mono ?_
   rintro e w2 ⟨rfl, rfl⟩
   go_wp2_with fail
   refine (take_notNlI bs ba bc bt bk s j _ Rr St.le hs).mono ?_
   rintro e w3 ⟨m, hrun3, rfl, R3, hm3⟩
   have c4 := R3.ht
   clear c1 c2 c3
   go_wp2_with fail
   refine (take_blankI bs ba bc bt bk s (j + m) _ R3 hrun3.le hs).mono ?_
   rintro e w4 ⟨k, hrun4, rfl, R4, hm4⟩
   have h2 := com_first hcom hrun3
   clear c4
   go_wp2
   have hjl : j < s.size := by
    have := hrun3.le; omega
   have hn1 := Rr.nat
   have hn2 := R4.nat
   refine ⟨⟨j + m + k, ⟨St.skips.trans (.comment j m _ hcom (St.blank hjl) hrun3 (Skips.blanks k _ hrun4.le hrun4.all)), hrun4.le, hrun4.stop⟩, R4, (hmr.trans hm3).trans hm4⟩, ?_⟩
   rw [hn1, hn2]; have := hrun4.le; omega
  ·have hcom' : comB s j = false := by simpa using hcom
   go_wp2_with fail
   refine (dash_any s j _ St.le).mono ?_
   rintro e w2 ⟨rfl, rfl⟩
   clear c1 c2 c3
   go_wp2
   go_end0
   exact ⟨rfl, j, St, hcom', Rr, hmr⟩
end Go.Proofs.YtgbpccipdcajgaaGreatDoor
namespace Go.Proofs.YtgbpccipdcajgaaGreatDoor
open Go.RowKit
attribute [local go_sem ↓] Go.wp_at_zero Go.wp_at_succ
inductive TokAt (s : ByteArray) (j : Nat) : ByteArray → ByteArray → Nat → Prop
 | fin : j = s.size → TokAt s j kEnd ⟨#[]⟩ 0
 | low (n : Nat) : j < s.size → lowI (byteI s j) = true → IsRun nameI s j n → TokAt s j (nameK (s.extract j (j + n))) (s.extract j (j + n)) n
 | dig (n : Nat) : j < s.size → lowI (byteI s j) = false → digI (byteI s j) = true → IsRun digI s j n → TokAt s j (intK (s.extract j (j + n))) (s.extract j (j + n)) n
 | op (n : Nat) : j < s.size → lowI (byteI s j) = false → digI (byteI s j) = false → n = opN (s.extract j s.size) → TokAt s j (opK (s.extract j (j + n))) (s.extract j (j + n)) n

theorem Mv.setNew {ba : Nat} {w w1 : World} (h : Mv ba w w1) {p : Addr} (hp : w.heap.size ≤ p.block) (v : Value) : Mv ba w (w1.setCell p v) :=
 ⟨h.os, h.tape, h.output, by simpa [World.setCell] using h.size, fun k hk hn => (Below.heap_setCell _ _ _ _ (by omega)).trans (h.block k hk hn)⟩
theorem lt_of_cell {w : World} {p : Addr} {v : Value} (hc : w.cell? p = some v) : p.block < w.heap.size := by
 rcases Nat.lt_or_ge p.block w.heap.size with h | h
 ·exact h
 ·simp [World.cell?, Array.getElem?_eq_none h] at hc
theorem Rdr.lt {bs ba bc bt bk : Nat} {s : ByteArray} {i : Nat} {w : World} (R : Rdr bs ba bc bt bk s i w) : ba < w.heap.size := lt_of_cell R.ha
theorem Rdr.put {bs ba bc bt bk : Nat} {s : ByteArray} {i : Nat} {j : Nat} {w w1 : World} (R : Rdr bs ba bc bt bk s i w) (R1 : Rdr bs ba bc bt bk s j w1) {p : Addr} (hp : w.heap.size ≤ p.block) (v : Value) : Rdr bs ba bc bt bk s j (w1.setCell p v) := by
 have f : ∀ {b : Nat} {u x : Value}, w.cell? ⟨b, 0, none⟩ = some u → w1.cell? ⟨b, 0, none⟩ = some x → (w1.setCell p v).cell? ⟨b, 0, none⟩ = some x := by
  intro b u x h h1
  have hl := lt_of_cell h
  rw [World.cell?_of_block (w := w1) (Below.heap_setCell _ _ _ _ (by show b ≠ p.block; have : b < w.heap.size := hl; omega))]
  exact h1
 exact ⟨f R.hs R1.hs, f R.ha R1.ha, by rw [World.frozen?_setCell]; exact R1.hf, f R.hc R1.hc, f R.ht R1.ht, f R.hk R1.hk, R.ns, R.nc, R.nt, R.nk⟩

theorem Mv.drew {ba : Nat} {w w1 : World} (h : Mv ba w w1) : Mv ba w w1.drew := ⟨h.os, h.tape, h.output, h.size, h.block⟩
theorem Mv.alloc {ba : Nat} {w w1 : World} (h : Mv ba w w1) (o : Obj) : Mv ba w (w1.alloc o) :=
 h.trans (Mv.of_below ((Below.refl _ _).alloc (Nat.le_refl _) o))
theorem Rdr.alloc {bs ba bc bt bk : Nat} {s : ByteArray} {i : Nat} {w : World} (R : Rdr bs ba bc bt bk s i w) (o : Obj) : Rdr bs ba bc bt bk s i (w.alloc o) := by
 have hb : Below w.heap.size w (w.alloc o) := (Below.refl _ _).alloc (Nat.le_refl _) o
 exact R.go (Mv.of_below hb) (cell_keep hb R.ha) (by rw [hb.frozen (p := ⟨ba, 0, none⟩) R.lt]; exact R.hf)

theorem blk3 {w : World} {b : Nat} {x y z : Value} {t : TypeId} (h : w.heap[b]? = some (.cells #[x, y, z] t (0, 0))) : w.cell? ⟨b, 0, none⟩ = some x ∧ w.cell? ⟨b, 1, none⟩ = some y ∧ w.cell? ⟨b, 2, none⟩ = some z ∧ ∀ k, w.frozen? ⟨b, k, none⟩ = false :=
 ⟨by simp [World.cell?, h], by simp [World.cell?, h], by simp [World.cell?, h], fun k => by simp [World.frozen?, h]⟩
theorem extract_size (s : ByteArray) (i n : Nat) (h : i + n ≤ s.size) : (s.extract i (i + n)).size = n := by rw [ByteArray.size_extract]; omega
theorem extract_byte (s : ByteArray) (i n k : Nat) (h : i + n ≤ s.size) (hk : k < n) : byteI (s.extract i (i + n)) k = byteI s (i + k) := by
 rw [byteI_lt (by rw [extract_size s i n h]; exact hk), byteI_lt (by omega), ByteArray.getElem_extract]

theorem Rdr.drew {bs ba bc bt bk : Nat} {s : ByteArray} {i : Nat} {w : World} (R : Rdr bs ba bc bt bk s i w) : Rdr bs ba bc bt bk s i w.drew :=
 ⟨R.hs, R.ha, R.hf, R.hc, R.ht, R.hk, R.ns, R.nc, R.nt, R.nk⟩
theorem opN_le (r : ByteArray) : opN r ≤ r.size := by
 unfold opN
 split
 ·rename_i h
  simp only [twoB, Bool.and_eq_true, decide_eq_true_eq] at h
  omega
 ·split
  ·rename_i h
   unfold oneB at h
   split at h
   ·omega
   ·cases h
  ·omega

theorem tok_blk {ba : Nat} {w1 w2 : World} {c : Array Value} {t : TypeId} (hm2 : Mv ba (w1.alloc (.cells c t)).drew w2) (hlt : ba < w1.heap.size) : w2.heap[w1.heap.size]? = some (.cells c t (0, 0)) := by
 rw [hm2.block w1.heap.size (by show w1.heap.size < (w1.heap.push _).size; simp) (by intro e; injection e with e; omega)]
 show (w1.heap.push _)[w1.heap.size]? = _
 simp
theorem old_blk {ba : Nat} {w1 w2 : World} {o : Obj} {b : Nat} {x : Obj} (hm2 : Mv ba (w1.alloc o).drew w2) (hb : b < w1.heap.size) (hne : b ≠ ba) (h : w1.heap[b]? = some x) : w2.heap[b]? = some x := by
 rw [hm2.block b (by show b < (w1.heap.push _).size; simp; omega) (by intro e; injection e with e; omega)]
 exact (Below.heap_alloc w1 _ b hb).trans h

set_option maxRecDepth 100000 in
set_option maxHeartbeats 1000000 in
theorem next_any (bs ba bc bt bk : Nat) (s : ByteArray) (i : Nat) (w : World) (R : Rdr bs ba bc bt bk s i w) (hi : i ≤ s.size) (hs : s.size ≤ 6000) (ev : Value) (hv : w.cell? ⟨11, 0, none⟩ = some ev) (hev : ev = .nilIface ∨ ∃ te pe, ev = .iface te pe) (hgb : 11 ≠ ba) :
  Calls Tryz.prog 70 #[.pointer (some ⟨bk, 0, none⟩), .pointer (some ⟨ba, 0, none⟩), .pointer (some ⟨bs, 0, none⟩), .pointer (some ⟨bt, 0, none⟩), .pointer (some ⟨bc, 0, none⟩)] w fun e w' => ∃ (j n : Nat) (kind text : ByteArray), Stands s i j ∧ comB s j = false ∧ TokAt s j kind text n ∧ e = .returned (.agg #[.string kind, .string text, .int .i64 j]) ∧ Rdr bs ba bc bt bk s (j + n) w' ∧ Mv ba w w' := by
 have hb0 : Below w.heap.size w (w.alloc (.cells #[.string ⟨#[]⟩, .string ⟨#[]⟩, .int .i64 0] 37)) := (Below.refl _ _).alloc (Nat.le_refl _) _
 have R0 : Rdr bs ba bc bt bk s i (w.alloc (.cells #[.string ⟨#[]⟩, .string ⟨#[]⟩, .int .i64 0] 37)) := R.go (Mv.of_below hb0) (cell_keep hb0 R.ha) (by rw [hb0.frozen (p := ⟨ba, 0, none⟩) (R.lt)]; exact R.hf)
 have hmA : Hid (Mv ba w (w.alloc (.cells #[.string ⟨#[]⟩, .string ⟨#[]⟩, .int .i64 0] 37))) := Mv.of_below hb0
 have c1 := R0.hk
 go_enter Tryz.func70, Tryz.ntmps70
 go_wp2_with fail
 refine (skip_any bs ba bc bt bk s i _ R0 hi hs).mono ?_
 rintro e w1 ⟨rfl, j, St, hcom, R1, hm1⟩
 have hlt := R.lt
 have hz1 : w.heap.size < w1.heap.size := by have := hm1.size; simp at this; omega
 have k1 : w1.heap[w.heap.size]? = some (.cells #[.string ⟨#[]⟩, .string ⟨#[]⟩, .int .i64 0] 37 (0, 0)) := by
  rw [hm1.block w.heap.size (by simp) (by intro e; injection e with e; omega)]
  show (w.heap.push _)[w.heap.size]? = _
  simp
 have d0 : w1.cell? ⟨w.heap.size, 0, none⟩ = some (.string ⟨#[]⟩) := by simp [World.cell?, k1]
 have d1 : w1.cell? ⟨w.heap.size, 1, none⟩ = some (.string ⟨#[]⟩) := by simp [World.cell?, k1]
 have d2 : w1.cell? ⟨w.heap.size, 2, none⟩ = some (.int .i64 0) := by simp [World.cell?, k1]
 have f0 : ∀ k, w1.frozen? ⟨w.heap.size, k, none⟩ = false := by intro k; simp [World.frozen?, k1]
 have a1 := R1.ha
 have a2 := R1.hs
 have a3 := R1.ht
 have a4 := R1.hc
 have z1 := lt_of_cell R1.ha
 have z2 := lt_of_cell R1.hs
 have z3 := lt_of_cell R1.ht
 have z4 := lt_of_cell R1.hc
 clear c1 hb0 R0
 by_cases hend : j = s.size
 ·subst hend
  go_wp2
  refine bodyPost_ret (v := .agg #[.string kEnd, .string ⟨#[]⟩, .int .i64 s.size]) (by simp [results, Tryz.results70, go_sem, kEnd, d0, d1, d2, hz1]) rfl ⟨s.size, 0, kEnd, ⟨#[]⟩, St, hcom, .fin rfl, rfl, ?_, ?_⟩
  ·exact (R.put (R.put (R.put R1 (Nat.le_refl _) _) (Nat.le_refl _) _) (Nat.le_refl _) _).alloc _
  ·exact ((((hmA.out.trans hm1).setNew (Nat.le_refl _) _).setNew (Nat.le_refl _) _).setNew (Nat.le_refl _) _).alloc _
 ·have hjl : j < s.size := by have := St.le; omega
  have hbyte := byteI_lt hjl
  have HB : Hid (byteI s j = (s[j].toNat : Int)) := hbyte
  clear hbyte
  by_cases hlow : lowI (byteI s j) = true
  ·have hlow' := hlow
   rw [HB.out] at hlow'
   go_wp2_with (first | (go_at_call 71; refine (isSmall_any _ _).mono ?_; rintro e w' ⟨rfl, rfl⟩) | fail)
   refine (take_nameI bs ba bc bt bk s j _ (R1.alloc _) St.le hs).mono ?_
   rintro e w2 ⟨n, hrun, rfl, R2, hm2⟩
   have hz2 : w1.heap.size < w2.heap.size := by have := hm2.size; simp at this; omega
   obtain ⟨d0, d1, d2, f0⟩ := blk3 ((hm2.block w.heap.size (by simp; omega) (by intro e; injection e with e; omega)).trans ((Below.heap_alloc w1 _ w.heap.size hz1).trans k1))
   have k2 : w2.heap[w1.heap.size]? = some (.cells #[.string ⟨#[]⟩, .string ⟨#[]⟩, .int .i64 j] 37 (0, 0)) := by
    rw [hm2.block w1.heap.size (by simp) (by intro e; injection e with e; omega)]
    show (w1.heap.push _)[w1.heap.size]? = _
    simp
   obtain ⟨g0, g1, g2, h0⟩ := blk3 k2
   have hne : ¬ w.heap.size = w1.heap.size := by omega
   have hne' : ¬ w1.heap.size = w.heap.size := by omega
   have hsz : (s.extract j (j + n)).size = n := extract_size s j n hrun.le
   have hmB := (hmA.out.trans hm1).trans ((Mv.alloc (Mv.refl ba w1) _).trans hm2)
   clear a1 a2 a3 a4 z1 z2 z3 z4 k1 k2
   go_wp2_with (go_at_call 73; refine (nameKind_any _ _ (by rw [hsz]; have := hrun.le; omega)).mono ?_; rintro e w' ⟨rfl, rfl⟩)
   refine bodyPost_ret (v := .agg #[.string (nameK (s.extract j (j + n))), .string (s.extract j (j + n)), .int .i64 j]) (by simp [results, Tryz.results70, go_sem, d0, d1, d2]) rfl ⟨j, n, _, _, St, hcom, .low n hjl hlow hrun, rfl, ?_, ?_⟩
   ·exact R.put (R.put (R.put (R.put (R.put R2 (Nat.le_of_lt hz1) _) (Nat.le_of_lt hz1) _) (Nat.le_refl _) _) (Nat.le_refl _) _) (Nat.le_refl _) _
   ·exact ((((hmB.setNew (Nat.le_of_lt hz1) _).setNew (Nat.le_of_lt hz1) _).setNew (Nat.le_refl _) _).setNew (Nat.le_refl _) _).setNew (Nat.le_refl _) _
  ·have hlow0 : lowI (byteI s j) = false := by simpa using hlow
   have hlow' := hlow0
   rw [HB.out] at hlow'
   clear hlow
   by_cases hdig : digI (byteI s j) = true
   ·have hdig' := hdig
    rw [HB.out] at hdig'
    go_wp2_with (first | (go_at_call 71; refine (isSmall_any _ _).mono ?_; rintro e w' ⟨rfl, rfl⟩) | (go_at_call 74; refine (isDigit_any _ _).mono ?_; rintro e w' ⟨rfl, rfl⟩) | fail)
    refine (take_digI bs ba bc bt bk s j _ (R1.alloc _) St.le hs).mono ?_
    rintro e w2 ⟨n, hrun, rfl, R2, hm2⟩
    have hz2 : w1.heap.size < w2.heap.size := by have := hm2.size; simp at this; omega
    obtain ⟨d0, d1, d2, f0⟩ := blk3 ((hm2.block w.heap.size (by simp; omega) (by intro e; injection e with e; omega)).trans ((Below.heap_alloc w1 _ w.heap.size hz1).trans k1))
    have k2 : w2.heap[w1.heap.size]? = some (.cells #[.string ⟨#[]⟩, .string ⟨#[]⟩, .int .i64 j] 37 (0, 0)) := by
     rw [hm2.block w1.heap.size (by simp) (by intro e; injection e with e; omega)]
     show (w1.heap.push _)[w1.heap.size]? = _
     simp
    obtain ⟨g0, g1, g2, h0⟩ := blk3 k2
    have hne : ¬ w.heap.size = w1.heap.size := by omega
    have hne' : ¬ w1.heap.size = w.heap.size := by omega
    have hsz : (s.extract j (j + n)).size = n := extract_size s j n hrun.le
    have hmB := (hmA.out.trans hm1).trans ((Mv.alloc (Mv.refl ba w1) _).trans hm2)
    clear a1 a2 a3 a4 z1 z2 z3 z4 k1 k2
    have hn0 : 0 < n := by
     rcases Nat.eq_zero_or_pos n with h | h
     ·subst h
      have := hrun.stop (by omega)
      rw [Nat.add_zero, hdig] at this; cases this
     ·exact h
    have hv2 : (w2.setCell ⟨w1.heap.size, 1, none⟩ (.string (s.extract j (j + n)))).cell? ⟨11, 0, none⟩ = some ev := by
     have hl := lt_of_cell hv
     rw [World.cell?_of_block (w := w2) (Below.heap_setCell _ _ _ _ (by show 11 ≠ w1.heap.size; have : 11 < w.heap.size := hl; omega))]
     exact hmB.cell hgb hv
    have hdd : ∀ k, k < (s.extract j (j + n)).size → digI (byteI (s.extract j (j + n)) k) = true := by
     intro k hk
     rw [hsz] at hk
     rw [extract_byte s j n k hrun.le hk]
     exact hrun.all k hk
    go_wp2_with fail
    refine (intKind_any _ _ (by rw [hsz]; exact hn0) (by rw [hsz]; have := hrun.le; omega) hdd ev hv2 hev).mono ?_
    rintro e w3 ⟨rfl, hb3⟩
    have hsz3 : (w2.setCell ⟨w1.heap.size, 1, none⟩ (.string (s.extract j (j + n)))).heap.size = w2.heap.size := by simp [World.setCell]
    have R3a := R.put R2 (p := ⟨w1.heap.size, 1, none⟩) (Nat.le_of_lt hz1) (.string (s.extract j (j + n)))
    have R3 : Rdr bs ba bc bt bk s (j + n) w3 := R3a.go (Mv.of_below hb3) (cell_keep hb3 R3a.ha) (by rw [hb3.frozen (p := ⟨ba, 0, none⟩) R3a.lt]; exact R3a.hf)
    have hmC := (hmB.setNew (p := ⟨w1.heap.size, 1, none⟩) (Nat.le_of_lt hz1) (.string (s.extract j (j + n)))).trans (Mv.of_below hb3)
    have x0 : w3.cell? ⟨w.heap.size, 0, none⟩ = some (.string ⟨#[]⟩) := cell_keep hb3 (by rw [World.cell?_of_block (w := w2) (Below.heap_setCell _ _ _ _ hne)]; exact d0)
    have x1 : w3.cell? ⟨w.heap.size, 1, none⟩ = some (.string ⟨#[]⟩) := cell_keep hb3 (by rw [World.cell?_of_block (w := w2) (Below.heap_setCell _ _ _ _ hne)]; exact d1)
    have x2 : w3.cell? ⟨w.heap.size, 2, none⟩ = some (.int .i64 0) := cell_keep hb3 (by rw [World.cell?_of_block (w := w2) (Below.heap_setCell _ _ _ _ hne)]; exact d2)
    have x3 : ∀ k, w3.frozen? ⟨w.heap.size, k, none⟩ = false := fun k => by rw [hb3.frozen (p := ⟨w.heap.size, k, none⟩) (by rw [hsz3]; show w.heap.size < w2.heap.size; omega), World.frozen?_setCell]; exact f0 k
    have y0 : w3.cell? ⟨w1.heap.size, 0, none⟩ = some (.string ⟨#[]⟩) := cell_keep hb3 (by rw [World.cell?_setCell_other _ _ _ _ (by intro e; injection e with _ e; cases e)]; exact g0)
    have y1 : w3.cell? ⟨w1.heap.size, 1, none⟩ = some (.string (s.extract j (j + n))) := cell_keep hb3 (World.cell?_setCell_same _ _ _ g1)
    have y2 : w3.cell? ⟨w1.heap.size, 2, none⟩ = some (.int .i64 j) := cell_keep hb3 (by rw [World.cell?_setCell_other _ _ _ _ (by intro e; injection e with _ e; cases e)]; exact g2)
    have y3 : ∀ k, w3.frozen? ⟨w1.heap.size, k, none⟩ = false := fun k => by rw [hb3.frozen (p := ⟨w1.heap.size, k, none⟩) (by rw [hsz3]; exact hz2), World.frozen?_setCell]; exact h0 k
    clear hv2 hdd d0 d1 d2 f0 g0 g1 g2 h0 R3a hb3 hsz3
    go_wp2
    refine bodyPost_ret (v := .agg #[.string (intK (s.extract j (j + n))), .string (s.extract j (j + n)), .int .i64 j]) (by simp [results, Tryz.results70, go_sem, x0, x1, x2]) rfl ⟨j, n, _, _, St, hcom, .dig n hjl hlow0 hdig hrun, rfl, ?_, ?_⟩
    ·exact R.put (R.put (R.put (R.put R3 (Nat.le_of_lt hz1) _) (Nat.le_refl _) _) (Nat.le_refl _) _) (Nat.le_refl _) _
    ·exact (((hmC.setNew (Nat.le_of_lt hz1) _).setNew (Nat.le_refl _) _).setNew (Nat.le_refl _) _).setNew (Nat.le_refl _) _
   ·have hdig0 : digI (byteI s j) = false := by simpa using hdig
    have hdig' := hdig0
    rw [HB.out] at hdig'
    clear hdig
    have hsl := slice_from s j St.le
    go_wp2_with (first | (go_at_call 71; refine (isSmall_any _ _).mono ?_; rintro e w' ⟨rfl, rfl⟩) | (go_at_call 74; refine (isDigit_any _ _).mono ?_; rintro e w' ⟨rfl, rfl⟩) | fail)
    have hn := opN_le (s.extract j s.size)
    have hse : (s.extract j s.size).size ≤ 6000 := by rw [ByteArray.size_extract]; omega
    have hn1 : j + opN (s.extract j s.size) ≤ s.size := by rw [ByteArray.size_extract] at hn; have := St.le; omega
    have RW := (R1.alloc (.cells #[.string ⟨#[]⟩, .string ⟨#[]⟩, .int .i64 j] 37)).drew
    have hba : ba < w1.heap.size := R1.lt
    have hne : ¬ w.heap.size = w1.heap.size := by omega
    have hne' : ¬ w1.heap.size = w.heap.size := by omega
    have K1 : Hid (w1.heap[w.heap.size]? = some (.cells #[.string ⟨#[]⟩, .string ⟨#[]⟩, .int .i64 0] 37 (0, 0))) := k1
    clear hn k1
    go_region_with (first
     | (go_at_call 76; refine (opLength_any (s.extract j s.size) _ hse).mono ?_; rintro e w' ⟨rfl, rfl⟩)
     | (go_at_call 63; refine (cut_any bs ba bc bt bk s j (opN (s.extract j s.size)) _ ?_ hn1 hs).mono ?_; exact RW; rintro e w2 ⟨rfl, R2, hm2⟩; obtain ⟨g0, g1, g2, h0⟩ := blk3 (tok_blk hm2 hba)))
    all_goals
     have hz2 : w1.heap.size < w2.heap.size := by have := hm2.size; simp at this; omega
     obtain ⟨d0, d1, d2, f0⟩ := blk3 (old_blk hm2 hz1 (by omega) K1.out)
     have hmB := (hmA.out.trans hm1).trans ((Mv.alloc (Mv.refl ba w1) _).drew.trans hm2)
     clear a1 a2 a3 a4 z1 z2 z3 z4 RW hsl
     go_wp2_with (go_at_call 77; refine (opKind_any _ _).mono ?_; rintro e w' ⟨rfl, rfl⟩)
     refine bodyPost_ret (v := .agg #[.string (opK (s.extract j (j + opN (s.extract j s.size)))), .string (s.extract j (j + opN (s.extract j s.size))), .int .i64 j]) (by simp [results, Tryz.results70, go_sem, d0, d1, d2]) rfl ⟨j, opN (s.extract j s.size), _, _, St, hcom, .op _ hjl hlow0 hdig0 rfl, rfl, ?_, ?_⟩
     ·exact R.put (R.put (R.put (R.put (R.put R2 (Nat.le_of_lt hz1) _) (Nat.le_of_lt hz1) _) (Nat.le_refl _) _) (Nat.le_refl _) _) (Nat.le_refl _) _
     ·exact ((((hmB.setNew (Nat.le_of_lt hz1) _).setNew (Nat.le_of_lt hz1) _).setNew (Nat.le_refl _) _).setNew (Nat.le_refl _) _).setNew (Nat.le_refl _) _
end Go.Proofs.YtgbpccipdcajgaaGreatDoor
namespace Go.Proofs.YtgbpccipdcajgaaGreatDoor
open Go.RowKit
structure Tk where
 kind : ByteArray
 text : ByteArray
 pos : Nat
def tkCells (l : List Tk) : List Value := l.flatMap fun t => [.string t.kind, .string t.text, .int .i64 t.pos]
theorem tkCells_snoc (l : List Tk) (t : Tk) : tkCells (l ++ [t]) = tkCells l ++ [.string t.kind, .string t.text, .int .i64 t.pos] := by
 simp [tkCells]
theorem tkCells_at : ∀ (l : List Tk) (i : Nat) (h : i < l.length), (tkCells l)[i * 3]? = some (.string l[i].kind) ∧ (tkCells l)[i * 3 + 1]? = some (.string l[i].text) ∧ (tkCells l)[i * 3 + 2]? = some (.int .i64 l[i].pos)
 | [], i, h => by cases h
 | t :: r, 0, _ => ⟨rfl, rfl, rfl⟩
 | t :: r, i + 1, h => by
  have := tkCells_at r i (by simpa using h)
  have e : tkCells (t :: r) = .string t.kind :: .string t.text :: .int .i64 t.pos :: tkCells r := rfl
  rw [e, show (i + 1) * 3 = i * 3 + 3 from by omega, show i * 3 + 3 + 1 = (i * 3 + 1) + 3 from by omega, show i * 3 + 3 + 2 = (i * 3 + 2) + 3 from by omega]
  simpa using this

theorem Skips.le {s : ByteArray} {i j : Nat} (h : Skips s i j) : i ≤ j := by
 induction h with
 | refl => exact Nat.le_refl _
 | blank i j _ _ _ ih => omega
 | comment i n j _ _ _ _ ih => omega

inductive Reads (s : ByteArray) : List Tk → Nat → Prop
 | start : Reads s [] 0
 | tok (l : List Tk) (i j n : Nat) (kind text : ByteArray) : Reads s l i → Stands s i j → comB s j = false → TokAt s j kind text n → kind.toList.isEmpty = false → (kind.toList == [101, 110, 100]) = false → Reads s (l ++ [⟨kind, text, j⟩]) (j + n)

theorem low_name {c : Int} (h : lowI c = true) : nameI c = true := by simp [nameI, h]
theorem kEnd_list : kEnd.toList = [101, 110, 100] := by rw [ByteArray.toList_eq]; rfl
theorem kNone_list : kNone.toList = [] := by rw [ByteArray.toList_eq]; rfl
theorem TokAt.le {s : ByteArray} {j n : Nat} {kind text : ByteArray} (T : TokAt s j kind text n) (hj : j ≤ s.size) : j + n ≤ s.size := by
 cases T with
 | fin h => omega
 | low n _ _ r => exact r.le
 | dig n _ _ _ r => exact r.le
 | op n hjl _ _ h =>
  have := opN_le (s.extract j s.size)
  rw [ByteArray.size_extract] at this
  omega
theorem TokAt.pos {s : ByteArray} {j n : Nat} {kind text : ByteArray} (T : TokAt s j kind text n) (h0 : kind.toList.isEmpty = false) (h1 : (kind.toList == [101, 110, 100]) = false) : 0 < n := by
 cases T with
 | fin h => rw [kEnd_list] at h1; cases h1
 | low n hj hl r =>
  rcases Nat.eq_zero_or_pos n with h | h
  ·subst h
   have := r.stop (by omega)
   rw [Nat.add_zero, low_name hl] at this; cases this
  ·exact h
 | dig n hj _ hd r =>
  rcases Nat.eq_zero_or_pos n with h | h
  ·subst h
   have := r.stop (by omega)
   rw [Nat.add_zero, hd] at this; cases this
  ·exact h
 | op n hj _ _ h =>
  rcases Nat.eq_zero_or_pos n with h2 | h2
  ·exfalso
   have e : (s.extract j (j + n)).toList = [] := by
    rw [nil_iff, ByteArray.size_extract]; omega
   have ek : opK (s.extract j (j + n)) = kNone := by simp [opK, e]
   rw [ek, kNone_list] at h0
   cases h0
  ·exact h2
theorem Reads.le {s : ByteArray} {l : List Tk} {i : Nat} (h : Reads s l i) : i ≤ s.size ∧ l.length ≤ i := by
 induction h with
 | start => exact ⟨Nat.zero_le _, Nat.le_refl _⟩
 | tok l i j n kind text _ St _ T h0 h1 ih =>
  have hp := T.pos h0 h1
  have hl := T.le St.le
  have hij : i ≤ j := St.skips.le
  rw [List.length_append]
  exact ⟨hl, by simp only [List.length_cons, List.length_nil]; omega⟩

theorem Skips.one {s : ByteArray} {i j k : Nat} (h : Skips s i j) (hj : j < s.size → blankI (byteI s j) = false) (cj : comB s j = false) (g : Skips s i k) (hk : k < s.size → blankI (byteI s k) = false) (ck : comB s k = false) : j = k := by
 induction h with
 | refl i =>
  cases g with
  | refl => rfl
  | blank _ _ h1 h2 _ => rw [hj h1] at h2; cases h2
  | comment _ n _ h1 _ _ _ => rw [cj] at h1; cases h1
 | blank i j h1 h2 _ ih =>
  cases g with
  | refl => rw [hk h1] at h2; cases h2
  | blank _ _ _ _ g => exact ih hj cj g
  | comment _ n _ _ h3 _ _ => rw [h2] at h3; cases h3
 | comment i n j h1 h2 h3 _ ih =>
  cases g with
  | refl => rw [ck] at h1; cases h1
  | blank _ _ _ h4 _ => rw [h2] at h4; cases h4
  | comment _ m _ _ _ h5 g =>
   obtain rfl := h3.one h5
   exact ih hj cj g
theorem Stands.one {s : ByteArray} {i j k : Nat} (h : Stands s i j) (cj : comB s j = false) (g : Stands s i k) (ck : comB s k = false) : j = k :=
 h.skips.one h.blank cj g.skips g.blank ck

theorem TokAt.one {s : ByteArray} {j n m : Nat} {k t k' t' : ByteArray} (a : TokAt s j k t n) (b : TokAt s j k' t' m) : k = k' ∧ t = t' ∧ n = m := by
 cases a with
 | fin h =>
  cases b with
  | fin => exact ⟨rfl, rfl, rfl⟩
  | low _ h1 => omega
  | dig _ h1 => omega
  | op _ h1 => omega
 | low n h1 h2 r =>
  cases b with
  | fin h => omega
  | low m _ _ r' => obtain rfl := r.one r'; exact ⟨rfl, rfl, rfl⟩
  | dig m _ h3 => rw [h2] at h3; cases h3
  | op m _ h3 => rw [h2] at h3; cases h3
 | dig n h1 h2 h3 r =>
  cases b with
  | fin h => omega
  | low m _ h4 => rw [h2] at h4; cases h4
  | dig m _ _ _ r' => obtain rfl := r.one r'; exact ⟨rfl, rfl, rfl⟩
  | op m _ _ h4 => rw [h3] at h4; cases h4
 | op n h1 h2 h3 e =>
  cases b with
  | fin h => omega
  | low m _ h4 => rw [h2] at h4; cases h4
  | dig m _ _ h4 => rw [h3] at h4; cases h4
  | op m _ _ _ e' => rw [e, e']; exact ⟨rfl, rfl, rfl⟩

inductive Lexes (s : ByteArray) : Nat → List Tk → Option Nat → Prop
 | fin (i j n : Nat) (kind text : ByteArray) : Stands s i j → comB s j = false → TokAt s j kind text n → kind.toList.isEmpty = false → (kind.toList == [101, 110, 100]) = true → Lexes s i [⟨kind, text, j⟩] none
 | bad (i j n : Nat) (kind text : ByteArray) : Stands s i j → comB s j = false → TokAt s j kind text n → kind.toList.isEmpty = true → Lexes s i [] (some j)
 | tok (i j n : Nat) (kind text : ByteArray) (l : List Tk) (r : Option Nat) : Stands s i j → comB s j = false → TokAt s j kind text n → kind.toList.isEmpty = false → (kind.toList == [101, 110, 100]) = false → Lexes s (j + n) l r → Lexes s i (⟨kind, text, j⟩ :: l) r
theorem Lexes.one {s : ByteArray} {i : Nat} {l l' : List Tk} {r r' : Option Nat} (a : Lexes s i l r) (b : Lexes s i l' r') : l = l' ∧ r = r' := by
 induction a generalizing l' r' with
 | fin i j n kind text S c T h0 h1 =>
  cases b with
  | fin _ j' n' kind' text' S' c' T' =>
   obtain rfl := S.one c S' c'
   obtain ⟨rfl, rfl, rfl⟩ := T.one T'
   exact ⟨rfl, rfl⟩
  | bad _ j' n' kind' text' S' c' T' h =>
   obtain rfl := S.one c S' c'
   obtain ⟨rfl, rfl, rfl⟩ := T.one T'
   rw [h0] at h; cases h
  | tok _ j' n' kind' text' _ _ S' c' T' _ h =>
   obtain rfl := S.one c S' c'
   obtain ⟨rfl, rfl, rfl⟩ := T.one T'
   rw [h1] at h; cases h
 | bad i j n kind text S c T h0 =>
  cases b with
  | fin _ j' n' kind' text' S' c' T' h =>
   obtain rfl := S.one c S' c'
   obtain ⟨rfl, rfl, rfl⟩ := T.one T'
   rw [h0] at h; cases h
  | bad _ j' n' kind' text' S' c' T' h =>
   obtain rfl := S.one c S' c'
   exact ⟨rfl, rfl⟩
  | tok _ j' n' kind' text' _ _ S' c' T' h _ =>
   obtain rfl := S.one c S' c'
   obtain ⟨rfl, rfl, rfl⟩ := T.one T'
   rw [h0] at h; cases h
 | tok i j n kind text l r S c T h0 h1 _ ih =>
  cases b with
  | fin _ j' n' kind' text' S' c' T' _ h =>
   obtain rfl := S.one c S' c'
   obtain ⟨rfl, rfl, rfl⟩ := T.one T'
   rw [h1] at h; cases h
  | bad _ j' n' kind' text' S' c' T' h =>
   obtain rfl := S.one c S' c'
   obtain ⟨rfl, rfl, rfl⟩ := T.one T'
   rw [h0] at h; cases h
  | tok _ j' n' kind' text' _ _ S' c' T' _ _ g =>
   obtain rfl := S.one c S' c'
   obtain ⟨rfl, rfl, rfl⟩ := T.one T'
   obtain ⟨rfl, rfl⟩ := ih g
   exact ⟨rfl, rfl⟩
theorem Reads.lexes {s : ByteArray} {l : List Tk} {i : Nat} (h : Reads s l i) : ∀ {l' : List Tk} {r : Option Nat}, Lexes s i l' r → Lexes s 0 (l ++ l') r := by
 induction h with
 | start => intro l' r g; exact g
 | tok l i j n kind text _ S c T h0 h1 ih =>
  intro l' r g
  rw [List.append_assoc]
  exact ih (.tok i j n kind text l' r S c T h0 h1 g)
end Go.Proofs.YtgbpccipdcajgaaGreatDoor
