/-
  THE CLOSURES OF lex.reader, BY THEIR CONTRACTS: cut, take, skip. Conditions: the reader's five variables lie in memory as lex.reader lays them ('Rdr'); the place is within the text, the text of at most 6000 bytes.
-/
import Derived.Test.YtkipbkhpomjhkaaGreatDoorLexA
import Derived.Test.YtkipbkhpomjhkaaGreatDoorCode
import Derived.Laws.EntriesVeiled
import Derived.Deep.QuietTactic
import Derived.BigQuiet
import Derived.WalkSmall
namespace Go.Proofs.YtkipbkhpomjhkaaGreatDoor
open Go.RowKit

/-- Of what was there all is as it was, but block ba. -/
abbrev Mv (ba : Nat) (w w' : World) : Prop := w.grownBy w' (some ba)
theorem Mv.refl (ba : Nat) (w : World) : Mv ba w w := ⟨rfl, rfl, rfl, Nat.le_refl _, fun _ _ _ => rfl⟩
theorem Mv.trans {ba : Nat} {a b c : World} (h : Mv ba a b) (k : Mv ba b c) : Mv ba a c :=
  ⟨k.os.trans h.os, k.tape.trans h.tape, k.output.trans h.output, Nat.le_trans h.size k.size, fun i hi hn => (k.block i (Nat.lt_of_lt_of_le hi h.size) hn).trans (h.block i hi hn)⟩
theorem Mv.of_below {ba : Nat} {w w' : World} (h : Below w.heap.size w w') : Mv ba w w' := ⟨h.os, h.tape, h.output, h.size, fun k hk _ => h.block k hk⟩
theorem Mv.set (ba : Nat) (w : World) (v : Value) : Mv ba w (w.setCell ⟨ba, 0, none⟩ v) :=
  ⟨rfl, rfl, rfl, by simp [World.setCell], fun k _ hn => Below.heap_setCell _ _ _ _ (fun e => hn (by rw [e]))⟩
theorem Mv.cell {ba : Nat} {w w' : World} (h : Mv ba w w') {p : Addr} {v : Value} (hp : p.block ≠ ba) (hc : w.cell? p = some v) : w'.cell? p = some v := by
  have hl : p.block < w.heap.size := by
    rcases Nat.lt_or_ge p.block w.heap.size with h | h
    · exact h
    · simp [World.cell?, Array.getElem?_eq_none h] at hc
  rw [World.cell?_of_block (w := w) (h.block p.block hl (fun e => hp (Option.some.inj e)))]; exact hc

/-- A reader: its text, where it stands, its closures. -/
structure Rdr (bs ba bc bt bk : Nat) (s : ByteArray) (i : Nat) (w : World) : Prop where
  hs : w.cell? ⟨bs, 0, none⟩ = some (.string s)
  ha : w.cell? ⟨ba, 0, none⟩ = some (.int .i64 i)
  hf : w.frozen? ⟨ba, 0, none⟩ = false
  hc : w.cell? ⟨bc, 0, none⟩ = some (.func (.func 24) #[] #[.pointer (some ⟨ba, 0, none⟩), .pointer (some ⟨bs, 0, none⟩)])
  ht : w.cell? ⟨bt, 0, none⟩ = some (.func (.func 26) #[] #[.pointer (some ⟨ba, 0, none⟩), .pointer (some ⟨bs, 0, none⟩), .pointer (some ⟨bc, 0, none⟩)])
  hk : w.cell? ⟨bk, 0, none⟩ = some (.func (.func 27) #[] #[.pointer (some ⟨bt, 0, none⟩), .pointer (some ⟨bs, 0, none⟩), .pointer (some ⟨ba, 0, none⟩)])
  ns : bs ≠ ba
  nc : bc ≠ ba
  nt : bt ≠ ba
  nk : bk ≠ ba
theorem Rdr.go {bs ba bc bt bk : Nat} {s : ByteArray} {i j : Nat} {w w' : World} (R : Rdr bs ba bc bt bk s i w) (h : Mv ba w w') (ha : w'.cell? ⟨ba, 0, none⟩ = some (.int .i64 j)) (hf : w'.frozen? ⟨ba, 0, none⟩ = false) : Rdr bs ba bc bt bk s j w' :=
  ⟨h.cell R.ns R.hs, ha, hf, h.cell R.nc R.hc, h.cell R.nt R.ht, h.cell R.nk R.hk, R.ns, R.nc, R.nt, R.nk⟩

theorem reader_any (s : ByteArray) (w : World) : Calls Tryz.prog 14 #[.string s] w fun e w' => ∃ bs ba bc bt bk : Nat, e = .returned (.func (.func 31) #[] #[.pointer (some ⟨bk, 0, none⟩), .pointer (some ⟨ba, 0, none⟩), .pointer (some ⟨bs, 0, none⟩), .pointer (some ⟨bt, 0, none⟩), .pointer (some ⟨bc, 0, none⟩)]) ∧ w.heap.size ≤ ba ∧ Rdr bs ba bc bt bk s 0 w' ∧ Below w.heap.size w w' := by
  go_enter Tryz.func14, Tryz.ntmps14
  go_wp2
  go_ret
  refine ⟨w.heap.size, w.heap.size + 1, w.heap.size + 1 + 1, w.heap.size + 1 + 1 + 1, w.heap.size + 1 + 1 + 1 + 1, rfl, by omega, ⟨?_, ?_, ?_, ?_, ?_, ?_, by omega, by omega, by omega, by omega⟩, ?_⟩
  · rw [World.cell?_alloc_past _ _ _ (by simp <;> omega), World.cell?_alloc_past _ _ _ (by simp <;> omega), World.cell?_alloc_past _ _ _ (by simp <;> omega), World.cell?_alloc_past _ _ _ (by simp <;> omega), World.cell?_alloc_at _ _ _ _ (by simp)]; rfl
  · rw [World.cell?_alloc_past _ _ _ (by simp <;> omega), World.cell?_alloc_past _ _ _ (by simp <;> omega), World.cell?_alloc_past _ _ _ (by simp <;> omega), World.cell?_alloc_at _ _ _ _ (by simp)]; rfl
  · rw [World.frozen?_alloc_past _ _ _ (by simp <;> omega), World.frozen?_alloc_past _ _ _ (by simp <;> omega), World.frozen?_alloc_past _ _ _ (by simp <;> omega), World.frozen?_alloc_at _ _ _ _ (by simp)]
  · rw [World.cell?_alloc_past _ _ _ (by simp <;> omega), World.cell?_alloc_past _ _ _ (by simp <;> omega), World.cell?_alloc_at _ _ _ _ (by simp)]; rfl
  · rw [World.cell?_alloc_past _ _ _ (by simp <;> omega), World.cell?_alloc_at _ _ _ _ (by simp)]; rfl
  · rw [World.cell?_alloc_at _ _ _ _ (by simp)]; rfl
  · exact (((((Below.refl _ _).alloc (Nat.le_refl _) _).alloc (by simp) _).alloc (by simp; omega) _).alloc (by simp; omega) _).alloc (by simp; omega) _

theorem clone_any (s : ByteArray) (w : World) (hs : s.size ≤ 6000) : Calls Tryz.prog 25 #[.string s] w fun e w' => e = .returned (.string s) ∧ Below w.heap.size w w' := by
  go_enter Tryz.func25, Tryz.ntmps25
  go_wp2_with (go_at_call 51; refine (Tryz.stringslite_Clone _ _ (by omega)).mono ?_; rintro e w' ⟨rfl, hb⟩)
  go_ret
  exact ⟨rfl, hb⟩

theorem slice_mid (s : ByteArray) (i n : Nat) (h : i + n ≤ s.size) (W : World) : (Instr.slice 9 (.string s) (some (.int .i64 (i : Int))) (some (.int .i64 ((i : Int) + (n : Int)))) none).run Tryz.prog W = .ok (.string (s.extract i (i + n))) W := by
  have h1 : ((i : Int) + (n : Int)).toNat = i + n := by omega
  have h2 : 0 ≤ (i : Int) + (n : Int) := by omega
  have h3 : ¬ (s.size : Int) < (i : Int) + (n : Int) := by omega
  simp [Instr.slice, Instr.sliceBounds, Instr.sliceBound, asIntOf, run_underlying Tryz.underlying9, h1, h2, h3, go_sem]
theorem slice_from (s : ByteArray) (i : Nat) (h : i ≤ s.size) (W : World) : (Instr.slice 9 (.string s) (some (.int .i64 (i : Int))) none none).run Tryz.prog W = .ok (.string (s.extract i s.size)) W := by
  have h3 : ¬ s.size < i := by omega
  simp [Instr.slice, Instr.sliceBounds, Instr.sliceBound, asIntOf, run_underlying Tryz.underlying9, h3, go_sem]

set_option maxRecDepth 100000 in
set_option maxHeartbeats 1000000 in
theorem cut_any (bs ba bc bt bk : Nat) (s : ByteArray) (i n : Nat) (w : World) (R : Rdr bs ba bc bt bk s i w) (h : i + n ≤ s.size) (hs : s.size ≤ 6000) :
    Calls Tryz.prog 24 #[.int .i64 n, .pointer (some ⟨ba, 0, none⟩), .pointer (some ⟨bs, 0, none⟩)] w fun e w' => e = .returned (.string (s.extract i (i + n))) ∧ Rdr bs ba bc bt bk s (i + n) w' ∧ Mv ba w w' := by
  have c1 := R.hs
  have c2 := R.ha
  have c3 := R.hf
  have hne : (⟨ba, 0, none⟩ : Addr) ≠ ⟨bs, 0, none⟩ := fun e => R.ns (by injection e with e1; exact e1.symm)
  have c4 : (w.setCell ⟨ba, 0, none⟩ (.int .i64 ((i : Int) + n))).cell? ⟨bs, 0, none⟩ = some (.string s) := by rw [World.cell?_setCell_other _ _ _ _ hne]; exact c1
  have c5 : (w.setCell ⟨ba, 0, none⟩ (.int .i64 ((i : Int) + n))).cell? ⟨ba, 0, none⟩ = some (.int .i64 ((i : Int) + n)) := World.cell?_setCell_same _ _ _ c2
  have c6 : (w.setCell ⟨ba, 0, none⟩ (.int .i64 ((i : Int) + n))).frozen? ⟨ba, 0, none⟩ = false := by rw [World.frozen?_setCell]; exact c3
  have hsl := slice_mid s i n h
  have hsz : (s.extract i (i + n)).size ≤ 6000 := by rw [ByteArray.size_extract]; omega
  go_enter Tryz.func24, Tryz.ntmps24
  go_wp2_with (go_at_call 25; refine (clone_any _ _ hsz).mono ?_; rintro e w1 ⟨rfl, hb⟩)
  go_ret
  have e0 : ((i : Int) + (n : Int)) = ((i + n : Nat) : Int) := by omega
  refine ⟨rfl, R.go ((Mv.set ba w _).trans (Mv.of_below hb)) ?_ ?_, (Mv.set ba w _).trans (Mv.of_below hb)⟩
  · rw [← e0]; exact cell_keep hb c5
  · rw [hb.frozen (p := ⟨ba, 0, none⟩) (by rcases Nat.lt_or_ge ba (w.setCell ⟨ba, 0, none⟩ (.int .i64 ((i : Int) + n))).heap.size with h | h; (exact h); (simp [World.cell?, Array.getElem?_eq_none h] at c5))]; exact c6

set_option maxRecDepth 100000 in
set_option maxHeartbeats 1000000 in
theorem take_blankI (bs ba bc bt bk : Nat) (s : ByteArray) (i : Nat) (w : World) (R : Rdr bs ba bc bt bk s i w) (hi : i ≤ s.size) (hs : s.size ≤ 6000) :
    Calls Tryz.prog 26 #[.func (.func 28) #[] #[], .pointer (some ⟨ba, 0, none⟩), .pointer (some ⟨bs, 0, none⟩), .pointer (some ⟨bc, 0, none⟩)] w fun e w' => ∃ n, IsRun blankI s i n ∧ e = .returned (.string (s.extract i (i + n))) ∧ Rdr bs ba bc bt bk s (i + n) w' ∧ Mv ba w w' := by
  have c1 := R.hs
  have c2 := R.ha
  have c3 := R.hc
  go_enter Tryz.func26, Tryz.ntmps26
  go_wp2
  go_loop [6] (fun t => ∃ n : Nat, i + n ≤ s.size ∧ t = .int .i64 n ∧ Hid (∀ k, k < n → blankI (byteI s (i + k)) = true)) (fun t => s.size - (intOf t).toNat)
  case atStart => exact ⟨0, by omega, rfl, fun k hk => by omega⟩
  case round =>
    obtain ⟨n, hn, rfl, hall⟩ := hrel
    by_cases hlt : i + n < s.size
    · have hbyte := byteI_lt hlt
      have HB : Hid (byteI s (i + n) = (s[i + n].toNat : Int)) := hbyte
      clear hbyte
      go_wp2_with (first | (go_at_call 28; refine (isBlank_any _ _).mono ?_; rintro e w' ⟨rfl, rfl⟩) | fail)
      · have hp : blankI (s[i + n].toNat : Int) = true := by assumption
        refine ⟨⟨n + 1, by omega, by go_num, ?_⟩, by simp [intOf]; omega⟩
        intro k hk
        by_cases e : k = n
        · subst e; rw [HB.out]; exact hp
        · exact hall.out k (by omega)
      · have hp : blankI (s[i + n].toNat : Int) = false := by assumption
        refine (cut_any _ _ bc bt bk s i n _ R hn hs).mono ?_
        rintro e w1 ⟨rfl, R1, hm⟩
        go_wp2
        go_ret
        exact ⟨n, ⟨hn, hall.out, fun _ => by rw [HB.out]; exact hp⟩, rfl, R1, hm⟩
    · go_wp2_with fail
      refine (cut_any _ _ bc bt bk s i n _ R hn hs).mono ?_
      rintro e w1 ⟨rfl, R1, hm⟩
      go_wp2
      go_ret
      exact ⟨n, ⟨hn, hall.out, fun h => absurd h hlt⟩, rfl, R1, hm⟩

set_option maxRecDepth 100000 in
set_option maxHeartbeats 1000000 in
theorem take_notNlI (bs ba bc bt bk : Nat) (s : ByteArray) (i : Nat) (w : World) (R : Rdr bs ba bc bt bk s i w) (hi : i ≤ s.size) (hs : s.size ≤ 6000) :
    Calls Tryz.prog 26 #[.func (.func 30) #[] #[], .pointer (some ⟨ba, 0, none⟩), .pointer (some ⟨bs, 0, none⟩), .pointer (some ⟨bc, 0, none⟩)] w fun e w' => ∃ n, IsRun notNlI s i n ∧ e = .returned (.string (s.extract i (i + n))) ∧ Rdr bs ba bc bt bk s (i + n) w' ∧ Mv ba w w' := by
  have c1 := R.hs
  have c2 := R.ha
  have c3 := R.hc
  go_enter Tryz.func26, Tryz.ntmps26
  go_wp2
  go_loop [6] (fun t => ∃ n : Nat, i + n ≤ s.size ∧ t = .int .i64 n ∧ Hid (∀ k, k < n → notNlI (byteI s (i + k)) = true)) (fun t => s.size - (intOf t).toNat)
  case atStart => exact ⟨0, by omega, rfl, fun k hk => by omega⟩
  case round =>
    obtain ⟨n, hn, rfl, hall⟩ := hrel
    by_cases hlt : i + n < s.size
    · have hbyte := byteI_lt hlt
      have HB : Hid (byteI s (i + n) = (s[i + n].toNat : Int)) := hbyte
      clear hbyte
      go_wp2_with (first | (go_at_call 30; refine (notNl_any _ _).mono ?_; rintro e w' ⟨rfl, rfl⟩) | fail)
      · have hp : notNlI (s[i + n].toNat : Int) = true := by assumption
        refine ⟨⟨n + 1, by omega, by go_num, ?_⟩, by simp [intOf]; omega⟩
        intro k hk
        by_cases e : k = n
        · subst e; rw [HB.out]; exact hp
        · exact hall.out k (by omega)
      · have hp : notNlI (s[i + n].toNat : Int) = false := by assumption
        refine (cut_any _ _ bc bt bk s i n _ R hn hs).mono ?_
        rintro e w1 ⟨rfl, R1, hm⟩
        go_wp2
        go_ret
        exact ⟨n, ⟨hn, hall.out, fun _ => by rw [HB.out]; exact hp⟩, rfl, R1, hm⟩
    · go_wp2_with fail
      refine (cut_any _ _ bc bt bk s i n _ R hn hs).mono ?_
      rintro e w1 ⟨rfl, R1, hm⟩
      go_wp2
      go_ret
      exact ⟨n, ⟨hn, hall.out, fun h => absurd h hlt⟩, rfl, R1, hm⟩

set_option maxRecDepth 100000 in
set_option maxHeartbeats 1000000 in
theorem take_nameI (bs ba bc bt bk : Nat) (s : ByteArray) (i : Nat) (w : World) (R : Rdr bs ba bc bt bk s i w) (hi : i ≤ s.size) (hs : s.size ≤ 6000) :
    Calls Tryz.prog 26 #[.func (.func 33) #[] #[], .pointer (some ⟨ba, 0, none⟩), .pointer (some ⟨bs, 0, none⟩), .pointer (some ⟨bc, 0, none⟩)] w fun e w' => ∃ n, IsRun nameI s i n ∧ e = .returned (.string (s.extract i (i + n))) ∧ Rdr bs ba bc bt bk s (i + n) w' ∧ Mv ba w w' := by
  have c1 := R.hs
  have c2 := R.ha
  have c3 := R.hc
  go_enter Tryz.func26, Tryz.ntmps26
  go_wp2
  go_loop [6] (fun t => ∃ n : Nat, i + n ≤ s.size ∧ t = .int .i64 n ∧ Hid (∀ k, k < n → nameI (byteI s (i + k)) = true)) (fun t => s.size - (intOf t).toNat)
  case atStart => exact ⟨0, by omega, rfl, fun k hk => by omega⟩
  case round =>
    obtain ⟨n, hn, rfl, hall⟩ := hrel
    by_cases hlt : i + n < s.size
    · have hbyte := byteI_lt hlt
      have HB : Hid (byteI s (i + n) = (s[i + n].toNat : Int)) := hbyte
      clear hbyte
      go_wp2_with (first | (go_at_call 33; refine (isOfName_any _ _).mono ?_; rintro e w' ⟨rfl, rfl⟩) | fail)
      · have hp : nameI (s[i + n].toNat : Int) = true := by assumption
        refine ⟨⟨n + 1, by omega, by go_num, ?_⟩, by simp [intOf]; omega⟩
        intro k hk
        by_cases e : k = n
        · subst e; rw [HB.out]; exact hp
        · exact hall.out k (by omega)
      · have hp : nameI (s[i + n].toNat : Int) = false := by assumption
        refine (cut_any _ _ bc bt bk s i n _ R hn hs).mono ?_
        rintro e w1 ⟨rfl, R1, hm⟩
        go_wp2
        go_ret
        exact ⟨n, ⟨hn, hall.out, fun _ => by rw [HB.out]; exact hp⟩, rfl, R1, hm⟩
    · go_wp2_with fail
      refine (cut_any _ _ bc bt bk s i n _ R hn hs).mono ?_
      rintro e w1 ⟨rfl, R1, hm⟩
      go_wp2
      go_ret
      exact ⟨n, ⟨hn, hall.out, fun h => absurd h hlt⟩, rfl, R1, hm⟩

set_option maxRecDepth 100000 in
set_option maxHeartbeats 1000000 in
theorem take_digI (bs ba bc bt bk : Nat) (s : ByteArray) (i : Nat) (w : World) (R : Rdr bs ba bc bt bk s i w) (hi : i ≤ s.size) (hs : s.size ≤ 6000) :
    Calls Tryz.prog 26 #[.func (.func 35) #[] #[], .pointer (some ⟨ba, 0, none⟩), .pointer (some ⟨bs, 0, none⟩), .pointer (some ⟨bc, 0, none⟩)] w fun e w' => ∃ n, IsRun digI s i n ∧ e = .returned (.string (s.extract i (i + n))) ∧ Rdr bs ba bc bt bk s (i + n) w' ∧ Mv ba w w' := by
  have c1 := R.hs
  have c2 := R.ha
  have c3 := R.hc
  go_enter Tryz.func26, Tryz.ntmps26
  go_wp2
  go_loop [6] (fun t => ∃ n : Nat, i + n ≤ s.size ∧ t = .int .i64 n ∧ Hid (∀ k, k < n → digI (byteI s (i + k)) = true)) (fun t => s.size - (intOf t).toNat)
  case atStart => exact ⟨0, by omega, rfl, fun k hk => by omega⟩
  case round =>
    obtain ⟨n, hn, rfl, hall⟩ := hrel
    by_cases hlt : i + n < s.size
    · have hbyte := byteI_lt hlt
      have HB : Hid (byteI s (i + n) = (s[i + n].toNat : Int)) := hbyte
      clear hbyte
      go_wp2_with (first | (go_at_call 35; refine (isDigit_any _ _).mono ?_; rintro e w' ⟨rfl, rfl⟩) | fail)
      · have hp : digI (s[i + n].toNat : Int) = true := by assumption
        refine ⟨⟨n + 1, by omega, by go_num, ?_⟩, by simp [intOf]; omega⟩
        intro k hk
        by_cases e : k = n
        · subst e; rw [HB.out]; exact hp
        · exact hall.out k (by omega)
      · have hp : digI (s[i + n].toNat : Int) = false := by assumption
        refine (cut_any _ _ bc bt bk s i n _ R hn hs).mono ?_
        rintro e w1 ⟨rfl, R1, hm⟩
        go_wp2
        go_ret
        exact ⟨n, ⟨hn, hall.out, fun _ => by rw [HB.out]; exact hp⟩, rfl, R1, hm⟩
    · go_wp2_with fail
      refine (cut_any _ _ bc bt bk s i n _ R hn hs).mono ?_
      rintro e w1 ⟨rfl, R1, hm⟩
      go_wp2
      go_ret
      exact ⟨n, ⟨hn, hall.out, fun h => absurd h hlt⟩, rfl, R1, hm⟩
end Go.Proofs.YtkipbkhpomjhkaaGreatDoor
