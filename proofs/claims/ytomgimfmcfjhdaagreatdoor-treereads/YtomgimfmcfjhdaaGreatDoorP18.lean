/-
  lustrumref1's READER OF TOKENS, ITS SMALL METHODS BY THEIR CONTRACTS: ok, fail, is, pass, want, name, down, some. Conditions: the reader and its tokens lie in memory as TreeOf lays them ('QS').
-/
import Derived.Test.YtomgimfmcfjhdaaGreatDoorP11
import Derived.Test.YtomgimfmcfjhdaaGreatDoorP10
import Derived.Test.YtomgimfmcfjhdaaGreatDoorP15
import Derived.Test.YtomgimfmcfjhdaaGreatDoorP08
namespace Go.Proofs.YtomgimfmcfjhdaaGreatDoor
open Go.RowKit
attribute [local go_sem ↓] Go.wp_at_zero Go.wp_at_succ

structure Qc where
  b : Nat
  g : Nat
  cap : Nat
  l : List Tk
/-- Where a reader stands: at a token; or it has failed, at one. -/
inductive St where
  | here (i : Nat)
  | bad (j : Nat) (bd : Bool)
def St.k : St → Nat
  | .here i => i
  | .bad j _ => j
def St.code : St → Int
  | .here _ => 0
  | .bad _ bd => if bd then 2 else 1
def St.pos (l : List Tk) : St → Int
  | .here _ => 0
  | .bad j _ => tkp l j
def St.isAt : St → Bool
  | .here _ => true
  | .bad _ _ => false
/-- A reader. -/
structure QS (C : Qc) (st : St) (d : Nat) (w : World) : Prop where
  c0 : w.cell? ⟨C.b, 0, none⟩ = some (.slice (some ⟨C.g, 0, none⟩) C.l.length C.cap)
  c1 : w.cell? ⟨C.b, 1, none⟩ = some (.int .i64 st.k)
  c2 : w.cell? ⟨C.b, 2, none⟩ = some (.int .i64 d)
  c3 : w.cell? ⟨C.b, 3, none⟩ = some (.int .i64 st.code)
  c4 : w.cell? ⟨C.b, 4, none⟩ = some (.int .i64 (st.pos C.l))
  fz : ∀ k, w.frozen? ⟨C.b, k, none⟩ = false
  row : ∀ k, k < C.l.length → w.cell? ⟨C.g, k * 3, none⟩ = some (.string (tkk C.l k)) ∧ w.cell? ⟨C.g, k * 3 + 1, none⟩ = some (.string (tkx C.l k)) ∧ w.cell? ⟨C.g, k * 3 + 2, none⟩ = some (.int .i64 (tkp C.l k))
  ne : C.g ≠ C.b
  lt : st.k < C.l.length
  len : C.l.length ≤ 6001
  dp : d ≤ 21
  da : st.isAt = true → d ≤ 20
theorem QS.blt {C : Qc} {st : St} {d : Nat} {w : World} (R : QS C st d w) : C.b < w.heap.size := lt_of_cell R.c0
theorem QS.go {C : Qc} {st st' : St} {d e : Nat} {w w' : World} (R : QS C st d w) (h : Mv C.b w w') (h0 : w'.cell? ⟨C.b, 0, none⟩ = some (.slice (some ⟨C.g, 0, none⟩) C.l.length C.cap)) (h1 : w'.cell? ⟨C.b, 1, none⟩ = some (.int .i64 st'.k)) (h2 : w'.cell? ⟨C.b, 2, none⟩ = some (.int .i64 e)) (h3 : w'.cell? ⟨C.b, 3, none⟩ = some (.int .i64 st'.code)) (h4 : w'.cell? ⟨C.b, 4, none⟩ = some (.int .i64 (st'.pos C.l))) (hf : ∀ k, w'.frozen? ⟨C.b, k, none⟩ = false) (hj : st'.k < C.l.length) (he : e ≤ 21) (ha : st'.isAt = true → e ≤ 20) : QS C st' e w' :=
  ⟨h0, h1, h2, h3, h4, hf, fun k hk => ⟨h.cell R.ne (R.row k hk).1, h.cell R.ne (R.row k hk).2.1, h.cell R.ne (R.row k hk).2.2⟩, R.ne, hj, R.len, he, ha⟩
theorem QS.below {C : Qc} {st : St} {d : Nat} {w w' : World} (R : QS C st d w) (hb : Below w.heap.size w w') : QS C st d w' :=
  R.go (Mv.of_below hb) (cell_keep hb R.c0) (cell_keep hb R.c1) (cell_keep hb R.c2) (cell_keep hb R.c3) (cell_keep hb R.c4) (fun k => by rw [hb.frozen (p := ⟨C.b, k, none⟩) R.blt]; exact R.fz k) R.lt R.dp R.da
theorem QS.drewN {C : Qc} {st : St} {d : Nat} {w : World} (R : QS C st d w) (n : Nat) : QS C st d (w.drewN n) := R.below (below_drewN (Below.refl _ _) n)
theorem QS.upon {C : Qc} {st st' : St} {d e : Nat} {w w1 w2 : World} (R : QS C st d w) (R1 : QS C st' e w1) (g : Below w.heap.size w1 w2) : QS C st' e w2 := by
  have f : ∀ {p : Addr} {v : Value}, p.block < w.heap.size → w1.cell? p = some v → w2.cell? p = some v := fun {p} {v} hp hc => by
    rw [World.cell?_of_block (w := w1) (g.block p.block hp)]; exact hc
  have hb := R.blt
  have hg : C.g < w.heap.size := lt_of_cell (R.row st.k R.lt).1
  refine ⟨f hb R1.c0, f hb R1.c1, f hb R1.c2, f hb R1.c3, f hb R1.c4, fun k => ?_, fun k hk => ⟨f hg (R1.row k hk).1, f hg (R1.row k hk).2.1, f hg (R1.row k hk).2.2⟩, R1.ne, R1.lt, R1.len, R1.dp, R1.da⟩
  rw [World.frozen?_of_block (w := w1) (g.block C.b hb)]; exact R1.fz k
theorem other_cell {w : World} {b o p : Nat} {v x : Value} (h : o ≠ p) (hc : w.cell? ⟨b, p, none⟩ = some x) : (w.setCell ⟨b, o, none⟩ v).cell? ⟨b, p, none⟩ = some x := by
  rw [World.cell?_setCell_other _ _ _ _ (addr_ne h)]; exact hc
theorem QS.set1 {C : Qc} {i d : Nat} {w : World} (R : QS C (.here i) d w) {j : Nat} {x : Int} (hx : x = (j : Int)) (hj : j < C.l.length) : QS C (.here j) d (w.setCell ⟨C.b, 1, none⟩ (.int .i64 x)) := by
  subst hx
  exact R.go (Mv.setAt _ _ _ _) (other_cell (by decide) R.c0) (World.cell?_setCell_same _ _ _ R.c1) (other_cell (by decide) R.c2) (other_cell (by decide) R.c3) (other_cell (by decide) R.c4) (fun k => by rw [World.frozen?_setCell]; exact R.fz k) hj R.dp R.da
theorem QS.set2 {C : Qc} {st : St} {d : Nat} {w : World} (R : QS C st d w) {e : Nat} {x : Int} (hx : x = (e : Int)) (he : e ≤ 21) (ha : st.isAt = true → e ≤ 20) : QS C st e (w.setCell ⟨C.b, 2, none⟩ (.int .i64 x)) := by
  subst hx
  exact R.go (Mv.setAt _ _ _ _) (other_cell (by decide) R.c0) (other_cell (by decide) R.c1) (World.cell?_setCell_same _ _ _ R.c2) (other_cell (by decide) R.c3) (other_cell (by decide) R.c4) (fun k => by rw [World.frozen?_setCell]; exact R.fz k) R.lt he ha

theorem rok_any (C : Qc) (st : St) (d : Nat) (w : World) (R : QS C st d w) :
    Calls Tryz.prog 30 #[.pointer (some ⟨C.b, 0, none⟩)] w fun e w' => e = .returned (.bool st.isAt) ∧ w' = w := by
  have c3 := R.c3
  cases st with
  | here i =>
    simp only [St.code] at c3
    go_enter Tryz.func30, Tryz.ntmps30
    go_wp2
    go_ret
    exact ⟨rfl, rfl⟩
  | bad j bd =>
    simp only [St.code] at c3
    cases bd with
    | true =>
      simp only [if_true] at c3
      go_enter Tryz.func30, Tryz.ntmps30
      go_wp2
      go_ret
      exact ⟨rfl, rfl⟩
    | false =>
      simp only [Bool.false_eq_true, if_false] at c3
      go_enter Tryz.func30, Tryz.ntmps30
      go_wp2
      go_ret
      exact ⟨rfl, rfl⟩

/-- Where it stands behind a failure. -/
def St.fail (st : St) (bd : Bool) : St := match st with | .here i => .bad i bd | s => s
theorem QS.set34 {C : Qc} {i d : Nat} {w : World} (R : QS C (.here i) d w) (bd : Bool) {x y : Int} (hx : x = if bd then 2 else 1) (hy : y = (tkp C.l i : Int)) : QS C (.bad i bd) d ((w.setCell ⟨C.b, 3, none⟩ (.int .i64 x)).setCell ⟨C.b, 4, none⟩ (.int .i64 y)) := by
  subst hx hy
  refine R.go ((Mv.setAt _ _ _ _).trans (Mv.setAt _ _ _ _)) (other_cell (by decide) (other_cell (by decide) R.c0)) (other_cell (by decide) (other_cell (by decide) R.c1)) (other_cell (by decide) (other_cell (by decide) R.c2)) (other_cell (by decide) (World.cell?_setCell_same _ _ _ R.c3)) (World.cell?_setCell_same _ _ _ (other_cell (by decide) R.c4)) (fun k => by rw [World.frozen?_setCell, World.frozen?_setCell]; exact R.fz k) R.lt R.dp (fun h => by cases h)
set_option maxRecDepth 100000 in
set_option maxHeartbeats 1000000 in
theorem rfail_any (C : Qc) (st : St) (d : Nat) (w : World) (R : QS C st d w) (bd : Bool) (x : Int) (hx : x = if bd then 2 else 1) :
    Calls Tryz.prog 32 #[.pointer (some ⟨C.b, 0, none⟩), .int .i64 x] w fun e w' => e = .returned (.tuple #[]) ∧ QS C (st.fail bd) d w' ∧ Mv C.b w w' := by
  have HX : Hid (x = if bd then 2 else 1) := hx
  clear hx
  cases st with
  | here i =>
    have c0 := R.c0
    have c1 := R.c1
    have c3 := R.c3
    have c4 := R.c4
    have f3 := R.fz 3
    have f4 := R.fz 4
    have hlt : i < C.l.length := R.lt
    obtain ⟨r0, r1, r2⟩ := R.row i hlt
    have hlen := R.len
    have i0 : (0 : Int) ≤ (i : Int) := by omega
    have i1 : (i : Int) < (C.l.length : Int) := by omega
    simp only [St.k, St.code, St.pos] at c1 c3 c4
    go_enter Tryz.func32, Tryz.ntmps32
    go_wp2_with fail
    refine (rok_any C _ d _ R).mono ?_
    rintro e w1 ⟨rfl, rfl⟩
    simp only [St.isAt]
    go_wp2
    go_region
    go_wp2
    go_end0
    exact ⟨rfl, (R.set34 bd HX.out rfl).below (Below.refl _ _).drew, ((Mv.setAt _ _ _ _).trans (Mv.setAt _ _ _ _)).drew⟩
  | bad j bd' =>
    go_enter Tryz.func32, Tryz.ntmps32
    go_wp2_with fail
    refine (rok_any C _ d _ R).mono ?_
    rintro e w1 ⟨rfl, rfl⟩
    simp only [St.isAt]
    go_wp2
    go_end0
    exact ⟨rfl, R, Mv.refl _ _⟩

theorem rok_at (C : Qc) (i d : Nat) (w : World) (R : QS C (.here i) d w) : Calls Tryz.prog 30 #[.pointer (some ⟨C.b, 0, none⟩)] w fun e w' => e = .returned (.bool true) ∧ w' = w := rok_any C (.here i) d w R
theorem rok_bad (C : Qc) (j : Nat) (bd : Bool) (d : Nat) (w : World) (R : QS C (.bad j bd) d w) : Calls Tryz.prog 30 #[.pointer (some ⟨C.b, 0, none⟩)] w fun e w' => e = .returned (.bool false) ∧ w' = w := rok_any C (.bad j bd) d w R
/-- The token there has this text. -/
def St.tx (l : List Tk) (st : St) (x : List UInt8) : Bool := match st with | .here i => Proofs.YtomgimfmcfjhdaaGreatDoor.tx l i x | .bad _ _ => false
/-- The token there is of this kind and has this text. -/
def St.isB (l : List Tk) (st : St) (k x : ByteArray) : Bool := match st with | .here i => ((tkk l i).toList == k.toList) && ((tkx l i).toList == x.toList) | .bad _ _ => false
set_option maxRecDepth 100000 in
set_option maxHeartbeats 1000000 in
theorem ris_any (C : Qc) (st : St) (d : Nat) (w : World) (R : QS C st d w) (k x : ByteArray) :
    Calls Tryz.prog 31 #[.pointer (some ⟨C.b, 0, none⟩), .string k, .string x] w fun e w' => e = .returned (.bool (st.isB C.l k x)) ∧ ∃ n, w' = w.drewN n := by
  have RH : Hid (QS C st d w) := R
  cases st with
  | here i =>
    have c0 := R.c0
    have c1 := R.c1
    have hlt : i < C.l.length := R.lt
    obtain ⟨r0, r1, r2⟩ := R.row i hlt
    have hlen := R.len
    have i0 : (0 : Int) ≤ (i : Int) := by omega
    have i1 : (i : Int) < (C.l.length : Int) := by omega
    simp only [St.k] at c1
    clear R
    cases hk : ((tkk C.l i).toList == k.toList) with
    | true =>
      go_enter Tryz.func31, Tryz.ntmps31
      go_wp2
      go_quiet ((go_at_call 30; exact Calls.quiet_of_same (rok_at C i d _ (RH.out.drewN _))))
      go_wp2
      go_ret
      exact ⟨ret_bool (by simp only [St.isB, hk, Bool.true_and]), _, rfl⟩
    | false =>
      go_enter Tryz.func31, Tryz.ntmps31
      go_wp2
      go_quiet ((go_at_call 30; exact Calls.quiet_of_same (rok_at C i d _ (RH.out.drewN _))))
      go_wp2
      go_ret
      exact ⟨ret_bool (by simp only [St.isB, hk, Bool.false_and]), _, rfl⟩
  | bad j bd =>
    clear R
    go_enter Tryz.func31, Tryz.ntmps31
    go_wp2
    go_quiet ((go_at_call 30; exact Calls.quiet_of_same (rok_bad C j bd d _ (RH.out.drewN _))))
    go_wp2
    go_ret
    exact ⟨ret_bool rfl, _, rfl⟩
/-- A word's or an operator's kind. -/
def kindOf (x : List UInt8) : ByteArray := if wordL.contains x then kWord else kOp
theorem isB_tx {C : Qc} {st : St} {d : Nat} {w : World} (R : QS C st d w) (T : Tkl C.l) {k xb : ByteArray} {x : List UInt8} (hx : x ∈ wordL ∧ k = kWord ∨ x ∈ opLL ∧ k = kOp) (hb : xb.toList = x) : st.isB C.l k xb = st.tx C.l x := by
  cases st with
  | bad j bd => rfl
  | here i =>
    have hlt : i < C.l.length := R.lt
    simp only [St.isB, St.tx, Proofs.YtomgimfmcfjhdaaGreatDoor.tx, hb]
    cases h : ((tkx C.l i).toList == x) with
    | false => simp
    | true =>
      have ht : Proofs.YtomgimfmcfjhdaaGreatDoor.tx C.l i x = true := h
      rcases hx with ⟨hx, rfl⟩ | ⟨hx, rfl⟩
      · rw [tkk_lt hlt, T.word hlt hx ht]; simp
      · rw [tkk_lt hlt, T.oper hlt hx ht]; simp
/-- Where it stands behind such a token, if it is there. -/
def St.pass (l : List Tk) (st : St) (x : List UInt8) : St := match st with | .here i => if Proofs.YtomgimfmcfjhdaaGreatDoor.tx l i x then .here (i + 1) else .here i | s => s
def St.want (l : List Tk) (st : St) (x : List UInt8) : St := match st with | .here i => if Proofs.YtomgimfmcfjhdaaGreatDoor.tx l i x then .here (i + 1) else .bad i false | s => s
set_option maxRecDepth 100000 in
set_option maxHeartbeats 1000000 in
theorem rpass_any (C : Qc) (st : St) (d : Nat) (w : World) (R : QS C st d w) (T : Tkl C.l) (k xb : ByteArray) (x : List UInt8) (hx : x ∈ wordL ∧ k = kWord ∨ x ∈ opLL ∧ k = kOp) (hb : xb.toList = x) (hn : x ≠ []) :
    Calls Tryz.prog 36 #[.pointer (some ⟨C.b, 0, none⟩), .string k, .string xb] w fun e w' => e = .returned (.bool (st.tx C.l x)) ∧ QS C (st.pass C.l x) d w' ∧ Mv C.b w w' := by
  have HB : Hid (st.isB C.l k xb = st.tx C.l x) := isB_tx R T hx hb
  clear hb hx
  cases ht : st.tx C.l x with
  | true =>
    cases st with
    | bad j bd => cases ht
    | here i =>
      have hlt : i < C.l.length := R.lt
      have ht' : tx C.l i x = true := ht
      have hi : i + 1 < C.l.length := by
        cases x with
        | nil => exact absurd rfl hn
        | cons c r => exact T.next_tx hlt ht'
      have hlen := R.len
      have c1 := R.c1
      have f1 := R.fz 1
      simp only [St.k] at c1
      go_enter Tryz.func36, Tryz.ntmps36
      go_wp2_with fail
      refine (ris_any C _ d _ R k xb).mono ?_
      rintro e w1 ⟨rfl, n, rfl⟩
      simp only [HB.out, ht]
      go_wp2
      go_ret
      have e1 : (St.here i).pass C.l x = .here (i + 1) := by simp only [St.pass, ht', if_true]
      rw [e1]
      exact ⟨rfl, (R.drewN n).set1 (by omega) hi, (Mv.of_below (below_drewN (Below.refl _ _) n)).trans (Mv.setAt _ _ _ _)⟩
  | false =>
    have e1 : st.pass C.l x = st := by
      cases st with
      | bad j bd => rfl
      | here i => have ht' : tx C.l i x = false := ht; simp only [St.pass, ht', Bool.false_eq_true, if_false]
    go_enter Tryz.func36, Tryz.ntmps36
    go_wp2_with fail
    refine (ris_any C _ d _ R k xb).mono ?_
    rintro e w1 ⟨rfl, n, rfl⟩
    simp only [HB.out, ht]
    go_wp2
    go_ret
    rw [e1]
    exact ⟨rfl, R.drewN n, Mv.of_below (below_drewN (Below.refl _ _) n)⟩
set_option maxRecDepth 100000 in
set_option maxHeartbeats 1000000 in
theorem rwant_any (C : Qc) (st : St) (d : Nat) (w : World) (R : QS C st d w) (T : Tkl C.l) (k xb : ByteArray) (x : List UInt8) (hx : x ∈ wordL ∧ k = kWord ∨ x ∈ opLL ∧ k = kOp) (hb : xb.toList = x) (hn : x ≠ []) :
    Calls Tryz.prog 33 #[.pointer (some ⟨C.b, 0, none⟩), .string k, .string xb] w fun e w' => e = .returned (.tuple #[]) ∧ QS C (st.want C.l x) d w' ∧ Mv C.b w w' := by
  cases ht : st.tx C.l x with
  | true =>
    have e1 : st.want C.l x = st.pass C.l x := by
      cases st with
      | bad j bd => rfl
      | here i => have ht' : tx C.l i x = true := ht; simp only [St.pass, St.want, ht', if_true]
    go_enter Tryz.func33, Tryz.ntmps33
    go_wp2_with fail
    refine (rpass_any C st d _ R T k xb x hx hb hn).mono ?_
    rintro e w1 ⟨rfl, R1, hm1⟩
    simp only [ht]
    go_wp2
    go_end0
    rw [e1]
    exact ⟨rfl, R1, hm1⟩
  | false =>
    have e1 : st.want C.l x = (st.pass C.l x).fail false := by
      cases st with
      | bad j bd => rfl
      | here i => have ht' : tx C.l i x = false := ht; simp only [St.pass, St.want, St.fail, ht', Bool.false_eq_true, if_false]
    go_enter Tryz.func33, Tryz.ntmps33
    go_wp2_with fail
    refine (rpass_any C st d _ R T k xb x hx hb hn).mono ?_
    rintro e w1 ⟨rfl, R1, hm1⟩
    simp only [ht]
    go_wp2_with fail
    refine (rfail_any C _ d _ R1 false 1 rfl).mono ?_
    rintro e w2 ⟨rfl, R2, hm2⟩
    go_wp2
    go_end0
    rw [e1]
    exact ⟨rfl, R2, hm1.trans hm2⟩

/-- Where it stands behind what opens. -/
def St.down (st : St) (d : Nat) : St := match st with | .here i => if d = 20 then .bad i true else .here (i + 1) | s => s
set_option maxRecDepth 100000 in
set_option maxHeartbeats 1000000 in
theorem rdown_any (C : Qc) (i d : Nat) (w : World) (R : QS C (.here i) d w) (hi : i + 1 < C.l.length) :
    Calls Tryz.prog 115 #[.pointer (some ⟨C.b, 0, none⟩)] w fun e w' => e = .returned (.tuple #[]) ∧ QS C ((St.here i).down d) (d + 1) w' ∧ Mv C.b w w' := by
  have c2 := R.c2
  have hd := R.da rfl
  by_cases h : d = 20
  · subst h
    have e1 : (St.here i).down 20 = .bad i true := rfl
    rw [e1]
    go_enter Tryz.func115, Tryz.ntmps115
    go_wp2_with fail
    refine (rok_at C i 20 _ R).mono ?_
    rintro e w1 ⟨rfl, rfl⟩
    go_wp2_with fail
    refine (rfail_any C _ 20 _ R true 2 rfl).mono ?_
    rintro e w2 ⟨rfl, R2, hm2⟩
    have R2' : QS C (.bad i true) 20 w2 := R2
    clear R2
    have d2 := R2'.c2
    have f2 := R2'.fz 2
    go_wp2_with fail
    refine (rok_bad C i true 20 _ R2').mono ?_
    rintro e w3 ⟨rfl, rfl⟩
    go_wp2
    go_end0
    exact ⟨rfl, R2'.set2 (by decide) (by decide) (fun h => by cases h), hm2.trans (Mv.setAt _ _ _ _)⟩
  · have hd0 : ((d : Int) == 20) = false := by simp; omega
    have e1 : (St.here i).down d = .here (i + 1) := by simp only [St.down, if_neg h]
    rw [e1]
    have hlen := R.len
    have c1 := R.c1
    have f1 := R.fz 1
    have f2 := R.fz 2
    simp only [St.k] at c1
    go_enter Tryz.func115, Tryz.ntmps115
    go_wp2_with fail
    refine (rok_at C i d _ R).mono ?_
    rintro e w1 ⟨rfl, rfl⟩
    go_wp2_with fail
    refine (rok_at C i d _ R).mono ?_
    rintro e w2 ⟨rfl, rfl⟩
    go_wp2
    go_end0
    have R1 := R.set1 (j := i + 1) (x := (i : Int) + 1) (by omega) hi
    exact ⟨rfl, R1.set2 (by omega) (by omega) (fun _ => by omega), (Mv.setAt _ _ _ _).trans (Mv.setAt _ _ _ _)⟩
end Go.Proofs.YtomgimfmcfjhdaaGreatDoor

/-
  lustrumref1's READER OF TOKENS, name AND some BY THEIR CONTRACTS.
-/
namespace Go.Proofs.YtomgimfmcfjhdaaGreatDoor
open Go.RowKit
attribute [local go_sem ↓] Go.wp_at_zero Go.wp_at_succ

def St.nm (l : List Tk) (st : St) : ByteArray := match st with | .here i => if isName l i then tkx l i else b0 | _ => b0
def St.name (l : List Tk) (st : St) : St := match st with | .here i => if isName l i then .here (i + 1) else .bad i false | s => s
set_option maxRecDepth 100000 in
set_option maxHeartbeats 1000000 in
theorem rname_any (C : Qc) (st : St) (d : Nat) (w : World) (R : QS C st d w) (T : Tkl C.l) :
    Calls Tryz.prog 34 #[.pointer (some ⟨C.b, 0, none⟩)] w fun e w' => e = .returned (.string (st.nm C.l)) ∧ QS C (st.name C.l) d w' ∧ Mv C.b w w' := by
  have RH : Hid (QS C st d w) := R
  cases st with
  | here i =>
    have c0 := R.c0
    have c1 := R.c1
    have f1 := R.fz 1
    have hlt : i < C.l.length := R.lt
    obtain ⟨r0, r1, r2⟩ := R.row i hlt
    have hlen := R.len
    have i0 : (0 : Int) ≤ (i : Int) := by omega
    have i1 : (i : Int) < (C.l.length : Int) := by omega
    have i2 : (i : Int) + 1 - 1 = (i : Int) := by omega
    simp only [St.k] at c1
    clear R
    have hgb : C.g ≠ C.b := RH.out.ne
    cases h : isName C.l i with
    | true =>
      have hk : ((tkk C.l i).toList == [110, 97, 109, 101]) = true := h
      have hi : i + 1 < C.l.length := T.next_name hlt h
      go_enter Tryz.func34, Tryz.ntmps34
      go_wp2
      go_quiet ((go_at_call 30; exact Calls.quiet_of_same (rok_at C i d _ (RH.out.drewN _))))
      go_wp2
      go_quiet (fail)
      go_wp2
      go_ret
      have e1 : (St.here i).name C.l = .here (i + 1) := by simp only [St.name, h, if_true]
      have e2 : (St.here i).nm C.l = tkx C.l i := by simp only [St.nm, h, if_true]
      rw [e1, e2]
      exact ⟨rfl, ((RH.out.drewN _).set1 (by omega) hi).drewN _, ((Mv.of_below (below_drewN (Below.refl _ _) _)).trans (Mv.setAt _ _ _ _)).trans (Mv.of_below (below_drewN (Below.refl _ _) _))⟩
    | false =>
      have hk : ((tkk C.l i).toList == [110, 97, 109, 101]) = false := h
      go_enter Tryz.func34, Tryz.ntmps34
      go_wp2
      go_quiet ((go_at_call 30; exact Calls.quiet_of_same (rok_at C i d _ (RH.out.drewN _))))
      go_wp2_with fail
      refine (rfail_any C _ d _ (RH.out.drewN _) false 1 rfl).mono ?_
      rintro e w2 ⟨rfl, R2, hm2⟩
      go_wp2
      go_ret
      have e1 : (St.here i).name C.l = .bad i false := by simp only [St.name, h, Bool.false_eq_true, if_false]
      have e2 : (St.here i).nm C.l = b0 := by simp only [St.nm, h, Bool.false_eq_true, if_false]
      rw [e1, e2]
      exact ⟨rfl, R2, (Mv.of_below (below_drewN (Below.refl _ _) _)).trans hm2⟩
  | bad j bd =>
    clear R
    go_enter Tryz.func34, Tryz.ntmps34
    go_wp2
    go_quiet ((go_at_call 30; exact Calls.quiet_of_same (rok_bad C j bd d _ (RH.out.drewN _))))
    go_wp2_with fail
    refine (rfail_any C _ d _ (RH.out.drewN _) false 1 rfl).mono ?_
    rintro e w2 ⟨rfl, R2, hm2⟩
    go_wp2
    go_ret
    exact ⟨rfl, R2, (Mv.of_below (below_drewN (Below.refl _ _) _)).trans hm2⟩

def St.some (l : List Tk) (st : St) (xs : List (List UInt8)) : ByteArray := match st with | .here i => if txs l i xs then tkx l i else b0 | _ => b0
theorem drewN_row {w : World} {q : Nat} {o : Obj} (n : Nat) (h : w.heap[q]? = Option.some o) : (w.drewN n).heap[q]? = Option.some o := row_keep (below_drewN (Below.refl _ _) n) h
set_option maxRecDepth 100000 in
set_option maxHeartbeats 2000000 in
theorem rsome_any (C : Qc) (st : St) (d : Nat) (w : World) (R : QS C st d w) (T : Tkl C.l) (q m c : Nat) (xs : List (List UInt8)) (hq : w.heap[q]? = Option.some (.cells (strCells xs) 9 (0, 0))) (hm : xs.length = m) (hn : m ≤ 1000) (hx : ∀ x ∈ xs, x ∈ wordL ∨ x ∈ opLL) :
    Calls Tryz.prog 117 #[.pointer (.some ⟨C.b, 0, none⟩), .slice (.some ⟨q, 0, none⟩) m c] w fun e w' => e = .returned (.string (st.some C.l xs)) ∧ Below w.heap.size w w' := by
  have RH : Hid (QS C st d w) := R
  have HQ : Hid _ := hq
  have HM : Hid (xs.length = m) := hm
  have HX : Hid (∀ x ∈ xs, x ∈ wordL ∨ x ∈ opLL) := hx
  clear hq hm hx
  cases st with
  | bad j bd =>
    clear R
    go_enter Tryz.func117, Tryz.ntmps117
    go_wp2
    go_quiet ((first | (go_at_call 30; exact Calls.quiet_of_same (rok_bad C j bd d _ (RH.out.drewN _)))))
    go_wp2
    go_ret
    exact ⟨rfl, below_drewN (Below.refl _ _) _⟩
  | here i =>
    have c0 := R.c0
    have c1 := R.c1
    have hlt : i < C.l.length := R.lt
    obtain ⟨r0, r1, r2⟩ := R.row i hlt
    have hlen := R.len
    have i0 : (0 : Int) ≤ (i : Int) := by omega
    have i1 : (i : Int) < (C.l.length : Int) := by omega
    simp only [St.k] at c1
    clear R
    cases ht : txs C.l i xs with
    | true =>
      have ha : amongB xs (tkx C.l i) = true := ht
      have e1 : (St.here i).some C.l xs = tkx C.l i := by simp only [St.some, ht, if_true]
      have hkk : (tkk C.l i).toList = [111, 112] ∨ (tkk C.l i).toList = [119, 111, 114, 100] := by
        have ht' := ht
        simp only [txs, List.any_eq_true] at ht'
        obtain ⟨x, hm, hxx⟩ := ht'
        rcases HX.out x hm with h | h
        · right; rw [tkk_lt hlt, T.word hlt h hxx]; exact kindLists.1
        · left; rw [tkk_lt hlt, T.oper hlt h hxx]; exact kindLists.2.2.2
      rw [e1]
      rcases hkk with hk | hk
      · have hk1 : ((tkk C.l i).toList == [111, 112]) = true := by rw [hk]; rfl
        clear hk
        go_enter Tryz.func117, Tryz.ntmps117
        go_wp2
        go_quiet ((first | (go_at_call 30; exact Calls.quiet_of_same (rok_at C i d _ (RH.out.drewN _))) | (go_at_call 95; exact Calls.quiet_of_same (has_blk q c m xs _ _ HM.out (drewN_row _ HQ.out) hn))))
        go_wp2
        go_quiet (fail)
        go_wp2
        go_ret
        exact ⟨rfl, below_drewN (below_drewN (Below.refl _ _) _) _⟩
      · have hk1 : ((tkk C.l i).toList == [111, 112]) = false := by rw [hk]; rfl
        have hk2 : ((tkk C.l i).toList == [119, 111, 114, 100]) = true := by rw [hk]; rfl
        clear hk
        go_enter Tryz.func117, Tryz.ntmps117
        go_wp2
        go_quiet ((first | (go_at_call 30; exact Calls.quiet_of_same (rok_at C i d _ (RH.out.drewN _))) | (go_at_call 95; exact Calls.quiet_of_same (has_blk q c m xs _ _ HM.out (drewN_row _ HQ.out) hn))))
        go_wp2
        go_quiet (fail)
        go_wp2
        go_ret
        exact ⟨rfl, below_drewN (below_drewN (Below.refl _ _) _) _⟩
    | false =>
      have ha : amongB xs (tkx C.l i) = false := ht
      have e1 : (St.here i).some C.l xs = b0 := by simp only [St.some, ht, Bool.false_eq_true, if_false]
      rw [e1]
      cases hk1 : ((tkk C.l i).toList == [111, 112]) with
      | true =>
        go_enter Tryz.func117, Tryz.ntmps117
        go_wp2
        go_quiet ((first | (go_at_call 30; exact Calls.quiet_of_same (rok_at C i d _ (RH.out.drewN _))) | (go_at_call 95; exact Calls.quiet_of_same (has_blk q c m xs _ _ HM.out (drewN_row _ HQ.out) hn))))
        go_wp2
        go_ret
        exact ⟨rfl, below_drewN (Below.refl _ _) _⟩
      | false =>
        cases hk2 : ((tkk C.l i).toList == [119, 111, 114, 100]) with
        | true =>
          go_enter Tryz.func117, Tryz.ntmps117
          go_wp2
          go_quiet ((first | (go_at_call 30; exact Calls.quiet_of_same (rok_at C i d _ (RH.out.drewN _))) | (go_at_call 95; exact Calls.quiet_of_same (has_blk q c m xs _ _ HM.out (drewN_row _ HQ.out) hn))))
          go_wp2
          go_ret
          exact ⟨rfl, below_drewN (Below.refl _ _) _⟩
        | false =>
          go_enter Tryz.func117, Tryz.ntmps117
          go_wp2
          go_quiet ((first | (go_at_call 30; exact Calls.quiet_of_same (rok_at C i d _ (RH.out.drewN _)))))
          go_wp2
          go_ret
          exact ⟨rfl, below_drewN (Below.refl _ _) _⟩
/-- The same, where the texts have just been laid. -/
theorem rsome_new (C : Qc) (st : St) (d : Nat) (w : World) (R : QS C st d w) (T : Tkl C.l) (xs : List (List UInt8)) (q m : Nat) (hq : w.heap.size = q) (hm : xs.length = m) (hn : m ≤ 1000) (hx : ∀ x ∈ xs, x ∈ wordL ∨ x ∈ opLL) :
    Calls Tryz.prog 117 #[.pointer (.some ⟨C.b, 0, none⟩), .slice (.some ⟨q, 0, none⟩) m m] (w.alloc (.cells (strCells xs) 9)) fun e w' => e = .returned (.string (st.some C.l xs)) ∧ Below w.heap.size w w' := by
  subst hq
  have hbA : Below w.heap.size w (w.alloc (.cells (strCells xs) 9)) := (Below.refl _ _).alloc (Nat.le_refl _) _
  refine (rsome_any C st d _ (R.below hbA) T w.heap.size m m xs (heap_alloc_new w _) hm hn hx).mono ?_
  rintro e w' ⟨rfl, hb⟩
  exact ⟨rfl, hbA.trans (hb.mono (by simp))⟩
end Go.Proofs.YtomgimfmcfjhdaaGreatDoor
