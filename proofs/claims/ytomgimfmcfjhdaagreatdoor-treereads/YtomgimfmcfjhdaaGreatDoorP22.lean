/-
  lustrumref1's READER OF TERMS: atom BY ITS CONTRACT: calls.
-/
import Derived.Test.YtomgimfmcfjhdaaGreatDoorP21
import Derived.Test.YtomgimfmcfjhdaaGreatDoorP14
namespace Go.Proofs.YtomgimfmcfjhdaaGreatDoor
open Go.RowKit
attribute [local go_sem ↓] Go.wp_at_zero Go.wp_at_succ

theorem Tryz.infoRExpr : (Tryz.prog.info? 94).map (fun i => (i.zero, i.size, i.bytes)) = some (some (.agg #[.string ⟨#[]⟩, .int .i64 0, .string ⟨#[]⟩, .slice none 0 0]), 4, 64) := by kernel_rfl

/-- A call's arguments so far. -/
inductive ARel (l : List Tk) (i d : Nat) : St → Bool → List Ex → Prop
  | start : d ≠ 20 → ARel l i d (.here (i + 1 + 1)) true []
  | more (j : Nat) (es : List Ex) : d ≠ 20 → (∀ r, Parse l (.more es) j (d + 1) r → Parse l .args (i + 1 + 1) (d + 1) r) → i + 1 + 1 < j → es.length ≤ j → ARel l i d (.here j) false es
  | bad (j : Nat) (bd : Bool) (f : Bool) (es : List Ex) : Parse l .atom i d (.bad j bd) → ARel l i d (.bad j bd) f es
theorem ARel.num {l : List Tk} {i d j : Nat} {f : Bool} {es : List Ex} (h : ARel l i d (.here j) f es) : d ≠ 20 ∧ i < j ∧ es.length ≤ j := by
  cases h with
  | start hd => exact ⟨hd, by omega, by simp⟩
  | more _ _ hd _ hj hl => exact ⟨hd, by omega, hl⟩
theorem not_both {l : List Tk} {j : Nat} {x y : List UInt8} (hx : tx l j x = true) (hn : x ≠ y) : tx l j y = false := by
  have e : (tkx l j).toList = x := by simpa [tx] using hx
  simp only [tx, e]
  simpa using hn
theorem ARel.ok {l : List Tk} {i d j : Nat} {f : Bool} {es : List Ex} (h : ARel l i d (.here j) f es) (g1 : isInt l i = false) (g2 : txs l i [tTrue, tFalse] = false) (g3 : isName l i = true) (g4 : tx l (i + 1) tOpen = true) (hx : tx l j tShut = true) : Parse l .atom i d (.ok [.mk sCall 0 (tkx l i) es] (j + 1)) := by
  have hp : Parse l .args (i + 1 + 1) (d + 1) (.ok es j) := by
    cases h with
    | start hd => exact Run.ifT hx Run.done
    | more _ _ hd hp hj hl => exact hp _ (Run.ifF (not_both hx (by decide)) Run.done)
  exact Run.ifF g1 (Run.ifF g2 (Run.ifT g3 (Run.ifT g4 (Run.down h.num.1 (Run.then hp (Run.exp hx Run.done))))))
theorem ARel.next {l : List Tk} {i d j base : Nat} {f : Bool} {es : List Ex} {w' : World} {st5 st6 : St} {op s : ByteArray} {x : Int} {so : Option Addr} {m sc : Nat} (h : ARel l i d (.here j) f es) (g1 : isInt l i = false) (g2 : txs l i [tTrue, tFalse] = false) (g3 : isName l i = true) (g4 : tx l (i + 1) tOpen = true) (hx : tx l j tShut = false) (hst : st5 = if f then .here j else (St.here j).want l tComma) (q : QRel l .term (d + 1) base w' st5 st6 (.agg #[.string op, .int .i64 x, .string s, .slice so m sc])) :
    ∃ es', ARel l i d st6 false es' ∧ ∀ k, st6 = .here k → j < k ∧ ∃ (y : List Ex) (ys : List Value), m = y.length ∧ es' = es ++ [.mk op x s y] ∧ RowAt w' (From base) 4 (.slice so m sc) m ys ∧ ExIn w' (From base) y ys := by
  have F : ∀ {r : Res}, Parse l .args (i + 1 + 1) (d + 1) r → (∀ a k, r ≠ .ok a k) → Parse l .atom i d r := fun {r} hp hr => by
    cases r with
    | ok a k => exact absurd rfl (hr a k)
    | bad k bd => exact Run.ifF g1 (Run.ifF g2 (Run.ifT g3 (Run.ifT g4 (Run.down h.num.1 (Run.stop hp)))))
  have hnum := h.num
  cases h with
  | start hd =>
    simp only [if_true] at hst
    subst hst
    cases st6 with
    | bad k bd => exact ⟨[], .bad k bd _ _ (F (Run.ifF hx (Run.stop q.badOf)) (by simp)), fun k hk => by cases hk⟩
    | here k =>
      obtain ⟨y, ys, e1, hp, hij, hrow, hin⟩ := q.inv
      exact ⟨[.mk op x s y], .more k _ hd (fun r hr => Run.ifF hx (Run.then hp (Run.tail hr))) (by omega) (by simp; omega), fun k' hk => by cases hk; exact ⟨hij, y, ys, e1, rfl, hrow, hin⟩⟩
  | more _ _ hd HP hj hl =>
    simp only [Bool.false_eq_true, if_false] at hst
    cases hc : tx l j tComma with
    | false =>
      rw [show (St.here j).want l tComma = .bad j false from by simp only [St.want, hc, Bool.false_eq_true, if_false]] at hst
      subst hst
      obtain rfl := q.stays
      have hp : Parse l .args (i + 1 + 1) (d + 1) (.ok es j) := HP _ (Run.ifF hc Run.done)
      exact ⟨[], .bad j false _ _ (Run.ifF g1 (Run.ifF g2 (Run.ifT g3 (Run.ifT g4 (Run.down hd (Run.then hp (Run.unexp hx))))))), fun k hk => by cases hk⟩
    | true =>
      rw [show (St.here j).want l tComma = .here (j + 1) from by simp only [St.want, hc, if_true]] at hst
      subst hst
      cases st6 with
      | bad k bd => exact ⟨[], .bad k bd _ _ (F (HP _ (Run.ifT hc (Run.stop q.badOf))) (by simp)), fun k hk => by cases hk⟩
      | here k =>
        obtain ⟨y, ys, e1, hp, hij, hrow, hin⟩ := q.inv
        exact ⟨es ++ [.mk op x s y], .more k _ hd (fun r hr => HP _ (Run.ifT hc (Run.then hp (Run.tail hr)))) (by omega) (by simp; omega), fun k' hk => by cases hk; exact ⟨by omega, y, ys, e1, rfl, hrow, hin⟩⟩
abbrev xTerm (s : ByteArray) : Obj := .cells #[.string ⟨#[99, 97, 108, 108]⟩, .int .i64 0, .string s, .slice none 0 0] 94
theorem heap_alloc_new' {w : World} {n : Nat} (h : n = w.heap.size) (o : Obj) : (w.alloc o).heap[n]? = some o := by subst h; exact heap_alloc_new w o
set_option maxRecDepth 100000 in
set_option maxHeartbeats 1000000 in
theorem ratom_call (C : Qc) (i d : Nat) (w : World) (T : Tkl C.l) (R : QS C (.here i) d w) (g1 : isInt C.l i = false) (g2 : txs C.l i [tTrue, tFalse] = false) (n : Nat) (hT : ∀ m, m < n → QFits 83 .term m) (hn : C.l.length - i ≤ n) (g3 : isName C.l i = true) (g4 : tx C.l (i + 1) tOpen = true) :
    Calls Tryz.prog 189 #[.pointer (some ⟨C.b, 0, none⟩)] w (QRet C .atom (.here i) d w) := by
  obtain ⟨i0', hi0, hz0, hz1, hz2⟩ := info_parts Tryz.infoRExpr
  have HT : Hid (∀ m, m < n → QFits 83 .term m) := hT
  clear hT
  have hbl := R.blt
  have hlt : i < C.l.length := R.lt
  have hlen := R.len
  have hbA : Below w.heap.size w (w.alloc rTerm) := (Below.refl _ _).alloc (Nat.le_refl _) _
  have RA := R.below hbA
  have g1' : ((tkk C.l i).toList == [105, 110, 116]) = false := g1
  have c0 := R.c0
  have c1 := R.c1
  have f1 := R.fz 1
  obtain ⟨r0, r1, r2⟩ := R.row i hlt
  have hgl : C.g < w.heap.size := lt_of_cell r0
  have hgl1 : C.g < w.heap.size + 1 := by omega
  have hbl1 : C.b < w.heap.size + 1 := by omega
  have i0 : (0 : Int) ≤ (i : Int) := by omega
  have i1 : (i : Int) < (C.l.length : Int) := by omega
  simp only [St.k] at c1
  have hi : i + 1 < C.l.length := T.next_name hlt g3
  have hi2 : i + 1 + 1 < C.l.length := T.next_tx hi g4
  have hk3 : ((tkk C.l i).toList == [110, 97, 109, 101]) = true := g3
  have hk2 : ((tkk C.l i).toList == [119, 111, 114, 100]) = false := by
    have e : (tkk C.l i).toList = [110, 97, 109, 101] := by simpa using hk3
    rw [e]; rfl
  have R1 := R.set1 (j := i + 1) (x := (i : Int) + 1) (by omega) hi
  have HR1 : Hid _ := R1
  clear R1
  go_enter Tryz.func189, Tryz.ntmps189
  go_wp2_with fail
  refine (rok_at C i d _ RA).mono ?_
  rintro e w1 ⟨rfl, rfl⟩
  go_wp2_with fail
  go_region
  go_wp2_with fail
  have hB : Below (w.setCell ⟨C.b, 1, none⟩ (.int .i64 ((i : Int) + 1))).heap.size (w.setCell ⟨C.b, 1, none⟩ (.int .i64 ((i : Int) + 1))) (((w.setCell ⟨C.b, 1, none⟩ (.int .i64 ((i : Int) + 1))).alloc rTerm).alloc (.cells #[.string (tkk C.l i), .string (tkx C.l i), .int .i64 (tkp C.l i)] 25)).drew := (((Below.refl _ _).alloc (Nat.le_refl _) _).alloc (by simp) _).drew
  have R2 := HR1.out.below hB
  have HB : Hid _ := isB_tx R2 T (k := kOp) (xb := ⟨#[40]⟩) (x := tOpen) (Or.inr ⟨by decide, rfl⟩) (by rw [ByteArray.toList_eq]; rfl)
  refine (ris_any C _ d _ R2 kOp _).mono ?_
  rintro e w3 ⟨rfl, n3, rfl⟩
  have g4' : (St.here (i + 1)).tx C.l tOpen = true := g4
  simp only [HB.out, g4']
  clear c0 c1 r0 r1 r2 f1
  have hB3 : Below (w.setCell ⟨C.b, 1, none⟩ (.int .i64 ((i : Int) + 1))).heap.size (w.setCell ⟨C.b, 1, none⟩ (.int .i64 ((i : Int) + 1))) (((((w.setCell ⟨C.b, 1, none⟩ (.int .i64 ((i : Int) + 1))).alloc rTerm).alloc (.cells #[.string (tkk C.l i), .string (tkx C.l i), .int .i64 (tkp C.l i)] 25)).drewN (1 + n3)).alloc (xTerm (tkx C.l i))) := (below_drewN (((Below.refl _ _).alloc (Nat.le_refl _) _).alloc (by simp) _) (1 + n3)).alloc (by simp; omega) _
  have HR3 : Hid _ := HR1.out.below hB3
  have HM3 : Hid _ := (Mv.setAt C.b 1 w (.int .i64 ((i : Int) + 1))).trans (Mv.of_below hB3)
  have HX : Hid ((((((w.setCell ⟨C.b, 1, none⟩ (.int .i64 ((i : Int) + 1))).alloc rTerm).alloc (.cells #[.string (tkk C.l i), .string (tkx C.l i), .int .i64 (tkp C.l i)] 25)).drewN (1 + n3)).alloc (xTerm (tkx C.l i))).heap[w.heap.size + 1 + 1]? = some (xTerm (tkx C.l i))) := heap_alloc_new' (by simp) _
  have HZ : Hid ((((((w.setCell ⟨C.b, 1, none⟩ (.int .i64 ((i : Int) + 1))).alloc rTerm).alloc (.cells #[.string (tkk C.l i), .string (tkx C.l i), .int .i64 (tkp C.l i)] 25)).drewN (1 + n3)).alloc (xTerm (tkx C.l i))).heap[w.heap.size]? = some rTerm) := alloc_row _ (drewN_row _ (alloc_row _ (heap_alloc_new' (by simp) rTerm)))
  clear hB hB3
  go_wp2_with fail
  refine (rdown_any C (i + 1) d _ HR3.out hi2).mono ?_
  rintro e w4 ⟨rfl, R4, hm4⟩
  have hs4 : w.heap.size + 1 + 1 + 1 ≤ w4.heap.size := by have := hm4.size; simpa using this
  have hM4 : Mv C.b w w4 := HM3.out.trans hm4
  have hx4 := hm4.row (k := w.heap.size + 1 + 1) (by omega) HX.out
  have hz4 := hm4.row (k := w.heap.size) (by omega) HZ.out
  have HX4 : Hid _ := hx4
  have HZ4 : Hid _ := hz4
  clear hx4 hz4 HX HZ HR3 HM3 hm4
  have HA4 : Hid (ARel C.l i d ((St.here (i + 1)).down d) true []) := by
    by_cases hd : d = 20
    · subst hd
      exact .bad (i + 1) true _ _ (Run.ifF g1 (Run.ifF g2 (Run.ifT g3 (Run.ifT g4 (Run.deep rfl)))))
    · rw [show (St.here (i + 1)).down d = .here (i + 1 + 1) from by simp only [St.down, if_neg hd]]
      exact .start hd
  have HO4 : Hid (w4.ownsRow (w.heap.size + 1 + 1 + 1) 94 4 (.slice none 0 0) 0 []) := ⟨rfl, Or.inl ⟨rfl, rfl⟩⟩
  go_wp2
  go_loopw [5] (fun v wr => ∃ (st : St) (f : Bool) (es : List Ex) (so : Option Addr) (m sc : Nat) (cells : List Value), v = .bool f ∧ QS C st (d + 1) wr ∧ Mv C.b w wr ∧ w.heap.size + 1 + 1 + 1 ≤ wr.heap.size ∧ Hid (wr.heap[w.heap.size + 1 + 1]? = some (.cells #[.string ⟨#[99, 97, 108, 108]⟩, .int .i64 0, .string (tkx C.l i), .slice so m sc] 94 (0, 0))) ∧ Hid (wr.heap[w.heap.size]? = some rTerm) ∧ Hid (wr.ownsRow (w.heap.size + 1 + 1 + 1) 94 4 (.slice so m sc) m cells) ∧ Hid (ARel C.l i d st f es) ∧ Hid (st.isAt = true → m = es.length ∧ ExIn wr (fun k => w.heap.size + 1 + 1 + 1 ≤ k ∧ (Value.slice so m sc).ownBlock ≠ some k) es cells)) (fun _ wr => qleft C.l wr C.b)
  case atStart => exact ⟨_, true, [], none, 0, 0, [], rfl, R4, hM4, hs4, HX4, HZ4, HO4, HA4, fun _ => ⟨rfl, .nil⟩⟩
  case round =>
    clear R4 hM4 hs4 HX4 HZ4 HO4 HA4
    obtain ⟨st, f, es, so, m, sc, cells, rfl, Rr, hmr, hsr, HX, HZ, HO, HA, HE⟩ := hrel
    cases st with
    | bad j bd =>
      go_wp2_with fail
      refine (rok_bad C j bd (d + 1) _ Rr).mono ?_
      rintro e w5 ⟨rfl, rfl⟩
      have HZw := HZ
      have HXw := HX
      obtain ⟨z0, z1, z2, z3, zf⟩ := blk4 (HZw.out)
      obtain ⟨a0, a1, a2, a3, _⟩ := blk4 (HXw.out)
      have q2 := Rr.c2
      have f2 := Rr.fz 2
      have hdp := Rr.dp
      have nb0 : C.b ≠ w.heap.size := by omega
      have nb5 : C.b ≠ w.heap.size + 1 + 1 := by omega
      go_wp2
      have R8 : QS C (.bad j bd) d (w5.setCell ⟨C.b, 2, none⟩ (.int .i64 d)) := Rr.set2 rfl (by omega) (fun h => by have := Rr.da h; omega)
      have hM8 : Mv C.b w (w5.setCell ⟨C.b, 2, none⟩ (.int .i64 d)) := (hmr).trans (Mv.setAt _ _ _ _)
      have hB : Below w.heap.size (w5.setCell ⟨C.b, 2, none⟩ (.int .i64 d)) (set4 (w5.setCell ⟨C.b, 2, none⟩ (.int .i64 d)) w.heap.size (.string ⟨#[99, 97, 108, 108]⟩) (.int .i64 0) (.string (tkx C.l i)) (.slice so m sc)) := set4_below (Nat.le_refl _)
      refine bodyPost_ret (v := .agg #[.string ⟨#[99, 97, 108, 108]⟩, .int .i64 0, .string (tkx C.l i), .slice so m sc]) (by simp [results, Tryz.results189, go_sem, z0, z1, z2, z3]) rfl ⟨hM8.upon hB, _, _, rfl, R.upon R8 hB, ?_⟩
      have ha := HA.out
      cases ha with
      | bad _ _ _ _ hp => exact .fail i j bd _ hp ⟨_, _, _, _, _, _, rfl⟩
    | here j =>
      have hjl : j < C.l.length := Rr.lt
      have hij := HA.out.num.2.1
      cases hx : tx C.l j tShut with
      | true =>
        go_wp2_with fail
        refine (rok_at C j (d + 1) _ Rr).mono ?_
        rintro e w5 ⟨rfl, rfl⟩
        go_wp2_with fail
        refine (rpass_any C _ (d + 1) _ Rr T kOp _ tShut (Or.inr ⟨by decide, rfl⟩) (by rw [ByteArray.toList_eq]; rfl) (by decide)).mono ?_
        rintro e w6 ⟨rfl, R6, hm6⟩
        have hx' : (St.here j).tx C.l tShut = true := hx
        simp only [hx']
        have e1 : (St.here j).pass C.l tShut = .here (j + 1) := by simp only [St.pass, hx, if_true]
        rw [e1] at R6
        have HZw : Hid _ := hm6.row (k := w.heap.size) (by omega) HZ.out
        have HXw : Hid _ := hm6.row (k := w.heap.size + 1 + 1) (by omega) HX.out
        obtain ⟨z0, z1, z2, z3, zf⟩ := blk4 (HZw.out)
        obtain ⟨a0, a1, a2, a3, _⟩ := blk4 (HXw.out)
        have q2 := R6.c2
        have f2 := R6.fz 2
        have hdp := R6.dp
        have nb0 : C.b ≠ w.heap.size := by omega
        have nb5 : C.b ≠ w.heap.size + 1 + 1 := by omega
        go_wp2
        have R8 : QS C (.here (j + 1)) d (w6.setCell ⟨C.b, 2, none⟩ (.int .i64 d)) := R6.set2 rfl (by omega) (fun h => by have := R6.da h; omega)
        have hM8 : Mv C.b w (w6.setCell ⟨C.b, 2, none⟩ (.int .i64 d)) := (hmr.trans hm6).trans (Mv.setAt _ _ _ _)
        have hB : Below w.heap.size (w6.setCell ⟨C.b, 2, none⟩ (.int .i64 d)) (set4 (w6.setCell ⟨C.b, 2, none⟩ (.int .i64 d)) w.heap.size (.string ⟨#[99, 97, 108, 108]⟩) (.int .i64 0) (.string (tkx C.l i)) (.slice so m sc)) := set4_below (Nat.le_refl _)
        refine bodyPost_ret (v := .agg #[.string ⟨#[99, 97, 108, 108]⟩, .int .i64 0, .string (tkx C.l i), .slice so m sc]) (by simp [results, Tryz.results189, go_sem, z0, z1, z2, z3]) rfl ⟨hM8.upon hB, _, _, rfl, R.upon R8 hB, ?_⟩
        obtain ⟨rfl, hin⟩ := HE.out rfl
        have Sta : Stays (From (w.heap.size + 1 + 1 + 1)) (fun k => w.heap.size < k) w5 (w6.setCell ⟨C.b, 2, none⟩ (.int .i64 d)) := (Stays.mv (S' := fun k => w.heap.size < k) hm6 (fun k hk => by unfold From at hk; exact ⟨by omega, by omega⟩)).trans (Stays.set (p := ⟨C.b, 2, none⟩) _ (fun k hk => ⟨by show k ≠ C.b; omega, hk⟩)) hm6.size
        have Stb : Stays (fun k => w.heap.size + 1 + 1 + 1 ≤ k ∧ (Value.slice so es.length sc).ownBlock ≠ some k) (fun k => w.heap.size < k) w5 (w6.setCell ⟨C.b, 2, none⟩ (.int .i64 d)) := fun k hk hl => Sta k hk.1 hl
        have hE := put4 (H := w.heap.size) (a := .string ⟨#[99, 97, 108, 108]⟩) (b := .int .i64 0) (c := .string (tkx C.l i)) ((RowAt.of_owns HO.out).keep Sta) (hin.keep Stb) (fun k hk => hk)
        exact .ok i (j + 1) _ _ _ es _ _ _ (HA.out.ok g1 g2 g3 g4 hx) (by have := HA.out.num; omega) hE.1 hE.2
      | false =>
        go_wp2_with fail
        refine (rok_at C j (d + 1) _ Rr).mono ?_
        rintro e w5 ⟨rfl, rfl⟩
        go_wp2_with fail
        refine (rpass_any C _ (d + 1) _ Rr T kOp _ tShut (Or.inr ⟨by decide, rfl⟩) (by rw [ByteArray.toList_eq]; rfl) (by decide)).mono ?_
        rintro e w6 ⟨rfl, R6, hm6⟩
        have hx' : (St.here j).tx C.l tShut = false := hx
        simp only [hx']
        have e1 : (St.here j).pass C.l tShut = .here j := by simp only [St.pass, hx, Bool.false_eq_true, if_false]
        rw [e1] at R6
        have hs6 := hm6.size
        cases f with
        | true =>
          have HS : Hid (St.here j = if true then .here j else (St.here j).want C.l tComma) := rfl
          have HL : Hid ((St.here j).isAt = true → C.l.length - (St.here j).k ≤ n - 1) := fun _ => by show C.l.length - j ≤ n - 1; omega
          have hs7 := hm6.size
          go_wp2_with fail
          refine (HT.out (n - 1) (by omega) C _ (d + 1) _ T R6 HL.out).mono ?_
          rintro e w8 ⟨hm8, st8, v8, rfl, R8, hq8⟩
          have hs8 := hm8.size
          obtain ⟨op, x, s, so', m', sc', rfl⟩ := hq8.shape
          obtain ⟨es', HA', HN⟩ := HA.out.next g1 g2 g3 g4 hx HS.out hq8
          have HQ8 : Hid _ := hq8
          have HA8 : Hid _ := HA'
          have HN8 : Hid _ := HN
          clear hq8 HA' HN HS HL
          have hmm : Mv C.b w5 (w8.alloc (.cells #[.string op, .int .i64 x, .string s, .slice so' m' sc'] 94)) := ((hm6).trans hm8).trans (Mv.of_below ((Below.refl _ _).alloc (Nat.le_refl _) _))
          have HY : Hid _ := heap_alloc_new w8 (.cells #[.string op, .int .i64 x, .string s, .slice so' m' sc'] 94)
          have HO8 : Hid _ := (ownsRow_mv HO.out hmm (by omega)).alloc (.cells #[.string op, .int .i64 x, .string s, .slice so' m' sc'] 94)
          have hnb : ((w8.alloc (.cells #[.string op, .int .i64 x, .string s, .slice so' m' sc'] 94)).alloc (.cells #[.string op, .int .i64 x, .string s, .slice so' m' sc'] 94)).heap[w8.heap.size + 1]? = some (.cells #[.string op, .int .i64 x, .string s, .slice so' m' sc'] 94) := heap_alloc_new' (by simp) _
          have HN' : Hid _ := World.news_of_block hnb
          have hx8 := hmm.row (k := w.heap.size + 1 + 1) (by omega) HX.out
          have HX8 : Hid _ := hx8
          obtain ⟨a0, a1, a2, a3, af⟩ := blk4 hx8
          obtain ⟨y0, y1, y2, y3, _⟩ := blk4 HY.out
          have hml : m ≤ 6001 := by have h1 := (HE.out rfl).1; have h2 := HA.out.num; have h3 : j < C.l.length := Rr.lt; omega
          have hn63 : m + 1 ≤ maxLen := by unfold maxLen; omega
          have hby : (m + 1) * 64 ≤ 140737488355328 := by omega
          have HRW : Hid (∀ k, (Value.slice so m sc).ownBlock = some k → w.heap.size + 1 + 1 + 1 ≤ k ∧ k < w5.heap.size) := fun k hk => ownsRow_block HO.out hk
          clear hnb hx8
          go_wp2_with (at_builtin; refine wpList_append_lies _ rfl _ _ _ rfl (w.heap.size + 1 + 1 + 1) 94 i0' _ 4 64 Tryz.underlying92 hi0 hz0 hz1 hz2 rfl (by omega) _ m cells rfl HO8.out ⟨w8.heap.size + 1, 0, none⟩ 1 1 [.string op, .int .i64 x, .string s, .slice so' m' sc'] rfl rfl HN'.out (by simp [Value.oneCell']) (by omega) hn63 hby (by simp; omega) (w8.heap.size + 1 + 1) (by simp) ?_; intro g cap w9 hown9 hgrow hat hlt9; have HX9 : Hid _ := heap_grown hgrow (b := w.heap.size + 1 + 1) (fun hk => by have := (HRW.out _ hk).1; omega) (alloc_row _ HX8.out); have b3 := (blk4 HX9.out).2.2.2.1; have bf := (blk4 HX9.out).2.2.2.2 3)
          have hB : Below w.heap.size w8 w9 := (((Below.refl _ _).alloc (by omega) _).alloc (by simp; omega) _).grown hgrow (by simp; omega) (fun k hk => by have := (HRW.out k hk).1; omega)
          have hB9 : Below w.heap.size w9 (w9.setCell ⟨w.heap.size + 1 + 1, 3, none⟩ (.slice (some ⟨g, 0, none⟩) (m + 1) cap)) := setL_below (N := w.heap.size + 1 + 1) (by omega) [.slice (some ⟨g, 0, none⟩) (m + 1) cap] 3 w9
          have hBB : Below w.heap.size w8 (w9.setCell ⟨w.heap.size + 1 + 1, 3, none⟩ (.slice (some ⟨g, 0, none⟩) (m + 1) cap)) := hB.trans hB9
          have R9 : QS C st8 (d + 1) (w9.setCell ⟨w.heap.size + 1 + 1, 3, none⟩ (.slice (some ⟨g, 0, none⟩) (m + 1) cap)) := R.upon R8 hBB
          have hM9 : Mv C.b w (w9.setCell ⟨w.heap.size + 1 + 1, 3, none⟩ (.slice (some ⟨g, 0, none⟩) (m + 1) cap)) := ((hmr.trans hm6).trans hm8).upon hBB
          have HX10 : Hid ((w9.setCell ⟨w.heap.size + 1 + 1, 3, none⟩ (.slice (some ⟨g, 0, none⟩) (m + 1) cap)).heap[w.heap.size + 1 + 1]? = some (.cells #[.string ⟨#[99, 97, 108, 108]⟩, .int .i64 0, .string (tkx C.l i), .slice (some ⟨g, 0, none⟩) (m + 1) cap] 94 (0, 0))) := set_row HX9.out
          have HZ10 : Hid ((w9.setCell ⟨w.heap.size + 1 + 1, 3, none⟩ (.slice (some ⟨g, 0, none⟩) (m + 1) cap)).heap[w.heap.size]? = some rTerm) := (Below.heap_setCell _ _ _ _ (by show w.heap.size ≠ w.heap.size + 1 + 1; omega)).trans (heap_grown hgrow (b := w.heap.size) (fun hk => by have := (HRW.out _ hk).1; omega) (alloc_row _ (hmm.row (by omega) HZ.out)))
          have HO10 : Hid ((w9.setCell ⟨w.heap.size + 1 + 1, 3, none⟩ (.slice (some ⟨g, 0, none⟩) (m + 1) cap)).ownsRow (w.heap.size + 1 + 1 + 1) 94 4 (.slice (some ⟨g, 0, none⟩) (m + 1) cap) (m + 1) (cells ++ [.string op, .int .i64 x, .string s, .slice so' m' sc'])) := ownsRow_mv hown9 (Mv.setAt _ _ _ _) (by omega)
          have hat' : (Value.slice so m sc).ownBlock = some g ∨ g = (w8.alloc (.cells #[.string op, .int .i64 x, .string s, .slice so' m' sc'] 94)).heap.size + 1 := by rw [World.size_alloc]; exact hat
          have St0 := (grow_old (base := w.heap.size + 1 + 1 + 1) (u := .slice so m sc) (n := m + 1) (cap := cap) hmm (by omega) hgrow hat').trans (Stays.set (p := ⟨w.heap.size + 1 + 1, 3, none⟩) (.slice (some ⟨g, 0, none⟩) (m + 1) cap) (S' := fun k => w.heap.size + 1 + 1 + 1 ≤ k ∧ (Value.slice (some ⟨g, 0, none⟩) (m + 1) cap).ownBlock ≠ some k) (fun k hk => ⟨by have := hk.1; show k ≠ w.heap.size + 1 + 1; omega, hk⟩)) (by have := hgrow.size; simp at this; omega)
          have St1 := ((Stays.alloc (S := From w6.heap.size) (S' := From w6.heap.size) (.cells #[.string op, .int .i64 x, .string s, .slice so' m' sc'] 94) (fun k hk => hk)).trans (grow_new (base := w.heap.size + 1 + 1 + 1) (u := .slice so m sc) (n := m + 1) (cap := cap) (H := w6.heap.size) (by omega) (fun k hk => by have := (HRW.out k hk).2; omega) hgrow hat') (by simp)).trans (Stays.set (p := ⟨w.heap.size + 1 + 1, 3, none⟩) (.slice (some ⟨g, 0, none⟩) (m + 1) cap) (S' := fun k => w.heap.size + 1 + 1 + 1 ≤ k ∧ (Value.slice (some ⟨g, 0, none⟩) (m + 1) cap).ownBlock ≠ some k) (fun k hk => ⟨by have := hk.1; show k ≠ w.heap.size + 1 + 1; omega, hk⟩)) (by have := hgrow.size; simp at this; omega)
          refine ⟨⟨st8, false, es', some ⟨g, 0, none⟩, m + 1, cap, cells ++ [.string op, .int .i64 x, .string s, .slice so' m' sc'], rfl, R9, hM9, ?_, HX10, HZ10, HO10, HA8, ?_⟩, ?_⟩
          · have := hgrow.size; simp at this ⊢; omega
          · intro h8
            cases st8 with
            | bad k bd => cases h8
            | here k =>
              obtain ⟨hjk, y, ys, rfl, rfl, hrow, hin⟩ := HN8.out k rfl
              obtain ⟨rfl, hes⟩ := HE.out rfl
              exact ⟨by simp, (hes.keep St0).append (.cons op x s y _ _ ys _ (hrow.keep St1) (hin.keep St1) .nil)⟩
          · rw [Rr.left_at]
            cases st8 with
            | bad k bd => rw [R9.left_bad]; omega
            | here k =>
              obtain ⟨hjk, _⟩ := HN8.out k rfl
              have hkl : k < C.l.length := R9.lt
              rw [R9.left_at]; omega
        | false =>
          go_wp2_with fail
          refine (rwant_any C (.here j) (d + 1) _ R6 T kOp _ tComma (Or.inr ⟨by decide, rfl⟩) (by rw [ByteArray.toList_eq]; rfl) (by decide)).mono ?_
          rintro e w7 ⟨rfl, R7, hm7⟩
          have hM7 : Mv C.b w5 w7 := hm6.trans hm7
          have hs7' := hm7.size
          have HS : Hid ((St.here j).want C.l tComma = if false then .here j else (St.here j).want C.l tComma) := rfl
          have HL : Hid (((St.here j).want C.l tComma).isAt = true → C.l.length - ((St.here j).want C.l tComma).k ≤ n - 1) := fun hw => by
            cases hc : tx C.l j tComma with
            | true => rw [show (St.here j).want C.l tComma = .here (j + 1) from by simp only [St.want, hc, if_true]]; show C.l.length - (j + 1) ≤ n - 1; omega
            | false => rw [show (St.here j).want C.l tComma = .bad j false from by simp only [St.want, hc, Bool.false_eq_true, if_false]] at hw; cases hw
          have hs7 := hM7.size
          go_wp2_with fail
          refine (HT.out (n - 1) (by omega) C _ (d + 1) _ T R7 HL.out).mono ?_
          rintro e w8 ⟨hm8, st8, v8, rfl, R8, hq8⟩
          have hs8 := hm8.size
          obtain ⟨op, x, s, so', m', sc', rfl⟩ := hq8.shape
          obtain ⟨es', HA', HN⟩ := HA.out.next g1 g2 g3 g4 hx HS.out hq8
          have HQ8 : Hid _ := hq8
          have HA8 : Hid _ := HA'
          have HN8 : Hid _ := HN
          clear hq8 HA' HN HS HL
          have hmm : Mv C.b w5 (w8.alloc (.cells #[.string op, .int .i64 x, .string s, .slice so' m' sc'] 94)) := ((hM7).trans hm8).trans (Mv.of_below ((Below.refl _ _).alloc (Nat.le_refl _) _))
          have HY : Hid _ := heap_alloc_new w8 (.cells #[.string op, .int .i64 x, .string s, .slice so' m' sc'] 94)
          have HO8 : Hid _ := (ownsRow_mv HO.out hmm (by omega)).alloc (.cells #[.string op, .int .i64 x, .string s, .slice so' m' sc'] 94)
          have hnb : ((w8.alloc (.cells #[.string op, .int .i64 x, .string s, .slice so' m' sc'] 94)).alloc (.cells #[.string op, .int .i64 x, .string s, .slice so' m' sc'] 94)).heap[w8.heap.size + 1]? = some (.cells #[.string op, .int .i64 x, .string s, .slice so' m' sc'] 94) := heap_alloc_new' (by simp) _
          have HN' : Hid _ := World.news_of_block hnb
          have hx8 := hmm.row (k := w.heap.size + 1 + 1) (by omega) HX.out
          have HX8 : Hid _ := hx8
          obtain ⟨a0, a1, a2, a3, af⟩ := blk4 hx8
          obtain ⟨y0, y1, y2, y3, _⟩ := blk4 HY.out
          have hml : m ≤ 6001 := by have h1 := (HE.out rfl).1; have h2 := HA.out.num; have h3 : j < C.l.length := Rr.lt; omega
          have hn63 : m + 1 ≤ maxLen := by unfold maxLen; omega
          have hby : (m + 1) * 64 ≤ 140737488355328 := by omega
          have HRW : Hid (∀ k, (Value.slice so m sc).ownBlock = some k → w.heap.size + 1 + 1 + 1 ≤ k ∧ k < w5.heap.size) := fun k hk => ownsRow_block HO.out hk
          clear hnb hx8
          go_wp2_with (at_builtin; refine wpList_append_lies _ rfl _ _ _ rfl (w.heap.size + 1 + 1 + 1) 94 i0' _ 4 64 Tryz.underlying92 hi0 hz0 hz1 hz2 rfl (by omega) _ m cells rfl HO8.out ⟨w8.heap.size + 1, 0, none⟩ 1 1 [.string op, .int .i64 x, .string s, .slice so' m' sc'] rfl rfl HN'.out (by simp [Value.oneCell']) (by omega) hn63 hby (by simp; omega) (w8.heap.size + 1 + 1) (by simp) ?_; intro g cap w9 hown9 hgrow hat hlt9; have HX9 : Hid _ := heap_grown hgrow (b := w.heap.size + 1 + 1) (fun hk => by have := (HRW.out _ hk).1; omega) (alloc_row _ HX8.out); have b3 := (blk4 HX9.out).2.2.2.1; have bf := (blk4 HX9.out).2.2.2.2 3)
          have hB : Below w.heap.size w8 w9 := (((Below.refl _ _).alloc (by omega) _).alloc (by simp; omega) _).grown hgrow (by simp; omega) (fun k hk => by have := (HRW.out k hk).1; omega)
          have hB9 : Below w.heap.size w9 (w9.setCell ⟨w.heap.size + 1 + 1, 3, none⟩ (.slice (some ⟨g, 0, none⟩) (m + 1) cap)) := setL_below (N := w.heap.size + 1 + 1) (by omega) [.slice (some ⟨g, 0, none⟩) (m + 1) cap] 3 w9
          have hBB : Below w.heap.size w8 (w9.setCell ⟨w.heap.size + 1 + 1, 3, none⟩ (.slice (some ⟨g, 0, none⟩) (m + 1) cap)) := hB.trans hB9
          have R9 : QS C st8 (d + 1) (w9.setCell ⟨w.heap.size + 1 + 1, 3, none⟩ (.slice (some ⟨g, 0, none⟩) (m + 1) cap)) := R.upon R8 hBB
          have hM9 : Mv C.b w (w9.setCell ⟨w.heap.size + 1 + 1, 3, none⟩ (.slice (some ⟨g, 0, none⟩) (m + 1) cap)) := ((hmr.trans hM7).trans hm8).upon hBB
          have HX10 : Hid ((w9.setCell ⟨w.heap.size + 1 + 1, 3, none⟩ (.slice (some ⟨g, 0, none⟩) (m + 1) cap)).heap[w.heap.size + 1 + 1]? = some (.cells #[.string ⟨#[99, 97, 108, 108]⟩, .int .i64 0, .string (tkx C.l i), .slice (some ⟨g, 0, none⟩) (m + 1) cap] 94 (0, 0))) := set_row HX9.out
          have HZ10 : Hid ((w9.setCell ⟨w.heap.size + 1 + 1, 3, none⟩ (.slice (some ⟨g, 0, none⟩) (m + 1) cap)).heap[w.heap.size]? = some rTerm) := (Below.heap_setCell _ _ _ _ (by show w.heap.size ≠ w.heap.size + 1 + 1; omega)).trans (heap_grown hgrow (b := w.heap.size) (fun hk => by have := (HRW.out _ hk).1; omega) (alloc_row _ (hmm.row (by omega) HZ.out)))
          have HO10 : Hid ((w9.setCell ⟨w.heap.size + 1 + 1, 3, none⟩ (.slice (some ⟨g, 0, none⟩) (m + 1) cap)).ownsRow (w.heap.size + 1 + 1 + 1) 94 4 (.slice (some ⟨g, 0, none⟩) (m + 1) cap) (m + 1) (cells ++ [.string op, .int .i64 x, .string s, .slice so' m' sc'])) := ownsRow_mv hown9 (Mv.setAt _ _ _ _) (by omega)
          have hat' : (Value.slice so m sc).ownBlock = some g ∨ g = (w8.alloc (.cells #[.string op, .int .i64 x, .string s, .slice so' m' sc'] 94)).heap.size + 1 := by rw [World.size_alloc]; exact hat
          have St0 := (grow_old (base := w.heap.size + 1 + 1 + 1) (u := .slice so m sc) (n := m + 1) (cap := cap) hmm (by omega) hgrow hat').trans (Stays.set (p := ⟨w.heap.size + 1 + 1, 3, none⟩) (.slice (some ⟨g, 0, none⟩) (m + 1) cap) (S' := fun k => w.heap.size + 1 + 1 + 1 ≤ k ∧ (Value.slice (some ⟨g, 0, none⟩) (m + 1) cap).ownBlock ≠ some k) (fun k hk => ⟨by have := hk.1; show k ≠ w.heap.size + 1 + 1; omega, hk⟩)) (by have := hgrow.size; simp at this; omega)
          have St1 := ((Stays.alloc (S := From w7.heap.size) (S' := From w7.heap.size) (.cells #[.string op, .int .i64 x, .string s, .slice so' m' sc'] 94) (fun k hk => hk)).trans (grow_new (base := w.heap.size + 1 + 1 + 1) (u := .slice so m sc) (n := m + 1) (cap := cap) (H := w7.heap.size) (by omega) (fun k hk => by have := (HRW.out k hk).2; omega) hgrow hat') (by simp)).trans (Stays.set (p := ⟨w.heap.size + 1 + 1, 3, none⟩) (.slice (some ⟨g, 0, none⟩) (m + 1) cap) (S' := fun k => w.heap.size + 1 + 1 + 1 ≤ k ∧ (Value.slice (some ⟨g, 0, none⟩) (m + 1) cap).ownBlock ≠ some k) (fun k hk => ⟨by have := hk.1; show k ≠ w.heap.size + 1 + 1; omega, hk⟩)) (by have := hgrow.size; simp at this; omega)
          refine ⟨⟨st8, false, es', some ⟨g, 0, none⟩, m + 1, cap, cells ++ [.string op, .int .i64 x, .string s, .slice so' m' sc'], rfl, R9, hM9, ?_, HX10, HZ10, HO10, HA8, ?_⟩, ?_⟩
          · have := hgrow.size; simp at this ⊢; omega
          · intro h8
            cases st8 with
            | bad k bd => cases h8
            | here k =>
              obtain ⟨hjk, y, ys, rfl, rfl, hrow, hin⟩ := HN8.out k rfl
              obtain ⟨rfl, hes⟩ := HE.out rfl
              exact ⟨by simp, (hes.keep St0).append (.cons op x s y _ _ ys _ (hrow.keep St1) (hin.keep St1) .nil)⟩
          · rw [Rr.left_at]
            cases st8 with
            | bad k bd => rw [R9.left_bad]; omega
            | here k =>
              obtain ⟨hjk, _⟩ := HN8.out k rfl
              have hkl : k < C.l.length := R9.lt
              rw [R9.left_at]; omega
end Go.Proofs.YtomgimfmcfjhdaaGreatDoor

/-
  lustrumref1's READER OF TERMS BY ITS CONTRACT.
-/
namespace Go.Proofs.YtomgimfmcfjhdaaGreatDoor
open Go.RowKit

theorem ratom_fits (n : Nat) (hT : ∀ m, m < n → QFits 83 .term m) : QFits 189 .atom n := by
  intro C st d w T R hn
  cases st with
  | bad j bd => exact ratom_bad C j bd d w R
  | here i =>
    have hn' : C.l.length - i ≤ n := hn rfl
    cases g1 : isInt C.l i with
    | true => exact ratom_int C i d w T R g1
    | false =>
      cases g2 : txs C.l i [tTrue, tFalse] with
      | true => exact ratom_bool C i d w T R g1 g2
      | false =>
        cases g3 : isName C.l i with
        | true =>
          cases g4 : tx C.l (i + 1) tOpen with
          | true => exact ratom_call C i d w T R g1 g2 n hT hn' g3 g4
          | false => exact ratom_name C i d w T R g1 g2 g3 g4
        | false =>
          cases g4 : tx C.l i tOpen with
          | true => exact ratom_brk C i d w T R g1 g2 n hT hn' g3 g4
          | false => exact ratom_none C i d w T R g1 g2 g3 g4

theorem rall_fit : ∀ n, QFits 83 .term n ∧ QFits 183 .un n ∧ QFits 160 .not n := by
  intro n
  induction n using Nat.strongRecOn with
  | _ n ih =>
    have hT : ∀ m, m < n → QFits 83 .term m := fun m hm => (ih m hm).1
    have ha := ratom_fits n hT
    have hu := runary_fits n (fun m hm => (ih m hm).2.1) ha
    have hp := rproduct_fits n hu
    have hs := rsum_fits n hp
    have hn := rnot_fits n (fun m hm => (ih m hm).2.2) hs
    have hd := rand_fits n hn
    have ho := ror_fits n hd
    exact ⟨rterm_fits n hT ho, hu, hn⟩
theorem rterm_any (n : Nat) : QFits 83 .term n := (rall_fit n).1
end Go.Proofs.YtomgimfmcfjhdaaGreatDoor
