/-
  package tree's READER OF TERMS: arguments, nameOrCall, atom BY THEIR CONTRACTS.
-/
import Derived.Test.YtgbpccipdcajgaaGreatDoorQ10
import Derived.Deep.AppendLies
namespace Go.Proofs.YtgbpccipdcajgaaGreatDoor
open Go.RowKit
attribute [local go_sem ↓] Go.wp_at_zero Go.wp_at_succ
theorem Tryz.infoExpr : (Tryz.prog.info? 105).map (fun i => (i.zero, i.size, i.bytes)) = some (some (.agg #[.string ⟨#[]⟩, .int .i64 0, .string ⟨#[]⟩, .slice none 0 0]), 4, 64) := by kernel_rfl
theorem grow_old {base g n cap b : Nat} {u : Value} {wr w4 w5 : World} {o : Obj} (hmm : Mv b wr w4) (hb : b < base) (hgrow : (w4.alloc o).grownBy w5 u.ownBlock) (hat : u.ownBlock = some g ∨ g = w4.heap.size + 1) : Stays (fun k => base ≤ k ∧ u.ownBlock ≠ some k) (fun k => base ≤ k ∧ (Value.slice (some ⟨g, 0, none⟩) n cap).ownBlock ≠ some k) wr w5 := fun k hk hl => by
 have hs := hmm.size
 have h1 := hmm.block k hl (by intro e; injection e with e; have := hk.1; omega)
 have h2 := hgrow.block k (by simp; omega) (fun e => hk.2 e.symm)
 have h3 : (w4.alloc o).heap[k]? = w4.heap[k]? := heap_alloc_old w4 o (by omega)
 refine ⟨⟨hk.1, ?_⟩, h2.trans (h3.trans h1)⟩
 intro e
 simp only [Value.ownBlock, Option.some.injEq] at e
 subst e
 rcases hat with h | h
 ·exact hk.2 h
 ·omega
theorem grow_new {base H g n cap : Nat} {u : Value} {w4 w5 : World} {o : Obj} (hH : base ≤ H) (hu : ∀ k, u.ownBlock = some k → k < H) (hgrow : (w4.alloc o).grownBy w5 u.ownBlock) (hat : u.ownBlock = some g ∨ g = w4.heap.size + 1) : Stays (From H) (fun k => base ≤ k ∧ (Value.slice (some ⟨g, 0, none⟩) n cap).ownBlock ≠ some k) w4 w5 := fun k hk hl => by
 unfold From at hk
 have h2 := hgrow.block k (by simp; omega) (fun e => by have := hu k e.symm; omega)
 have h3 : (w4.alloc o).heap[k]? = w4.heap[k]? := heap_alloc_old w4 o hl
 refine ⟨⟨by omega, ?_⟩, h2.trans h3⟩
 intro e
 simp only [Value.ownBlock, Option.some.injEq] at e
 subst e
 rcases hat with h | h
 ·have := hu _ h; omega
 ·omega
def ListV (base : Nat) (w' : World) (es : List Ex) (v : Value) : Prop := ∃ ys, RowAt w' (From base) 4 v es.length ys ∧ ExIn w' (From base) es ys

set_option maxRecDepth 100000 in
set_option maxHeartbeats 1000000 in
theorem arguments_any (n : Nat) (hT : Fits 138 .term n) (C : Rc) (i d : Nat) (w : World) (T : Tkl C.l) (R : Rd C i d w) (hn : C.l.length - i ≤ n) :
  Calls Tryz.prog 202 #[.pointer (some ⟨C.b, 0, none⟩)] w fun e w' => Mv C.b w w' ∧ ((∃ es j v, Parse C.l .args i d (.ok es j) ∧ e = .returned v ∧ ListV w.heap.size w' es v ∧ Rd C j d w' ∧ i ≤ j) ∨ (∃ j bd, Parse C.l .args i d (.bad j bd) ∧ Threw C j bd e w')) := by
 obtain ⟨i0, hi0, hz0, hz1, hz2⟩ := info_parts Tryz.infoExpr
 have HT : Hid (Fits 138 .term n) := hT
 clear hT
 have hlt := R.lt
 have hbl := R.blt
 by_cases h : txs C.l i [tShut] = true
 ·have ht : tx C.l i tShut = true := by rw [← txs_one]; exact h
  go_enter Tryz.func202, Tryz.ntmps202
  go_wp2_with fail
  refine (is_new C i d _ R [tShut] _ 1 rfl rfl (by decide)).mono ?_
  rintro e w1 ⟨rfl, hb1⟩
  go_wp2
  go_ret
  exact ⟨Mv.of_below hb1, Or.inl ⟨[], i, _, Run.ifT ht Run.done, rfl, ⟨[], ⟨rfl, by simp [maxLen], none, 0, rfl, fun k x hx => by simp at hx⟩, .nil⟩, R.below hb1, Nat.le_refl _⟩⟩
 ·have h' : txs C.l i [tShut] = false := by simpa using h
  clear h
  have ht : tx C.l i tShut = false := by rw [← txs_one]; exact h'
  go_enter Tryz.func202, Tryz.ntmps202
  go_wp2_with fail
  refine (is_new C i d _ R [tShut] _ 1 rfl rfl (by decide)).mono ?_
  rintro e w1 ⟨rfl, hb1⟩
  have hs1 := hb1.size
  go_wp2_with fail
  refine (HT.out C i d _ T (R.below hb1) hn).mono ?_
  rintro e w2 ⟨hm2, h2⟩
  have hs2 := hm2.size
  rcases h2 with ⟨es, j, v, hp, rfl, ⟨ex, rfl, hv⟩, R2, hij⟩ | ⟨j, bd, hp, hj, p, rfl, q0, q1⟩
  ·obtain ⟨op, x, s, l, so, sc, ys, rfl, rfl, hrow, hin⟩ := hv.one
   have hbB : Below w2.heap.size w2 (w2.alloc (.cells #[.string op, .int .i64 x, .string s, .slice so l.length sc] 105)) := (Below.refl _ _).alloc (Nat.le_refl _) _
   have hown : (w2.alloc (.cells #[.string op, .int .i64 x, .string s, .slice so l.length sc] 105)).ownsRow w.heap.size 105 4 (.slice (some ⟨w2.heap.size, 0, none⟩) 1 1) 1 [.string op, .int .i64 x, .string s, .slice so l.length sc] := ⟨rfl, Or.inr ⟨w2.heap.size, 1, _, rfl, by omega, heap_alloc_new w2 _, by omega, by simp [maxLen], rfl, rfl⟩⟩
   have St : Stays (From w1.heap.size) (fun k => w.heap.size ≤ k ∧ (Value.slice (some ⟨w2.heap.size, 0, none⟩) 1 1).ownBlock ≠ some k) w2 (w2.alloc (.cells #[.string op, .int .i64 x, .string s, .slice so l.length sc] 105)) := fun k hk hl => ⟨⟨by unfold From at hk; omega, by simp [Value.ownBlock]; omega⟩, hbB.block k hl⟩
   have HOWN : Hid _ := hown
   have HST : Hid _ := St
   clear hown St
   have HP : Hid (∀ r, Parse C.l (.more [.mk op x s l]) j d r → Parse C.l .args i d r) := fun r h => Run.ifF ht (Run.then hp (Run.tail h))
   have hM2 : Mv C.b w (w2.alloc (.cells #[.string op, .int .i64 x, .string s, .slice so l.length sc] 105)) := ((Mv.of_below hb1).trans hm2).trans (Mv.of_below hbB)
   go_wp2
   go_loopw [3] (fun v wr => ∃ (es : List Ex) (cells : List Value) (j : Nat), Hid (wr.ownsRow w.heap.size 105 4 v es.length cells) ∧ ExIn wr (fun k => w.heap.size ≤ k ∧ v.ownBlock ≠ some k) es cells ∧ Rd C j d wr ∧ Mv C.b w wr ∧ i < j ∧ es.length ≤ j ∧ Hid (∀ r, Parse C.l (.more es) j d r → Parse C.l .args i d r)) (fun _ wr => C.l.length - posOf wr C.b)
   case atStart => exact ⟨[.mk op x s l], _, j, HOWN, .cons op x s l _ _ ys _ (hrow.keep HST.out) (hin.keep HST.out) .nil, R2.below hbB, hM2, hij, by simp; omega, HP⟩
   case round =>
    clear hrow hin hv hp HP R2 HOWN HST hbB hM2
    obtain ⟨es, cells, j, HO, hin, Rr, hmr, hijr, hle, HP⟩ := hrel
    have hjl := Rr.lt
    have hlen := Rr.len
    have hsr := hmr.size
    by_cases h : txs C.l j [tComma] = true
    ·have hj1 : j + 1 < C.l.length := T.next_txs Rr.lt (by decide) h
     have hc : tx C.l j tComma = true := by rw [← txs_one]; exact h
     go_wp2_with fail
     refine (is_new C j d _ Rr [tComma] _ 1 rfl rfl (by decide)).mono ?_
     rintro e w2 ⟨rfl, hb2⟩
     have hs2 := hb2.size
     go_wp2_with fail
     refine (take_any C j d _ (Rr.below hb2) hj1).mono ?_
     rintro e w3 ⟨rfl, R3, hm3⟩
     have hs3 := hm3.size
     go_wp2_with fail
     refine (HT.out C (j + 1) d _ T R3 (by omega)).mono ?_
     rintro e w4 ⟨hm4, h4⟩
     have hs4 := hm4.size
     have hmm : Mv C.b wr w4 := ((Mv.of_below hb2).trans hm3).trans hm4
     rcases h4 with ⟨es', j', v, hp', rfl, ⟨ex, rfl, hv'⟩, R4, hij'⟩ | ⟨j', bd, hp', hj', p, rfl, q0, q1⟩
     ·obtain ⟨op, x, s, l, so, sc, ys, rfl, rfl, hrow', hin'⟩ := hv'.one
      have hown4 := ownsRow_mv HO.out hmm (by omega)
      have hnb := heap_alloc_new w4 (.cells #[.string op, .int .i64 x, .string s, .slice so l.length sc] 105)
      have HN' : Hid _ := World.news_of_block hnb
      have HO4 : Hid _ := hown4.alloc (.cells #[.string op, .int .i64 x, .string s, .slice so l.length sc] 105)
      have hn63 : es.length + 1 ≤ maxLen := by unfold maxLen; omega
      have hby : (es.length + 1) * 64 ≤ 140737488355328 := by omega
      have hrw : ∀ k, u3.ownBlock = some k → w.heap.size ≤ k ∧ k < wr.heap.size := fun k hk => ownsRow_block HO.out hk
      have HRW : Hid _ := hrw
      have hbB : Below w4.heap.size w4 (w4.alloc (.cells #[.string op, .int .i64 x, .string s, .slice so l.length sc] 105)) := (Below.refl _ _).alloc (Nat.le_refl _) _
      clear hown4 hnb hrw
      go_wp2_with (at_builtin; refine wpList_append_lies _ rfl _ _ _ rfl w.heap.size 105 i0 _ 4 64 Tryz.underlying103 hi0 hz0 hz1 hz2 rfl (by omega) _ es.length cells rfl HO4.out ⟨w4.heap.size, 0, none⟩ 1 1 [.string op, .int .i64 x, .string s, .slice so l.length sc] rfl rfl HN'.out (by simp [Value.oneCell']) (by omega) hn63 hby (by simp; omega) (w4.heap.size + 1) (by simp) ?_; intro g cap w5 hown5 hgrow hat hlt5)
      have hB : Below w.heap.size w4 w5 := ((Below.refl _ _).alloc (by omega) _).grown hgrow (by simp; omega) (fun k hk => (HRW.out k hk).1)
      have St0 := grow_old (n := es.length + 1) (cap := cap) hmm hbl hgrow hat
      have St1 := grow_new (base := w.heap.size) (n := es.length + 1) (cap := cap) (H := w3.heap.size) (by omega) (fun k hk => by have := (HRW.out k hk).2; omega) hgrow hat
      have R5 := R.upon R4 hB
      have e1 := Rr.pos
      have e2 := R5.pos
      have l2 := R4.lt
      refine ⟨⟨es ++ [.mk op x s l], cells ++ [.string op, .int .i64 x, .string s, .slice so l.length sc], j', ?_, (hin.keep St0).append (.cons op x s l _ _ ys _ (hrow'.keep St1) (hin'.keep St1) .nil), R5, (hmr.trans hmm).upon hB, by omega, by simp; omega, fun r hr => HP.out _ (Run.ifT hc (Run.then hp' (Run.tail hr)))⟩, by omega⟩
      rw [List.length_append]; exact hown5
     ·go_wp2
      exact ⟨rfl, hmr.trans hmm, Or.inr ⟨j', bd, HP.out _ (Run.ifT hc (Run.stop hp')), hj', p, rfl, q0, q1⟩⟩
    ·have h' : txs C.l j [tComma] = false := by simpa using h
     clear h
     have hc : tx C.l j tComma = false := by rw [← txs_one]; exact h'
     go_wp2_with fail
     refine (is_new C j d _ Rr [tComma] _ 1 rfl rfl (by decide)).mono ?_
     rintro e w2 ⟨rfl, hb2⟩
     go_wp2
     go_ret
     have St : Stays (fun k => w.heap.size ≤ k ∧ u3.ownBlock ≠ some k) (From w.heap.size) wr w2 := Stays.below hb2 (fun k hk => hk.1)
     exact ⟨hmr.trans (Mv.of_below hb2), Or.inl ⟨es, j, _, HP.out _ (Run.ifF hc Run.done), rfl, ⟨cells, (RowAt.of_owns HO.out).keep (Stays.below hb2 (fun k hk => hk)), hin.keep St⟩, Rr.below hb2, by omega⟩⟩
  ·go_wp2
   exact ⟨rfl, (Mv.of_below hb1).trans hm2, Or.inr ⟨j, bd, Run.ifF ht (Run.stop hp), hj, p, rfl, q0, q1⟩⟩

set_option maxRecDepth 100000 in
set_option maxHeartbeats 1000000 in
theorem nameOrCall_any (n : Nat) (hT : ∀ m, m < n → Fits 138 .term m) (C : Rc) (i d : Nat) (w : World) (T : Tkl C.l) (R : Rd C i d w) (hn : C.l.length - i ≤ n) (g1 : isInt C.l i = false) (g2 : txs C.l i [tTrue, tFalse] = false) (g3 : isName C.l i = true) :
  Calls Tryz.prog 200 #[.pointer (some ⟨C.b, 0, none⟩)] w (Ret C .atom i d w (TermV w.heap.size)) := by
 have HT : Hid (∀ m, m < n → Fits 138 .term m) := hT
 clear hT
 have hlt := R.lt
 have hbl := R.blt
 have hi : i + 1 < C.l.length := T.next_name R.lt g3
 have hbA : Below w.heap.size w (w.alloc zTerm) := (Below.refl _ _).alloc (Nat.le_refl _) _
 have HZ : Hid _ := heap_alloc_new w zTerm
 have RA := R.below hbA
 go_enter Tryz.func200, Tryz.ntmps200
 go_wp2_with fail
 refine (take_any C i d _ RA hi).mono ?_
 rintro e w1 ⟨rfl, R1, hm1⟩
 have hs1 := hm1.size
 simp only [World.size_alloc] at hs1
 go_wp2_with fail
 refine (is_new C (i + 1) d _ R1 [tOpen] _ 1 rfl rfl (by decide)).mono ?_
 rintro e w2 ⟨rfl, hb2⟩
 have hs2 := hb2.size
 have R2 := R1.below hb2
 have hM2 : Mv C.b w w2 := ((Mv.of_below hbA).trans hm1).trans (Mv.of_below hb2)
 have HZ2 : Hid _ := row_keep hb2 (hm1.row (by omega) HZ.out)
 by_cases h : txs C.l (i + 1) [tOpen] = true
 ·have hi2 : i + 1 + 1 < C.l.length := T.next_txs R1.lt (by decide) h
  have ht : tx C.l (i + 1) tOpen = true := by rw [← txs_one]; exact h
  go_wp2_with fail
  refine (enter_any C (i + 1) d _ R2 hi2).mono ?_
  rintro e w3 ⟨hm3, h3⟩
  have hs3 := hm3.size
  rcases h3 with ⟨hd, rfl, R3⟩ | ⟨hd, hj, p, rfl, q0, q1⟩
  ·go_wp2_with fail
   refine (arguments_any (n - 1) (HT.out (n - 1) (by omega)) C (i + 1 + 1) (d + 1) _ T R3 (by omega)).mono ?_
   rintro e w4 ⟨hm4, h4⟩
   have hs4 := hm4.size
   rcases h4 with ⟨es, j, v, hp, rfl, ⟨ys, hrow, hin⟩, R4, hij⟩ | ⟨j, bd, hp, hj, p, rfl, q0, q1⟩
   ·obtain ⟨a1, a2, so, sc, rfl, a3⟩ := hrow
    have hrow : RowAt w4 (From w3.heap.size) 4 (.slice so es.length sc) es.length ys := ⟨a1, a2, so, sc, rfl, a3⟩
    clear a1 a3
    go_wp2_with fail
    refine (leave_any C j d _ R4).mono ?_
    rintro e w5 ⟨rfl, R5, hm5⟩
    have hs5 := hm5.size
    go_wp2_with fail
    refine (expect_any C j d _ R5 T tShut (by decide)).mono ?_
    rintro e w6 ⟨hm6, h6⟩
    have hs6 := hm6.size
    have hM6 : Mv C.b w w6 := (((hM2.trans hm3).trans hm4).trans hm5).trans hm6
    rcases h6 with ⟨hx, rfl, R6⟩ | ⟨hx, hj, p, rfl, q0, q1⟩
    ·obtain ⟨z0, z1, z2, z3, zf⟩ := blk4 (hm6.row (by omega) (hm5.row (by omega) (hm4.row (by omega) (hm3.row (by omega) HZ2.out))))
     have St : Stays (From w3.heap.size) (fun k => w.heap.size < k) w4 w6 := Stays.mv (hm5.trans hm6) (fun k hk => by unfold From at hk; omega)
     go_wp2
     have hE := ret4 (op := ⟨#[99, 97, 108, 108]⟩) (x := 0) (s := tkx C.l i) R R6 hM6 (hrow.keep St) (hin.keep St) (fun k hk => hk)
     exact bodyPost_ret (v := .agg #[.string ⟨#[99, 97, 108, 108]⟩, .int .i64 0, .string (tkx C.l i), .slice so es.length sc]) (by simp [results, Tryz.results200, go_sem, z0, z1, z2, z3]) rfl ⟨hE.1, Or.inl ⟨_, j + 1, _, Run.ifF g1 (Run.ifF g2 (Run.ifT g3 (Run.ifT ht (Run.down hd (Run.then hp (Run.exp hx Run.done)))))), rfl, ⟨_, rfl, hE.2.1⟩, hE.2.2, by omega⟩⟩
    ·go_wp2
     exact ⟨rfl, hM6, Or.inr ⟨j, false, Run.ifF g1 (Run.ifF g2 (Run.ifT g3 (Run.ifT ht (Run.down hd (Run.then hp (Run.unexp hx)))))), hj, p, rfl, q0, q1⟩⟩
   ·go_wp2
    exact ⟨rfl, (hM2.trans hm3).trans hm4, Or.inr ⟨j, bd, Run.ifF g1 (Run.ifF g2 (Run.ifT g3 (Run.ifT ht (Run.down hd (Run.stop hp))))), hj, p, rfl, q0, q1⟩⟩
  ·subst hd
   go_wp2
   exact ⟨rfl, hM2.trans hm3, Or.inr ⟨i + 1, true, Run.ifF g1 (Run.ifF g2 (Run.ifT g3 (Run.ifT ht (Run.deep rfl)))), hj, p, rfl, q0, q1⟩⟩
 ·have h' : txs C.l (i + 1) [tOpen] = false := by simpa using h
  clear h
  have ht : tx C.l (i + 1) tOpen = false := by rw [← txs_one]; exact h'
  obtain ⟨z0, z1, z2, z3, zf⟩ := blk4 HZ2.out
  go_wp2
  have hE := ret4 (l := []) (ys := []) (S := fun k => w.heap.size < k) (so := none) (sc := 0) (op := ⟨#[110, 97, 109, 101]⟩) (x := 0) (s := tkx C.l i) R R2 hM2 ⟨rfl, by simp [maxLen], none, 0, rfl, fun k x hx => by simp at hx⟩ .nil (fun k hk => hk)
  exact bodyPost_ret (v := .agg #[.string ⟨#[110, 97, 109, 101]⟩, .int .i64 0, .string (tkx C.l i), .slice none 0 0]) (by simp [results, Tryz.results200, go_sem, z0, z1, z2, z3]) rfl ⟨hE.1, Or.inl ⟨_, i + 1, _, Run.ifF g1 (Run.ifF g2 (Run.ifT g3 (Run.ifF ht Run.done))), rfl, ⟨_, rfl, hE.2.1⟩, hE.2.2, by omega⟩⟩

set_option maxRecDepth 100000 in
set_option maxHeartbeats 1000000 in
theorem atom_fits (n : Nat) (hT : ∀ m, m < n → Fits 138 .term m) : Fits 199 .atom n := by
 intro C i d w T R hn
 have HT : Hid (∀ m, m < n → Fits 138 .term m) := hT
 clear hT
 have hlt := R.lt
 have hbl := R.blt
 have hfd := fldK
 have hbA : Below w.heap.size w (w.alloc zTerm) := (Below.refl _ _).alloc (Nat.le_refl _) _
 have HZ : Hid _ := heap_alloc_new w zTerm
 have RA := R.below hbA
 by_cases g1 : isInt C.l i = true
 ·have hi : i + 1 < C.l.length := T.next_int R.lt g1
  have g1' : ((tkk C.l i).toList == [105, 110, 116]) = true := g1
  obtain ⟨d0, d1, d2⟩ := T.int R.lt g1
  rw [← tkx_lt R.lt] at d0 d1 d2
  have hsz := T.tsz i R.lt
  rw [← tkx_lt R.lt] at hsz
  have hat : Lib.atoiAll (tkx C.l i).data.toList = .ok (valL (tkx C.l i).data.toList : Int) := by
   rcases atoi_digits _ d0 d1 with h | ⟨_, h⟩
   ·exact h
   ·exfalso
    simp only [intB, Bool.and_eq_true, decide_eq_true_eq] at d2
    omega
  have hdec : decOf (tkx C.l i).toList = (valL (tkx C.l i).data.toList : Int) := by
   rw [toList_data]
   exact decOf_val _ (fun c hc => (dig_mem d1 c hc).1)
  have HAT : Hid _ := hat
  have HDEC : Hid _ := hdec
  clear hat hdec d1 d2
  go_enter Tryz.func199, Tryz.ntmps199
  go_wp2_with fail
  refine (tnext_any C i d _ RA).mono ?_
  rintro e w1 ⟨rfl, hb1⟩
  have hs1 := hb1.size
  simp only [World.size_alloc] at hs1
  go_wp2_with fail
  refine (take_any C i d _ (RA.below hb1) hi).mono ?_
  rintro e w2 ⟨rfl, R2, hm2⟩
  have hs2 := hm2.size
  go_wp2_with fail
  refine (Tryz.strconv_Atoi_ok _ (by omega) _ HAT.out _).mono ?_
  rintro e w3 ⟨rfl, hw3⟩
  have hb3 : Below w2.heap.size w2 w3 := by
   rcases hw3 with rfl | ⟨t1, rfl⟩
   ·exact Below.refl _ _
   ·exact Lib.bytesWorld_below w2 _ t1
  clear hw3
  have hM3 : Mv C.b w w3 := (((Mv.of_below hbA).trans (Mv.of_below hb1)).trans hm2).trans (Mv.of_below hb3)
  obtain ⟨z0, z1, z2, z3, zf⟩ := blk4 (row_keep hb3 (hm2.row (by omega) (row_keep hb1 HZ.out)))
  go_wp2
  have hE := ret4 (l := []) (ys := []) (S := fun k => w.heap.size < k) (so := none) (sc := 0) (op := ⟨#[105, 110, 116]⟩) (x := (valL (tkx C.l i).data.toList : Int)) (s := ⟨#[]⟩) R (R2.below hb3) hM3 ⟨rfl, by simp [maxLen], none, 0, rfl, fun k x hx => by simp at hx⟩ .nil (fun k hk => hk)
  have hpp : Parse C.l .atom i d (.ok [.mk sInt (decOf (tkx C.l i).toList) b0 []] (i + 1)) := Run.ifT g1 Run.done
  rw [HDEC.out] at hpp
  exact bodyPost_ret (v := .agg #[.string ⟨#[105, 110, 116]⟩, .int .i64 (valL (tkx C.l i).data.toList : Int), .string ⟨#[]⟩, .slice none 0 0]) (by simp [results, Tryz.results199, go_sem, z0, z1, z2, z3]) rfl ⟨hE.1, Or.inl ⟨_, i + 1, _, hpp, rfl, ⟨_, rfl, hE.2.1⟩, hE.2.2, by omega⟩⟩
 ·have g1' : isInt C.l i = false := by simpa using g1
  have g1'' : ((tkk C.l i).toList == [105, 110, 116]) = false := g1'
  clear g1
  by_cases g2 : txs C.l i [tTrue, tFalse] = true
  ·have hi : i + 1 < C.l.length := T.next_txs R.lt (by decide) g2
   go_enter Tryz.func199, Tryz.ntmps199
   go_wp2_with fail
   refine (tnext_any C i d _ RA).mono ?_
   rintro e w1 ⟨rfl, hb1⟩
   have hs1 := hb1.size
   simp only [World.size_alloc] at hs1
   have R1 := RA.below hb1
   go_wp2_with fail
   refine (is_new C i d _ R1 [tTrue, tFalse] _ 2 rfl rfl (by decide)).mono ?_
   rintro e w2 ⟨rfl, hb2⟩
   have hs2 := hb2.size
   go_wp2_with fail
   refine (take_any C i d _ (R1.below hb2) hi).mono ?_
   rintro e w3 ⟨rfl, R3, hm3⟩
   have hs3 := hm3.size
   have hM3 : Mv C.b w w3 := (((Mv.of_below hbA).trans (Mv.of_below hb1)).trans (Mv.of_below hb2)).trans hm3
   obtain ⟨z0, z1, z2, z3, zf⟩ := blk4 (hm3.row (by omega) (row_keep hb2 (row_keep hb1 HZ.out)))
   go_wp2
   have hE := ret4 (l := []) (ys := []) (S := fun k => w.heap.size < k) (so := none) (sc := 0) (op := tkx C.l i) (x := 0) (s := ⟨#[]⟩) R R3 hM3 ⟨rfl, by simp [maxLen], none, 0, rfl, fun k x hx => by simp at hx⟩ .nil (fun k hk => hk)
   exact bodyPost_ret (v := .agg #[.string (tkx C.l i), .int .i64 0, .string ⟨#[]⟩, .slice none 0 0]) (by simp [results, Tryz.results199, go_sem, z0, z1, z2, z3]) rfl ⟨hE.1, Or.inl ⟨_, i + 1, _, Run.ifF g1' (Run.ifT g2 Run.done), rfl, ⟨_, rfl, hE.2.1⟩, hE.2.2, by omega⟩⟩
  ·have g2' : txs C.l i [tTrue, tFalse] = false := by simpa using g2
   clear g2
   by_cases g3 : isName C.l i = true
   ·go_enter Tryz.func199, Tryz.ntmps199
    go_wp2_with fail
    refine (tnext_any C i d _ RA).mono ?_
    rintro e w1 ⟨rfl, hb1⟩
    have hs1 := hb1.size
    simp only [World.size_alloc] at hs1
    have R1 := RA.below hb1
    go_wp2_with fail
    refine (is_new C i d _ R1 [tTrue, tFalse] _ 2 rfl rfl (by decide)).mono ?_
    rintro e w2 ⟨rfl, hb2⟩
    have hs2 := hb2.size
    have R2 := R1.below hb2
    go_wp2_with fail
    refine (isName_any C i d _ R2).mono ?_
    rintro e w3 ⟨rfl, hb3⟩
    have hs3 := hb3.size
    have hM3 : Mv C.b w w3 := (((Mv.of_below hbA).trans (Mv.of_below hb1)).trans (Mv.of_below hb2)).trans (Mv.of_below hb3)
    go_wp2_with fail
    refine (nameOrCall_any n HT.out C i d _ T (R2.below hb3) hn g1' g2' g3).mono ?_
    rintro e w4 ⟨hm4, h4⟩
    rcases h4 with ⟨es, j, v, hp, rfl, ⟨ex, rfl, hv⟩, R4, hij⟩ | ⟨j, bd, hp, hj, p, rfl, q0, q1⟩
    ·obtain ⟨op, x, s, l, so, sc, ys, rfl, rfl, hrow, hin⟩ := hv.one
     obtain ⟨z0, z1, z2, z3, zf⟩ := blk4 (hm4.row (by omega) (row_keep hb3 (row_keep hb2 (row_keep hb1 HZ.out))))
     go_wp2
     have hE := ret4 (op := op) (x := x) (s := s) R R4 (hM3.trans hm4) hrow hin (fun k hk => by unfold From at hk; omega)
     exact bodyPost_ret (v := .agg #[.string op, .int .i64 x, .string s, .slice so l.length sc]) (by simp [results, Tryz.results199, go_sem, z0, z1, z2, z3]) rfl ⟨hE.1, Or.inl ⟨_, j, _, hp, rfl, ⟨_, rfl, hE.2.1⟩, hE.2.2, hij⟩⟩
    ·go_wp2
     exact ⟨rfl, hM3.trans hm4, Or.inr ⟨j, bd, hp, hj, p, rfl, q0, q1⟩⟩
   ·have g3' : isName C.l i = false := by simpa using g3
    clear g3
    go_enter Tryz.func199, Tryz.ntmps199
    go_wp2_with fail
    refine (tnext_any C i d _ RA).mono ?_
    rintro e w1 ⟨rfl, hb1⟩
    have hs1 := hb1.size
    simp only [World.size_alloc] at hs1
    have R1 := RA.below hb1
    go_wp2_with fail
    refine (is_new C i d _ R1 [tTrue, tFalse] _ 2 rfl rfl (by decide)).mono ?_
    rintro e w2 ⟨rfl, hb2⟩
    have hs2 := hb2.size
    have R2 := R1.below hb2
    go_wp2_with fail
    refine (isName_any C i d _ R2).mono ?_
    rintro e w3 ⟨rfl, hb3⟩
    have hs3 := hb3.size
    have hM3 : Mv C.b w w3 := (((Mv.of_below hbA).trans (Mv.of_below hb1)).trans (Mv.of_below hb2)).trans (Mv.of_below hb3)
    go_wp2_with fail
    refine (bracketed_any n HT.out C i d _ T (R2.below hb3) hn g1' g2' g3').mono ?_
    rintro e w4 ⟨hm4, h4⟩
    rcases h4 with ⟨es, j, v, hp, rfl, ⟨ex, rfl, hv⟩, R4, hij⟩ | ⟨j, bd, hp, hj, p, rfl, q0, q1⟩
    ·obtain ⟨op, x, s, l, so, sc, ys, rfl, rfl, hrow, hin⟩ := hv.one
     obtain ⟨z0, z1, z2, z3, zf⟩ := blk4 (hm4.row (by omega) (row_keep hb3 (row_keep hb2 (row_keep hb1 HZ.out))))
     go_wp2
     have hE := ret4 (op := op) (x := x) (s := s) R R4 (hM3.trans hm4) hrow hin (fun k hk => by unfold From at hk; omega)
     exact bodyPost_ret (v := .agg #[.string op, .int .i64 x, .string s, .slice so l.length sc]) (by simp [results, Tryz.results199, go_sem, z0, z1, z2, z3]) rfl ⟨hE.1, Or.inl ⟨_, j, _, hp, rfl, ⟨_, rfl, hE.2.1⟩, hE.2.2, hij⟩⟩
    ·go_wp2
     exact ⟨rfl, hM3.trans hm4, Or.inr ⟨j, bd, hp, hj, p, rfl, q0, q1⟩⟩
set_option maxRecDepth 100000 in
set_option maxHeartbeats 1000000 in
theorem choice_any (n : Nat) (hT : ∀ m, m < n → Fits 138 .term m) (C : Rc) (i d : Nat) (w : World) (T : Tkl C.l) (R : Rd C i d w) (hn : C.l.length - i ≤ n) (ht : tx C.l i tIf = true) :
  Calls Tryz.prog 156 #[.pointer (some ⟨C.b, 0, none⟩)] w (Ret C .term i d w (TermV w.heap.size)) := by
 have HT : Hid (∀ m, m < n → Fits 138 .term m) := hT
 clear hT
 have hlt := R.lt
 have hbl := R.blt
 have hi : i + 1 < C.l.length := T.next_tx R.lt ht
 have hbA : Below w.heap.size w (w.alloc zTerm) := (Below.refl _ _).alloc (Nat.le_refl _) _
 have HZ : Hid _ := heap_alloc_new w zTerm
 have RA := R.below hbA
 go_enter Tryz.func156, Tryz.ntmps156
 go_wp2_with fail
 refine (enter_any C i d _ RA hi).mono ?_
 rintro e w1 ⟨hm1, h1⟩
 have hs1 := hm1.size
 simp only [World.size_alloc] at hs1
 have hM1 : Mv C.b w w1 := (Mv.of_below hbA).trans hm1
 rcases h1 with ⟨hd, rfl, R1⟩ | ⟨hd, hj, p, rfl, q0, q1⟩
 ·go_wp2_with fail
  refine (HT.out (n - 1) (by omega) C (i + 1) (d + 1) _ T R1 (by omega)).mono ?_
  rintro e w2 ⟨hm2, h2⟩
  have hs2 := hm2.size
  rcases h2 with ⟨es, j1, v, hp1, rfl, ⟨ex, rfl, hv⟩, R2, hij1⟩ | ⟨j, bd, hp, hj, p, rfl, q0, q1⟩
  ·obtain ⟨op1, x1, s1, l1, so1, sc1, ys1, rfl, rfl, hrow1, hin1⟩ := hv.one
   have hbB : Below w2.heap.size w2 (w2.alloc (.cells #[.string op1, .int .i64 x1, .string s1, .slice so1 l1.length sc1] 105)) := (Below.refl _ _).alloc (Nat.le_refl _) _
   have HX1 : Hid _ := heap_alloc_new w2 (.cells #[.string op1, .int .i64 x1, .string s1, .slice so1 l1.length sc1] 105)
   have HZ1 : Hid _ := row_keep hbB (hm2.row (by omega) (hm1.row (by omega) HZ.out))
   go_wp2_with fail
   refine (expect_any C j1 (d + 1) _ (R2.below hbB) T tThen (by decide)).mono ?_
   rintro e w3 ⟨hm3, h3⟩
   have hs3 := hm3.size
   simp only [World.size_alloc] at hs3
   have hM3 : Mv C.b w w3 := ((hM1.trans hm2).trans (Mv.of_below hbB)).trans hm3
   rcases h3 with ⟨hx1, rfl, R3⟩ | ⟨hx1, hj, p, rfl, q0, q1⟩
   ·go_wp2_with fail
    refine (HT.out (n - 1) (by omega) C (j1 + 1) (d + 1) _ T R3 (by omega)).mono ?_
    rintro e w4 ⟨hm4, h4⟩
    have hs4 := hm4.size
    rcases h4 with ⟨es, j2, v, hp2, rfl, ⟨ex, rfl, hv⟩, R4, hij2⟩ | ⟨j, bd, hp, hj, p, rfl, q0, q1⟩
    ·obtain ⟨op2, x2, s2, l2, so2, sc2, ys2, rfl, rfl, hrow2, hin2⟩ := hv.one
     have hbC : Below w4.heap.size w4 (w4.alloc (.cells #[.string op2, .int .i64 x2, .string s2, .slice so2 l2.length sc2] 105)) := (Below.refl _ _).alloc (Nat.le_refl _) _
     have HX2 : Hid _ := heap_alloc_new w4 (.cells #[.string op2, .int .i64 x2, .string s2, .slice so2 l2.length sc2] 105)
     have HX12 : Hid _ := row_keep hbC (hm4.row (by omega) (hm3.row (by omega) HX1.out))
     have HZ2 : Hid _ := row_keep hbC (hm4.row (by omega) (hm3.row (by omega) HZ1.out))
     go_wp2_with fail
     refine (expect_any C j2 (d + 1) _ (R4.below hbC) T tElse (by decide)).mono ?_
     rintro e w5 ⟨hm5, h5⟩
     have hs5 := hm5.size
     simp only [World.size_alloc] at hs5
     have hM5 : Mv C.b w w5 := ((hM3.trans hm4).trans (Mv.of_below hbC)).trans hm5
     rcases h5 with ⟨hx2, rfl, R5⟩ | ⟨hx2, hj, p, rfl, q0, q1⟩
     ·go_wp2_with fail
      refine (HT.out (n - 1) (by omega) C (j2 + 1) (d + 1) _ T R5 (by omega)).mono ?_
      rintro e w6 ⟨hm6, h6⟩
      have hs6 := hm6.size
      rcases h6 with ⟨es, j3, v, hp3, rfl, ⟨ex, rfl, hv⟩, R6, hij3⟩ | ⟨j, bd, hp, hj, p, rfl, q0, q1⟩
      ·obtain ⟨op3, x3, s3, l3, so3, sc3, ys3, rfl, rfl, hrow3, hin3⟩ := hv.one
       have hbD : Below w6.heap.size w6 (w6.alloc (.cells #[.string op3, .int .i64 x3, .string s3, .slice so3 l3.length sc3] 105)) := (Below.refl _ _).alloc (Nat.le_refl _) _
       have HX3 : Hid _ := heap_alloc_new w6 (.cells #[.string op3, .int .i64 x3, .string s3, .slice so3 l3.length sc3] 105)
       have HX13 : Hid _ := row_keep hbD (hm6.row (by omega) (hm5.row (by omega) HX12.out))
       have HX23 : Hid _ := row_keep hbD (hm6.row (by omega) (hm5.row (by omega) HX2.out))
       have HZ3 : Hid _ := row_keep hbD (hm6.row (by omega) (hm5.row (by omega) HZ2.out))
       go_wp2_with fail
       refine (leave_any C j3 d _ (R6.below hbD)).mono ?_
       rintro e w7 ⟨rfl, R7, hm7⟩
       have hs7 := hm7.size
       simp only [World.size_alloc] at hs7
       obtain ⟨z0, z1, z2, z3, zf⟩ := blk4 (hm7.row (by omega) HZ3.out)
       obtain ⟨a0, a1, a2, a3, _⟩ := blk4 (hm7.row (by omega) HX13.out)
       obtain ⟨b0', b1, b2, b3, _⟩ := blk4 (hm7.row (by omega) HX23.out)
       obtain ⟨c0, c1, c2, c3, _⟩ := blk4 (hm7.row (by omega) HX3.out)
       have hlt7 : w.heap.size < w7.heap.size := by omega
       have hne7 : w.heap.size ≠ w7.heap.size := by omega
       have St1 : Stays (From w1.heap.size) (fun k => w.heap.size < k) w2 w7 := (Stays.below (S' := fun k => w.heap.size < k) hbB (fun k hk => by unfold From at hk; omega)).trans (Stays.mv ((((hm3.trans hm4).trans (Mv.of_below hbC)).trans hm5).trans ((hm6.trans (Mv.of_below hbD)).trans hm7)) (fun k hk => ⟨by omega, hk⟩)) (by simp)
       have St2 : Stays (From w3.heap.size) (fun k => w.heap.size < k) w4 w7 := (Stays.below (S' := fun k => w.heap.size < k) hbC (fun k hk => by unfold From at hk; omega)).trans (Stays.mv (hm5.trans ((hm6.trans (Mv.of_below hbD)).trans hm7)) (fun k hk => ⟨by omega, hk⟩)) (by simp)
       have St3 : Stays (From w5.heap.size) (fun k => w.heap.size < k) w6 w7 := (Stays.below (S' := fun k => w.heap.size < k) hbD (fun k hk => by unfold From at hk; omega)).trans (Stays.mv hm7 (fun k hk => ⟨by omega, hk⟩)) (by simp)
       have hM7 : Mv C.b w w7 := ((hM5.trans hm6).trans (Mv.of_below hbD)).trans hm7
       go_wp2
       have hE := mk4 (op := tkx C.l i) (x := 0) (s := ⟨#[]⟩) R R7 hM7 (.cons op1 x1 s1 l1 _ _ ys1 _ (hrow1.keep St1) (hin1.keep St1) (.cons op2 x2 s2 l2 _ _ ys2 _ (hrow2.keep St2) (hin2.keep St2) (.cons op3 x3 s3 l3 _ _ ys3 _ (hrow3.keep St3) (hin3.keep St3) .nil))) (fun k hk => hk) hlt7 3 rfl (by simp [maxLen]) #[.string op1, .int .i64 x1, .string s1, .slice so1 l1.length sc1, .string op2, .int .i64 x2, .string s2, .slice so2 l2.length sc2, .string op3, .int .i64 x3, .string s3, .slice so3 l3.length sc3] rfl
       exact bodyPost_ret (v := .agg #[.string (tkx C.l i), .int .i64 0, .string ⟨#[]⟩, .slice (some ⟨w7.heap.size, 0, none⟩) 3 3]) (by simp [results, Tryz.results156, go_sem, z0, z1, z2, z3, hlt7]) rfl ⟨hE.1, Or.inl ⟨_, j3, _, Run.ifT ht (Run.down hd (Run.then hp1 (Run.exp hx1 (Run.then hp2 (Run.exp hx2 (Run.then hp3 Run.done)))))), rfl, ⟨_, rfl, hE.2.1⟩, hE.2.2, by omega⟩⟩
      ·go_wp2
       exact ⟨rfl, hM5.trans hm6, Or.inr ⟨j, bd, Run.ifT ht (Run.down hd (Run.then hp1 (Run.exp hx1 (Run.then hp2 (Run.exp hx2 (Run.stop hp)))))), hj, p, rfl, q0, q1⟩⟩
     ·go_wp2
      exact ⟨rfl, hM5, Or.inr ⟨j2, false, Run.ifT ht (Run.down hd (Run.then hp1 (Run.exp hx1 (Run.then hp2 (Run.unexp hx2))))), hj, p, rfl, q0, q1⟩⟩
    ·go_wp2
     exact ⟨rfl, hM3.trans hm4, Or.inr ⟨j, bd, Run.ifT ht (Run.down hd (Run.then hp1 (Run.exp hx1 (Run.stop hp)))), hj, p, rfl, q0, q1⟩⟩
   ·go_wp2
    exact ⟨rfl, hM3, Or.inr ⟨j1, false, Run.ifT ht (Run.down hd (Run.then hp1 (Run.unexp hx1))), hj, p, rfl, q0, q1⟩⟩
  ·go_wp2
   exact ⟨rfl, hM1.trans hm2, Or.inr ⟨j, bd, Run.ifT ht (Run.down hd (Run.stop hp)), hj, p, rfl, q0, q1⟩⟩
 ·subst hd
  go_wp2
  exact ⟨rfl, hM1, Or.inr ⟨i, true, Run.ifT ht (Run.deep rfl), hj, p, rfl, q0, q1⟩⟩

set_option maxRecDepth 100000 in
set_option maxHeartbeats 1000000 in
theorem term_fits (n : Nat) (hT : ∀ m, m < n → Fits 138 .term m) (hO : Fits 157 (.left .or) n) : Fits 138 .term n := by
 intro C i d w T R hn
 have HT : Hid (∀ m, m < n → Fits 138 .term m) := hT
 have HO : Hid (Fits 157 (.left .or) n) := hO
 clear hT hO
 have hlt := R.lt
 have hbl := R.blt
 have hbA : Below w.heap.size w (w.alloc zTerm) := (Below.refl _ _).alloc (Nat.le_refl _) _
 have HZ : Hid _ := heap_alloc_new w zTerm
 have RA := R.below hbA
 by_cases h : txs C.l i [tIf] = true
 ·have ht : tx C.l i tIf = true := by rw [← txs_one]; exact h
  go_enter Tryz.func138, Tryz.ntmps138
  go_wp2_with fail
  refine (is_new C i d _ RA [tIf] _ 1 (by simp) rfl (by decide)).mono ?_
  rintro e w1 ⟨rfl, hb1⟩
  have hs1 := hb1.size
  simp only [World.size_alloc] at hs1
  have hM1 : Mv C.b w w1 := (Mv.of_below hbA).trans (Mv.of_below hb1)
  go_wp2_with fail
  refine (choice_any n HT.out C i d _ T (RA.below hb1) hn ht).mono ?_
  rintro e w2 ⟨hm2, h2⟩
  rcases h2 with ⟨es, j, v, hp, rfl, ⟨ex, rfl, hv⟩, R2, hij⟩ | ⟨j, bd, hp, hj, p, rfl, q0, q1⟩
  ·obtain ⟨op, x, s, l, so, sc, ys, rfl, rfl, hrow, hin⟩ := hv.one
   obtain ⟨z0, z1, z2, z3, zf⟩ := blk4 (hm2.row (by omega) (row_keep hb1 HZ.out))
   go_wp2
   have hE := ret4 (op := op) (x := x) (s := s) R R2 (hM1.trans hm2) hrow hin (fun k hk => by unfold From at hk; omega)
   exact bodyPost_ret (v := .agg #[.string op, .int .i64 x, .string s, .slice so l.length sc]) (by simp [results, Tryz.results138, go_sem, z0, z1, z2, z3]) rfl ⟨hE.1, Or.inl ⟨_, j, _, hp, rfl, ⟨_, rfl, hE.2.1⟩, hE.2.2, hij⟩⟩
  ·go_wp2
   exact ⟨rfl, hM1.trans hm2, Or.inr ⟨j, bd, hp, hj, p, rfl, q0, q1⟩⟩
 ·have h' : txs C.l i [tIf] = false := by simpa using h
  clear h
  have ht : tx C.l i tIf = false := by rw [← txs_one]; exact h'
  go_enter Tryz.func138, Tryz.ntmps138
  go_wp2_with fail
  refine (is_new C i d _ RA [tIf] _ 1 (by simp) rfl (by decide)).mono ?_
  rintro e w1 ⟨rfl, hb1⟩
  have hs1 := hb1.size
  simp only [World.size_alloc] at hs1
  have hM1 : Mv C.b w w1 := (Mv.of_below hbA).trans (Mv.of_below hb1)
  go_wp2_with fail
  refine (HO.out C i d _ T (RA.below hb1) hn).mono ?_
  rintro e w2 ⟨hm2, h2⟩
  have hs2 := hm2.size
  rcases h2 with ⟨es, j, v, hp, rfl, ⟨ex, rfl, hv⟩, R2, hij⟩ | ⟨j, bd, hp, hj, p, rfl, q0, q1⟩
  ·obtain ⟨op, x, s, l, so, sc, ys, rfl, rfl, hrow, hin⟩ := hv.one
   have hbB : Below w2.heap.size w2 (w2.alloc (.cells #[.string op, .int .i64 x, .string s, .slice so l.length sc] 105)) := (Below.refl _ _).alloc (Nat.le_refl _) _
   have HX : Hid _ := heap_alloc_new w2 (.cells #[.string op, .int .i64 x, .string s, .slice so l.length sc] 105)
   have HZ2 : Hid _ := row_keep hbB (hm2.row (by omega) (row_keep hb1 HZ.out))
   have RB := R2.below hbB
   go_wp2_with fail
   refine (is_new C j d _ RB [tArrow, tFby] _ 2 (by simp) rfl (by decide)).mono ?_
   rintro e w3 ⟨rfl, hb3⟩
   have hs3 := hb3.size
   simp only [World.size_alloc] at hs3
   have R3 := RB.below hb3
   have hM3 : Mv C.b w w3 := ((hM1.trans hm2).trans (Mv.of_below hbB)).trans (Mv.of_below hb3)
   have St3 : Stays (From w1.heap.size) (fun k => w.heap.size < k) w2 w3 := (Stays.below (S' := fun k => w.heap.size < k) hbB (fun k hk => by unfold From at hk; omega)).trans (Stays.below hb3 (fun k hk => hk)) (by simp)
   by_cases g : txs C.l j [tArrow, tFby] = true
   ·have hj1 : j + 1 < C.l.length := T.next_txs R2.lt (by decide) g
    go_wp2_with fail
    refine (enter_any C j d _ R3 hj1).mono ?_
    rintro e w4 ⟨hm4, h4⟩
    have hs4 := hm4.size
    rcases h4 with ⟨hd, rfl, R4⟩ | ⟨hd, hj, p, rfl, q0, q1⟩
    ·go_wp2_with fail
     refine (HT.out (n - 1) (by omega) C (j + 1) (d + 1) _ T R4 (by omega)).mono ?_
     rintro e w5 ⟨hm5, h5⟩
     have hs5 := hm5.size
     rcases h5 with ⟨es, j', v, hp', rfl, ⟨ex, rfl, hv'⟩, R5, hij'⟩ | ⟨j', bd, hp', hj', p, rfl, q0, q1⟩
     ·obtain ⟨op', x', s', l', so', sc', ys', rfl, rfl, hrow', hin'⟩ := hv'.one
      have hbC : Below w5.heap.size w5 (w5.alloc (.cells #[.string op', .int .i64 x', .string s', .slice so' l'.length sc'] 105)) := (Below.refl _ _).alloc (Nat.le_refl _) _
      have HX' : Hid _ := heap_alloc_new w5 (.cells #[.string op', .int .i64 x', .string s', .slice so' l'.length sc'] 105)
      have HX5 : Hid _ := row_keep hbC (hm5.row (by omega) (hm4.row (by omega) (row_keep hb3 HX.out)))
      have HZ5 : Hid _ := row_keep hbC (hm5.row (by omega) (hm4.row (by omega) (row_keep hb3 HZ2.out)))
      go_wp2_with fail
      refine (leave_any C j' d _ (R5.below hbC)).mono ?_
      rintro e w6 ⟨rfl, R6, hm6⟩
      have hs6 := hm6.size
      simp only [World.size_alloc] at hs6
      obtain ⟨z0, z1, z2, z3, zf⟩ := blk4 (hm6.row (by omega) HZ5.out)
      obtain ⟨a0, a1, a2, a3, _⟩ := blk4 (hm6.row (by omega) HX5.out)
      obtain ⟨c0, c1, c2, c3, _⟩ := blk4 (hm6.row (by omega) HX'.out)
      have hlt6 : w.heap.size < w6.heap.size := by omega
      have hne6 : w.heap.size ≠ w6.heap.size := by omega
      have St1 : Stays (From w1.heap.size) (fun k => w.heap.size < k) w2 w6 := St3.trans (Stays.mv ((hm4.trans (hm5.trans (Mv.of_below hbC))).trans hm6) (fun k hk => ⟨by omega, hk⟩)) (by omega)
      have St2 : Stays (From w4.heap.size) (fun k => w.heap.size < k) w5 w6 := (Stays.below (S' := fun k => w.heap.size < k) hbC (fun k hk => by unfold From at hk; omega)).trans (Stays.mv hm6 (fun k hk => ⟨by omega, hk⟩)) (by simp)
      have hM6 : Mv C.b w w6 := ((hM3.trans hm4).trans (hm5.trans (Mv.of_below hbC))).trans hm6
      go_wp2
      have hE := mk4 (op := tkx C.l j) (x := 0) (s := ⟨#[]⟩) R R6 hM6 (.cons op x s l _ _ ys _ (hrow.keep St1) (hin.keep St1) (.cons op' x' s' l' _ _ ys' _ (hrow'.keep St2) (hin'.keep St2) .nil)) (fun k hk => hk) hlt6 2 rfl (by simp [maxLen]) #[.string op, .int .i64 x, .string s, .slice so l.length sc, .string op', .int .i64 x', .string s', .slice so' l'.length sc'] rfl
      exact bodyPost_ret (v := .agg #[.string (tkx C.l j), .int .i64 0, .string ⟨#[]⟩, .slice (some ⟨w6.heap.size, 0, none⟩) 2 2]) (by simp [results, Tryz.results138, go_sem, z0, z1, z2, z3, hlt6]) rfl ⟨hE.1, Or.inl ⟨_, j', _, Run.ifF ht (Run.then hp (Run.ifT g (Run.down hd (Run.then hp' Run.done)))), rfl, ⟨_, rfl, hE.2.1⟩, hE.2.2, by omega⟩⟩
     ·go_wp2
      exact ⟨rfl, (hM3.trans hm4).trans hm5, Or.inr ⟨j', bd, Run.ifF ht (Run.then hp (Run.ifT g (Run.down hd (Run.stop hp')))), hj', p, rfl, q0, q1⟩⟩
    ·subst hd
     go_wp2
     exact ⟨rfl, hM3.trans hm4, Or.inr ⟨j, true, Run.ifF ht (Run.then hp (Run.ifT g (Run.deep rfl))), hj, p, rfl, q0, q1⟩⟩
   ·have g' : txs C.l j [tArrow, tFby] = false := by simpa using g
    clear g
    obtain ⟨z0, z1, z2, z3, zf⟩ := blk4 (row_keep hb3 HZ2.out)
    obtain ⟨c0, c1, c2, c3, _⟩ := blk4 (row_keep hb3 HX.out)
    go_wp2
    have hE := ret4 (op := op) (x := x) (s := s) R R3 hM3 (hrow.keep St3) (hin.keep St3) (fun k hk => hk)
    exact bodyPost_ret (v := .agg #[.string op, .int .i64 x, .string s, .slice so l.length sc]) (by simp [results, Tryz.results138, go_sem, z0, z1, z2, z3]) rfl ⟨hE.1, Or.inl ⟨_, j, _, Run.ifF ht (Run.then hp (Run.ifF g' Run.done)), rfl, ⟨_, rfl, hE.2.1⟩, hE.2.2, hij⟩⟩
  ·go_wp2
   exact ⟨rfl, hM1.trans hm2, Or.inr ⟨j, bd, Run.ifF ht (Run.stop hp), hj, p, rfl, q0, q1⟩⟩

theorem all_fit : ∀ n, Fits 138 .term n ∧ Fits 198 .un n ∧ Fits 178 .not n := by
 intro n
 induction n using Nat.strongRecOn with
 | _ n ih =>
  have hT : ∀ m, m < n → Fits 138 .term m := fun m hm => (ih m hm).1
  have ha := atom_fits n hT
  have hu := unary_fits n (fun m hm => (ih m hm).2.1) ha
  have hp := product_fits n hu
  have hs := sum_fits n hp
  have hc := comparison_fits n hs
  have hn := not_fits n (fun m hm => (ih m hm).2.2) hc
  have hd := and_fits n hn
  have ho := or_fits n hd
  exact ⟨term_fits n hT ho, hu, hn⟩
theorem term_any (n : Nat) : Fits 138 .term n := (all_fit n).1
def setL (w : World) (N : Nat) : Nat → List Value → World
 | _, [] => w
 | o, v :: r => setL (w.setCell ⟨N, o, none⟩ v) N (o + 1) r
theorem setL_block {N k : Nat} (h : k ≠ N) : ∀ (r : List Value) (o : Nat) (w : World), (setL w N o r).heap[k]? = w.heap[k]?
 | [], _, _ => rfl
 | v :: r, o, w => by rw [setL, setL_block h r, Below.heap_setCell _ _ _ _ h]
theorem setL_size {N : Nat} : ∀ (r : List Value) (o : Nat) (w : World), (setL w N o r).heap.size = w.heap.size
 | [], _, _ => rfl
 | v :: r, o, w => by rw [setL, setL_size r]; simp [World.setCell]
theorem setL_same {N : Nat} : ∀ (r : List Value) (o : Nat) (w : World), (setL w N o r).os = w.os ∧ (setL w N o r).tape = w.tape ∧ (setL w N o r).output = w.output
 | [], _, _ => ⟨rfl, rfl, rfl⟩
 | v :: r, o, w => by rw [setL]; exact setL_same r (o + 1) _
theorem setL_below {H N : Nat} (h : H ≤ N) (r : List Value) (o : Nat) (w : World) : Below H w (setL w N o r) :=
 ⟨(setL_same r o w).1, (setL_same r o w).2.1, (setL_same r o w).2.2, by rw [setL_size]; exact Nat.le_refl _, fun k hk => setL_block (by omega) r o w⟩
theorem setL_stays {S S' : Nat → Prop} {N : Nat} (hs : ∀ k, S k → k ≠ N ∧ S' k) (r : List Value) (o : Nat) (w : World) : Stays S S' w (setL w N o r) := fun k hk _ => ⟨(hs k hk).2, setL_block (hs k hk).1 r o w⟩
abbrev zVar : Obj := .cells #[.string ⟨#[]⟩, .int .i64 0] 149
theorem tblk2 {w : World} {b : Nat} {x y : Value} {t : TypeId} (h : w.heap[b]? = some (.cells #[x, y] t (0, 0))) : w.cell? ⟨b, 0, none⟩ = some x ∧ w.cell? ⟨b, 1, none⟩ = some y ∧ ∀ k, w.frozen? ⟨b, k, none⟩ = false :=
 ⟨by simp [World.cell?, h], by simp [World.cell?, h], fun k => by simp [World.frozen?, h]⟩
theorem Tryz.infoVar : (Tryz.prog.info? 149).map (fun i => (i.zero, i.size, i.bytes)) = some (some (.agg #[.string ⟨#[]⟩, .int .i64 0]), 2, 24) := by kernel_rfl
theorem varCells_snoc (l : List Ex) (e : Ex) : varCells (l ++ [e]) = varCells l ++ [.string e.op, .int .i64 e.n] := by simp [varCells]

theorem Parse.mkOne {l : List Tk} {i d : Nat} {r : Res} (h : Run l (nameA l i fun j => expA l j tColon fun j => if tx l j tBool then retA [.mk (tkx l i) 1 b0 []] (j + 1) else expA l j tInt fun k => retA [.mk (tkx l i) 2 b0 []] k) r) : Parse l .one i d r := h
set_option maxRecDepth 100000 in
set_option maxHeartbeats 1000000 in
theorem kind_any (C : Rc) (i d : Nat) (w : World) (T : Tkl C.l) (R : Rd C i d w) :
  Calls Tryz.prog 155 #[.pointer (some ⟨C.b, 0, none⟩)] w fun e w' => Mv C.b w w' ∧ ((tx C.l i tBool = true ∧ e = .returned (.int .i64 1) ∧ Rd C (i + 1) d w') ∨ (tx C.l i tBool = false ∧ tx C.l i tInt = true ∧ e = .returned (.int .i64 2) ∧ Rd C (i + 1) d w') ∨ (tx C.l i tBool = false ∧ tx C.l i tInt = false ∧ Threw C i false e w')) := by
 have hbl := R.blt
 by_cases h : txs C.l i [tBool] = true
 ·have hi : i + 1 < C.l.length := T.next_txs R.lt (by decide) h
  have ht : tx C.l i tBool = true := by rw [← txs_one]; exact h
  go_enter Tryz.func155, Tryz.ntmps155
  go_wp2_with fail
  refine (is_new C i d _ R [tBool] _ 1 rfl rfl (by decide)).mono ?_
  rintro e w1 ⟨rfl, hb1⟩
  go_wp2_with fail
  refine (take_any C i d _ (R.below hb1) hi).mono ?_
  rintro e w2 ⟨rfl, R2, hm2⟩
  go_wp2
  go_ret
  exact ⟨(Mv.of_below hb1).trans hm2, Or.inl ⟨ht, rfl, R2⟩⟩
 ·have h' : txs C.l i [tBool] = false := by simpa using h
  clear h
  have ht : tx C.l i tBool = false := by rw [← txs_one]; exact h'
  go_enter Tryz.func155, Tryz.ntmps155
  go_wp2_with fail
  refine (is_new C i d _ R [tBool] _ 1 rfl rfl (by decide)).mono ?_
  rintro e w1 ⟨rfl, hb1⟩
  go_wp2_with fail
  refine (expect_any C i d _ (R.below hb1) T tInt (by decide)).mono ?_
  rintro e w2 ⟨hm2, h2⟩
  rcases h2 with ⟨hx, rfl, R2⟩ | ⟨hx, hj, p, rfl, q0, q1⟩
  ·go_wp2
   go_ret
   exact ⟨(Mv.of_below hb1).trans hm2, Or.inr (Or.inl ⟨ht, hx, rfl, R2⟩)⟩
  ·go_wp2
   exact ⟨rfl, (Mv.of_below hb1).trans hm2, Or.inr (Or.inr ⟨ht, hx, hj, p, rfl, q0, q1⟩)⟩

set_option maxRecDepth 100000 in
set_option maxHeartbeats 1000000 in
theorem oneVar_any (C : Rc) (i d : Nat) (w : World) (T : Tkl C.l) (R : Rd C i d w) :
  Calls Tryz.prog 136 #[.pointer (some ⟨C.b, 0, none⟩)] w fun e w' => Mv C.b w w' ∧ ((∃ name x j, Parse C.l .one i d (.ok [.mk name x b0 []] j) ∧ e = .returned (.agg #[.string name, .int .i64 x]) ∧ Rd C j d w' ∧ i < j) ∨ (∃ j bd, Parse C.l .one i d (.bad j bd) ∧ Threw C j bd e w')) := by
 have hbl := R.blt
 have hbA : Below w.heap.size w (w.alloc zVar) := (Below.refl _ _).alloc (Nat.le_refl _) _
 have HZ : Hid _ := heap_alloc_new w zVar
 have RA := R.below hbA
 go_enter Tryz.func136, Tryz.ntmps136
 go_wp2_with fail
 refine (name_any C i d _ RA T).mono ?_
 rintro e w1 ⟨hm1, h1⟩
 have hM1 : Mv C.b w w1 := (Mv.of_below hbA).trans hm1
 rcases h1 with ⟨h1, rfl, R1⟩ | ⟨h1, hj, p, rfl, q0, q1⟩
 ·go_wp2_with fail
  refine (expect_any C (i + 1) d _ R1 T tColon (by decide)).mono ?_
  rintro e w2 ⟨hm2, h2⟩
  rcases h2 with ⟨h2, rfl, R2⟩ | ⟨h2, hj, p, rfl, q0, q1⟩
  ·go_wp2_with fail
   refine (kind_any C (i + 1 + 1) d _ T R2).mono ?_
   rintro e w3 ⟨hm3, h3⟩
   have hM3 : Mv C.b w w3 := (hM1.trans hm2).trans hm3
   rcases h3 with ⟨h3, rfl, R3⟩ | ⟨h3, h4, rfl, R3⟩ | ⟨h3, h4, hj, p, rfl, q0, q1⟩
   ·obtain ⟨z0, z1, zf⟩ := tblk2 (hm3.row (by omega) (hm2.row (by omega) (hm1.row (by omega) HZ.out)))
    have hB : Below w.heap.size w3 (setL w3 w.heap.size 0 [.string (tkx C.l i), .int .i64 1]) := setL_below (Nat.le_refl _) _ _ _
    go_wp2
    exact bodyPost_ret (v := .agg #[.string (tkx C.l i), .int .i64 1]) (by simp [results, Tryz.results136, go_sem, z0, z1]) rfl ⟨hM3.upon hB, Or.inl ⟨tkx C.l i, 1, i + 1 + 1 + 1, Parse.mkOne (Run.nam h1 (Run.exp h2 (Run.ifT h3 Run.done))), rfl, R.upon R3 hB, by omega⟩⟩
   ·obtain ⟨z0, z1, zf⟩ := tblk2 (hm3.row (by omega) (hm2.row (by omega) (hm1.row (by omega) HZ.out)))
    have hB : Below w.heap.size w3 (setL w3 w.heap.size 0 [.string (tkx C.l i), .int .i64 2]) := setL_below (Nat.le_refl _) _ _ _
    go_wp2
    exact bodyPost_ret (v := .agg #[.string (tkx C.l i), .int .i64 2]) (by simp [results, Tryz.results136, go_sem, z0, z1]) rfl ⟨hM3.upon hB, Or.inl ⟨tkx C.l i, 2, i + 1 + 1 + 1, Parse.mkOne (Run.nam h1 (Run.exp h2 (Run.ifF h3 (Run.exp h4 Run.done)))), rfl, R.upon R3 hB, by omega⟩⟩
   ·go_wp2
    exact ⟨rfl, hM3, Or.inr ⟨i + 1 + 1, false, Parse.mkOne (Run.nam h1 (Run.exp h2 (Run.ifF h3 (Run.unexp h4)))), hj, p, rfl, q0, q1⟩⟩
  ·go_wp2
   exact ⟨rfl, hM1.trans hm2, Or.inr ⟨i + 1, false, Parse.mkOne (Run.nam h1 (Run.unexp h2)), hj, p, rfl, q0, q1⟩⟩
 ·go_wp2
  exact ⟨rfl, hM1, Or.inr ⟨i, false, Parse.mkOne (Run.unnam h1), hj, p, rfl, q0, q1⟩⟩

def varsA (i d : Nat) (k : List Ex → Nat → Act) : Act := .call .one i d fun v j => .call (.vars v) j d k
set_option maxRecDepth 100000 in
set_option maxHeartbeats 1000000 in
theorem vars_any (C : Rc) (i d : Nat) (w : World) (T : Tkl C.l) (R : Rd C i d w) :
  Calls Tryz.prog 112 #[.pointer (some ⟨C.b, 0, none⟩)] w fun e w' => Mv C.b w w' ∧ ((∃ es j v, (∀ k r, Run C.l (k es j) r → Run C.l (varsA i d k) r) ∧ e = .returned v ∧ RowAt w' (From w.heap.size) 2 v es.length (varCells es) ∧ Rd C j d w' ∧ i < j) ∨ (∃ j bd, (∀ k, Run C.l (varsA i d k) (.bad j bd)) ∧ Threw C j bd e w')) := by
 obtain ⟨i0, hi0, hz0, hz1, hz2⟩ := info_parts Tryz.infoVar
 have hlt := R.lt
 have hbl := R.blt
 go_enter Tryz.func112, Tryz.ntmps112
 go_wp2_with fail
 refine (oneVar_any C i d _ T R).mono ?_
 rintro e w2 ⟨hm2, h2⟩
 have hs2 := hm2.size
 rcases h2 with ⟨name, x, j, hp, rfl, R2, hij⟩ | ⟨j, bd, hp, hj, p, rfl, q0, q1⟩
 ·have hbB : Below w2.heap.size w2 (w2.alloc (.cells #[.string name, .int .i64 x] 149)) := (Below.refl _ _).alloc (Nat.le_refl _) _
  have hown : (w2.alloc (.cells #[.string name, .int .i64 x] 149)).ownsRow w.heap.size 149 2 (.slice (some ⟨w2.heap.size, 0, none⟩) 1 1) 1 [.string name, .int .i64 x] := ⟨rfl, Or.inr ⟨w2.heap.size, 1, _, rfl, by omega, heap_alloc_new w2 _, by omega, by simp [maxLen], rfl, rfl⟩⟩
  have HOWN : Hid _ := hown
  clear hown
  have HP : Hid (∀ k r, Run C.l (.call (.vars [.mk name x b0 []]) j d k) r → Run C.l (varsA i d k) r) := fun k r h => Run.then hp h
  go_wp2
  go_loopw [3] (fun v wr => ∃ (es : List Ex) (j : Nat), Hid (wr.ownsRow w.heap.size 149 2 v es.length (varCells es)) ∧ Rd C j d wr ∧ Mv C.b w wr ∧ i < j ∧ es.length ≤ j ∧ Hid (∀ k r, Run C.l (.call (.vars es) j d k) r → Run C.l (varsA i d k) r)) (fun _ wr => C.l.length - posOf wr C.b)
  case atStart => exact ⟨[.mk name x b0 []], j, HOWN, R2.below hbB, hm2.trans (Mv.of_below hbB), hij, by simp; omega, HP⟩
  case round =>
   clear hp HP R2 HOWN hbB
   obtain ⟨es, j, HO, Rr, hmr, hijr, hle, HP⟩ := hrel
   have hjl := Rr.lt
   have hlen := Rr.len
   have hsr := hmr.size
   by_cases h : txs C.l j [tSemi] = true
   ·have hj1 : j + 1 < C.l.length := T.next_txs Rr.lt (by decide) h
    have hc : tx C.l j tSemi = true := by rw [← txs_one]; exact h
    go_wp2_with fail
    refine (is_new C j d _ Rr [tSemi] _ 1 rfl rfl (by decide)).mono ?_
    rintro e w2 ⟨rfl, hb2⟩
    have hs2 := hb2.size
    go_wp2_with fail
    refine (take_any C j d _ (Rr.below hb2) hj1).mono ?_
    rintro e w3 ⟨rfl, R3, hm3⟩
    have hs3 := hm3.size
    go_wp2_with fail
    refine (oneVar_any C (j + 1) d _ T R3).mono ?_
    rintro e w4 ⟨hm4, h4⟩
    have hs4 := hm4.size
    have hmm : Mv C.b wr w4 := ((Mv.of_below hb2).trans hm3).trans hm4
    rcases h4 with ⟨name, x, j', hp', rfl, R4, hij'⟩ | ⟨j', bd, hp', hj', p, rfl, q0, q1⟩
    ·have hown4 := ownsRow_mv HO.out hmm (by omega)
     have hnb := heap_alloc_new w4 (.cells #[.string name, .int .i64 x] 149)
     have HN' : Hid _ := World.news_of_block hnb
     have HO4 : Hid _ := hown4.alloc (.cells #[.string name, .int .i64 x] 149)
     have hn63 : es.length + 1 ≤ maxLen := by unfold maxLen; omega
     have hby : (es.length + 1) * 24 ≤ 140737488355328 := by omega
     have hrw : ∀ k, u3.ownBlock = some k → w.heap.size ≤ k ∧ k < wr.heap.size := fun k hk => ownsRow_block HO.out hk
     have HRW : Hid _ := hrw
     clear hown4 hnb hrw
     go_wp2_with (at_builtin; refine wpList_append_lies _ rfl _ _ _ rfl w.heap.size 149 i0 _ 2 24 Tryz.underlying67 hi0 hz0 hz1 hz2 rfl (by omega) _ es.length (varCells es) rfl HO4.out ⟨w4.heap.size, 0, none⟩ 1 1 [.string name, .int .i64 x] rfl rfl HN'.out (by simp [Value.oneCell']) (by omega) hn63 hby (by simp; omega) (w4.heap.size + 1) (by simp) ?_; intro g cap w5 hown5 hgrow hat hlt5)
     have hB : Below w.heap.size w4 w5 := ((Below.refl _ _).alloc (by omega) _).grown hgrow (by simp; omega) (fun k hk => (HRW.out k hk).1)
     have R5 := R.upon R4 hB
     have e1 := Rr.pos
     have e2 := R5.pos
     have l2 := R4.lt
     refine ⟨⟨es ++ [.mk name x b0 []], j', ?_, R5, (hmr.trans hmm).upon hB, by omega, by simp; omega, fun k r hr => ?_⟩, by omega⟩
     ·rw [List.length_append, varCells_snoc]; exact hown5
     ·exact HP.out k r (by
       cases hr with
       | ok _ _ _ _ e j _ h1 h2 => exact Run.then (Run.ifT hc (Run.then hp' (Run.tail h1))) h2
       | bad _ _ _ _ j b h1 => exact Run.stop (Run.ifT hc (Run.then hp' (Run.tail h1))))
    ·go_wp2
     exact ⟨rfl, hmr.trans hmm, Or.inr ⟨j', bd, fun k => HP.out k _ (Run.stop (Run.ifT hc (Run.stop hp'))), hj', p, rfl, q0, q1⟩⟩
   ·have h' : txs C.l j [tSemi] = false := by simpa using h
    clear h
    have hc : tx C.l j tSemi = false := by rw [← txs_one]; exact h'
    go_wp2_with fail
    refine (is_new C j d _ Rr [tSemi] _ 1 rfl rfl (by decide)).mono ?_
    rintro e w2 ⟨rfl, hb2⟩
    go_wp2
    go_ret
    exact ⟨hmr.trans (Mv.of_below hb2), Or.inl ⟨es, j, _, fun k r hr => HP.out k r (Run.then (Run.ifF hc Run.done) hr), rfl, (RowAt.of_owns HO.out).keep (Stays.below hb2 (fun k hk => hk)), Rr.below hb2, hijr⟩⟩
 ·go_wp2
  exact ⟨rfl, hm2, Or.inr ⟨j, bd, fun k => Run.stop hp, hj, p, rfl, q0, q1⟩⟩
end Go.Proofs.YtgbpccipdcajgaaGreatDoor
