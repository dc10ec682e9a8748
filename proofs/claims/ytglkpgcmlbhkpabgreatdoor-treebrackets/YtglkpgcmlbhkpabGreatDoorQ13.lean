/-
  package tree's READER OF TERMS: arguments, nameOrCall, atom BY THEIR CONTRACTS.
-/
import Derived.Test.YtglkpgcmlbhkpabGreatDoorQ12
import Derived.Deep.AppendLies
namespace Go.Proofs.YtglkpgcmlbhkpabGreatDoor
open Go.RowKit
attribute [local go_sem ↓] Go.wp_at_zero Go.wp_at_succ

theorem Tryz.infoExpr : (Tryz.prog.info? 62).map (fun i => (i.zero, i.size, i.bytes)) = some (some (.agg #[.string ⟨#[]⟩, .int .i64 0, .string ⟨#[]⟩, .slice none 0 0]), 4, 64) := by kernel_rfl
theorem grow_old {base g n cap b : Nat} {u : Value} {wr w4 w5 : World} {o : Obj} (hmm : Mv b wr w4) (hb : b < base) (hgrow : (w4.alloc o).grownBy w5 u.ownBlock) (hat : u.ownBlock = some g ∨ g = w4.heap.size + 1) : Stays (fun k => base ≤ k ∧ u.ownBlock ≠ some k) (fun k => base ≤ k ∧ (Value.slice (some ⟨g, 0, none⟩) n cap).ownBlock ≠ some k) wr w5 := fun k hk hl => by
  have hs := hmm.size
  have h1 := hmm.block k hl (by intro e; injection e with e; have := hk.1; omega)
  have h2 := hgrow.block k (by simp; omega) (fun e => hk.2 e.symm)
  have h3 : (w4.alloc o).heap[k]? = w4.heap[k]? := heap_alloc_old w4 o (by omega)
  refine ⟨⟨hk.1, ?_⟩, h2.trans (h3.trans h1)⟩
  intro e
  simp only [Value.ownBlock, Option.some.injEq] at e
  subst e
  rcases hat with h | h
  · exact hk.2 h
  · omega
theorem grow_new {base H g n cap : Nat} {u : Value} {w4 w5 : World} {o : Obj} (hH : base ≤ H) (hu : ∀ k, u.ownBlock = some k → k < H) (hgrow : (w4.alloc o).grownBy w5 u.ownBlock) (hat : u.ownBlock = some g ∨ g = w4.heap.size + 1) : Stays (From H) (fun k => base ≤ k ∧ (Value.slice (some ⟨g, 0, none⟩) n cap).ownBlock ≠ some k) w4 w5 := fun k hk hl => by
  unfold From at hk
  have h2 := hgrow.block k (by simp; omega) (fun e => by have := hu k e.symm; omega)
  have h3 : (w4.alloc o).heap[k]? = w4.heap[k]? := heap_alloc_old w4 o hl
  refine ⟨⟨by omega, ?_⟩, h2.trans h3⟩
  intro e
  simp only [Value.ownBlock, Option.some.injEq] at e
  subst e
  rcases hat with h | h
  · have := hu _ h; omega
  · omega
/-- A list of terms in memory of its own. -/
def ListV (base : Nat) (w' : World) (es : List Ex) (v : Value) : Prop := ∃ ys, RowAt w' (From base) 4 v es.length ys ∧ ExIn w' (From base) es ys

set_option maxRecDepth 100000 in
set_option maxHeartbeats 1000000 in
theorem arguments_any (n : Nat) (hT : Fits 198 .term n) (C : Rc) (i d : Nat) (w : World) (T : Tkl C.l) (R : Rd C i d w) (hn : C.l.length - i ≤ n) :
    Calls Tryz.prog 265 #[.pointer (some ⟨C.b, 0, none⟩)] w fun e w' => Mv C.b w w' ∧ ((∃ es j v, Parse C.l .args i d (.ok es j) ∧ e = .returned v ∧ ListV w.heap.size w' es v ∧ Rd C j d w' ∧ i ≤ j) ∨ (∃ j bd, Parse C.l .args i d (.bad j bd) ∧ Threw C j bd e w')) := by
  obtain ⟨i0, hi0, hz0, hz1, hz2⟩ := info_parts Tryz.infoExpr
  have HT : Hid (Fits 198 .term n) := hT
  clear hT
  have hlt := R.lt
  have hbl := R.blt
  by_cases h : txs C.l i [tShut] = true
  · have ht : tx C.l i tShut = true := by rw [← txs_one]; exact h
    go_enter Tryz.func265, Tryz.ntmps265
    go_wp2_with fail
    refine (is_new C i d _ R [tShut] _ 1 rfl rfl (by decide)).mono ?_
    rintro e w1 ⟨rfl, hb1⟩
    go_wp2
    go_ret
    exact ⟨Mv.of_below hb1, Or.inl ⟨[], i, _, Run.ifT ht Run.done, rfl, ⟨[], ⟨rfl, by simp [maxLen], none, 0, rfl, fun k x hx => by simp at hx⟩, .nil⟩, R.below hb1, Nat.le_refl _⟩⟩
  · have h' : txs C.l i [tShut] = false := by simpa using h
    clear h
    have ht : tx C.l i tShut = false := by rw [← txs_one]; exact h'
    go_enter Tryz.func265, Tryz.ntmps265
    go_wp2_with fail
    refine (is_new C i d _ R [tShut] _ 1 rfl rfl (by decide)).mono ?_
    rintro e w1 ⟨rfl, hb1⟩
    have hs1 := hb1.size
    go_wp2_with fail
    refine (HT.out C i d _ T (R.below hb1) hn).mono ?_
    rintro e w2 ⟨hm2, h2⟩
    have hs2 := hm2.size
    rcases h2 with ⟨es, j, v, hp, rfl, ⟨ex, rfl, hv⟩, R2, hij⟩ | ⟨j, bd, hp, hj, p, rfl, q0, q1⟩
    · obtain ⟨op, x, s, l, so, sc, ys, rfl, rfl, hrow, hin⟩ := hv.one
      have hbB : Below w2.heap.size w2 (w2.alloc (.cells #[.string op, .int .i64 x, .string s, .slice so l.length sc] 62)) := (Below.refl _ _).alloc (Nat.le_refl _) _
      have hown : (w2.alloc (.cells #[.string op, .int .i64 x, .string s, .slice so l.length sc] 62)).ownsRow w.heap.size 62 4 (.slice (some ⟨w2.heap.size, 0, none⟩) 1 1) 1 [.string op, .int .i64 x, .string s, .slice so l.length sc] := ⟨rfl, Or.inr ⟨w2.heap.size, 1, _, rfl, by omega, heap_alloc_new w2 _, by omega, by simp [maxLen], rfl, rfl⟩⟩
      have St : Stays (From w1.heap.size) (fun k => w.heap.size ≤ k ∧ (Value.slice (some ⟨w2.heap.size, 0, none⟩) 1 1).ownBlock ≠ some k) w2 (w2.alloc (.cells #[.string op, .int .i64 x, .string s, .slice so l.length sc] 62)) := fun k hk hl => ⟨⟨by unfold From at hk; omega, by simp [Value.ownBlock]; omega⟩, hbB.block k hl⟩
      have HOWN : Hid _ := hown
      have HST : Hid _ := St
      clear hown St
      have HP : Hid (∀ r, Parse C.l (.more [.mk op x s l]) j d r → Parse C.l .args i d r) := fun r h => Run.ifF ht (Run.then hp (Run.tail h))
      have hM2 : Mv C.b w (w2.alloc (.cells #[.string op, .int .i64 x, .string s, .slice so l.length sc] 62)) := ((Mv.of_below hb1).trans hm2).trans (Mv.of_below hbB)
      go_wp2
      go_loopw [3] (fun v wr => ∃ (es : List Ex) (cells : List Value) (j : Nat), Hid (wr.ownsRow w.heap.size 62 4 v es.length cells) ∧ ExIn wr (fun k => w.heap.size ≤ k ∧ v.ownBlock ≠ some k) es cells ∧ Rd C j d wr ∧ Mv C.b w wr ∧ i < j ∧ es.length ≤ j ∧ Hid (∀ r, Parse C.l (.more es) j d r → Parse C.l .args i d r)) (fun _ wr => C.l.length - posOf wr C.b)
      case atStart => exact ⟨[.mk op x s l], _, j, HOWN, .cons op x s l _ _ ys _ (hrow.keep HST.out) (hin.keep HST.out) .nil, R2.below hbB, hM2, hij, by simp; omega, HP⟩
      case round =>
        clear hrow hin hv hp HP R2 HOWN HST hbB hM2
        obtain ⟨es, cells, j, HO, hin, Rr, hmr, hijr, hle, HP⟩ := hrel
        have hjl := Rr.lt
        have hlen := Rr.len
        have hsr := hmr.size
        by_cases h : txs C.l j [tComma] = true
        · have hj1 : j + 1 < C.l.length := T.next_txs Rr.lt (by decide) h
          have hc : tx C.l j tComma = true := by rw [← txs_one]; exact h
          go_wp2_with fail
          refine (is_new C j d _ Rr [tComma] _ 1 rfl rfl (by decide)).mono ?_
          rintro e w2 ⟨rfl, hb2⟩
          have hs2 := hb2.size
          go_wp2_with fail
          refine (take_any C j d _ (Rr.below hb2) hj1).mono ?_
          rintro e w3 ⟨rfl, R3, hm3⟩
          have hs3 := hm3.size
          go_wp2_with fail
          refine (HT.out C (j + 1) d _ T R3 (by omega)).mono ?_
          rintro e w4 ⟨hm4, h4⟩
          have hs4 := hm4.size
          have hmm : Mv C.b wr w4 := ((Mv.of_below hb2).trans hm3).trans hm4
          rcases h4 with ⟨es', j', v, hp', rfl, ⟨ex, rfl, hv'⟩, R4, hij'⟩ | ⟨j', bd, hp', hj', p, rfl, q0, q1⟩
          · obtain ⟨op, x, s, l, so, sc, ys, rfl, rfl, hrow', hin'⟩ := hv'.one
            have hown4 := ownsRow_mv HO.out hmm (by omega)
            have hnb := heap_alloc_new w4 (.cells #[.string op, .int .i64 x, .string s, .slice so l.length sc] 62)
            have HN' : Hid _ := World.news_of_block hnb
            have HO4 : Hid _ := hown4.alloc (.cells #[.string op, .int .i64 x, .string s, .slice so l.length sc] 62)
            have hn63 : es.length + 1 ≤ maxLen := by unfold maxLen; omega
            have hby : (es.length + 1) * 64 ≤ 140737488355328 := by omega
            have hrw : ∀ k, u3.ownBlock = some k → w.heap.size ≤ k ∧ k < wr.heap.size := fun k hk => ownsRow_block HO.out hk
            have HRW : Hid _ := hrw
            have hbB : Below w4.heap.size w4 (w4.alloc (.cells #[.string op, .int .i64 x, .string s, .slice so l.length sc] 62)) := (Below.refl _ _).alloc (Nat.le_refl _) _
            clear hown4 hnb hrw
            go_wp2_with (at_builtin; refine wpList_append_lies _ rfl _ _ _ rfl w.heap.size 62 i0 _ 4 64 Tryz.underlying60 hi0 hz0 hz1 hz2 rfl (by omega) _ es.length cells rfl HO4.out ⟨w4.heap.size, 0, none⟩ 1 1 [.string op, .int .i64 x, .string s, .slice so l.length sc] rfl rfl HN'.out (by simp [Value.oneCell']) (by omega) hn63 hby (by simp; omega) (w4.heap.size + 1) (by simp) ?_; intro g cap w5 hown5 hgrow hat hlt5)
            have hB : Below w.heap.size w4 w5 := ((Below.refl _ _).alloc (by omega) _).grown hgrow (by simp; omega) (fun k hk => (HRW.out k hk).1)
            have St0 := grow_old (n := es.length + 1) (cap := cap) hmm hbl hgrow hat
            have St1 := grow_new (base := w.heap.size) (n := es.length + 1) (cap := cap) (H := w3.heap.size) (by omega) (fun k hk => by have := (HRW.out k hk).2; omega) hgrow hat
            have R5 := R.upon R4 hB
            have e1 := Rr.pos
            have e2 := R5.pos
            have l2 := R4.lt
            refine ⟨⟨es ++ [.mk op x s l], cells ++ [.string op, .int .i64 x, .string s, .slice so l.length sc], j', ?_, (hin.keep St0).append (.cons op x s l _ _ ys _ (hrow'.keep St1) (hin'.keep St1) .nil), R5, (hmr.trans hmm).upon hB, by omega, by simp; omega, fun r hr => HP.out _ (Run.ifT hc (Run.then hp' (Run.tail hr)))⟩, by omega⟩
            rw [List.length_append]; exact hown5
          · go_wp2
            exact ⟨rfl, hmr.trans hmm, Or.inr ⟨j', bd, HP.out _ (Run.ifT hc (Run.stop hp')), hj', p, rfl, q0, q1⟩⟩
        · have h' : txs C.l j [tComma] = false := by simpa using h
          clear h
          have hc : tx C.l j tComma = false := by rw [← txs_one]; exact h'
          go_wp2_with fail
          refine (is_new C j d _ Rr [tComma] _ 1 rfl rfl (by decide)).mono ?_
          rintro e w2 ⟨rfl, hb2⟩
          go_wp2
          go_ret
          have St : Stays (fun k => w.heap.size ≤ k ∧ u3.ownBlock ≠ some k) (From w.heap.size) wr w2 := Stays.below hb2 (fun k hk => hk.1)
          exact ⟨hmr.trans (Mv.of_below hb2), Or.inl ⟨es, j, _, HP.out _ (Run.ifF hc Run.done), rfl, ⟨cells, (RowAt.of_owns HO.out).keep (Stays.below hb2 (fun k hk => hk)), hin.keep St⟩, Rr.below hb2, by omega⟩⟩
    · go_wp2
      exact ⟨rfl, (Mv.of_below hb1).trans hm2, Or.inr ⟨j, bd, Run.ifF ht (Run.stop hp), hj, p, rfl, q0, q1⟩⟩

set_option maxRecDepth 100000 in
set_option maxHeartbeats 1000000 in
theorem nameOrCall_any (n : Nat) (hT : ∀ m, m < n → Fits 198 .term m) (C : Rc) (i d : Nat) (w : World) (T : Tkl C.l) (R : Rd C i d w) (hn : C.l.length - i ≤ n) (g1 : isInt C.l i = false) (g2 : txs C.l i [tTrue, tFalse] = false) (g3 : isName C.l i = true) :
    Calls Tryz.prog 263 #[.pointer (some ⟨C.b, 0, none⟩)] w (Ret C .atom i d w (TermV w.heap.size)) := by
  have HT : Hid (∀ m, m < n → Fits 198 .term m) := hT
  clear hT
  have hlt := R.lt
  have hbl := R.blt
  have hi : i + 1 < C.l.length := T.next_name R.lt g3
  have hbA : Below w.heap.size w (w.alloc zTerm) := (Below.refl _ _).alloc (Nat.le_refl _) _
  have HZ : Hid _ := heap_alloc_new w zTerm
  have RA := R.below hbA
  go_enter Tryz.func263, Tryz.ntmps263
  go_wp2_with fail
  refine (take_any C i d _ RA hi).mono ?_
  rintro e w1 ⟨rfl, R1, hm1⟩
  have hs1 := hm1.size
  simp only [World.size_alloc] at hs1
  go_wp2_with fail
  refine (is_new C (i + 1) d _ R1 [tOpen] _ 1 rfl rfl (by decide)).mono ?_
  rintro e w2 ⟨rfl, hb2⟩
  have hs2 := hb2.size
  have R2 := R1.below hb2
  have hM2 : Mv C.b w w2 := ((Mv.of_below hbA).trans hm1).trans (Mv.of_below hb2)
  have HZ2 : Hid _ := row_keep hb2 (hm1.row (by omega) HZ.out)
  by_cases h : txs C.l (i + 1) [tOpen] = true
  · have hi2 : i + 1 + 1 < C.l.length := T.next_txs R1.lt (by decide) h
    have ht : tx C.l (i + 1) tOpen = true := by rw [← txs_one]; exact h
    go_wp2_with fail
    refine (enter_any C (i + 1) d _ R2 hi2).mono ?_
    rintro e w3 ⟨hm3, h3⟩
    have hs3 := hm3.size
    rcases h3 with ⟨hd, rfl, R3⟩ | ⟨hd, hj, p, rfl, q0, q1⟩
    · go_wp2_with fail
      refine (arguments_any (n - 1) (HT.out (n - 1) (by omega)) C (i + 1 + 1) (d + 1) _ T R3 (by omega)).mono ?_
      rintro e w4 ⟨hm4, h4⟩
      have hs4 := hm4.size
      rcases h4 with ⟨es, j, v, hp, rfl, ⟨ys, hrow, hin⟩, R4, hij⟩ | ⟨j, bd, hp, hj, p, rfl, q0, q1⟩
      · obtain ⟨a1, a2, so, sc, rfl, a3⟩ := hrow
        have hrow : RowAt w4 (From w3.heap.size) 4 (.slice so es.length sc) es.length ys := ⟨a1, a2, so, sc, rfl, a3⟩
        clear a1 a3
        go_wp2_with fail
        refine (leave_any C j d _ R4).mono ?_
        rintro e w5 ⟨rfl, R5, hm5⟩
        have hs5 := hm5.size
        go_wp2_with fail
        refine (expect_any C j d _ R5 T tShut (by decide)).mono ?_
        rintro e w6 ⟨hm6, h6⟩
        have hs6 := hm6.size
        have hM6 : Mv C.b w w6 := (((hM2.trans hm3).trans hm4).trans hm5).trans hm6
        rcases h6 with ⟨hx, rfl, R6⟩ | ⟨hx, hj, p, rfl, q0, q1⟩
        · obtain ⟨z0, z1, z2, z3, zf⟩ := blk4 (hm6.row (by omega) (hm5.row (by omega) (hm4.row (by omega) (hm3.row (by omega) HZ2.out))))
          have St : Stays (From w3.heap.size) (fun k => w.heap.size < k) w4 w6 := Stays.mv (hm5.trans hm6) (fun k hk => by unfold From at hk; omega)
          go_wp2
          have hE := ret4 (op := ⟨#[99, 97, 108, 108]⟩) (x := 0) (s := tkx C.l i) R R6 hM6 (hrow.keep St) (hin.keep St) (fun k hk => hk)
          exact bodyPost_ret (v := .agg #[.string ⟨#[99, 97, 108, 108]⟩, .int .i64 0, .string (tkx C.l i), .slice so es.length sc]) (by simp [results, Tryz.results263, go_sem, z0, z1, z2, z3]) rfl ⟨hE.1, Or.inl ⟨_, j + 1, _, Run.ifF g1 (Run.ifF g2 (Run.ifT g3 (Run.ifT ht (Run.down hd (Run.then hp (Run.exp hx Run.done)))))), rfl, ⟨_, rfl, hE.2.1⟩, hE.2.2, by omega⟩⟩
        · go_wp2
          exact ⟨rfl, hM6, Or.inr ⟨j, false, Run.ifF g1 (Run.ifF g2 (Run.ifT g3 (Run.ifT ht (Run.down hd (Run.then hp (Run.unexp hx)))))), hj, p, rfl, q0, q1⟩⟩
      · go_wp2
        exact ⟨rfl, (hM2.trans hm3).trans hm4, Or.inr ⟨j, bd, Run.ifF g1 (Run.ifF g2 (Run.ifT g3 (Run.ifT ht (Run.down hd (Run.stop hp))))), hj, p, rfl, q0, q1⟩⟩
    · subst hd
      go_wp2
      exact ⟨rfl, hM2.trans hm3, Or.inr ⟨i + 1, true, Run.ifF g1 (Run.ifF g2 (Run.ifT g3 (Run.ifT ht (Run.deep rfl)))), hj, p, rfl, q0, q1⟩⟩
  · have h' : txs C.l (i + 1) [tOpen] = false := by simpa using h
    clear h
    have ht : tx C.l (i + 1) tOpen = false := by rw [← txs_one]; exact h'
    obtain ⟨z0, z1, z2, z3, zf⟩ := blk4 HZ2.out
    go_wp2
    have hE := ret4 (l := []) (ys := []) (S := fun k => w.heap.size < k) (so := none) (sc := 0) (op := ⟨#[110, 97, 109, 101]⟩) (x := 0) (s := tkx C.l i) R R2 hM2 ⟨rfl, by simp [maxLen], none, 0, rfl, fun k x hx => by simp at hx⟩ .nil (fun k hk => hk)
    exact bodyPost_ret (v := .agg #[.string ⟨#[110, 97, 109, 101]⟩, .int .i64 0, .string (tkx C.l i), .slice none 0 0]) (by simp [results, Tryz.results263, go_sem, z0, z1, z2, z3]) rfl ⟨hE.1, Or.inl ⟨_, i + 1, _, Run.ifF g1 (Run.ifF g2 (Run.ifT g3 (Run.ifF ht Run.done))), rfl, ⟨_, rfl, hE.2.1⟩, hE.2.2, by omega⟩⟩

set_option maxRecDepth 100000 in
set_option maxHeartbeats 1000000 in
theorem atom_fits (n : Nat) (hT : ∀ m, m < n → Fits 198 .term m) : Fits 262 .atom n := by
  intro C i d w T R hn
  have HT : Hid (∀ m, m < n → Fits 198 .term m) := hT
  clear hT
  have hlt := R.lt
  have hbl := R.blt
  have hfd := fldK
  have hbA : Below w.heap.size w (w.alloc zTerm) := (Below.refl _ _).alloc (Nat.le_refl _) _
  have HZ : Hid _ := heap_alloc_new w zTerm
  have RA := R.below hbA
  by_cases g1 : isInt C.l i = true
  · have hi : i + 1 < C.l.length := T.next_int R.lt g1
    have g1' : ((tkk C.l i).toList == [105, 110, 116]) = true := g1
    obtain ⟨d0, d1, d2⟩ := T.int R.lt g1
    rw [← tkx_lt R.lt] at d0 d1 d2
    have hsz := T.tsz i R.lt
    rw [← tkx_lt R.lt] at hsz
    have hat : Lib.atoiAll (tkx C.l i).data.toList = .ok (valL (tkx C.l i).data.toList : Int) := by
      rcases atoi_digits _ d0 d1 with h | ⟨_, h⟩
      · exact h
      · exfalso
        simp only [intB, Bool.and_eq_true, decide_eq_true_eq] at d2
        omega
    have hdec : decOf (tkx C.l i).toList = (valL (tkx C.l i).data.toList : Int) := by
      rw [toList_data]
      exact decOf_val _ (fun c hc => (dig_mem d1 c hc).1)
    have HAT : Hid _ := hat
    have HDEC : Hid _ := hdec
    clear hat hdec d1 d2
    go_enter Tryz.func262, Tryz.ntmps262
    go_wp2_with fail
    refine (tnext_any C i d _ RA).mono ?_
    rintro e w1 ⟨rfl, hb1⟩
    have hs1 := hb1.size
    simp only [World.size_alloc] at hs1
    go_wp2_with fail
    refine (take_any C i d _ (RA.below hb1) hi).mono ?_
    rintro e w2 ⟨rfl, R2, hm2⟩
    have hs2 := hm2.size
    go_wp2_with fail
    refine (Tryz.strconv_Atoi_ok _ (by omega) _ HAT.out _).mono ?_
    rintro e w3 ⟨rfl, hw3⟩
    have hb3 : Below w2.heap.size w2 w3 := by
      rcases hw3 with rfl | ⟨t1, rfl⟩
      · exact Below.refl _ _
      · exact Lib.bytesWorld_below w2 _ t1
    clear hw3
    have hM3 : Mv C.b w w3 := (((Mv.of_below hbA).trans (Mv.of_below hb1)).trans hm2).trans (Mv.of_below hb3)
    obtain ⟨z0, z1, z2, z3, zf⟩ := blk4 (row_keep hb3 (hm2.row (by omega) (row_keep hb1 HZ.out)))
    go_wp2
    have hE := ret4 (l := []) (ys := []) (S := fun k => w.heap.size < k) (so := none) (sc := 0) (op := ⟨#[105, 110, 116]⟩) (x := (valL (tkx C.l i).data.toList : Int)) (s := ⟨#[]⟩) R (R2.below hb3) hM3 ⟨rfl, by simp [maxLen], none, 0, rfl, fun k x hx => by simp at hx⟩ .nil (fun k hk => hk)
    have hpp : Parse C.l .atom i d (.ok [.mk sInt (decOf (tkx C.l i).toList) b0 []] (i + 1)) := Run.ifT g1 Run.done
    rw [HDEC.out] at hpp
    exact bodyPost_ret (v := .agg #[.string ⟨#[105, 110, 116]⟩, .int .i64 (valL (tkx C.l i).data.toList : Int), .string ⟨#[]⟩, .slice none 0 0]) (by simp [results, Tryz.results262, go_sem, z0, z1, z2, z3]) rfl ⟨hE.1, Or.inl ⟨_, i + 1, _, hpp, rfl, ⟨_, rfl, hE.2.1⟩, hE.2.2, by omega⟩⟩
  · have g1' : isInt C.l i = false := by simpa using g1
    have g1'' : ((tkk C.l i).toList == [105, 110, 116]) = false := g1'
    clear g1
    by_cases g2 : txs C.l i [tTrue, tFalse] = true
    · have hi : i + 1 < C.l.length := T.next_txs R.lt (by decide) g2
      go_enter Tryz.func262, Tryz.ntmps262
      go_wp2_with fail
      refine (tnext_any C i d _ RA).mono ?_
      rintro e w1 ⟨rfl, hb1⟩
      have hs1 := hb1.size
      simp only [World.size_alloc] at hs1
      have R1 := RA.below hb1
      go_wp2_with fail
      refine (is_new C i d _ R1 [tTrue, tFalse] _ 2 rfl rfl (by decide)).mono ?_
      rintro e w2 ⟨rfl, hb2⟩
      have hs2 := hb2.size
      go_wp2_with fail
      refine (take_any C i d _ (R1.below hb2) hi).mono ?_
      rintro e w3 ⟨rfl, R3, hm3⟩
      have hs3 := hm3.size
      have hM3 : Mv C.b w w3 := (((Mv.of_below hbA).trans (Mv.of_below hb1)).trans (Mv.of_below hb2)).trans hm3
      obtain ⟨z0, z1, z2, z3, zf⟩ := blk4 (hm3.row (by omega) (row_keep hb2 (row_keep hb1 HZ.out)))
      go_wp2
      have hE := ret4 (l := []) (ys := []) (S := fun k => w.heap.size < k) (so := none) (sc := 0) (op := tkx C.l i) (x := 0) (s := ⟨#[]⟩) R R3 hM3 ⟨rfl, by simp [maxLen], none, 0, rfl, fun k x hx => by simp at hx⟩ .nil (fun k hk => hk)
      exact bodyPost_ret (v := .agg #[.string (tkx C.l i), .int .i64 0, .string ⟨#[]⟩, .slice none 0 0]) (by simp [results, Tryz.results262, go_sem, z0, z1, z2, z3]) rfl ⟨hE.1, Or.inl ⟨_, i + 1, _, Run.ifF g1' (Run.ifT g2 Run.done), rfl, ⟨_, rfl, hE.2.1⟩, hE.2.2, by omega⟩⟩
    · have g2' : txs C.l i [tTrue, tFalse] = false := by simpa using g2
      clear g2
      by_cases g3 : isName C.l i = true
      · go_enter Tryz.func262, Tryz.ntmps262
        go_wp2_with fail
        refine (tnext_any C i d _ RA).mono ?_
        rintro e w1 ⟨rfl, hb1⟩
        have hs1 := hb1.size
        simp only [World.size_alloc] at hs1
        have R1 := RA.below hb1
        go_wp2_with fail
        refine (is_new C i d _ R1 [tTrue, tFalse] _ 2 rfl rfl (by decide)).mono ?_
        rintro e w2 ⟨rfl, hb2⟩
        have hs2 := hb2.size
        have R2 := R1.below hb2
        go_wp2_with fail
        refine (isName_any C i d _ R2).mono ?_
        rintro e w3 ⟨rfl, hb3⟩
        have hs3 := hb3.size
        have hM3 : Mv C.b w w3 := (((Mv.of_below hbA).trans (Mv.of_below hb1)).trans (Mv.of_below hb2)).trans (Mv.of_below hb3)
        go_wp2_with fail
        refine (nameOrCall_any n HT.out C i d _ T (R2.below hb3) hn g1' g2' g3).mono ?_
        rintro e w4 ⟨hm4, h4⟩
        rcases h4 with ⟨es, j, v, hp, rfl, ⟨ex, rfl, hv⟩, R4, hij⟩ | ⟨j, bd, hp, hj, p, rfl, q0, q1⟩
        · obtain ⟨op, x, s, l, so, sc, ys, rfl, rfl, hrow, hin⟩ := hv.one
          obtain ⟨z0, z1, z2, z3, zf⟩ := blk4 (hm4.row (by omega) (row_keep hb3 (row_keep hb2 (row_keep hb1 HZ.out))))
          go_wp2
          have hE := ret4 (op := op) (x := x) (s := s) R R4 (hM3.trans hm4) hrow hin (fun k hk => by unfold From at hk; omega)
          exact bodyPost_ret (v := .agg #[.string op, .int .i64 x, .string s, .slice so l.length sc]) (by simp [results, Tryz.results262, go_sem, z0, z1, z2, z3]) rfl ⟨hE.1, Or.inl ⟨_, j, _, hp, rfl, ⟨_, rfl, hE.2.1⟩, hE.2.2, hij⟩⟩
        · go_wp2
          exact ⟨rfl, hM3.trans hm4, Or.inr ⟨j, bd, hp, hj, p, rfl, q0, q1⟩⟩
      · have g3' : isName C.l i = false := by simpa using g3
        clear g3
        go_enter Tryz.func262, Tryz.ntmps262
        go_wp2_with fail
        refine (tnext_any C i d _ RA).mono ?_
        rintro e w1 ⟨rfl, hb1⟩
        have hs1 := hb1.size
        simp only [World.size_alloc] at hs1
        have R1 := RA.below hb1
        go_wp2_with fail
        refine (is_new C i d _ R1 [tTrue, tFalse] _ 2 rfl rfl (by decide)).mono ?_
        rintro e w2 ⟨rfl, hb2⟩
        have hs2 := hb2.size
        have R2 := R1.below hb2
        go_wp2_with fail
        refine (isName_any C i d _ R2).mono ?_
        rintro e w3 ⟨rfl, hb3⟩
        have hs3 := hb3.size
        have hM3 : Mv C.b w w3 := (((Mv.of_below hbA).trans (Mv.of_below hb1)).trans (Mv.of_below hb2)).trans (Mv.of_below hb3)
        go_wp2_with fail
        refine (bracketed_any n HT.out C i d _ T (R2.below hb3) hn g1' g2' g3').mono ?_
        rintro e w4 ⟨hm4, h4⟩
        rcases h4 with ⟨es, j, v, hp, rfl, ⟨ex, rfl, hv⟩, R4, hij⟩ | ⟨j, bd, hp, hj, p, rfl, q0, q1⟩
        · obtain ⟨op, x, s, l, so, sc, ys, rfl, rfl, hrow, hin⟩ := hv.one
          obtain ⟨z0, z1, z2, z3, zf⟩ := blk4 (hm4.row (by omega) (row_keep hb3 (row_keep hb2 (row_keep hb1 HZ.out))))
          go_wp2
          have hE := ret4 (op := op) (x := x) (s := s) R R4 (hM3.trans hm4) hrow hin (fun k hk => by unfold From at hk; omega)
          exact bodyPost_ret (v := .agg #[.string op, .int .i64 x, .string s, .slice so l.length sc]) (by simp [results, Tryz.results262, go_sem, z0, z1, z2, z3]) rfl ⟨hE.1, Or.inl ⟨_, j, _, hp, rfl, ⟨_, rfl, hE.2.1⟩, hE.2.2, hij⟩⟩
        · go_wp2
          exact ⟨rfl, hM3.trans hm4, Or.inr ⟨j, bd, hp, hj, p, rfl, q0, q1⟩⟩
end Go.Proofs.YtglkpgcmlbhkpabGreatDoor
