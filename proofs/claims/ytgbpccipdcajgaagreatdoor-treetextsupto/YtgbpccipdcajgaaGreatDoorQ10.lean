/-
  package tree's READER OF TERMS: what the methods' endings have in common; or, and, sum, product, not, comparison BY THEIR CONTRACTS.
-/
import Derived.Test.YtgbpccipdcajgaaGreatDoorQ09
import Derived.Test.YtgbpccipdcajgaaGreatDoorQ02
namespace Go.Proofs.YtgbpccipdcajgaaGreatDoor
open Go.RowKit
attribute [local go_sem ↓] Go.wp_at_zero Go.wp_at_succ
theorem ret4 {C : Rc} {i d j e : Nat} {w w3 : World} {S : Nat → Prop} {op : ByteArray} {x : Int} {s : ByteArray} {l : List Ex} {so : Option Addr} {sc : Nat} {ys : List Value} (R : Rd C i d w) (R3 : Rd C j e w3) (hM : Mv C.b w w3) (hrow : RowAt w3 S 4 (.slice so l.length sc) l.length ys) (hin : ExIn w3 S l ys) (hS : ∀ k, S k → w.heap.size < k) :
  Mv C.b w (set4 w3 w.heap.size (.string op) (.int .i64 x) (.string s) (.slice so l.length sc)) ∧ ExV (set4 w3 w.heap.size (.string op) (.int .i64 x) (.string s) (.slice so l.length sc)) (From w.heap.size) (.mk op x s l) (.agg #[.string op, .int .i64 x, .string s, .slice so l.length sc]) ∧ Rd C j e (set4 w3 w.heap.size (.string op) (.int .i64 x) (.string s) (.slice so l.length sc)) := by
 have hB : Below w.heap.size w3 (set4 w3 w.heap.size (.string op) (.int .i64 x) (.string s) (.slice so l.length sc)) := set4_below (Nat.le_refl _)
 have St : Stays S (From w.heap.size) w3 (set4 w3 w.heap.size (.string op) (.int .i64 x) (.string s) (.slice so l.length sc)) := set4_stays (fun k hk => ⟨by have := hS k hk; omega, by have := hS k hk; unfold From; omega⟩)
 exact ⟨hM.upon hB, .mk (hrow.keep St) (hin.keep St), R.upon R3 hB⟩
theorem mk4 {C : Rc} {i d j e : Nat} {w w3 : World} {S : Nat → Prop} {op : ByteArray} {x : Int} {s : ByteArray} {es : List Ex} {cells : List Value} (R : Rd C i d w) (R3 : Rd C j e w3) (hM : Mv C.b w w3) (hin : ExIn w3 S es cells) (hS : ∀ k, S k → w.heap.size < k) (hs3 : w.heap.size < w3.heap.size) (n : Nat) (hn : es.length = n) (hn' : n ≤ maxLen) (cur : Array Value) (hcur : cur.toList = cells) :
  Mv C.b w ((set4 w3 w.heap.size (.string op) (.int .i64 x) (.string s) (.slice (some ⟨w3.heap.size, 0, none⟩) n n)).alloc (.cells cur 105)) ∧ ExV ((set4 w3 w.heap.size (.string op) (.int .i64 x) (.string s) (.slice (some ⟨w3.heap.size, 0, none⟩) n n)).alloc (.cells cur 105)) (From w.heap.size) (.mk op x s es) (.agg #[.string op, .int .i64 x, .string s, .slice (some ⟨w3.heap.size, 0, none⟩) n n]) ∧ Rd C j e ((set4 w3 w.heap.size (.string op) (.int .i64 x) (.string s) (.slice (some ⟨w3.heap.size, 0, none⟩) n n)).alloc (.cells cur 105)) := by
 subst hn
 have hB : Below w.heap.size w3 ((set4 w3 w.heap.size (.string op) (.int .i64 x) (.string s) (.slice (some ⟨w3.heap.size, 0, none⟩) es.length es.length)).alloc (.cells cur 105)) := (set4_below (Nat.le_refl _)).alloc (by rw [set4_size]; omega) _
 have St : Stays S (From w.heap.size) w3 ((set4 w3 w.heap.size (.string op) (.int .i64 x) (.string s) (.slice (some ⟨w3.heap.size, 0, none⟩) es.length es.length)).alloc (.cells cur 105)) := (set4_stays (S' := From w.heap.size) (fun k hk => ⟨by have := hS k hk; omega, by have := hS k hk; unfold From; omega⟩)).trans (Stays.alloc _ (fun k hk => hk)) (by rw [set4_size]; omega)
 have hnew := heap_alloc_new (set4 w3 w.heap.size (.string op) (.int .i64 x) (.string s) (.slice (some ⟨w3.heap.size, 0, none⟩) es.length es.length)) (.cells cur 105)
 rw [set4_size] at hnew
 exact ⟨hM.upon hB, .mk (RowAt.blk hnew hcur hin.length hn' (by unfold From; omega)) (hin.keep St), R.upon R3 hB⟩
theorem mk4b {C : Rc} {i d j e : Nat} {w w3 : World} {S : Nat → Prop} {op : ByteArray} {x : Int} {s : ByteArray} {es : List Ex} {cells : List Value} (o : Obj) (R : Rd C i d w) (R3 : Rd C j e w3) (hM : Mv C.b w w3) (hin : ExIn w3 S es cells) (hS : ∀ k, S k → w.heap.size < k) (hs3 : w.heap.size < w3.heap.size) (n : Nat) (hn : es.length = n) (hn' : n ≤ maxLen) (cur : Array Value) (hcur : cur.toList = cells) :
  Mv C.b w (((set4 w3 w.heap.size (.string op) (.int .i64 x) (.string s) (.slice (some ⟨w3.heap.size + 1, 0, none⟩) n n)).alloc o).alloc (.cells cur 105)) ∧ ExV (((set4 w3 w.heap.size (.string op) (.int .i64 x) (.string s) (.slice (some ⟨w3.heap.size + 1, 0, none⟩) n n)).alloc o).alloc (.cells cur 105)) (From w.heap.size) (.mk op x s es) (.agg #[.string op, .int .i64 x, .string s, .slice (some ⟨w3.heap.size + 1, 0, none⟩) n n]) ∧ Rd C j e (((set4 w3 w.heap.size (.string op) (.int .i64 x) (.string s) (.slice (some ⟨w3.heap.size + 1, 0, none⟩) n n)).alloc o).alloc (.cells cur 105)) := by
 subst hn
 have hB : Below w.heap.size w3 (((set4 w3 w.heap.size (.string op) (.int .i64 x) (.string s) (.slice (some ⟨w3.heap.size + 1, 0, none⟩) es.length es.length)).alloc o).alloc (.cells cur 105)) := ((set4_below (Nat.le_refl _)).alloc (by rw [set4_size]; omega) _).alloc (by simp [set4_size]; omega) _
 have St : Stays S (From w.heap.size) w3 (((set4 w3 w.heap.size (.string op) (.int .i64 x) (.string s) (.slice (some ⟨w3.heap.size + 1, 0, none⟩) es.length es.length)).alloc o).alloc (.cells cur 105)) := ((set4_stays (S' := From w.heap.size) (fun k hk => ⟨by have := hS k hk; omega, by have := hS k hk; unfold From; omega⟩)).trans (Stays.alloc _ (fun k hk => hk)) (by rw [set4_size]; omega)).trans (Stays.alloc _ (fun k hk => hk)) (by simp [set4_size])
 have hnew := two_new (set4 w3 w.heap.size (.string op) (.int .i64 x) (.string s) (.slice (some ⟨w3.heap.size + 1, 0, none⟩) es.length es.length)) o (.cells cur 105)
 rw [set4_size] at hnew
 exact ⟨hM.upon hB, .mk (RowAt.blk hnew hcur hin.length hn' (by unfold From; omega)) (hin.keep St), R.upon R3 hB⟩
theorem is_new (C : Rc) (i d : Nat) (w : World) (R : Rd C i d w) (xs : List (List UInt8)) (q m : Nat) (hq : w.heap.size = q) (hm : xs.length = m) (hn : m ≤ 1000) :
  Calls Tryz.prog 80 #[.pointer (some ⟨C.b, 0, none⟩), .slice (some ⟨q, 0, none⟩) m m] (w.alloc (.cells (strCells xs) 9)) fun e w' => e = .returned (.bool (txs C.l i xs)) ∧ Below w.heap.size w w' := by
 subst hq
 have hbA : Below w.heap.size w (w.alloc (.cells (strCells xs) 9)) := (Below.refl _ _).alloc (Nat.le_refl _) _
 refine (is_any C i d _ (R.below hbA) w.heap.size m m xs (heap_alloc_new w _) hm hn).mono ?_
 rintro e w' ⟨rfl, hb⟩
 exact ⟨rfl, hbA.trans (hb.mono (by simp))⟩
abbrev zTerm : Obj := .cells #[.string ⟨#[]⟩, .int .i64 0, .string ⟨#[]⟩, .slice none 0 0] 105

set_option maxRecDepth 100000 in
set_option maxHeartbeats 1000000 in
theorem not_fits (n : Nat) (hN : ∀ m, m < n → Fits 178 .not m) (hC : Fits 182 .cmp n) : Fits 178 .not n := by
 intro C i d w T R hn
 have HN : Hid (∀ m, m < n → Fits 178 .not m) := hN
 have HC : Hid (Fits 182 .cmp n) := hC
 clear hN hC
 have hlt := R.lt
 have hbl := R.blt
 have hbA : Below w.heap.size w (w.alloc zTerm) := (Below.refl _ _).alloc (Nat.le_refl _) _
 have HZ : Hid _ := heap_alloc_new w zTerm
 have RA := R.below hbA
 by_cases h : txs C.l i [tNot] = true
 ·have hi : i + 1 < C.l.length := T.next_txs R.lt (by decide) h
  have ht : tx C.l i tNot = true := by rw [← txs_one]; exact h
  go_enter Tryz.func178, Tryz.ntmps178
  go_wp2_with fail
  refine (is_new C i d _ RA [tNot] _ 1 (by simp) rfl (by decide)).mono ?_
  rintro e w1 ⟨rfl, hb1⟩
  have hs1 := hb1.size
  simp only [World.size_alloc] at hs1
  go_wp2_with fail
  refine (prefix_not (n - 1) (HN.out (n - 1) (by omega)) C i d _ T (RA.below hb1) hi (by omega) _).mono ?_
  rintro e w2 ⟨hm2, h2⟩
  rcases h2 with ⟨hd, hj, p, rfl, q0, q1⟩ | ⟨hd, ex, j, v, hp, rfl, hv, R2, hij⟩ | ⟨hd, j, bd, hp, hj, p, rfl, q0, q1⟩
  ·subst hd
   go_wp2
   exact ⟨rfl, ((Mv.of_below hbA).trans (Mv.of_below hb1)).trans hm2, Or.inr ⟨i, true, Run.ifT ht (Run.deep rfl), hj, p, rfl, q0, q1⟩⟩
  ·obtain ⟨op, x, s, l, so, sc, ys, he, rfl, hrow, hin⟩ := hv.one
   injection he with e1 e2 e3 e4
   subst e1 e2 e3 e4
   obtain ⟨z0, z1, z2, z3, zf⟩ := blk4 (hm2.row (by omega) (row_keep hb1 HZ.out))
   go_wp2
   have hE := ret4 (op := ⟨#[110, 111, 116]⟩) (x := 0) (s := b0) R R2 (((Mv.of_below hbA).trans (Mv.of_below hb1)).trans hm2) hrow hin (fun k hk => by unfold From at hk; omega)
   exact bodyPost_ret (v := .agg #[.string ⟨#[110, 111, 116]⟩, .int .i64 0, .string b0, .slice so 1 sc]) (by simp [results, Tryz.results178, go_sem, z0, z1, z2, z3]) rfl ⟨hE.1, Or.inl ⟨_, j, _, Run.ifT ht (Run.down hd (Run.then hp Run.done)), rfl, ⟨_, rfl, hE.2.1⟩, hE.2.2, by omega⟩⟩
  ·go_wp2
   exact ⟨rfl, ((Mv.of_below hbA).trans (Mv.of_below hb1)).trans hm2, Or.inr ⟨j, bd, Run.ifT ht (Run.down hd (Run.stop hp)), hj, p, rfl, q0, q1⟩⟩
 ·have h' : txs C.l i [tNot] = false := by simpa using h
  clear h
  have ht : tx C.l i tNot = false := by rw [← txs_one]; exact h'
  go_enter Tryz.func178, Tryz.ntmps178
  go_wp2_with fail
  refine (is_new C i d _ RA [tNot] _ 1 (by simp) rfl (by decide)).mono ?_
  rintro e w1 ⟨rfl, hb1⟩
  have hs1 := hb1.size
  simp only [World.size_alloc] at hs1
  go_wp2_with fail
  refine (HC.out C i d _ T (RA.below hb1) hn).mono ?_
  rintro e w2 ⟨hm2, h2⟩
  rcases h2 with ⟨es, j, v, hp, rfl, ⟨ex, rfl, hv⟩, R2, hij⟩ | ⟨j, bd, hp, hj, p, rfl, q0, q1⟩
  ·obtain ⟨op, x, s, l, so, sc, ys, rfl, rfl, hrow, hin⟩ := hv.one
   obtain ⟨z0, z1, z2, z3, zf⟩ := blk4 (hm2.row (by omega) (row_keep hb1 HZ.out))
   go_wp2
   have hE := ret4 (op := op) (x := x) (s := s) R R2 (((Mv.of_below hbA).trans (Mv.of_below hb1)).trans hm2) hrow hin (fun k hk => by unfold From at hk; omega)
   exact bodyPost_ret (v := .agg #[.string op, .int .i64 x, .string s, .slice so l.length sc]) (by simp [results, Tryz.results178, go_sem, z0, z1, z2, z3]) rfl ⟨hE.1, Or.inl ⟨_, j, _, Run.ifF ht (Run.tail hp), rfl, ⟨_, rfl, hE.2.1⟩, hE.2.2, hij⟩⟩
  ·go_wp2
   exact ⟨rfl, ((Mv.of_below hbA).trans (Mv.of_below hb1)).trans hm2, Or.inr ⟨j, bd, Run.ifF ht (Run.tail hp), hj, p, rfl, q0, q1⟩⟩

set_option maxRecDepth 100000 in
set_option maxHeartbeats 1000000 in
theorem or_fits (n : Nat) (hK : Fits 168 (Lv.part .or) n) : Fits 157 (.left .or) n := by
 intro C i d w T R hn
 have HK : Hid (Fits 168 (Lv.part .or) n) := hK
 clear hK
 have hbl := R.blt
 have hmf : ∀ (fn : Fn) (first cap : Array Value) (w : World), (Instr.makeFunc fn first cap).run Tryz.prog w = .ok (.func fn first cap) w := fun _ _ _ _ => rfl
 have hbA : Below w.heap.size w ((w.alloc zTerm).alloc (.cells (strCells (Lv.ops .or)) 9)) := ((Below.refl _ _).alloc (Nat.le_refl _) _).alloc (by simp) _
 have HZ : Hid _ := alloc_row (.cells (strCells (Lv.ops .or)) 9) (heap_alloc_new w zTerm)
 have RA := R.below hbA
 go_enter Tryz.func157, Tryz.ntmps157
 go_wp2_with fail
 refine (fromLeft_and n HK.out C i d _ T RA hn (w.heap.size + 1) _ _ (two_new w _ _) (by omega) rfl).mono ?_
 rintro e w2 ⟨hm2, h2⟩
 have hs2 := hm2.size
 simp only [World.size_alloc] at hs2
 rcases h2 with ⟨es, j, v, hp, rfl, ⟨ex, rfl, hv⟩, R2, hij⟩ | ⟨j, bd, hp, hj, p, rfl, q0, q1⟩
 ·obtain ⟨op, x, s, l, so, sc, ys, rfl, rfl, hrow, hin⟩ := hv.one
  obtain ⟨z0, z1, z2, z3, zf⟩ := blk4 (hm2.row (by omega) HZ.out)
  go_wp2
  have hE := ret4 (op := op) (x := x) (s := s) R R2 ((Mv.of_below hbA).trans hm2) hrow hin (fun k hk => by unfold From at hk; simp only [World.size_alloc] at hk; omega)
  exact bodyPost_ret (v := .agg #[.string op, .int .i64 x, .string s, .slice so l.length sc]) (by simp [results, Tryz.results157, go_sem, z0, z1, z2, z3]) rfl ⟨hE.1, Or.inl ⟨_, j, _, hp, rfl, ⟨_, rfl, hE.2.1⟩, hE.2.2, hij⟩⟩
 ·go_wp2
  exact ⟨rfl, (Mv.of_below hbA).trans hm2, Or.inr ⟨j, bd, hp, hj, p, rfl, q0, q1⟩⟩

set_option maxRecDepth 100000 in
set_option maxHeartbeats 1000000 in
theorem and_fits (n : Nat) (hK : Fits 178 (Lv.part .and) n) : Fits 168 (.left .and) n := by
 intro C i d w T R hn
 have HK : Hid (Fits 178 (Lv.part .and) n) := hK
 clear hK
 have hbl := R.blt
 have hmf : ∀ (fn : Fn) (first cap : Array Value) (w : World), (Instr.makeFunc fn first cap).run Tryz.prog w = .ok (.func fn first cap) w := fun _ _ _ _ => rfl
 have hbA : Below w.heap.size w ((w.alloc zTerm).alloc (.cells (strCells (Lv.ops .and)) 9)) := ((Below.refl _ _).alloc (Nat.le_refl _) _).alloc (by simp) _
 have HZ : Hid _ := alloc_row (.cells (strCells (Lv.ops .and)) 9) (heap_alloc_new w zTerm)
 have RA := R.below hbA
 go_enter Tryz.func168, Tryz.ntmps168
 go_wp2_with fail
 refine (fromLeft_not n HK.out C i d _ T RA hn (w.heap.size + 1) _ _ (two_new w _ _) (by omega) rfl).mono ?_
 rintro e w2 ⟨hm2, h2⟩
 have hs2 := hm2.size
 simp only [World.size_alloc] at hs2
 rcases h2 with ⟨es, j, v, hp, rfl, ⟨ex, rfl, hv⟩, R2, hij⟩ | ⟨j, bd, hp, hj, p, rfl, q0, q1⟩
 ·obtain ⟨op, x, s, l, so, sc, ys, rfl, rfl, hrow, hin⟩ := hv.one
  obtain ⟨z0, z1, z2, z3, zf⟩ := blk4 (hm2.row (by omega) HZ.out)
  go_wp2
  have hE := ret4 (op := op) (x := x) (s := s) R R2 ((Mv.of_below hbA).trans hm2) hrow hin (fun k hk => by unfold From at hk; simp only [World.size_alloc] at hk; omega)
  exact bodyPost_ret (v := .agg #[.string op, .int .i64 x, .string s, .slice so l.length sc]) (by simp [results, Tryz.results168, go_sem, z0, z1, z2, z3]) rfl ⟨hE.1, Or.inl ⟨_, j, _, hp, rfl, ⟨_, rfl, hE.2.1⟩, hE.2.2, hij⟩⟩
 ·go_wp2
  exact ⟨rfl, (Mv.of_below hbA).trans hm2, Or.inr ⟨j, bd, hp, hj, p, rfl, q0, q1⟩⟩

set_option maxRecDepth 100000 in
set_option maxHeartbeats 1000000 in
theorem sum_fits (n : Nat) (hK : Fits 195 (Lv.part .sum) n) : Fits 188 (.left .sum) n := by
 intro C i d w T R hn
 have HK : Hid (Fits 195 (Lv.part .sum) n) := hK
 clear hK
 have hbl := R.blt
 have hmf : ∀ (fn : Fn) (first cap : Array Value) (w : World), (Instr.makeFunc fn first cap).run Tryz.prog w = .ok (.func fn first cap) w := fun _ _ _ _ => rfl
 have hbA : Below w.heap.size w ((w.alloc zTerm).alloc (.cells (strCells (Lv.ops .sum)) 9)) := ((Below.refl _ _).alloc (Nat.le_refl _) _).alloc (by simp) _
 have HZ : Hid _ := alloc_row (.cells (strCells (Lv.ops .sum)) 9) (heap_alloc_new w zTerm)
 have RA := R.below hbA
 go_enter Tryz.func188, Tryz.ntmps188
 go_wp2_with fail
 refine (fromLeft_prod n HK.out C i d _ T RA hn (w.heap.size + 1) _ _ (two_new w _ _) (by omega) rfl).mono ?_
 rintro e w2 ⟨hm2, h2⟩
 have hs2 := hm2.size
 simp only [World.size_alloc] at hs2
 rcases h2 with ⟨es, j, v, hp, rfl, ⟨ex, rfl, hv⟩, R2, hij⟩ | ⟨j, bd, hp, hj, p, rfl, q0, q1⟩
 ·obtain ⟨op, x, s, l, so, sc, ys, rfl, rfl, hrow, hin⟩ := hv.one
  obtain ⟨z0, z1, z2, z3, zf⟩ := blk4 (hm2.row (by omega) HZ.out)
  go_wp2
  have hE := ret4 (op := op) (x := x) (s := s) R R2 ((Mv.of_below hbA).trans hm2) hrow hin (fun k hk => by unfold From at hk; simp only [World.size_alloc] at hk; omega)
  exact bodyPost_ret (v := .agg #[.string op, .int .i64 x, .string s, .slice so l.length sc]) (by simp [results, Tryz.results188, go_sem, z0, z1, z2, z3]) rfl ⟨hE.1, Or.inl ⟨_, j, _, hp, rfl, ⟨_, rfl, hE.2.1⟩, hE.2.2, hij⟩⟩
 ·go_wp2
  exact ⟨rfl, (Mv.of_below hbA).trans hm2, Or.inr ⟨j, bd, hp, hj, p, rfl, q0, q1⟩⟩

set_option maxRecDepth 100000 in
set_option maxHeartbeats 1000000 in
theorem product_fits (n : Nat) (hK : Fits 198 (Lv.part .prod) n) : Fits 195 (.left .prod) n := by
 intro C i d w T R hn
 have HK : Hid (Fits 198 (Lv.part .prod) n) := hK
 clear hK
 have hbl := R.blt
 have hmf : ∀ (fn : Fn) (first cap : Array Value) (w : World), (Instr.makeFunc fn first cap).run Tryz.prog w = .ok (.func fn first cap) w := fun _ _ _ _ => rfl
 have hbA : Below w.heap.size w ((w.alloc zTerm).alloc (.cells (strCells (Lv.ops .prod)) 9)) := ((Below.refl _ _).alloc (Nat.le_refl _) _).alloc (by simp) _
 have HZ : Hid _ := alloc_row (.cells (strCells (Lv.ops .prod)) 9) (heap_alloc_new w zTerm)
 have RA := R.below hbA
 go_enter Tryz.func195, Tryz.ntmps195
 go_wp2_with fail
 refine (fromLeft_un n HK.out C i d _ T RA hn (w.heap.size + 1) _ _ (two_new w _ _) (by omega) rfl).mono ?_
 rintro e w2 ⟨hm2, h2⟩
 have hs2 := hm2.size
 simp only [World.size_alloc] at hs2
 rcases h2 with ⟨es, j, v, hp, rfl, ⟨ex, rfl, hv⟩, R2, hij⟩ | ⟨j, bd, hp, hj, p, rfl, q0, q1⟩
 ·obtain ⟨op, x, s, l, so, sc, ys, rfl, rfl, hrow, hin⟩ := hv.one
  obtain ⟨z0, z1, z2, z3, zf⟩ := blk4 (hm2.row (by omega) HZ.out)
  go_wp2
  have hE := ret4 (op := op) (x := x) (s := s) R R2 ((Mv.of_below hbA).trans hm2) hrow hin (fun k hk => by unfold From at hk; simp only [World.size_alloc] at hk; omega)
  exact bodyPost_ret (v := .agg #[.string op, .int .i64 x, .string s, .slice so l.length sc]) (by simp [results, Tryz.results195, go_sem, z0, z1, z2, z3]) rfl ⟨hE.1, Or.inl ⟨_, j, _, hp, rfl, ⟨_, rfl, hE.2.1⟩, hE.2.2, hij⟩⟩
 ·go_wp2
  exact ⟨rfl, (Mv.of_below hbA).trans hm2, Or.inr ⟨j, bd, hp, hj, p, rfl, q0, q1⟩⟩

set_option maxRecDepth 100000 in
set_option maxHeartbeats 1000000 in
theorem comparison_fits (n : Nat) (hS : Fits 188 (.left .sum) n) : Fits 182 .cmp n := by
 intro C i d w T R hn
 have HS : Hid (Fits 188 (.left .sum) n) := hS
 clear hS
 have hlt := R.lt
 have hbl := R.blt
 have hbA : Below w.heap.size w (w.alloc zTerm) := (Below.refl _ _).alloc (Nat.le_refl _) _
 have HZ : Hid _ := heap_alloc_new w zTerm
 have RA := R.below hbA
 go_enter Tryz.func182, Tryz.ntmps182
 go_wp2_with fail
 refine (HS.out C i d _ T RA hn).mono ?_
 rintro e w1 ⟨hm1, h1⟩
 have hs1 := hm1.size
 simp only [World.size_alloc] at hs1
 rcases h1 with ⟨es, j, v, hp, rfl, ⟨ex, rfl, hv⟩, R1, hij⟩ | ⟨j, bd, hp, hj, p, rfl, q0, q1⟩
 ·obtain ⟨op, x, s, l, so, sc, ys, rfl, rfl, hrow, hin⟩ := hv.one
  have HZ1 : Hid _ := alloc_row (.cells #[.string op, .int .i64 x, .string s, .slice so l.length sc] 105) (hm1.row (by omega) HZ.out)
  have HN1 : Hid _ := heap_alloc_new w1 (.cells #[.string op, .int .i64 x, .string s, .slice so l.length sc] 105)
  have hbB : Below w1.heap.size w1 (w1.alloc (.cells #[.string op, .int .i64 x, .string s, .slice so l.length sc] 105)) := (Below.refl _ _).alloc (Nat.le_refl _) _
  have RB := R1.below hbB
  go_wp2_with fail
  refine (is_new C j d _ RB cmps _ 7 (by simp) rfl (by decide)).mono ?_
  rintro e w2 ⟨rfl, hb2⟩
  have hs2 := hb2.size
  simp only [World.size_alloc] at hs2
  have St2 : Stays (From (w.heap.size + 1)) (fun k => w.heap.size < k) w1 w2 := (Stays.below (S' := From (w.heap.size + 1)) hbB (fun k hk => hk)).trans (Stays.below hb2 (fun k hk => by unfold From at hk; omega)) (by simp)
  simp only [World.size_alloc] at hrow hin
  have hM2 : Mv C.b w w2 := (((Mv.of_below hbA).trans hm1).trans (Mv.of_below hbB)).trans (Mv.of_below hb2)
  by_cases h : txs C.l j cmps = true
  ·have hj1 : j + 1 < C.l.length := T.next_txs R1.lt (by decide) h
   go_wp2_with fail
   refine (take_any C j d _ (RB.below hb2) hj1).mono ?_
   rintro e w3 ⟨rfl, R3, hm3⟩
   have hs3 := hm3.size
   go_wp2_with fail
   refine (HS.out C (j + 1) d _ T R3 (by omega)).mono ?_
   rintro e w4 ⟨hm4, h4⟩
   have hs4 := hm4.size
   rcases h4 with ⟨es, j', v, hp', rfl, ⟨ex, rfl, hv'⟩, R4, hij'⟩ | ⟨j', bd, hp', hj', p, rfl, q0, q1⟩
   ·obtain ⟨op', x', s', l', so', sc', ys', rfl, rfl, hrow', hin'⟩ := hv'.one
    obtain ⟨z0, z1, z2, z3, zf⟩ := blk4 (hm4.row (by omega) (hm3.row (by omega) (row_keep hb2 HZ1.out)))
    obtain ⟨c0, c1, c2, c3, _⟩ := blk4 (hm4.row (by omega) (hm3.row (by omega) (row_keep hb2 HN1.out)))
    have hlt4 : w.heap.size < w4.heap.size := by omega
    have hne4 : w.heap.size ≠ w4.heap.size := by omega
    have hlu4 : w1.heap.size < w4.heap.size := by omega
    have hnu4 : w1.heap.size ≠ w4.heap.size := by omega
    go_wp2
    have StA : Stays (From (w.heap.size + 1)) (fun k => w.heap.size < k) w1 w4 := St2.trans (Stays.mv (hm3.trans hm4) (fun k hk => ⟨by omega, hk⟩)) (by omega)
    have StB : Stays (From w3.heap.size) (fun k => w.heap.size < k) w4 w4 := Stays.below (Below.refl _ _) (fun k hk => by unfold From at hk; omega)
    have hE := mk4b (op := tkx C.l j) (x := 0) (s := ⟨#[]⟩) (.cells #[.string op', .int .i64 x', .string s', .slice so' l'.length sc'] 105) R R4 ((hM2.trans hm3).trans hm4) (.cons op x s l _ _ ys _ (hrow.keep StA) (hin.keep StA) (.cons op' x' s' l' _ _ ys' _ (hrow'.keep StB) (hin'.keep StB) .nil)) (fun k hk => hk) hlt4 2 rfl (by simp [maxLen]) #[.string op, .int .i64 x, .string s, .slice so l.length sc, .string op', .int .i64 x', .string s', .slice so' l'.length sc'] rfl
    exact bodyPost_ret (v := .agg #[.string (tkx C.l j), .int .i64 0, .string ⟨#[]⟩, .slice (some ⟨w4.heap.size + 1, 0, none⟩) 2 2]) (by simp [results, Tryz.results182, go_sem, z0, z1, z2, z3, hlt4]) rfl ⟨hE.1, Or.inl ⟨_, j', _, Run.then hp (Run.ifT h (Run.then hp' Run.done)), rfl, ⟨_, rfl, hE.2.1⟩, hE.2.2, by omega⟩⟩
   ·go_wp2
    exact ⟨rfl, (hM2.trans hm3).trans hm4, Or.inr ⟨j', bd, Run.then hp (Run.ifT h (Run.stop hp')), hj', p, rfl, q0, q1⟩⟩
  ·have h' : txs C.l j cmps = false := by simpa using h
   clear h
   obtain ⟨z0, z1, z2, z3, zf⟩ := blk4 (row_keep hb2 HZ1.out)
   obtain ⟨c0, c1, c2, c3, _⟩ := blk4 (row_keep hb2 HN1.out)
   go_wp2
   have hE := ret4 (op := op) (x := x) (s := s) R (RB.below hb2) hM2 (hrow.keep St2) (hin.keep St2) (fun k hk => hk)
   exact bodyPost_ret (v := .agg #[.string op, .int .i64 x, .string s, .slice so l.length sc]) (by simp [results, Tryz.results182, go_sem, z0, z1, z2, z3]) rfl ⟨hE.1, Or.inl ⟨_, j, _, Run.then hp (Run.ifF h' Run.done), rfl, ⟨_, rfl, hE.2.1⟩, hE.2.2, hij⟩⟩
 ·go_wp2
  exact ⟨rfl, (Mv.of_below hbA).trans hm1, Or.inr ⟨j, bd, Run.stop hp, hj, p, rfl, q0, q1⟩⟩
set_option maxRecDepth 100000 in
set_option maxHeartbeats 1000000 in
theorem unary_fits (n : Nat) (hU : ∀ m, m < n → Fits 198 .un m) (hA : Fits 199 .atom n) : Fits 198 .un n := by
 intro C i d w T R hn
 have HU : Hid (∀ m, m < n → Fits 198 .un m) := hU
 have HA : Hid (Fits 199 .atom n) := hA
 clear hU hA
 have hlt := R.lt
 have hbl := R.blt
 have hbA : Below w.heap.size w (w.alloc zTerm) := (Below.refl _ _).alloc (Nat.le_refl _) _
 have HZ : Hid _ := heap_alloc_new w zTerm
 have RA := R.below hbA
 by_cases h : txs C.l i [tMinus] = true
 ·have hi : i + 1 < C.l.length := T.next_txs R.lt (by decide) h
  have ht : tx C.l i tMinus = true := by rw [← txs_one]; exact h
  go_enter Tryz.func198, Tryz.ntmps198
  go_wp2_with fail
  refine (is_new C i d _ RA [tMinus] _ 1 (by simp) rfl (by decide)).mono ?_
  rintro e w1 ⟨rfl, hb1⟩
  have hs1 := hb1.size
  simp only [World.size_alloc] at hs1
  go_wp2_with fail
  refine (prefix_un (n - 1) (HU.out (n - 1) (by omega)) C i d _ T (RA.below hb1) hi (by omega) _).mono ?_
  rintro e w2 ⟨hm2, h2⟩
  rcases h2 with ⟨hd, hj, p, rfl, q0, q1⟩ | ⟨hd, ex, j, v, hp, rfl, hv, R2, hij⟩ | ⟨hd, j, bd, hp, hj, p, rfl, q0, q1⟩
  ·subst hd
   go_wp2
   exact ⟨rfl, ((Mv.of_below hbA).trans (Mv.of_below hb1)).trans hm2, Or.inr ⟨i, true, Run.ifT ht (Run.deep rfl), hj, p, rfl, q0, q1⟩⟩
  ·obtain ⟨op, x, s, l, so, sc, ys, he, rfl, hrow, hin⟩ := hv.one
   injection he with e1 e2 e3 e4
   subst e1 e2 e3 e4
   obtain ⟨z0, z1, z2, z3, zf⟩ := blk4 (hm2.row (by omega) (row_keep hb1 HZ.out))
   go_wp2
   have hE := ret4 (op := ⟨#[110, 101, 103]⟩) (x := 0) (s := b0) R R2 (((Mv.of_below hbA).trans (Mv.of_below hb1)).trans hm2) hrow hin (fun k hk => by unfold From at hk; omega)
   exact bodyPost_ret (v := .agg #[.string ⟨#[110, 101, 103]⟩, .int .i64 0, .string b0, .slice so 1 sc]) (by simp [results, Tryz.results198, go_sem, z0, z1, z2, z3]) rfl ⟨hE.1, Or.inl ⟨_, j, _, Run.ifT ht (Run.down hd (Run.then hp Run.done)), rfl, ⟨_, rfl, hE.2.1⟩, hE.2.2, by omega⟩⟩
  ·go_wp2
   exact ⟨rfl, ((Mv.of_below hbA).trans (Mv.of_below hb1)).trans hm2, Or.inr ⟨j, bd, Run.ifT ht (Run.down hd (Run.stop hp)), hj, p, rfl, q0, q1⟩⟩
 ·have h' : txs C.l i [tMinus] = false := by simpa using h
  clear h
  have ht : tx C.l i tMinus = false := by rw [← txs_one]; exact h'
  by_cases g : txs C.l i [tPre] = true
  ·have hi : i + 1 < C.l.length := T.next_txs R.lt (by decide) g
   have gt : tx C.l i tPre = true := by rw [← txs_one]; exact g
   go_enter Tryz.func198, Tryz.ntmps198
   go_wp2_with fail
   refine (is_new C i d _ RA [tMinus] _ 1 (by simp) rfl (by decide)).mono ?_
   rintro e w0 ⟨rfl, hb0⟩
   have hs0 := hb0.size
   simp only [World.size_alloc] at hs0
   have R0 := RA.below hb0
   go_wp2_with fail
   refine (is_new C i d _ R0 [tPre] _ 1 (by simp) rfl (by decide)).mono ?_
   rintro e w1 ⟨rfl, hb1⟩
   have hs1 := hb1.size
   have hM1 : Mv C.b w w1 := ((Mv.of_below hbA).trans (Mv.of_below hb0)).trans (Mv.of_below hb1)
   go_wp2_with fail
   refine (prefix_un (n - 1) (HU.out (n - 1) (by omega)) C i d _ T (R0.below hb1) hi (by omega) _).mono ?_
   rintro e w2 ⟨hm2, h2⟩
   rcases h2 with ⟨hd, hj, p, rfl, q0, q1⟩ | ⟨hd, ex, j, v, hp, rfl, hv, R2, hij⟩ | ⟨hd, j, bd, hp, hj, p, rfl, q0, q1⟩
   ·subst hd
    go_wp2
    exact ⟨rfl, hM1.trans hm2, Or.inr ⟨i, true, Run.ifF ht (Run.ifT gt (Run.deep rfl)), hj, p, rfl, q0, q1⟩⟩
   ·obtain ⟨op, x, s, l, so, sc, ys, he, rfl, hrow, hin⟩ := hv.one
    injection he with e1 e2 e3 e4
    subst e1 e2 e3 e4
    obtain ⟨z0, z1, z2, z3, zf⟩ := blk4 (hm2.row (by omega) (row_keep hb1 (row_keep hb0 HZ.out)))
    go_wp2
    have hE := ret4 (op := ⟨#[112, 114, 101]⟩) (x := 0) (s := b0) R R2 (hM1.trans hm2) hrow hin (fun k hk => by unfold From at hk; omega)
    exact bodyPost_ret (v := .agg #[.string ⟨#[112, 114, 101]⟩, .int .i64 0, .string b0, .slice so 1 sc]) (by simp [results, Tryz.results198, go_sem, z0, z1, z2, z3]) rfl ⟨hE.1, Or.inl ⟨_, j, _, Run.ifF ht (Run.ifT gt (Run.down hd (Run.then hp Run.done))), rfl, ⟨_, rfl, hE.2.1⟩, hE.2.2, by omega⟩⟩
   ·go_wp2
    exact ⟨rfl, hM1.trans hm2, Or.inr ⟨j, bd, Run.ifF ht (Run.ifT gt (Run.down hd (Run.stop hp))), hj, p, rfl, q0, q1⟩⟩
  ·have g' : txs C.l i [tPre] = false := by simpa using g
   clear g
   have gt : tx C.l i tPre = false := by rw [← txs_one]; exact g'
   go_enter Tryz.func198, Tryz.ntmps198
   go_wp2_with fail
   refine (is_new C i d _ RA [tMinus] _ 1 (by simp) rfl (by decide)).mono ?_
   rintro e w0 ⟨rfl, hb0⟩
   have hs0 := hb0.size
   simp only [World.size_alloc] at hs0
   have R0 := RA.below hb0
   go_wp2_with fail
   refine (is_new C i d _ R0 [tPre] _ 1 (by simp) rfl (by decide)).mono ?_
   rintro e w1 ⟨rfl, hb1⟩
   have hs1 := hb1.size
   have hM1 : Mv C.b w w1 := ((Mv.of_below hbA).trans (Mv.of_below hb0)).trans (Mv.of_below hb1)
   go_wp2_with fail
   refine (HA.out C i d _ T (R0.below hb1) hn).mono ?_
   rintro e w2 ⟨hm2, h2⟩
   rcases h2 with ⟨es, j, v, hp, rfl, ⟨ex, rfl, hv⟩, R2, hij⟩ | ⟨j, bd, hp, hj, p, rfl, q0, q1⟩
   ·obtain ⟨op, x, s, l, so, sc, ys, rfl, rfl, hrow, hin⟩ := hv.one
    obtain ⟨z0, z1, z2, z3, zf⟩ := blk4 (hm2.row (by omega) (row_keep hb1 (row_keep hb0 HZ.out)))
    go_wp2
    have hE := ret4 (op := op) (x := x) (s := s) R R2 (hM1.trans hm2) hrow hin (fun k hk => by unfold From at hk; omega)
    exact bodyPost_ret (v := .agg #[.string op, .int .i64 x, .string s, .slice so l.length sc]) (by simp [results, Tryz.results198, go_sem, z0, z1, z2, z3]) rfl ⟨hE.1, Or.inl ⟨_, j, _, Run.ifF ht (Run.ifF gt (Run.tail hp)), rfl, ⟨_, rfl, hE.2.1⟩, hE.2.2, hij⟩⟩
   ·go_wp2
    exact ⟨rfl, hM1.trans hm2, Or.inr ⟨j, bd, Run.ifF ht (Run.ifF gt (Run.tail hp)), hj, p, rfl, q0, q1⟩⟩

set_option maxRecDepth 100000 in
set_option maxHeartbeats 1000000 in
theorem bracketed_any (n : Nat) (hT : ∀ m, m < n → Fits 138 .term m) (C : Rc) (i d : Nat) (w : World) (T : Tkl C.l) (R : Rd C i d w) (hn : C.l.length - i ≤ n) (g1 : isInt C.l i = false) (g2 : txs C.l i [tTrue, tFalse] = false) (g3 : isName C.l i = false) :
  Calls Tryz.prog 201 #[.pointer (some ⟨C.b, 0, none⟩)] w (Ret C .atom i d w (TermV w.heap.size)) := by
 have HT : Hid (∀ m, m < n → Fits 138 .term m) := hT
 clear hT
 have hlt := R.lt
 have hbl := R.blt
 have hbA : Below w.heap.size w (w.alloc zTerm) := (Below.refl _ _).alloc (Nat.le_refl _) _
 have HZ : Hid _ := heap_alloc_new w zTerm
 have RA := R.below hbA
 by_cases h : txs C.l i [tOpen] = true
 ·have hi : i + 1 < C.l.length := T.next_txs R.lt (by decide) h
  have ht : tx C.l i tOpen = true := by rw [← txs_one]; exact h
  go_enter Tryz.func201, Tryz.ntmps201
  go_wp2_with fail
  refine (is_new C i d _ RA [tOpen] _ 1 (by simp) rfl (by decide)).mono ?_
  rintro e w1 ⟨rfl, hb1⟩
  have hs1 := hb1.size
  simp only [World.size_alloc] at hs1
  have hM1 : Mv C.b w w1 := (Mv.of_below hbA).trans (Mv.of_below hb1)
  go_wp2_with fail
  refine (enter_any C i d _ (RA.below hb1) hi).mono ?_
  rintro e w2 ⟨hm2, h2⟩
  have hs2 := hm2.size
  rcases h2 with ⟨hd, rfl, R2⟩ | ⟨hd, hj, p, rfl, q0, q1⟩
  ·go_wp2_with fail
   refine (HT.out (n - 1) (by omega) C (i + 1) (d + 1) _ T R2 (by omega)).mono ?_
   rintro e w3 ⟨hm3, h3⟩
   have hs3 := hm3.size
   rcases h3 with ⟨es, j, v, hp, rfl, ⟨ex, rfl, hv⟩, R3, hij⟩ | ⟨j, bd, hp, hj, p, rfl, q0, q1⟩
   ·obtain ⟨op, x, s, l, so, sc, ys, rfl, rfl, hrow, hin⟩ := hv.one
    have hbB : Below w3.heap.size w3 (w3.alloc (.cells #[.string op, .int .i64 x, .string s, .slice so l.length sc] 105)) := (Below.refl _ _).alloc (Nat.le_refl _) _
    have HN3 : Hid _ := heap_alloc_new w3 (.cells #[.string op, .int .i64 x, .string s, .slice so l.length sc] 105)
    have HZ3 : Hid _ := row_keep hbB (hm3.row (by omega) (hm2.row (by omega) (row_keep hb1 HZ.out)))
    go_wp2_with fail
    refine (leave_any C j d _ (R3.below hbB)).mono ?_
    rintro e w4 ⟨rfl, R4, hm4⟩
    have hs4 := hm4.size
    simp only [World.size_alloc] at hs4
    go_wp2_with fail
    refine (expect_any C j d _ R4 T tShut (by decide)).mono ?_
    rintro e w5 ⟨hm5, h5⟩
    have hs5 := hm5.size
    have hM5 : Mv C.b w w5 := (((hM1.trans hm2).trans (hm3.trans (Mv.of_below hbB))).trans hm4).trans hm5
    rcases h5 with ⟨hx, rfl, R5⟩ | ⟨hx, hj, p, rfl, q0, q1⟩
    ·obtain ⟨z0, z1, z2, z3, zf⟩ := blk4 (hm5.row (by omega) (hm4.row (by omega) HZ3.out))
     obtain ⟨c0, c1, c2, c3, _⟩ := blk4 (hm5.row (by omega) (hm4.row (by omega) HN3.out))
     have St : Stays (From w2.heap.size) (fun k => w.heap.size < k) w3 w5 := (Stays.below (S' := fun k => w.heap.size < k) hbB (fun k hk => by unfold From at hk; omega)).trans (Stays.mv (hm4.trans hm5) (fun k hk => ⟨by omega, hk⟩)) (by simp)
     go_wp2
     have hE := ret4 (op := op) (x := x) (s := s) R R5 hM5 (hrow.keep St) (hin.keep St) (fun k hk => hk)
     exact bodyPost_ret (v := .agg #[.string op, .int .i64 x, .string s, .slice so l.length sc]) (by simp [results, Tryz.results201, go_sem, z0, z1, z2, z3]) rfl ⟨hE.1, Or.inl ⟨_, j + 1, _, Run.ifF g1 (Run.ifF g2 (Run.ifF g3 (Run.ifT ht (Run.down hd (Run.then hp (Run.exp hx Run.done)))))), rfl, ⟨_, rfl, hE.2.1⟩, hE.2.2, by omega⟩⟩
    ·go_wp2
     exact ⟨rfl, hM5, Or.inr ⟨j, false, Run.ifF g1 (Run.ifF g2 (Run.ifF g3 (Run.ifT ht (Run.down hd (Run.then hp (Run.unexp hx)))))), hj, p, rfl, q0, q1⟩⟩
   ·go_wp2
    exact ⟨rfl, (hM1.trans hm2).trans hm3, Or.inr ⟨j, bd, Run.ifF g1 (Run.ifF g2 (Run.ifF g3 (Run.ifT ht (Run.down hd (Run.stop hp))))), hj, p, rfl, q0, q1⟩⟩
  ·subst hd
   go_wp2
   exact ⟨rfl, hM1.trans hm2, Or.inr ⟨i, true, Run.ifF g1 (Run.ifF g2 (Run.ifF g3 (Run.ifT ht (Run.deep rfl)))), hj, p, rfl, q0, q1⟩⟩
 ·have h' : txs C.l i [tOpen] = false := by simpa using h
  clear h
  have ht : tx C.l i tOpen = false := by rw [← txs_one]; exact h'
  go_enter Tryz.func201, Tryz.ntmps201
  go_wp2_with fail
  refine (is_new C i d _ RA [tOpen] _ 1 (by simp) rfl (by decide)).mono ?_
  rintro e w1 ⟨rfl, hb1⟩
  have R1 := RA.below hb1
  have hT1 := R1.hT
  go_wp2_with fail
  refine (fail_any C i d _ R1 _ false rfl).mono ?_
  rintro e w2 ⟨⟨hj, p, rfl, q0, q1⟩, hb2⟩
  go_wp2
  exact ⟨rfl, ((Mv.of_below hbA).trans (Mv.of_below hb1)).trans (Mv.of_below hb2), Or.inr ⟨i, false, Run.ifF g1 (Run.ifF g2 (Run.ifF g3 (Run.ifF ht (.ret _)))), hj, p, rfl, q0, q1⟩⟩
end Go.Proofs.YtgbpccipdcajgaaGreatDoor
