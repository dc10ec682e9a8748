/-
  package tree's READER OF NODES: ownVars, names BY THEIR CONTRACTS.
-/
import Derived.Test.YtgbpccipdcajgaaGreatDoorQ11
namespace Go.Proofs.YtgbpccipdcajgaaGreatDoor
open Go.RowKit
attribute [local go_sem ↓] Go.wp_at_zero Go.wp_at_succ
set_option maxRecDepth 100000 in
set_option maxHeartbeats 1000000 in
theorem ownVars_any (C : Rc) (i d : Nat) (w : World) (T : Tkl C.l) (R : Rd C i d w) (hvar : tx C.l i tVar = true) :
  Calls Tryz.prog 113 #[.pointer (some ⟨C.b, 0, none⟩)] w fun e w' => Mv C.b w w' ∧ ((∃ es j v, Parse C.l (.owns []) (i + 1) d (.ok es j) ∧ e = .returned v ∧ RowAt w' (From w.heap.size) 2 v es.length (varCells es) ∧ Rd C j d w' ∧ i < j) ∨ (∃ j bd, Parse C.l (.owns []) (i + 1) d (.bad j bd) ∧ Threw C j bd e w')) := by
 obtain ⟨i0, hi0, hz0, hz1, hz2⟩ := info_parts Tryz.infoVar
 have hlt := R.lt
 have hbl := R.blt
 go_enter Tryz.func113, Tryz.ntmps113
 go_wp2_with fail
 refine (expect_any C i d _ R T tVar (by decide)).mono ?_
 rintro e w1 ⟨hm1, h1⟩
 have hs1 := hm1.size
 rcases h1 with ⟨_, rfl, R1⟩ | ⟨hx, _⟩
 ·go_wp2_with fail
  refine (oneVar_any C (i + 1) d _ T R1).mono ?_
  rintro e w2 ⟨hm2, h2⟩
  have hs2 := hm2.size
  rcases h2 with ⟨name, x, j, hp, rfl, R2, hij⟩ | ⟨j, bd, hp, hj, p, rfl, q0, q1⟩
  ·have hbB : Below w2.heap.size w2 (w2.alloc (.cells #[.string name, .int .i64 x] 149)) := (Below.refl _ _).alloc (Nat.le_refl _) _
   have hown : (w2.alloc (.cells #[.string name, .int .i64 x] 149)).ownsRow w.heap.size 149 2 (.slice (some ⟨w2.heap.size, 0, none⟩) 1 1) 1 [.string name, .int .i64 x] := ⟨rfl, Or.inr ⟨w2.heap.size, 1, _, rfl, by omega, heap_alloc_new w2 _, by omega, by simp [maxLen], rfl, rfl⟩⟩
   have HOWN : Hid _ := hown
   clear hown
   go_wp2_with fail
   refine (expect_any C j d _ (R2.below hbB) T tSemi (by decide)).mono ?_
   rintro e w3 ⟨hm3, h3⟩
   have hM3 : Mv C.b w w3 := ((hm1.trans hm2).trans (Mv.of_below hbB)).trans hm3
   rcases h3 with ⟨hx, rfl, R3⟩ | ⟨hx, hj, p, rfl, q0, q1⟩
   ·have HOWN3 : Hid _ := ownsRow_mv HOWN.out hm3 (by omega)
    have HP : Hid (∀ r, Run C.l (if isName C.l (j + 1) then .call (.owns [.mk name x b0 []]) (j + 1) d retA else retA [.mk name x b0 []] (j + 1)) r → Parse C.l (.owns []) (i + 1) d r) := fun r h => Run.then hp (Run.exp hx h)
    go_wp2
    go_loopw [3] (fun v wr => ∃ (es : List Ex) (j : Nat), Hid (wr.ownsRow w.heap.size 149 2 v es.length (varCells es)) ∧ Rd C j d wr ∧ Mv C.b w wr ∧ i < j ∧ es.length ≤ j ∧ Hid (∀ r, Run C.l (if isName C.l j then .call (.owns es) j d retA else retA es j) r → Parse C.l (.owns []) (i + 1) d r)) (fun _ wr => C.l.length - posOf wr C.b)
    case atStart => exact ⟨[.mk name x b0 []], j + 1, HOWN3, R3, hM3, by omega, by simp, HP⟩
    case round =>
     clear hp HP R2 R3 HOWN HOWN3 hbB hm3 hM3 hx
     obtain ⟨es, j, HO, Rr, hmr, hijr, hle, HP⟩ := hrel
     have hjl := Rr.lt
     have hlen := Rr.len
     have hsr := hmr.size
     by_cases h : isName C.l j = true
     ·go_wp2_with fail
      refine (isName_any C j d _ Rr).mono ?_
      rintro e w2 ⟨rfl, hb2⟩
      have hs2 := hb2.size
      go_wp2_with fail
      refine (oneVar_any C j d _ T (Rr.below hb2)).mono ?_
      rintro e w4 ⟨hm4, h4⟩
      have hs4 := hm4.size
      have hmm : Mv C.b wr w4 := (Mv.of_below hb2).trans hm4
      rcases h4 with ⟨name, x, j', hp', rfl, R4, hij'⟩ | ⟨j', bd, hp', hj', p, rfl, q0, q1⟩
      ·have hown4 := ownsRow_mv HO.out hmm (by omega)
       have hnb := heap_alloc_new w4 (.cells #[.string name, .int .i64 x] 149)
       have HN' : Hid _ := World.news_of_block hnb
       have HO4 : Hid _ := hown4.alloc (.cells #[.string name, .int .i64 x] 149)
       have hn63 : es.length + 1 ≤ maxLen := by unfold maxLen; omega
       have hby : (es.length + 1) * 24 ≤ 140737488355328 := by omega
       have hrw : ∀ k, u3.ownBlock = some k → w.heap.size ≤ k ∧ k < wr.heap.size := fun k hk => ownsRow_block HO.out hk
       have HRW : Hid _ := hrw
       clear hown4 hnb hrw
       go_wp2_with (at_builtin; refine wpList_append_lies _ rfl _ _ _ rfl w.heap.size 149 i0 _ 2 24 Tryz.underlying67 hi0 hz0 hz1 hz2 rfl (by omega) _ es.length (varCells es) rfl HO4.out ⟨w4.heap.size, 0, none⟩ 1 1 [.string name, .int .i64 x] rfl rfl HN'.out (by simp [Value.oneCell']) (by omega) hn63 hby (by simp; omega) (w4.heap.size + 1) (by simp) ?_; intro g cap w5 hown5 hgrow hat hlt5)
       have hB : Below w.heap.size w4 w5 := ((Below.refl _ _).alloc (by omega) _).grown hgrow (by simp; omega) (fun k hk => (HRW.out k hk).1)
       have R5 := R.upon R4 hB
       have hM5 := (hmr.trans hmm).upon hB
       have HO5 : Hid _ := hown5
       clear hown5
       refine (expect_any C j' d _ R5 T tSemi (by decide)).mono ?_
       rintro e w6 ⟨hm6, h6⟩
       rcases h6 with ⟨hx, rfl, R6⟩ | ⟨hx, hj, p, rfl, q0, q1⟩
       ·have hown6 := ownsRow_mv HO5.out hm6 hbl
        go_wp2
        have e1 := Rr.pos
        have e2 := R6.pos
        have l2 := R6.lt
        refine ⟨⟨es ++ [.mk name x b0 []], j' + 1, ?_, R6, hM5.trans hm6, by omega, by simp; omega, fun r hr => HP.out r (Run.ifT h (Run.tail (Run.then hp' (Run.exp hx hr))))⟩, by omega⟩
        rw [List.length_append, varCells_snoc]; exact hown6
       ·go_wp2
        exact ⟨rfl, hM5.trans hm6, Or.inr ⟨j', false, HP.out _ (Run.ifT h (Run.tail (Run.then hp' (Run.unexp hx)))), hj, p, rfl, q0, q1⟩⟩
      ·go_wp2
       exact ⟨rfl, hmr.trans hmm, Or.inr ⟨j', bd, HP.out _ (Run.ifT h (Run.tail (Run.stop hp'))), hj', p, rfl, q0, q1⟩⟩
     ·have h' : isName C.l j = false := by simpa using h
      clear h
      go_wp2_with fail
      refine (isName_any C j d _ Rr).mono ?_
      rintro e w2 ⟨rfl, hb2⟩
      go_wp2
      go_ret
      exact ⟨hmr.trans (Mv.of_below hb2), Or.inl ⟨es, j, _, HP.out _ (Run.ifF h' Run.done), rfl, (RowAt.of_owns HO.out).keep (Stays.below hb2 (fun k hk => hk)), Rr.below hb2, hijr⟩⟩
   ·go_wp2
    exact ⟨rfl, hM3, Or.inr ⟨j, false, Run.then hp (Run.unexp hx), hj, p, rfl, q0, q1⟩⟩
  ·go_wp2
   exact ⟨rfl, hm1.trans hm2, Or.inr ⟨j, bd, Run.stop hp, hj, p, rfl, q0, q1⟩⟩
 ·rw [hvar] at hx; cases hx

theorem Tryz.infoStr : (Tryz.prog.info? 9).map (fun i => (i.zero, i.size, i.bytes)) = some (some (.string ⟨#[]⟩), 1, 16) := by kernel_rfl
theorem nameCells_snoc (l : List Ex) (e : Ex) : nameCells (l ++ [e]) = nameCells l ++ [.string e.op] := by simp [nameCells]
def namesA (l : List Tk) (i d : Nat) (k : List Ex → Nat → Act) : Act :=
 if tx l i tOpen then nameA l (i + 1) fun j => expA l j tComma fun k' => nameA l k' fun m => .call (.names [nm l (i + 1), nm l k']) m d fun ns j => expA l j tShut fun j => k ns j
 else nameA l i fun j => k [nm l i] j
set_option maxRecDepth 100000 in
set_option maxHeartbeats 1000000 in
theorem names_any (C : Rc) (i d : Nat) (w : World) (T : Tkl C.l) (R : Rd C i d w) :
  Calls Tryz.prog 137 #[.pointer (some ⟨C.b, 0, none⟩)] w fun e w' => Mv C.b w w' ∧ ((∃ es j v, (∀ k r, Run C.l (k es j) r → Run C.l (namesA C.l i d k) r) ∧ e = .returned v ∧ RowAt w' (From w.heap.size) 1 v es.length (nameCells es) ∧ Rd C j d w' ∧ i < j) ∨ (∃ j bd, (∀ k, Run C.l (namesA C.l i d k) (.bad j bd)) ∧ Threw C j bd e w')) := by
 obtain ⟨i0, hi0, hz0, hz1, hz2⟩ := info_parts Tryz.infoStr
 have hlt := R.lt
 have hbl := R.blt
 by_cases h : txs C.l i [tOpen] = true
 ·have hi : i + 1 < C.l.length := T.next_txs R.lt (by decide) h
  have ht : tx C.l i tOpen = true := by rw [← txs_one]; exact h
  go_enter Tryz.func137, Tryz.ntmps137
  go_wp2_with fail
  refine (is_new C i d _ R [tOpen] _ 1 rfl rfl (by decide)).mono ?_
  rintro e w1 ⟨rfl, hb1⟩
  have hs1 := hb1.size
  go_wp2_with fail
  refine (take_any C i d _ (R.below hb1) hi).mono ?_
  rintro e w2 ⟨rfl, R2, hm2⟩
  have hs2 := hm2.size
  have hM2 : Mv C.b w w2 := (Mv.of_below hb1).trans hm2
  go_wp2_with fail
  refine (name_any C (i + 1) d _ R2 T).mono ?_
  rintro e w3 ⟨hm3, h3⟩
  have hs3 := hm3.size
  rcases h3 with ⟨hn1, rfl, R3⟩ | ⟨hn1, hj, p, rfl, q0, q1⟩
  ·have hbB : Below w3.heap.size w3 (w3.alloc (.cells #[.string (tkx C.l (i + 1))] 9)) := (Below.refl _ _).alloc (Nat.le_refl _) _
   have hown : (w3.alloc (.cells #[.string (tkx C.l (i + 1))] 9)).ownsRow w.heap.size 9 1 (.slice (some ⟨w3.heap.size, 0, none⟩) 1 1) 1 [.string (tkx C.l (i + 1))] := ⟨rfl, Or.inr ⟨w3.heap.size, 1, _, rfl, by omega, heap_alloc_new w3 _, by omega, by simp [maxLen], rfl, rfl⟩⟩
   have HOWN : Hid _ := hown
   clear hown
   go_wp2_with fail
   refine (expect_any C (i + 1 + 1) d _ (R3.below hbB) T tComma (by decide)).mono ?_
   rintro e w4 ⟨hm4, h4⟩
   have hs4 := hm4.size
   simp only [World.size_alloc] at hs4
   have hM4 : Mv C.b w w4 := ((hM2.trans hm3).trans (Mv.of_below hbB)).trans hm4
   rcases h4 with ⟨hx4, rfl, R4⟩ | ⟨hx4, hj, p, rfl, q0, q1⟩
   ·go_wp2_with fail
    refine (name_any C (i + 1 + 1 + 1) d _ R4 T).mono ?_
    rintro e w5 ⟨hm5, h5⟩
    have hs5 := hm5.size
    rcases h5 with ⟨hn5, rfl, R5⟩ | ⟨hn5, hj, p, rfl, q0, q1⟩
    ·have hown5 := ownsRow_mv (ownsRow_mv HOWN.out hm4 hbl) hm5 hbl
     have hnb := heap_alloc_new w5 (.cells #[.string (tkx C.l (i + 1 + 1 + 1))] 9)
     have HN' : Hid _ := World.news_of_block hnb
     have HO5 : Hid _ := hown5.alloc (.cells #[.string (tkx C.l (i + 1 + 1 + 1))] 9)
     clear hown5 hnb
     go_wp2_with (at_builtin; refine wpList_append_lies _ rfl _ _ _ rfl w.heap.size 9 i0 _ 1 16 Tryz.underlying91 hi0 hz0 hz1 hz2 rfl (by omega) _ 1 [.string (tkx C.l (i + 1))] rfl HO5.out ⟨w5.heap.size, 0, none⟩ 1 1 [.string (tkx C.l (i + 1 + 1 + 1))] rfl rfl HN'.out (by simp [Value.oneCell']) (by omega) (by unfold maxLen; omega) (by omega) (by simp; omega) (w5.heap.size + 1) (by simp) ?_; intro g cap w6 hown6 hgrow hat hlt6)
     have hB : Below w.heap.size w5 w6 := ((Below.refl _ _).alloc (by omega) _).grown hgrow (by simp; omega) (fun k hk => (ownsRow_block HOWN.out hk).1)
     have R6 := R.upon R5 hB
     have hM6 := (hM4.trans hm5).upon hB
     have HO6 : Hid _ := hown6
     have HP : Hid (∀ k r, Run C.l (.call (.names [nm C.l (i + 1), nm C.l (i + 1 + 1 + 1)]) (i + 1 + 1 + 1 + 1) d fun ns j => expA C.l j tShut fun j => k ns j) r → Run C.l (namesA C.l i d k) r) := fun k r hr => Run.ifT ht (Run.nam hn1 (Run.exp hx4 (Run.nam hn5 hr)))
     clear hown6 hgrow hat HN' HO5 HOWN
     go_loopw [3] (fun v wr => ∃ (es : List Ex) (j : Nat), Hid (wr.ownsRow w.heap.size 9 1 v es.length (nameCells es)) ∧ Rd C j d wr ∧ Mv C.b w wr ∧ i < j ∧ es.length ≤ j ∧ Hid (∀ k r, Run C.l (.call (.names es) j d fun ns j => expA C.l j tShut fun j => k ns j) r → Run C.l (namesA C.l i d k) r)) (fun _ wr => C.l.length - posOf wr C.b)
     case atStart => exact ⟨[nm C.l (i + 1), nm C.l (i + 1 + 1 + 1)], i + 1 + 1 + 1 + 1, HO6, R6, hM6, by omega, by simp, HP⟩
     case round =>
      clear HP R6 HO6 hM6 hB
      obtain ⟨es, j, HO, Rr, hmr, hijr, hle, HP⟩ := hrel
      have hjl := Rr.lt
      have hlen := Rr.len
      have hsr := hmr.size
      by_cases g : txs C.l j [tComma] = true
      ·have hj1 : j + 1 < C.l.length := T.next_txs Rr.lt (by decide) g
       have hc : tx C.l j tComma = true := by rw [← txs_one]; exact g
       go_wp2_with fail
       refine (is_new C j d _ Rr [tComma] _ 1 rfl rfl (by decide)).mono ?_
       rintro e w2 ⟨rfl, hb2⟩
       have hs2 := hb2.size
       go_wp2_with fail
       refine (take_any C j d _ (Rr.below hb2) hj1).mono ?_
       rintro e w3 ⟨rfl, R3, hm3⟩
       have hs3 := hm3.size
       go_wp2_with fail
       refine (name_any C (j + 1) d _ R3 T).mono ?_
       rintro e w4 ⟨hm4, h4⟩
       have hs4 := hm4.size
       have hmm : Mv C.b wr w4 := ((Mv.of_below hb2).trans hm3).trans hm4
       rcases h4 with ⟨hnm, rfl, R4⟩ | ⟨hnm, hj', p, rfl, q0, q1⟩
       ·have hown4 := ownsRow_mv HO.out hmm hbl
        have hnb := heap_alloc_new w4 (.cells #[.string (tkx C.l (j + 1))] 9)
        have HN' : Hid _ := World.news_of_block hnb
        have HO4 : Hid _ := hown4.alloc (.cells #[.string (tkx C.l (j + 1))] 9)
        have hn63 : es.length + 1 ≤ maxLen := by unfold maxLen; omega
        have hby : (es.length + 1) * 16 ≤ 140737488355328 := by omega
        have hrw : ∀ k, u3.ownBlock = some k → w.heap.size ≤ k ∧ k < wr.heap.size := fun k hk => ownsRow_block HO.out hk
        have HRW : Hid _ := hrw
        clear hown4 hnb hrw
        go_wp2_with (at_builtin; refine wpList_append_lies _ rfl _ _ _ rfl w.heap.size 9 i0 _ 1 16 Tryz.underlying91 hi0 hz0 hz1 hz2 rfl (by omega) _ es.length (nameCells es) rfl HO4.out ⟨w4.heap.size, 0, none⟩ 1 1 [.string (tkx C.l (j + 1))] rfl rfl HN'.out (by simp [Value.oneCell']) (by omega) hn63 hby (by simp; omega) (w4.heap.size + 1) (by simp) ?_; intro g cap w5 hown5 hgrow hat hlt5)
        have hB : Below w.heap.size w4 w5 := ((Below.refl _ _).alloc (by omega) _).grown hgrow (by simp; omega) (fun k hk => (HRW.out k hk).1)
        have R5 := R.upon R4 hB
        have e1 := Rr.pos
        have e2 := R5.pos
        have l2 := R4.lt
        refine ⟨⟨es ++ [nm C.l (j + 1)], j + 1 + 1, ?_, R5, (hmr.trans hmm).upon hB, by omega, by simp; omega, fun k r hr => ?_⟩, by omega⟩
        ·rw [List.length_append, nameCells_snoc]; exact hown5
        ·exact HP.out k r (by
          cases hr with
          | ok _ _ _ _ e j _ h1 h2 => exact Run.then (Run.ifT hc (Run.nam hnm (Run.tail h1))) h2
          | bad _ _ _ _ j b h1 => exact Run.stop (Run.ifT hc (Run.nam hnm (Run.tail h1))))
       ·go_wp2
        exact ⟨rfl, hmr.trans hmm, Or.inr ⟨j + 1, false, fun k => HP.out k _ (Run.stop (Run.ifT hc (Run.unnam hnm))), hj', p, rfl, q0, q1⟩⟩
      ·have g' : txs C.l j [tComma] = false := by simpa using g
       clear g
       have hc : tx C.l j tComma = false := by rw [← txs_one]; exact g'
       go_wp2_with fail
       refine (is_new C j d _ Rr [tComma] _ 1 rfl rfl (by decide)).mono ?_
       rintro e w2 ⟨rfl, hb2⟩
       go_wp2_with fail
       refine (expect_any C j d _ (Rr.below hb2) T tShut (by decide)).mono ?_
       rintro e w3 ⟨hm3, h3⟩
       have hM3 : Mv C.b w w3 := (hmr.trans (Mv.of_below hb2)).trans hm3
       rcases h3 with ⟨hx, rfl, R3⟩ | ⟨hx, hj, p, rfl, q0, q1⟩
       ·go_wp2
        go_ret
        exact ⟨hM3, Or.inl ⟨es, j + 1, _, fun k r hr => HP.out k r (Run.then (Run.ifF hc Run.done) (Run.exp hx hr)), rfl, (RowAt.of_owns HO.out).keep ((Stays.below (S' := From w.heap.size) hb2 (fun k hk => hk)).trans (Stays.mv hm3 (fun k hk => ⟨by unfold From at hk; omega, hk⟩)) hb2.size), R3, by omega⟩⟩
       ·go_wp2
        exact ⟨rfl, hM3, Or.inr ⟨j, false, fun k => HP.out k _ (Run.then (Run.ifF hc Run.done) (Run.unexp hx)), hj, p, rfl, q0, q1⟩⟩
    ·go_wp2
     exact ⟨rfl, hM4.trans hm5, Or.inr ⟨i + 1 + 1 + 1, false, fun k => Run.ifT ht (Run.nam hn1 (Run.exp hx4 (Run.unnam hn5))), hj, p, rfl, q0, q1⟩⟩
   ·go_wp2
    exact ⟨rfl, hM4, Or.inr ⟨i + 1 + 1, false, fun k => Run.ifT ht (Run.nam hn1 (Run.unexp hx4)), hj, p, rfl, q0, q1⟩⟩
  ·go_wp2
   exact ⟨rfl, hM2.trans hm3, Or.inr ⟨i + 1, false, fun k => Run.ifT ht (Run.unnam hn1), hj, p, rfl, q0, q1⟩⟩
 ·have h' : txs C.l i [tOpen] = false := by simpa using h
  clear h
  have ht : tx C.l i tOpen = false := by rw [← txs_one]; exact h'
  go_enter Tryz.func137, Tryz.ntmps137
  go_wp2_with fail
  refine (is_new C i d _ R [tOpen] _ 1 rfl rfl (by decide)).mono ?_
  rintro e w1 ⟨rfl, hb1⟩
  have hs1 := hb1.size
  go_wp2_with fail
  refine (name_any C i d _ (R.below hb1) T).mono ?_
  rintro e w2 ⟨hm2, h2⟩
  have hs2 := hm2.size
  have hM2 : Mv C.b w w2 := (Mv.of_below hb1).trans hm2
  rcases h2 with ⟨hn1, rfl, R2⟩ | ⟨hn1, hj, p, rfl, q0, q1⟩
  ·have hbB : Below w2.heap.size w2 (w2.alloc (.cells #[.string (tkx C.l i)] 9)) := (Below.refl _ _).alloc (Nat.le_refl _) _
   go_wp2
   go_ret
   exact ⟨hM2.trans (Mv.of_below hbB), Or.inl ⟨[nm C.l i], i + 1, _, fun k r hr => Run.ifF ht (Run.nam hn1 hr), rfl, RowAt.blk (heap_alloc_new w2 _) rfl rfl (by simp [maxLen]) (by unfold From; omega), R2.below hbB, by omega⟩⟩
  ·go_wp2
   exact ⟨rfl, hM2, Or.inr ⟨i, false, fun k => Run.ifF ht (Run.unnam hn1), hj, p, rfl, q0, q1⟩⟩
abbrev zEq : Obj := .cells #[.string ⟨#[]⟩, .slice none 0 0, .string ⟨#[]⟩, .int .i64 0, .string ⟨#[]⟩, .slice none 0 0] 107
theorem blk6 {w : World} {b : Nat} {x0 x1 x2 x3 x4 x5 : Value} {t : TypeId} (h : w.heap[b]? = some (.cells #[x0, x1, x2, x3, x4, x5] t (0, 0))) : w.cell? ⟨b, 0, none⟩ = some x0 ∧ w.cell? ⟨b, 1, none⟩ = some x1 ∧ w.cell? ⟨b, 2, none⟩ = some x2 ∧ w.cell? ⟨b, 3, none⟩ = some x3 ∧ w.cell? ⟨b, 4, none⟩ = some x4 ∧ w.cell? ⟨b, 5, none⟩ = some x5 ∧ ∀ k, w.frozen? ⟨b, k, none⟩ = false :=
 ⟨by simp [World.cell?, h], by simp [World.cell?, h], by simp [World.cell?, h], by simp [World.cell?, h], by simp [World.cell?, h], by simp [World.cell?, h], fun k => by simp [World.frozen?, h]⟩
def EqV (base : Nat) (w' : World) (es : List Ex) (v : Value) : Prop := ∃ xs, v = .agg xs ∧ es.length = 1 ∧ EqIn w' (From base) es xs.toList
theorem RowAt.none {w : World} {S : Nat → Prop} {size : Nat} : RowAt w S size (.slice .none 0 0) 0 [] := ⟨by simp, by simp [maxLen], .none, 0, rfl, fun k x hx => by simp at hx⟩

set_option maxRecDepth 100000 in
set_option maxHeartbeats 1000000 in
theorem equation_any (C : Rc) (i d : Nat) (w : World) (T : Tkl C.l) (R : Rd C i d w) :
  Calls Tryz.prog 114 #[.pointer (some ⟨C.b, 0, none⟩)] w (Ret C .eq i d w (EqV w.heap.size)) := by
 have hlt := R.lt
 have hbl := R.blt
 have hbA : Below w.heap.size w ((w.alloc zEq).alloc zEq) := ((Below.refl _ _).alloc (Nat.le_refl _) _).alloc (by simp) _
 have HZ : Hid _ := alloc_row zEq (heap_alloc_new w zEq)
 have HQ : Hid _ := two_new w zEq zEq
 have RA := R.below hbA
 by_cases h : txs C.l i [tAssert, tCheck] = true
 ·have hi : i + 1 < C.l.length := T.next_txs R.lt (by decide) h
  go_enter Tryz.func114, Tryz.ntmps114
  go_wp2_with fail
  refine (is_new C i d _ RA [tAssert, tCheck] _ 2 (by simp) rfl (by decide)).mono ?_
  rintro e w1 ⟨rfl, hb1⟩
  have hs1 := hb1.size
  simp only [World.size_alloc] at hs1
  go_wp2_with fail
  refine (take_any C i d _ (RA.below hb1) hi).mono ?_
  rintro e w2 ⟨rfl, R2, hm2⟩
  have hs2 := hm2.size
  have hM2 : Mv C.b w w2 := ((Mv.of_below hbA).trans (Mv.of_below hb1)).trans hm2
  have hq2 := hm2.row (k := w.heap.size + 1) (by omega) (row_keep hb1 HQ.out)
  have hz2 := hm2.row (k := w.heap.size) (by omega) (row_keep hb1 HZ.out)
  obtain ⟨y0, y1, y2, y3, y4, y5, yf⟩ := blk6 hq2
  have HQ2 : Hid _ := set_row (k := 0) (v := .string (tkx C.l i)) hq2
  have HZ2 : Hid _ := (Below.heap_setCell w2 ⟨w.heap.size + 1, 0, none⟩ (.string (tkx C.l i)) w.heap.size (by simp)).trans hz2
  have hB2 : Below w.heap.size w2 (w2.setCell ⟨w.heap.size + 1, 0, none⟩ (.string (tkx C.l i))) := (Below.refl _ _).setCell (by simp) _
  clear hq2 hz2
  have R3 := R.upon R2 hB2
  have hM3 := hM2.upon hB2
  go_wp2_with fail
  refine (term_any _ C (i + 1) d _ T R3 (Nat.le_refl _)).mono ?_
  rintro e w4 ⟨hm4, h4⟩
  have hs4 := hm4.size
  simp only [World.size_setCell] at hs4
  clear y0 y1 y2 y3 y4 y5 yf
  rcases h4 with ⟨es, j, v, hp, rfl, ⟨ex, rfl, hv⟩, R4, hij⟩ | ⟨j, bd, hp, hj, p, rfl, q0, q1⟩
  ·obtain ⟨op, x, s, l, so, sc, ys, rfl, rfl, hrow, hin⟩ := hv.one
   have hq4 := hm4.row (k := w.heap.size + 1) (by omega) HQ2.out
   have hz4 := hm4.row (k := w.heap.size) (by omega) HZ2.out
   obtain ⟨y0, y1, y2, y3, y4, y5, yf⟩ := blk6 hq4
   have HQ4 : Hid _ := hq4
   have HZ4 : Hid _ := hz4
   clear hq4 hz4
   go_wp2_with fail
   have hBq : Below w.heap.size w4 (setL w4 (w.heap.size + 1) 2 [.string op, .int .i64 x, .string s, .slice so l.length sc]) := setL_below (by omega) _ _ _
   have HQ5 : Hid ((setL w4 (w.heap.size + 1) 2 [.string op, .int .i64 x, .string s, .slice so l.length sc]).heap[w.heap.size + 1]? = some (.cells #[.string (tkx C.l i), .slice none 0 0, .string op, .int .i64 x, .string s, .slice so l.length sc] 107 (0, 0))) := set_row (set_row (set_row (set_row HQ4.out)))
   have HZ5 : Hid _ := (setL_block (N := w.heap.size + 1) (k := w.heap.size) (by omega) [.string op, .int .i64 x, .string s, .slice so l.length sc] 2 w4).trans HZ4.out
   have R5 := R.upon R4 hBq
   refine (expect_any C j d _ R5 T tSemi (by decide)).mono ?_
   rintro e w5 ⟨hm5, h5⟩
   have hs5 := hm5.size
   rw [setL_size] at hs5
   have hM5 : Mv C.b w w5 := ((hM3.trans hm4).upon hBq).trans hm5
   clear y0 y1 y2 y3 y4 y5 yf
   rcases h5 with ⟨hx, rfl, R6⟩ | ⟨hx, hj, p, rfl, q0, q1⟩
   ·obtain ⟨y0, y1, y2, y3, y4, y5, yf⟩ := blk6 (hm5.row (by omega) HQ5.out)
    obtain ⟨z0, z1, z2, z3, z4, z5, zf⟩ := blk6 (hm5.row (by omega) HZ5.out)
    have hBz : Below w.heap.size w5 (setL w5 w.heap.size 0 [.string (tkx C.l i), .slice none 0 0, .string op, .int .i64 x, .string s, .slice so l.length sc]) := setL_below (Nat.le_refl _) _ _ _
    have St : Stays (From (w2.setCell ⟨w.heap.size + 1, 0, none⟩ (.string (tkx C.l i))).heap.size) (From w.heap.size) w4 (setL w5 w.heap.size 0 [.string (tkx C.l i), .slice none 0 0, .string op, .int .i64 x, .string s, .slice so l.length sc]) := ((setL_stays (S' := fun k => w.heap.size + 1 < k) (fun k hk => by unfold From at hk; simp only [World.size_setCell] at hk; omega) _ _ _).trans (Stays.mv hm5 (fun k hk => ⟨by omega, hk⟩)) (by rw [setL_size]; exact Nat.le_refl _)).trans (setL_stays (fun k hk => by unfold From; omega) _ _ _) (by omega)
    go_wp2
    exact bodyPost_ret (v := .agg #[.string (tkx C.l i), .slice none 0 0, .string op, .int .i64 x, .string s, .slice so l.length sc]) (by simp [results, Tryz.results114, go_sem, z0, z1, z2, z3, z4, z5]) rfl ⟨hM5.upon hBz, Or.inl ⟨_, j + 1, _, Run.ifT h (Run.then hp (Run.exp hx Run.done)), rfl, ⟨_, rfl, rfl, .cons (tkx C.l i) [] (.mk op x s l) [] (.slice none 0 0) [.string op, .int .i64 x, .string s, .slice so l.length sc] [] RowAt.none (.cons op x s l [] _ ys [] (hrow.keep St) (hin.keep St) .nil) .nil⟩, R.upon R6 hBz, by omega⟩⟩
   ·go_wp2
    exact ⟨rfl, hM5, Or.inr ⟨j, false, Run.ifT h (Run.then hp (Run.unexp hx)), hj, p, rfl, q0, q1⟩⟩
  ·go_wp2
   exact ⟨rfl, hM3.trans hm4, Or.inr ⟨j, bd, Run.ifT h (Run.stop hp), hj, p, rfl, q0, q1⟩⟩
 ·have h' : txs C.l i [tAssert, tCheck] = false := by simpa using h
  clear h
  go_enter Tryz.func114, Tryz.ntmps114
  go_wp2_with fail
  refine (is_new C i d _ RA [tAssert, tCheck] _ 2 (by simp) rfl (by decide)).mono ?_
  rintro e w1 ⟨rfl, hb1⟩
  have hs1 := hb1.size
  simp only [World.size_alloc] at hs1
  have hM1 : Mv C.b w w1 := (Mv.of_below hbA).trans (Mv.of_below hb1)
  have hq1 := row_keep hb1 HQ.out
  have hz1 := row_keep hb1 HZ.out
  obtain ⟨y0, y1, y2, y3, y4, y5, yf⟩ := blk6 hq1
  have HQ1 : Hid _ := set_row (k := 0) (v := .string ⟨#[115, 101, 116]⟩) hq1
  have HZ1 : Hid _ := (Below.heap_setCell w1 ⟨w.heap.size + 1, 0, none⟩ (.string ⟨#[115, 101, 116]⟩) w.heap.size (by simp)).trans hz1
  have hB1 : Below w.heap.size w1 (w1.setCell ⟨w.heap.size + 1, 0, none⟩ (.string ⟨#[115, 101, 116]⟩)) := (Below.refl _ _).setCell (by simp) _
  clear hq1 hz1
  have R1 := R.upon (RA.below hb1) hB1
  have hM1' := hM1.upon hB1
  go_wp2_with fail
  refine (names_any C i d _ T R1).mono ?_
  rintro e w2 ⟨hm2, h2⟩
  have hs2 := hm2.size
  simp only [World.size_setCell] at hs2
  clear y0 y1 y2 y3 y4 y5 yf
  rcases h2 with ⟨ns, k, nv, hN, rfl, hrowN, R2, hik⟩ | ⟨j, bd, hN, hj, p, rfl, q0, q1⟩
  ·obtain ⟨a1, a2, no, nc, rfl, a3⟩ := hrowN
   have HRN : Hid (RowAt w2 (From (w1.setCell ⟨w.heap.size + 1, 0, none⟩ (.string ⟨#[115, 101, 116]⟩)).heap.size) 1 (.slice no ns.length nc) ns.length (nameCells ns)) := ⟨a1, a2, no, nc, rfl, a3⟩
   clear a1 a3
   have hq2 := hm2.row (k := w.heap.size + 1) (by omega) HQ1.out
   have hz2 := hm2.row (k := w.heap.size) (by omega) HZ1.out
   obtain ⟨y0, y1, y2, y3, y4, y5, yf⟩ := blk6 hq2
   have HQ2 : Hid _ := set_row (k := 1) (v := .slice no ns.length nc) hq2
   have HZ2 : Hid _ := (Below.heap_setCell w2 ⟨w.heap.size + 1, 1, none⟩ (.slice no ns.length nc) w.heap.size (by simp)).trans hz2
   have hB2 : Below w.heap.size w2 (w2.setCell ⟨w.heap.size + 1, 1, none⟩ (.slice no ns.length nc)) := (Below.refl _ _).setCell (by simp) _
   clear hq2 hz2
   have R2' := R.upon R2 hB2
   have hM2' := (hM1'.trans hm2).upon hB2
   go_wp2_with fail
   refine (expect_any C k d _ R2' T tEq (by decide)).mono ?_
   rintro e w3 ⟨hm3, h3⟩
   have hs3 := hm3.size
   simp only [World.size_setCell] at hs3
   have hM3 := hM2'.trans hm3
   clear y0 y1 y2 y3 y4 y5 yf
   rcases h3 with ⟨hx3, rfl, R3⟩ | ⟨hx3, hj, p, rfl, q0, q1⟩
   ·go_wp2_with fail
    refine (term_any _ C (k + 1) d _ T R3 (Nat.le_refl _)).mono ?_
    rintro e w4 ⟨hm4, h4⟩
    have hs4 := hm4.size
    rcases h4 with ⟨es, j, v, hp, rfl, ⟨ex, rfl, hv⟩, R4, hij⟩ | ⟨j, bd, hp, hj, p, rfl, q0, q1⟩
    ·obtain ⟨op, x, s, l, so, sc, ys, rfl, rfl, hrow, hin⟩ := hv.one
     have hq4 := hm4.row (k := w.heap.size + 1) (by omega) (hm3.row (by omega) HQ2.out)
     have hz4 := hm4.row (k := w.heap.size) (by omega) (hm3.row (by omega) HZ2.out)
     obtain ⟨y0, y1, y2, y3, y4, y5, yf⟩ := blk6 hq4
     have HQ4 : Hid _ := hq4
     have HZ4 : Hid _ := hz4
     clear hq4 hz4
     have StN : Stays (From (w1.setCell ⟨w.heap.size + 1, 0, none⟩ (.string ⟨#[115, 101, 116]⟩)).heap.size) (fun k => w.heap.size + 1 < k) w2 w4 := (Stays.set (S' := fun k => w.heap.size + 1 < k) (p := ⟨w.heap.size + 1, 1, none⟩) (.slice no ns.length nc) (fun k hk => by unfold From at hk; simp only [World.size_setCell] at hk; exact ⟨by show k ≠ w.heap.size + 1; omega, by omega⟩)).trans (Stays.mv (hm3.trans hm4) (fun k hk => ⟨by omega, hk⟩)) (by simp)
     have HRN4 : Hid (RowAt w4 (fun k => w.heap.size + 1 < k) 1 (.slice no ns.length nc) ns.length (nameCells ns)) := HRN.out.keep StN
     have hEq : ∀ (r : Res), Run C.l (expA C.l k tEq fun j => endA C.l sSet ns j d) r → Parse C.l .eq i d r := fun r hr => Run.ifF h' (hN (fun ns j => expA C.l j tEq fun j => endA C.l sSet ns j d) r hr)
     go_wp2_with fail
     have hBq : Below w.heap.size w4 (setL w4 (w.heap.size + 1) 2 [.string op, .int .i64 x, .string s, .slice so l.length sc]) := setL_below (by omega) _ _ _
     have HQ5 : Hid ((setL w4 (w.heap.size + 1) 2 [.string op, .int .i64 x, .string s, .slice so l.length sc]).heap[w.heap.size + 1]? = some (.cells #[.string ⟨#[115, 101, 116]⟩, .slice no ns.length nc, .string op, .int .i64 x, .string s, .slice so l.length sc] 107 (0, 0))) := set_row (set_row (set_row (set_row HQ4.out)))
     have HZ5 : Hid _ := (setL_block (N := w.heap.size + 1) (k := w.heap.size) (by omega) [.string op, .int .i64 x, .string s, .slice so l.length sc] 2 w4).trans HZ4.out
     have R5 := R.upon R4 hBq
     refine (expect_any C j d _ R5 T tSemi (by decide)).mono ?_
     rintro e w5 ⟨hm5, h5⟩
     have hs5 := hm5.size
     rw [setL_size] at hs5
     have hM5 : Mv C.b w w5 := ((hM3.trans hm4).upon hBq).trans hm5
     clear y0 y1 y2 y3 y4 y5 yf
     rcases h5 with ⟨hx, rfl, R6⟩ | ⟨hx, hj, p, rfl, q0, q1⟩
     ·obtain ⟨y0, y1, y2, y3, y4, y5, yf⟩ := blk6 (hm5.row (by omega) HQ5.out)
      obtain ⟨z0, z1, z2, z3, z4, z5, zf⟩ := blk6 (hm5.row (by omega) HZ5.out)
      have hBz : Below w.heap.size w5 (setL w5 w.heap.size 0 [.string ⟨#[115, 101, 116]⟩, .slice no ns.length nc, .string op, .int .i64 x, .string s, .slice so l.length sc]) := setL_below (Nat.le_refl _) _ _ _
      have St : Stays (From w3.heap.size) (From w.heap.size) w4 (setL w5 w.heap.size 0 [.string ⟨#[115, 101, 116]⟩, .slice no ns.length nc, .string op, .int .i64 x, .string s, .slice so l.length sc]) := ((setL_stays (S' := fun k => w.heap.size + 1 < k) (fun k hk => by unfold From at hk; omega) _ _ _).trans (Stays.mv hm5 (fun k hk => ⟨by omega, hk⟩)) (by rw [setL_size]; exact Nat.le_refl _)).trans (setL_stays (fun k hk => by unfold From; omega) _ _ _) (by omega)
      have StM : Stays (fun k => w.heap.size + 1 < k) (From w.heap.size) w4 (setL w5 w.heap.size 0 [.string ⟨#[115, 101, 116]⟩, .slice no ns.length nc, .string op, .int .i64 x, .string s, .slice so l.length sc]) := ((setL_stays (S' := fun k => w.heap.size + 1 < k) (fun k hk => ⟨by omega, hk⟩) _ _ _).trans (Stays.mv hm5 (fun k hk => ⟨by omega, hk⟩)) (by rw [setL_size]; exact Nat.le_refl _)).trans (setL_stays (fun k hk => by unfold From; omega) _ _ _) (by omega)
      go_wp2
      exact bodyPost_ret (v := .agg #[.string ⟨#[115, 101, 116]⟩, .slice no ns.length nc, .string op, .int .i64 x, .string s, .slice so l.length sc]) (by simp [results, Tryz.results114, go_sem, z0, z1, z2, z3, z4, z5]) rfl ⟨hM5.upon hBz, Or.inl ⟨_, j + 1, _, hEq _ (Run.exp hx3 (Run.then hp (Run.exp hx Run.done))), rfl, ⟨_, rfl, rfl, .cons ⟨#[115, 101, 116]⟩ ns (.mk op x s l) [] (.slice no ns.length nc) [.string op, .int .i64 x, .string s, .slice so l.length sc] [] (HRN4.out.keep StM) (.cons op x s l [] _ ys [] (hrow.keep St) (hin.keep St) .nil) .nil⟩, R.upon R6 hBz, by omega⟩⟩
     ·go_wp2
      exact ⟨rfl, hM5, Or.inr ⟨j, false, hEq _ (Run.exp hx3 (Run.then hp (Run.unexp hx))), hj, p, rfl, q0, q1⟩⟩
    ·go_wp2
     exact ⟨rfl, hM3.trans hm4, Or.inr ⟨j, bd, Run.ifF h' (hN (fun ns j => expA C.l j tEq fun j => endA C.l sSet ns j d) _ (Run.exp hx3 (Run.stop hp))), hj, p, rfl, q0, q1⟩⟩
   ·go_wp2
    exact ⟨rfl, hM3, Or.inr ⟨k, false, Run.ifF h' (hN (fun ns j => expA C.l j tEq fun j => endA C.l sSet ns j d) _ (Run.unexp hx3)), hj, p, rfl, q0, q1⟩⟩
  ·go_wp2
   exact ⟨rfl, hM1'.trans hm2, Or.inr ⟨j, bd, Run.ifF h' (hN (fun ns j => expA C.l j tEq fun j => endA C.l sSet ns j d)), hj, p, rfl, q0, q1⟩⟩
end Go.Proofs.YtgbpccipdcajgaaGreatDoor
