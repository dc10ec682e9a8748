/-
  HOW DEEP A TERM OPENS, IN PLAIN MATHEMATICS: counted as the document's writer counts; what the writer writes opens as deep.
-/
import Derived.Test.YtgbpccipdcajgaaGreatDoorQ19
namespace Go.Proofs.YtgbpccipdcajgaaGreatDoor
def bareD (op : List UInt8) (ds : List Nat) : Nat :=
 if op = [105, 110, 116] ∨ op = [116, 114, 117, 101] ∨ op = [102, 97, 108, 115, 101] ∨ op = [110, 97, 109, 101] then 0
 else if op = [99, 97, 108, 108] ∨ op = [105, 102] then ds.foldr max 0 + 1
 else if op = [110, 101, 103] ∨ op = [110, 111, 116] ∨ op = [112, 114, 101] then ds.getD 0 0 + 1
 else if op = [45, 62] ∨ op = [102, 98, 121] then max (ds.getD 0 0) (ds.getD 1 0 + 1)
 else max (ds.getD 0 0) (ds.getD 1 0)
mutual
def dW : Nat → Ex → Nat
 | L, .mk op _ _ l => (if lvOf op.toList < L then 1 else 0) + bareD op.toList (dWP (lvsOf op.toList l) l)
def dWP : List Nat → List Ex → List Nat
 | _, [] => []
 | ks, e :: es => dW (ks.headD 0) e :: dWP ks.tail es
end
theorem dW_mk (L : Nat) (op : ByteArray) (n : Int) (s : ByteArray) (l : List Ex) : dW L (.mk op n s l) = (if lvOf op.toList < L then 1 else 0) + bareD op.toList (dWP (lvsOf op.toList l) l) := by rw [dW]
theorem dWP_get : ∀ (l : List Ex) (ks : List Nat) (i : Nat) (h : i < l.length), (dWP ks l).getD i 0 = dW (ks.getD i 0) l[i]
 | [], _, _, h => by cases h
 | e :: es, ks, 0, _ => by rw [dWP]; cases ks <;> rfl
 | e :: es, ks, i + 1, h => by
  rw [dWP]
  have := dWP_get es ks.tail i (by simpa using h)
  simp only [List.getD_cons_succ, List.getElem_cons_succ]
  rw [this]
  cases ks <;> simp
theorem args_prD : ∀ (l : List Ex) (i : Nat) (z : List UInt8), lstX argX i (twP [] l) = some z → (∀ e ∈ l, ∀ x, tw 0 e = some x → ∃ p, Pr 0 e (dW 0 e) p x) → ∃ ps : List Part, maxD ps = (dWP [] l).foldr max 0 ∧ (∀ q ∈ ps, Pr 0 q.1 q.2.1 q.2.2.1 q.2.2.2) ∧ ps.map (·.1) = l ∧ z = (if 0 < i ∧ ps ≠ [] then tComma ++ (32 :: joinX ps) else joinX ps)
 | [], i, z, hz, _ => by
  rw [twP] at hz
  cases hz
  exact ⟨[], by rw [dWP]; rfl, (fun _ h => by cases h), rfl, by simp [joinX]⟩
 | e :: es, i, z, hz, ih => by
  rw [twP] at hz
  obtain ⟨a, b, ha, hb, rfl⟩ := catX_eq hz
  obtain ⟨c, x, hc, hx, rfl⟩ := catX_eq ha
  obtain ⟨p, hp⟩ := ih e List.mem_cons_self x hx
  obtain ⟨ps, hD, h1, h2, rfl⟩ := args_prD es (i + 1) b hb fun e he => ih e (List.mem_cons_of_mem _ he)
  have hj : joinX ((e, dW 0 e, p, x) :: ps) = x ++ (if 0 < i + 1 ∧ ps ≠ [] then tComma ++ (32 :: joinX ps) else joinX ps) := by
   match ps with
   | [] => simp [joinX]
   | q :: r => simp [joinX]
  refine ⟨(e, dW 0 e, p, x) :: ps, by rw [dWP, List.foldr_cons, show maxD ((e, dW 0 e, p, x) :: ps) = max (dW 0 e) (maxD ps) from rfl, hD]; rfl, fun q hq => (List.mem_cons.1 hq).elim (fun h => by rw [h]; exact hp) (h1 q), by simp [h2], ?_⟩
  rw [hj]
  unfold sepX at hc
  by_cases hi : 0 < i
  ·rw [if_pos hi] at hc
   cases hc
   rw [if_pos (show 0 < i ∧ ((e, dW 0 e, p, x) :: ps) ≠ [] from ⟨hi, by simp⟩)]
   simp [tComma]
  ·rw [if_neg hi] at hc
   cases hc
   rw [if_neg (show ¬ (0 < i ∧ ((e, dW 0 e, p, x) :: ps) ≠ []) from fun h => hi h.1)]
   simp
theorem tw_prD : ∀ (m : Nat) (op : ByteArray) (n : Int) (s : ByteArray) (l : List Ex), SizeOf.sizeOf l < m → NmT (.mk op n s l) → ∀ (L : Nat) (x : List UInt8), L ≤ 8 → tw L (.mk op n s l) = some x → ∃ p, Pr L (.mk op n s l) (dW L (.mk op n s l)) p x
 | 0, _, _, _, _, h, _, _, _, _, _ => absurd h (by omega)
 | m + 1, op, n, s, l, hm, hN, L, x, hL, hx => by
  rw [tw_mk] at hx
  split at hx
  rotate_left
  ·cases hx
  rename_i hf
  obtain ⟨y, hy, _, hxy⟩ := brkX_some hx
  obtain ⟨hN1, hN2⟩ := hN.part
  obtain ⟨fz, fs, fi⟩ := form_zero hf
  have ih : ∀ (i : Nat) (hi : i < l.length) (M : Nat) (z : List UInt8), M ≤ 8 → tw M l[i] = some z → ∃ p, Pr M l[i] (dW M l[i]) p z := fun i hi M z hM hz => by
   obtain ⟨op', n', s', es, he⟩ : ∃ op n s es, l[i] = .mk op n s es := ⟨l[i].op, l[i].n, l[i].s, l[i].l, by cases l[i]; rfl⟩
   have hsz := size_part hi he
   have hn := hN2 l[i] (List.getElem_mem hi)
   rw [he] at hz hn ⊢
   exact tw_prD m op' n' s' es (by omega) hn M z hM hz
  rw [dW_mk]
  suffices hall : ∀ M, M ≤ lvOf op.toList → ∃ p, Pr M (.mk op n s l) (bareD op.toList (dWP (lvsOf op.toList l) l)) p y by
   by_cases hlt : lvOf op.toList < L
   ·obtain ⟨p, hp⟩ := hall 0 (by omega)
    rw [if_pos hlt, Nat.add_comm]
    rw [if_pos (by simpa using hlt)] at hxy
    rw [hxy]
    exact ⟨_, Pr.brk L _ _ p y hL hp⟩
   ·rw [if_neg (by simpa using hlt)] at hxy
    rw [hxy, if_neg hlt, Nat.zero_add]
    exact hall L (by omega)
  intro M hM
  by_cases hcall : op.toList = [99, 97, 108, 108]
  ·have hlv : lvOf op.toList = 8 := by rw [hcall]; decide
   have hv : lvsOf op.toList l = [] := by unfold lvsOf; rw [if_neg (by rw [hcall]; decide), hcall]; decide
   rw [bareX, if_neg (by rw [hcall]; decide), if_neg (by rw [hcall]; decide), if_neg (by rw [hcall]; decide), if_neg (by rw [hcall]; decide), if_pos hcall, hv] at hy
   obtain ⟨a, b, ha, hb, rfl⟩ := catX_eq hy
   obtain ⟨z, c, hz, hc, rfl⟩ := catX_eq hb
   cases ha; cases hc
   obtain ⟨ps, hD, h1, h2, rfl⟩ := args_prD l 0 z hz fun e he x hx => by
    obtain ⟨i, hi, rfl⟩ := List.mem_iff_getElem.1 he
    exact ih i hi 0 x (by omega) hx
   have := Pr.call M s ps (by omega) (hN1 (Or.inr hcall)) h1
   rw [h2] at this
   obtain rfl : n = 0 := fz (by rw [hcall]; decide)
   have hbd : bareD op.toList (dWP (lvsOf op.toList l) l) = maxD ps + 1 := by rw [hv, hcall, hD]; simp [bareD]
   rw [hbd, show op = sCall from (sOf_eq hcall)]
   rw [if_neg (by simp)]
   have e : s.data.toList ++ [40] ++ (joinX ps ++ [41]) = s.toList ++ (tOpen ++ (joinX ps ++ tShut)) := by rw [data_list, List.append_assoc]; rfl
   rw [e]
   exact ⟨_, this⟩
  ·obtain ⟨t, ht, hop, hlen⟩ := form_len hf hcall
   have hlv : lvOf op.toList = t.2.1 := by rw [hop]; exact (shape_lv ht).1
   have hv : op.toList ≠ [110, 101, 103] → lvsOf op.toList l = t.2.2 := fun hne => by unfold lvsOf; rw [if_neg hne, hop]; exact (shape_lv ht).2
   have eop : op = sOf t.1 := sOf_eq hop
   rw [hlv] at hM
   have two : ∀ {y' : List UInt8} {M1 M2 : Nat}, t.1 = y' → t.2.2 = [M1, M2] → M1 ≤ 8 → M2 ≤ 8 → op.toList ≠ [105, 110, 116] → op.toList ≠ [116, 114, 117, 101] → op.toList ≠ [102, 97, 108, 115, 101] → op.toList ≠ [110, 97, 109, 101] → op.toList ≠ [105, 102] → op.toList ≠ [110, 101, 103] → op.toList ≠ [110, 111, 116] → op.toList ≠ [112, 114, 101] → ∃ (a b : Ex) (pa pb : List Pc) (xa xb : List UInt8), l = [a, b] ∧ dWP (lvsOf op.toList l) l = [dW M1 a, dW M2 b] ∧ Pr M1 a (dW M1 a) pa xa ∧ Pr M2 b (dW M2 b) pb xb ∧ y = xa ++ (32 :: (y' ++ (32 :: xb))) ∧ n = 0 ∧ s = b0 ∧ op = sOf y' := by
    intro y' M1 M2 hy' hps hM1 hM2 n1 n2 n3 n4 n5 n6 n7 n8
    rw [hps] at hlen
    match l, hlen, ih, hy, hv, fz, fs with
    | [a, b], _, ih, hy, hv, fz, fs =>
     have hD : dWP (lvsOf op.toList [a, b]) [a, b] = [dW M1 a, dW M2 b] := by rw [hv n6, hps, dWP, dWP, dWP]; rfl
     rw [hv n6, hps, bareX, if_neg n1, if_neg n2, if_neg n3, if_neg n4, if_neg hcall, if_neg n5, if_neg n6, if_neg (fun h => h.elim n7 n8)] at hy
     obtain ⟨xa, r, hxa, hr, rfl⟩ := catX_eq hy
     obtain ⟨c, xb, hc, hxb, rfl⟩ := catX_eq hr
     cases hc
     have hxa' : tw M1 a = some xa := by rw [← hxa, twP]; rfl
     have hxb' : tw M2 b = some xb := by rw [← hxb, twP, twP]; rfl
     obtain ⟨pa, ha⟩ := ih 0 (by simp) M1 xa hM1 hxa'
     obtain ⟨pb, hb⟩ := ih 1 (by simp) M2 xb hM2 hxb'
     refine ⟨a, b, pa, pb, xa, xb, rfl, hD, ha, hb, ?_, fz n1, fs n4 hcall, by rw [eop, hy']⟩
     rw [data_list, hop, hy']
     simp
   have one : ∀ {M1 : Nat} (pre : List UInt8), M1 ≤ 8 → l.length = 1 → (lvsOf op.toList l).getD 0 0 = M1 → bareX op n s (twP (lvsOf op.toList l) l) = catX (some pre) ((twP (lvsOf op.toList l) l).getD 0 none) → ∃ (a : Ex) (p : List Pc) (x : List UInt8), l = [a] ∧ dWP (lvsOf op.toList l) l = [dW M1 a] ∧ Pr M1 a (dW M1 a) p x ∧ y = pre ++ x := by
    intro M1 pre hM1 h1 hlv1 hb
    rw [hb] at hy
    obtain ⟨c, x, hc, hx, rfl⟩ := catX_eq hy
    cases hc
    rw [twP_getD (by omega), hlv1] at hx
    obtain ⟨p, hp⟩ := ih 0 (by omega) M1 x hM1 hx
    match l, h1, hp, hlv1 with
    | [a], _, hp, hlv1 => exact ⟨a, p, x, rfl, by rw [dWP, dWP, show (lvsOf op.toList [a]).headD 0 = (lvsOf op.toList [a]).getD 0 0 from by cases (lvsOf op.toList [a]) <;> rfl, hlv1], hp, rfl⟩
   have leaf : t.2.2 = [] → l = [] := fun h => by rw [h] at hlen; exact List.length_eq_zero_iff.1 hlen.symm
   have hM8 : M ≤ 8 := by
    have : t.2.1 ≤ 8 := (by decide : ∀ t ∈ shapeL, t.2.1 ≤ 8) t ht
    omega
   simp only [shapeL, List.mem_cons, List.not_mem_nil, or_false] at ht
   rcases ht with rfl | rfl | rfl | rfl | rfl | rfl | rfl | rfl | rfl | rfl | rfl | rfl | rfl | rfl | rfl | rfl | rfl | rfl | rfl | rfl | rfl | rfl | rfl | rfl | rfl
   ·obtain rfl := leaf rfl
    rw [show bareD op.toList (dWP (lvsOf op.toList []) []) = 0 from by rw [hop]; simp [bareD]]
    rw [bareX, if_pos hop] at hy
    cases hy
    obtain rfl : s = b0 := fs (by rw [hop]; decide) hcall
    obtain ⟨i0, i1⟩ := fi hop
    have h1 := Pr.int M _ n hM8 (IntOk.of i0 i1)
    rw [show (⟨(Lib.itoa n).toArray⟩ : ByteArray).toList = Lib.itoa n from by rw [ByteArray.toList_eq]] at h1
    rw [eop]
    exact ⟨_, h1⟩
   ·obtain rfl := leaf rfl
    rw [show bareD op.toList (dWP (lvsOf op.toList []) []) = 0 from by rw [hop]; simp [bareD]]
    rw [bareX, if_neg (by rw [hop]; decide), if_pos hop] at hy
    cases hy
    obtain rfl : s = b0 := fs (by rw [hop]; decide) hcall
    obtain rfl : n = 0 := fz (by rw [hop]; decide)
    have h1 := Pr.bool M [116, 114, 117, 101] hM8 (by decide)
    rw [data_list, hop, eop]
    exact ⟨_, h1⟩
   ·obtain rfl := leaf rfl
    rw [show bareD op.toList (dWP (lvsOf op.toList []) []) = 0 from by rw [hop]; simp [bareD]]
    rw [bareX, if_neg (by rw [hop]; decide), if_neg (by rw [hop]; decide), if_pos hop] at hy
    cases hy
    obtain rfl : s = b0 := fs (by rw [hop]; decide) hcall
    obtain rfl : n = 0 := fz (by rw [hop]; decide)
    have h1 := Pr.bool M [102, 97, 108, 115, 101] hM8 (by decide)
    rw [data_list, hop, eop]
    exact ⟨_, h1⟩
   ·obtain rfl := leaf rfl
    rw [show bareD op.toList (dWP (lvsOf op.toList []) []) = 0 from by rw [hop]; simp [bareD]]
    rw [bareX, if_neg (by rw [hop]; decide), if_neg (by rw [hop]; decide), if_neg (by rw [hop]; decide), if_pos hop] at hy
    cases hy
    obtain rfl : n = 0 := fz (by rw [hop]; decide)
    have h1 := Pr.name M s hM8 (hN1 (Or.inl hop))
    rw [data_list, eop]
    exact ⟨_, h1⟩
   ·obtain rfl : M = 0 := by simpa using hM
    obtain rfl : s = b0 := fs (by rw [hop]; decide) hcall
    obtain rfl : n = 0 := fz (by rw [hop]; decide)
    match l, hlen, ih, hy, hv with
    | [a, b, c], _, ih, hy, hv =>
     have hbd : bareD op.toList (dWP (lvsOf op.toList [a, b, c]) [a, b, c]) = max (dW 0 a) (max (dW 0 b) (dW 0 c)) + 1 := by rw [hv (by rw [hop]; decide), hop, dWP, dWP, dWP, dWP]; simp [bareD]
     rw [hbd]
     rw [hv (by rw [hop]; decide), bareX, if_neg (by rw [hop]; decide), if_neg (by rw [hop]; decide), if_neg (by rw [hop]; decide), if_neg (by rw [hop]; decide), if_neg (by rw [hop]; decide), if_pos hop] at hy
     obtain ⟨c1, r1, hc1, hr1, rfl⟩ := catX_eq hy
     obtain ⟨xa, r2, hxa, hr2, rfl⟩ := catX_eq hr1
     obtain ⟨c2, r3, hc2, hr3, rfl⟩ := catX_eq hr2
     obtain ⟨xb, r4, hxb, hr4, rfl⟩ := catX_eq hr3
     obtain ⟨c3, xc, hc3, hxc, rfl⟩ := catX_eq hr4
     cases hc1; cases hc2; cases hc3
     obtain ⟨pa, ha⟩ := ih 0 (by simp) 0 xa (by omega) (by rw [← hxa, twP]; rfl)
     obtain ⟨pb, hb⟩ := ih 1 (by simp) 0 xb (by omega) (by rw [← hxb, twP, twP]; rfl)
     obtain ⟨pc, hc⟩ := ih 2 (by simp) 0 xc (by omega) (by rw [← hxc, twP, twP, twP]; rfl)
     rw [eop]
     exact ⟨_, Pr.cond a b c _ _ _ pa pb pc xa xb xc ha hb hc⟩
   ·obtain ⟨a, b, pa, pb, xa, xb, rfl, hD, ha, hb, rfl, rfl, rfl, rfl⟩ := two rfl rfl (by omega) (by omega) (by rw [hop]; decide) (by rw [hop]; decide) (by rw [hop]; decide) (by rw [hop]; decide) (by rw [hop]; decide) (by rw [hop]; decide) (by rw [hop]; decide) (by rw [hop]; decide)
    obtain rfl : M = 0 := by simpa using hM
    have hbd := hD
    rw [sOf_list] at hbd
    rw [sOf_list, hbd]
    exact ⟨_, by have h9 := Pr.arrow [45, 62] a b _ _ pa pb xa xb (by decide) ha hb; simpa [bareD] using h9⟩
   ·obtain ⟨a, b, pa, pb, xa, xb, rfl, hD, ha, hb, rfl, rfl, rfl, rfl⟩ := two rfl rfl (by omega) (by omega) (by rw [hop]; decide) (by rw [hop]; decide) (by rw [hop]; decide) (by rw [hop]; decide) (by rw [hop]; decide) (by rw [hop]; decide) (by rw [hop]; decide) (by rw [hop]; decide)
    obtain rfl : M = 0 := by simpa using hM
    have hbd := hD
    rw [sOf_list] at hbd
    rw [sOf_list, hbd]
    exact ⟨_, by have h9 := Pr.arrow [102, 98, 121] a b _ _ pa pb xa xb (by decide) ha hb; simpa [bareD] using h9⟩
   ·obtain ⟨a, b, pa, pb, xa, xb, rfl, hD, ha, hb, rfl, rfl, rfl, rfl⟩ := two rfl rfl (by omega) (by omega) (by rw [hop]; decide) (by rw [hop]; decide) (by rw [hop]; decide) (by rw [hop]; decide) (by rw [hop]; decide) (by rw [hop]; decide) (by rw [hop]; decide) (by rw [hop]; decide)
    have hbd := hD
    rw [sOf_list] at hbd
    rw [sOf_list, hbd]
    exact ⟨_, by have h9 := Pr.left M .or [111, 114] a b _ _ pa pb xa xb hM (by decide) ha hb; simpa [bareD] using h9⟩
   ·obtain ⟨a, b, pa, pb, xa, xb, rfl, hD, ha, hb, rfl, rfl, rfl, rfl⟩ := two rfl rfl (by omega) (by omega) (by rw [hop]; decide) (by rw [hop]; decide) (by rw [hop]; decide) (by rw [hop]; decide) (by rw [hop]; decide) (by rw [hop]; decide) (by rw [hop]; decide) (by rw [hop]; decide)
    have hbd := hD
    rw [sOf_list] at hbd
    rw [sOf_list, hbd]
    exact ⟨_, by have h9 := Pr.left M .or [120, 111, 114] a b _ _ pa pb xa xb hM (by decide) ha hb; simpa [bareD] using h9⟩
   ·obtain ⟨a, b, pa, pb, xa, xb, rfl, hD, ha, hb, rfl, rfl, rfl, rfl⟩ := two rfl rfl (by omega) (by omega) (by rw [hop]; decide) (by rw [hop]; decide) (by rw [hop]; decide) (by rw [hop]; decide) (by rw [hop]; decide) (by rw [hop]; decide) (by rw [hop]; decide) (by rw [hop]; decide)
    have hbd := hD
    rw [sOf_list] at hbd
    rw [sOf_list, hbd]
    exact ⟨_, by have h9 := Pr.left M .and [97, 110, 100] a b _ _ pa pb xa xb hM (by decide) ha hb; simpa [bareD] using h9⟩
   ·obtain rfl : s = b0 := fs (by rw [hop]; decide) hcall
    obtain rfl : n = 0 := fz (by rw [hop]; decide)
    obtain ⟨a, p, x, rfl, hD, hp, rfl⟩ := one (M1 := 3) (op.data.toList ++ [32]) (by omega) hlen.symm (by rw [hv (by rw [hop]; decide)]; rfl) (by rw [bareX, if_neg (by rw [hop]; decide), if_neg (by rw [hop]; decide), if_neg (by rw [hop]; decide), if_neg (by rw [hop]; decide), if_neg (by rw [hop]; decide), if_neg (by rw [hop]; decide), if_neg (by rw [hop]; decide), if_pos (by rw [hop]; decide)])
    have hbd : bareD op.toList (dWP (lvsOf op.toList [a]) [a]) = dW 3 a + 1 := by rw [hD, hop]; simp [bareD]
    rw [hbd]
    have h1 := Pr.not M a _ p x hM hp
    rw [data_list, hop, eop]
    exact ⟨_, h1⟩
   ·obtain ⟨a, b, pa, pb, xa, xb, rfl, hD, ha, hb, rfl, rfl, rfl, rfl⟩ := two rfl rfl (by omega) (by omega) (by rw [hop]; decide) (by rw [hop]; decide) (by rw [hop]; decide) (by rw [hop]; decide) (by rw [hop]; decide) (by rw [hop]; decide) (by rw [hop]; decide) (by rw [hop]; decide)
    have hbd := hD
    rw [sOf_list] at hbd
    rw [sOf_list, hbd]
    exact ⟨_, by have h9 := Pr.cmp M [61] a b _ _ pa pb xa xb hM (by decide) ha hb; simpa [bareD] using h9⟩
   ·obtain ⟨a, b, pa, pb, xa, xb, rfl, hD, ha, hb, rfl, rfl, rfl, rfl⟩ := two rfl rfl (by omega) (by omega) (by rw [hop]; decide) (by rw [hop]; decide) (by rw [hop]; decide) (by rw [hop]; decide) (by rw [hop]; decide) (by rw [hop]; decide) (by rw [hop]; decide) (by rw [hop]; decide)
    have hbd := hD
    rw [sOf_list] at hbd
    rw [sOf_list, hbd]
    exact ⟨_, by have h9 := Pr.cmp M [60, 62] a b _ _ pa pb xa xb hM (by decide) ha hb; simpa [bareD] using h9⟩
   ·obtain ⟨a, b, pa, pb, xa, xb, rfl, hD, ha, hb, rfl, rfl, rfl, rfl⟩ := two rfl rfl (by omega) (by omega) (by rw [hop]; decide) (by rw [hop]; decide) (by rw [hop]; decide) (by rw [hop]; decide) (by rw [hop]; decide) (by rw [hop]; decide) (by rw [hop]; decide) (by rw [hop]; decide)
    have hbd := hD
    rw [sOf_list] at hbd
    rw [sOf_list, hbd]
    exact ⟨_, by have h9 := Pr.cmp M [60] a b _ _ pa pb xa xb hM (by decide) ha hb; simpa [bareD] using h9⟩
   ·obtain ⟨a, b, pa, pb, xa, xb, rfl, hD, ha, hb, rfl, rfl, rfl, rfl⟩ := two rfl rfl (by omega) (by omega) (by rw [hop]; decide) (by rw [hop]; decide) (by rw [hop]; decide) (by rw [hop]; decide) (by rw [hop]; decide) (by rw [hop]; decide) (by rw [hop]; decide) (by rw [hop]; decide)
    have hbd := hD
    rw [sOf_list] at hbd
    rw [sOf_list, hbd]
    exact ⟨_, by have h9 := Pr.cmp M [60, 61] a b _ _ pa pb xa xb hM (by decide) ha hb; simpa [bareD] using h9⟩
   ·obtain ⟨a, b, pa, pb, xa, xb, rfl, hD, ha, hb, rfl, rfl, rfl, rfl⟩ := two rfl rfl (by omega) (by omega) (by rw [hop]; decide) (by rw [hop]; decide) (by rw [hop]; decide) (by rw [hop]; decide) (by rw [hop]; decide) (by rw [hop]; decide) (by rw [hop]; decide) (by rw [hop]; decide)
    have hbd := hD
    rw [sOf_list] at hbd
    rw [sOf_list, hbd]
    exact ⟨_, by have h9 := Pr.cmp M [62] a b _ _ pa pb xa xb hM (by decide) ha hb; simpa [bareD] using h9⟩
   ·obtain ⟨a, b, pa, pb, xa, xb, rfl, hD, ha, hb, rfl, rfl, rfl, rfl⟩ := two rfl rfl (by omega) (by omega) (by rw [hop]; decide) (by rw [hop]; decide) (by rw [hop]; decide) (by rw [hop]; decide) (by rw [hop]; decide) (by rw [hop]; decide) (by rw [hop]; decide) (by rw [hop]; decide)
    have hbd := hD
    rw [sOf_list] at hbd
    rw [sOf_list, hbd]
    exact ⟨_, by have h9 := Pr.cmp M [62, 61] a b _ _ pa pb xa xb hM (by decide) ha hb; simpa [bareD] using h9⟩
   ·obtain ⟨a, b, pa, pb, xa, xb, rfl, hD, ha, hb, rfl, rfl, rfl, rfl⟩ := two rfl rfl (by omega) (by omega) (by rw [hop]; decide) (by rw [hop]; decide) (by rw [hop]; decide) (by rw [hop]; decide) (by rw [hop]; decide) (by rw [hop]; decide) (by rw [hop]; decide) (by rw [hop]; decide)
    have hbd := hD
    rw [sOf_list] at hbd
    rw [sOf_list, hbd]
    exact ⟨_, by have h9 := Pr.cmp M [61, 62] a b _ _ pa pb xa xb hM (by decide) ha hb; simpa [bareD] using h9⟩
   ·obtain ⟨a, b, pa, pb, xa, xb, rfl, hD, ha, hb, rfl, rfl, rfl, rfl⟩ := two rfl rfl (by omega) (by omega) (by rw [hop]; decide) (by rw [hop]; decide) (by rw [hop]; decide) (by rw [hop]; decide) (by rw [hop]; decide) (by rw [hop]; decide) (by rw [hop]; decide) (by rw [hop]; decide)
    have hbd := hD
    rw [sOf_list] at hbd
    rw [sOf_list, hbd]
    exact ⟨_, by have h9 := Pr.left M .sum [43] a b _ _ pa pb xa xb hM (by decide) ha hb; simpa [bareD] using h9⟩
   ·obtain ⟨a, b, pa, pb, xa, xb, rfl, hD, ha, hb, rfl, rfl, rfl, rfl⟩ := two rfl rfl (by omega) (by omega) (by rw [hop]; decide) (by rw [hop]; decide) (by rw [hop]; decide) (by rw [hop]; decide) (by rw [hop]; decide) (by rw [hop]; decide) (by rw [hop]; decide) (by rw [hop]; decide)
    have hbd := hD
    rw [sOf_list] at hbd
    rw [sOf_list, hbd]
    exact ⟨_, by have h9 := Pr.left M .sum [45] a b _ _ pa pb xa xb hM (by decide) ha hb; simpa [bareD] using h9⟩
   ·obtain ⟨a, b, pa, pb, xa, xb, rfl, hD, ha, hb, rfl, rfl, rfl, rfl⟩ := two rfl rfl (by omega) (by omega) (by rw [hop]; decide) (by rw [hop]; decide) (by rw [hop]; decide) (by rw [hop]; decide) (by rw [hop]; decide) (by rw [hop]; decide) (by rw [hop]; decide) (by rw [hop]; decide)
    have hbd := hD
    rw [sOf_list] at hbd
    rw [sOf_list, hbd]
    exact ⟨_, by have h9 := Pr.left M .prod [42] a b _ _ pa pb xa xb hM (by decide) ha hb; simpa [bareD] using h9⟩
   ·obtain ⟨a, b, pa, pb, xa, xb, rfl, hD, ha, hb, rfl, rfl, rfl, rfl⟩ := two rfl rfl (by omega) (by omega) (by rw [hop]; decide) (by rw [hop]; decide) (by rw [hop]; decide) (by rw [hop]; decide) (by rw [hop]; decide) (by rw [hop]; decide) (by rw [hop]; decide) (by rw [hop]; decide)
    have hbd := hD
    rw [sOf_list] at hbd
    rw [sOf_list, hbd]
    exact ⟨_, by have h9 := Pr.left M .prod [47] a b _ _ pa pb xa xb hM (by decide) ha hb; simpa [bareD] using h9⟩
   ·obtain ⟨a, b, pa, pb, xa, xb, rfl, hD, ha, hb, rfl, rfl, rfl, rfl⟩ := two rfl rfl (by omega) (by omega) (by rw [hop]; decide) (by rw [hop]; decide) (by rw [hop]; decide) (by rw [hop]; decide) (by rw [hop]; decide) (by rw [hop]; decide) (by rw [hop]; decide) (by rw [hop]; decide)
    have hbd := hD
    rw [sOf_list] at hbd
    rw [sOf_list, hbd]
    exact ⟨_, by have h9 := Pr.left M .prod [109, 111, 100] a b _ _ pa pb xa xb hM (by decide) ha hb; simpa [bareD] using h9⟩
   ·obtain rfl : s = b0 := fs (by rw [hop]; decide) hcall
    obtain rfl : n = 0 := fz (by rw [hop]; decide)
    have h1 : l.length = 1 := hlen.symm
    have hg : (lvsOf op.toList l).getD 0 0 = if (l[0]'(by omega)).op.toList = [110, 101, 103] then 8 else 7 := by
     match l, h1 with
     | [a], _ =>
      unfold lvsOf
      rw [if_pos hop]
      show (if a.op.toList = [110, 101, 103] then [8] else [7] : List Nat).getD 0 0 = _
      split
      ·rename_i h; show 8 = _; rw [if_pos (by exact h)]
      ·rename_i h; show 7 = _; rw [if_neg (by exact h)]
    obtain ⟨a, p, x, rfl, hD, hp, rfl⟩ := one [45] (by split <;> omega) h1 hg (by rw [bareX, if_neg (by rw [hop]; decide), if_neg (by rw [hop]; decide), if_neg (by rw [hop]; decide), if_neg (by rw [hop]; decide), if_neg (by rw [hop]; decide), if_neg (by rw [hop]; decide), if_pos hop])
    have hbd : bareD op.toList (dWP (lvsOf op.toList [a]) [a]) = dW (if a.op.toList = [110, 101, 103] then 8 else 7) a + 1 := by rw [hD, hop]; simp [bareD]
    rw [hbd]
    have hp7 : Pr 7 a (dW (if a.op.toList = [110, 101, 103] then 8 else 7) a) p x ∧ x.head? ≠ some 45 := by
     change Pr (if a.op.toList = [110, 101, 103] then 8 else 7) a (dW (if a.op.toList = [110, 101, 103] then 8 else 7) a) p x at hp
     by_cases hne : a.op.toList = [110, 101, 103]
     ·rw [if_pos hne] at hp ⊢
      exact ⟨hp.loose (by omega), hp.head45 (by omega) (Or.inr (by omega))⟩
     ·rw [if_neg hne] at hp ⊢
      exact ⟨hp, hp.head45 (by omega) (Or.inl hne)⟩
    rw [eop]
    exact ⟨_, Pr.neg M a _ p x hM hp7.2 hp7.1⟩
   ·obtain rfl : s = b0 := fs (by rw [hop]; decide) hcall
    obtain rfl : n = 0 := fz (by rw [hop]; decide)
    obtain ⟨a, p, x, rfl, hD, hp, rfl⟩ := one (M1 := 7) (op.data.toList ++ [32]) (by omega) hlen.symm (by rw [hv (by rw [hop]; decide)]; rfl) (by rw [bareX, if_neg (by rw [hop]; decide), if_neg (by rw [hop]; decide), if_neg (by rw [hop]; decide), if_neg (by rw [hop]; decide), if_neg (by rw [hop]; decide), if_neg (by rw [hop]; decide), if_neg (by rw [hop]; decide), if_pos (by rw [hop]; decide)])
    have hbd : bareD op.toList (dWP (lvsOf op.toList [a]) [a]) = dW 7 a + 1 := by rw [hD, hop]; simp [bareD]
    rw [hbd]
    have h1 := Pr.pre M a _ p x hM hp
    rw [data_list, hop, eop]
    exact ⟨_, h1⟩
structure Went (t : Tx) (R : Prop) (D c : Nat) (x : List UInt8) (k : Nat) : Prop where
 is : t = some x
 nm : R
 deep : D ≤ 20
 pos : 1 ≤ k
 le : k ≤ x.length
 room : c + k ≤ 6000
 len : x.length + 2 ≤ 40 * k
def NoGo (t : Tx) (R : Prop) (D c : Nat) : Prop := ∀ x, t = some x → R → D ≤ 20 → 6000 < c + x.length
abbrev WentT (L : Nat) (e : Ex) (d c : Nat) (x : List UInt8) (k : Nat) : Prop := Went (tw L e) (NmT e) (d + dW L e) c x k
abbrev NoGoT (L : Nat) (e : Ex) (d c : Nat) : Prop := NoGo (tw L e) (NmT e) (d + dW L e) c

section
variable {op : ByteArray} {n : Int} {s : ByteArray} {l : List Ex} {L d c : Nat}
theorem noGo_form (h : formedB op.toList n s.toList l.length = false) : NoGoT L (.mk op n s l) d c := fun x hx => by
 rw [tw_mk, h] at hx
 cases hx
theorem tw_pos {e : Ex} {x : List UInt8} (hL : L ≤ 8) (h : tw L e = some x) (hN : NmT e) : 1 ≤ x.length := by
 obtain ⟨op, n, s, l⟩ := e
 obtain ⟨k, p, hp⟩ := tw_pr (SizeOf.sizeOf l + 1) op n s l (by omega) hN L x hL h
 obtain ⟨c, y, rfl, _⟩ := hp.head
 rw [List.length_cons]
 omega
theorem noGo_full {e : Ex} (hL : L ≤ 8) (h : 6000 ≤ c) : NoGoT L e d c := fun x hx hN _ => by
 have := tw_pos hL hx hN
 omega
theorem tw_brk (hf : formedB op.toList n s.toList l.length = true) (hl : lvOf op.toList < L) : tw L (.mk op n s l) = catX (some [40]) (catX (tw 0 (.mk op n s l)) (some [41])) ∧ dW L (.mk op n s l) = dW 0 (.mk op n s l) + 1 := by
 rw [tw_mk, tw_mk, if_pos hf, if_pos hf, dW_mk, dW_mk, if_pos hl, if_neg (by omega), decide_eq_true hl, decide_eq_false (by omega)]
 exact ⟨rfl, by omega⟩
theorem brk_went (hf : formedB op.toList n s.toList l.length = true) (hl : lvOf op.toList < L) {x : List UInt8} {k : Nat} (h : WentT 0 (.mk op n s l) (d + 1) (c + 1) x k) : WentT L (.mk op n s l) d c ([40] ++ x ++ [41]) (k + 1) := by
 obtain ⟨e1, e2⟩ := tw_brk hf hl
 obtain ⟨h1, h2, h3, h4, h5, h6, h7⟩ := h
 refine ⟨by rw [e1, h1]; simp [catX], h2, by rw [e2]; omega, by omega, ?_, by omega, ?_⟩ <;>
 ·simp only [List.length_append, List.length_cons, List.length_nil]
  omega
theorem brk_no (hf : formedB op.toList n s.toList l.length = true) (hl : lvOf op.toList < L) (h : 20 ≤ d ∨ NoGoT 0 (.mk op n s l) (d + 1) (c + 1)) : NoGoT L (.mk op n s l) d c := fun x hx hN hd => by
 obtain ⟨e1, e2⟩ := tw_brk hf hl
 rw [e2] at hd
 rw [e1] at hx
 obtain ⟨a, b, ha, hb, rfl⟩ := catX_eq hx
 obtain ⟨y, z, hy, hz, rfl⟩ := catX_eq hb
 cases ha; cases hz
 rcases h with h | h
 ·omega
 ·have := h y hy hN (by omega)
  simp only [List.length_append, List.length_cons, List.length_nil]
  omega
theorem tw_low (hf : formedB op.toList n s.toList l.length = true) (hl : ¬ lvOf op.toList < L) : tw L (.mk op n s l) = bareX op n s (twP (lvsOf op.toList l) l) ∧ dW L (.mk op n s l) = bareD op.toList (dWP (lvsOf op.toList l) l) := by
 rw [tw_mk, if_pos hf, dW_mk, if_neg hl, decide_eq_false hl, Nat.zero_add]
 exact ⟨rfl, rfl⟩
theorem nmt_list : NmT (.mk op n s l) ↔ (op.toList = [110, 97, 109, 101] ∨ op.toList = [99, 97, 108, 108] → NmOk s) ∧ ∀ e ∈ l, NmT e := ⟨NmT.part, fun h => NmT.mk _ _ _ _ h.1 h.2⟩
def pairL : List (List UInt8 × Nat × Nat) := [([111, 114], 1, 2), ([120, 111, 114], 1, 2), ([97, 110, 100], 2, 3), ([61], 5, 5), ([60, 62], 5, 5), ([60], 5, 5), ([60, 61], 5, 5), ([62], 5, 5), ([62, 61], 5, 5), ([61, 62], 5, 5), ([43], 5, 6), ([45], 5, 6), ([42], 6, 7), ([47], 6, 7), ([109, 111, 100], 6, 7)]
def arrL : List (List UInt8) := [[45, 62], [102, 98, 121]]
theorem pair_no : ∀ y : List UInt8, (y ∈ arrL ∨ y ∈ pairL.map (·.1)) → y ≠ [105, 110, 116] ∧ y ≠ [116, 114, 117, 101] ∧ y ≠ [102, 97, 108, 115, 101] ∧ y ≠ [110, 97, 109, 101] ∧ y ≠ [99, 97, 108, 108] ∧ y ≠ [105, 102] ∧ y ≠ [110, 101, 103] ∧ ¬ (y = [110, 111, 116] ∨ y = [112, 114, 101]) ∧ y.length ≤ 3 := fun y hy =>
 hy.elim ((by decide : ∀ y ∈ arrL, y ≠ [105, 110, 116] ∧ y ≠ [116, 114, 117, 101] ∧ y ≠ [102, 97, 108, 115, 101] ∧ y ≠ [110, 97, 109, 101] ∧ y ≠ [99, 97, 108, 108] ∧ y ≠ [105, 102] ∧ y ≠ [110, 101, 103] ∧ ¬ (y = [110, 111, 116] ∨ y = [112, 114, 101]) ∧ y.length ≤ 3) y) ((by decide : ∀ y ∈ pairL.map (·.1), y ≠ [105, 110, 116] ∧ y ≠ [116, 114, 117, 101] ∧ y ≠ [102, 97, 108, 115, 101] ∧ y ≠ [110, 97, 109, 101] ∧ y ≠ [99, 97, 108, 108] ∧ y ≠ [105, 102] ∧ y ≠ [110, 101, 103] ∧ ¬ (y = [110, 111, 116] ∨ y = [112, 114, 101]) ∧ y.length ≤ 3) y)
structure TwoIs (op : List UInt8) (M1 M2 δ : Nat) : Prop where
 txt : ∀ (o : ByteArray) (n : Int) (s : ByteArray) (ts : List Tx), o.toList = op → bareX o n s ts = catX (ts.getD 0 none) (catX (some (32 :: (op ++ [32]))) (ts.getD 1 none))
 lvs : ∀ l : List Ex, lvsOf op l = [M1, M2]
 dep : ∀ ds : List Nat, bareD op ds = max (ds.getD 0 0) (ds.getD 1 0 + δ)
 len : op.length ≤ 3
 nn : ¬ (op = [110, 97, 109, 101] ∨ op = [99, 97, 108, 108])
theorem two_txt {y : List UInt8} (h : y ∈ arrL ∨ y ∈ pairL.map (·.1)) (o : ByteArray) (n : Int) (s : ByteArray) (ts : List Tx) (ho : o.toList = y) : bareX o n s ts = catX (ts.getD 0 none) (catX (some (32 :: (y ++ [32]))) (ts.getD 1 none)) := by
 obtain ⟨h1, h2, h3, h4, h5, h6, h7, h8, _⟩ := pair_no y h
 rw [bareX, ho, if_neg h1, if_neg h2, if_neg h3, if_neg h4, if_neg h5, if_neg h6, if_neg h7, if_neg h8, data_list, ho]
theorem two_arr {y : List UInt8} (h : y ∈ arrL) : TwoIs y 1 0 1 := by
 have hn := pair_no y (Or.inl h)
 refine ⟨two_txt (Or.inl h), fun l => ?_, fun ds => ?_, hn.2.2.2.2.2.2.2.2, fun g => g.elim hn.2.2.2.1 hn.2.2.2.2.1⟩
 ·unfold lvsOf
  rw [if_neg hn.2.2.2.2.2.2.1]
  exact (by decide : ∀ y ∈ arrL, psOf y = [1, 0]) y h
 ·simp only [arrL, List.mem_cons, List.not_mem_nil, or_false] at h
  rcases h with rfl | rfl <;> simp [bareD]
theorem two_pair {y : List UInt8} {M1 M2 : Nat} (h : (y, M1, M2) ∈ pairL) : TwoIs y M1 M2 0 := by
 have hm : y ∈ pairL.map (·.1) := List.mem_map.2 ⟨_, h, rfl⟩
 have hn := pair_no y (Or.inr hm)
 refine ⟨two_txt (Or.inr hm), fun l => ?_, fun ds => ?_, hn.2.2.2.2.2.2.2.2, fun g => g.elim hn.2.2.2.1 hn.2.2.2.2.1⟩
 ·unfold lvsOf
  rw [if_neg hn.2.2.2.2.2.2.1]
  exact (by decide : ∀ t ∈ pairL, psOf t.1 = [t.2.1, t.2.2]) _ h
 ·simp only [pairL, List.mem_cons, Prod.mk.injEq, List.not_mem_nil, or_false] at h
  rcases h with ⟨rfl, _⟩ | ⟨rfl, _⟩ | ⟨rfl, _⟩ | ⟨rfl, _⟩ | ⟨rfl, _⟩ | ⟨rfl, _⟩ | ⟨rfl, _⟩ | ⟨rfl, _⟩ | ⟨rfl, _⟩ | ⟨rfl, _⟩ | ⟨rfl, _⟩ | ⟨rfl, _⟩ | ⟨rfl, _⟩ | ⟨rfl, _⟩ | ⟨rfl, _⟩ <;> simp [bareD]
variable {a b : Ex} {M1 M2 δ : Nat}
theorem two_is (ht : TwoIs op.toList M1 M2 δ) (hf : formedB op.toList n s.toList 2 = true) (hl : ¬ lvOf op.toList < L) : tw L (.mk op n s [a, b]) = catX (tw M1 a) (catX (some (32 :: (op.toList ++ [32]))) (tw M2 b)) ∧ dW L (.mk op n s [a, b]) = max (dW M1 a) (dW M2 b + δ) ∧ (NmT (.mk op n s [a, b]) ↔ NmT a ∧ NmT b) := by
 obtain ⟨e1, e2⟩ := tw_low (l := [a, b]) hf hl
 rw [ht.lvs] at e1 e2
 rw [e1, e2, ht.txt op n s _ rfl, ht.dep, twP, twP, twP, dWP, dWP, dWP]
 refine ⟨rfl, rfl, ?_⟩
 rw [nmt_list]
 exact ⟨fun h => ⟨h.2 a (by simp), h.2 b (by simp)⟩, fun h => ⟨fun g => absurd g ht.nn, fun e he => by
  rcases List.mem_cons.1 he with rfl | he
  ·exact h.1
  ·rw [List.mem_singleton.1 he]; exact h.2⟩⟩
theorem two_went (ht : TwoIs op.toList M1 M2 δ) (hf : formedB op.toList n s.toList 2 = true) (hl : ¬ lvOf op.toList < L) {xa xb : List UInt8} {ka kb : Nat} (ha : WentT M1 a d (c + 1) xa ka) (hb : WentT M2 b (d + δ) (c + 1 + ka) xb kb) : WentT L (.mk op n s [a, b]) d c (xa ++ [32] ++ op.toList ++ [32] ++ xb) (1 + ka + kb) := by
 obtain ⟨e1, e2, e3⟩ := two_is (a := a) (b := b) ht hf hl
 obtain ⟨a1, a2, a3, a4, a5, a6, a7⟩ := ha
 obtain ⟨b1, b2, b3, b4, b5, b6, b7⟩ := hb
 have := ht.len
 refine ⟨by rw [e1, a1, b1]; simp [catX], e3.2 ⟨a2, b2⟩, by rw [e2]; omega, by omega, ?_, by omega, ?_⟩ <;>
 ·simp only [List.length_append, List.length_cons, List.length_nil]
  omega
theorem two_no1 (ht : TwoIs op.toList M1 M2 δ) (hf : formedB op.toList n s.toList 2 = true) (hl : ¬ lvOf op.toList < L) (ha : NoGoT M1 a d (c + 1)) : NoGoT L (.mk op n s [a, b]) d c := fun x hx hN hd => by
 obtain ⟨e1, e2, e3⟩ := two_is (a := a) (b := b) ht hf hl
 rw [e2] at hd
 rw [e1] at hx
 obtain ⟨xa, r, h1, h2, rfl⟩ := catX_eq hx
 obtain ⟨m, xb, h3, h4, rfl⟩ := catX_eq h2
 cases h3
 have := ha xa h1 (e3.1 hN).1 (by omega)
 simp only [List.length_append, List.length_cons, List.length_nil]
 omega
theorem two_no2 (ht : TwoIs op.toList M1 M2 δ) (hf : formedB op.toList n s.toList 2 = true) (hl : ¬ lvOf op.toList < L) {xa : List UInt8} {ka : Nat} (ha : WentT M1 a d (c + 1) xa ka) (hb : 20 < d + δ ∨ NoGoT M2 b (d + δ) (c + 1 + ka)) : NoGoT L (.mk op n s [a, b]) d c := fun x hx hN hd => by
 obtain ⟨e1, e2, e3⟩ := two_is (a := a) (b := b) ht hf hl
 rw [e2] at hd
 rw [e1, ha.is] at hx
 obtain ⟨xa', r, h1, h2, rfl⟩ := catX_eq hx
 obtain ⟨m, xb, h3, h4, rfl⟩ := catX_eq h2
 cases h3; cases h1
 have h5 := ha.le
 rcases hb with hb | hb
 ·omega
 ·have := hb xb h4 (e3.1 hN).2 (by omega)
  simp only [List.length_append, List.length_cons, List.length_nil]
  omega
structure OneIs (op : List UInt8) (a : Ex) (M : Nat) (pre : List UInt8) : Prop where
 txt : ∀ (o : ByteArray) (n : Int) (s : ByteArray) (ts : List Tx), o.toList = op → bareX o n s ts = catX (some pre) (ts.getD 0 none)
 lvs : lvsOf op [a] = [M]
 dep : ∀ ds : List Nat, bareD op ds = ds.getD 0 0 + 1
 pos : 1 ≤ pre.length
 len : pre.length ≤ 4
 nn : ¬ (op = [110, 97, 109, 101] ∨ op = [99, 97, 108, 108])
theorem one_not (a : Ex) : OneIs [110, 111, 116] a 3 [110, 111, 116, 32] := by
 refine ⟨fun o n s ts ho => ?_, rfl, fun ds => by simp [bareD], by decide, by decide, by decide⟩
 rw [bareX, ho, data_list, ho]
 rfl
theorem one_pre (a : Ex) : OneIs [112, 114, 101] a 7 [112, 114, 101, 32] := by
 refine ⟨fun o n s ts ho => ?_, rfl, fun ds => by simp [bareD], by decide, by decide, by decide⟩
 rw [bareX, ho, data_list, ho]
 rfl
theorem one_neg (a : Ex) : OneIs [110, 101, 103] a (if a.op.toList = [110, 101, 103] then 8 else 7) [45] := by
 refine ⟨fun o n s ts ho => ?_, ?_, fun ds => by simp [bareD], by decide, by decide, by decide⟩
 ·rw [bareX, ho]
  rfl
 ·unfold lvsOf
  rw [if_pos rfl]
  show (if a.op.toList = [110, 101, 103] then [8] else [7] : List Nat) = _
  split <;> rfl
theorem one_is {M : Nat} {pre : List UInt8} (ht : OneIs op.toList a M pre) (hf : formedB op.toList n s.toList 1 = true) (hl : ¬ lvOf op.toList < L) : tw L (.mk op n s [a]) = catX (some pre) (tw M a) ∧ dW L (.mk op n s [a]) = dW M a + 1 ∧ (NmT (.mk op n s [a]) ↔ NmT a) := by
 obtain ⟨e1, e2⟩ := tw_low (l := [a]) hf hl
 rw [ht.lvs] at e1 e2
 rw [e1, e2, ht.txt op n s _ rfl, ht.dep, twP, twP, dWP, dWP]
 refine ⟨rfl, rfl, ?_⟩
 rw [nmt_list]
 exact ⟨fun h => h.2 a (by simp), fun h => ⟨fun g => absurd g ht.nn, fun e he => by rw [List.mem_singleton.1 he]; exact h⟩⟩
theorem one_went {M : Nat} {pre : List UInt8} (ht : OneIs op.toList a M pre) (hf : formedB op.toList n s.toList 1 = true) (hl : ¬ lvOf op.toList < L) {x : List UInt8} {k : Nat} (ha : WentT M a (d + 1) (c + 1) x k) : WentT L (.mk op n s [a]) d c (pre ++ x) (k + 1) := by
 obtain ⟨e1, e2, e3⟩ := one_is (a := a) ht hf hl
 obtain ⟨a1, a2, a3, a4, a5, a6, a7⟩ := ha
 have := ht.len
 have := ht.pos
 refine ⟨by rw [e1, a1]; simp [catX], e3.2 a2, by rw [e2]; omega, by omega, ?_, by omega, ?_⟩ <;>
 ·simp only [List.length_append]
  omega
theorem one_no {M : Nat} {pre : List UInt8} (ht : OneIs op.toList a M pre) (hf : formedB op.toList n s.toList 1 = true) (hl : ¬ lvOf op.toList < L) (ha : 20 ≤ d ∨ NoGoT M a (d + 1) (c + 1)) : NoGoT L (.mk op n s [a]) d c := fun x hx hN hd => by
 obtain ⟨e1, e2, e3⟩ := one_is (a := a) ht hf hl
 rw [e2] at hd
 rw [e1] at hx
 obtain ⟨p, y, h1, h2, rfl⟩ := catX_eq hx
 cases h1
 rcases ha with ha | ha
 ·omega
 ·have := ha y h2 (e3.1 hN) (by omega)
  have := ht.pos
  simp only [List.length_append]
  omega
theorem if_is {e : Ex} (ho : op.toList = [105, 102]) (hf : formedB op.toList n s.toList 3 = true) (hl : ¬ lvOf op.toList < L) : tw L (.mk op n s [a, b, e]) = catX (some [105, 102, 32]) (catX (tw 0 a) (catX (some [32, 116, 104, 101, 110, 32]) (catX (tw 0 b) (catX (some [32, 101, 108, 115, 101, 32]) (tw 0 e))))) ∧ dW L (.mk op n s [a, b, e]) = max (dW 0 a) (max (dW 0 b) (dW 0 e)) + 1 ∧ (NmT (.mk op n s [a, b, e]) ↔ NmT a ∧ NmT b ∧ NmT e) := by
 obtain ⟨e1, e2⟩ := tw_low (l := [a, b, e]) hf hl
 have hv : lvsOf op.toList [a, b, e] = [0, 0, 0] := by rw [ho]; rfl
 rw [hv] at e1 e2
 rw [e1, e2, twP, twP, twP, twP, dWP, dWP, dWP, dWP, bareX, ho]
 refine ⟨rfl, by simp [bareD], ?_⟩
 rw [nmt_list, ho]
 exact ⟨fun h => ⟨h.2 a (by simp), h.2 b (by simp), h.2 e (by simp)⟩, fun h => ⟨fun g => absurd g (by decide), fun x hx => by
  simp only [List.mem_cons, List.not_mem_nil, or_false] at hx
  rcases hx with rfl | rfl | rfl
  ·exact h.1
  ·exact h.2.1
  ·exact h.2.2⟩⟩
theorem if_went {e : Ex} (ho : op.toList = [105, 102]) (hf : formedB op.toList n s.toList 3 = true) (hl : ¬ lvOf op.toList < L) {xa xb xe : List UInt8} {ka kb ke : Nat} (ha : WentT 0 a (d + 1) (c + 1) xa ka) (hb : WentT 0 b (d + 1) (c + 1 + ka) xb kb) (he : WentT 0 e (d + 1) (c + 1 + ka + kb) xe ke) : WentT L (.mk op n s [a, b, e]) d c ([105, 102, 32] ++ xa ++ [32, 116, 104, 101, 110, 32] ++ xb ++ [32, 101, 108, 115, 101, 32] ++ xe) (1 + ka + kb + ke) := by
 obtain ⟨e1, e2, e3⟩ := if_is (a := a) (b := b) (e := e) ho hf hl
 obtain ⟨a1, a2, a3, a4, a5, a6, a7⟩ := ha
 obtain ⟨b1, b2, b3, b4, b5, b6, b7⟩ := hb
 obtain ⟨c1, c2, c3, c4, c5, c6, c7⟩ := he
 refine ⟨by rw [e1, a1, b1, c1]; simp [catX], e3.2 ⟨a2, b2, c2⟩, by rw [e2]; omega, by omega, ?_, by omega, ?_⟩ <;>
 ·simp only [List.length_append, List.length_cons, List.length_nil]
  omega
theorem if_no {e : Ex} (ho : op.toList = [105, 102]) (hf : formedB op.toList n s.toList 3 = true) (hl : ¬ lvOf op.toList < L) (h : 20 ≤ d ∨ NoGoT 0 a (d + 1) (c + 1) ∨ (∃ xa ka, WentT 0 a (d + 1) (c + 1) xa ka ∧ NoGoT 0 b (d + 1) (c + 1 + ka)) ∨ ∃ xa ka xb kb, WentT 0 a (d + 1) (c + 1) xa ka ∧ WentT 0 b (d + 1) (c + 1 + ka) xb kb ∧ NoGoT 0 e (d + 1) (c + 1 + ka + kb)) : NoGoT L (.mk op n s [a, b, e]) d c := fun x hx hN hd => by
 obtain ⟨e1, e2, e3⟩ := if_is (a := a) (b := b) (e := e) ho hf hl
 rw [e2] at hd
 rw [e1] at hx
 obtain ⟨p1, r1, h1, hr1, rfl⟩ := catX_eq hx
 obtain ⟨xa, r2, hxa, hr2, rfl⟩ := catX_eq hr1
 obtain ⟨p2, r3, h2, hr3, rfl⟩ := catX_eq hr2
 obtain ⟨xb, r4, hxb, hr4, rfl⟩ := catX_eq hr3
 obtain ⟨p3, xe, h3, hxe, rfl⟩ := catX_eq hr4
 cases h1; cases h2; cases h3
 obtain ⟨na, nb, ne⟩ := e3.1 hN
 simp only [List.length_append, List.length_cons, List.length_nil]
 rcases h with h | h | ⟨xa', ka, ha, h⟩ | ⟨xa', ka, xb', kb, ha, hb, h⟩
 ·omega
 ·have := h xa hxa na (by omega)
  omega
 ·obtain rfl : xa = xa' := Option.some.inj (hxa.symm.trans ha.is)
  have := h xb hxb nb (by omega)
  have := ha.le
  omega
 ·obtain rfl : xa = xa' := Option.some.inj (hxa.symm.trans ha.is)
  obtain rfl : xb = xb' := Option.some.inj (hxb.symm.trans hb.is)
  have := h xe hxe ne (by omega)
  have := ha.le
  have := hb.le
  omega
def itoaChk : Nat → Bool
 | 0 => true
 | n + 1 => decide (1 ≤ (Lib.itoa n).length) && decide ((Lib.itoa n).length ≤ 3) && itoaChk n
theorem itoa_len {n : Int} (h0 : 0 ≤ n) (h1 : n ≤ 127) : 1 ≤ (Lib.itoa n).length ∧ (Lib.itoa n).length ≤ 3 := by
 have all : ∀ m k : Nat, itoaChk m = true → k < m → 1 ≤ (Lib.itoa k).length ∧ (Lib.itoa k).length ≤ 3 := by
  intro m
  induction m with
  | zero => intro k _ h; omega
  | succ m ih =>
   intro k h hk
   simp only [itoaChk, Bool.and_eq_true, decide_eq_true_eq] at h
   by_cases e : k = m
   ·rw [e]; exact h.1
   ·exact ih k h.2 (by omega)
 have := all 128 n.toNat (by decide +kernel) (by omega)
 rwa [Int.toNat_of_nonneg h0] at this
theorem int_went (ho : op.toList = [105, 110, 116]) (hf : formedB op.toList n s.toList 0 = true) (hl : ¬ lvOf op.toList < L) (hd : d ≤ 20) (hc : c + 1 ≤ 6000) : WentT L (.mk op n s []) d c (Lib.itoa n) 1 := by
 obtain ⟨e1, e2⟩ := tw_low (l := []) hf hl
 have hd0 : dW L (.mk op n s []) = 0 := by rw [e2, ho]; simp [bareD]
 obtain ⟨h0, h1⟩ := itoa_len ((form_zero hf).2.2 ho).1 ((form_zero hf).2.2 ho).2
 exact ⟨by rw [e1, bareX, if_pos ho], nmt_list.2 ⟨fun g => absurd g (by rw [ho]; decide), fun _ h => by cases h⟩, by rw [hd0]; omega, by omega, by omega, by omega, by omega⟩
theorem bool_went (ho : op.toList = [116, 114, 117, 101] ∨ op.toList = [102, 97, 108, 115, 101]) (hf : formedB op.toList n s.toList 0 = true) (hl : ¬ lvOf op.toList < L) (hd : d ≤ 20) (hc : c + 1 ≤ 6000) : WentT L (.mk op n s []) d c op.toList 1 := by
 obtain ⟨e1, e2⟩ := tw_low (l := []) hf hl
 have hd0 : dW L (.mk op n s []) = 0 := by rw [e2]; rcases ho with ho | ho <;> rw [ho] <;> simp [bareD]
 have hb : bareX op n s (twP (lvsOf op.toList []) []) = some op.toList := by
  rcases ho with ho | ho <;> rw [bareX, data_list, ho] <;> rfl
 have hz : op.toList.length = 4 ∨ op.toList.length = 5 := by rcases ho with ho | ho <;> rw [ho] <;> simp
 exact ⟨by rw [e1, hb], nmt_list.2 ⟨fun g => absurd g (by rcases ho with ho | ho <;> rw [ho] <;> decide), fun _ h => by cases h⟩, by rw [hd0]; omega, by omega, by omega, by omega, by omega⟩
theorem name_is (ho : op.toList = [110, 97, 109, 101]) (hf : formedB op.toList n s.toList 0 = true) (hl : ¬ lvOf op.toList < L) : tw L (.mk op n s []) = some s.toList ∧ dW L (.mk op n s []) = 0 ∧ (NmT (.mk op n s []) ↔ NmOk s) := by
 obtain ⟨e1, e2⟩ := tw_low (l := []) hf hl
 refine ⟨by rw [e1, bareX, data_list op, data_list s, ho]; rfl, by rw [e2, ho]; simp [bareD], ?_⟩
 rw [nmt_list]
 exact ⟨fun h => h.1 (Or.inl ho), fun h => ⟨fun _ => h, fun _ h => by cases h⟩⟩
theorem name_went (ho : op.toList = [110, 97, 109, 101]) (hf : formedB op.toList n s.toList 0 = true) (hl : ¬ lvOf op.toList < L) (hd : d ≤ 20) (hc : c + 1 ≤ 6000) (hs : NmOk s) : WentT L (.mk op n s []) d c s.toList 1 := by
 obtain ⟨e1, e2, e3⟩ := name_is ho hf hl
 have h1 := hs.pos
 have h2 := hs.len
 have h3 : s.toList.length = s.size := bytes_len s
 exact ⟨e1, e3.2 hs, by rw [e2]; omega, by omega, by omega, by omega, by omega⟩
theorem name_no (ho : op.toList = [110, 97, 109, 101]) (hf : formedB op.toList n s.toList 0 = true) (hl : ¬ lvOf op.toList < L) (hs : ¬ NmOk s) : NoGoT L (.mk op n s []) d c := fun _ _ hN _ => absurd ((name_is ho hf hl).2.2.1 hN) hs
theorem call_is (ho : op.toList = [99, 97, 108, 108]) (hf : formedB op.toList n s.toList l.length = true) (hl : ¬ lvOf op.toList < L) : tw L (.mk op n s l) = catX (some (s.toList ++ [40])) (catX (lstX argX 0 (twP [] l)) (some [41])) ∧ dW L (.mk op n s l) = (dWP [] l).foldr max 0 + 1 ∧ (NmT (.mk op n s l) ↔ NmOk s ∧ ∀ e ∈ l, NmT e) := by
 obtain ⟨e1, e2⟩ := tw_low (l := l) hf hl
 have hv : lvsOf op.toList l = [] := by rw [ho]; rfl
 rw [hv] at e1 e2
 refine ⟨by rw [e1, bareX, data_list op, data_list s, ho]; rfl, by rw [e2, ho]; simp [bareD], ?_⟩
 rw [nmt_list]
 exact ⟨fun h => ⟨h.1 (Or.inr ho), h.2⟩, fun h => ⟨fun _ => h.1, h.2⟩⟩
theorem max_le : ∀ (ds : List Nat) (m : Nat), (∀ k, k < ds.length → ds.getD k 0 ≤ m) → ds.foldr max 0 ≤ m
 | [], _, _ => Nat.zero_le _
 | a :: r, m, h => by
  rw [List.foldr_cons]
  have h1 : a ≤ m := h 0 (by simp)
  have h2 := max_le r m fun k hk => h (k + 1) (by simpa using hk)
  omega
theorem le_max : ∀ (ds : List Nat) (k : Nat), k < ds.length → ds.getD k 0 ≤ ds.foldr max 0
 | [], _, h => by cases h
 | a :: r, 0, _ => by rw [List.foldr_cons]; exact Nat.le_max_left _ _
 | a :: r, k + 1, h => by
  rw [List.foldr_cons]
  have := le_max r k (by simpa using h)
  simp only [List.getD_cons_succ]
  omega
theorem dWP_length : ∀ (l : List Ex) (ks : List Nat), (dWP ks l).length = l.length
 | [], _ => by rw [dWP]; rfl
 | e :: es, ks => by rw [dWP, List.length_cons, List.length_cons, dWP_length es]
theorem part_deep {i : Nat} (hi : i < l.length) : dW 0 l[i] ≤ (dWP [] l).foldr max 0 := by
 have h := le_max (dWP [] l) i (by rw [dWP_length]; exact hi)
 rwa [dWP_get l [] i hi] at h
theorem parts_deep {m : Nat} (h : ∀ i (hi : i < l.length), dW 0 l[i] ≤ m) : (dWP [] l).foldr max 0 ≤ m := max_le _ _ fun k hk => by
 rw [dWP_length] at hk
 rw [dWP_get l [] k hk]
 exact h k hk
structure CallSo (l : List Ex) (d c i : Nat) (y : List UInt8) (K : Nat) : Prop where
 txt : lstX argX 0 (twP [] l) = catX (some y) (lstX argX i ((twP [] l).drop i))
 nm : ∀ j (hj : j < l.length), j < i → NmT l[j]
 deep : ∀ j (hj : j < l.length), j < i → d + dW 0 l[j] ≤ 20
 le : K ≤ y.length
 room : c + K ≤ 6000
 len : y.length ≤ 40 * K
theorem CallSo.start (hc : c ≤ 6000) : CallSo l d c 0 [] 0 := ⟨by rw [catX_nil, List.drop_zero], fun j _ h => by omega, fun j _ h => by omega, by simp, by omega, by simp⟩
theorem CallSo.next {i K k : Nat} {y x : List UInt8} (h : CallSo l d c i y K) (hi : i < l.length) (hx : WentT 0 l[i] d (c + K) x k) : CallSo l d c (i + 1) (y ++ ((if 0 < i then [44, 32] else []) ++ x)) (K + k) := by
 obtain ⟨h1, h2, h3, h4, h5, h6⟩ := h
 obtain ⟨a1, a2, a3, a4, a5, a6, a7⟩ := hx
 have hi' : i < (twP [] l).length := by rw [twP_length]; exact hi
 have hg : (twP [] l)[i] = some x := by
  have := twP_get l [] i hi
  rw [List.getElem?_eq_getElem hi'] at this
  rw [Option.some.inj this, ← a1]
  rfl
 have hq : argX i (twP [] l)[i] = some ((if 0 < i then [44, 32] else []) ++ x) := by
  rw [hg, argX, sepX]
  split <;> rfl
 have hz : (if 0 < i then [44, 32] else [] : List UInt8).length ≤ 2 := by split <;> simp
 refine ⟨lst_next hi' h1 hq, fun j hj hlt => ?_, fun j hj hlt => ?_, ?_, by omega, ?_⟩
 ·by_cases e : j = i
  ·subst e; exact a2
  ·exact h2 j hj (by omega)
 ·by_cases e : j = i
  ·subst e; exact a3
  ·exact h3 j hj (by omega)
 ·simp only [List.length_append]; omega
 ·simp only [List.length_append]; omega
theorem call_went (ho : op.toList = [99, 97, 108, 108]) (hf : formedB op.toList n s.toList l.length = true) (hl : ¬ lvOf op.toList < L) (hs : NmOk s) (hd : d < 20) {y : List UInt8} {K : Nat} (h : CallSo l (d + 1) (c + 1) l.length y K) : WentT L (.mk op n s l) d c (s.toList ++ [40] ++ y ++ [41]) (K + 1) := by
 obtain ⟨e1, e2, e3⟩ := call_is (l := l) ho hf hl
 obtain ⟨h1, h2, h3, h4, h5, h6⟩ := h
 have z1 := hs.pos
 have z2 := hs.len
 have z3 : s.toList.length = s.size := bytes_len s
 have hy := lst_done (by rw [twP_length]; exact Nat.le_refl _) h1
 have hD : (dWP [] l).foldr max 0 ≤ 19 - d := parts_deep fun i hi => by
  have := h3 i hi hi
  omega
 refine ⟨by rw [e1, hy]; simp [catX], e3.2 ⟨hs, fun e he => ?_⟩, by rw [e2]; omega, by omega, ?_, by omega, ?_⟩
 ·obtain ⟨i, hi, rfl⟩ := List.mem_iff_getElem.1 he
  exact h2 i hi hi
 ·simp only [List.length_append, List.length_cons, List.length_nil]; omega
 ·simp only [List.length_append, List.length_cons, List.length_nil]; omega
theorem call_no (ho : op.toList = [99, 97, 108, 108]) (hf : formedB op.toList n s.toList l.length = true) (hl : ¬ lvOf op.toList < L) (h : ¬ NmOk s ∨ 20 ≤ d ∨ ∃ i y K, CallSo l (d + 1) (c + 1) i y K ∧ ∃ hi : i < l.length, NoGoT 0 l[i] (d + 1) (c + 1 + K)) : NoGoT L (.mk op n s l) d c := fun x hx hN hd => by
 obtain ⟨e1, e2, e3⟩ := call_is (l := l) ho hf hl
 rw [e2] at hd
 rcases h with h | h | ⟨i, y, K, ⟨h1, h2, h3, h4, h5, h6⟩, hi, h⟩
 ·exact absurd (e3.1 hN).1 h
 ·omega
 ·rw [e1, h1] at hx
  have hi' : i < (twP [] l).length := by rw [twP_length]; exact hi
  rw [lstX_drop _ hi'] at hx
  obtain ⟨p, r1, hp, hr1, rfl⟩ := catX_eq hx
  obtain ⟨r2, q, hr2, hq, rfl⟩ := catX_eq hr1
  obtain ⟨y', r3, hy', hr3, rfl⟩ := catX_eq hr2
  obtain ⟨z, r4, hz, hr4, rfl⟩ := catX_eq hr3
  cases hp; cases hq; cases hy'
  obtain ⟨sp, u, hsp, hu, rfl⟩ := catX_eq (show catX (sepX [44, 32] i) (twP [] l)[i] = some z from hz)
  have hg : (twP [] l)[i] = tw 0 l[i] := by
   have := twP_get l [] i hi
   rw [List.getElem?_eq_getElem hi'] at this
   rw [Option.some.inj this]
   rfl
  have hdp := part_deep hi
  have := h u (hg ▸ hu) ((e3.1 hN).2 _ (List.getElem_mem hi)) (by omega)
  simp only [List.length_append, List.length_cons, List.length_nil]
  omega
end
end Go.Proofs.YtgbpccipdcajgaaGreatDoor
