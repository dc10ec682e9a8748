/-
  WHAT THE WRITER WRITES OF A TERM IS WRITTEN AS THE GRAMMAR HAS IT, IN PLAIN MATHEMATICS.
-/
import Derived.Test.YtglkpgcmlbhkpabGreatDoorQ33
import Derived.Test.YtglkpgcmlbhkpabGreatDoorQ34
import Derived.Test.YtglkpgcmlbhkpabGreatDoorQ35
namespace Go.Proofs.YtglkpgcmlbhkpabGreatDoor

def intChk (n : Nat) : Bool := let x := Lib.itoa (n : Int); !x.isEmpty && x.all (fun c => digI c.toNat) && decide (valL x ≤ 127) && !(decide (1 < x.length) && (x.head?.map (·.toNat) == some 48)) && decOf x == (n : Int)
theorem intChk_all : ∀ n, n < 128 → intChk n = true := by decide +kernel
theorem IntOk.of {n : Int} (h0 : 0 ≤ n) (h1 : n ≤ 127) : IntOk ⟨(Lib.itoa n).toArray⟩ n := by
  obtain ⟨m, rfl⟩ := Int.eq_ofNat_of_zero_le h0
  have h := intChk_all m (by omega)
  simp only [intChk, Bool.and_eq_true, decide_eq_true_eq, beq_iff_eq, Bool.not_eq_true', List.all_eq_true] at h
  obtain ⟨⟨⟨⟨a1, a2⟩, a3⟩, a4⟩, a5⟩ := h
  have hs : (⟨(Lib.itoa m).toArray⟩ : ByteArray).toList = Lib.itoa m := by rw [ByteArray.toList_eq]
  have hz : (⟨(Lib.itoa m).toArray⟩ : ByteArray).size = (Lib.itoa m).length := by rw [← bytes_len, hs]
  have hp : 0 < (Lib.itoa (m : Int)).length := by
    rcases hx : Lib.itoa (m : Int) with _ | ⟨c, r⟩
    · rw [hx] at a1; cases a1
    · simp
  refine ⟨by omega, fun k hk => ?_, ?_, by rw [hs]; exact a5⟩
  · rw [byteI_list (by rw [hs]; omega)]
    simp only [hs]
    exact a2 _ (List.getElem_mem (by omega))
  · have a3' : valL (⟨(Lib.itoa m).toArray⟩ : ByteArray).data.toList ≤ 127 := a3
    simp only [intB, a3', decide_true, Bool.true_and, hz]
    rw [Bool.not_eq_true']
    rcases Bool.and_eq_false_iff.1 a4 with h | h
    · rw [h]; rfl
    · rw [Bool.and_eq_false_iff]
      right
      rw [byteI_list (by rw [hs]; omega)]
      simp only [hs]
      rw [List.head?_eq_getElem?, List.getElem?_eq_getElem hp] at h
      simp only [Option.map_some, beq_eq_false_iff_ne, ne_eq, Option.some.injEq] at h
      rw [beq_eq_false_iff_ne]
      omega
theorem sOf_eq {s : ByteArray} {x : List UInt8} (h : s.toList = x) : s = sOf x := by rw [← h, sOf_bytes]
theorem data_list (s : ByteArray) : s.data.toList = s.toList := by rw [ByteArray.toList_eq]
theorem nil_of {s : ByteArray} (h : s.toList = []) : s = b0 := by rw [sOf_eq h]; rfl
/-- No minus stands first, where no sign may. -/
theorem Pr.head45 {L k : Nat} {e : Ex} {p : List Pc} {x : List UInt8} (h : Pr L e k p x) (hL : 7 ≤ L) (hn : e.op.toList ≠ [110, 101, 103] ∨ 8 ≤ L) : x.head? ≠ some 45 := by
  have nm : ∀ {s : ByteArray} (r : List UInt8), NmOk s → (s.toList ++ r).head? ≠ some 45 := fun {s} r hs e => by
    have hl := bytes_len s
    have hp := hs.pos
    have h0 := hs.low
    rw [byteI_list (by omega)] at h0
    rcases hx : s.toList with _ | ⟨c, y⟩
    · rw [hx] at hl; simp at hl; omega
    · rw [hx] at e
      simp only [List.cons_append, List.head?_cons, Option.some.injEq] at e
      subst e
      simp only [hx, List.getElem_cons_zero] at h0
      cases h0
  cases h with
  | brk => intro e; cases e
  | int _ t n _ ht =>
    intro e
    have hl := bytes_len t
    have hp := ht.pos
    have h0 := ht.all 0 hp
    rw [byteI_list (by omega)] at h0
    rcases hx : t.toList with _ | ⟨c, y⟩
    · rw [hx] at hl; simp at hl; omega
    · rw [hx] at e
      simp only [List.head?_cons, Option.some.injEq] at e
      subst e
      simp only [hx, List.getElem_cons_zero] at h0
      cases h0
  | bool _ y _ hy =>
    simp only [List.mem_cons, List.not_mem_nil, or_false] at hy
    rcases hy with rfl | rfl <;> (intro e; cases e)
  | name _ s _ hs => have := nm [] hs; rwa [List.append_nil] at this
  | call _ s ps _ hs _ => exact nm _ hs
  | cond => omega
  | arrow => omega
  | left _ v y a b ka kb pa pb xa xb hl => exfalso; have : v.num ≤ 6 := (by cases v <;> decide); omega
  | cmp => omega
  | not => omega
  | neg => rcases hn with h | h
           · exact absurd (by rw [show Ex.op (.mk sNeg 0 b0 _) = sNeg from rfl, ByteArray.toList_eq]; rfl) h
           · omega
  | pre => intro e; cases e
theorem Pr.loose {L M k : Nat} {e : Ex} {p : List Pc} {x : List UInt8} (h : Pr L e k p x) (hM : M ≤ L) : Pr M e k p x := by
  cases h with
  | brk _ k e p x h1 h2 => exact .brk M _ _ _ _ (by omega) h2
  | int _ t n h1 h2 => exact .int M t n (by omega) h2
  | bool _ y h1 h2 => exact .bool M _ (by omega) h2
  | name _ s h1 h2 => exact .name M s (by omega) h2
  | call _ s ps h1 h2 h3 => exact .call M s ps (by omega) h2 h3
  | cond a b c ka kb kc pa pb pc xa xb xc h1 h2 h3 =>
    obtain rfl : M = 0 := by omega
    exact .cond a b c ka kb kc pa pb pc xa xb xc h1 h2 h3
  | arrow y a b ka kb pa pb xa xb h1 h2 h3 =>
    obtain rfl : M = 0 := by omega
    exact .arrow y a b ka kb pa pb xa xb h1 h2 h3
  | left _ v y a b ka kb pa pb xa xb h0 h1 h2 h3 => exact .left M v y a b ka kb pa pb xa xb (by omega) h1 h2 h3
  | cmp _ y a b ka kb pa pb xa xb h0 h1 h2 h3 => exact .cmp M y a b ka kb pa pb xa xb (by omega) h1 h2 h3
  | not _ a k p x h0 h1 => exact .not M a _ _ _ (by omega) h1
  | neg _ a k p x h0 h1 h2 => exact .neg M a _ _ _ (by omega) h1 h2
  | pre _ a k p x h0 h1 => exact .pre M a _ _ _ (by omega) h1
/-- The parts of a list, written. -/
theorem args_pr : ∀ (l : List Ex) (i : Nat) (z : List UInt8), lstX argX i (twP [] l) = some z → (∀ e ∈ l, ∀ x, tw 0 e = some x → ∃ k p, Pr 0 e k p x) → ∃ ps : List Part, (∀ q ∈ ps, Pr 0 q.1 q.2.1 q.2.2.1 q.2.2.2) ∧ ps.map (·.1) = l ∧ z = (if 0 < i ∧ ps ≠ [] then tComma ++ (32 :: joinX ps) else joinX ps)
  | [], i, z, hz, _ => by
    rw [twP] at hz
    cases hz
    exact ⟨[], (fun _ h => by cases h), rfl, by simp [joinX]⟩
  | e :: es, i, z, hz, ih => by
    rw [twP] at hz
    obtain ⟨a, b, ha, hb, rfl⟩ := catX_eq hz
    obtain ⟨c, x, hc, hx, rfl⟩ := catX_eq ha
    obtain ⟨k, p, hp⟩ := ih e List.mem_cons_self x hx
    obtain ⟨ps, h1, h2, rfl⟩ := args_pr es (i + 1) b hb fun e he => ih e (List.mem_cons_of_mem _ he)
    have hj : joinX ((e, k, p, x) :: ps) = x ++ (if 0 < i + 1 ∧ ps ≠ [] then tComma ++ (32 :: joinX ps) else joinX ps) := by
      match ps with
      | [] => simp [joinX]
      | q :: r => simp [joinX]
    refine ⟨(e, k, p, x) :: ps, fun q hq => (List.mem_cons.1 hq).elim (fun h => by rw [h]; exact hp) (h1 q), by simp [h2], ?_⟩
    rw [hj]
    unfold sepX at hc
    by_cases hi : 0 < i
    · rw [if_pos hi] at hc
      cases hc
      rw [if_pos (show 0 < i ∧ ((e, k, p, x) :: ps) ≠ [] from ⟨hi, by simp⟩)]
      simp [tComma]
    · rw [if_neg hi] at hc
      cases hc
      rw [if_neg (show ¬ (0 < i ∧ ((e, k, p, x) :: ps) ≠ []) from fun h => hi h.1)]
      simp
theorem NmT.part {op : ByteArray} {n : Int} {s : ByteArray} {l : List Ex} (h : NmT (.mk op n s l)) : (op.toList = [110, 97, 109, 101] ∨ op.toList = [99, 97, 108, 108] → NmOk s) ∧ ∀ e ∈ l, NmT e := by
  cases h with
  | mk _ _ _ _ h1 h2 => exact ⟨h1, h2⟩
theorem form_zero {op : ByteArray} {n : Int} {s : ByteArray} {m : Nat} (h : formedB op.toList n s.toList m = true) : (op.toList ≠ [105, 110, 116] → n = 0) ∧ (op.toList ≠ [110, 97, 109, 101] → op.toList ≠ [99, 97, 108, 108] → s = b0) ∧ (op.toList = [105, 110, 116] → 0 ≤ n ∧ n ≤ 127) := by
  simp only [formedB, Bool.and_eq_true] at h
  obtain ⟨_, h⟩ := h
  by_cases h1 : (op.toList == tIntL) = true
  · rw [if_pos h1] at h
    have e1 : op.toList = [105, 110, 116] := beq_iff_eq.1 h1
    simp only [Bool.and_eq_true, decide_eq_true_eq, beq_iff_eq] at h
    exact ⟨fun g => absurd e1 g, fun _ _ => nil_of h.2, fun _ => h.1⟩
  · rw [if_neg h1] at h
    have e1 : op.toList ≠ [105, 110, 116] := fun e => h1 (beq_iff_eq.2 e)
    by_cases h2 : (op.toList == tNameL || op.toList == tCallL) = true
    · rw [if_pos h2] at h
      have e2 : op.toList = [110, 97, 109, 101] ∨ op.toList = [99, 97, 108, 108] := (Bool.or_eq_true _ _ ▸ h2 : (op.toList == tNameL) = true ∨ (op.toList == tCallL) = true).imp (fun h => beq_iff_eq.1 h) (fun h => beq_iff_eq.1 h)
      exact ⟨fun _ => by simpa using h, fun g1 g2 => (e2.elim (fun e => absurd e g1) (fun e => absurd e g2)), fun g => absurd g e1⟩
    · rw [if_neg h2] at h
      simp only [Bool.and_eq_true, beq_iff_eq] at h
      exact ⟨fun _ => h.1, fun _ _ => nil_of h.2, fun g => absurd g e1⟩
theorem form_len {op : ByteArray} {n : Int} {s : ByteArray} {m : Nat} (h : formedB op.toList n s.toList m = true) (hc : op.toList ≠ [99, 97, 108, 108]) : ∃ t ∈ shapeL, op.toList = t.1 ∧ t.2.2.length = m := (formedB_of h).resolve_left hc
/-- WHAT THE WRITER WRITES OF A TERM IS WRITTEN AS THE GRAMMAR HAS IT. -/
theorem tw_pr : ∀ (m : Nat) (op : ByteArray) (n : Int) (s : ByteArray) (l : List Ex), SizeOf.sizeOf l < m → NmT (.mk op n s l) → ∀ (L : Nat) (x : List UInt8), L ≤ 8 → tw L (.mk op n s l) = some x → ∃ k p, Pr L (.mk op n s l) k p x
  | 0, _, _, _, _, h, _, _, _, _, _ => absurd h (by omega)
  | m + 1, op, n, s, l, hm, hN, L, x, hL, hx => by
    rw [tw_mk] at hx
    split at hx
    rotate_left
    · cases hx
    rename_i hf
    obtain ⟨y, hy, _, hxy⟩ := brkX_some hx
    obtain ⟨hN1, hN2⟩ := hN.part
    obtain ⟨fz, fs, fi⟩ := form_zero hf
    have ih : ∀ (i : Nat) (hi : i < l.length) (M : Nat) (z : List UInt8), M ≤ 8 → tw M l[i] = some z → ∃ k p, Pr M l[i] k p z := fun i hi M z hM hz => by
      obtain ⟨op', n', s', es, he⟩ : ∃ op n s es, l[i] = .mk op n s es := ⟨l[i].op, l[i].n, l[i].s, l[i].l, by cases l[i]; rfl⟩
      have hsz := size_part hi he
      have hn := hN2 l[i] (List.getElem_mem hi)
      rw [he] at hz hn ⊢
      exact tw_pr m op' n' s' es (by omega) hn M z hM hz
    suffices hall : ∀ M, M ≤ lvOf op.toList → ∃ k p, Pr M (.mk op n s l) k p y by
      by_cases hlt : lvOf op.toList < L
      · obtain ⟨k, p, hp⟩ := hall 0 (by omega)
        rw [if_pos (by simpa using hlt)] at hxy
        rw [hxy]
        exact ⟨_, _, Pr.brk L k _ p y hL hp⟩
      · rw [if_neg (by simpa using hlt)] at hxy
        rw [hxy]
        exact hall L (by omega)
    intro M hM
    by_cases hcall : op.toList = [99, 97, 108, 108]
    · have hlv : lvOf op.toList = 8 := by rw [hcall]; decide
      have hv : lvsOf op.toList l = [] := by unfold lvsOf; rw [if_neg (by rw [hcall]; decide), hcall]; decide
      rw [bareX, if_neg (by rw [hcall]; decide), if_neg (by rw [hcall]; decide), if_neg (by rw [hcall]; decide), if_neg (by rw [hcall]; decide), if_pos hcall, hv] at hy
      obtain ⟨a, b, ha, hb, rfl⟩ := catX_eq hy
      obtain ⟨z, c, hz, hc, rfl⟩ := catX_eq hb
      cases ha; cases hc
      obtain ⟨ps, h1, h2, rfl⟩ := args_pr l 0 z hz fun e he x hx => by
        obtain ⟨i, hi, rfl⟩ := List.mem_iff_getElem.1 he
        exact ih i hi 0 x (by omega) hx
      have := Pr.call M s ps (by omega) (hN1 (Or.inr hcall)) h1
      rw [h2] at this
      obtain rfl : n = 0 := fz (by rw [hcall]; decide)
      rw [show op = sCall from (sOf_eq hcall)]
      rw [if_neg (by simp)]
      have e : s.data.toList ++ [40] ++ (joinX ps ++ [41]) = s.toList ++ (tOpen ++ (joinX ps ++ tShut)) := by rw [data_list, List.append_assoc]; rfl
      rw [e]
      exact ⟨_, _, this⟩
    · obtain ⟨t, ht, hop, hlen⟩ := form_len hf hcall
      have hlv : lvOf op.toList = t.2.1 := by rw [hop]; exact (shape_lv ht).1
      have hv : op.toList ≠ [110, 101, 103] → lvsOf op.toList l = t.2.2 := fun hne => by unfold lvsOf; rw [if_neg hne, hop]; exact (shape_lv ht).2
      have eop : op = sOf t.1 := sOf_eq hop
      rw [hlv] at hM
      have two : ∀ {y' : List UInt8} {M1 M2 : Nat}, t.1 = y' → t.2.2 = [M1, M2] → M1 ≤ 8 → M2 ≤ 8 → op.toList ≠ [105, 110, 116] → op.toList ≠ [116, 114, 117, 101] → op.toList ≠ [102, 97, 108, 115, 101] → op.toList ≠ [110, 97, 109, 101] → op.toList ≠ [105, 102] → op.toList ≠ [110, 101, 103] → op.toList ≠ [110, 111, 116] → op.toList ≠ [112, 114, 101] → ∃ (a b : Ex) (ka kb : Nat) (pa pb : List Pc) (xa xb : List UInt8), l = [a, b] ∧ Pr M1 a ka pa xa ∧ Pr M2 b kb pb xb ∧ y = xa ++ (32 :: (y' ++ (32 :: xb))) ∧ n = 0 ∧ s = b0 ∧ op = sOf y' := by
        intro y' M1 M2 hy' hps hM1 hM2 n1 n2 n3 n4 n5 n6 n7 n8
        rw [hps] at hlen
        match l, hlen, ih, hy, hv, fz, fs with
        | [a, b], _, ih, hy, hv, fz, fs =>
          rw [hv n6, hps, bareX, if_neg n1, if_neg n2, if_neg n3, if_neg n4, if_neg hcall, if_neg n5, if_neg n6, if_neg (fun h => h.elim n7 n8)] at hy
          obtain ⟨xa, r, hxa, hr, rfl⟩ := catX_eq hy
          obtain ⟨c, xb, hc, hxb, rfl⟩ := catX_eq hr
          cases hc
          have hxa' : tw M1 a = some xa := by rw [← hxa, twP]; rfl
          have hxb' : tw M2 b = some xb := by rw [← hxb, twP, twP]; rfl
          obtain ⟨ka, pa, ha⟩ := ih 0 (by simp) M1 xa hM1 hxa'
          obtain ⟨kb, pb, hb⟩ := ih 1 (by simp) M2 xb hM2 hxb'
          refine ⟨a, b, ka, kb, pa, pb, xa, xb, rfl, ha, hb, ?_, fz n1, fs n4 hcall, by rw [eop, hy']⟩
          rw [data_list, hop, hy']
          simp
      have one : ∀ {M1 : Nat} (pre : List UInt8), M1 ≤ 8 → l.length = 1 → (lvsOf op.toList l).getD 0 0 = M1 → bareX op n s (twP (lvsOf op.toList l) l) = catX (some pre) ((twP (lvsOf op.toList l) l).getD 0 none) → ∃ (a : Ex) (k : Nat) (p : List Pc) (x : List UInt8), l = [a] ∧ Pr M1 a k p x ∧ y = pre ++ x := by
        intro M1 pre hM1 h1 hlv1 hb
        rw [hb] at hy
        obtain ⟨c, x, hc, hx, rfl⟩ := catX_eq hy
        cases hc
        rw [twP_getD (by omega), hlv1] at hx
        obtain ⟨k, p, hp⟩ := ih 0 (by omega) M1 x hM1 hx
        match l, h1, hp with
        | [a], _, hp => exact ⟨a, k, p, x, rfl, hp, rfl⟩
      have leaf : t.2.2 = [] → l = [] := fun h => by rw [h] at hlen; exact List.length_eq_zero_iff.1 hlen.symm
      have hM8 : M ≤ 8 := by
        have : t.2.1 ≤ 8 := (by decide : ∀ t ∈ shapeL, t.2.1 ≤ 8) t ht
        omega
      simp only [shapeL, List.mem_cons, List.not_mem_nil, or_false] at ht
      rcases ht with rfl | rfl | rfl | rfl | rfl | rfl | rfl | rfl | rfl | rfl | rfl | rfl | rfl | rfl | rfl | rfl | rfl | rfl | rfl | rfl | rfl | rfl | rfl | rfl | rfl
      · obtain rfl := leaf rfl
        rw [bareX, if_pos hop] at hy
        cases hy
        obtain rfl : s = b0 := fs (by rw [hop]; decide) hcall
        obtain ⟨i0, i1⟩ := fi hop
        have h1 := Pr.int M _ n hM8 (IntOk.of i0 i1)
        rw [show (⟨(Lib.itoa n).toArray⟩ : ByteArray).toList = Lib.itoa n from by rw [ByteArray.toList_eq]] at h1
        rw [eop]
        exact ⟨_, _, h1⟩
      · obtain rfl := leaf rfl
        rw [bareX, if_neg (by rw [hop]; decide), if_pos hop] at hy
        cases hy
        obtain rfl : s = b0 := fs (by rw [hop]; decide) hcall
        obtain rfl : n = 0 := fz (by rw [hop]; decide)
        have h1 := Pr.bool M [116, 114, 117, 101] hM8 (by decide)
        rw [data_list, hop, eop]
        exact ⟨_, _, h1⟩
      · obtain rfl := leaf rfl
        rw [bareX, if_neg (by rw [hop]; decide), if_neg (by rw [hop]; decide), if_pos hop] at hy
        cases hy
        obtain rfl : s = b0 := fs (by rw [hop]; decide) hcall
        obtain rfl : n = 0 := fz (by rw [hop]; decide)
        have h1 := Pr.bool M [102, 97, 108, 115, 101] hM8 (by decide)
        rw [data_list, hop, eop]
        exact ⟨_, _, h1⟩
      · obtain rfl := leaf rfl
        rw [bareX, if_neg (by rw [hop]; decide), if_neg (by rw [hop]; decide), if_neg (by rw [hop]; decide), if_pos hop] at hy
        cases hy
        obtain rfl : n = 0 := fz (by rw [hop]; decide)
        have h1 := Pr.name M s hM8 (hN1 (Or.inl hop))
        rw [data_list, eop]
        exact ⟨_, _, h1⟩
      · obtain rfl : M = 0 := by simpa using hM
        obtain rfl : s = b0 := fs (by rw [hop]; decide) hcall
        obtain rfl : n = 0 := fz (by rw [hop]; decide)
        match l, hlen, ih, hy, hv with
        | [a, b, c], _, ih, hy, hv =>
          rw [hv (by rw [hop]; decide), bareX, if_neg (by rw [hop]; decide), if_neg (by rw [hop]; decide), if_neg (by rw [hop]; decide), if_neg (by rw [hop]; decide), if_neg (by rw [hop]; decide), if_pos hop] at hy
          obtain ⟨c1, r1, hc1, hr1, rfl⟩ := catX_eq hy
          obtain ⟨xa, r2, hxa, hr2, rfl⟩ := catX_eq hr1
          obtain ⟨c2, r3, hc2, hr3, rfl⟩ := catX_eq hr2
          obtain ⟨xb, r4, hxb, hr4, rfl⟩ := catX_eq hr3
          obtain ⟨c3, xc, hc3, hxc, rfl⟩ := catX_eq hr4
          cases hc1; cases hc2; cases hc3
          obtain ⟨ka, pa, ha⟩ := ih 0 (by simp) 0 xa (by omega) (by rw [← hxa, twP]; rfl)
          obtain ⟨kb, pb, hb⟩ := ih 1 (by simp) 0 xb (by omega) (by rw [← hxb, twP, twP]; rfl)
          obtain ⟨kc, pc, hc⟩ := ih 2 (by simp) 0 xc (by omega) (by rw [← hxc, twP, twP, twP]; rfl)
          rw [eop]
          exact ⟨_, _, Pr.cond a b c ka kb kc pa pb pc xa xb xc ha hb hc⟩
      · obtain ⟨a, b, ka, kb, pa, pb, xa, xb, rfl, ha, hb, rfl, rfl, rfl, rfl⟩ := two rfl rfl (by omega) (by omega) (by rw [hop]; decide) (by rw [hop]; decide) (by rw [hop]; decide) (by rw [hop]; decide) (by rw [hop]; decide) (by rw [hop]; decide) (by rw [hop]; decide) (by rw [hop]; decide)
        obtain rfl : M = 0 := by simpa using hM
        exact ⟨_, _, Pr.arrow [45, 62] a b ka kb pa pb xa xb (by decide) ha hb⟩
      · obtain ⟨a, b, ka, kb, pa, pb, xa, xb, rfl, ha, hb, rfl, rfl, rfl, rfl⟩ := two rfl rfl (by omega) (by omega) (by rw [hop]; decide) (by rw [hop]; decide) (by rw [hop]; decide) (by rw [hop]; decide) (by rw [hop]; decide) (by rw [hop]; decide) (by rw [hop]; decide) (by rw [hop]; decide)
        obtain rfl : M = 0 := by simpa using hM
        exact ⟨_, _, Pr.arrow [102, 98, 121] a b ka kb pa pb xa xb (by decide) ha hb⟩
      · obtain ⟨a, b, ka, kb, pa, pb, xa, xb, rfl, ha, hb, rfl, rfl, rfl, rfl⟩ := two rfl rfl (by omega) (by omega) (by rw [hop]; decide) (by rw [hop]; decide) (by rw [hop]; decide) (by rw [hop]; decide) (by rw [hop]; decide) (by rw [hop]; decide) (by rw [hop]; decide) (by rw [hop]; decide)
        exact ⟨_, _, Pr.left M .or [111, 114] a b ka kb pa pb xa xb hM (by decide) ha hb⟩
      · obtain ⟨a, b, ka, kb, pa, pb, xa, xb, rfl, ha, hb, rfl, rfl, rfl, rfl⟩ := two rfl rfl (by omega) (by omega) (by rw [hop]; decide) (by rw [hop]; decide) (by rw [hop]; decide) (by rw [hop]; decide) (by rw [hop]; decide) (by rw [hop]; decide) (by rw [hop]; decide) (by rw [hop]; decide)
        exact ⟨_, _, Pr.left M .or [120, 111, 114] a b ka kb pa pb xa xb hM (by decide) ha hb⟩
      · obtain ⟨a, b, ka, kb, pa, pb, xa, xb, rfl, ha, hb, rfl, rfl, rfl, rfl⟩ := two rfl rfl (by omega) (by omega) (by rw [hop]; decide) (by rw [hop]; decide) (by rw [hop]; decide) (by rw [hop]; decide) (by rw [hop]; decide) (by rw [hop]; decide) (by rw [hop]; decide) (by rw [hop]; decide)
        exact ⟨_, _, Pr.left M .and [97, 110, 100] a b ka kb pa pb xa xb hM (by decide) ha hb⟩
      · obtain rfl : s = b0 := fs (by rw [hop]; decide) hcall
        obtain rfl : n = 0 := fz (by rw [hop]; decide)
        obtain ⟨a, k, p, x, rfl, hp, rfl⟩ := one (M1 := 3) (op.data.toList ++ [32]) (by omega) hlen.symm (by rw [hv (by rw [hop]; decide)]; rfl) (by rw [bareX, if_neg (by rw [hop]; decide), if_neg (by rw [hop]; decide), if_neg (by rw [hop]; decide), if_neg (by rw [hop]; decide), if_neg (by rw [hop]; decide), if_neg (by rw [hop]; decide), if_neg (by rw [hop]; decide), if_pos (by rw [hop]; decide)])
        have h1 := Pr.not M a k p x hM hp
        rw [data_list, hop, eop]
        exact ⟨_, _, h1⟩
      · obtain ⟨a, b, ka, kb, pa, pb, xa, xb, rfl, ha, hb, rfl, rfl, rfl, rfl⟩ := two rfl rfl (by omega) (by omega) (by rw [hop]; decide) (by rw [hop]; decide) (by rw [hop]; decide) (by rw [hop]; decide) (by rw [hop]; decide) (by rw [hop]; decide) (by rw [hop]; decide) (by rw [hop]; decide)
        exact ⟨_, _, Pr.cmp M [61] a b ka kb pa pb xa xb hM (by decide) ha hb⟩
      · obtain ⟨a, b, ka, kb, pa, pb, xa, xb, rfl, ha, hb, rfl, rfl, rfl, rfl⟩ := two rfl rfl (by omega) (by omega) (by rw [hop]; decide) (by rw [hop]; decide) (by rw [hop]; decide) (by rw [hop]; decide) (by rw [hop]; decide) (by rw [hop]; decide) (by rw [hop]; decide) (by rw [hop]; decide)
        exact ⟨_, _, Pr.cmp M [60, 62] a b ka kb pa pb xa xb hM (by decide) ha hb⟩
      · obtain ⟨a, b, ka, kb, pa, pb, xa, xb, rfl, ha, hb, rfl, rfl, rfl, rfl⟩ := two rfl rfl (by omega) (by omega) (by rw [hop]; decide) (by rw [hop]; decide) (by rw [hop]; decide) (by rw [hop]; decide) (by rw [hop]; decide) (by rw [hop]; decide) (by rw [hop]; decide) (by rw [hop]; decide)
        exact ⟨_, _, Pr.cmp M [60] a b ka kb pa pb xa xb hM (by decide) ha hb⟩
      · obtain ⟨a, b, ka, kb, pa, pb, xa, xb, rfl, ha, hb, rfl, rfl, rfl, rfl⟩ := two rfl rfl (by omega) (by omega) (by rw [hop]; decide) (by rw [hop]; decide) (by rw [hop]; decide) (by rw [hop]; decide) (by rw [hop]; decide) (by rw [hop]; decide) (by rw [hop]; decide) (by rw [hop]; decide)
        exact ⟨_, _, Pr.cmp M [60, 61] a b ka kb pa pb xa xb hM (by decide) ha hb⟩
      · obtain ⟨a, b, ka, kb, pa, pb, xa, xb, rfl, ha, hb, rfl, rfl, rfl, rfl⟩ := two rfl rfl (by omega) (by omega) (by rw [hop]; decide) (by rw [hop]; decide) (by rw [hop]; decide) (by rw [hop]; decide) (by rw [hop]; decide) (by rw [hop]; decide) (by rw [hop]; decide) (by rw [hop]; decide)
        exact ⟨_, _, Pr.cmp M [62] a b ka kb pa pb xa xb hM (by decide) ha hb⟩
      · obtain ⟨a, b, ka, kb, pa, pb, xa, xb, rfl, ha, hb, rfl, rfl, rfl, rfl⟩ := two rfl rfl (by omega) (by omega) (by rw [hop]; decide) (by rw [hop]; decide) (by rw [hop]; decide) (by rw [hop]; decide) (by rw [hop]; decide) (by rw [hop]; decide) (by rw [hop]; decide) (by rw [hop]; decide)
        exact ⟨_, _, Pr.cmp M [62, 61] a b ka kb pa pb xa xb hM (by decide) ha hb⟩
      · obtain ⟨a, b, ka, kb, pa, pb, xa, xb, rfl, ha, hb, rfl, rfl, rfl, rfl⟩ := two rfl rfl (by omega) (by omega) (by rw [hop]; decide) (by rw [hop]; decide) (by rw [hop]; decide) (by rw [hop]; decide) (by rw [hop]; decide) (by rw [hop]; decide) (by rw [hop]; decide) (by rw [hop]; decide)
        exact ⟨_, _, Pr.cmp M [61, 62] a b ka kb pa pb xa xb hM (by decide) ha hb⟩
      · obtain ⟨a, b, ka, kb, pa, pb, xa, xb, rfl, ha, hb, rfl, rfl, rfl, rfl⟩ := two rfl rfl (by omega) (by omega) (by rw [hop]; decide) (by rw [hop]; decide) (by rw [hop]; decide) (by rw [hop]; decide) (by rw [hop]; decide) (by rw [hop]; decide) (by rw [hop]; decide) (by rw [hop]; decide)
        exact ⟨_, _, Pr.left M .sum [43] a b ka kb pa pb xa xb hM (by decide) ha hb⟩
      · obtain ⟨a, b, ka, kb, pa, pb, xa, xb, rfl, ha, hb, rfl, rfl, rfl, rfl⟩ := two rfl rfl (by omega) (by omega) (by rw [hop]; decide) (by rw [hop]; decide) (by rw [hop]; decide) (by rw [hop]; decide) (by rw [hop]; decide) (by rw [hop]; decide) (by rw [hop]; decide) (by rw [hop]; decide)
        exact ⟨_, _, Pr.left M .sum [45] a b ka kb pa pb xa xb hM (by decide) ha hb⟩
      · obtain ⟨a, b, ka, kb, pa, pb, xa, xb, rfl, ha, hb, rfl, rfl, rfl, rfl⟩ := two rfl rfl (by omega) (by omega) (by rw [hop]; decide) (by rw [hop]; decide) (by rw [hop]; decide) (by rw [hop]; decide) (by rw [hop]; decide) (by rw [hop]; decide) (by rw [hop]; decide) (by rw [hop]; decide)
        exact ⟨_, _, Pr.left M .prod [42] a b ka kb pa pb xa xb hM (by decide) ha hb⟩
      · obtain ⟨a, b, ka, kb, pa, pb, xa, xb, rfl, ha, hb, rfl, rfl, rfl, rfl⟩ := two rfl rfl (by omega) (by omega) (by rw [hop]; decide) (by rw [hop]; decide) (by rw [hop]; decide) (by rw [hop]; decide) (by rw [hop]; decide) (by rw [hop]; decide) (by rw [hop]; decide) (by rw [hop]; decide)
        exact ⟨_, _, Pr.left M .prod [47] a b ka kb pa pb xa xb hM (by decide) ha hb⟩
      · obtain ⟨a, b, ka, kb, pa, pb, xa, xb, rfl, ha, hb, rfl, rfl, rfl, rfl⟩ := two rfl rfl (by omega) (by omega) (by rw [hop]; decide) (by rw [hop]; decide) (by rw [hop]; decide) (by rw [hop]; decide) (by rw [hop]; decide) (by rw [hop]; decide) (by rw [hop]; decide) (by rw [hop]; decide)
        exact ⟨_, _, Pr.left M .prod [109, 111, 100] a b ka kb pa pb xa xb hM (by decide) ha hb⟩
      · obtain rfl : s = b0 := fs (by rw [hop]; decide) hcall
        obtain rfl : n = 0 := fz (by rw [hop]; decide)
        have h1 : l.length = 1 := hlen.symm
        have hg : (lvsOf op.toList l).getD 0 0 = if (l[0]'(by omega)).op.toList = [110, 101, 103] then 8 else 7 := by
          match l, h1 with
          | [a], _ =>
            unfold lvsOf
            rw [if_pos hop]
            show (if a.op.toList = [110, 101, 103] then [8] else [7] : List Nat).getD 0 0 = _
            split
            · rename_i h; show 8 = _; rw [if_pos (by exact h)]
            · rename_i h; show 7 = _; rw [if_neg (by exact h)]
        obtain ⟨a, k, p, x, rfl, hp, rfl⟩ := one [45] (by split <;> omega) h1 hg (by rw [bareX, if_neg (by rw [hop]; decide), if_neg (by rw [hop]; decide), if_neg (by rw [hop]; decide), if_neg (by rw [hop]; decide), if_neg (by rw [hop]; decide), if_neg (by rw [hop]; decide), if_pos hop])
        have hp7 : ∃ k' p', Pr 7 a k' p' x ∧ x.head? ≠ some 45 := by
          change Pr (if a.op.toList = [110, 101, 103] then 8 else 7) a k p x at hp
          split at hp
          · exact ⟨k, p, hp.loose (by omega), hp.head45 (by omega) (Or.inr (by omega))⟩
          · rename_i hne; exact ⟨k, p, hp, hp.head45 (by omega) (Or.inl hne)⟩
        obtain ⟨k', p', hp', h45⟩ := hp7
        rw [eop]
        exact ⟨_, _, Pr.neg M a k' p' x hM h45 hp'⟩
      · obtain rfl : s = b0 := fs (by rw [hop]; decide) hcall
        obtain rfl : n = 0 := fz (by rw [hop]; decide)
        obtain ⟨a, k, p, x, rfl, hp, rfl⟩ := one (M1 := 7) (op.data.toList ++ [32]) (by omega) hlen.symm (by rw [hv (by rw [hop]; decide)]; rfl) (by rw [bareX, if_neg (by rw [hop]; decide), if_neg (by rw [hop]; decide), if_neg (by rw [hop]; decide), if_neg (by rw [hop]; decide), if_neg (by rw [hop]; decide), if_neg (by rw [hop]; decide), if_neg (by rw [hop]; decide), if_pos (by rw [hop]; decide)])
        have h1 := Pr.pre M a k p x hM hp
        rw [data_list, hop, eop]
        exact ⟨_, _, h1⟩
end Go.Proofs.YtglkpgcmlbhkpabGreatDoor
