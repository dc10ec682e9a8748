/-
  WHAT IS WRITTEN IS READ, IN PLAIN MATHEMATICS: the tokens of a term are read as that term, or are too deep.
-/
import Derived.Test.YtglkpgcmlbhkpabGreatDoorQ32
namespace Go.Proofs.YtglkpgcmlbhkpabGreatDoor

section
variable {l : List Tk} {i j d : Nat} {e : Ex}
theorem tx_of {x : List UInt8} (h : tkx l i = sOf x) (y : List UInt8) : tx l i y = (x == y) := by rw [tx, h, sOf_list]
theorem txs_of {x : List UInt8} (h : tkx l i = sOf x) {ys : List (List UInt8)} (hm : x ∈ ys) : txs l i ys = true := by
  rw [txs, List.any_eq_true]
  exact ⟨x, hm, by rw [tx_of h]; exact beq_self_eq_true x⟩
theorem Nx.of {x : List UInt8} {L : Nat} (h : tkx l j = sOf x) (hx : ∀ y ∈ flw L, (x == y) = false) : Nx l L j := fun y hy => by rw [tx_of h]; exact hx y hy
theorem kOp_no (h : tkk l i = kOp) : isInt l i = false ∧ isName l i = false := by
  unfold isInt isName
  rw [h, ByteArray.toList_eq]
  exact ⟨rfl, rfl⟩
theorem kWord_no (h : tkk l i = kWord) : isInt l i = false ∧ isName l i = false := by
  unfold isInt isName
  rw [h, ByteArray.toList_eq]
  exact ⟨rfl, rfl⟩
theorem kName_yes (h : tkk l i = kName) : isInt l i = false ∧ isName l i = true := by
  unfold isInt isName
  rw [h, ByteArray.toList_eq]
  exact ⟨rfl, rfl⟩
theorem kInt_yes (h : tkk l i = kInt) : isInt l i = true := by
  unfold isInt
  rw [h, ByteArray.toList_eq]
  rfl
theorem NmOk.txs {s : ByteArray} (h : NmOk s) (ht : tkx l i = s) {ys : List (List UInt8)} (hy : ∀ y ∈ ys, y ∈ wordL) : txs l i ys = false := by
  rw [Go.Proofs.YtglkpgcmlbhkpabGreatDoor.txs, List.any_eq_false]
  intro y hm
  rw [tx, ht, Bool.not_eq_true]
  exact beq_eq_false_iff_ne.2 (h.ne (hy y hm))
theorem piece_at {x : List UInt8} (h : tkk l i = (piece x).1 ∧ tkx l i = (piece x).2) : tkx l i = sOf x := by rw [h.2, piece_text]

theorem part_ok (v : Lv) {b : Ex} (h : Sok l (v.num + 1) i j d b) (hn : Nx l v.num j) : Parse l v.part i d (.ok [b] j) := by
  cases v with
  | or => exact h _ (Parse.loopStop .and (hn.txs (by decide)))
  | and => exact h
  | sum => exact h _ (Parse.loopStop .prod (hn.txs (by decide)))
  | prod => exact h
theorem part_bad (v : Lv) (h : Sbad l (v.num + 1) i d) : ∃ m, Parse l v.part i d (.bad m true) := by cases v <;> exact h
theorem left_ok (v : Lv) : Sok l v.num i j d e = ∀ r, Parse l (.loop v [e]) j d r → Parse l (.left v) i d r := by cases v <;> rfl
theorem left_bad (v : Lv) : Sbad l v.num i d = ∃ m, Parse l (.left v) i d (.bad m true) := by cases v <;> rfl

theorem ops_flw : ∀ (v : Lv), ∀ x ∈ v.ops, ∀ y ∈ flw v.num, (x == y) = false := by intro v; cases v <;> decide
theorem cmps_flw : ∀ x ∈ cmps, ∀ y ∈ flw 5, (x == y) = false := by decide
theorem cmps_sum : ∀ x ∈ cmps, ∀ y ∈ Lv.sum.ops, ¬ (x == y) = true := by decide
/-- What the theorem says of a term. -/
def Says (e : Ex) (k : Nat) (p : List Pc) : Prop := ∀ (l : List Tk) (i d : Nat), d ≤ 20 → AtP l i p → Nx l 0 (i + p.length) → Goes l 0 i (i + p.length) d k e
theorem args_ok : ∀ (ps : List Part), ps ≠ [] → (∀ x ∈ ps, Says x.1 x.2.1 x.2.2.1) → ∀ (acc : List Ex) (l : List Tk) (i d : Nat), d + maxD ps ≤ 20 → AtP l i (joinC ps) → tkx l (i + (joinC ps).length) = sOf tShut →
    Run l (.call .term i d fun a j => .call (.more (acc ++ a)) j d retA) (.ok (acc ++ ps.map (·.1)) (i + (joinC ps).length))
  | [], h, _, _, _, _, _, _, _, _ => absurd rfl h
  | [x], _, ih, acc, l, i, d, hd, ha, hn => by
    simp only [maxD, joinC] at *
    have hx := ih x List.mem_cons_self l i d (by omega) ha (Nx.of hn (by decide))
    have h1 : Parse l .term i d (.ok [x.1] (i + x.2.2.1.length)) := hx.ok (by omega)
    refine Run.then h1 (Run.tail ?_)
    exact Run.ifF (by rw [tx_of hn]; decide) Run.done
  | x :: y :: r, _, ih, acc, l, i, d, hd, ha, hn => by
    have hD : maxD (x :: y :: r) = max x.2.1 (maxD (y :: r)) := rfl
    have hJ : joinC (x :: y :: r) = x.2.2.1 ++ opP tComma :: joinC (y :: r) := rfl
    rw [hD] at hd
    rw [hJ] at ha hn ⊢
    obtain ⟨a1, ⟨_, a2⟩, a3⟩ := ha.split
    have a2' : tkx l (i + x.2.2.1.length) = sOf tComma := a2
    have hx := ih x List.mem_cons_self l i d (by omega) a1 (Nx.of a2' (by decide))
    have h1 : Parse l .term i d (.ok [x.1] (i + x.2.2.1.length)) := hx.ok (by omega)
    have e : i + (x.2.2.1 ++ opP tComma :: joinC (y :: r)).length = i + x.2.2.1.length + 1 + (joinC (y :: r)).length := by
      rw [List.length_append, List.length_cons]; omega
    rw [e] at hn ⊢
    have h2 := args_ok (y :: r) (by simp) (fun z hz => ih z (List.mem_cons_of_mem _ hz)) (acc ++ [x.1]) l _ d (by omega) a3 hn
    rw [List.append_assoc] at h2
    exact Run.then h1 (Run.tail (Run.ifT (by rw [tx_of a2']; decide) h2))
theorem args_bad : ∀ (ps : List Part), ps ≠ [] → (∀ x ∈ ps, Says x.1 x.2.1 x.2.2.1) → ∀ (acc : List Ex) (l : List Tk) (i d : Nat), d ≤ 20 → 20 < d + maxD ps → AtP l i (joinC ps) → tkx l (i + (joinC ps).length) = sOf tShut →
    ∃ m, Run l (.call .term i d fun a j => .call (.more (acc ++ a)) j d retA) (.bad m true)
  | [], h, _, _, _, _, _, _, _, _, _ => absurd rfl h
  | [x], _, ih, acc, l, i, d, hd, hk, ha, hn => by
    simp only [maxD, joinC] at *
    have hx := ih x List.mem_cons_self l i d (by omega) ha (Nx.of hn (by decide))
    obtain ⟨m, hm⟩ := hx.bad (by omega)
    exact ⟨m, Run.stop hm⟩
  | x :: y :: r, _, ih, acc, l, i, d, hd, hk, ha, hn => by
    have hD : maxD (x :: y :: r) = max x.2.1 (maxD (y :: r)) := rfl
    have hJ : joinC (x :: y :: r) = x.2.2.1 ++ opP tComma :: joinC (y :: r) := rfl
    rw [hD] at hk
    rw [hJ] at ha hn
    obtain ⟨a1, ⟨_, a2⟩, a3⟩ := ha.split
    have a2' : tkx l (i + x.2.2.1.length) = sOf tComma := a2
    have hx := ih x List.mem_cons_self l i d (by omega) a1 (Nx.of a2' (by decide))
    by_cases hx1 : 20 < d + x.2.1
    · obtain ⟨m, hm⟩ := hx.bad hx1
      exact ⟨m, Run.stop hm⟩
    · have h1 : Parse l .term i d (.ok [x.1] (i + x.2.2.1.length)) := hx.ok (by omega)
      have e : i + (x.2.2.1 ++ opP tComma :: joinC (y :: r)).length = i + x.2.2.1.length + 1 + (joinC (y :: r)).length := by
        rw [List.length_append, List.length_cons]; omega
      rw [e] at hn
      obtain ⟨m, h2⟩ := args_bad (y :: r) (by simp) (fun z hz => ih z (List.mem_cons_of_mem _ hz)) (acc ++ [x.1]) l _ d hd (by omega) a3 hn
      exact ⟨m, Run.then h1 (Run.tail (Run.ifT (by rw [tx_of a2']; decide) h2))⟩
theorem joinC_first : ∀ (ps : List Part), ps ≠ [] → (∀ x ∈ ps, ∃ t q, x.2.2.1 = t :: q ∧ t.2.toList ≠ tShut) → ∃ t q, joinC ps = t :: q ∧ t.2.toList ≠ tShut
  | [], h, _ => absurd rfl h
  | [x], _, ih => ih x List.mem_cons_self
  | x :: y :: r, _, ih => by
    obtain ⟨t, q, hq, ht⟩ := ih x List.mem_cons_self
    exact ⟨t, q ++ opP tComma :: joinC (y :: r), by simp [joinC, hq], ht⟩
/-- No term begins with a bracket that shuts. -/
theorem Pr.shut {L k : Nat} {e : Ex} {p : List Pc} {x : List UInt8} (h : Pr L e k p x) : ∃ t q, p = t :: q ∧ t.2.toList ≠ tShut := by
  have sx : ∀ {x : List UInt8}, x ≠ tShut → (sOf x).toList ≠ tShut := fun hx => by rw [sOf_list]; exact hx
  have nm : ∀ {s : ByteArray}, NmOk s → s.toList ≠ tShut := fun {s} hs => first_ne hs.pos fun c hc => by
    cases hc
    have := hs.low
    simp only [lowI, Bool.and_eq_true, decide_eq_true_eq] at this
    show (41 : Int) ≠ _
    omega
  induction h with
  | brk => exact ⟨_, _, rfl, sx (by decide)⟩
  | int L t n _ ht => exact ⟨_, _, rfl, ht.ne fun c hc => by cases hc; decide⟩
  | bool L y _ hx =>
    refine ⟨_, _, rfl, ?_⟩
    simp only [List.mem_cons, List.not_mem_nil, or_false] at hx
    rcases hx with rfl | rfl <;> exact sx (by decide)
  | name L s _ hs => exact ⟨_, _, rfl, nm hs⟩
  | call L s ps _ hs _ _ => exact ⟨_, _, rfl, nm hs⟩
  | cond => exact ⟨_, _, rfl, sx (by decide)⟩
  | arrow x a b ka kb pa pb xa xb _ _ _ iha _ => obtain ⟨t, q, rfl, hf⟩ := iha; exact ⟨t, _, rfl, hf⟩
  | left L v x a b ka kb pa pb xa xb hl _ _ _ iha _ => obtain ⟨t, q, rfl, hf⟩ := iha; exact ⟨t, _, rfl, hf⟩
  | cmp L x a b ka kb pa pb xa xb hl _ _ _ iha _ => obtain ⟨t, q, rfl, hf⟩ := iha; exact ⟨t, _, rfl, hf⟩
  | not => exact ⟨_, _, rfl, sx (by decide)⟩
  | neg => exact ⟨_, _, rfl, sx (by decide)⟩
  | pre => exact ⟨_, _, rfl, sx (by decide)⟩

/-- WHAT IS WRITTEN IS READ, or is too deep. -/
theorem Pr.goes {L k : Nat} {e : Ex} {p : List Pc} {x : List UInt8} (h : Pr L e k p x) : ∀ (l : List Tk) (i d : Nat), d ≤ 20 → AtP l i p → ∀ M, M ≤ L → Nx l M (i + p.length) → Goes l M i (i + p.length) d k e := by
  induction h with
  | brk L k e p x hL _ ih =>
    intro l i d hd ha M hM hn
    obtain ⟨⟨a0, a0'⟩, ha⟩ := ha
    have a0x : tkx l i = sOf tOpen := a0'
    obtain ⟨a1, ⟨_, a2⟩, _⟩ := ha.split
    have a2' : tkx l (i + 1 + p.length) = sOf tShut := a2
    have ej : i + (opP tOpen :: (p ++ [opP tShut])).length = i + 1 + p.length + 1 := by simp; omega
    rw [ej] at hn ⊢
    refine Goes.down (M := 8) (by omega) (by omega) ⟨fun g => ?_, fun g => ?_⟩ (by rw [a0x]; exact .text (fun _ => by decide) (fun _ => by decide) (fun _ => by decide)) hn
    · have h1 : Parse l .term (i + 1) (d + 1) (.ok [e] (i + 1 + p.length)) := (ih l (i + 1) (d + 1) (by omega) a1 0 (by omega) (Nx.of a2' (by decide))).ok (by omega)
      exact Run.ifF (kOp_no a0).1 (Run.ifF (by rw [txs, List.any_eq_false]; intro y hy; rw [tx_of a0x]; revert y; decide) (Run.ifF (kOp_no a0).2 (Run.ifT (by rw [tx_of a0x]; decide) (Run.down (by omega) (Run.then h1 (Run.exp (by rw [tx_of a2']; decide) Run.done))))))
    · refine Exists.imp (fun m (hm : Run l (downA i d (.call .term (i + 1) (d + 1) fun a j => expA l j tShut fun k => retA a k)) (.bad m true)) => Run.ifF (kOp_no a0).1 (Run.ifF (by rw [txs, List.any_eq_false]; intro y hy; rw [tx_of a0x]; revert y; decide) (Run.ifF (kOp_no a0).2 (Run.ifT (by rw [tx_of a0x]; decide) hm)))) ?_
      by_cases h20 : d = 20
      · exact ⟨_, Run.deep h20⟩
      · obtain ⟨m, hm⟩ := (ih l (i + 1) (d + 1) (by omega) a1 0 (by omega) (Nx.of a2' (by decide))).bad (by omega)
        exact ⟨m, Run.down h20 (Run.stop hm)⟩
  | int L t n hL ht =>
    intro l i d hd ha M hM hn
    obtain ⟨⟨a0, a0'⟩, _⟩ := ha
    have a0x : tkx l i = t := a0'
    refine Goes.down (M := 8) (by omega) (by omega) ⟨fun _ => ?_, fun g => by omega⟩ (by rw [a0x]; exact .int ht 8) hn
    have h1 : Parse l .atom i d (.ok [.mk sInt (decOf (tkx l i).toList) b0 []] (i + 1)) := Run.ifT (kInt_yes a0) Run.done
    rw [a0x, ht.val] at h1
    exact h1
  | bool L y hL hx =>
    intro l i d hd ha M hM hn
    obtain ⟨⟨a0, a0'⟩, _⟩ := ha
    have a0x : tkx l i = sOf y := a0'
    refine Goes.down (M := 8) (by omega) (by omega) ⟨fun _ => ?_, fun g => by omega⟩ ?_ hn
    · have h1 : Parse l .atom i d (.ok [.mk (tkx l i) 0 b0 []] (i + 1)) := Run.ifF (kWord_no a0).1 (Run.ifT (txs_of a0x hx) Run.done)
      rw [a0x] at h1
      exact h1
    · rw [a0x]
      simp only [List.mem_cons, List.not_mem_nil, or_false] at hx
      rcases hx with rfl | rfl <;> exact .text (fun _ => by decide) (fun _ => by decide) (fun _ => by decide)
  | name L s hL hs =>
    intro l i d hd ha M hM hn
    obtain ⟨⟨a0, a0'⟩, _⟩ := ha
    have a0x : tkx l i = s := a0'
    refine Goes.down (M := 8) (by omega) (by omega) ⟨fun _ => ?_, fun g => by omega⟩ (by rw [a0x]; exact .name hs 8) hn
    have h1 : Parse l .atom i d (.ok [.mk sName 0 (tkx l i) []] (i + 1)) := Run.ifF (kName_yes a0).1 (Run.ifF (hs.txs a0x (by decide)) (Run.ifT (kName_yes a0).2 (Run.ifF (hn tOpen List.mem_cons_self) Run.done)))
    rw [a0x] at h1
    exact h1
  | call L s ps hL hs hp ih =>
    intro l i d hd ha M hM hn
    obtain ⟨⟨a0, a0'⟩, ⟨_, a1'⟩, ha⟩ := ha
    have a0x : tkx l i = s := a0'
    have a1x : tkx l (i + 1) = sOf tOpen := a1'
    obtain ⟨a2, ⟨_, a3⟩, _⟩ := ha.split
    have a3x : tkx l (i + 1 + 1 + (joinC ps).length) = sOf tShut := a3
    have ej : i + (nameP s :: opP tOpen :: (joinC ps ++ [opP tShut])).length = i + 1 + 1 + (joinC ps).length + 1 := by simp; omega
    rw [ej] at hn ⊢
    have says : ∀ x ∈ ps, Says x.1 x.2.1 x.2.2.1 := fun x hx l i d hd ha hn => ih x hx l i d hd ha 0 (by omega) hn
    have into : ∀ {r : Res}, Run l (downA (i + 1) d (.call .args (i + 1 + 1) (d + 1) fun a j => expA l j tShut fun k => retA [.mk sCall 0 (tkx l i) a] k)) r → Parse l .atom i d r := fun hr =>
      Run.ifF (kName_yes a0).1 (Run.ifF (hs.txs a0x (by decide)) (Run.ifT (kName_yes a0).2 (Run.ifT (by rw [tx_of a1x]; decide) hr)))
    refine Goes.down (M := 8) (by omega) (by omega) ⟨fun g => ?_, fun g => ?_⟩ (by rw [a0x]; exact .name hs 8) hn
    · have h1 : Parse l .args (i + 1 + 1) (d + 1) (.ok (ps.map (·.1)) (i + 1 + 1 + (joinC ps).length)) := by
        by_cases he : ps = []
        · subst he
          exact Run.ifT (by have a4 : tkx l (i + 1 + 1) = sOf tShut := a3x; rw [tx_of a4]; decide) Run.done
        · obtain ⟨t, q, hq, ht⟩ := joinC_first ps he fun x hx => (hp x hx).shut
          have h2 := args_ok ps he says [] l (i + 1 + 1) (d + 1) (by omega) a2 a3x
          rw [hq] at a2
          exact Run.ifF (by rw [tx, a2.1.2]; exact beq_eq_false_iff_ne.2 ht) h2
      have h3 := into (Run.down (by omega) (Run.then h1 (Run.exp (by rw [tx_of a3x]; decide) Run.done)))
      rw [a0x] at h3
      exact h3
    · refine Exists.imp (fun _ hm => into hm) ?_
      by_cases h20 : d = 20
      · exact ⟨_, Run.deep h20⟩
      · by_cases he : ps = []
        · subst he
          have h0 : maxD [] = 0 := rfl
          rw [h0] at g
          omega
        · obtain ⟨t, q, hq, ht⟩ := joinC_first ps he fun x hx => (hp x hx).shut
          obtain ⟨m, h2⟩ := args_bad ps he says [] l (i + 1 + 1) (d + 1) (by omega) (by omega) a2 a3x
          rw [hq] at a2
          exact ⟨m, Run.down h20 (Run.stop (Run.ifF (by rw [tx, a2.1.2]; exact beq_eq_false_iff_ne.2 ht) h2))⟩
  | cond a b c ka kb kc pa pb pc xa xb xc _ _ _ iha ihb ihc =>
    intro l i d hd ha M hM hn
    obtain rfl : M = 0 := by omega
    obtain ⟨⟨_, a0'⟩, ha⟩ := ha
    have a0x : tkx l i = sOf tIf := a0'
    obtain ⟨aa, ⟨_, a1'⟩, ha⟩ := ha.split
    have a1x : tkx l (i + 1 + pa.length) = sOf tThen := a1'
    obtain ⟨ab, ⟨_, a2'⟩, ac⟩ := ha.split
    have a2x : tkx l (i + 1 + pa.length + 1 + pb.length) = sOf tElse := a2'
    have ej : i + (wordP tIf :: (pa ++ wordP tThen :: (pb ++ wordP tElse :: pc))).length = i + 1 + pa.length + 1 + pb.length + 1 + pc.length := by simp; omega
    rw [ej] at hn ⊢
    have ga := fun hd => iha l (i + 1) (d + 1) hd aa 0 (by omega) (Nx.of a1x (by decide))
    have gb := fun hd => ihb l _ (d + 1) hd ab 0 (by omega) (Nx.of a2x (by decide))
    have gc := fun hd => ihc l _ (d + 1) hd ac 0 (by omega) hn
    have t0 : tx l i tIf = true := by rw [tx_of a0x]; decide
    have t1 : tx l (i + 1 + pa.length) tThen = true := by rw [tx_of a1x]; decide
    have t2 : tx l (i + 1 + pa.length + 1 + pb.length) tElse = true := by rw [tx_of a2x]; decide
    refine ⟨fun g => ?_, fun g => ?_⟩
    · have h3 := Parse.ifMore (d := d) t0 (by omega) ((ga (by omega)).ok (by omega)) t1 ((gb (by omega)).ok (by omega)) t2 ((gc (by omega)).ok (by omega))
      rw [a0x] at h3
      exact h3
    · by_cases h20 : d = 20
      · exact ⟨_, Run.ifT t0 (Run.deep h20)⟩
      · by_cases hka : 20 < d + 1 + ka
        · obtain ⟨m, hm⟩ := (ga (by omega)).bad hka
          exact ⟨m, Run.ifT t0 (Run.down h20 (Run.stop hm))⟩
        · have oa : Parse l .term (i + 1) (d + 1) (.ok [a] _) := (ga (by omega)).ok (by omega)
          by_cases hkb : 20 < d + 1 + kb
          · obtain ⟨m, hm⟩ := (gb (by omega)).bad hkb
            exact ⟨m, Run.ifT t0 (Run.down h20 (Run.then oa (Run.exp t1 (Run.stop hm))))⟩
          · have ob : Parse l .term _ (d + 1) (.ok [b] _) := (gb (by omega)).ok (by omega)
            obtain ⟨m, hm⟩ := (gc (by omega)).bad (by omega)
            exact ⟨m, Run.ifT t0 (Run.down h20 (Run.then oa (Run.exp t1 (Run.then ob (Run.exp t2 (Run.stop hm))))))⟩
  | arrow x a b ka kb pa pb xa xb hx hpa _ iha ihb =>
    intro l i d hd ha M hM hn
    obtain rfl : M = 0 := by omega
    obtain ⟨aa, a1, ab⟩ := ha.split
    have a1x : tkx l (i + pa.length) = sOf x := piece_at a1
    have ej : i + (pa ++ piece x :: pb).length = i + pa.length + 1 + pb.length := by simp; omega
    rw [ej] at hn ⊢
    have nx1 : Nx l 1 (i + pa.length) := Nx.of a1x (by
      simp only [List.mem_cons, List.not_mem_nil, or_false] at hx
      rcases hx with rfl | rfl <;> decide)
    have stop : txs l (i + pa.length) Lv.or.ops = false := by
      rw [txs, List.any_eq_false]; intro y hy; rw [tx_of a1x]
      simp only [List.mem_cons, List.not_mem_nil, or_false] at hx
      revert y; rcases hx with rfl | rfl <;> decide
    have ga := iha l i d hd aa 1 (by omega) nx1
    have gb := fun hd => ihb l _ (d + 1) hd ab 0 (by omega) hn
    obtain ⟨t, q, hq, hf⟩ := hpa.first
    have f1 : tx l i tIf = false := by
      rw [hq] at aa
      rw [tx, aa.1.2]; exact beq_eq_false_iff_ne.2 (hf.cond (by omega))
    refine ⟨fun g => ?_, fun g => ?_⟩
    · have oa : Parse l (.left .or) i d (.ok [a] (i + pa.length)) := ga.ok (by omega) _ (Parse.loopStop .or stop)
      have ob : Parse l .term (i + pa.length + 1) (d + 1) (.ok [b] _) := (gb (by omega)).ok (by omega)
      have h3 : Parse l .term i d (.ok [.mk (tkx l (i + pa.length)) 0 b0 ([a] ++ [b])] _) := Run.ifF f1 (Run.then oa (Run.ifT (txs_of a1x hx) (Run.down (by omega) (Run.then ob Run.done))))
      rw [a1x] at h3
      exact h3
    · by_cases hka : 20 < d + ka
      · obtain ⟨m, hm⟩ := ga.bad hka
        exact ⟨m, Run.ifF f1 (Run.stop hm)⟩
      · have oa : Parse l (.left .or) i d (.ok [a] (i + pa.length)) := ga.ok (by omega) _ (Parse.loopStop .or stop)
        by_cases h20 : d = 20
        · exact ⟨_, Run.ifF f1 (Run.then oa (Run.ifT (txs_of a1x hx) (Run.deep h20)))⟩
        · obtain ⟨m, hm⟩ := (gb (by omega)).bad (by omega)
          exact ⟨m, Run.ifF f1 (Run.then oa (Run.ifT (txs_of a1x hx) (Run.down h20 (Run.stop hm))))⟩
  | left L v x a b ka kb pa pb xa xb hL hx hpa _ iha ihb =>
    intro l i d hd ha M hM hn
    obtain ⟨aa, a1, ab⟩ := ha.split
    have a1x : tkx l (i + pa.length) = sOf x := piece_at a1
    have ej : i + (pa ++ piece x :: pb).length = i + pa.length + 1 + pb.length := by simp; omega
    rw [ej] at hn ⊢
    have hv : v.num ≤ 6 := by cases v <;> decide
    have nx1 : Nx l v.num (i + pa.length) := Nx.of a1x (ops_flw v x hx)
    have ga := iha l i d hd aa v.num (by omega) nx1
    have gb := ihb l _ d hd ab (v.num + 1) (by omega) (hn.mono (by omega))
    obtain ⟨t, q, hq, hf⟩ := hpa.first
    have f1 : Fst v.num (tkx l i) := by
      rw [hq] at aa
      rw [aa.1.2]; exact hf
    refine Goes.down (M := v.num) (by omega) (by omega) ⟨fun g => ?_, fun g => ?_⟩ f1 hn
    · rw [left_ok]
      intro r p
      have oa := ga.ok (by omega)
      rw [left_ok] at oa
      refine oa r (Parse.loopMore v (txs_of a1x hx) (part_ok v (gb.ok (by omega)) (hn.mono (by omega))) ?_)
      rw [a1x]
      exact p
    · rw [left_bad]
      by_cases hka : 20 < d + ka
      · have := ga.bad hka
        rw [left_bad] at this
        exact this
      · have oa := ga.ok (by omega)
        rw [left_ok] at oa
        obtain ⟨m, hm⟩ := part_bad v (gb.bad (by omega))
        exact ⟨m, oa _ (Parse.loopBad v (txs_of a1x hx) hm)⟩
  | cmp L x a b ka kb pa pb xa xb hL hx hpa _ iha ihb =>
    intro l i d hd ha M hM hn
    obtain ⟨aa, a1, ab⟩ := ha.split
    have a1x : tkx l (i + pa.length) = sOf x := piece_at a1
    have ej : i + (pa ++ piece x :: pb).length = i + pa.length + 1 + pb.length := by simp; omega
    rw [ej] at hn ⊢
    have nx1 : Nx l 5 (i + pa.length) := Nx.of a1x (cmps_flw x hx)
    have stop : txs l (i + pa.length) Lv.sum.ops = false := by
      rw [txs, List.any_eq_false]; intro y hy; rw [tx_of a1x]
      exact cmps_sum x hx y hy
    have ga := iha l i d hd aa 5 (by omega) nx1
    have gb := ihb l _ d hd ab 5 (by omega) (hn.mono (by omega))
    have stopb : txs l (i + pa.length + 1 + pb.length) Lv.sum.ops = false := (hn.mono (M := 4) (by omega)).txs (by decide)
    obtain ⟨t, q, hq, hf⟩ := hpa.first
    have f1 : Fst 4 (tkx l i) := by
      rw [hq] at aa
      rw [aa.1.2]; exact hf.mono (by omega)
    refine Goes.down (M := 4) (by omega) (by omega) ⟨fun g => ?_, fun g => ?_⟩ f1 hn
    · have oa : Parse l (.left .sum) i d (.ok [a] (i + pa.length)) := ga.ok (by omega) _ (Parse.loopStop .sum stop)
      have ob : Parse l (.left .sum) (i + pa.length + 1) d (.ok [b] _) := gb.ok (by omega) _ (Parse.loopStop .sum stopb)
      have h3 : Parse l .cmp i d (.ok [.mk (tkx l (i + pa.length)) 0 b0 ([a] ++ [b])] _) := Run.then oa (Run.ifT (txs_of a1x hx) (Run.then ob Run.done))
      rw [a1x] at h3
      exact h3
    · by_cases hka : 20 < d + ka
      · obtain ⟨m, hm⟩ := ga.bad hka
        exact ⟨m, Run.stop hm⟩
      · have oa : Parse l (.left .sum) i d (.ok [a] (i + pa.length)) := ga.ok (by omega) _ (Parse.loopStop .sum stop)
        obtain ⟨m, hm⟩ := gb.bad (by omega)
        exact ⟨m, Run.then oa (Run.ifT (txs_of a1x hx) (Run.stop hm))⟩
  | not L a k p x hL _ ih =>
    intro l i d hd ha M hM hn
    obtain ⟨⟨_, a0'⟩, aa⟩ := ha
    have a0x : tkx l i = sOf tNot := a0'
    have ej : i + (wordP tNot :: p).length = i + 1 + p.length := by simp; omega
    rw [ej] at hn ⊢
    have t0 : tx l i tNot = true := by rw [tx_of a0x]; decide
    have ga := fun hd => ih l (i + 1) (d + 1) hd aa 3 (by omega) (hn.mono (by omega))
    refine Goes.down (M := 3) (by omega) (by omega) ⟨fun g => ?_, fun g => ?_⟩ (by rw [a0x]; exact .text (fun _ => by decide) (fun h => by omega) (fun h => by omega)) hn
    · exact Parse.notMore t0 (by omega) ((ga (by omega)).ok (by omega))
    · by_cases h20 : d = 20
      · exact ⟨_, Run.ifT t0 (Run.deep h20)⟩
      · obtain ⟨m, hm⟩ := (ga (by omega)).bad (by omega)
        exact ⟨m, Run.ifT t0 (Run.down h20 (Run.stop hm))⟩
  | neg L a k p x hL _ _ ih =>
    intro l i d hd ha M hM hn
    obtain ⟨⟨_, a0'⟩, aa⟩ := ha
    have a0x : tkx l i = sOf tMinus := a0'
    have ej : i + (opP tMinus :: p).length = i + 1 + p.length := by simp; omega
    rw [ej] at hn ⊢
    have t0 : tx l i tMinus = true := by rw [tx_of a0x]; decide
    have ga := fun hd => ih l (i + 1) (d + 1) hd aa 7 (by omega) (hn.mono (by omega))
    refine Goes.down (M := 7) (by omega) (by omega) ⟨fun g => ?_, fun g => ?_⟩ (by rw [a0x]; exact .text (fun _ => by decide) (fun _ => by decide) (fun h => by omega)) hn
    · have oa : Parse l .un (i + 1) (d + 1) (.ok [a] _) := (ga (by omega)).ok (by omega)
      exact Run.ifT t0 (Run.down (by omega) (Run.then oa Run.done))
    · by_cases h20 : d = 20
      · exact ⟨_, Run.ifT t0 (Run.deep h20)⟩
      · obtain ⟨m, hm⟩ := (ga (by omega)).bad (by omega)
        exact ⟨m, Run.ifT t0 (Run.down h20 (Run.stop hm))⟩
  | pre L a k p x hL _ ih =>
    intro l i d hd ha M hM hn
    obtain ⟨⟨_, a0'⟩, aa⟩ := ha
    have a0x : tkx l i = sOf tPre := a0'
    have ej : i + (wordP tPre :: p).length = i + 1 + p.length := by simp; omega
    rw [ej] at hn ⊢
    have t0 : tx l i tPre = true := by rw [tx_of a0x]; decide
    have t1 : tx l i tMinus = false := by rw [tx_of a0x]; decide
    have ga := fun hd => ih l (i + 1) (d + 1) hd aa 7 (by omega) (hn.mono (by omega))
    refine Goes.down (M := 7) (by omega) (by omega) ⟨fun g => ?_, fun g => ?_⟩ (by rw [a0x]; exact .text (fun _ => by decide) (fun _ => by decide) (fun h => by omega)) hn
    · have oa : Parse l .un (i + 1) (d + 1) (.ok [a] _) := (ga (by omega)).ok (by omega)
      exact Run.ifF t1 (Run.ifT t0 (Run.down (by omega) (Run.then oa Run.done)))
    · by_cases h20 : d = 20
      · exact ⟨_, Run.ifF t1 (Run.ifT t0 (Run.deep h20))⟩
      · obtain ⟨m, hm⟩ := (ga (by omega)).bad (by omega)
        exact ⟨m, Run.ifF t1 (Run.ifT t0 (Run.down h20 (Run.stop hm)))⟩
end
end Go.Proofs.YtglkpgcmlbhkpabGreatDoor
