/-
  tree.caught of the writer; tree.Text BY ITS CONTRACT, whatever it is given: what is written is read, and the same.
-/
import Derived.Test.YtglkpgcmlbhkpabGreatDoorQ30
import Derived.Test.YtglkpgcmlbhkpabGreatDoorQ31
import Derived.Test.YtglkpgcmlbhkpabGreatDoorQ22
import Derived.Test.YtglkpgcmlbhkpabGreatDoorQ27
import Derived.Test.YtglkpgcmlbhkpabGreatDoorQ28
import Derived.Test.YtglkpgcmlbhkpabGreatDoorQ09
namespace Go.Proofs.YtglkpgcmlbhkpabGreatDoor
open Go.RowKit
attribute [local go_sem ↓] Go.wp_at_zero Go.wp_at_succ

abbrev thrownB (p : Addr) : Value := .iface 165 (.agg #[.iface 325 (.pointer (some p))])
theorem assert_thrownB (p : Addr) (w : World) : (Instr.typeAssert (thrownB p) 20 165 true).run Tryz.prog w = .ok (.tuple #[.agg #[.iface 325 (.pointer (some p))], .bool true]) w := by kernel_rfl
set_option maxRecDepth 100000 in
set_option maxHeartbeats 1000000 in
theorem catch_thrownB (b : Nat) (p : Addr) (v : Value) (older : List PanicEntry) (w : World) (hc : w.cell? ⟨b, 0, none⟩ = some v) (hz : w.frozen? ⟨b, 0, none⟩ = false) :
    CallsD Tryz.prog 84 #[.pointer (some ⟨b, 0, none⟩)] (.panicking ({ v := thrownB p, recovered := false } :: older)) w fun e u' w' =>
      e = .returned (.tuple #[]) ∧ u' = .panicking ({ v := thrownB p, recovered := true } :: older) ∧ w' = (w.setCell ⟨b, 0, none⟩ (.iface 325 (.pointer (some p)))).alloc (.cells #[.iface 325 (.pointer (some p))] 165) := by
  refine callsD_of_wpS Tryz.func84 rfl fun c₀ cs hu => ?_
  apply wpS_seq
  apply wpS_region
  simp [wpOpsS, go_sem, recoverD, hu, Tryz.ntmps84, Exit.thenS]
  have hta := assert_thrownB p
  apply wpS_seq
  apply wpS_region
  simp [wpOpsS, go_sem, Exit.thenS]
  refine wpS_cond (t := true) (by simp [Act.eval]) ?_
  simp only [if_true]
  apply wpS_seq
  apply wpS_region
  simp [wpOpsS, go_sem, Exit.thenS, hta]
  apply wpS_seq
  apply wpS_seq
  apply wpS_region
  simp [wpOpsS, go_sem, Exit.thenS]
  refine wpS_cond (t := false) (by simp [Act.eval]) ?_
  simp only [Bool.false_eq_true, if_false]
  refine wpS_of_wp (wp_skip ?_)
  have hbl : b < w.heap.size := lt_of_cell hc
  simp only [Exit.thenS]
  apply wpS_region
  simp [wpOpsS, go_sem, hc, hz, hbl, bodyPostS, results, Tryz.results84]
set_option maxRecDepth 100000 in
set_option maxHeartbeats 1000000 in
theorem wString_none (B b : Nat) (d : Nat) (w : World) (h : Wr B b [] d w) :
    Calls Tryz.prog 37 #[.pointer (some ⟨b, 0, none⟩)] w fun e w' => e = .returned (.string ⟨#[]⟩) ∧ Below B w w' ∧ Kept b w w' := by
  obtain ⟨p, _, hB, v, hbk, hown, hne⟩ := h.of
  have mixed : Tryz.prog.follows Departure.mixedOrders = true := by kernel_rfl
  have hUS : ∀ q W, (Builtin.unsafeString_ #[167, 3] 9 #[.pointer q, .int .i64 0]).run Tryz.prog W = .ok (.string .empty) W := fun q W => Lib.run_unsafeString_none W _ _ _ q
  have hl : b < w.heap.size := h.lt
  obtain ⟨q, c, sq, W, rfl, hSD, hbW, hkW, hcW⟩ : ∃ (q : Option Addr) (c : Nat) (q' : Option Addr) (W : World), v = .slice q 0 c ∧ (Builtin.unsafeSliceData_ #[87] 167 #[.slice q 0 c]).run Tryz.prog w.drew = .ok (.pointer q') W ∧ Below B w W ∧ Kept b w W ∧ W.cell? ⟨b, 1, none⟩ = some v := by
    have hc : w.drew.cell? ⟨b, 1, none⟩ = some v := by
      have : w.drew.heap[b]? = some (.cells #[p, v, .int .i64 6000, .int .i64 d] 91 (0, 0)) := hbk
      simp [World.cell?, this]
    rcases hown.2 with ⟨hv, _⟩ | ⟨g, cap, cur, hv, hbg, hg, _⟩
    · exact ⟨none, 0, none, w.drew, hv, by rfl, Below.drew (Below.refl B w), Lib.OthersKept.drew (Lib.OthersKept.refl _ _ _), hc⟩
    · by_cases h0 : cap = 0
      · subst h0
        have hsh : w.drew.shape? g = some (5, cur.size) := by
          have hg' : w.drew.heap[g]? = some (.cells cur 5 (0, 0)) := hg
          simp [World.shape?, hg']
        exact ⟨_, _, _, _, hv, Lib.run_unsafeSliceData_zero w.drew #[87] 167 5 Tryz.underlying167 ⟨g, 0, none⟩ 0 _ hsh, (Below.drew (Below.refl B w)).alloc (by show B ≤ w.heap.size; omega) _, (Lib.OthersKept.drew (Lib.OthersKept.refl _ _ _)).alloc _, cell_keep (w := w.drew) ((Below.refl _ _).alloc (Nat.le_refl _) _) hc⟩
      · exact ⟨_, _, _, w.drew, hv, Lib.run_unsafeSliceData_row _ _ _ _ _ _ h0, Below.drew (Below.refl B w), Lib.OthersKept.drew (Lib.OthersKept.refl _ _ _), hc⟩
  have c1 : w.drew.cell? ⟨b, 1, none⟩ = some (.slice q 0 c) := by
    have : w.drew.heap[b]? = some (.cells #[p, .slice q 0 c, .int .i64 6000, .int .i64 d] 91 (0, 0)) := hbk
    simp [World.cell?, this]
  have hU := hUS sq W
  have HW : Hid (Below B w W ∧ Kept b w W) := ⟨hbW, hkW⟩
  clear hUS hbW hkW
  go_enter Tryz.func37, Tryz.ntmps37
  go_wp2
  go_region_o
  all_goals (go_wp2; go_ret; exact ⟨rfl, HW.out.1, HW.out.2⟩)
theorem stays_lt {S : Nat → Prop} (w : World) : Stays S (fun k => k < w.heap.size) w w := fun _ _ h => ⟨h, rfl⟩
end Go.Proofs.YtglkpgcmlbhkpabGreatDoor

/-
  lustrumlaw1.TreeTwice, WALKED.
-/
namespace Go.Proofs.YtglkpgcmlbhkpabGreatDoor
open Go.RowKit
attribute [local go_sem ↓] Go.wp_at_zero Go.wp_at_succ

theorem Fit.mono {N M : Nat} {l : List Ex} (h : Fit N l) (hm : N ≤ M) : Fit M l := by
  induction h with
  | nil => exact .nil
  | cons op n s l es h1 _ _ ih1 ih2 => exact .cons op n s l es (by omega) ih1 ih2
/-- What the calls need of the world. -/
structure Env (pT pB pS : Addr) (ev : Value) (w : World) : Prop where
  hS : w.cell? ⟨0, 0, none⟩ = some (.iface 325 (.pointer (some pS)))
  hT : w.cell? ⟨1, 0, none⟩ = some (.iface 325 (.pointer (some pT)))
  hB : w.cell? ⟨2, 0, none⟩ = some (.iface 325 (.pointer (some pB)))
  hv : w.cell? ⟨11, 0, none⟩ = some ev
  hev : ev = .nilIface ∨ ∃ te pe, ev = .iface te pe
  tab : TabAt w
  hgz : 13 < w.heap.size
theorem Env.below {pT pB pS : Addr} {ev : Value} {w w' : World} (E : Env pT pB pS ev w) (hb : Below w.heap.size w w') : Env pT pB pS ev w' :=
  ⟨cell_keep hb E.hS, cell_keep hb E.hT, cell_keep hb E.hB, cell_keep hb E.hv, E.hev, E.tab.keep (hb.block _ E.hgz), Nat.lt_of_lt_of_le E.hgz hb.size⟩
theorem SameNds.same_call (es es' : List Ex) (hsame : SameNds es es') (w : World) (S S' : Nat → Prop) (o o' : Option Addr) (c c' : Nat) (ys ys' : List Value) (h1 : RowAt w S 5 (.slice o es.length c) es.length ys) (h2 : NdIn w S es ys) (h3 : RowAt w S' 5 (.slice o' es'.length c') es'.length ys') (h4 : NdIn w S' es' ys') :
    (Calls Tryz.prog 14 #[.slice o es.length c, .slice o' es'.length c'] w fun e w' => e = .returned (.bool true) ∧ Below w.heap.size w w') ∧ (Calls Tryz.prog 14 #[.slice o' es'.length c', .slice o es.length c] w fun e w' => e = .returned (.bool true) ∧ Below w.heap.size w w') := by
  have h2' := h2.same hsame
  rw [hsame.1] at h1 ⊢
  exact ⟨sameNodes_any w S S' o o' c c' es' ys ys' h1 h2' h3 h4, sameNodes_any w S' S o' o c' c es' ys' ys h3 h4 h1 h2'⟩
/-- read again, what was written. -/
theorem read_known (t : ByteArray) (w : World) (pT pB pS : Addr) (ev : Value) (E : Env pT pB pS ev w) (ht : t.size ≤ 6000) (l : List Tk) (es : List Ex) (j : Nat) (hl : Lexes t 0 l none) (hP : Parse l (.nodes []) 0 0 (.ok es j)) :
    Calls Tryz.prog 13 #[.string t] w fun e w' => Below w.heap.size w w' ∧ ∃ so sc ys, e = .returned (.tuple #[.slice so es.length sc, .nilIface]) ∧ RowAt w' (From w.heap.size) 5 (.slice so es.length sc) es.length ys ∧ NdIn w' (From w.heap.size) es ys := by
  refine (read_any t w pT pB ev ht E.hT E.hB E.hv E.hev).mono ?_
  rintro e w' ⟨hb, hR⟩
  refine ⟨hb, ?_⟩
  rcases hR with ⟨l', es', j', v, hl', hP', rfl, hN⟩ | ⟨l', j', p, bd, hl', hP', _⟩ | ⟨l', j', p, hl', _⟩
  · obtain ⟨rfl, _⟩ := hl'.one hl
    have he := hP'.one hP
    injection he with he _
    subst he
    obtain ⟨ys, hrow, hin⟩ := hN
    obtain ⟨so, sc, rfl⟩ := hrow.form
    exact ⟨so, sc, ys, rfl, hrow, hin⟩
  · obtain ⟨rfl, _⟩ := hl'.one hl
    exact absurd (hP'.one hP) (by simp)
  · exact absurd (hl'.one hl).2 (by simp)
theorem known_fit {t : ByteArray} (ht : t.size ≤ 6000) {l : List Tk} {es : List Ex} {j : Nat} (hl : Lexes t 0 l none) (hP : Parse l (.nodes []) 0 0 (.ok es j)) : es.length ≤ 1000000 ∧ Fit 1000000 es := by
  obtain ⟨hfit, hlen⟩ := hP.fit
  have hll : l.length ≤ 6001 := hl.len (by omega)
  exact ⟨by omega, hfit.mono (by omega)⟩
end Go.Proofs.YtglkpgcmlbhkpabGreatDoor

/-
  TERMS AS THEY ARE WRITTEN, IN PLAIN MATHEMATICS: the tokens of a term written where only terms of some level may stand, and how deep it opens; such tokens are read as that term, or are too deep.
-/
namespace Go.Proofs.YtglkpgcmlbhkpabGreatDoor

/-- A token's kind and its text. -/
abbrev Pc := ByteArray × ByteArray
/-- These tokens stand from i on. -/
def AtP (l : List Tk) (i : Nat) : List Pc → Prop
  | [] => True
  | a :: p => (tkk l i = a.1 ∧ tkx l i = a.2) ∧ AtP l (i + 1) p
theorem AtP.split {l : List Tk} : ∀ {p q : List Pc} {i : Nat}, AtP l i (p ++ q) → AtP l i p ∧ AtP l (i + p.length) q
  | [], q, i, h => ⟨trivial, h⟩
  | a :: p, q, i, h => by
    have := AtP.split (p := p) (q := q) h.2
    refine ⟨⟨h.1, this.1⟩, ?_⟩
    rw [List.length_cons, show i + (p.length + 1) = i + 1 + p.length from by omega]
    exact this.2

def opP (x : List UInt8) : Pc := (kOp, ⟨x.toArray⟩)
def wordP (x : List UInt8) : Pc := (kWord, ⟨x.toArray⟩)
def nameP (s : ByteArray) : Pc := (kName, s)
def intP (t : ByteArray) : Pc := (kInt, t)

/-- A name's text. -/
structure NmOk (s : ByteArray) : Prop where
  pos : 0 < s.size
  len : s.size ≤ 12
  low : lowI (byteI s 0) = true
  all : ∀ k, k < s.size → nameI (byteI s k) = true
  word : wordB s = false
/-- A number's text. -/
structure IntOk (t : ByteArray) (n : Int) : Prop where
  pos : 0 < t.size
  all : ∀ k, k < t.size → digI (byteI t k) = true
  ok : intB t = true
  val : decOf t.toList = n

/-- Where a list of operators stands in the grammar. -/
def Lv.num : Lv → Nat
  | .or => 1
  | .and => 2
  | .sum => 5
  | .prod => 6
def piece (x : List UInt8) : Pc := if x ∈ [tOr, tXor, tAnd, tMod, tFby] then wordP x else opP x
/-- A part that is written: the term, how deep it opens, its tokens, its text. -/
abbrev Part := Ex × Nat × List Pc × List UInt8
def joinC : List Part → List Pc
  | [] => []
  | [x] => x.2.2.1
  | x :: y :: r => x.2.2.1 ++ opP tComma :: joinC (y :: r)
def joinX : List Part → List UInt8
  | [] => []
  | [x] => x.2.2.2
  | x :: y :: r => x.2.2.2 ++ (tComma ++ (32 :: joinX (y :: r)))
def maxD : List Part → Nat
  | [] => 0
  | x :: r => max x.2.1 (maxD r)
def sOf (x : List UInt8) : ByteArray := ⟨x.toArray⟩

/-- A term written where only terms of this level or a tighter one may stand (0: any; 1 or, 2 and, 3 not, 4 comparisons, 5 sums, 6 products, 7 signs, 8 what is closed); how deep it opens; its tokens. -/
inductive Pr : Nat → Ex → Nat → List Pc → List UInt8 → Prop
  | brk (L k : Nat) (e : Ex) (p : List Pc) (x : List UInt8) : L ≤ 8 → Pr 0 e k p x → Pr L e (k + 1) (opP tOpen :: (p ++ [opP tShut])) (tOpen ++ (x ++ tShut))
  | int (L : Nat) (t : ByteArray) (n : Int) : L ≤ 8 → IntOk t n → Pr L (.mk sInt n b0 []) 0 [intP t] t.toList
  | bool (L : Nat) (y : List UInt8) : L ≤ 8 → y ∈ [tTrue, tFalse] → Pr L (.mk (sOf y) 0 b0 []) 0 [wordP y] y
  | name (L : Nat) (s : ByteArray) : L ≤ 8 → NmOk s → Pr L (.mk sName 0 s []) 0 [nameP s] s.toList
  | call (L : Nat) (s : ByteArray) (ps : List Part) : L ≤ 8 → NmOk s → (∀ q ∈ ps, Pr 0 q.1 q.2.1 q.2.2.1 q.2.2.2) → Pr L (.mk sCall 0 s (ps.map (·.1))) (maxD ps + 1) (nameP s :: opP tOpen :: (joinC ps ++ [opP tShut])) (s.toList ++ (tOpen ++ (joinX ps ++ tShut)))
  | cond (a b c : Ex) (ka kb kc : Nat) (pa pb pc : List Pc) (xa xb xc : List UInt8) : Pr 0 a ka pa xa → Pr 0 b kb pb xb → Pr 0 c kc pc xc → Pr 0 (.mk (sOf tIf) 0 b0 [a, b, c]) (max ka (max kb kc) + 1) (wordP tIf :: (pa ++ wordP tThen :: (pb ++ wordP tElse :: pc))) (tIf ++ (32 :: (xa ++ (32 :: (tThen ++ (32 :: (xb ++ (32 :: (tElse ++ (32 :: xc))))))))))
  | arrow (y : List UInt8) (a b : Ex) (ka kb : Nat) (pa pb : List Pc) (xa xb : List UInt8) : y ∈ [tArrow, tFby] → Pr 1 a ka pa xa → Pr 0 b kb pb xb → Pr 0 (.mk (sOf y) 0 b0 [a, b]) (max ka (kb + 1)) (pa ++ piece y :: pb) (xa ++ (32 :: (y ++ (32 :: xb))))
  | left (L : Nat) (v : Lv) (y : List UInt8) (a b : Ex) (ka kb : Nat) (pa pb : List Pc) (xa xb : List UInt8) : L ≤ v.num → y ∈ v.ops → Pr v.num a ka pa xa → Pr (v.num + 1) b kb pb xb → Pr L (.mk (sOf y) 0 b0 [a, b]) (max ka kb) (pa ++ piece y :: pb) (xa ++ (32 :: (y ++ (32 :: xb))))
  | cmp (L : Nat) (y : List UInt8) (a b : Ex) (ka kb : Nat) (pa pb : List Pc) (xa xb : List UInt8) : L ≤ 4 → y ∈ cmps → Pr 5 a ka pa xa → Pr 5 b kb pb xb → Pr L (.mk (sOf y) 0 b0 [a, b]) (max ka kb) (pa ++ piece y :: pb) (xa ++ (32 :: (y ++ (32 :: xb))))
  | not (L : Nat) (a : Ex) (k : Nat) (p : List Pc) (x : List UInt8) : L ≤ 3 → Pr 3 a k p x → Pr L (.mk (sOf tNot) 0 b0 [a]) (k + 1) (wordP tNot :: p) (tNot ++ (32 :: x))
  | neg (L : Nat) (a : Ex) (k : Nat) (p : List Pc) (x : List UInt8) : L ≤ 7 → x.head? ≠ some 45 → Pr 7 a k p x → Pr L (.mk sNeg 0 b0 [a]) (k + 1) (opP tMinus :: p) (tMinus ++ x)
  | pre (L : Nat) (a : Ex) (k : Nat) (p : List Pc) (x : List UInt8) : L ≤ 7 → Pr 7 a k p x → Pr L (.mk (sOf tPre) 0 b0 [a]) (k + 1) (wordP tPre :: p) (tPre ++ (32 :: x))

section
theorem sOf_list (x : List UInt8) : (sOf x).toList = x := by rw [ByteArray.toList_eq]; rfl
theorem piece_text (x : List UInt8) : (piece x).2 = sOf x := by unfold piece; split <;> rfl
theorem first_ne {s : ByteArray} {x : List UInt8} (hp : 0 < s.size) (hx : ∀ c ∈ x.head?, (c.toNat : Int) ≠ byteI s 0) : s.toList ≠ x := by
  intro h
  rw [ByteArray.toList_eq] at h
  have h1 : x.head? = some s[0] := by
    rw [← h, List.head?_eq_getElem?, List.getElem?_eq_getElem (by show 0 < s.data.toList.length; rw [Array.length_toList]; exact hp)]
    rfl
  exact hx _ h1 (byteI_lt hp).symm
theorem NmOk.ne {s : ByteArray} (h : NmOk s) {x : List UInt8} (hx : x ∈ wordL) : s.toList ≠ x := by
  intro e
  have h1 := h.word
  rw [wordB, List.any_eq_false] at h1
  exact h1 x hx (by rw [e]; exact beq_self_eq_true x)
theorem NmOk.minus {s : ByteArray} (h : NmOk s) : s.toList ≠ tMinus := first_ne h.pos fun c hc => by
  cases hc
  have := h.low
  simp only [lowI, Bool.and_eq_true, decide_eq_true_eq] at this
  show (45 : Int) ≠ _
  omega
theorem IntOk.ne {t : ByteArray} {n : Int} (h : IntOk t n) {x : List UInt8} (hx : ∀ c ∈ x.head?, digI c.toNat = false) : t.toList ≠ x := first_ne h.pos fun c hc e => by
  have h1 := h.all 0 h.pos
  rw [← e, hx c hc] at h1
  cases h1

/-- What may not stand first, where a term of this level is read. -/
structure Fst (L : Nat) (t : ByteArray) : Prop where
  cond : 1 ≤ L → t.toList ≠ tIf
  not : 4 ≤ L → t.toList ≠ tNot
  sign : 8 ≤ L → t.toList ≠ tMinus ∧ t.toList ≠ tPre
theorem Fst.name {s : ByteArray} (h : NmOk s) (L : Nat) : Fst L s := ⟨fun _ => h.ne (by decide), fun _ => h.ne (by decide), fun _ => ⟨h.minus, h.ne (by decide)⟩⟩
theorem Fst.int {t : ByteArray} {n : Int} (h : IntOk t n) (L : Nat) : Fst L t :=
  have d : ∀ {c : UInt8} {x : List UInt8}, digI c.toNat = false → ∀ c' ∈ (c :: x).head?, digI c'.toNat = false := fun hc _ e => by cases e; exact hc
  ⟨fun _ => h.ne (d (by decide)), fun _ => h.ne (d (by decide)), fun _ => ⟨h.ne (d (by decide)), h.ne (d (by decide))⟩⟩
theorem Fst.text {x : List UInt8} {L : Nat} (h1 : 1 ≤ L → x ≠ tIf) (h2 : 4 ≤ L → x ≠ tNot) (h3 : 8 ≤ L → x ≠ tMinus ∧ x ≠ tPre) : Fst L (sOf x) := ⟨fun h => by rw [sOf_list]; exact h1 h, fun h => by rw [sOf_list]; exact h2 h, fun h => by rw [sOf_list]; exact h3 h⟩
theorem Fst.mono {L M : Nat} {t : ByteArray} (h : Fst M t) (hl : L ≤ M) : Fst L t := ⟨fun g => h.cond (by omega), fun g => h.not (by omega), fun g => h.sign (by omega)⟩
theorem Pr.first {L k : Nat} {e : Ex} {p : List Pc} {x : List UInt8} (h : Pr L e k p x) : ∃ t q, p = t :: q ∧ Fst L t.2 := by
  induction h with
  | brk => exact ⟨_, _, rfl, .text (fun _ => by decide) (fun _ => by decide) (fun _ => by decide)⟩
  | int L t n _ ht => exact ⟨_, _, rfl, .int ht L⟩
  | bool L y _ hy =>
    refine ⟨_, _, rfl, ?_⟩
    simp only [List.mem_cons, List.not_mem_nil, or_false] at hy
    rcases hy with rfl | rfl <;> exact .text (fun _ => by decide) (fun _ => by decide) (fun _ => by decide)
  | name L s _ hs => exact ⟨_, _, rfl, .name hs L⟩
  | call L s ps _ hs _ _ => exact ⟨_, _, rfl, .name hs L⟩
  | cond => exact ⟨_, _, rfl, .text (fun h => by omega) (fun h => by omega) (fun h => by omega)⟩
  | arrow y a b ka kb pa pb xa xb _ _ _ iha _ =>
    obtain ⟨t, q, rfl, hf⟩ := iha
    exact ⟨t, _, rfl, hf.mono (by omega)⟩
  | left L v y a b ka kb pa pb xa xb hl _ _ _ iha _ =>
    obtain ⟨t, q, rfl, hf⟩ := iha
    exact ⟨t, _, rfl, hf.mono hl⟩
  | cmp L y a b ka kb pa pb xa xb hl _ _ _ iha _ =>
    obtain ⟨t, q, rfl, hf⟩ := iha
    exact ⟨t, _, rfl, hf.mono (by omega)⟩
  | not L a k p x hl _ _ => exact ⟨_, _, rfl, .text (fun _ => by decide) (fun h => by omega) (fun h => by omega)⟩
  | neg L a k p x hl _ _ _ => exact ⟨_, _, rfl, .text (fun _ => by decide) (fun _ => by decide) (fun h => by omega)⟩
  | pre L a k p x hl _ _ => exact ⟨_, _, rfl, .text (fun _ => by decide) (fun _ => by decide) (fun h => by omega)⟩
end

section
variable {l : List Tk} {i j d : Nat} {e : Ex}
/-- What may not follow a term of this level. -/
def flw (L : Nat) : List (List UInt8) := tOpen :: ((if L ≤ 5 then Lv.prod.ops else []) ++ ((if L ≤ 4 then Lv.sum.ops ++ cmps else []) ++ ((if L ≤ 1 then Lv.and.ops else []) ++ (if L = 0 then Lv.or.ops ++ [tArrow, tFby] else []))))
def Nx (l : List Tk) (L j : Nat) : Prop := ∀ x ∈ flw L, tx l j x = false
theorem Nx.mono {L M : Nat} (h : Nx l L j) (hl : L ≤ M) : Nx l M j := fun x hx => h x (by
  simp only [flw, List.mem_cons, List.mem_append] at hx ⊢
  rcases hx with hx | hx | hx | hx | hx
  · exact .inl hx
  · refine .inr (.inl ?_); split at hx
    · rw [if_pos (by omega)]; exact hx
    · cases hx
  · refine .inr (.inr (.inl ?_)); split at hx
    · rw [if_pos (by omega)]; exact hx
    · cases hx
  · refine .inr (.inr (.inr (.inl ?_))); split at hx
    · rw [if_pos (by omega)]; exact hx
    · cases hx
  · refine .inr (.inr (.inr (.inr ?_))); split at hx
    · rw [if_pos (by omega)]; exact hx
    · cases hx)
theorem Nx.txs {L : Nat} (h : Nx l L j) {xs : List (List UInt8)} (hx : ∀ x ∈ xs, x ∈ flw L) : txs l j xs = false := by
  rw [Go.Proofs.YtglkpgcmlbhkpabGreatDoor.txs, List.any_eq_false]
  intro x hm
  rw [h x (hx x hm)]; exact Bool.false_ne_true

/-- It is read as this term, where terms of this level are. -/
def Sok (l : List Tk) (L i j d : Nat) (e : Ex) : Prop := match L with
  | 0 => Parse l .term i d (.ok [e] j)
  | 1 => ∀ r, Parse l (.loop .or [e]) j d r → Parse l (.left .or) i d r
  | 2 => ∀ r, Parse l (.loop .and [e]) j d r → Parse l (.left .and) i d r
  | 3 => Parse l .not i d (.ok [e] j)
  | 4 => Parse l .cmp i d (.ok [e] j)
  | 5 => ∀ r, Parse l (.loop .sum [e]) j d r → Parse l (.left .sum) i d r
  | 6 => ∀ r, Parse l (.loop .prod [e]) j d r → Parse l (.left .prod) i d r
  | 7 => Parse l .un i d (.ok [e] j)
  | _ => Parse l .atom i d (.ok [e] j)
def cdL : Nat → Cd
  | 0 => .term
  | 1 => .left .or
  | 2 => .left .and
  | 3 => .not
  | 4 => .cmp
  | 5 => .left .sum
  | 6 => .left .prod
  | 7 => .un
  | _ => .atom
def Sbad (l : List Tk) (L i d : Nat) : Prop := ∃ j, Parse l (cdL L) i d (.bad j true)
/-- What is written is read, or is too deep. -/
structure Goes (l : List Tk) (L i j d k : Nat) (e : Ex) : Prop where
  ok : d + k ≤ 20 → Sok l L i j d e
  bad : 20 < d + k → Sbad l L i d
theorem Fst.no {L : Nat} (h : Fst L (tkx l i)) : (1 ≤ L → tx l i tIf = false) ∧ (4 ≤ L → tx l i tNot = false) ∧ (8 ≤ L → tx l i tMinus = false ∧ tx l i tPre = false) :=
  ⟨fun g => beq_eq_false_iff_ne.2 (h.cond g), fun g => beq_eq_false_iff_ne.2 (h.not g), fun g => ⟨beq_eq_false_iff_ne.2 (h.sign g).1, beq_eq_false_iff_ne.2 (h.sign g).2⟩⟩
/-- From a level to the next looser one. -/
theorem Goes.up {L k : Nat} (hL : L < 8) (h : Goes l (L + 1) i j d k e) (hf : Fst (L + 1) (tkx l i)) (hn : Nx l L j) : Goes l L i j d k e := by
  obtain ⟨f1, f2, f3⟩ := hf.no
  match L, hL with
  | 0, _ =>
    refine ⟨fun g => ?_, fun g => ?_⟩
    · have a : Parse l (.left .or) i d (.ok [e] j) := h.ok g _ (Parse.loopStop .or (hn.txs (by decide)))
      exact Run.ifF (f1 (by omega)) (Run.then a (Run.ifF (hn.txs (by decide)) Run.done))
    · obtain ⟨m, hm⟩ := h.bad g
      exact ⟨m, Run.ifF (f1 (by omega)) (Run.stop hm)⟩
  | 1, _ =>
    refine ⟨fun g r p => ?_, fun g => ?_⟩
    · have a : Parse l (.left .and) i d (.ok [e] j) := h.ok g _ (Parse.loopStop .and (hn.txs (by decide)))
      exact Parse.left .or a p
    · obtain ⟨m, hm⟩ := h.bad g
      exact ⟨m, Run.stop hm⟩
  | 2, _ =>
    refine ⟨fun g r p => ?_, fun g => ?_⟩
    · exact Parse.left .and (h.ok g) p
    · obtain ⟨m, hm⟩ := h.bad g
      exact ⟨m, Run.stop hm⟩
  | 3, _ =>
    refine ⟨fun g => ?_, fun g => ?_⟩
    · exact Run.ifF (f2 (by omega)) (Run.tail (h.ok g))
    · obtain ⟨m, hm⟩ := h.bad g
      exact ⟨m, Run.ifF (f2 (by omega)) (Run.stop hm)⟩
  | 4, _ =>
    refine ⟨fun g => ?_, fun g => ?_⟩
    · have a : Parse l (.left .sum) i d (.ok [e] j) := h.ok g _ (Parse.loopStop .sum (hn.txs (by decide)))
      exact Run.then a (Run.ifF (hn.txs (by decide)) Run.done)
    · obtain ⟨m, hm⟩ := h.bad g
      exact ⟨m, Run.stop hm⟩
  | 5, _ =>
    refine ⟨fun g r p => ?_, fun g => ?_⟩
    · have a : Parse l (.left .prod) i d (.ok [e] j) := h.ok g _ (Parse.loopStop .prod (hn.txs (by decide)))
      exact Parse.left .sum a p
    · obtain ⟨m, hm⟩ := h.bad g
      exact ⟨m, Run.stop hm⟩
  | 6, _ =>
    refine ⟨fun g r p => ?_, fun g => ?_⟩
    · exact Parse.left .prod (h.ok g) p
    · obtain ⟨m, hm⟩ := h.bad g
      exact ⟨m, Run.stop hm⟩
  | 7, _ =>
    refine ⟨fun g => ?_, fun g => ?_⟩
    · exact Run.ifF (f3 (by omega)).1 (Run.ifF (f3 (by omega)).2 (Run.tail (h.ok g)))
    · obtain ⟨m, hm⟩ := h.bad g
      exact ⟨m, Run.ifF (f3 (by omega)).1 (Run.ifF (f3 (by omega)).2 (Run.stop hm))⟩
theorem Goes.to {k L : Nat} : ∀ (n : Nat), L + n ≤ 8 → Goes l (L + n) i j d k e → Fst (L + n) (tkx l i) → Nx l L j → Goes l L i j d k e
  | 0, _, h, _, _ => h
  | n + 1, hL, h, hf, hn => Goes.to n (by omega) (Goes.up (by omega) h hf (hn.mono (by omega))) (hf.mono (by omega)) hn
theorem Goes.down {k L M : Nat} (hM : M ≤ 8) (hl : L ≤ M) (h : Goes l M i j d k e) (hf : Fst M (tkx l i)) (hn : Nx l L j) : Goes l L i j d k e := by
  obtain ⟨n, rfl⟩ := Nat.exists_eq_add_of_le hl
  exact Goes.to n hM h hf hn
end
end Go.Proofs.YtglkpgcmlbhkpabGreatDoor
