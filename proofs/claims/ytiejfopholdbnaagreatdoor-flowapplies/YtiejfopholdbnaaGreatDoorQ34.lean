/-
  package flow: Apply of / and mod, of two ints, BY CONTRACT.
-/
import Derived.Test.YtiejfopholdbnaaGreatDoorQ23
import Derived.Test.YtiejfopholdbnaaGreatDoorQ14
import Derived.Test.YtiejfopholdbnaaGreatDoorQ01
import Derived.Laws.CopyRow
import Derived.Test.YtiejfopholdbnaaGreatDoorQ07
import Derived.Handy
import Derived.Test.YtiejfopholdbnaaGreatDoorQ02
import Derived.Deep.QuietTactic
import Derived.BigQuiet
import Derived.WalkSmall
import Derived.Deep.Cut
import Derived.Deep.CutRange
import Derived.Deep.DeepCutAuto
import Derived.Test.YtiejfopholdbnaaGreatDoorQ12
import Derived.Test.YtiejfopholdbnaaGreatDoorQ24
import Derived.Test.YtiejfopholdbnaaGreatDoorRows
import Derived.Deep.Strs
namespace Go.Proofs.YtiejfopholdbnaaGreatDoor
open Go.RowKit Go.Maps
theorem zero_oper (w : World) : (zeroValue 128).run Tryz.prog w = .ok .nilFunc w := by kernel_rfl
set_option maxRecDepth 100000
set_option maxHeartbeats 1000000

theorem vindex_all (w : World) (o : Option Addr) (n c : Nat) (l : List (Int × Int)) (hv : ValsAt w (.slice o n c) l) (hn : n = l.length) (hl : n ≤ 100) :
  Calls Tryz.prog 127 #[.slice o n c, .func (.func 66) #[] #[]] w fun e w' => (∃ i : Int, e = .returned (.int .i64 i) ∧ ((i = -1 ∧ allR l = true) ∨ (0 ≤ i ∧ allR l = false))) ∧ Below w.heap.size w w' := by
 obtain ⟨_, o', c', e, hc⟩ := hv
 obtain ⟨rfl, rfl⟩ : o = o' ∧ c = c' := ⟨(Value.slice.inj e).1, (Value.slice.inj e).2.2⟩
 have HC := hidP hc
 have HN := hidP hn
 have HL := hidP hl
 clear hc hn hl e
 go_enter Tryz.func127, Tryz.ntmps127
 go_wp2
 go_loopw [8] (fun t wr => ∃ j : Nat, j ≤ n ∧ t = .int .i64 j ∧ Hid (Below w.heap.size w wr ∧ allR (l.take j) = true)) (fun t _ => n - (intOf t).toNat)
 case atStart => exact ⟨0, Nat.zero_le _, rfl, Below.refl _ _, rfl⟩
 case round =>
  obtain ⟨j, hj, rfl, HB⟩ := hrel
  by_cases hjl : j < n
  ·obtain ⟨x, hx⟩ : ∃ x, l[j]? = some x := ⟨_, List.getElem?_eq_getElem (by have := HN.out; omega)⟩
   obtain ⟨b, off, rfl, q0, q1⟩ := HC.out j x hx
   have x0 := cell_keep HB.out.1 q0
   have x1 := cell_keep HB.out.1 q1
   obtain ⟨bi, hbi⟩ : ∃ bi, bi = !rightB x.1 x.2 x.1 := ⟨_, rfl⟩
   have HX : Hid (l[j]? = some x ∧ bi = !rightB x.1 x.2 x.1) := ⟨hx, hbi⟩
   obtain ⟨k, m⟩ := x
   have HNO : Hid (Calls Tryz.prog 66 #[.agg #[.int .i64 k, .int .i64 m]] wr fun e w' => e = .returned (.bool bi) ∧ Below wr.heap.size wr w') := by
    have h := isNone_any k m wr
    rw [hbi]
    exact h
   have i0' : (0 : Int) ≤ (j : Int) := by omega
   have i1' : (j : Int) < (n : Int) := by omega
   have N4 : Hid (wrap64 ((j : Int) + 1) = (j : Int) + 1) := by have := HL.out; unfold Hid wrap64; omega
   have HJ := hidP hjl
   clear hj hjl hx q0 q1 hbi
   cases bi with
   | true =>
    go_wp2_with (go_at_call 66; refine HNO.out.mono ?_; rintro e w2 ⟨rfl, hb2⟩; have HB2 : Hid (Below w.heap.size w w2) := HB.out.1.trans (hb2.mono HB.out.1.size); clear hb2 x0 x1)
    go_ret
    refine ⟨⟨_, rfl, .inr ⟨by omega, ?_⟩⟩, HB2.out⟩
    have h := HX.out
    cases hr : allR l with
    | false => rfl
    | true =>
     have := List.all_eq_true.1 hr _ (List.mem_of_getElem? h.1)
     simp only at this
     rw [this] at h
     exact absurd h.2 (by simp)
   | false =>
    go_wp2_with (go_at_call 66; refine HNO.out.mono ?_; rintro e w2 ⟨rfl, hb2⟩; have HB2 : Hid (Below w.heap.size w w2) := HB.out.1.trans (hb2.mono HB.out.1.size); clear hb2 x0 x1)
    refine ⟨⟨j + 1, HJ.out, by rw [N4.out]; rfl, HB2.out, ?_⟩, by rw [N4.out]; have := HJ.out; simp [intOf]; omega⟩
    have h := HX.out
    have h2 := HB.out.2
    unfold allR at h2 ⊢
    rw [List.take_add_one, h.1, List.all_append, h2]
    have : rightB k m k = true := by have := h.2; simp at this; exact this
    simp [this]
  ·obtain rfl : j = n := by omega
   have HE : Hid (allR l = true) := by
    have h := HB.out.2
    rw [HN.out, List.take_length] at h
    exact h
   clear hj hjl
   go_wp2
   go_ret
   exact ⟨⟨_, rfl, .inl ⟨rfl, HE.out⟩⟩, HB.out.1⟩
theorem vcontains_all (w : World) (o : Option Addr) (n c : Nat) (l : List (Int × Int)) (hv : ValsAt w (.slice o n c) l) (hn : n = l.length) (hl : n ≤ 100) :
  Calls Tryz.prog 65 #[.slice o n c, .func (.func 66) #[] #[]] w fun e w' => e = .returned (.bool (!allR l)) ∧ Below w.heap.size w w' := by
 have HC : Hid (Calls Tryz.prog 127 #[.slice o n c, .func (.func 66) #[] #[]] w fun e w' => (∃ i : Int, e = .returned (.int .i64 i) ∧ ((i = -1 ∧ allR l = true) ∨ (0 ≤ i ∧ allR l = false))) ∧ Below w.heap.size w w') := vindex_all w o n c l hv hn hl
 clear hv hn hl
 go_enter Tryz.func65, Tryz.ntmps65
 go_wp2_with (go_at_call 127; refine HC.out.mono ?_; rintro e w' ⟨⟨i, rfl, hi⟩, hb⟩)
 go_ret
 refine ⟨?_, hb⟩
 rcases hi with ⟨rfl, h⟩ | ⟨h0, h⟩
 ·rw [h]; rfl
 ·rw [h]; have : decide (0 ≤ i) = true := decide_eq_true h0
  simp [this]
structure Own where
 blk : Option Nat
 is : World → Prop
 loc : ∀ w w', (∀ q, blk = some q → w'.heap[q]? = w.heap[q]?) → is w → is w'
def oNil : Own := ⟨none, fun _ => True, fun _ _ _ h => h⟩
def oBlk (b : Nat) (o : Obj) : Own := ⟨some b, fun w => w.heap[b]? = some o, fun _ _ h1 h2 => (h1 b rfl).trans h2⟩
def oRow (base : Nat) (e : TypeId) (size : Nat) (v : Value) (n : Nat) (xs : List Value) : Own := ⟨v.ownBlock, fun w => w.ownsRow base e size v n xs, fun _ _ h1 h2 => owns_keep h2 h1⟩
def oMap (b n : Nat) (f : List UInt8 → Option Value) : Own := ⟨some b, fun w => FnAt w b n f, fun _ _ h1 h2 => h2.kept (h1 b rfl)⟩
structure Sep (w : World) (base : Nat) (F : Nat → Prop) (cs : List Own) : Prop where
 is : ∀ (i : Nat) (c : Own), cs[i]? = some c → c.is w
 lt : ∀ (i : Nat) (c : Own) (q : Nat), cs[i]? = some c → c.blk = some q → base ≤ q ∧ q < w.heap.size ∧ ¬ F q
 ne : ∀ (i j : Nat) (c d : Own) (q : Nat), i ≠ j → cs[i]? = some c → cs[j]? = some d → c.blk = some q → d.blk ≠ some q
 flt : ∀ b, F b → b < w.heap.size
 base : base ≤ w.heap.size
theorem Sep.keep {w w' : World} {base : Nat} {F : Nat → Prop} {cs : List Own} (h : Sep w base F cs) (hb : Below w.heap.size w w') : Sep w' base F cs :=
 ⟨fun i c hi => c.loc w w' (fun q hq => hb.block q (h.lt i c q hi hq).2.1) (h.is i c hi), fun i c q hi hq => ⟨(h.lt i c q hi hq).1, Nat.lt_of_lt_of_le (h.lt i c q hi hq).2.1 hb.size, (h.lt i c q hi hq).2.2⟩, h.ne, fun b hb' => Nat.lt_of_lt_of_le (h.flt b hb') hb.size, Nat.le_trans h.base hb.size⟩
theorem set_cases {α : Type} {l : List α} {i j : Nat} {x y : α} (h : (l.set i x)[j]? = some y) : (j = i ∧ y = x) ∨ (j ≠ i ∧ l[j]? = some y) := by
 by_cases e : i = j
 ·subst e
  rw [List.getElem?_set_self (by have := (List.getElem?_eq_some_iff.1 h).1; simpa using this)] at h
  exact .inl ⟨rfl, (Option.some.inj h).symm⟩
 ·rw [List.getElem?_set_ne e] at h
  exact .inr ⟨fun h' => e h'.symm, h⟩
theorem Sep.step {w w' : World} {base : Nat} {F : Nat → Prop} {cs : List Own} (h : Sep w base F cs) {i : Nat} {c c' : Own} (hi : cs[i]? = some c) (hg : w.grownBy w' c.blk) (his : c'.is w') (hb : ∀ q, c'.blk = some q → c.blk = some q ∨ (w.heap.size ≤ q ∧ q < w'.heap.size)) : Sep w' base F (cs.set i c') := by
 have hot : ∀ (j : Nat) (d : Own) (q : Nat), j ≠ i → cs[j]? = some d → d.blk = some q → w'.heap[q]? = w.heap[q]? := fun j d q hj hd hq => hg.block q (h.lt j d q hd hq).2.1 (fun e => h.ne j i d c q hj hd hi hq e.symm)
 refine ⟨fun j d hd => ?_, fun j d q hd hq => ?_, fun j k d e q hjk hd he hq => ?_, fun b hb' => Nat.lt_of_lt_of_le (h.flt b hb') hg.size, Nat.le_trans h.base hg.size⟩
 ·rcases set_cases hd with ⟨rfl, rfl⟩ | ⟨hj, hd⟩
  ·exact his
  ·exact d.loc w w' (fun q hq => hot j d q hj hd hq) (h.is j d hd)
 ·rcases set_cases hd with ⟨rfl, rfl⟩ | ⟨hj, hd⟩
  ·rcases hb q hq with h1 | h1
   ·obtain ⟨a, b, c⟩ := h.lt _ _ q hi h1
    exact ⟨a, Nat.lt_of_lt_of_le b hg.size, c⟩
   ·exact ⟨Nat.le_trans h.base h1.1, h1.2, fun hF => by have := h.flt q hF; omega⟩
  ·obtain ⟨a, b, c⟩ := h.lt _ _ q hd hq
   exact ⟨a, Nat.lt_of_lt_of_le b hg.size, c⟩
 ·rcases set_cases hd with ⟨rfl, rfl⟩ | ⟨hj, hd⟩
  ·rcases set_cases he with ⟨rfl, rfl⟩ | ⟨hk, he⟩
   ·exact absurd rfl hjk
   ·intro hq2
    rcases hb q hq with h1 | h1
    ·exact h.ne _ _ _ _ q hjk hi he h1 hq2
    ·have := (h.lt _ _ q he hq2).2.1; omega
  ·have hd1 := hd
   rcases set_cases he with ⟨rfl, rfl⟩ | ⟨hk, he⟩
   ·intro hq2
    rcases hb q hq2 with h1 | h1
    ·exact h.ne _ _ _ _ q hjk hd1 hi hq h1
    ·have := (h.lt _ _ q hd1 hq).2.1; omega
   ·exact h.ne _ _ _ _ q hjk hd1 he hq
theorem Sep.stays {w w' : World} {base : Nat} {F : Nat → Prop} {cs : List Own} (h : Sep w base F cs) {i : Nat} {c : Own} (hi : cs[i]? = some c) (hg : w.grownBy w' c.blk) : Stays F F w w' := fun b hF hl => ⟨hF, hg.block b hl (fun e => (h.lt i c b hi e.symm).2.2 hF)⟩
theorem Sep.below {w w' w0 : World} {F : Nat → Prop} {cs : List Own} (h : Sep w w0.heap.size F cs) {i : Nat} {c : Own} (hi : cs[i]? = some c) (hg : w.grownBy w' c.blk) (hb : Below w0.heap.size w0 w) : Below w0.heap.size w0 w' := hb.grown hg hb.size (fun q hq => (h.lt i c q hi hq).1)
theorem Sep.froze {w w' : World} {base : Nat} {F : Nat → Prop} {cs : List Own} (h : Sep w base F cs) (hb : Below w.heap.size w w') {b : Nat} (h1 : w.heap.size ≤ b) (h2 : b < w'.heap.size) : Sep w' base (fun x => F x ∨ x = b) cs := by
 have hk := h.keep hb
 refine ⟨hk.is, fun i c q hi hq => ⟨(hk.lt i c q hi hq).1, (hk.lt i c q hi hq).2.1, fun hF => ?_⟩, hk.ne, fun x hx => ?_, hk.base⟩
 ·rcases hF with hF | rfl
  ·exact (h.lt i c q hi hq).2.2 hF
  ·have := (h.lt i c q hi hq).2.1; omega
 ·rcases hx with hx | rfl
  ·exact hk.flt x hx
  ·exact h2
theorem Sep.done {w : World} {base : Nat} {F : Nat → Prop} {cs : List Own} (h : Sep w base F cs) {i : Nat} {c : Own} (hi : cs[i]? = some c) : Sep w base (fun x => F x ∨ c.blk = some x) (cs.set i oNil) := by
 refine ⟨fun j d hd => ?_, fun j d q hd hq => ?_, fun j k d e q hjk hd he hq => ?_, fun x hx => ?_, h.base⟩
 ·rcases set_cases hd with ⟨rfl, rfl⟩ | ⟨_, hd⟩
  ·exact trivial
  ·exact h.is j d hd
 ·rcases set_cases hd with ⟨rfl, rfl⟩ | ⟨hj, hd⟩
  ·cases hq
  ·refine ⟨(h.lt j d q hd hq).1, (h.lt j d q hd hq).2.1, fun hF => ?_⟩
   rcases hF with hF | hF
   ·exact (h.lt j d q hd hq).2.2 hF
   ·exact h.ne j i d c q hj hd hi hq hF
 ·rcases set_cases hd with ⟨rfl, rfl⟩ | ⟨_, hd⟩
  ·cases hq
  ·rcases set_cases he with ⟨rfl, rfl⟩ | ⟨_, he⟩
   ·intro h0; cases h0
   ·exact h.ne j k d e q hjk hd he hq
 ·rcases hx with hx | hx
  ·exact h.flt x hx
  ·exact (h.lt i c x hi hx).2.1
theorem grown_set (w : World) (b k : Nat) (v : Value) : w.grownBy (w.setCell ⟨b, k, none⟩ v) (some b) :=
 ⟨rfl, rfl, rfl, by rw [size_setCell]; exact Nat.le_refl _, fun q _ hq => Below.heap_setCell w ⟨b, k, none⟩ v q (fun e => hq (by rw [e]))⟩
theorem Sep.set {w : World} {base : Nat} {F : Nat → Prop} {cs : List Own} (h : Sep w base F cs) {i b : Nat} {a : Array Value} {t : TypeId} (hi : cs[i]? = some (oBlk b (.cells a t (0, 0)))) (k : Nat) (v : Value) : Sep (w.setCell ⟨b, k, none⟩ v) base F (cs.set i (oBlk b (.cells (a.setIfInBounds k v) t (0, 0)))) := by
 refine h.step hi (grown_set w b k v) ?_ (fun q hq => .inl hq)
 exact heap_setCell_same w b k _ _ _ (h.is i _ hi)
theorem Sep.grow {w w' : World} {base : Nat} {F : Nat → Prop} {cs : List Own} (h : Sep w base F cs) {i : Nat} {e : TypeId} {size : Nat} {v : Value} {n : Nat} {xs : List Value} (hi : cs[i]? = some (oRow base e size v n xs)) {g cap m : Nat} {ys : List Value} (ho : w'.ownsRow base e size (.slice (some ⟨g, 0, none⟩) m cap) m ys) (hg : w.grownBy w' v.ownBlock) (ha : v.ownBlock = some g ∨ g = w.heap.size) : Sep w' base F (cs.set i (oRow base e size (.slice (some ⟨g, 0, none⟩) m cap) m ys)) := by
 refine h.step hi hg ho (fun q hq => ?_)
 have hl := (ho.lt g rfl).2
 obtain rfl : g = q := Option.some.inj hq
 rcases ha with ha | ha
 ·exact .inl ha
 ·exact .inr ⟨by omega, hl⟩
theorem ins_cases {α : Type} {l1 l2 : List α} {c d : α} {i : Nat} (h : (l1 ++ c :: l2)[i]? = some d) : (i = l1.length ∧ d = c) ∨ (i ≠ l1.length ∧ (l1 ++ l2)[if i < l1.length then i else i - 1]? = some d) := by
 by_cases h1 : i < l1.length
 ·rw [List.getElem?_append_left h1] at h
  exact .inr ⟨by omega, by rw [if_pos h1, List.getElem?_append_left h1]; exact h⟩
 ·rw [List.getElem?_append_right (by omega)] at h
  by_cases h2 : i = l1.length
  ·subst h2
   rw [Nat.sub_self] at h
   exact .inl ⟨rfl, (by simpa using h.symm)⟩
  ·refine .inr ⟨h2, ?_⟩
   rw [if_neg h1, List.getElem?_append_right (by omega)]
   rw [show i - l1.length = (i - 1 - l1.length) + 1 from by omega] at h
   simpa using h
theorem del_at {α : Type} {l1 l2 : List α} {c d : α} {i : Nat} (h : (l1 ++ l2)[i]? = some d) : (l1 ++ c :: l2)[if i < l1.length then i else i + 1]? = some d := by
 by_cases h1 : i < l1.length
 ·rw [if_pos h1, List.getElem?_append_left h1]
  rwa [List.getElem?_append_left h1] at h
 ·rw [if_neg h1, List.getElem?_append_right (by omega), show i + 1 - l1.length = (i - l1.length) + 1 from by omega]
  rw [List.getElem?_append_right (by omega)] at h
  simpa using h
theorem Sep.put {w : World} {base : Nat} {F : Nat → Prop} {l1 l2 : List Own} (h : Sep w base F (l1 ++ l2)) (c : Own) (his : c.is w) (hb : ∀ q, c.blk = some q → base ≤ q ∧ q < w.heap.size ∧ ¬ F q ∧ ∀ (i : Nat) (d : Own), (l1 ++ l2)[i]? = some d → d.blk ≠ some q) : Sep w base F (l1 ++ c :: l2) := by
 refine ⟨fun i d hi => ?_, fun i d q hi hq => ?_, fun i j d e q hij hd he hq => ?_, h.flt, h.base⟩
 ·rcases ins_cases hi with ⟨_, rfl⟩ | ⟨_, hi⟩
  ·exact his
  ·exact h.is _ d hi
 ·rcases ins_cases hi with ⟨_, rfl⟩ | ⟨_, hi⟩
  ·exact ⟨(hb q hq).1, (hb q hq).2.1, (hb q hq).2.2.1⟩
  ·exact h.lt _ d q hi hq
 ·rcases ins_cases hd with ⟨h1, rfl⟩ | ⟨h1, hd⟩
  ·rcases ins_cases he with ⟨h2, rfl⟩ | ⟨h2, he⟩
   ·omega
   ·exact (hb q hq).2.2.2 _ e he
  ·have hd1 := hd
   rcases ins_cases he with ⟨h2, rfl⟩ | ⟨h2, he⟩
   ·exact fun hq2 => (hb q hq2).2.2.2 _ d hd1 hq
   ·refine h.ne _ _ d e q ?_ hd1 he hq
    split <;> split <;> omega
theorem Sep.drop {w : World} {base : Nat} {F : Nat → Prop} {l1 l2 : List Own} {c : Own} (h : Sep w base F (l1 ++ c :: l2)) : Sep w base F (l1 ++ l2) :=
 ⟨fun _ d hi => h.is _ d (del_at hi), fun _ d q hi hq => h.lt _ d q (del_at hi) hq, fun i j d e q hij hd he hq => h.ne _ _ d e q (by split <;> split <;> omega) (del_at hd) (del_at he) hq, h.flt, h.base⟩
theorem Sep.alloc {w : World} {base : Nat} {F : Nat → Prop} {l1 l2 : List Own} (h : Sep w base F (l1 ++ l2)) (a : Array Value) (t : TypeId) : Sep (w.alloc (.cells a t)) base F (l1 ++ oBlk w.heap.size (.cells a t (0, 0)) :: l2) := by
 have hk := h.keep ((Below.refl w.heap.size w).alloc (Nat.le_refl _) (.cells a t))
 refine hk.put _ (heap_alloc_new w (.cells a t)) (fun q hq => ?_)
 obtain rfl : w.heap.size = q := Option.some.inj hq
 refine ⟨h.base, by simp, fun hF => by have := h.flt _ hF; omega, fun i d hi hd => by have := (h.lt i d _ hi hd).2.1; omega⟩
end Go.Proofs.YtiejfopholdbnaaGreatDoor
namespace Go.Proofs.YtiejfopholdbnaaGreatDoor
open Go.RowKit Go.Deep Go.WideShapes Go.ChangeShapes
theorem cells_int : Tryz.prog.cellsOf 3 = 1 := by kernel_rfl
theorem cells_value : Tryz.prog.cellsOf 66 = 2 := by kernel_rfl
theorem list2 {l : List Value} (h : l.length = 2) : ∃ x y, l = [x, y] := by
 match l, h with
 | [x, y], _ => exact ⟨x, y, rfl⟩
theorem trod_struct2 {H : Type} {enc : TypeId × Value → H} {P : Program} {w : World} {base : Nat} {spare : Nat → Bool} {held : Bool} {t : TypeId} {f0 f1 : Field} {fuel : Nat} {cs : List Value} {x : DataW H × List MemPlace} (ht : P.underlying t = some (.struct #[f0, f1])) (h : DataW.trod enc P w base spare held fuel t cs = some x) :
  ∃ y0 y1 n, DataW.trod enc P w base spare held n f0.type ((cs.drop f0.offset).take (P.cellsOf f0.type)) = some y0 ∧ DataW.trod enc P w base spare held n f1.type ((cs.drop f1.offset).take (P.cellsOf f1.type)) = some y1 := by
 obtain ⟨xs, n, _, rfl, hl, hlen, hf⟩ := DataW.trod_struct ht h
 match xs, hlen with
 | [y0, y1], _ => exact ⟨y0, y1, n, by simpa using hf 0 f0 rfl, by simpa using hf 1 f1 rfl⟩
set_option maxRecDepth 100000 in
theorem open_values {H : Type} {enc : TypeId × Value → H} {W : World} {sp : Nat → Bool} {fuel : Nat} {cs : List Value} {x : DataW H × List MemPlace} (h : DataW.trod enc Tryz.prog W 0 sp true fuel 64 cs = some x) :
  ∃ (v : Value) (l : List (Int × Int)), cs = [v] ∧ ValsAt W v l := by
 rcases open_slice Tryz.underlying64 h with ⟨rfl, rfl⟩ | ⟨a, len, cap, m, n, D, Pl, rfl, hb, hl, hm, hmm, rfl, hx⟩
 ·exact ⟨_, [], rfl, by simp [maxLen], none, 0, rfl, fun i x hi => by simp at hi⟩
 have hlm : len ≤ m := by rw [hmm]; split <;> omega
 have each : ∀ i, i < len → ∃ q : Int × Int, W.cell? (a.add (i * 2)) = some (.int .i64 q.1) ∧ W.cell? (a.add (i * 2 + 1)) = some (.int .i64 q.2) := by
  intro i hi
  obtain ⟨cs', h1, h2⟩ := hx i (by omega)
  rw [cells_value] at h1
  obtain ⟨_, hlen, hcell⟩ := World.cells?_some h1
  obtain ⟨y0, y1, k, u0, u1⟩ := trod_struct2 Tryz.underlying66 h2
  obtain ⟨v0, v1, rfl⟩ := list2 hlen
  simp only [cells_int, List.drop, List.take] at u0 u1
  obtain ⟨p0, e0, _, z0⟩ := DataW.trod_int Tryz.underlying3 u0
  obtain ⟨p1, e1, _, z1⟩ := DataW.trod_int Tryz.underlying3 u1
  simp only [List.cons.injEq, and_true] at e0 e1
  subst e0; subst e1
  have c0 := hcell 0 (by omega)
  have c1 := hcell 1 (by omega)
  rw [add_add] at c0 c1
  exact ⟨(p0, p1), by simpa using c0, by simpa using c1⟩
 obtain ⟨q, hq⟩ := choose_lt each
 have hql : ((List.range len).map q).length = len := by simp
 refine ⟨_, (List.range len).map q, rfl, by rw [hql]; omega, some a, cap, by rw [hql], fun i x hi => ?_⟩
 have hil : i < len := by
  have := (List.getElem?_eq_some_iff.1 hi).1
  omega
 have e : x = q i := by
  rw [List.getElem?_map, List.getElem?_range hil] at hi
  simpa using hi.symm
 subst e
 obtain ⟨a0, a1⟩ := hq i hil
 have z0 := (hq 0 (by omega)).1
 obtain ⟨b, off, spot⟩ := a
 cases spot with
 | some k => simp [Addr.add, World.cell?] at z0; split at z0 <;> simp at z0
 | none =>
  rw [add_plain] at a0 a1
  exact ⟨b, off, rfl, a0, by rw [Nat.add_assoc]; exact a1⟩
end Go.Proofs.YtiejfopholdbnaaGreatDoor
