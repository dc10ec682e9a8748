/-
  lustrumref1's READER OF TERMS: term BY ITS CONTRACT.
-/
import Derived.Test.YtglkpgcmlbhkpabGreatDoorP22
import Derived.Test.YtglkpgcmlbhkpabGreatDoorP07
import Derived.Test.YtglkpgcmlbhkpabGreatDoorP19
import Derived.Deep.AppendLies
import Derived.Test.YtglkpgcmlbhkpabGreatDoorP16
import Derived.Test.YtglkpgcmlbhkpabGreatDoorP21
namespace Go.Proofs.YtglkpgcmlbhkpabGreatDoor
open Go.RowKit
attribute [local go_sem ↓] Go.wp_at_zero Go.wp_at_succ

theorem agg_inj {op op' : ByteArray} {x x' : Int} {s s' : ByteArray} {so so' : Option Addr} {m m' sc sc' : Nat} (h : Value.agg #[.string op, .int .i64 x, .string s, .slice so m sc] = .agg #[.string op', .int .i64 x', .string s', .slice so' m' sc']) : op = op' ∧ x = x' ∧ s = s' ∧ so = so' ∧ m = m' ∧ sc = sc' := by
  injection h with h
  simp only [Array.mk.injEq, List.cons.injEq, Value.string.injEq, Value.int.injEq, Value.slice.injEq, true_and, and_true] at h
  exact h
/-- What a value is where a term was read. -/
theorem QRel.inv {l : List Tk} {c : Cd} {d base : Nat} {w' : World} {i j : Nat} {op : ByteArray} {x : Int} {s : ByteArray} {so : Option Addr} {m sc : Nat} (h : QRel l c d base w' (.here i) (.here j) (.agg #[.string op, .int .i64 x, .string s, .slice so m sc])) : ∃ es ys, m = es.length ∧ Parse l c i d (.ok [.mk op x s es] j) ∧ i < j ∧ RowAt w' (From base) 4 (.slice so m sc) m ys ∧ ExIn w' (From base) es ys := by
  generalize hv : Value.agg #[.string op, .int .i64 x, .string s, .slice so m sc] = v at h
  cases h with
  | ok _ _ op' x' s' es so' sc' ys hp hij hrow hin =>
    obtain ⟨rfl, rfl, rfl, rfl, rfl, rfl⟩ := agg_inj hv
    exact ⟨es, ys, rfl, hp, hij, hrow, hin⟩
theorem QRel.badOf {l : List Tk} {c : Cd} {d base : Nat} {w' : World} {i j : Nat} {bd : Bool} {v : Value} (h : QRel l c d base w' (.here i) (.bad j bd) v) : Parse l c i d (.bad j bd) := by
  cases h with
  | fail _ _ _ _ hp _ => exact hp
theorem QRel.stays {l : List Tk} {c : Cd} {d base : Nat} {w' : World} {j : Nat} {bd : Bool} {st : St} {v : Value} (h : QRel l c d base w' (.bad j bd) st v) : st = .bad j bd := by
  cases h with
  | stay _ _ _ _ => rfl
theorem want_left {C : Qc} {c : Cd} {d base n : Nat} {w' : World} {st st' : St} {v : Value} {x : List UInt8} (h : QRel C.l c d base w' st st' v) (hn : st.isAt = true → C.l.length - st.k ≤ n) : (st'.want C.l x).isAt = true → C.l.length - (st'.want C.l x).k ≤ n := fun hw => by
  cases h with
  | ok i j op y s es so sc ys hp hij =>
    simp only [St.want] at hw ⊢
    split at hw
    · rename_i h'
      have := hn rfl
      simp only [St.k] at this
      simp only [h', if_true, St.k]; omega
    · cases hw
  | fail => cases hw
  | stay => cases hw

end Go.Proofs.YtglkpgcmlbhkpabGreatDoor

/-
  lustrumref1's READER OF TERMS: term BY ITS CONTRACT, all of it.
-/
namespace Go.Proofs.YtglkpgcmlbhkpabGreatDoor
open Go.RowKit
attribute [local go_sem ↓] Go.wp_at_zero Go.wp_at_succ

end Go.Proofs.YtglkpgcmlbhkpabGreatDoor

/-
  lustrumref1's READER OF TERMS: atom BY ITS CONTRACTS, but for calls.
-/
namespace Go.Proofs.YtglkpgcmlbhkpabGreatDoor
open Go.RowKit
attribute [local go_sem ↓] Go.wp_at_zero Go.wp_at_succ

set_option maxRecDepth 100000 in
set_option maxHeartbeats 1000000 in
theorem intOf_val (t : ByteArray) (w : World) (ht : 0 < t.size) (hd : ∀ k, k < t.size → digI (byteI t k) = true) (hB : intB t = true) :
    Calls Tryz.prog 202 #[.string t] w fun e w' => e = .returned (.int .i64 (valL t.data.toList : Int)) ∧ w' = w := by
  have hlen : t.data.toList.length = t.size := Array.length_toList
  have h3 : t.size ≤ 3 := by
    rcases Nat.lt_or_ge 3 t.size with h | h
    · rw [long_int t h hd] at hB; cases hB
    · exact h
  have hz : (t.size : Int) ≤ 1 ∨ ((t[0].toNat : Int) == 48) = false := by
    rcases Nat.lt_or_ge 1 t.size with h | h
    · right
      cases h' : ((t[0].toNat : Int) == 48) with
      | false => rfl
      | true => rw [intB_zero t ht (by omega) h'] at hB; cases hB
    · left; omega
  have hv : (valL t.data.toList : Int) ≤ 127 := by
    rcases Int.lt_or_le 127 (valL t.data.toList : Int) with h | h
    · rw [intB_big t h] at hB; cases hB
    · exact h
  clear hB
  go_enter Tryz.func202, Tryz.ntmps202
  go_wp2
  go_loop [3, 4] (fun n i => ∃ (k v : Nat), k ≤ t.size ∧ k ≤ 4 ∧ v ≤ 10000 ∧ i = .int .i64 k ∧ n = .int .i64 v ∧ Hid (v = valL (t.data.toList.take k) ∧ v < 10 ^ k)) (fun _ i => 4 - (intOf i).toNat)
  case atStart => exact ⟨0, 0, Nat.zero_le _, by omega, by omega, rfl, rfl, rfl, by decide⟩
  case round =>
    obtain ⟨k, v, hk, hk4, hv4, rfl, rfl, hval⟩ := hrel
    by_cases hl1 : k < t.size
    · have hl2 : k < 4 := by omega
      have hdk := hd k hl1
      rw [byteI_lt hl1] at hdk
      simp only [digI, Bool.and_eq_true, decide_eq_true_eq] at hdk
      obtain ⟨q1, q2⟩ := hdk
      go_wp2
      obtain ⟨hv1, hv2⟩ := hval.out
      have hp : 10 ^ (k + 1) ≤ 10 ^ 4 := Nat.pow_le_pow_right (by omega) (by omega)
      have hlt' : 10 * v + (t[k].toNat - 48) < 10 ^ (k + 1) := by rw [Nat.pow_succ]; omega
      refine ⟨⟨k + 1, 10 * v + (t[k].toNat - 48), by omega, by omega, by omega, by go_num, ?_, ?_, hlt'⟩, by simp [intOf]; omega⟩
      · have e : (10 * (v : Int) + ((t[k].toNat : Int) - 48)) = ((10 * v + (t[k].toNat - 48) : Nat) : Int) := by omega
        rw [e]
      · rw [take_snoc t k hl1, valL_snoc, ← hv1]
    · obtain rfl : k = t.size := by omega
      have e1 := hval.out.1
      rw [List.take_of_length_le (by omega)] at e1
      subst e1
      clear hd
      rcases hz with hz | hz
      · go_wp2
        go_ret
        exact ⟨rfl, rfl⟩
      · go_wp2
        all_goals go_ret
        all_goals exact ⟨rfl, rfl⟩

end Go.Proofs.YtglkpgcmlbhkpabGreatDoor

/-
  lustrumref1's READER OF TERMS: atom BY ITS CONTRACT: what is none; calls; all of it.
-/
namespace Go.Proofs.YtglkpgcmlbhkpabGreatDoor
open Go.RowKit
attribute [local go_sem ↓] Go.wp_at_zero Go.wp_at_succ

end Go.Proofs.YtglkpgcmlbhkpabGreatDoor

/-
  lustrumref1's READER OF TERMS: atom BY ITS CONTRACT: calls.
-/
namespace Go.Proofs.YtglkpgcmlbhkpabGreatDoor
open Go.RowKit
attribute [local go_sem ↓] Go.wp_at_zero Go.wp_at_succ

theorem Tryz.infoRExpr : (Tryz.prog.info? 38).map (fun i => (i.zero, i.size, i.bytes)) = some (some (.agg #[.string ⟨#[]⟩, .int .i64 0, .string ⟨#[]⟩, .slice none 0 0]), 4, 64) := by kernel_rfl

/-- A call's arguments so far. -/
inductive ARel (l : List Tk) (i d : Nat) : St → Bool → List Ex → Prop
  | start : d ≠ 20 → ARel l i d (.here (i + 1 + 1)) true []
  | more (j : Nat) (es : List Ex) : d ≠ 20 → (∀ r, Parse l (.more es) j (d + 1) r → Parse l .args (i + 1 + 1) (d + 1) r) → i + 1 + 1 < j → es.length ≤ j → ARel l i d (.here j) false es
  | bad (j : Nat) (bd : Bool) (f : Bool) (es : List Ex) : Parse l .atom i d (.bad j bd) → ARel l i d (.bad j bd) f es
theorem ARel.num {l : List Tk} {i d j : Nat} {f : Bool} {es : List Ex} (h : ARel l i d (.here j) f es) : d ≠ 20 ∧ i < j ∧ es.length ≤ j := by
  cases h with
  | start hd => exact ⟨hd, by omega, by simp⟩
  | more _ _ hd _ hj hl => exact ⟨hd, by omega, hl⟩
theorem not_both {l : List Tk} {j : Nat} {x y : List UInt8} (hx : tx l j x = true) (hn : x ≠ y) : tx l j y = false := by
  have e : (tkx l j).toList = x := by simpa [tx] using hx
  simp only [tx, e]
  simpa using hn
theorem ARel.ok {l : List Tk} {i d j : Nat} {f : Bool} {es : List Ex} (h : ARel l i d (.here j) f es) (g1 : isInt l i = false) (g2 : txs l i [tTrue, tFalse] = false) (g3 : isName l i = true) (g4 : tx l (i + 1) tOpen = true) (hx : tx l j tShut = true) : Parse l .atom i d (.ok [.mk sCall 0 (tkx l i) es] (j + 1)) := by
  have hp : Parse l .args (i + 1 + 1) (d + 1) (.ok es j) := by
    cases h with
    | start hd => exact Run.ifT hx Run.done
    | more _ _ hd hp hj hl => exact hp _ (Run.ifF (not_both hx (by decide)) Run.done)
  exact Run.ifF g1 (Run.ifF g2 (Run.ifT g3 (Run.ifT g4 (Run.down h.num.1 (Run.then hp (Run.exp hx Run.done))))))
theorem ARel.next {l : List Tk} {i d j base : Nat} {f : Bool} {es : List Ex} {w' : World} {st5 st6 : St} {op s : ByteArray} {x : Int} {so : Option Addr} {m sc : Nat} (h : ARel l i d (.here j) f es) (g1 : isInt l i = false) (g2 : txs l i [tTrue, tFalse] = false) (g3 : isName l i = true) (g4 : tx l (i + 1) tOpen = true) (hx : tx l j tShut = false) (hst : st5 = if f then .here j else (St.here j).want l tComma) (q : QRel l .term (d + 1) base w' st5 st6 (.agg #[.string op, .int .i64 x, .string s, .slice so m sc])) :
    ∃ es', ARel l i d st6 false es' ∧ ∀ k, st6 = .here k → j < k ∧ ∃ (y : List Ex) (ys : List Value), m = y.length ∧ es' = es ++ [.mk op x s y] ∧ RowAt w' (From base) 4 (.slice so m sc) m ys ∧ ExIn w' (From base) y ys := by
  have F : ∀ {r : Res}, Parse l .args (i + 1 + 1) (d + 1) r → (∀ a k, r ≠ .ok a k) → Parse l .atom i d r := fun {r} hp hr => by
    cases r with
    | ok a k => exact absurd rfl (hr a k)
    | bad k bd => exact Run.ifF g1 (Run.ifF g2 (Run.ifT g3 (Run.ifT g4 (Run.down h.num.1 (Run.stop hp)))))
  have hnum := h.num
  cases h with
  | start hd =>
    simp only [if_true] at hst
    subst hst
    cases st6 with
    | bad k bd => exact ⟨[], .bad k bd _ _ (F (Run.ifF hx (Run.stop q.badOf)) (by simp)), fun k hk => by cases hk⟩
    | here k =>
      obtain ⟨y, ys, e1, hp, hij, hrow, hin⟩ := q.inv
      exact ⟨[.mk op x s y], .more k _ hd (fun r hr => Run.ifF hx (Run.then hp (Run.tail hr))) (by omega) (by simp; omega), fun k' hk => by cases hk; exact ⟨hij, y, ys, e1, rfl, hrow, hin⟩⟩
  | more _ _ hd HP hj hl =>
    simp only [Bool.false_eq_true, if_false] at hst
    cases hc : tx l j tComma with
    | false =>
      rw [show (St.here j).want l tComma = .bad j false from by simp only [St.want, hc, Bool.false_eq_true, if_false]] at hst
      subst hst
      obtain rfl := q.stays
      have hp : Parse l .args (i + 1 + 1) (d + 1) (.ok es j) := HP _ (Run.ifF hc Run.done)
      exact ⟨[], .bad j false _ _ (Run.ifF g1 (Run.ifF g2 (Run.ifT g3 (Run.ifT g4 (Run.down hd (Run.then hp (Run.unexp hx))))))), fun k hk => by cases hk⟩
    | true =>
      rw [show (St.here j).want l tComma = .here (j + 1) from by simp only [St.want, hc, if_true]] at hst
      subst hst
      cases st6 with
      | bad k bd => exact ⟨[], .bad k bd _ _ (F (HP _ (Run.ifT hc (Run.stop q.badOf))) (by simp)), fun k hk => by cases hk⟩
      | here k =>
        obtain ⟨y, ys, e1, hp, hij, hrow, hin⟩ := q.inv
        exact ⟨es ++ [.mk op x s y], .more k _ hd (fun r hr => HP _ (Run.ifT hc (Run.then hp (Run.tail hr)))) (by omega) (by simp; omega), fun k' hk => by cases hk; exact ⟨by omega, y, ys, e1, rfl, hrow, hin⟩⟩
abbrev xTerm (s : ByteArray) : Obj := .cells #[.string ⟨#[99, 97, 108, 108]⟩, .int .i64 0, .string s, .slice none 0 0] 38
theorem heap_alloc_new' {w : World} {n : Nat} (h : n = w.heap.size) (o : Obj) : (w.alloc o).heap[n]? = some o := by subst h; exact heap_alloc_new w o
end Go.Proofs.YtglkpgcmlbhkpabGreatDoor

/-
  package tree's WRITER, on one program: vars, names, term, equation, node, program.
-/
namespace Go.Proofs.YtglkpgcmlbhkpabGreatDoor
open Go.RowKit
attribute [local go_sem ↓] Go.wp_at_zero Go.wp_at_succ

theorem below_cell {B : Nat} {w w' : World} (h : Below B w w') {p : Addr} {v : Value} (hp : p.block < B) (hc : w.cell? p = some v) : w'.cell? p = some v := by
  rw [World.cell?_of_block (w := w) (h.block p.block hp)]; exact hc
theorem Writes.then {B b : Nat} {l x y z : List UInt8} {d : Nat} {w w1 w' : World} {e : Ending} (h : WT B b (l ++ x) d w1 ∧ Below B w w1 ∧ Kept b w w1) (g : Writes B b (l ++ x) y d w1 e w') (hz : z = x ++ y) : Writes B b l z d w e w' := by
  obtain ⟨rfl, h1, h2, h3⟩ := g
  subst hz
  exact ⟨rfl, by rw [← List.append_assoc]; exact h1, h.2.1.trans h2, h.2.2.trans h3⟩
theorem kept_row {b k : Nat} {w w' : World} {o : Obj} (h : Kept b w w') (hr : w.heap[k]? = some o) (hk : k ≠ b) (ho : ∀ c fz, o ≠ .cells c 5 fz) : w'.heap[k]? = some o := h k o hr (fun e => hk (by injection e)) ho
set_option maxRecDepth 100000 in
set_option maxHeartbeats 1000000 in
theorem wvars_nil (B b : Nat) (l : List UInt8) (d : Nat) (w : World) (o : Option Addr) (c : Nat) (h : WT B b l d w) :
    Calls Tryz.prog 130 #[.pointer (some ⟨b, 0, none⟩), .slice o 0 c] w fun e w' => Writes B b l [] d w e w' := by
  go_enter Tryz.func130, Tryz.ntmps130
  go_wp2
  go_loopw [8] (fun t wr => t = .int .i64 0 ∧ wr = w) (fun t _ => 0)
  case atStart => exact ⟨rfl, rfl⟩
  case round =>
    obtain ⟨rfl, rfl⟩ := hrel
    go_wp2
    go_end0
    exact ⟨rfl, by simpa using h, Below.refl _ _, Lib.OthersKept.refl _ _ _⟩
set_option maxRecDepth 100000 in
set_option maxHeartbeats 1000000 in
theorem wvars_one (B b : Nat) (l : List UInt8) (d : Nat) (w : World) (q off c : Nat) (x : ByteArray) (h : WT B b l d w) (c0 : w.cell? ⟨q, off, none⟩ = some (.string x)) (c1 : w.cell? ⟨q, off + 1, none⟩ = some (.int .i64 1)) (hl : l.length + x.size + 6 ≤ 6000) :
    Calls Tryz.prog 130 #[.pointer (some ⟨b, 0, none⟩), .slice (some ⟨q, off, none⟩) 1 c] w fun e w' => Writes B b l (x.data.toList ++ [58, 32, 98, 111, 111, 108]) d w e w' := by
  have HX : Hid (x.size = x.data.toList.length) := rfl
  go_enter Tryz.func130, Tryz.ntmps130
  go_wp2
  go_loopw [8] (fun t wr => (t = .int .i64 0 ∧ wr = w) ∨ (t = .int .i64 1 ∧ WT B b (l ++ (x.data.toList ++ [58, 32, 98, 111, 111, 108])) d wr ∧ Below B w wr ∧ Kept b w wr)) (fun t _ => 1 - (intOf t).toNat)
  case atStart => exact Or.inl ⟨rfl, rfl⟩
  case round =>
    rcases hrel with ⟨rfl, rfl⟩ | ⟨rfl, h1, h2, h3⟩
    · have hlt := h.lt
      have hle := h.le
      have HN : Hid _ := heap_alloc_new wr (.cells #[.string x, .int .i64 1] 170)
      have h0 : WT B b l d (wr.alloc (.cells #[.string x, .int .i64 1] 170)) := h.alloc _
      go_wp2_with fail
      refine (between_first B b l d _ _ h0).mono ?_
      rintro e w1 ⟨rfl, h1, b1, k1⟩
      rw [List.append_nil] at h1
      have HN1 : Hid _ := kept_row k1 HN.out (by omega) (by intro c fz e; injection e with _ e; exact absurd e (by decide))
      obtain ⟨y0, y1, _⟩ := blk2 HN1.out
      have hl1 : wr.heap.size < w1.heap.size := lt_of_cell y0
      go_wp2_with fail
      refine (put_new B b l d _ [x, ⟨#[58, 32]⟩] _ 2 rfl rfl h1 (by simp [cat]; have := HX.out; omega) (by decide) _ rfl).mono ?_
      rintro e w2 ⟨rfl, h2, b2, k2⟩
      have HN2 : Hid _ := kept_row k2 HN1.out (by omega) (by intro c fz e; injection e with _ e; exact absurd e (by decide))
      obtain ⟨z0, z1, _⟩ := blk2 HN2.out
      go_wp2_with fail
      refine (kind_bool B b _ d _ h2 (by simp [cat]; have := HX.out; omega)).mono ?_
      rintro e w3 ⟨rfl, h3, b3, k3⟩
      go_wp2
      refine ⟨Or.inr ⟨by go_num, ?_, ((((Below.refl _ _).alloc (by omega) _).trans b1).trans b2).trans b3, (((Kept.alloc b wr _).trans k1).trans k2).trans k3⟩, by simp [intOf]⟩
      have e1 : l ++ (x.data.toList ++ [58, 32, 98, 111, 111, 108]) = (l ++ cat [x, ⟨#[58, 32]⟩]) ++ [98, 111, 111, 108] := by simp [cat]
      rw [e1]
      exact h3
    · go_wp2
      go_end0
      exact ⟨rfl, h1, h2, h3⟩

set_option maxRecDepth 100000 in
set_option maxHeartbeats 1000000 in
theorem wnames_one (B b : Nat) (l : List UInt8) (d : Nat) (w : World) (q off c : Nat) (x : ByteArray) (h : WT B b l d w) (c0 : w.cell? ⟨q, off, none⟩ = some (.string x)) (hl : l.length + x.size ≤ 6000) :
    Calls Tryz.prog 184 #[.pointer (some ⟨b, 0, none⟩), .slice (some ⟨q, off, none⟩) 1 c] w fun e w' => Writes B b l x.data.toList d w e w' := by
  go_enter Tryz.func184, Tryz.ntmps184
  go_wp2_with fail
  refine (put_new B b l d _ [x] _ 1 rfl rfl h (by simpa [cat] using hl) (by decide) _ rfl).mono ?_
  rintro e w1 ⟨rfl, h1, b1, k1⟩
  go_wp2
  go_end0
  exact ⟨rfl, by simpa [cat] using h1, b1, k1⟩
def sTrue : ByteArray := ⟨#[116, 114, 117, 101]⟩
set_option maxRecDepth 100000 in
set_option maxHeartbeats 1000000 in
theorem shapeOf_true (w : World) :
    Calls Tryz.prog 209 #[.string sTrue] w fun e w' => e = .returned (.tuple #[.agg #[.int .i64 8, .slice none 0 0], .bool true]) ∧ Below w.heap.size w w' := by
  have ht : sTrue.toList = [116, 114, 117, 101] := by rw [ByteArray.toList_eq]; rfl
  go_enter Tryz.func209, Tryz.ntmps209
  go_wp2
  exact bodyPost_ret (v := .tuple #[.agg #[.int .i64 8, .slice none 0 0], .bool true]) (by simp [results, Tryz.results209, go_sem]) rfl ⟨rfl, (Below.refl _ _).alloc (Nat.le_refl _) _⟩
abbrev sNone : ByteArray := ⟨#[]⟩
set_option maxRecDepth 100000 in
set_option maxHeartbeats 1000000 in
theorem formed_true (o : Option Addr) (c : Nat) (w : World) :
    Calls Tryz.prog 178 #[.agg #[.string sTrue, .int .i64 0, .string sNone, .slice o 0 c]] w fun e w' => e = .returned (.bool true) ∧ Below w.heap.size w w' := by
  have ht : sTrue.toList = [116, 114, 117, 101] := by rw [ByteArray.toList_eq]; rfl
  have hn : sNone.toList = [] := by rw [ByteArray.toList_eq]
  have hbA : Below w.heap.size w (w.alloc (.cells #[.string sTrue, .int .i64 0, .string sNone, .slice o 0 c] 62)) := (Below.refl _ _).alloc (Nat.le_refl _) _
  have HA : Hid _ := heap_alloc_new w (.cells #[.string sTrue, .int .i64 0, .string sNone, .slice o 0 c] 62)
  go_enter Tryz.func178, Tryz.ntmps178
  go_wp2_with fail
  refine (shapeOf_true _).mono ?_
  rintro e w1 ⟨rfl, hb1⟩
  obtain ⟨a0, a1, a2, a3, _⟩ := blk4 (row_keep hb1 HA.out)
  have hl1 : w.heap.size < w1.heap.size := lt_of_cell a0
  go_wp2
  exact bodyPost_ret (v := .bool true) (by simp [results, Tryz.results178, go_sem]) rfl ⟨rfl, (hbA.trans (hb1.mono (by simp))).alloc (by omega) _⟩
set_option maxRecDepth 100000 in
set_option maxHeartbeats 1000000 in
theorem shape_true (b : Nat) (o : Option Addr) (c : Nat) (w : World) :
    Calls Tryz.prog 211 #[.pointer (some ⟨b, 0, none⟩), .agg #[.string sTrue, .int .i64 0, .string sNone, .slice o 0 c]] w fun e w' => e = .returned (.agg #[.int .i64 8, .slice none 0 0]) ∧ Below w.heap.size w w' := by
  have ht : sTrue.toList = [116, 114, 117, 101] := by rw [ByteArray.toList_eq]; rfl
  have hbA : Below w.heap.size w ((w.alloc (.cells #[.string sTrue, .int .i64 0, .string sNone, .slice o 0 c] 62)).alloc (.cells #[.int .i64 0, .slice none 0 0] 299)) := ((Below.refl _ _).alloc (Nat.le_refl _) _).alloc (by simp) _
  have HA : Hid _ := alloc_row (.cells #[.int .i64 0, .slice none 0 0] 299) (heap_alloc_new w (.cells #[.string sTrue, .int .i64 0, .string sNone, .slice o 0 c] 62))
  have HB : Hid _ := two_new w (.cells #[.string sTrue, .int .i64 0, .string sNone, .slice o 0 c] 62) (.cells #[.int .i64 0, .slice none 0 0] 299)
  go_enter Tryz.func211, Tryz.ntmps211
  go_wp2_with fail
  refine (formed_true o c _).mono ?_
  rintro e w0 ⟨rfl, hb0⟩
  have HA0 : Hid _ := row_keep hb0 HA.out
  have HB0 : Hid _ := row_keep hb0 HB.out
  obtain ⟨x0, x1, x2, x3, _⟩ := blk4 HA0.out
  have hl0 : w.heap.size < w0.heap.size := lt_of_cell x0
  go_wp2_with fail
  refine (shapeOf_true _).mono ?_
  rintro e w1 ⟨rfl, hb1⟩
  obtain ⟨a0, a1, a2, a3, _⟩ := blk4 (row_keep hb1 HA0.out)
  obtain ⟨b0, b1, bf⟩ := blk2 (row_keep hb1 HB0.out)
  have bf0 := bf 0
  have bf1 := bf 1
  have hl1 : w.heap.size < w1.heap.size := lt_of_cell a0
  have hl2 : w.heap.size + 1 < w1.heap.size := lt_of_cell b0
  go_wp2
  have hr := alloc_row (.cells #[.int .i64 8, .slice none 0 0] 299) (set_row (k := 1) (v := .slice none 0 0) (set_row (k := 0) (v := .int .i64 8) (row_keep hb1 HB0.out)))
  obtain ⟨y0, y1, _⟩ := blk2 hr
  have hs0 := hb0.size
  simp only [World.size_alloc] at hs0
  exact bodyPost_ret (v := .agg #[.int .i64 8, .slice none 0 0]) (by simp [results, Tryz.results211, go_sem, y0, y1]) rfl ⟨rfl, ((((hbA.trans (hb0.mono (by simp; omega))).trans (hb1.mono (by omega))).setCell (by show w.heap.size ≤ w.heap.size + 1; omega) _).setCell (by show w.heap.size ≤ w.heap.size + 1; omega) _).alloc (by simp; omega) _⟩
set_option maxRecDepth 100000 in
set_option maxHeartbeats 1000000 in
theorem bare_true (B b : Nat) (l : List UInt8) (d : Nat) (w : World) (o : Option Addr) (c : Nat) (lv : Int) (sp : Value) (h : WT B b l d w) (hl : l.length + 4 ≤ 6000) :
    Calls Tryz.prog 212 #[.pointer (some ⟨b, 0, none⟩), .agg #[.string sTrue, .int .i64 0, .string sNone, .slice o 0 c], .agg #[.int .i64 lv, sp]] w fun e w' => Writes B b l [116, 114, 117, 101] d w e w' := by
  have ht : sTrue.toList = [116, 114, 117, 101] := by rw [ByteArray.toList_eq]; rfl
  have hmf : ∀ (fn : Fn) (first cap : Array Value) (w : World), (Instr.makeFunc fn first cap).run Tryz.prog w = .ok (.func fn first cap) w := fun _ _ _ _ => rfl
  go_enter Tryz.func212, Tryz.ntmps212
  have hlt := h.lt
  have hle := h.le
  go_wp2_with fail
  refine (put_new B b l d _ [sTrue] _ 1 (by simp) rfl (((h.alloc _).alloc _).alloc _) (by simpa [cat, sTrue] using hl) (by decide) _ rfl).mono ?_
  rintro e w1 ⟨rfl, h1, b1, k1⟩
  go_wp2
  go_end0
  exact ⟨rfl, h1, ((((Below.refl _ _).alloc (by omega) _).alloc (by simp; omega) _).alloc (by simp; omega) _).trans b1, ((((Lib.OthersKept.refl _ _ _).alloc _).alloc _).alloc _).trans k1⟩
theorem WT.deep {B b : Nat} {l : List UInt8} {d : Nat} {w : World} (h : WT B b l d w) : w.cell? ⟨b, 3, none⟩ = some (.int .i64 d) ∧ w.frozen? ⟨b, 3, none⟩ = false := by
  obtain ⟨p, _, _, v, hb, _⟩ := Wr.of h
  exact ⟨by simp [World.cell?, hb], by simp [World.frozen?, hb]⟩
theorem WT.set {B b : Nat} {l : List UInt8} {d : Nat} {w : World} (h : WT B b l d w) (e : Nat) {x : Int} (hx : x = (e : Int)) : WT B b l e (w.setCell ⟨b, 3, none⟩ (.int .i64 x)) := by
  subst hx
  have K : ∀ p, WrAt B b p (Lib.byteCells l) d w → WrAt B b p (Lib.byteCells l) e (w.setCell ⟨b, 3, none⟩ (.int .i64 e)) := fun p ⟨hB, v, hb, hown, hne⟩ =>
    ⟨hB, v, set_row hb, hown.kept (row := some b) ⟨rfl, rfl, rfl, by simp [World.setCell], fun k _ hk => Below.heap_setCell _ _ _ _ (fun e => hk (by simp [e]))⟩ (Or.inr hne), hne⟩
  rcases h with h | h
  · exact Or.inl (K _ h)
  · exact Or.inr (K _ h)
theorem WT.below {B b : Nat} {l : List UInt8} {d : Nat} {w w' : World} (h : WT B b l d w) (hb : Below w.heap.size w w') : WT B b l d w' := by
  have K : ∀ p, WrAt B b p (Lib.byteCells l) d w → WrAt B b p (Lib.byteCells l) d w' := fun p ⟨hB, v, hr, hown, hne⟩ =>
    ⟨hB, v, row_keep hb hr, hown.kept (row := none) ⟨hb.os, hb.tape, hb.output, hb.size, fun k hk _ => hb.block k hk⟩ (by cases h : v.ownBlock with | none => exact Or.inl rfl | some k => exact Or.inr (by simp)), hne⟩
  rcases h with h | h
  · exact Or.inl (K _ h)
  · exact Or.inr (K _ h)
theorem Kept.below {b : Nat} {w w' : World} (hb : Below w.heap.size w w') : Kept b w w' := fun _ _ hk _ _ => row_keep hb hk
set_option maxRecDepth 100000 in
set_option maxHeartbeats 1000000 in
theorem term_true (B b : Nat) (l : List UInt8) (d : Nat) (w : World) (o : Option Addr) (c : Nat) (h : WT B b l d w) (hl : l.length + 4 ≤ 6000) (hd : d < 6000) :
    Calls Tryz.prog 185 #[.pointer (some ⟨b, 0, none⟩), .agg #[.string sTrue, .int .i64 0, .string sNone, .slice o 0 c], .int .i64 0] w fun e w' => Writes B b l [116, 114, 117, 101] d w e w' := by
  have hlt := h.lt
  have hle := h.le
  obtain ⟨c2, f2⟩ := h.deep
  have hd0 : ((d : Int) == 6000) = false := by simp; omega
  go_enter Tryz.func185, Tryz.ntmps185
  have h0 : WT B b l (d + 1) ((w.setCell ⟨b, 3, none⟩ (.int .i64 (d + 1))).alloc (.cells #[.string sTrue, .int .i64 0, .string sNone, .slice o 0 c] 62)) := (h.set (d + 1) (by omega)).alloc _
  have HE : Hid (((w.setCell ⟨b, 3, none⟩ (.int .i64 (d + 1))).alloc (.cells #[.string sTrue, .int .i64 0, .string sNone, .slice o 0 c] 62)).heap[w.heap.size]? = some (.cells #[.string sTrue, .int .i64 0, .string sNone, .slice o 0 c] 62)) := heap_alloc_new' (by simp) _
  have b0 : Below B w ((w.setCell ⟨b, 3, none⟩ (.int .i64 (d + 1))).alloc (.cells #[.string sTrue, .int .i64 0, .string sNone, .slice o 0 c] 62)) := ((Below.refl _ _).setCell (p := ⟨b, 3, none⟩) hle _).alloc (by simp; omega) _
  have k0 : Kept b w ((w.setCell ⟨b, 3, none⟩ (.int .i64 (d + 1))).alloc (.cells #[.string sTrue, .int .i64 0, .string sNone, .slice o 0 c] 62)) := ((Lib.OthersKept.refl _ _ _).setCell ⟨b, 3, none⟩ rfl _).alloc _
  go_wp2_with fail
  refine (shape_true b o c _).mono ?_
  rintro e w1 ⟨rfl, hb1⟩
  have HE1 : Hid _ := row_keep hb1 HE.out
  obtain ⟨e0, e1, e2, e3, _⟩ := blk4 HE1.out
  have hl1 : w.heap.size < w1.heap.size := lt_of_cell e0
  have h1 : WT B b l (d + 1) (w1.alloc (.cells #[.int .i64 8, .slice none 0 0] 299)) := (h0.below hb1).alloc _
  go_wp2_with fail
  refine (bare_true B b l (d + 1) _ o c 8 _ h1 hl).mono ?_
  rintro e w2 ⟨rfl, h2, b2, k2⟩
  obtain ⟨d2, g2⟩ := h2.deep
  have hlt2 := h2.lt
  go_wp2
  go_end0
  refine ⟨rfl, ?_, ?_, ?_⟩
  · exact h2.set d (by push_cast; omega)
  · exact ((((b0.trans (hb1.mono (by have := b0.size; omega))).alloc (by omega) _).trans b2).setCell (p := ⟨b, 3, none⟩) hle _)
  · exact ((k0.trans (Kept.below hb1)).alloc _ |>.trans k2).setCell ⟨b, 3, none⟩ rfl _
end Go.Proofs.YtglkpgcmlbhkpabGreatDoor
