/-
  lustrumref1's READER OF NODES: equation BY ITS CONTRACTS, but for lists of names.
-/
import Derived.Test.YtomgimfmcfjhdaaGreatDoorP23
namespace Go.Proofs.YtomgimfmcfjhdaaGreatDoor
open Go.RowKit
attribute [local go_sem ↓] Go.wp_at_zero Go.wp_at_succ

abbrev rEq : Obj := .cells #[.string ⟨#[]⟩, .slice none 0 0, .string ⟨#[]⟩, .int .i64 0, .string ⟨#[]⟩, .slice none 0 0] 96
abbrev qEq (kind : ByteArray) (so : Option Addr) (m sc : Nat) : Obj := .cells #[.string kind, .slice so m sc, .string ⟨#[]⟩, .int .i64 0, .string ⟨#[]⟩, .slice none 0 0] 96
/-- An equation's cells, whatever they hold. -/
def Shape6 (v : Value) : Prop := ∃ (kind : ByteArray) (so : Option Addr) (m sc : Nat) (op : ByteArray) (x : Int) (s : ByteArray) (so' : Option Addr) (m' sc' : Nat), v = .agg #[.string kind, .slice so m sc, .string op, .int .i64 x, .string s, .slice so' m' sc']
/-- From where it stood to where it stands: an equation was read; or it failed; or it had failed. -/
inductive ERel (l : List Tk) (base : Nat) (w' : World) : St → St → Value → Prop
  | ok (i j : Nat) (kind : ByteArray) (ns : List Ex) (so : Option Addr) (sc : Nat) (op : ByteArray) (x : Int) (s : ByteArray) (es : List Ex) (so' : Option Addr) (sc' : Nat) (ys : List Value) : Parse l .eq i 0 (.ok [.mk kind 0 b0 [lst ns, .mk op x s es]] j) → i < j → RowAt w' (From base) 1 (.slice so ns.length sc) ns.length (nameCells ns) → RowAt w' (From base) 4 (.slice so' es.length sc') es.length ys → ExIn w' (From base) es ys → ERel l base w' (.here i) (.here j) (.agg #[.string kind, .slice so ns.length sc, .string op, .int .i64 x, .string s, .slice so' es.length sc'])
  | fail (i j : Nat) (bd : Bool) (v : Value) : Parse l .eq i 0 (.bad j bd) → Shape6 v → ERel l base w' (.here i) (.bad j bd) v
  | stay (j : Nat) (bd : Bool) (v : Value) : Shape6 v → ERel l base w' (.bad j bd) (.bad j bd) v
/-- What stands ahead of an equation's term. -/
inductive EPre (l : List Tk) : St → St → ByteArray → List Ex → Prop
  | here (i k : Nat) (kind : ByteArray) (ns : List Ex) : (∀ r, Run l (endA l kind ns k 0) r → Parse l .eq i 0 r) → i < k → EPre l (.here i) (.here k) kind ns
  | bad (i j : Nat) (bd : Bool) (kind : ByteArray) (ns : List Ex) : Parse l .eq i 0 (.bad j bd) → EPre l (.here i) (.bad j bd) kind ns
  | stay (j : Nat) (bd : Bool) (kind : ByteArray) (ns : List Ex) : EPre l (.bad j bd) (.bad j bd) kind ns
theorem EPre.done {l : List Tk} {base base2 : Nat} {w5 w' : World} {st st2 st5 : St} {kind : ByteArray} {ns : List Ex} {so : Option Addr} {m sc : Nat} {op s : ByteArray} {x : Int} {so' : Option Addr} {m' sc' : Nat} (h : EPre l st st2 kind ns) (q : QRel l .term 0 base2 w5 st2 st5 (.agg #[.string op, .int .i64 x, .string s, .slice so' m' sc'])) (hk : Stays (From base2) (From base) w5 w') (hn : st2.isAt = true → m = ns.length ∧ RowAt w' (From base) 1 (.slice so m sc) m (nameCells ns)) : ERel l base w' st (st5.want l tSemi) (.agg #[.string kind, .slice so m sc, .string op, .int .i64 x, .string s, .slice so' m' sc']) := by
  have sh : Shape6 (.agg #[.string kind, .slice so m sc, .string op, .int .i64 x, .string s, .slice so' m' sc']) := ⟨_, _, _, _, _, _, _, _, _, _, rfl⟩
  cases h with
  | here i k _ _ HP hik =>
    obtain ⟨rfl, hrn⟩ := hn rfl
    cases st5 with
    | bad j bd => exact .fail i j bd _ (HP _ (Run.stop q.badOf)) sh
    | here j =>
      obtain ⟨es, ys, rfl, hp, hij, hrow, hin⟩ := q.inv
      cases hx : tx l j tSemi with
      | false =>
        rw [show (St.here j).want l tSemi = .bad j false from by simp only [St.want, hx, Bool.false_eq_true, if_false]]
        exact .fail i j false _ (HP _ (Run.then hp (Run.unexp hx))) sh
      | true =>
        rw [show (St.here j).want l tSemi = .here (j + 1) from by simp only [St.want, hx, if_true]]
        exact .ok i (j + 1) _ ns so sc op x s es so' sc' ys (HP _ (Run.then hp (Run.exp hx Run.done))) (by omega) hrn (hrow.keep hk) (hin.keep hk)
  | bad i j bd _ _ hp =>
    obtain rfl := q.stays
    exact .fail i j bd _ hp sh
  | stay j bd _ _ =>
    obtain rfl := q.stays
    exact .stay j bd _ sh
theorem pass_other {l : List Tk} {st : St} {x : List UInt8} (h : st.tx l x = false) : st.pass l x = st := by
  cases st with
  | bad j bd => rfl
  | here j => have h' : tx l j x = false := h; simp only [St.pass, h', Bool.false_eq_true, if_false]
theorem EPre.one {l : List Tk} {st : St} (g1 : st.tx l tAssert = false) (g2 : st.tx l tCheck = false) (g3 : st.tx l tOpen = false) : EPre l st ((st.name l).want l tEq) sSet [.mk (st.nm l) 0 b0 []] := by
  cases st with
  | bad j bd => exact .stay j bd _ _
  | here i =>
    have g0 : txs l i [tAssert, tCheck] = false := by
      simp only [txs, List.any_cons, List.any_nil, Bool.or_false, Bool.or_eq_false_iff]
      exact ⟨g1, g2⟩
    cases h1 : isName l i with
    | false =>
      have e1 : ((St.here i).name l).want l tEq = .bad i false := by simp [St.name, h1, St.want]
      rw [e1]
      exact .bad i i false _ _ (Run.ifF g0 (Run.ifF g3 (Run.ifF h1 (.ret _))))
    | true =>
      have e2 : (St.here i).nm l = tkx l i := by simp [St.nm, h1]
      rw [e2]
      cases h2 : tx l (i + 1) tEq with
      | false =>
        have e1 : ((St.here i).name l).want l tEq = .bad (i + 1) false := by simp [St.name, h1, h2, St.want]
        rw [e1]
        exact .bad i _ false _ _ (Run.ifF g0 (Run.ifF g3 (Run.ifT h1 (Run.unexp h2))))
      | true =>
        have e1 : ((St.here i).name l).want l tEq = .here (i + 1 + 1) := by simp [St.name, h1, h2, St.want]
        rw [e1]
        exact .here i _ _ _ (fun r hr => Run.ifF g0 (Run.ifF g3 (Run.ifT h1 (Run.exp h2 hr)))) (by omega)
theorem EPre.word {l : List Tk} {i : Nat} {x : List UInt8} (hx : x ∈ [tAssert, tCheck]) (h : tx l i x = true) : EPre l (.here i) (.here (i + 1)) ⟨x.toArray⟩ [] := by
  have g0 : txs l i [tAssert, tCheck] = true := by
    simp only [txs, List.any_eq_true]
    exact ⟨x, hx, h⟩
  have e : tkx l i = ⟨x.toArray⟩ := tx_eq h
  refine .here i (i + 1) _ _ (fun r hr => Run.ifT g0 ?_) (by omega)
  rw [e]; exact hr

set_option maxRecDepth 100000 in
set_option maxHeartbeats 1000000 in
theorem requation_assert (C : Qc) (i : Nat) (w : World) (T : Tkl C.l) (R0 : QS C (.here i) 0 w) (g : tx C.l i tAssert = true) :
    Calls Tryz.prog 38 #[.pointer (some ⟨C.b, 0, none⟩)] w fun e w' => Mv C.b w w' ∧ ∃ st' v, e = .returned v ∧ QS C st' 0 w' ∧ ERel C.l w.heap.size w' (.here i) st' v := by
  have hbl := R0.blt
  have hbA : Below w.heap.size w ((w.alloc rEq).alloc (qEq sSet none 0 0)) := ((Below.refl _ _).alloc (Nat.le_refl _) _).alloc (by simp) _
  have HZ0 : Hid _ := alloc_row (qEq sSet none 0 0) (heap_alloc_new w rEq)
  have HQ0 : Hid _ := two_new w rEq (qEq sSet none 0 0)
  have RA := R0.below hbA
  go_enter Tryz.func38, Tryz.ntmps38
  go_wp2_with fail
  refine (rpass_any C _ 0 _ RA T kWord _ tAssert (Or.inl ⟨by decide, rfl⟩) (by rw [ByteArray.toList_eq]; rfl) (by decide)).mono ?_
  rintro e w2 ⟨rfl, R2, hm2⟩
  have g' : (St.here i).tx C.l tAssert = true := g
  rw [show (St.here i).pass C.l tAssert = .here (i + 1) from by simp only [St.pass, g, if_true]] at R2
  simp only [g']
  have hs2' : w.heap.size + 1 + 1 ≤ w2.heap.size := by have := hm2.size; first | omega | simpa using this
  have hM2' : Mv C.b w w2 := (Mv.of_below hbA).trans hm2
  have hz2 := hm2.row (k := w.heap.size) (by omega) HZ0.out
  have hq2 := hm2.row (k := w.heap.size + 1) (by omega) HQ0.out
  obtain ⟨q0, q1, _, _, _, _, qf⟩ := blk6 hq2
  have qf0 := qf 0
  have hBk : Below w.heap.size w2 (w2.setCell ⟨w.heap.size + 1, 0, none⟩ (.string ⟨#[97, 115, 115, 101, 114, 116]⟩)) := setL_below (N := w.heap.size + 1) (by omega) [.string ⟨#[97, 115, 115, 101, 114, 116]⟩] 0 w2
  have R3 : QS C (.here (i + 1)) 0 (w2.setCell ⟨w.heap.size + 1, 0, none⟩ (.string ⟨#[97, 115, 115, 101, 114, 116]⟩)) := R0.upon R2 hBk
  have hM3 : Mv C.b w (w2.setCell ⟨w.heap.size + 1, 0, none⟩ (.string ⟨#[97, 115, 115, 101, 114, 116]⟩)) := hM2'.upon hBk
  have HZ : Hid ((w2.setCell ⟨w.heap.size + 1, 0, none⟩ (.string ⟨#[97, 115, 115, 101, 114, 116]⟩)).heap[w.heap.size]? = some rEq) := (Below.heap_setCell _ _ _ _ (by show w.heap.size ≠ w.heap.size + 1; omega)).trans hz2
  have HQ : Hid ((w2.setCell ⟨w.heap.size + 1, 0, none⟩ (.string ⟨#[97, 115, 115, 101, 114, 116]⟩)).heap[w.heap.size + 1]? = some (qEq ⟨#[97, 115, 115, 101, 114, 116]⟩ none 0 0)) := set_row hq2
  have HEP : Hid (EPre C.l (.here i) (.here (i + 1)) ⟨#[97, 115, 115, 101, 114, 116]⟩ []) := EPre.word (x := tAssert) (by decide) g
  clear hz2 hq2 qf
  have d2 := R3.c2
  have fd2 := R3.fz 2
  have HR2 : Hid (QS C (.here (i + 1)) 0 ((w2.setCell ⟨w.heap.size + 1, 0, none⟩ (.string ⟨#[97, 115, 115, 101, 114, 116]⟩)).setCell ⟨C.b, 2, none⟩ (.int .i64 0))) := R3.set2 rfl (by omega) (fun _ => by omega)
  have hMs : Mv C.b w ((w2.setCell ⟨w.heap.size + 1, 0, none⟩ (.string ⟨#[97, 115, 115, 101, 114, 116]⟩)).setCell ⟨C.b, 2, none⟩ (.int .i64 0)) := (hM3).trans (Mv.setAt _ _ _ _)
  have hMt : Mv C.b (w2.setCell ⟨w.heap.size + 1, 0, none⟩ (.string ⟨#[97, 115, 115, 101, 114, 116]⟩)) ((w2.setCell ⟨w.heap.size + 1, 0, none⟩ (.string ⟨#[97, 115, 115, 101, 114, 116]⟩)).setCell ⟨C.b, 2, none⟩ (.int .i64 0)) := Mv.setAt _ _ _ _
  have hs2 : w.heap.size + 1 + 1 ≤ ((w2.setCell ⟨w.heap.size + 1, 0, none⟩ (.string ⟨#[97, 115, 115, 101, 114, 116]⟩)).setCell ⟨C.b, 2, none⟩ (.int .i64 0)).heap.size := by simp; omega
  go_wp2_with fail
  refine (rterm_any C.l.length C _ 0 _ T HR2.out (fun _ => Nat.sub_le _ _)).mono ?_
  rintro e w5 ⟨hm5, st5, v5, rfl, R5, hq5⟩
  obtain ⟨op, x, s, so', m', sc', rfl⟩ := hq5.shape
  have HQ5 : Hid _ := hq5
  clear hq5
  have hs5 := hm5.size
  have hq := hm5.row (k := w.heap.size + 1) (by omega) (hMt.row (k := w.heap.size + 1) (by omega) HQ.out)
  have hz := hm5.row (k := w.heap.size) (by omega) (hMt.row (k := w.heap.size) (by omega) HZ.out)
  obtain ⟨a0, a1, a2, a3, a4, a5, af⟩ := blk6 hq
  have af2 := af 2
  have af3 := af 3
  have af4 := af 4
  have af5 := af 5
  have hBq : Below w.heap.size w5 (setL w5 (w.heap.size + 1) 2 [.string op, .int .i64 x, .string s, .slice so' m' sc']) := setL_below (by omega) _ _ _
  have HQ6 : Hid ((setL w5 (w.heap.size + 1) 2 [.string op, .int .i64 x, .string s, .slice so' m' sc']).heap[w.heap.size + 1]? = some (.cells #[.string ⟨#[97, 115, 115, 101, 114, 116]⟩, .slice none 0 0, .string op, .int .i64 x, .string s, .slice so' m' sc'] 96 (0, 0))) := set_row (set_row (set_row (set_row hq)))
  have HZ6 : Hid _ := (setL_block (N := w.heap.size + 1) (k := w.heap.size) (by omega) [.string op, .int .i64 x, .string s, .slice so' m' sc'] 2 w5).trans hz
  clear hq hz af
  have R5' : QS C st5 0 (setL w5 (w.heap.size + 1) 2 [.string op, .int .i64 x, .string s, .slice so' m' sc']) := R0.upon R5 hBq
  go_wp2_with fail
  refine (rwant_any C st5 0 _ R5' T kOp _ tSemi (Or.inr ⟨by decide, rfl⟩) (by rw [ByteArray.toList_eq]; rfl) (by decide)).mono ?_
  rintro e w6 ⟨rfl, R6, hm6⟩
  have hs6 := hm6.size
  rw [setL_size] at hs6
  obtain ⟨b0', b1, b2, b3, b4, b5, _⟩ := blk6 (hm6.row (k := w.heap.size + 1) (by omega) HQ6.out)
  obtain ⟨z0, z1, z2, z3, z4, z5, zf⟩ := blk6 (hm6.row (k := w.heap.size) (by omega) HZ6.out)
  have zf0 := zf 0
  have zf1 := zf 1
  have zf2 := zf 2
  have zf3 := zf 3
  have zf4 := zf 4
  have zf5 := zf 5
  go_wp2
  have hBz : Below w.heap.size w6 (setL w6 w.heap.size 0 [.string ⟨#[97, 115, 115, 101, 114, 116]⟩, .slice none 0 0, .string op, .int .i64 x, .string s, .slice so' m' sc']) := setL_below (Nat.le_refl _) _ _ _
  have hM7 : Mv C.b w (setL w6 w.heap.size 0 [.string ⟨#[97, 115, 115, 101, 114, 116]⟩, .slice none 0 0, .string op, .int .i64 x, .string s, .slice so' m' sc']) := ((((hMs.trans hm5).upon hBq).trans hm6)).upon hBz
  have Sq : ∀ {b : Nat}, w.heap.size + 1 + 1 ≤ b → Stays (From b) (From w.heap.size) w5 (setL w6 w.heap.size 0 [.string ⟨#[97, 115, 115, 101, 114, 116]⟩, .slice none 0 0, .string op, .int .i64 x, .string s, .slice so' m' sc']) := fun {b} hb => ((setL_stays (S' := From (w.heap.size + 1 + 1)) (fun k hk => by unfold From at hk ⊢; exact ⟨by omega, by omega⟩) _ _ _).trans (Stays.mv (S' := From (w.heap.size + 1 + 1)) hm6 (fun k hk => by unfold From at hk ⊢; exact ⟨by omega, by omega⟩)) (by rw [setL_size]; exact Nat.le_refl _)).trans (setL_stays (S' := From w.heap.size) (fun k hk => by unfold From at hk ⊢; exact ⟨by omega, by omega⟩) _ _ _) hs6
  have _Sn : Stays (From (w.heap.size + 1 + 1)) (From w.heap.size) (w2.setCell ⟨w.heap.size + 1, 0, none⟩ (.string ⟨#[97, 115, 115, 101, 114, 116]⟩)) (setL w6 w.heap.size 0 [.string ⟨#[97, 115, 115, 101, 114, 116]⟩, .slice none 0 0, .string op, .int .i64 x, .string s, .slice so' m' sc']) := ((Stays.mv (S' := From (w.heap.size + 1 + 1)) hMt (fun k hk => by unfold From at hk ⊢; exact ⟨by omega, hk⟩)).trans (Stays.mv (S' := From (w.heap.size + 1 + 1)) hm5 (fun k hk => by unfold From at hk ⊢; exact ⟨by omega, hk⟩)) (by simp)).trans (Sq (Nat.le_refl _)) (by simpa using hs5)
  exact bodyPost_ret (v := .agg #[.string ⟨#[97, 115, 115, 101, 114, 116]⟩, .slice none 0 0, .string op, .int .i64 x, .string s, .slice so' m' sc']) (by simp [results, Tryz.results38, go_sem, z0, z1, z2, z3, z4, z5]) rfl ⟨hM7, _, _, rfl, R0.upon R6 hBz, HEP.out.done HQ5.out (Sq hs2) (fun h => ⟨rfl, RowAt.none⟩)⟩

set_option maxRecDepth 100000 in
set_option maxHeartbeats 1000000 in
theorem requation_check (C : Qc) (i : Nat) (w : World) (T : Tkl C.l) (R0 : QS C (.here i) 0 w) (g1 : tx C.l i tAssert = false) (g : tx C.l i tCheck = true) :
    Calls Tryz.prog 38 #[.pointer (some ⟨C.b, 0, none⟩)] w fun e w' => Mv C.b w w' ∧ ∃ st' v, e = .returned v ∧ QS C st' 0 w' ∧ ERel C.l w.heap.size w' (.here i) st' v := by
  have hbl := R0.blt
  have hbA : Below w.heap.size w ((w.alloc rEq).alloc (qEq sSet none 0 0)) := ((Below.refl _ _).alloc (Nat.le_refl _) _).alloc (by simp) _
  have HZ0 : Hid _ := alloc_row (qEq sSet none 0 0) (heap_alloc_new w rEq)
  have HQ0 : Hid _ := two_new w rEq (qEq sSet none 0 0)
  have RA := R0.below hbA
  go_enter Tryz.func38, Tryz.ntmps38
  go_wp2_with fail
  refine (rpass_any C _ 0 _ RA T kWord _ tAssert (Or.inl ⟨by decide, rfl⟩) (by rw [ByteArray.toList_eq]; rfl) (by decide)).mono ?_
  rintro e w1 ⟨rfl, R1, hm1⟩
  have g1' : (St.here i).tx C.l tAssert = false := g1
  rw [pass_other g1'] at R1
  simp only [g1']
  have hs1 : w.heap.size + 1 + 1 ≤ w1.heap.size := by have := hm1.size; simpa using this
  have hM1 : Mv C.b w w1 := (Mv.of_below hbA).trans hm1
  have HZ1 : Hid _ := hm1.row (k := w.heap.size) (by omega) HZ0.out
  have HQ1 : Hid _ := hm1.row (k := w.heap.size + 1) (by omega) HQ0.out
  go_wp2_with fail
  refine (rpass_any C _ 0 _ R1 T kWord _ tCheck (Or.inl ⟨by decide, rfl⟩) (by rw [ByteArray.toList_eq]; rfl) (by decide)).mono ?_
  rintro e w2 ⟨rfl, R2, hm2⟩
  have g' : (St.here i).tx C.l tCheck = true := g
  rw [show (St.here i).pass C.l tCheck = .here (i + 1) from by simp only [St.pass, g, if_true]] at R2
  simp only [g']
  have hs2' : w.heap.size + 1 + 1 ≤ w2.heap.size := by have := hm2.size; first | omega | simpa using this
  have hM2' : Mv C.b w w2 := hM1.trans hm2
  have hz2 := hm2.row (k := w.heap.size) (by omega) HZ1.out
  have hq2 := hm2.row (k := w.heap.size + 1) (by omega) HQ1.out
  obtain ⟨q0, q1, _, _, _, _, qf⟩ := blk6 hq2
  have qf0 := qf 0
  have hBk : Below w.heap.size w2 (w2.setCell ⟨w.heap.size + 1, 0, none⟩ (.string ⟨#[99, 104, 101, 99, 107]⟩)) := setL_below (N := w.heap.size + 1) (by omega) [.string ⟨#[99, 104, 101, 99, 107]⟩] 0 w2
  have R3 : QS C (.here (i + 1)) 0 (w2.setCell ⟨w.heap.size + 1, 0, none⟩ (.string ⟨#[99, 104, 101, 99, 107]⟩)) := R0.upon R2 hBk
  have hM3 : Mv C.b w (w2.setCell ⟨w.heap.size + 1, 0, none⟩ (.string ⟨#[99, 104, 101, 99, 107]⟩)) := hM2'.upon hBk
  have HZ : Hid ((w2.setCell ⟨w.heap.size + 1, 0, none⟩ (.string ⟨#[99, 104, 101, 99, 107]⟩)).heap[w.heap.size]? = some rEq) := (Below.heap_setCell _ _ _ _ (by show w.heap.size ≠ w.heap.size + 1; omega)).trans hz2
  have HQ : Hid ((w2.setCell ⟨w.heap.size + 1, 0, none⟩ (.string ⟨#[99, 104, 101, 99, 107]⟩)).heap[w.heap.size + 1]? = some (qEq ⟨#[99, 104, 101, 99, 107]⟩ none 0 0)) := set_row hq2
  have HEP : Hid (EPre C.l (.here i) (.here (i + 1)) ⟨#[99, 104, 101, 99, 107]⟩ []) := EPre.word (x := tCheck) (by decide) g
  clear hz2 hq2 qf
  have d2 := R3.c2
  have fd2 := R3.fz 2
  have HR2 : Hid (QS C (.here (i + 1)) 0 ((w2.setCell ⟨w.heap.size + 1, 0, none⟩ (.string ⟨#[99, 104, 101, 99, 107]⟩)).setCell ⟨C.b, 2, none⟩ (.int .i64 0))) := R3.set2 rfl (by omega) (fun _ => by omega)
  have hMs : Mv C.b w ((w2.setCell ⟨w.heap.size + 1, 0, none⟩ (.string ⟨#[99, 104, 101, 99, 107]⟩)).setCell ⟨C.b, 2, none⟩ (.int .i64 0)) := (hM3).trans (Mv.setAt _ _ _ _)
  have hMt : Mv C.b (w2.setCell ⟨w.heap.size + 1, 0, none⟩ (.string ⟨#[99, 104, 101, 99, 107]⟩)) ((w2.setCell ⟨w.heap.size + 1, 0, none⟩ (.string ⟨#[99, 104, 101, 99, 107]⟩)).setCell ⟨C.b, 2, none⟩ (.int .i64 0)) := Mv.setAt _ _ _ _
  have hs2 : w.heap.size + 1 + 1 ≤ ((w2.setCell ⟨w.heap.size + 1, 0, none⟩ (.string ⟨#[99, 104, 101, 99, 107]⟩)).setCell ⟨C.b, 2, none⟩ (.int .i64 0)).heap.size := by simp; omega
  go_wp2_with fail
  refine (rterm_any C.l.length C _ 0 _ T HR2.out (fun _ => Nat.sub_le _ _)).mono ?_
  rintro e w5 ⟨hm5, st5, v5, rfl, R5, hq5⟩
  obtain ⟨op, x, s, so', m', sc', rfl⟩ := hq5.shape
  have HQ5 : Hid _ := hq5
  clear hq5
  have hs5 := hm5.size
  have hq := hm5.row (k := w.heap.size + 1) (by omega) (hMt.row (k := w.heap.size + 1) (by omega) HQ.out)
  have hz := hm5.row (k := w.heap.size) (by omega) (hMt.row (k := w.heap.size) (by omega) HZ.out)
  obtain ⟨a0, a1, a2, a3, a4, a5, af⟩ := blk6 hq
  have af2 := af 2
  have af3 := af 3
  have af4 := af 4
  have af5 := af 5
  have hBq : Below w.heap.size w5 (setL w5 (w.heap.size + 1) 2 [.string op, .int .i64 x, .string s, .slice so' m' sc']) := setL_below (by omega) _ _ _
  have HQ6 : Hid ((setL w5 (w.heap.size + 1) 2 [.string op, .int .i64 x, .string s, .slice so' m' sc']).heap[w.heap.size + 1]? = some (.cells #[.string ⟨#[99, 104, 101, 99, 107]⟩, .slice none 0 0, .string op, .int .i64 x, .string s, .slice so' m' sc'] 96 (0, 0))) := set_row (set_row (set_row (set_row hq)))
  have HZ6 : Hid _ := (setL_block (N := w.heap.size + 1) (k := w.heap.size) (by omega) [.string op, .int .i64 x, .string s, .slice so' m' sc'] 2 w5).trans hz
  clear hq hz af
  have R5' : QS C st5 0 (setL w5 (w.heap.size + 1) 2 [.string op, .int .i64 x, .string s, .slice so' m' sc']) := R0.upon R5 hBq
  go_wp2_with fail
  refine (rwant_any C st5 0 _ R5' T kOp _ tSemi (Or.inr ⟨by decide, rfl⟩) (by rw [ByteArray.toList_eq]; rfl) (by decide)).mono ?_
  rintro e w6 ⟨rfl, R6, hm6⟩
  have hs6 := hm6.size
  rw [setL_size] at hs6
  obtain ⟨b0', b1, b2, b3, b4, b5, _⟩ := blk6 (hm6.row (k := w.heap.size + 1) (by omega) HQ6.out)
  obtain ⟨z0, z1, z2, z3, z4, z5, zf⟩ := blk6 (hm6.row (k := w.heap.size) (by omega) HZ6.out)
  have zf0 := zf 0
  have zf1 := zf 1
  have zf2 := zf 2
  have zf3 := zf 3
  have zf4 := zf 4
  have zf5 := zf 5
  go_wp2
  have hBz : Below w.heap.size w6 (setL w6 w.heap.size 0 [.string ⟨#[99, 104, 101, 99, 107]⟩, .slice none 0 0, .string op, .int .i64 x, .string s, .slice so' m' sc']) := setL_below (Nat.le_refl _) _ _ _
  have hM7 : Mv C.b w (setL w6 w.heap.size 0 [.string ⟨#[99, 104, 101, 99, 107]⟩, .slice none 0 0, .string op, .int .i64 x, .string s, .slice so' m' sc']) := ((((hMs.trans hm5).upon hBq).trans hm6)).upon hBz
  have Sq : ∀ {b : Nat}, w.heap.size + 1 + 1 ≤ b → Stays (From b) (From w.heap.size) w5 (setL w6 w.heap.size 0 [.string ⟨#[99, 104, 101, 99, 107]⟩, .slice none 0 0, .string op, .int .i64 x, .string s, .slice so' m' sc']) := fun {b} hb => ((setL_stays (S' := From (w.heap.size + 1 + 1)) (fun k hk => by unfold From at hk ⊢; exact ⟨by omega, by omega⟩) _ _ _).trans (Stays.mv (S' := From (w.heap.size + 1 + 1)) hm6 (fun k hk => by unfold From at hk ⊢; exact ⟨by omega, by omega⟩)) (by rw [setL_size]; exact Nat.le_refl _)).trans (setL_stays (S' := From w.heap.size) (fun k hk => by unfold From at hk ⊢; exact ⟨by omega, by omega⟩) _ _ _) hs6
  have _Sn : Stays (From (w.heap.size + 1 + 1)) (From w.heap.size) (w2.setCell ⟨w.heap.size + 1, 0, none⟩ (.string ⟨#[99, 104, 101, 99, 107]⟩)) (setL w6 w.heap.size 0 [.string ⟨#[99, 104, 101, 99, 107]⟩, .slice none 0 0, .string op, .int .i64 x, .string s, .slice so' m' sc']) := ((Stays.mv (S' := From (w.heap.size + 1 + 1)) hMt (fun k hk => by unfold From at hk ⊢; exact ⟨by omega, hk⟩)).trans (Stays.mv (S' := From (w.heap.size + 1 + 1)) hm5 (fun k hk => by unfold From at hk ⊢; exact ⟨by omega, hk⟩)) (by simp)).trans (Sq (Nat.le_refl _)) (by simpa using hs5)
  exact bodyPost_ret (v := .agg #[.string ⟨#[99, 104, 101, 99, 107]⟩, .slice none 0 0, .string op, .int .i64 x, .string s, .slice so' m' sc']) (by simp [results, Tryz.results38, go_sem, z0, z1, z2, z3, z4, z5]) rfl ⟨hM7, _, _, rfl, R0.upon R6 hBz, HEP.out.done HQ5.out (Sq hs2) (fun h => ⟨rfl, RowAt.none⟩)⟩

set_option maxRecDepth 100000 in
set_option maxHeartbeats 1000000 in
theorem requation_one (C : Qc) (st : St) (w : World) (T : Tkl C.l) (R0 : QS C st 0 w) (g1 : st.tx C.l tAssert = false) (g2 : st.tx C.l tCheck = false) (g3 : st.tx C.l tOpen = false) :
    Calls Tryz.prog 38 #[.pointer (some ⟨C.b, 0, none⟩)] w fun e w' => Mv C.b w w' ∧ ∃ st' v, e = .returned v ∧ QS C st' 0 w' ∧ ERel C.l w.heap.size w' st st' v := by
  have hbl := R0.blt
  have hbA : Below w.heap.size w ((w.alloc rEq).alloc (qEq sSet none 0 0)) := ((Below.refl _ _).alloc (Nat.le_refl _) _).alloc (by simp) _
  have HZ0 : Hid _ := alloc_row (qEq sSet none 0 0) (heap_alloc_new w rEq)
  have HQ0 : Hid _ := two_new w rEq (qEq sSet none 0 0)
  have RA := R0.below hbA
  go_enter Tryz.func38, Tryz.ntmps38
  go_wp2_with fail
  refine (rpass_any C _ 0 _ RA T kWord _ tAssert (Or.inl ⟨by decide, rfl⟩) (by rw [ByteArray.toList_eq]; rfl) (by decide)).mono ?_
  rintro e w1 ⟨rfl, R1, hm1⟩
  rw [pass_other g1] at R1
  simp only [g1]
  have hs1 : w.heap.size + 1 + 1 ≤ w1.heap.size := by have := hm1.size; first | omega | simpa using this
  have hM1 : Mv C.b w w1 := (Mv.of_below hbA).trans hm1
  have HZ1 : Hid _ := hm1.row (k := w.heap.size) (by omega) HZ0.out
  have HQ1 : Hid _ := hm1.row (k := w.heap.size + 1) (by omega) HQ0.out
  go_wp2_with fail
  refine (rpass_any C _ 0 _ R1 T kWord _ tCheck (Or.inl ⟨by decide, rfl⟩) (by rw [ByteArray.toList_eq]; rfl) (by decide)).mono ?_
  rintro e w2 ⟨rfl, R2, hm2⟩
  rw [pass_other g2] at R2
  simp only [g2]
  have hs2 : w.heap.size + 1 + 1 ≤ w2.heap.size := by have := hm2.size; first | omega | simpa using this
  have hM2 : Mv C.b w w2 := hM1.trans hm2
  have HZ2 : Hid _ := hm2.row (k := w.heap.size) (by omega) HZ1.out
  have HQ2 : Hid _ := hm2.row (k := w.heap.size + 1) (by omega) HQ1.out
  go_wp2_with fail
  refine (rpass_any C _ 0 _ R2 T kOp _ tOpen (Or.inr ⟨by decide, rfl⟩) (by rw [ByteArray.toList_eq]; rfl) (by decide)).mono ?_
  rintro e w3 ⟨rfl, R3, hm3⟩
  rw [pass_other g3] at R3
  simp only [g3]
  have hs3 : w.heap.size + 1 + 1 ≤ w3.heap.size := by have := hm3.size; first | omega | simpa using this
  have hM3 : Mv C.b w w3 := hM2.trans hm3
  have HZ3 : Hid _ := hm3.row (k := w.heap.size) (by omega) HZ2.out
  have HQ3 : Hid _ := hm3.row (k := w.heap.size + 1) (by omega) HQ2.out
  go_wp2_with fail
  refine (rname_any C _ 0 _ R3 T).mono ?_
  rintro e w4 ⟨rfl, R4, hm4⟩
  have hs4 := hm4.size
  have hl4 : w.heap.size + 1 < w4.heap.size := by omega
  have hM4 : Mv C.b w w4 := hM3.trans hm4
  have hz4 := hm4.row (k := w.heap.size) (by omega) HZ3.out
  have hq4 := hm4.row (k := w.heap.size + 1) (by omega) HQ3.out
  obtain ⟨q0, q1, _, _, _, _, qf⟩ := blk6 hq4
  have qf1 := qf 1
  have hBk : Below w.heap.size w4 ((w4.setCell ⟨w.heap.size + 1, 1, none⟩ (.slice (some ⟨w4.heap.size, 0, none⟩) 1 1)).alloc (.cells #[.string (st.nm C.l)] 9)) := (setL_below (N := w.heap.size + 1) (by omega) [.slice (some ⟨w4.heap.size, 0, none⟩) 1 1] 1 w4).alloc (by rw [setL_size]; omega) _
  have R4' : QS C (st.name C.l) 0 ((w4.setCell ⟨w.heap.size + 1, 1, none⟩ (.slice (some ⟨w4.heap.size, 0, none⟩) 1 1)).alloc (.cells #[.string (st.nm C.l)] 9)) := R0.upon R4 hBk
  have HZ5 : Hid (((w4.setCell ⟨w.heap.size + 1, 1, none⟩ (.slice (some ⟨w4.heap.size, 0, none⟩) 1 1)).alloc (.cells #[.string (st.nm C.l)] 9)).heap[w.heap.size]? = some rEq) := alloc_row _ ((Below.heap_setCell _ _ _ _ (by show w.heap.size ≠ w.heap.size + 1; omega)).trans hz4)
  have HQ5' : Hid (((w4.setCell ⟨w.heap.size + 1, 1, none⟩ (.slice (some ⟨w4.heap.size, 0, none⟩) 1 1)).alloc (.cells #[.string (st.nm C.l)] 9)).heap[w.heap.size + 1]? = some (qEq sSet (some ⟨w4.heap.size, 0, none⟩) 1 1)) := alloc_row _ (set_row hq4)
  have HB5 : Hid (((w4.setCell ⟨w.heap.size + 1, 1, none⟩ (.slice (some ⟨w4.heap.size, 0, none⟩) 1 1)).alloc (.cells #[.string (st.nm C.l)] 9)).heap[w4.heap.size]? = some (.cells #[.string (st.nm C.l)] 9)) := heap_alloc_new' (by simp) _
  clear hz4 hq4 qf
  go_wp2_with fail
  refine (rwant_any C _ 0 _ R4' T kOp _ tEq (Or.inr ⟨by decide, rfl⟩) (by rw [ByteArray.toList_eq]; rfl) (by decide)).mono ?_
  rintro e w8 ⟨rfl, R8, hm8⟩
  have hs8 : w4.heap.size + 1 ≤ w8.heap.size := by have := hm8.size; simpa using this
  have hM8 : Mv C.b w w8 := (hM4.upon hBk).trans hm8
  have HZ : Hid _ := hm8.row (k := w.heap.size) (by omega) HZ5.out
  have HQ : Hid _ := hm8.row (k := w.heap.size + 1) (by omega) HQ5'.out
  have HB8 : Hid _ := hm8.row (k := w4.heap.size) (by omega) HB5.out
  have HEP : Hid _ := EPre.one g1 g2 g3
  have d2 := R8.c2
  have fd2 := R8.fz 2
  have HR2 : Hid (QS C ((st.name C.l).want C.l tEq) 0 (w8.setCell ⟨C.b, 2, none⟩ (.int .i64 0))) := R8.set2 rfl (by omega) (fun _ => by omega)
  have hMs : Mv C.b w (w8.setCell ⟨C.b, 2, none⟩ (.int .i64 0)) := (hM8).trans (Mv.setAt _ _ _ _)
  have hMt : Mv C.b w8 (w8.setCell ⟨C.b, 2, none⟩ (.int .i64 0)) := Mv.setAt _ _ _ _
  have hs2 : w.heap.size + 1 + 1 ≤ (w8.setCell ⟨C.b, 2, none⟩ (.int .i64 0)).heap.size := by simp; omega
  go_wp2_with fail
  refine (rterm_any C.l.length C _ 0 _ T HR2.out (fun _ => Nat.sub_le _ _)).mono ?_
  rintro e w5 ⟨hm5, st5, v5, rfl, R5, hq5⟩
  obtain ⟨op, x, s, so', m', sc', rfl⟩ := hq5.shape
  have HQ5 : Hid _ := hq5
  clear hq5
  have hs5 := hm5.size
  have hq := hm5.row (k := w.heap.size + 1) (by omega) (hMt.row (k := w.heap.size + 1) (by omega) HQ.out)
  have hz := hm5.row (k := w.heap.size) (by omega) (hMt.row (k := w.heap.size) (by omega) HZ.out)
  obtain ⟨a0, a1, a2, a3, a4, a5, af⟩ := blk6 hq
  have af2 := af 2
  have af3 := af 3
  have af4 := af 4
  have af5 := af 5
  have hBq : Below w.heap.size w5 (setL w5 (w.heap.size + 1) 2 [.string op, .int .i64 x, .string s, .slice so' m' sc']) := setL_below (by omega) _ _ _
  have HQ6 : Hid ((setL w5 (w.heap.size + 1) 2 [.string op, .int .i64 x, .string s, .slice so' m' sc']).heap[w.heap.size + 1]? = some (.cells #[.string sSet, .slice (some ⟨w4.heap.size, 0, none⟩) 1 1, .string op, .int .i64 x, .string s, .slice so' m' sc'] 96 (0, 0))) := set_row (set_row (set_row (set_row hq)))
  have HZ6 : Hid _ := (setL_block (N := w.heap.size + 1) (k := w.heap.size) (by omega) [.string op, .int .i64 x, .string s, .slice so' m' sc'] 2 w5).trans hz
  clear hq hz af
  have R5' : QS C st5 0 (setL w5 (w.heap.size + 1) 2 [.string op, .int .i64 x, .string s, .slice so' m' sc']) := R0.upon R5 hBq
  go_wp2_with fail
  refine (rwant_any C st5 0 _ R5' T kOp _ tSemi (Or.inr ⟨by decide, rfl⟩) (by rw [ByteArray.toList_eq]; rfl) (by decide)).mono ?_
  rintro e w6 ⟨rfl, R6, hm6⟩
  have hs6 := hm6.size
  rw [setL_size] at hs6
  obtain ⟨b0', b1, b2, b3, b4, b5, _⟩ := blk6 (hm6.row (k := w.heap.size + 1) (by omega) HQ6.out)
  obtain ⟨z0, z1, z2, z3, z4, z5, zf⟩ := blk6 (hm6.row (k := w.heap.size) (by omega) HZ6.out)
  have zf0 := zf 0
  have zf1 := zf 1
  have zf2 := zf 2
  have zf3 := zf 3
  have zf4 := zf 4
  have zf5 := zf 5
  go_wp2
  have hBz : Below w.heap.size w6 (setL w6 w.heap.size 0 [.string sSet, .slice (some ⟨w4.heap.size, 0, none⟩) 1 1, .string op, .int .i64 x, .string s, .slice so' m' sc']) := setL_below (Nat.le_refl _) _ _ _
  have hM7 : Mv C.b w (setL w6 w.heap.size 0 [.string sSet, .slice (some ⟨w4.heap.size, 0, none⟩) 1 1, .string op, .int .i64 x, .string s, .slice so' m' sc']) := ((((hMs.trans hm5).upon hBq).trans hm6)).upon hBz
  have Sq : ∀ {b : Nat}, w.heap.size + 1 + 1 ≤ b → Stays (From b) (From w.heap.size) w5 (setL w6 w.heap.size 0 [.string sSet, .slice (some ⟨w4.heap.size, 0, none⟩) 1 1, .string op, .int .i64 x, .string s, .slice so' m' sc']) := fun {b} hb => ((setL_stays (S' := From (w.heap.size + 1 + 1)) (fun k hk => by unfold From at hk ⊢; exact ⟨by omega, by omega⟩) _ _ _).trans (Stays.mv (S' := From (w.heap.size + 1 + 1)) hm6 (fun k hk => by unfold From at hk ⊢; exact ⟨by omega, by omega⟩)) (by rw [setL_size]; exact Nat.le_refl _)).trans (setL_stays (S' := From w.heap.size) (fun k hk => by unfold From at hk ⊢; exact ⟨by omega, by omega⟩) _ _ _) hs6
  have Sn : Stays (From (w.heap.size + 1 + 1)) (From w.heap.size) w8 (setL w6 w.heap.size 0 [.string sSet, .slice (some ⟨w4.heap.size, 0, none⟩) 1 1, .string op, .int .i64 x, .string s, .slice so' m' sc']) := ((Stays.mv (S' := From (w.heap.size + 1 + 1)) hMt (fun k hk => by unfold From at hk ⊢; exact ⟨by omega, hk⟩)).trans (Stays.mv (S' := From (w.heap.size + 1 + 1)) hm5 (fun k hk => by unfold From at hk ⊢; exact ⟨by omega, hk⟩)) (by simp)).trans (Sq (Nat.le_refl _)) (by simpa using hs5)
  exact bodyPost_ret (v := .agg #[.string sSet, .slice (some ⟨w4.heap.size, 0, none⟩) 1 1, .string op, .int .i64 x, .string s, .slice so' m' sc']) (by simp [results, Tryz.results38, go_sem, z0, z1, z2, z3, z4, z5]) rfl ⟨hM7, _, _, rfl, R0.upon R6 hBz, HEP.out.done HQ5.out (Sq hs2) (fun _ => ⟨rfl, (RowAt.blk (S := From (w.heap.size + 1 + 1)) HB8.out rfl rfl (by simp [maxLen]) (by unfold From; omega)).keep Sn⟩)⟩
end Go.Proofs.YtomgimfmcfjhdaaGreatDoor

/-
  lustrumref1's READER OF NODES: equation BY ITS CONTRACT.
-/
namespace Go.Proofs.YtomgimfmcfjhdaaGreatDoor
open Go.RowKit
attribute [local go_sem ↓] Go.wp_at_zero Go.wp_at_succ

theorem want_isAt {l : List Tk} {st : St} {x : List UInt8} (h : (st.want l x).isAt = true) : st.isAt = true := by
  cases st with
  | bad j bd => exact h
  | here j => rfl
def rnamesA (l : List Tk) (i : Nat) (k : List Ex → Nat → Act) : Act := nameA l (i + 1) fun j => expA l j tComma fun k' => nameA l k' fun m => .call (.names [nm l (i + 1), nm l k']) m 0 k
/-- Names so far. -/
inductive NRel (l : List Tk) (i : Nat) : St → List Ex → Prop
  | here (j : Nat) (ns : List Ex) : (∀ k r, Run l (.call (.names ns) j 0 k) r → Run l (rnamesA l i k) r) → i < j → ns.length ≤ j → NRel l i (.here j) ns
  | bad (j : Nat) (bd : Bool) (ns : List Ex) : (∀ k, Run l (rnamesA l i k) (.bad j bd)) → NRel l i (.bad j bd) ns
theorem NRel.num {l : List Tk} {i j : Nat} {ns : List Ex} (h : NRel l i (.here j) ns) : i < j ∧ ns.length ≤ j := by
  cases h with
  | here _ _ _ h1 h2 => exact ⟨h1, h2⟩
theorem NRel.first {l : List Tk} {i : Nat} : NRel l i ((((St.here (i + 1)).name l).want l tComma).name l) [.mk ((St.here (i + 1)).nm l) 0 b0 [], .mk ((((St.here (i + 1)).name l).want l tComma).nm l) 0 b0 []] := by
  cases h1 : isName l (i + 1) with
  | false =>
    rw [show (((St.here (i + 1)).name l).want l tComma).name l = .bad (i + 1) false from by simp [St.name, h1, St.want]]
    exact .bad _ _ _ (fun k => Run.ifF h1 (.ret _))
  | true =>
    rw [show (St.here (i + 1)).nm l = tkx l (i + 1) from by simp [St.nm, h1]]
    cases h2 : tx l (i + 1 + 1) tComma with
    | false =>
      rw [show (((St.here (i + 1)).name l).want l tComma).name l = .bad (i + 1 + 1) false from by simp [St.name, h1, h2, St.want]]
      exact .bad _ _ _ (fun k => Run.ifT h1 (Run.unexp h2))
    | true =>
      rw [show ((St.here (i + 1)).name l).want l tComma = .here (i + 1 + 1 + 1) from by simp [St.name, h1, h2, St.want]]
      cases h3 : isName l (i + 1 + 1 + 1) with
      | false =>
        rw [show (St.here (i + 1 + 1 + 1)).name l = .bad (i + 1 + 1 + 1) false from by simp [St.name, h3]]
        exact .bad _ _ _ (fun k => Run.ifT h1 (Run.exp h2 (Run.ifF h3 (.ret _))))
      | true =>
        rw [show (St.here (i + 1 + 1 + 1)).name l = .here (i + 1 + 1 + 1 + 1) from by simp [St.name, h3], show (St.here (i + 1 + 1 + 1)).nm l = tkx l (i + 1 + 1 + 1) from by simp [St.nm, h3]]
        exact .here _ _ (fun k r hr => Run.ifT h1 (Run.exp h2 (Run.ifT h3 hr))) (by omega) (by simp)
theorem NRel.next {l : List Tk} {i j : Nat} {ns : List Ex} (h : NRel l i (.here j) ns) (hc : tx l j tComma = true) : NRel l i ((St.here (j + 1)).name l) (ns ++ [.mk ((St.here (j + 1)).nm l) 0 b0 []]) := by
  cases h with
  | here _ _ HP hij hl =>
    cases h1 : isName l (j + 1) with
    | false =>
      rw [show (St.here (j + 1)).name l = .bad (j + 1) false from by simp [St.name, h1]]
      exact .bad _ _ _ (fun k => HP k _ (Run.stop (Run.ifT hc (Run.ifF h1 (.ret _)))))
    | true =>
      rw [show (St.here (j + 1)).name l = .here (j + 1 + 1) from by simp [St.name, h1], show (St.here (j + 1)).nm l = tkx l (j + 1) from by simp [St.nm, h1]]
      refine .here _ _ (fun k r hr => HP k r ?_) (by omega) (by simp; omega)
      cases hr with
      | ok _ _ _ _ e j _ h3 h2 => exact Run.then (Run.ifT hc (Run.ifT h1 (Run.tail h3))) h2
      | bad _ _ _ _ j b h3 => exact Run.stop (Run.ifT hc (Run.ifT h1 (Run.tail h3)))
theorem NRel.done {l : List Tk} {i : Nat} {st' : St} {ns : List Ex} (h : NRel l i st' ns) (g0 : txs l i [tAssert, tCheck] = false) (g3 : tx l i tOpen = true) (hc : st'.tx l tComma = false) : EPre l (.here i) ((st'.want l tShut).want l tEq) sSet ns := by
  cases h with
  | bad j bd _ HP => exact .bad i j bd _ _ (Run.ifF g0 (Run.ifT g3 (HP _)))
  | here j _ HP hij hl =>
    have hc' : tx l j tComma = false := hc
    have G : ∀ k r, Run l (k ns j) r → Run l (rnamesA l i k) r := fun k r h => HP k r (Run.then (Run.ifF hc' Run.done) h)
    cases h1 : tx l j tShut with
    | false =>
      rw [show ((St.here j).want l tShut).want l tEq = .bad j false from by simp [St.want, h1]]
      exact .bad i j false _ _ (Run.ifF g0 (Run.ifT g3 (G _ _ (Run.unexp h1))))
    | true =>
      cases h2 : tx l (j + 1) tEq with
      | false =>
        rw [show ((St.here j).want l tShut).want l tEq = .bad (j + 1) false from by simp [St.want, h1, h2]]
        exact .bad i _ false _ _ (Run.ifF g0 (Run.ifT g3 (G _ _ (Run.exp h1 (Run.unexp h2)))))
      | true =>
        rw [show ((St.here j).want l tShut).want l tEq = .here (j + 1 + 1) from by simp [St.want, h1, h2]]
        exact .here i _ _ _ (fun r hr => Run.ifF g0 (Run.ifT g3 (G _ _ (Run.exp h1 (Run.exp h2 hr))))) (by omega)

set_option maxRecDepth 100000 in
set_option maxHeartbeats 1000000 in
theorem requation_names (C : Qc) (i : Nat) (w : World) (T : Tkl C.l) (R0 : QS C (.here i) 0 w) (g1 : (St.here i).tx C.l tAssert = false) (g2 : (St.here i).tx C.l tCheck = false) (g3 : tx C.l i tOpen = true) :
    Calls Tryz.prog 38 #[.pointer (some ⟨C.b, 0, none⟩)] w fun e w' => Mv C.b w w' ∧ ∃ st' v, e = .returned v ∧ QS C st' 0 w' ∧ ERel C.l w.heap.size w' (.here i) st' v := by
  obtain ⟨i0, hi0, hz0, hz1, hz2⟩ := info_parts Tryz.infoStr
  have hlen := R0.len
  have g0 : txs C.l i [tAssert, tCheck] = false := by
    simp only [txs, List.any_cons, List.any_nil, Bool.or_false, Bool.or_eq_false_iff]
    exact ⟨g1, g2⟩
  have hbl := R0.blt
  have hbA : Below w.heap.size w ((w.alloc rEq).alloc (qEq sSet none 0 0)) := ((Below.refl _ _).alloc (Nat.le_refl _) _).alloc (by simp) _
  have HZ0 : Hid _ := alloc_row (qEq sSet none 0 0) (heap_alloc_new w rEq)
  have HQ0 : Hid _ := two_new w rEq (qEq sSet none 0 0)
  have RA := R0.below hbA
  go_enter Tryz.func38, Tryz.ntmps38
  go_wp2_with fail
  refine (rpass_any C _ 0 _ RA T kWord _ tAssert (Or.inl ⟨by decide, rfl⟩) (by rw [ByteArray.toList_eq]; rfl) (by decide)).mono ?_
  rintro e w1 ⟨rfl, R1, hm1⟩
  rw [pass_other g1] at R1
  simp only [g1]
  have hs1 : w.heap.size + 1 + 1 ≤ w1.heap.size := by have := hm1.size; first | omega | simpa using this
  have hM1 : Mv C.b w w1 := (Mv.of_below hbA).trans hm1
  have HZ1 : Hid _ := hm1.row (k := w.heap.size) (by omega) HZ0.out
  have HQ1 : Hid _ := hm1.row (k := w.heap.size + 1) (by omega) HQ0.out
  go_wp2_with fail
  refine (rpass_any C _ 0 _ R1 T kWord _ tCheck (Or.inl ⟨by decide, rfl⟩) (by rw [ByteArray.toList_eq]; rfl) (by decide)).mono ?_
  rintro e w2 ⟨rfl, R2, hm2⟩
  rw [pass_other g2] at R2
  simp only [g2]
  have hs2 : w.heap.size + 1 + 1 ≤ w2.heap.size := by have := hm2.size; first | omega | simpa using this
  have hM2 : Mv C.b w w2 := hM1.trans hm2
  have HZ2 : Hid _ := hm2.row (k := w.heap.size) (by omega) HZ1.out
  have HQ2 : Hid _ := hm2.row (k := w.heap.size + 1) (by omega) HQ1.out
  go_wp2_with fail
  refine (rpass_any C _ 0 _ R2 T kOp _ tOpen (Or.inr ⟨by decide, rfl⟩) (by rw [ByteArray.toList_eq]; rfl) (by decide)).mono ?_
  rintro e w3 ⟨rfl, R3, hm3⟩
  have g3' : (St.here i).tx C.l tOpen = true := g3
  rw [show (St.here i).pass C.l tOpen = .here (i + 1) from by simp only [St.pass, g3, if_true]] at R3
  simp only [g3']
  have hs3 := hm3.size
  go_wp2_with fail
  refine (rname_any C _ 0 _ R3 T).mono ?_
  rintro e w4 ⟨rfl, R4, hm4⟩
  have hs4 := hm4.size
  have hl4 : w.heap.size + 1 < w4.heap.size := by omega
  have hM4 : Mv C.b w w4 := (hM2.trans hm3).trans hm4
  have hz4 := hm4.row (k := w.heap.size) (by omega) (hm3.row (k := w.heap.size) (by omega) HZ2.out)
  have hq4 := hm4.row (k := w.heap.size + 1) (by omega) (hm3.row (k := w.heap.size + 1) (by omega) HQ2.out)
  obtain ⟨q0, q1, _, _, _, _, qf⟩ := blk6 hq4
  have qf1 := qf 1
  have hBk : Below w.heap.size w4 ((w4.setCell ⟨w.heap.size + 1, 1, none⟩ (.slice (some ⟨w4.heap.size, 0, none⟩) 1 1)).alloc (.cells #[.string ((St.here (i + 1)).nm C.l)] 9)) := (setL_below (N := w.heap.size + 1) (by omega) [.slice (some ⟨w4.heap.size, 0, none⟩) 1 1] 1 w4).alloc (by rw [setL_size]; omega) _
  have R4' : QS C ((St.here (i + 1)).name C.l) 0 ((w4.setCell ⟨w.heap.size + 1, 1, none⟩ (.slice (some ⟨w4.heap.size, 0, none⟩) 1 1)).alloc (.cells #[.string ((St.here (i + 1)).nm C.l)] 9)) := R0.upon R4 hBk
  have HZ5 : Hid (((w4.setCell ⟨w.heap.size + 1, 1, none⟩ (.slice (some ⟨w4.heap.size, 0, none⟩) 1 1)).alloc (.cells #[.string ((St.here (i + 1)).nm C.l)] 9)).heap[w.heap.size]? = some rEq) := alloc_row _ ((Below.heap_setCell _ _ _ _ (by show w.heap.size ≠ w.heap.size + 1; omega)).trans hz4)
  have HQ5' : Hid (((w4.setCell ⟨w.heap.size + 1, 1, none⟩ (.slice (some ⟨w4.heap.size, 0, none⟩) 1 1)).alloc (.cells #[.string ((St.here (i + 1)).nm C.l)] 9)).heap[w.heap.size + 1]? = some (qEq sSet (some ⟨w4.heap.size, 0, none⟩) 1 1)) := alloc_row _ (set_row hq4)
  have HB5 : Hid (((w4.setCell ⟨w.heap.size + 1, 1, none⟩ (.slice (some ⟨w4.heap.size, 0, none⟩) 1 1)).alloc (.cells #[.string ((St.here (i + 1)).nm C.l)] 9)).heap[w4.heap.size]? = some (.cells #[.string ((St.here (i + 1)).nm C.l)] 9)) := heap_alloc_new' (by simp) _
  clear hz4 hq4 qf
  go_wp2_with fail
  refine (rwant_any C _ 0 _ R4' T kOp _ tComma (Or.inr ⟨by decide, rfl⟩) (by rw [ByteArray.toList_eq]; rfl) (by decide)).mono ?_
  rintro e w5 ⟨rfl, R5, hm5⟩
  have hs5 : w4.heap.size + 1 ≤ w5.heap.size := by have := hm5.size; simpa using this
  go_wp2_with fail
  refine (rname_any C _ 0 _ R5 T).mono ?_
  rintro e w6 ⟨rfl, R6, hm6⟩
  have hs6 := hm6.size
  have hM6 : Mv C.b w w6 := ((hM4.upon hBk).trans hm5).trans hm6
  have HZ6 : Hid _ := hm6.row (k := w.heap.size) (by omega) (hm5.row (k := w.heap.size) (by omega) HZ5.out)
  have HQ6 : Hid _ := hm6.row (k := w.heap.size + 1) (by omega) (hm5.row (k := w.heap.size + 1) (by omega) HQ5'.out)
  have hb6 := hm6.row (k := w4.heap.size) (by omega) (hm5.row (k := w4.heap.size) (by omega) HB5.out)
  have HO6 : Hid ((w6.alloc (.cells #[.string ((((St.here (i + 1)).name C.l).want C.l tComma).nm C.l)] 9)).ownsRow (w.heap.size + 1 + 1) 9 1 (.slice (some ⟨w4.heap.size, 0, none⟩) 1 1) 1 [.string ((St.here (i + 1)).nm C.l)]) := ⟨rfl, Or.inr ⟨w4.heap.size, 1, _, rfl, by omega, alloc_row _ hb6, by omega, by simp [maxLen], rfl, rfl⟩⟩
  have hnb := heap_alloc_new w6 (.cells #[.string ((((St.here (i + 1)).name C.l).want C.l tComma).nm C.l)] 9)
  have HN6 : Hid _ := World.news_of_block hnb
  obtain ⟨p0, p1, _, _, _, _, pf⟩ := blk6 HQ6.out
  have hl6 : w.heap.size + 1 < w6.heap.size := by omega
  clear hnb hb6
  go_wp2_with (at_builtin; refine wpList_append_lies _ rfl _ _ _ rfl (w.heap.size + 1 + 1) 9 i0 _ 1 16 Tryz.underlying91 hi0 hz0 hz1 hz2 rfl (by omega) _ 1 [.string ((St.here (i + 1)).nm C.l)] rfl HO6.out ⟨w6.heap.size, 0, none⟩ 1 1 [.string ((((St.here (i + 1)).name C.l).want C.l tComma).nm C.l)] rfl rfl HN6.out (by simp [Value.oneCell']) (by omega) (by simp [maxLen]) (by omega) (by simp <;> omega) (w6.heap.size + 1) (by simp) ?_; intro g cap w7 hown7 hgrow hat hlt7; have HQ7 : Hid _ := heap_grown hgrow (b := w.heap.size + 1) (fun hk => by injection hk with hk; dsimp only at hk; omega) (alloc_row _ HQ6.out); have b1 := (blk6 HQ7.out).2.1; have bf := (blk6 HQ7.out).2.2.2.2.2.2 1)
  have hB7 : Below w.heap.size w6 w7 := ((Below.refl _ _).alloc (by omega) _).grown hgrow (by simp; omega) (fun k hk => by injection hk with hk; dsimp only at hk; omega)
  have hB7s : Below w.heap.size w6 (w7.setCell ⟨w.heap.size + 1, 1, none⟩ (.slice (some ⟨g, 0, none⟩) 2 cap)) := hB7.trans (setL_below (N := w.heap.size + 1) (by omega) [.slice (some ⟨g, 0, none⟩) 2 cap] 1 w7)
  have HZ7 : Hid ((w7.setCell ⟨w.heap.size + 1, 1, none⟩ (.slice (some ⟨g, 0, none⟩) 2 cap)).heap[w.heap.size]? = some rEq) := (Below.heap_setCell _ _ _ _ (by show w.heap.size ≠ w.heap.size + 1; omega)).trans (heap_grown hgrow (b := w.heap.size) (fun hk => by injection hk with hk; dsimp only at hk; omega) (alloc_row _ HZ6.out))
  have HQ8 : Hid ((w7.setCell ⟨w.heap.size + 1, 1, none⟩ (.slice (some ⟨g, 0, none⟩) 2 cap)).heap[w.heap.size + 1]? = some (qEq sSet (some ⟨g, 0, none⟩) 2 cap)) := set_row HQ7.out
  have HO8 : Hid ((w7.setCell ⟨w.heap.size + 1, 1, none⟩ (.slice (some ⟨g, 0, none⟩) 2 cap)).ownsRow (w.heap.size + 1 + 1) 9 1 (.slice (some ⟨g, 0, none⟩) 2 cap) 2 [.string ((St.here (i + 1)).nm C.l), .string ((((St.here (i + 1)).name C.l).want C.l tComma).nm C.l)]) := ownsRow_mv hown7 (Mv.setAt _ _ _ _) (by omega)
  have hs8 : w.heap.size + 1 + 1 ≤ (w7.setCell ⟨w.heap.size + 1, 1, none⟩ (.slice (some ⟨g, 0, none⟩) 2 cap)).heap.size := by have := hgrow.size; simp at this ⊢; omega
  go_loopw [] (fun wr => ∃ (st' : St) (ns : List Ex) (so : Option Addr) (m sc : Nat) (cells : List Value), QS C st' 0 wr ∧ Mv C.b w wr ∧ w.heap.size + 1 + 1 ≤ wr.heap.size ∧ Hid (wr.heap[w.heap.size + 1]? = some (qEq sSet so m sc)) ∧ Hid (wr.heap[w.heap.size]? = some rEq) ∧ Hid (wr.ownsRow (w.heap.size + 1 + 1) 9 1 (.slice so m sc) m cells) ∧ Hid (NRel C.l i st' ns) ∧ Hid (st'.isAt = true → m = ns.length ∧ cells = nameCells ns)) (fun wr => qleft C.l wr C.b)
  case atStart => exact ⟨_, _, some ⟨g, 0, none⟩, 2, cap, _, R0.upon R6 hB7s, hM6.upon hB7s, hs8, HQ8, HZ7, HO8, NRel.first, fun _ => ⟨rfl, rfl⟩⟩
  case round =>
    clear hB7 hB7s HZ7 HQ8 HO8 hs8 hown7 hgrow hat hlt7 HQ7 b1 bf R6 hM6 HZ6 HQ6 HO6 HN6 p0 p1 pf hl6 q0 q1 qf1 hs6 hm6 hs5 hm5 R5 HB5 HZ5 HQ5' R4 R4' hBk hM4 hm4
    obtain ⟨st', ns, so, m, sc, cells, Rr, hmr, hsr, HQr, HZr, HO, HN, HE⟩ := hrel
    cases hc : st'.tx C.l tComma with
    | true =>
      cases st' with
      | bad j bd => cases hc
      | here j =>
        have hc' : tx C.l j tComma = true := hc
        have hjl : j < C.l.length := Rr.lt
        have e1 : (St.here j).pass C.l tComma = .here (j + 1) := by simp only [St.pass, hc', if_true]
        go_wp2_with fail
        refine (rpass_any C _ 0 _ Rr T kOp _ tComma (Or.inr ⟨by decide, rfl⟩) (by rw [ByteArray.toList_eq]; rfl) (by decide)).mono ?_
        rintro e w5 ⟨rfl, R5, hm5⟩
        rw [e1] at R5
        simp only [hc]
        go_wp2_with fail
        refine (rname_any C _ 0 _ R5 T).mono ?_
        rintro e w6 ⟨rfl, R6, hm6⟩
        have hmm : Mv C.b wr w6 := hm5.trans hm6
        have hs6 := hmm.size
        have HQ6 : Hid _ := hmm.row (k := w.heap.size + 1) (by omega) HQr.out
        have HO6 : Hid _ := (ownsRow_mv HO.out hmm (by omega)).alloc (.cells #[.string ((St.here (j + 1)).nm C.l)] 9)
        have HN6 : Hid _ := World.news_of_block (heap_alloc_new w6 (.cells #[.string ((St.here (j + 1)).nm C.l)] 9))
        obtain ⟨p0, p1, _, _, _, _, pf⟩ := blk6 HQ6.out
        have hl6 : w.heap.size + 1 < w6.heap.size := by omega
        have hml : m ≤ 6001 := by have h1 := (HE.out rfl).1; have h2 := HN.out.num; omega
        have hn63 : m + 1 ≤ maxLen := by unfold maxLen; omega
        have hby : (m + 1) * 16 ≤ 140737488355328 := by omega
        have HRW : Hid (∀ k, (Value.slice so m sc).ownBlock = some k → w.heap.size + 1 + 1 ≤ k ∧ k < wr.heap.size) := fun k hk => ownsRow_block HO.out hk
        go_wp2_with (at_builtin; refine wpList_append_lies _ rfl _ _ _ rfl (w.heap.size + 1 + 1) 9 i0 _ 1 16 Tryz.underlying91 hi0 hz0 hz1 hz2 rfl (by omega) _ m cells rfl HO6.out ⟨w6.heap.size, 0, none⟩ 1 1 [.string ((St.here (j + 1)).nm C.l)] rfl rfl HN6.out (by simp [Value.oneCell']) (by omega) hn63 hby (by simp <;> omega) (w6.heap.size + 1) (by simp) ?_; intro g cap w7 hown7 hgrow hat hlt7; have HQ7 : Hid _ := heap_grown hgrow (b := w.heap.size + 1) (fun hk => by have := (HRW.out _ hk).1; omega) (alloc_row _ HQ6.out); have b1 := (blk6 HQ7.out).2.1; have bf := (blk6 HQ7.out).2.2.2.2.2.2 1)
        have hB7 : Below w.heap.size w6 w7 := ((Below.refl _ _).alloc (by omega) _).grown hgrow (by simp; omega) (fun k hk => by have := (HRW.out _ hk).1; omega)
        have hB7s : Below w.heap.size w6 (w7.setCell ⟨w.heap.size + 1, 1, none⟩ (.slice (some ⟨g, 0, none⟩) (m + 1) cap)) := hB7.trans (setL_below (N := w.heap.size + 1) (by omega) [.slice (some ⟨g, 0, none⟩) (m + 1) cap] 1 w7)
        have HZ7 : Hid ((w7.setCell ⟨w.heap.size + 1, 1, none⟩ (.slice (some ⟨g, 0, none⟩) (m + 1) cap)).heap[w.heap.size]? = some rEq) := (Below.heap_setCell _ _ _ _ (by show w.heap.size ≠ w.heap.size + 1; omega)).trans (heap_grown hgrow (b := w.heap.size) (fun hk => by have := (HRW.out _ hk).1; omega) (alloc_row _ (hmm.row (by omega) HZr.out)))
        have HQ8 : Hid ((w7.setCell ⟨w.heap.size + 1, 1, none⟩ (.slice (some ⟨g, 0, none⟩) (m + 1) cap)).heap[w.heap.size + 1]? = some (qEq sSet (some ⟨g, 0, none⟩) (m + 1) cap)) := set_row HQ7.out
        have HO8 : Hid ((w7.setCell ⟨w.heap.size + 1, 1, none⟩ (.slice (some ⟨g, 0, none⟩) (m + 1) cap)).ownsRow (w.heap.size + 1 + 1) 9 1 (.slice (some ⟨g, 0, none⟩) (m + 1) cap) (m + 1) (cells ++ [.string ((St.here (j + 1)).nm C.l)])) := ownsRow_mv hown7 (Mv.setAt _ _ _ _) (by omega)
        have R9 : QS C ((St.here (j + 1)).name C.l) 0 (w7.setCell ⟨w.heap.size + 1, 1, none⟩ (.slice (some ⟨g, 0, none⟩) (m + 1) cap)) := R0.upon R6 hB7s
        refine ⟨⟨_, _, some ⟨g, 0, none⟩, m + 1, cap, _, R9, (hmr.trans hmm).upon hB7s, ?_, HQ8, HZ7, HO8, HN.out.next hc', ?_⟩, ?_⟩
        · have := hgrow.size; simp at this ⊢; omega
        · intro _
          obtain ⟨rfl, rfl⟩ := HE.out rfl
          exact ⟨by simp, (nameCells_snoc ns (.mk ((St.here (j + 1)).nm C.l) 0 b0 [])).symm⟩
        · rw [Rr.left_at]
          cases h1 : isName C.l (j + 1) with
          | false =>
            rw [show (St.here (j + 1)).name C.l = .bad (j + 1) false from by simp [St.name, h1]] at R9
            rw [R9.left_bad]; omega
          | true =>
            rw [show (St.here (j + 1)).name C.l = .here (j + 1 + 1) from by simp [St.name, h1]] at R9
            have hkl : j + 1 + 1 < C.l.length := R9.lt
            rw [R9.left_at]; omega
    | false =>
      go_wp2_with fail
      refine (rpass_any C _ 0 _ Rr T kOp _ tComma (Or.inr ⟨by decide, rfl⟩) (by rw [ByteArray.toList_eq]; rfl) (by decide)).mono ?_
      rintro e w5 ⟨rfl, R5, hm5⟩
      rw [pass_other hc] at R5
      simp only [hc]
      go_wp2_with fail
      refine (rwant_any C _ 0 _ R5 T kOp _ tShut (Or.inr ⟨by decide, rfl⟩) (by rw [ByteArray.toList_eq]; rfl) (by decide)).mono ?_
      rintro e w6 ⟨rfl, R6, hm6⟩
      go_wp2_with fail
      refine (rwant_any C _ 0 _ R6 T kOp _ tEq (Or.inr ⟨by decide, rfl⟩) (by rw [ByteArray.toList_eq]; rfl) (by decide)).mono ?_
      rintro e w8 ⟨rfl, R8, hm8⟩
      have hmm : Mv C.b wr w8 := (hm5.trans hm6).trans hm8
      have hs8 := hmm.size
      have hM8 : Mv C.b w w8 := hmr.trans hmm
      have HZ : Hid _ := hmm.row (k := w.heap.size) (by omega) HZr.out
      have HQ : Hid _ := hmm.row (k := w.heap.size + 1) (by omega) HQr.out
      have HEP : Hid _ := HN.out.done g0 g3 hc
      have HRN : Hid _ := (RowAt.of_owns HO.out).keep (Stays.mv (S' := From (w.heap.size + 1 + 1)) hmm (fun k hk => by unfold From at hk ⊢; exact ⟨by omega, hk⟩))
      clear hm5 hm6 hm8 R5 R6
      have d2 := R8.c2
      have fd2 := R8.fz 2
      have HR2 : Hid (QS C ((st'.want C.l tShut).want C.l tEq) 0 (w8.setCell ⟨C.b, 2, none⟩ (.int .i64 0))) := R8.set2 rfl (by omega) (fun _ => by omega)
      have hMs : Mv C.b w (w8.setCell ⟨C.b, 2, none⟩ (.int .i64 0)) := (hM8).trans (Mv.setAt _ _ _ _)
      have hMt : Mv C.b w8 (w8.setCell ⟨C.b, 2, none⟩ (.int .i64 0)) := Mv.setAt _ _ _ _
      have hs2 : w.heap.size + 1 + 1 ≤ (w8.setCell ⟨C.b, 2, none⟩ (.int .i64 0)).heap.size := by simp; omega
      go_wp2_with fail
      refine (rterm_any C.l.length C _ 0 _ T HR2.out (fun _ => Nat.sub_le _ _)).mono ?_
      rintro e w5 ⟨hm5, st5, v5, rfl, R5, hq5⟩
      obtain ⟨op, x, s, so', m', sc', rfl⟩ := hq5.shape
      have HQ5 : Hid _ := hq5
      clear hq5
      have hs5 := hm5.size
      have hq := hm5.row (k := w.heap.size + 1) (by omega) (hMt.row (k := w.heap.size + 1) (by omega) HQ.out)
      have hz := hm5.row (k := w.heap.size) (by omega) (hMt.row (k := w.heap.size) (by omega) HZ.out)
      obtain ⟨a0, a1, a2, a3, a4, a5, af⟩ := blk6 hq
      have af2 := af 2
      have af3 := af 3
      have af4 := af 4
      have af5 := af 5
      have hBq : Below w.heap.size w5 (setL w5 (w.heap.size + 1) 2 [.string op, .int .i64 x, .string s, .slice so' m' sc']) := setL_below (by omega) _ _ _
      have HQ6 : Hid ((setL w5 (w.heap.size + 1) 2 [.string op, .int .i64 x, .string s, .slice so' m' sc']).heap[w.heap.size + 1]? = some (.cells #[.string sSet, .slice so m sc, .string op, .int .i64 x, .string s, .slice so' m' sc'] 96 (0, 0))) := set_row (set_row (set_row (set_row hq)))
      have HZ6 : Hid _ := (setL_block (N := w.heap.size + 1) (k := w.heap.size) (by omega) [.string op, .int .i64 x, .string s, .slice so' m' sc'] 2 w5).trans hz
      clear hq hz af
      have R5' : QS C st5 0 (setL w5 (w.heap.size + 1) 2 [.string op, .int .i64 x, .string s, .slice so' m' sc']) := R0.upon R5 hBq
      go_wp2_with fail
      refine (rwant_any C st5 0 _ R5' T kOp _ tSemi (Or.inr ⟨by decide, rfl⟩) (by rw [ByteArray.toList_eq]; rfl) (by decide)).mono ?_
      rintro e w6 ⟨rfl, R6, hm6⟩
      have hs6 := hm6.size
      rw [setL_size] at hs6
      obtain ⟨b0', b1, b2, b3, b4, b5, _⟩ := blk6 (hm6.row (k := w.heap.size + 1) (by omega) HQ6.out)
      obtain ⟨z0, z1, z2, z3, z4, z5, zf⟩ := blk6 (hm6.row (k := w.heap.size) (by omega) HZ6.out)
      have zf0 := zf 0
      have zf1 := zf 1
      have zf2 := zf 2
      have zf3 := zf 3
      have zf4 := zf 4
      have zf5 := zf 5
      go_wp2
      have hBz : Below w.heap.size w6 (setL w6 w.heap.size 0 [.string sSet, .slice so m sc, .string op, .int .i64 x, .string s, .slice so' m' sc']) := setL_below (Nat.le_refl _) _ _ _
      have hM7 : Mv C.b w (setL w6 w.heap.size 0 [.string sSet, .slice so m sc, .string op, .int .i64 x, .string s, .slice so' m' sc']) := ((((hMs.trans hm5).upon hBq).trans hm6)).upon hBz
      have Sq : ∀ {b : Nat}, w.heap.size + 1 + 1 ≤ b → Stays (From b) (From w.heap.size) w5 (setL w6 w.heap.size 0 [.string sSet, .slice so m sc, .string op, .int .i64 x, .string s, .slice so' m' sc']) := fun {b} hb => ((setL_stays (S' := From (w.heap.size + 1 + 1)) (fun k hk => by unfold From at hk ⊢; exact ⟨by omega, by omega⟩) _ _ _).trans (Stays.mv (S' := From (w.heap.size + 1 + 1)) hm6 (fun k hk => by unfold From at hk ⊢; exact ⟨by omega, by omega⟩)) (by rw [setL_size]; exact Nat.le_refl _)).trans (setL_stays (S' := From w.heap.size) (fun k hk => by unfold From at hk ⊢; exact ⟨by omega, by omega⟩) _ _ _) hs6
      have Sn : Stays (From (w.heap.size + 1 + 1)) (From w.heap.size) w8 (setL w6 w.heap.size 0 [.string sSet, .slice so m sc, .string op, .int .i64 x, .string s, .slice so' m' sc']) := ((Stays.mv (S' := From (w.heap.size + 1 + 1)) hMt (fun k hk => by unfold From at hk ⊢; exact ⟨by omega, hk⟩)).trans (Stays.mv (S' := From (w.heap.size + 1 + 1)) hm5 (fun k hk => by unfold From at hk ⊢; exact ⟨by omega, hk⟩)) (by simp)).trans (Sq (Nat.le_refl _)) (by simpa using hs5)
      exact bodyPost_ret (v := .agg #[.string sSet, .slice so m sc, .string op, .int .i64 x, .string s, .slice so' m' sc']) (by simp [results, Tryz.results38, go_sem, z0, z1, z2, z3, z4, z5]) rfl ⟨hM7, _, _, rfl, R0.upon R6 hBz, HEP.out.done HQ5.out (Sq hs2) (fun h => by obtain ⟨e1, e2⟩ := HE.out (want_isAt (want_isAt h)); exact ⟨e1, by rw [← e2]; exact RowAt.keep HRN.out Sn⟩)⟩

theorem requation_any (C : Qc) (st : St) (w : World) (T : Tkl C.l) (R : QS C st 0 w) :
    Calls Tryz.prog 38 #[.pointer (some ⟨C.b, 0, none⟩)] w fun e w' => Mv C.b w w' ∧ ∃ st' v, e = .returned v ∧ QS C st' 0 w' ∧ ERel C.l w.heap.size w' st st' v := by
  cases g1 : st.tx C.l tAssert with
  | true =>
    cases st with
    | bad j bd => cases g1
    | here i => exact requation_assert C i w T R g1
  | false =>
    cases g2 : st.tx C.l tCheck with
    | true =>
      cases st with
      | bad j bd => cases g2
      | here i => exact requation_check C i w T R g1 g2
    | false =>
      cases g3 : st.tx C.l tOpen with
      | true =>
        cases st with
        | bad j bd => cases g3
        | here i => exact requation_names C i w T R g1 g2 g3
      | false => exact requation_one C st w T R g1 g2 g3
end Go.Proofs.YtomgimfmcfjhdaaGreatDoor
